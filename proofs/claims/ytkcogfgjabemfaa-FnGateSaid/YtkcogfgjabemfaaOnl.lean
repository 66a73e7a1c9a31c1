/- Which blocks a world's change touches; marks laid in a host and in data touch their own alone. -/
import Derived.Test.YtkcogfgjabemfaaHoB
namespace Go.Proofs.Ytkcogfgjabemfaa
open Go.RowKit
set_option linter.unusedVariables false
set_option linter.unusedSimpArgs false

/-- Blocks that were there turn in this set alone. -/
structure Only (S : Nat → Prop) (w w' : World) : Prop where
  os : w'.os = w.os
  tape : w'.tape = w.tape
  output : w'.output = w.output
  size : w.heap.size ≤ w'.heap.size
  block : ∀ k, k < w.heap.size → ¬ S k → w'.heap[k]? = w.heap[k]?

theorem below_only {S : Nat → Prop} {w w' : World} (h : Below w.heap.size w w') : Only S w w' := ⟨h.os, h.tape, h.output, h.size, fun k hk _ => h.block k hk⟩

theorem only_trans {S : Nat → Prop} {a b c : World} (h : Only S a b) (k : Only S b c) : Only S a c :=
  ⟨k.os.trans h.os, k.tape.trans h.tape, k.output.trans h.output, Nat.le_trans h.size k.size, fun i hi' ho => (k.block i (Nat.lt_of_lt_of_le hi' h.size) ho).trans (h.block i hi' ho)⟩

theorem only_grown {S : Nat → Prop} {w w' : World} {r : Option Nat} (h : w.grownBy w' r) (hr : ∀ g, r = some g → S g) : Only S w w' :=
  ⟨h.os, h.tape, h.output, h.size, fun k hk ho => h.block k hk (fun e => ho (hr k e.symm))⟩

theorem only_mono {S T : Nat → Prop} {w w' : World} (h : Only S w w') (hs : ∀ k, S k → T k) : Only T w w' := ⟨h.os, h.tape, h.output, h.size, fun k hk ho => h.block k hk (fun q => ho (hs k q))⟩

theorem only_below {S : Nat → Prop} {w w' : World} {lo : Nat} (h : Only S w w') (hl : lo ≤ w.heap.size) (hs : ∀ k, S k → lo ≤ k) : Below lo w w' :=
  ⟨h.os, h.tape, h.output, h.size, fun k hk => h.block k (by omega) (fun q => by have := hs k q; omega)⟩

theorem only_within {S : Nat → Prop} {w w' : World} {lo hi : Nat} (h : Only S w w') (hs : ∀ k, S k → lo ≤ k ∧ k < hi) : Within lo hi w w' :=
  ⟨h.os, h.tape, h.output, h.size, fun k hk ho => h.block k hk (fun q => by have := hs k q; omega)⟩

/-- The block is that of one of the value's slices. -/
def Mine (v : Value) (g : Nat) : Prop := ∃ cs, v = .agg cs ∧ ∃ x ∈ cs.toList, x.ownBlock = some g

theorem mine_agg {l : List Value} {g : Nat} : Mine (.agg l.toArray) g ↔ ∃ x ∈ l, x.ownBlock = some g := by
  constructor
  · rintro ⟨cs, h, x, hx, e⟩
    injection h with h
    subst h
    exact ⟨x, by simpa using hx, e⟩
  · rintro ⟨x, hx, e⟩
    exact ⟨_, rfl, x, by simpa using hx, e⟩

theorem hostOf_mine {w : World} {lo hi : Nat} {v : Value} {h : Ht} (H : HostOf w lo hi v h) {g : Nat} (hg : Mine v g) : lo ≤ g ∧ g < hi := by
  obtain ⟨x, y, z, q, rfl, h1, h2, h3, h4, _, _, _, _, _, _, hh⟩ := H
  obtain ⟨u, hu, e⟩ := mine_agg.1 hg
  simp only [List.mem_cons, List.not_mem_nil, or_false] at hu
  rcases hu with rfl | rfl | rfl | rfl | rfl
  · exact ⟨(borow_lt h1 g e).1, hh g (.inl e)⟩
  · exact ⟨(row_lt h2 g e).1, hh g (.inr (.inl e))⟩
  · exact ⟨(row_lt h3 g e).1, hh g (.inr (.inr (.inl e)))⟩
  · simp [Value.ownBlock] at e
  · exact ⟨(drow_lt h4 g e).1, hh g (.inr (.inr (.inr e)))⟩

theorem datOf_mine {w : World} {lo hi : Nat} {v : Value} {d : Dt} (H : DatOf w lo hi v d) {g : Nat} (hg : Mine v g) : lo ≤ g ∧ g < hi := by
  obtain ⟨x, y, z, rfl, h1, h2, h3, _, _, _, _, hh⟩ := H
  obtain ⟨u, hu, e⟩ := mine_agg.1 hg
  simp only [List.mem_cons, List.not_mem_nil, or_false] at hu
  rcases hu with rfl | rfl | rfl | rfl | rfl | rfl
  · exact ⟨(row_lt h1 g e).1, hh g (.inl e)⟩
  · exact ⟨(row_lt h2 g e).1, hh g (.inr (.inl e))⟩
  · exact ⟨(row_lt h3 g e).1, hh g (.inr (.inr e))⟩
  · simp [Value.ownBlock] at e
  · simp [Value.ownBlock] at e
  · simp [Value.ownBlock] at e

theorem hostOf_only {S : Nat → Prop} {w w' : World} {lo hi : Nat} {v : Value} {h : Ht} (H : HostOf w lo hi v h) (hb : Only S w w') (hs : ∀ g, Mine v g → ¬ S g) : HostOf w' lo hi v h := by
  obtain ⟨x, y, z, q, rfl, h1, h2, h3, h4, p1, p2, p3, p4, p5, p6, hh⟩ := H
  have hm : ∀ u ∈ [x, y, z, .int .i64 h.c, q], ∀ g, u.ownBlock = some g → ¬ S g := fun u hu g e => hs g (mine_agg.2 ⟨u, hu, e⟩)
  exact ⟨x, y, z, q, rfl, borow_keep h1 fun g hg => hb.block g (borow_lt h1 g hg).2 (hm x (by simp) g hg), row_keep h2 fun g hg => hb.block g (row_lt h2 g hg).2 (hm y (by simp) g hg),
    row_keep h3 fun g hg => hb.block g (row_lt h3 g hg).2 (hm z (by simp) g hg), drow_keep h4 fun g hg => hb.block g (drow_lt h4 g hg).2 (hm q (by simp) g hg), p1, p2, p3, p4, p5, p6, hh⟩

theorem datOf_only {S : Nat → Prop} {w w' : World} {lo hi : Nat} {v : Value} {d : Dt} (H : DatOf w lo hi v d) (hb : Only S w w') (hs : ∀ g, Mine v g → ¬ S g) : DatOf w' lo hi v d := by
  obtain ⟨x, y, z, rfl, h1, h2, h3, h4, p1, p2, p3, hh⟩ := H
  have hm : ∀ u ∈ [x, y, z, .int .i64 d.h, .int .i64 d.n, .string d.o], ∀ g, u.ownBlock = some g → ¬ S g := fun u hu g e => hs g (mine_agg.2 ⟨u, hu, e⟩)
  exact ⟨x, y, z, rfl, row_keep h1 fun g hg => hb.block g (row_lt h1 g hg).2 (hm x (by simp) g hg), row_keep h2 fun g hg => hb.block g (row_lt h2 g hg).2 (hm y (by simp) g hg),
    row_keep h3 fun g hg => hb.block g (row_lt h3 g hg).2 (hm z (by simp) g hg), h4, p1, p2, p3, hh⟩

end Go.Proofs.Ytkcogfgjabemfaa
