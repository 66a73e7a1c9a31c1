/- Which blocks a world's change touches; marks laid in a host and in data touch their own alone. -/
import Derived.Test.YtjlfbmplmddceaaHoB
namespace Go.Proofs.Ytjlfbmplmddceaa
open Go.RowKit
set_option linter.unusedVariables false
set_option linter.unusedSimpArgs false

/-- Blocks that were there turn in this set alone. -/
structure Only (S : Nat → Prop) (w w' : World) : Prop where
  os : w'.os = w.os
  tape : w'.tape = w.tape
  output : w'.output = w.output
  size : w.heap.size ≤ w'.heap.size
  block : ∀ k, k < w.heap.size → ¬ S k → w'.heap[k]? = w.heap[k]?

theorem below_only {S : Nat → Prop} {w w' : World} (h : Below w.heap.size w w') : Only S w w' := ⟨h.os, h.tape, h.output, h.size, fun k hk _ => h.block k hk⟩

theorem only_trans {S : Nat → Prop} {a b c : World} (h : Only S a b) (k : Only S b c) : Only S a c :=
  ⟨k.os.trans h.os, k.tape.trans h.tape, k.output.trans h.output, Nat.le_trans h.size k.size, fun i hi' ho => (k.block i (Nat.lt_of_lt_of_le hi' h.size) ho).trans (h.block i hi' ho)⟩

theorem only_grown {S : Nat → Prop} {w w' : World} {r : Option Nat} (h : w.grownBy w' r) (hr : ∀ g, r = some g → S g) : Only S w w' :=
  ⟨h.os, h.tape, h.output, h.size, fun k hk ho => h.block k hk (fun e => ho (hr k e.symm))⟩

theorem only_mono {S T : Nat → Prop} {w w' : World} (h : Only S w w') (hs : ∀ k, S k → T k) : Only T w w' := ⟨h.os, h.tape, h.output, h.size, fun k hk ho => h.block k hk (fun q => ho (hs k q))⟩

theorem only_below {S : Nat → Prop} {w w' : World} {lo : Nat} (h : Only S w w') (hl : lo ≤ w.heap.size) (hs : ∀ k, S k → lo ≤ k) : Below lo w w' :=
  ⟨h.os, h.tape, h.output, h.size, fun k hk => h.block k (by omega) (fun q => by have := hs k q; omega)⟩

theorem only_within {S : Nat → Prop} {w w' : World} {lo hi : Nat} (h : Only S w w') (hs : ∀ k, S k → lo ≤ k ∧ k < hi) : Within lo hi w w' :=
  ⟨h.os, h.tape, h.output, h.size, fun k hk ho => h.block k hk (fun q => by have := hs k q; omega)⟩

/-- The block is that of one of the value's slices. -/
def Mine (v : Value) (g : Nat) : Prop := ∃ cs, v = .agg cs ∧ ∃ x ∈ cs.toList, x.ownBlock = some g

theorem mine_agg {l : List Value} {g : Nat} : Mine (.agg l.toArray) g ↔ ∃ x ∈ l, x.ownBlock = some g := by
  constructor
  · rintro ⟨cs, h, x, hx, e⟩
    injection h with h
    subst h
    exact ⟨x, by simpa using hx, e⟩
  · rintro ⟨x, hx, e⟩
    exact ⟨_, rfl, x, by simpa using hx, e⟩

theorem hostOf_mine {w : World} {lo hi : Nat} {v : Value} {h : Ht} (H : HostOf w lo hi v h) {g : Nat} (hg : Mine v g) : lo ≤ g ∧ g < hi := by
  obtain ⟨x, y, z, q, rfl, h1, h2, h3, h4, _, _, _, _, _, _, hh⟩ := H
  obtain ⟨u, hu, e⟩ := mine_agg.1 hg
  simp only [List.mem_cons, List.not_mem_nil, or_false] at hu
  rcases hu with rfl | rfl | rfl | rfl | rfl
  · exact ⟨(borow_lt h1 g e).1, hh g (.inl e)⟩
  · exact ⟨(row_lt h2 g e).1, hh g (.inr (.inl e))⟩
  · exact ⟨(row_lt h3 g e).1, hh g (.inr (.inr (.inl e)))⟩
  · simp [Value.ownBlock] at e
  · exact ⟨(drow_lt h4 g e).1, hh g (.inr (.inr (.inr e)))⟩

theorem datOf_mine {w : World} {lo hi : Nat} {v : Value} {d : Dt} (H : DatOf w lo hi v d) {g : Nat} (hg : Mine v g) : lo ≤ g ∧ g < hi := by
  obtain ⟨x, y, z, rfl, h1, h2, h3, _, _, _, _, hh⟩ := H
  obtain ⟨u, hu, e⟩ := mine_agg.1 hg
  simp only [List.mem_cons, List.not_mem_nil, or_false] at hu
  rcases hu with rfl | rfl | rfl | rfl | rfl | rfl
  · exact ⟨(row_lt h1 g e).1, hh g (.inl e)⟩
  · exact ⟨(row_lt h2 g e).1, hh g (.inr (.inl e))⟩
  · exact ⟨(row_lt h3 g e).1, hh g (.inr (.inr e))⟩
  · simp [Value.ownBlock] at e
  · simp [Value.ownBlock] at e
  · simp [Value.ownBlock] at e

theorem hostOf_only {S : Nat → Prop} {w w' : World} {lo hi : Nat} {v : Value} {h : Ht} (H : HostOf w lo hi v h) (hb : Only S w w') (hs : ∀ g, Mine v g → ¬ S g) : HostOf w' lo hi v h := by
  obtain ⟨x, y, z, q, rfl, h1, h2, h3, h4, p1, p2, p3, p4, p5, p6, hh⟩ := H
  have hm : ∀ u ∈ [x, y, z, .int .i64 h.c, q], ∀ g, u.ownBlock = some g → ¬ S g := fun u hu g e => hs g (mine_agg.2 ⟨u, hu, e⟩)
  exact ⟨x, y, z, q, rfl, borow_keep h1 fun g hg => hb.block g (borow_lt h1 g hg).2 (hm x (by simp) g hg), row_keep h2 fun g hg => hb.block g (row_lt h2 g hg).2 (hm y (by simp) g hg),
    row_keep h3 fun g hg => hb.block g (row_lt h3 g hg).2 (hm z (by simp) g hg), drow_keep h4 fun g hg => hb.block g (drow_lt h4 g hg).2 (hm q (by simp) g hg), p1, p2, p3, p4, p5, p6, hh⟩

theorem datOf_only {S : Nat → Prop} {w w' : World} {lo hi : Nat} {v : Value} {d : Dt} (H : DatOf w lo hi v d) (hb : Only S w w') (hs : ∀ g, Mine v g → ¬ S g) : DatOf w' lo hi v d := by
  obtain ⟨x, y, z, rfl, h1, h2, h3, h4, p1, p2, p3, hh⟩ := H
  have hm : ∀ u ∈ [x, y, z, .int .i64 d.h, .int .i64 d.n, .string d.o], ∀ g, u.ownBlock = some g → ¬ S g := fun u hu g e => hs g (mine_agg.2 ⟨u, hu, e⟩)
  exact ⟨x, y, z, rfl, row_keep h1 fun g hg => hb.block g (row_lt h1 g hg).2 (hm x (by simp) g hg), row_keep h2 fun g hg => hb.block g (row_lt h2 g hg).2 (hm y (by simp) g hg),
    row_keep h3 fun g hg => hb.block g (row_lt h3 g hg).2 (hm z (by simp) g hg), h4, p1, p2, p3, hh⟩

set_option maxRecDepth 100000 in
set_option maxHeartbeats 4000000 in
theorem markHost_only (v : Value) (h : Ht) (lo hi K : Nat) (w : World) (hv : HostOf w lo hi v h) (hs : SmallH h) (hK : K ≤ 8388608) (hh : hi ≤ w.heap.size) :
    Calls Try.prog 14 #[v, .int .i64 K] w fun e w' => e = .returned (.int .i64 ((K + numH h : Nat) : Int)) ∧ HostOf w' lo hi v (markH K h) ∧ Only (Mine v) w w' := by
  obtain ⟨x, y, z, q, rfl, hx, hy, hz, hq, p1, p2, p3, p4, p5, p6, ph⟩ := hv
  obtain ⟨s1, s2, s3, s4⟩ := hs
  have GX : Hid (∀ g, x.ownBlock = some g → lo ≤ g ∧ g < hi) := Lib.hid fun g hg => ⟨(borow_lt hx g hg).1, ph g (.inl hg)⟩
  have GY : Hid (∀ g, y.ownBlock = some g → lo ≤ g ∧ g < hi) := Lib.hid fun g hg => ⟨(row_lt hy g hg).1, ph g (.inr (.inl hg))⟩
  have GZ : Hid (∀ g, z.ownBlock = some g → lo ≤ g ∧ g < hi) := Lib.hid fun g hg => ⟨(row_lt hz g hg).1, ph g (.inr (.inr (.inl hg)))⟩
  have GQ : Hid (∀ g, q.ownBlock = some g → lo ≤ g ∧ g < hi) := Lib.hid fun g hg => ⟨(drow_lt hq g hg).1, ph g (.inr (.inr (.inr hg)))⟩
  have P1 := Lib.hid p1
  have P2 := Lib.hid p2
  have P3 := Lib.hid p3
  have P4 := Lib.hid p4
  have P5 := Lib.hid p5
  have P6 := Lib.hid p6
  have PH := Lib.hid ph
  have MX := Lib.hid (fun g (e : x.ownBlock = some g) => (mine_agg (l := [x, y, z, .int .i64 h.c, q])).2 ⟨x, by simp, e⟩)
  have MY := Lib.hid (fun g (e : y.ownBlock = some g) => (mine_agg (l := [x, y, z, .int .i64 h.c, q])).2 ⟨y, by simp, e⟩)
  have MZ := Lib.hid (fun g (e : z.ownBlock = some g) => (mine_agg (l := [x, y, z, .int .i64 h.c, q])).2 ⟨z, by simp, e⟩)
  have MQ := Lib.hid (fun g (e : q.ownBlock = some g) => (mine_agg (l := [x, y, z, .int .i64 h.c, q])).2 ⟨q, by simp, e⟩)
  generalize hS : Mine (.agg [x, y, z, .int .i64 h.c, q].toArray) = S at MX MY MZ MQ
  have HS := Lib.hid hS
  have W0 : Hid (∀ o : Obj, Only S w (w.alloc o)) := Lib.hid fun o => below_only (below_alloc (Below.refl _ _) o)
  clear hS
  obtain ⟨_, A1, k1, rfl, _⟩ := borow_bols hx
  obtain ⟨_, A2, k2, rfl, _⟩ := row_ints hy
  obtain ⟨_, A3, k3, rfl, _⟩ := row_ints hz
  obtain ⟨_, A4, k4, rfl, _⟩ := drow_dds hq
  have HX := Lib.hid hx
  have HY := Lib.hid hy
  have HZ := Lib.hid hz
  have HQ := Lib.hid hq
  clear hx hy hz hq p1 p2 p3 p4 p5 p6 ph
  go_enter Try.func14, Try.ntmps14
  go_wp2_with fail
  have WB0 := Lib.hid (whole_new w 33 #[.slice A1 h.g.length k1, .slice A2 h.s.length k2, .slice A3 h.n.length k3, .int .i64 h.c, .slice A4 h.d.length k4])
  refine (markBools_any _ lo (K) h.g _ (borow_alloc HX.out _) (by omega) (by omega)).mono ?_
  rintro e w1 ⟨rfl, hr1, hg1⟩
  have hne : some w.heap.size ≠ (Value.slice A1 h.g.length k1).ownBlock := fun e => by have := GX.out _ e.symm; omega
  have WB1 := Lib.hid (whole_keep WB0.out (hg1.block _ (by simp) hne))
  have N1 := Lib.hid (only_trans (W0.out _) (only_grown hg1 MX.out))
  have X1 := Lib.hid hr1
  have Y1 := Lib.hid (row_mark (row_alloc HY.out _) hg1 (parted_sym P1.out))
  have Z1 := Lib.hid (row_mark (row_alloc HZ.out _) hg1 (parted_sym P2.out))
  have Q1 := Lib.hid (drow_mark (drow_alloc HQ.out _) hg1 (parted_sym P3.out))
  have b1 := whole_cell WB1.out 1
  simp at b1
  clear hr1 hg1 hne
  go_wp2_with fail
  rw [show ((K : Int) + h.g.length) = ((K + h.g.length : Nat) : Int) by omega]
  refine (markInts_any _ lo (K + h.g.length) h.s _ Y1.out (by omega) (by omega)).mono ?_
  rintro e w2 ⟨rfl, hr2, hg2⟩
  have hne : some w.heap.size ≠ (Value.slice A2 h.s.length k2).ownBlock := fun e => by have := GY.out _ e.symm; omega
  have WB2 := Lib.hid (whole_keep WB1.out (hg2.block _ (whole_lt WB1.out) hne))
  have N2 := Lib.hid (only_trans N1.out (only_grown hg2 MY.out))
  have Y2 := Lib.hid hr2
  have X2 := Lib.hid (borow_keep X1.out fun g hv => hg2.block g (borow_lt X1.out g hv).2 (fun e => P1.out g hv e.symm))
  have Z2 := Lib.hid (row_mark Z1.out hg2 (parted_sym P4.out))
  have Q2 := Lib.hid (drow_mark Q1.out hg2 (parted_sym P5.out))
  have b2 := whole_cell WB2.out 2
  simp at b2
  clear hr2 hg2 hne b1
  go_wp2_with fail
  rw [show ((K : Int) + h.g.length + h.s.length) = ((K + h.g.length + h.s.length : Nat) : Int) by omega]
  refine (markInts_any _ lo (K + h.g.length + h.s.length) h.n _ Z2.out (by omega) (by omega)).mono ?_
  rintro e w3 ⟨rfl, hr3, hg3⟩
  have hne : some w.heap.size ≠ (Value.slice A3 h.n.length k3).ownBlock := fun e => by have := GZ.out _ e.symm; omega
  have WB3 := Lib.hid (whole_keep WB2.out (hg3.block _ (whole_lt WB2.out) hne))
  have N3 := Lib.hid (only_trans N2.out (only_grown hg3 MZ.out))
  have Z3 := Lib.hid hr3
  have X3 := Lib.hid (borow_keep X2.out fun g hv => hg3.block g (borow_lt X2.out g hv).2 (fun e => P2.out g hv e.symm))
  have Y3 := Lib.hid (row_keep Y2.out fun g hv => hg3.block g (row_lt Y2.out g hv).2 (fun e => P4.out g hv e.symm))
  have Q3 := Lib.hid (drow_mark Q2.out hg3 (parted_sym P6.out))
  have b3 := whole_cell WB3.out 4
  simp at b3
  clear hr3 hg3 hne b2
  go_wp2_with fail
  rw [show ((K : Int) + h.g.length + h.s.length + h.n.length) = ((K + h.g.length + h.s.length + h.n.length : Nat) : Int) by omega]
  refine (markDeeds_any _ lo (K + h.g.length + h.s.length + h.n.length) h.d _ Q3.out (by omega) (by omega)).mono ?_
  rintro e w4 ⟨rfl, hr4, hg4⟩
  have hne : some w.heap.size ≠ (Value.slice A4 h.d.length k4).ownBlock := fun e => by have := GQ.out _ e.symm; omega
  have WB4 := Lib.hid (whole_keep WB3.out (hg4.block _ (whole_lt WB3.out) hne))
  have N4 := Lib.hid (only_trans N3.out (only_grown hg4 MQ.out))
  have Q4 := Lib.hid hr4
  have X4 := Lib.hid (borow_keep X3.out fun g hv => hg4.block g (borow_lt X3.out g hv).2 (fun e => P3.out g hv e.symm))
  have Y4 := Lib.hid (row_keep Y3.out fun g hv => hg4.block g (row_lt Y3.out g hv).2 (fun e => P5.out g hv e.symm))
  have Z4 := Lib.hid (row_keep Z3.out fun g hv => hg4.block g (row_lt Z3.out g hv).2 (fun e => P6.out g hv e.symm))
  clear hr4 hg4 hne b3
  go_wp2
  go_ret
  exact ⟨ret_int (by unfold numH; omega), ⟨_, _, _, _, by simp [markH, marksB_len, marksI_len, marksD_len], X4.out, Y4.out, Z4.out, Q4.out, P1.out, P2.out, P3.out, P4.out, P5.out, P6.out, PH.out⟩, N4.out⟩

set_option maxRecDepth 100000 in
set_option maxHeartbeats 2000000 in
theorem markData_only (v : Value) (d : Dt) (lo hi K : Nat) (w : World) (hv : DatOf w lo hi v d) (hs : SmallD d) (hK : K ≤ 8388608) (hh : hi ≤ w.heap.size) :
    Calls Try.prog 15 #[v, .int .i64 K] w fun e w' => e = .returned (.int .i64 ((K + numD d : Nat) : Int)) ∧ DatOf w' lo hi v (markD K d) ∧ Only (Mine v) w w' := by
  obtain ⟨x, y, z, rfl, hx, hy, hz, lo', p1, p2, p3, ph⟩ := hv
  obtain ⟨s1, s2, s3, s4⟩ := hs
  have lx := ph
  have GX : Hid (∀ g, x.ownBlock = some g → lo ≤ g ∧ g < hi) := Lib.hid fun g hg => ⟨(row_lt hx g hg).1, ph g (.inl hg)⟩
  have GY : Hid (∀ g, y.ownBlock = some g → lo ≤ g ∧ g < hi) := Lib.hid fun g hg => ⟨(row_lt hy g hg).1, ph g (.inr (.inl hg))⟩
  have GZ : Hid (∀ g, z.ownBlock = some g → lo ≤ g ∧ g < hi) := Lib.hid fun g hg => ⟨(row_lt hz g hg).1, ph g (.inr (.inr hg))⟩
  have P1 := Lib.hid p1
  have P2 := Lib.hid p2
  have P3 := Lib.hid p3
  have PH := Lib.hid ph
  have L := Lib.hid lo'
  have MX := Lib.hid (fun g (e : x.ownBlock = some g) => (mine_agg (l := [x, y, z, .int .i64 d.h, .int .i64 d.n, .string d.o])).2 ⟨x, by simp, e⟩)
  have MY := Lib.hid (fun g (e : y.ownBlock = some g) => (mine_agg (l := [x, y, z, .int .i64 d.h, .int .i64 d.n, .string d.o])).2 ⟨y, by simp, e⟩)
  have MZ := Lib.hid (fun g (e : z.ownBlock = some g) => (mine_agg (l := [x, y, z, .int .i64 d.h, .int .i64 d.n, .string d.o])).2 ⟨z, by simp, e⟩)
  generalize hS : Mine (.agg [x, y, z, .int .i64 d.h, .int .i64 d.n, .string d.o].toArray) = S at MX MY MZ
  have HS := Lib.hid hS
  have W0 : Hid (∀ o : Obj, Only S w (w.alloc o)) := Lib.hid fun o => below_only (below_alloc (Below.refl _ _) o)
  clear hS
  obtain ⟨_, A1, k1, rfl, _⟩ := row_ints hx
  obtain ⟨_, A2, k2, rfl, _⟩ := row_ints hy
  obtain ⟨_, A3, k3, rfl, _⟩ := row_ints hz
  have HX := Lib.hid hx
  have HY := Lib.hid hy
  have HZ := Lib.hid hz
  clear hx hy hz lo' p1 p2 p3 ph lx
  go_enter Try.func15, Try.ntmps15
  go_wp2_with fail
  have WB := Lib.hid (whole_new w 34 #[.slice A1 d.s.length k1, .slice A2 d.b.length k2, .slice A3 d.c.length k3, .int .i64 d.h, .int .i64 d.n, .string d.o])
  refine (markInts_any _ lo K d.s _ (row_alloc HX.out _) (by omega) (by omega)).mono ?_
  rintro e w1 ⟨rfl, hr1, hg1⟩
  have hne : some w.heap.size ≠ (Value.slice A1 d.s.length k1).ownBlock := fun e => by have := GX.out _ e.symm; omega
  have WB1 := Lib.hid (whole_keep WB.out (hg1.block _ (by simp) hne))
  have N1 := Lib.hid (only_trans (W0.out _) (only_grown hg1 MX.out))
  have X1 := Lib.hid hr1
  have Y1 := Lib.hid (row_mark (row_alloc HY.out _) hg1 (parted_sym P1.out))
  have Z1 := Lib.hid (row_mark (row_alloc HZ.out _) hg1 (parted_sym P2.out))
  have b1 := whole_cell WB1.out 1
  simp at b1
  clear hr1 hg1 hne
  go_wp2_with fail
  rw [show ((K : Int) + d.s.length) = ((K + d.s.length : Nat) : Int) by omega]
  refine (markInts_any _ lo (K + d.s.length) d.b _ Y1.out (by omega) (by omega)).mono ?_
  rintro e w2 ⟨rfl, hr2, hg2⟩
  have hne : some w.heap.size ≠ (Value.slice A2 d.b.length k2).ownBlock := fun e => by have := GY.out _ e.symm; omega
  have WB2 := Lib.hid (whole_keep WB1.out (hg2.block _ (whole_lt WB1.out) hne))
  have N2 := Lib.hid (only_trans N1.out (only_grown hg2 MY.out))
  have Y2 := Lib.hid hr2
  have X2 := Lib.hid (row_keep X1.out fun g hv => hg2.block g (row_lt X1.out g hv).2 (fun e => P1.out g hv e.symm))
  have Z2 := Lib.hid (row_mark Z1.out hg2 (parted_sym P3.out))
  have b2 := whole_cell WB2.out 2
  simp at b2
  clear hr2 hg2 hne b1
  go_wp2_with fail
  rw [show ((K : Int) + d.s.length + d.b.length) = ((K + d.s.length + d.b.length : Nat) : Int) by omega]
  refine (markInts_any _ lo (K + d.s.length + d.b.length) d.c _ Z2.out (by omega) (by omega)).mono ?_
  rintro e w3 ⟨rfl, hr3, hg3⟩
  have N3 := Lib.hid (only_trans N2.out (only_grown hg3 MZ.out))
  have Z3 := Lib.hid hr3
  have X3 := Lib.hid (row_keep X2.out fun g hv => hg3.block g (row_lt X2.out g hv).2 (fun e => P2.out g hv e.symm))
  have Y3 := Lib.hid (row_keep Y2.out fun g hv => hg3.block g (row_lt Y2.out g hv).2 (fun e => P3.out g hv e.symm))
  clear hr3 hg3 b2
  go_wp2
  go_ret
  refine ⟨ret_int (by unfold numD; omega), ⟨_, _, _, rfl, X3.out, Y3.out, Z3.out, L.out, P1.out, P2.out, P3.out, PH.out⟩, N3.out⟩

set_option maxRecDepth 100000 in
set_option maxHeartbeats 2000000 in
theorem heldData_wide (v : Value) (d : Dt) (K : Nat) (w : World) (hv : DatIn w v (markD K d)) (hs : SmallD d) (hK : K ≤ 8388608) :
    Calls Try.prog 17 #[v, .int .i64 K] w fun e w' => e = .returned (.int .i64 ((K + numD d : Nat) : Int)) ∧ Below w.heap.size w w' := by
  obtain ⟨x, y, z, rfl, hx, hy, hz, lo'⟩ := hv
  obtain ⟨s1, s2, s3, s4⟩ := hs
  have BB : Hid (∀ (o : Obj), Below w.heap.size w (w.alloc o)) := Lib.hid fun o => below_alloc (Below.refl _ _) _
  have HX : Hid (Ints w x (marksI K d.s.length)) := Lib.hid hx
  have HY : Hid (Ints w y (marksI (K + d.s.length) d.b.length)) := Lib.hid hy
  have HZ : Hid (Ints w z (marksI (K + d.s.length + d.b.length) d.c.length)) := Lib.hid hz
  have e1 : ((K : Int) + d.s.length) = ((K + d.s.length : Nat) : Int) := by omega
  have e2 : ((K : Int) + d.s.length + d.b.length) = ((K + d.s.length + d.b.length : Nat) : Int) := by omega
  have E1 := Lib.hid e1
  have E2 := Lib.hid e2
  clear hx hy hz lo' e1 e2
  go_enter Try.func17, Try.ntmps17
  go_wp2_with fail
  refine (heldInts_any _ d.s.length K _ (ints_below HX.out (BB.out _)) (by omega) (by omega)).mono ?_
  rintro e w1 ⟨rfl, rfl⟩
  go_wp2_with fail
  rw [E1.out]
  refine (heldInts_any _ d.b.length (K + d.s.length) _ (ints_below HY.out (BB.out _)) (by omega) (by omega)).mono ?_
  rintro e w1 ⟨rfl, rfl⟩
  go_wp2_with fail
  rw [E2.out]
  refine (heldInts_any _ d.c.length (K + d.s.length + d.b.length) _ (ints_below HZ.out (BB.out _)) (by omega) (by omega)).mono ?_
  rintro e w1 ⟨rfl, rfl⟩
  go_wp2
  go_ret
  exact ⟨ret_int (by unfold numD; omega), BB.out _⟩

end Go.Proofs.Ytjlfbmplmddceaa
