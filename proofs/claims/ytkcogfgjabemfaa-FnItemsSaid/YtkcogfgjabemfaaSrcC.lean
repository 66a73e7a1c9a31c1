/- The source of draws beside other memory; a text drawn out of a list. -/
import Derived.Test.YtkcogfgjabemfaaSrcB
import Derived.Test.YtkcogfgjabemfaaKerA
namespace Go.Proofs.Ytkcogfgjabemfaa
open Go.RowKit
set_option linter.unusedVariables false
set_option linter.unusedSimpArgs false

theorem brow_lo {w w' : World} {B : Nat} {a : Option Addr} {len cap : Nat} {zs : List Int} (h : BRow w a len cap zs) (ha : ∀ x, a = some x → 0 < cap → x.block < B) (k : Below B w w') : BRow w' a len cap zs := by
  rcases h with h | ⟨x, rfl, h1, h2, h3, h4, h5⟩
  · exact .inl h
  · exact .inr ⟨x, rfl, h1, h2, h3, fun i hi => by rw [k.cell (by rw [add_block]; exact ha x rfl (by omega))]; exact h4 i hi, h5⟩

/-- The source stays where nothing below a bound turns. -/
theorem src_lo {w w' : World} {B b : Nat} {a : Option Addr} {len cap : Nat} {zs : List Int} {N : Nat} (h : Src w b a len cap zs N) (hb : b < B) (ha : ∀ x, a = some x → 0 < cap → x.block < B) (k : Below B w w') : Src w' b a len cap zs N := by
  obtain ⟨i, seed, hi, c0, c1, c2, f1, f2, row, ap, s0, s1⟩ := h
  exact ⟨i, seed, hi, by rw [k.cell (p := ⟨b, 0, none⟩) hb]; exact c0, by rw [k.cell (p := ⟨b, 1, none⟩) hb]; exact c1, by rw [k.cell (p := ⟨b, 2, none⟩) hb]; exact c2,
    by rw [k.frozen (p := ⟨b, 1, none⟩) hb]; exact f1, by rw [k.frozen (p := ⟨b, 2, none⟩) hb]; exact f2, brow_lo row ha k, ap, s0, s1⟩

theorem src_lt {w : World} {b : Nat} {a : Option Addr} {len cap : Nat} {zs : List Int} {N : Nat} (h : Src w b a len cap zs N) : b < w.heap.size := by
  obtain ⟨i, seed, hi, h⟩ := h
  exact lt_of_cell h.c0

theorem src_code_lt {w : World} {b : Nat} {a : Option Addr} {len cap : Nat} {zs : List Int} {N : Nat} (h : Src w b a len cap zs N) : ∀ x, a = some x → 0 < cap → x.block < w.heap.size := by
  obtain ⟨i, seed, hi, h⟩ := h
  exact brow_lt h.row

theorem gb_alloc {a w : World} {b : Nat} (h : a.grownBy w (some b)) (o : Obj) : a.grownBy (w.alloc o) (some b) := grown_trans h (World.grownBy_alloc w o _)

theorem gb_of_lo {a w w' : World} {b : Nat} (h : a.grownBy w (some b)) (hb : Below a.heap.size w w') : a.grownBy w' (some b) :=
  ⟨hb.os.trans h.os, hb.tape.trans h.tape, hb.output.trans h.output, Nat.le_trans h.size hb.size, fun k hk hr => (hb.block k hk).trans (h.block k hk hr)⟩

theorem src_alloc {w : World} {b : Nat} {a : Option Addr} {len cap : Nat} {zs : List Int} {N : Nat} (h : Src w b a len cap zs N) (o : Obj) : Src (w.alloc o) b a len cap zs N :=
  src_lo h (src_lt h) (src_code_lt h) (below_allocW (Below.refl _ _) _)

theorem src_draws' {w : World} {b : Nat} {a : Option Addr} {len cap : Nat} {zs : List Int} {N : Nat} (h : Src w b a len cap zs N) : Src w.drew b a len cap zs N :=
  src_lo h (src_lt h) (src_code_lt h) (Below.refl _ _).drew

theorem gb_drew {a w : World} {r : Option Nat} (h : a.grownBy w r) : a.grownBy w.drew r := ⟨h.os, h.tape, h.output, h.size, h.block⟩

theorem gb_set {a w : World} {b : Nat} (h : a.grownBy w (some b)) {p : Addr} (hp : a.heap.size ≤ p.block) (u : Value) : a.grownBy (w.setCell p u) (some b) :=
  gb_of_lo h ((Below.refl _ _).setCell hp u)

theorem txts_gb {w w' : World} {b g : Nat} {L : List (List UInt8)} (h : Txts w g L) (hg : w.grownBy w' (some b)) (hne : g ≠ b) : Txts w' g L := fun k hk => hg.cell (h k hk) (by simpa using hne)

/-- What a text drawn out of a list leaves. -/
def PickOf (w : World) (b : Nat) (a : Option Addr) (len cap : Nat) (zs : List Int) (N : Nat) (L : List (List UInt8)) (e : Ending) (w' : World) : Prop := ∃ p ∈ L, e = .returned (.string ⟨p.toArray⟩) ∧ Src w' b a len cap zs N ∧ w.grownBy w' (some b)

set_option maxRecDepth 100000 in
set_option maxHeartbeats 1000000 in
theorem pick_any (b : Nat) (a : Option Addr) (len cap : Nat) (zs : List Int) (N g ca : Nat) (L : List (List UInt8)) (w : World) (h : Src w b a len cap zs N) (hN : Few N) (ht : Txts w g L) (hg : g ≠ b) (h1 : 1 < L.length) (h2 : L.length ≤ 256) :
    Calls Try.prog 96 #[.pointer (some ⟨b, 0, none⟩), .slice (some ⟨g, 0, none⟩) L.length ca] w (PickOf w b a len cap zs (N + 1) L) := by
  have H := Lib.hid h
  have HN := Lib.hid hN
  have HT := Lib.hid ht
  clear h hN ht
  have t0 : ((L.length : Int) == 0) = false := by rw [beq_eq_false_iff_ne]; omega
  go_enter Try.func96, Try.ntmps96
  go_wp2_with fail
  refine (next_small _ _ _ _ _ _ _ _ H.out HN.out (by omega) (by omega)).mono ?_
  rintro e w1 ⟨v, hv, rfl, hs, hgr⟩
  obtain ⟨v0, v1⟩ := hv
  obtain ⟨k, rfl⟩ := Int.eq_ofNat_of_zero_le v0
  have hk : k < L.length := by omega
  have S := Lib.hid hs
  have G := Lib.hid hgr
  have hc := txts_gb HT.out hgr hg k hk
  have HM := Lib.hid (List.getElem_mem hk)
  clear hs hgr
  generalize hp : L[k] = p at *
  have HP := Lib.hid hp
  clear hp
  generalize hx : (⟨p.toArray⟩ : ByteArray) = x at *
  have HX := Lib.hid hx
  clear hx
  go_wp2
  go_ret
  exact ⟨p, HM.out, congrArg (fun s => Ending.returned (.string s)) HX.out.symm, S.out, G.out⟩

end Go.Proofs.Ytkcogfgjabemfaa
