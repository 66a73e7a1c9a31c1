/- The program's ItemsOf. -/
import Derived.Test.YtafhmajnkicifaaFlD
namespace Go.Proofs.Ytafhmajnkicifaa
open Go.RowKit
set_option linter.unusedVariables false
set_option linter.unusedSimpArgs false

/-- What ItemsOf leaves. -/
def ItemsO (d : Nat) (L : List Nd) (w : World) (e : Ending) (w' : World) : Prop :=
  ∃ v, e = .returned (.tuple #[v, .int .i64 (itemsC d L).2]) ∧ IRow w' w.heap.size v (itemsC d L).1 ∧ Below w.heap.size w w'

set_option maxRecDepth 100000 in
set_option maxHeartbeats 2000000 in
theorem iItems_any (d : Nat) (v : Value) (L : List Nd) (w : World) (hv : Nds d w v L) :
    Calls Try.prog 10 #[v] w (ItemsO d L w) := by
  have HV := Lib.hid hv
  obtain ⟨hl, A, c, rfl⟩ := nds_form hv
  unfold maxLen at hl
  clear hv
  by_cases h1 : 4096 < L.length
  · have t1 : (4096 : Int) < (L.length : Int) := by omega
    have E : Hid (itemsC d L = ([], 2)) := Lib.hid (by unfold itemsC; rw [if_pos h1])
    clear h1
    go_enter Try.func10, Try.ntmps10
    go_wp2
    go_ret2
    exact ⟨_, by rw [E.out]; rfl, by rw [E.out]; exact irow_nil _ _, Below.refl _ _⟩
  have t1 : ¬ (4096 : Int) < (L.length : Int) := by omega
  by_cases h2 : 60 < L.length
  · have t2 : (60 : Int) < (L.length : Int) := by omega
    have E : Hid (itemsC d L = ([], 6)) := Lib.hid (by unfold itemsC; rw [if_neg h1, if_pos h2])
    clear h1 h2
    go_enter Try.func10, Try.ntmps10
    go_wp2
    go_ret2
    exact ⟨_, by rw [E.out]; rfl, by rw [E.out]; exact irow_nil _ _, Below.refl _ _⟩
  have t2 : ¬ (60 : Int) < (L.length : Int) := by omega
  have B0 : Hid (Below w.heap.size w (w.alloc (.cells #[.slice none 0 0] 55))) := Lib.hid (below_alloc (Below.refl _ _) _)
  have WR : Hid (WrAt (w.alloc (.cells #[.slice none 0 0] 55)) w.heap.size [] none) := Lib.hid ⟨none, 0, 0, whole_new w _ _, irow_nil _ _, rfl⟩
  have CL := Lib.hid (addNodes_any d 9 _ L _ w.heap.size [] none (Nat.le_refl _) (ndb_keep d (ndb_of d HV.out) fun b hb => B0.out.block b hb) WR.out (by simp [Bd]))
  have N1 : Hid (¬ 4096 < L.length ∧ ¬ 60 < L.length) := Lib.hid ⟨h1, h2⟩
  clear h1 h2
  go_enter Try.func10, Try.ntmps10
  go_wp2_with fail
  refine CL.out.mono ?_
  rintro e w1 ⟨b, rfl, ow, tt, ff⟩
  have z1 := ow.size
  have OB : Hid (Below w.heap.size w w1) := Lib.hid ⟨ow.os.trans B0.out.os, ow.tape.trans B0.out.tape, ow.output.trans B0.out.output, by simp at z1; omega, fun x hx => (ow.block x (by simp; omega) (by simp; omega)).trans (B0.out.block x hx)⟩
  have LN : Hid ((L = [] ∨ ([] : List It).length + (itT d L).length ≤ 60) ↔ (itT d L).length ≤ 60) := Lib.hid (by
    constructor
    · rintro (rfl | q)
      · rw [itT_nil]; simp
      · simpa using q
    · exact fun q => .inr (by simpa using q))
  cases b with
  | false =>
    have F := ff rfl
    have E : Hid (itemsC d L = ([], 1)) := Lib.hid (by
      unfold itemsC fitT
      rw [if_neg N1.out.1, if_neg N1.out.2, if_neg]
      intro q
      simp at q
      exact F ⟨q.1, LN.out.2 q.2⟩)
    clear tt ff F ow CL
    go_wp2
    go_ret2
    exact ⟨_, by rw [E.out]; rfl, by rw [E.out]; exact irow_nil _ _, OB.out⟩
  | true =>
    obtain ⟨⟨o1, o2⟩, u', wr, _⟩ := tt rfl
    have E : Hid (itemsC d L = (itT d L, 0)) := Lib.hid (by
      unfold itemsC fitT
      rw [if_neg N1.out.1, if_neg N1.out.2, if_pos]
      simp
      exact ⟨o1, LN.out.1 o2⟩)
    rw [List.nil_append] at wr
    obtain ⟨C, cc, c0, hr⟩ := wr_cell wr
    have R := Lib.hid (irow_base hr (show w.heap.size ≤ w.heap.size + 1 by omega))
    clear tt ff ow CL o1 o2 wr hr
    go_wp2
    go_ret2
    exact ⟨_, by rw [E.out]; rfl, by rw [E.out]; exact R.out, OB.out⟩

end Go.Proofs.Ytafhmajnkicifaa
