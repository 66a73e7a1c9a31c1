/- impl's stack of marks, of jumps, within the assembler. -/
import Derived.Test.YthnbaeamekolmaaGreatDoorPrA
import Derived.Deep.RegionLaw
namespace Go.Proofs.YthnbaeamekolmaaGreatDoor
open Go.RowKit
set_option linter.unusedVariables false
set_option linter.unusedSimpArgs false

/-- A mark has its hole first in the given side, its back first in impl. -/
def sw (x : It) : It := ⟨x.v, x.k⟩

/-- The innermost mark; none is two zeros. -/
def topM (m : List It) : It := m.getLastD noIt

theorem topM_get {m : List It} (h : 0 < m.length) : topM m = m[m.length - 1] := by
  unfold topM
  rw [List.getLastD_eq_getLast?, List.getLast?_eq_getElem?, List.getElem?_eq_getElem (by omega)]; rfl

theorem topM_map {m : List It} : topM (m.map sw) = sw (topM m) := by
  unfold topM
  rw [List.getLastD_eq_getLast?, List.getLastD_eq_getLast?, List.getLast?_map]
  cases m.getLast? <;> rfl

theorem prow_apart {t : TypeId} {w : World} {base g i : Nat} {v u : Value} {Q : List It} (h : PRow t w base v Q) (hg : v.ownBlock ≠ some g) : PRow t (w.setCell ⟨g, i, none⟩ u) base v Q :=
  prow_keep h fun k hk => Below.heap_setCell w _ u k (fun e => hg (by rw [hk, e]))

/-- An assembler in block G. -/
def AsAt (w : World) (lo G : Nat) (a s : Int) (code : List Int) (marks : List It) : Prop :=
  ∃ vc vm, Whole w G 211 #[vc, .int .i64 a, .int .i64 s, vm] ∧ Row w lo vc code ∧ PRow 253 w lo vm (marks.map sw) ∧ lo ≤ G

theorem asAt_lo {w : World} {lo G : Nat} {a s : Int} {code : List Int} {marks : List It} (h : AsAt w lo G a s code marks) : lo ≤ w.heap.size := by
  obtain ⟨_, _, h1, _, _, h2⟩ := h
  have := whole_lt h1; omega

theorem asAt_below {w w' : World} {lo G : Nat} {a s : Int} {code : List Int} {marks : List It} (h : AsAt w lo G a s code marks) (hb : Below w.heap.size w w') : AsAt w' lo G a s code marks := by
  obtain ⟨vc, vm, h1, h2, h3, h4⟩ := h
  exact ⟨vc, vm, whole_below h1 hb, row_below h2 hb, prow_below h3 hb, h4⟩

/-- A pair handed back. -/
def PairOf (w : World) (x : It) (e : Ending) (w' : World) : Prop := e = .returned (.agg #[.int .i64 x.k, .int .i64 x.v]) ∧ Below w.heap.size w w'

set_option maxRecDepth 100000 in
set_option maxHeartbeats 800000 in
theorem topJ_any (w : World) (lo G : Nat) (a s : Int) (code : List Int) (m : List It) (h : AsAt w lo G a s code m) (hl : m.length ≤ 1000000) :
    Calls Tryz.prog 275 #[.pointer (some ⟨G, 3, none⟩)] w (PairOf w (sw (topM m))) := by
  obtain ⟨vc, vm, hw, hr, hm, hg⟩ := h
  have hlm : (m.map sw).length = m.length := by simp
  obtain ⟨_, A, c, rfl, hq⟩ := prow_its hm
  rw [hlm] at hw
  have c3 := whole_cell hw 3
  have hlt := whole_lt hw
  by_cases h0 : m.length = 0
  · obtain rfl : m = [] := List.eq_nil_of_length_eq_zero h0
    have E : Hid (sw (topM []) = noIt) := Lib.hid rfl
    rw [E.out]
    clear hq h0 hw hr hm hlm hl
    simp only [List.length_nil] at c3
    go_enter Tryz.func275, Tryz.ntmps275
    go_wp2
    refine bodyPost_ret (v := .agg #[.int .i64 0, .int .i64 0]) (by simp [results, Tryz.results275, go_sem, *]) rfl ⟨rfl, ?_⟩
    repeat (first | with_reducible exact Below.refl _ _ | with_reducible refine Below.setCell ?_ (by simp; try omega) _ | with_reducible refine Below.alloc ?_ (by simp; try omega) _)
  · obtain ⟨ad, rfl, hx⟩ := hq (by omega)
    have hx := hx ((m.map sw).length - 1) (by omega)
    rw [← topM_get (by omega), topM_map] at hx
    obtain ⟨n, hn⟩ : ∃ n, m.length = n + 1 := ⟨m.length - 1, by omega⟩
    rw [hlm, show m.length - 1 = n by omega] at hx
    rw [hn] at c3
    have hm2 : n ≤ 1000000 := by omega
    generalize sw (topM m) = x at *
    have z0 : (((n + 1 : Nat) : Int) == 0) = false := by simp; omega
    have z1 : IntKind.i64.wrap (((n + 1 : Nat) : Int) - 1) = (n : Int) := by rw [show ((n + 1 : Nat) : Int) - 1 = n by omega]; exact IntWalk.i64_in _ (by omega)
    have z2 : (n : Int) < ((n + 1 : Nat) : Int) := by omega
    obtain ⟨x0, x1⟩ := itAt_below (below_alloc (Below.refl _ _) (.cells #[.int .i64 0, .int .i64 0] 253)) hx
    clear hn hl h0 hw hr hm hlm hq hx
    go_enter Tryz.func275, Tryz.ntmps275
    go_wp2
    go_region
    go_wp2
    refine bodyPost_ret (v := .agg #[.int .i64 x.k, .int .i64 x.v]) (by simp [results, Tryz.results275, go_sem, *]) rfl ⟨rfl, ?_⟩
    repeat (first | with_reducible exact Below.refl _ _ | with_reducible refine Below.setCell ?_ (by simp; try omega) _ | with_reducible refine Below.alloc ?_ (by simp; try omega) _ | with_reducible refine Below.drew ?_)

/-- What leaves an assembler. -/
def AsOf (w : World) (lo G : Nat) (a s : Int) (code : List Int) (marks : List It) (e : Ending) (w' : World) : Prop := e = .returned (.tuple #[]) ∧ AsAt w' lo G a s code marks ∧ Below lo w w'

set_option maxRecDepth 100000 in
set_option maxHeartbeats 800000 in
theorem pushJ_any (w : World) (lo G : Nat) (a s : Int) (code : List Int) (m : List It) (x : It) (h : AsAt w lo G a s code m) (hl : m.length ≤ 1000000) :
    Calls Tryz.prog 258 #[.pointer (some ⟨G, 3, none⟩), .agg #[.int .i64 x.v, .int .i64 x.k]] w (AsOf w lo G a s code (m ++ [x])) := by
  have hlo := asAt_lo h
  obtain ⟨vc, vm, hw, hr, hm, hg⟩ := h
  have HW := Lib.hid hw
  have HR := Lib.hid hr
  have hlm : Hid ((m.map sw).length = m.length) := Lib.hid (by simp)
  obtain ⟨_, A, c, rfl, _⟩ := prow_its hm
  rw [hlm.out] at hm hw HW
  have HM := Lib.hid hm
  have c3 := whole_cell hw 3
  have hlt := whole_lt hw
  have I2 : Hid (Its ((w.alloc (.cells #[.int .i64 x.v, .int .i64 x.k] 253)).alloc (.cells #[.int .i64 x.v, .int .i64 x.k] 253)).drew (.slice (some ⟨w.heap.size + 1, 0, none⟩) 1 1) [sw x]) := Lib.hid (by
    have h := its_one (w.alloc (.cells #[.int .i64 x.v, .int .i64 x.k] 253)) (sw x) 253
    rw [show (w.alloc (.cells #[.int .i64 x.v, .int .i64 x.k] 253)).heap.size = w.heap.size + 1 from Array.size_push ..] at h
    exact its_keep h fun _ _ e => e)
  clear hw hr hm
  go_enter Tryz.func258, Tryz.ntmps258
  go_wp2
  go_region_law (first
    | (refine step_append_jumps (w := ((w.alloc (.cells #[.int .i64 x.v, .int .i64 x.k] 253)).alloc (.cells #[.int .i64 x.v, .int .i64 x.k] 253)).drew) rfl (.tmp 8) (.tmp 10) rfl rfl lo (.slice A m.length c) (m.map sw) rfl (by exact prow_alloc (prow_alloc HM.out _) _) (.slice (some ⟨w.heap.size + 1, 0, none⟩) 1 1) [sw x] rfl I2.out (by rw [hlm.out]; simp; omega) (by simp; omega) ?_
       intro v' w2 hr2 hg2 hat
       have hbk : Below lo w w2 := (below_drewN (((Below.refl _ _).alloc hlo _).alloc (by simp; omega) _) 1).grown hg2 (by simp; omega) (fun k hk => (prow_lt HM.out k hk).1)
       have n2 := prow_off (by decide) HM.out HW.out
       have W2 := whole_keep (whole_alloc (whole_alloc HW.out (.cells #[.int .i64 x.v, .int .i64 x.k] 253)) (.cells #[.int .i64 x.v, .int .i64 x.k] 253)) (hg2.block _ (by simp; omega) (fun e => n2 e.symm))
       have R2 := row_keep (row_alloc (row_alloc HR.out (.cells #[.int .i64 x.v, .int .i64 x.k] 253)) (.cells #[.int .i64 x.v, .int .i64 x.k] 253)) (fun g hv => hg2.block g (by have := (row_lt HR.out g hv).2; simp; omega) (fun e => prow_row_off (by decide) HM.out HR.out e.symm hv))
       have d3 := whole_cell W2 3
       have f3 := whole_free W2 3
       have HB := Lib.hid hbk
       have HW2 := Lib.hid W2
       have HR2 := Lib.hid R2
       have HM2 := Lib.hid hr2
       obtain ⟨_, C, j, rfl, _⟩ := prow_its hr2
       rw [show (m.map sw ++ [sw x]) = (m ++ [x]).map sw by simp] at HM2
       rw [show ((m ++ [x]).map sw).length = m.length + 1 by simp] at HM2
       clear hbk n2 W2 R2 hr2 hg2 hat))
  all_goals
    go_wp2
    go_end0
    exact ⟨rfl, ⟨_, _, whole_set HW2.out 3 _, row_apart HR2.out (row_off (by decide) HR2.out HW2.out), prow_apart HM2.out (prow_off (by decide) HM2.out HW2.out), hg⟩, HB.out.setCell hg _⟩

end Go.Proofs.YthnbaeamekolmaaGreatDoor
