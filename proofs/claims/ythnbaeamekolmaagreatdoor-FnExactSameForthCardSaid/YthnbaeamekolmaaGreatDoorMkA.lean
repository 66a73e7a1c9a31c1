/- impl's stack of marks, of numbers: top, push, pop. -/
import Derived.Test.YthnbaeamekolmaaGreatDoorCtlM
import Derived.Test.YthnbaeamekolmaaGreatDoorDatT
import Derived.Test.YthnbaeamekolmaaGreatDoorDatP
import Derived.RegionTactic
import Derived.BigRegion
import Derived.WalkLawsBesides
namespace Go.Proofs.YthnbaeamekolmaaGreatDoor
open Go.RowKit
set_option linter.unusedVariables false
set_option linter.unusedSimpArgs false

theorem row_off {w : World} {lo g : Nat} {t : TypeId} {v : Value} {zs : List Int} {cs : Array Value} (ht : (3 : TypeId) ≠ t) (h : Row w lo v zs) (hw : Whole w g t cs) : v.ownBlock ≠ some g := by
  rcases h.2 with ⟨rfl, _⟩ | ⟨g', cap, cur, rfl, _, hh, _⟩
  · simp [Value.ownBlock]
  · intro he
    have e : g' = g := by simpa [Value.ownBlock] using he
    subst e
    unfold Whole at hw
    rw [hh] at hw
    injection hw with hw
    injection hw with _ hq
    exact ht hq

theorem row_cut {w : World} {base : Nat} {A : Option Addr} {n c k : Nat} {zs : List Int} (h : Row w base (.slice A n c) zs) (hk : k ≤ zs.length) : Row w base (.slice A k c) (zs.take k) := by
  rcases h.2 with ⟨hv, h0⟩ | ⟨g', cap', cur, hv, hb', hg, h1, h2, h3, h4⟩
  · simp only [Value.slice.injEq] at hv
    obtain ⟨rfl, rfl, rfl⟩ := hv
    have hz : zs = [] := List.eq_nil_of_length_eq_zero h0
    subst hz
    have : k = 0 := by simpa using hk
    subst this
    exact row_nil w base
  · simp only [Value.slice.injEq] at hv
    obtain ⟨rfl, rfl, rfl⟩ := hv
    have hl : (zs.take k).length = k := by rw [List.length_take]; omega
    refine ⟨by rw [hl]; simp; omega, .inr ⟨g', c, cur, by rw [hl], hb', hg, by rw [hl]; omega, h2, h3, ?_⟩⟩
    rw [hl, List.map_take, ← h4, List.take_take]
    congr 1
    omega

/-- A stack of marks in block G. -/
def MkAt (w : World) (lo G : Nat) (v : Value) (o : List Int) : Prop := Whole w G 172 #[v] ∧ Row w lo v o ∧ lo ≤ G

theorem mkAt_lo {w : World} {lo G : Nat} {v : Value} {o : List Int} (h : MkAt w lo G v o) : lo ≤ w.heap.size := by have := whole_lt h.1; have := h.2.2; omega

theorem mkAt_below {w w' : World} {lo G : Nat} {v : Value} {o : List Int} (h : MkAt w lo G v o) (hb : Below w.heap.size w w') : MkAt w' lo G v o := ⟨whole_below h.1 hb, row_below h.2.1 hb, h.2.2⟩

/-- A number, read. -/
def TopOf (w : World) (x : Int) (e : Ending) (w' : World) : Prop := ∃ n, e = .returned (.int .i64 x) ∧ w' = w.drewN n

set_option maxRecDepth 100000 in
set_option maxHeartbeats 400000 in
theorem top_any (w : World) (G : Nat) (v : Value) (o : List Int) (hc : w.cell? ⟨G, 0, none⟩ = some v) (hv : Ints w v o) (hl : o.length ≤ 1000000) :
    Calls Tryz.prog 219 #[.pointer (some ⟨G, 0, none⟩)] w (TopOf w (topO o)) := by
  obtain ⟨_, A, k, rfl, hr⟩ := hv
  by_cases h0 : o.length = 0
  · obtain rfl : o = [] := List.eq_nil_of_length_eq_zero h0
    clear hr h0
    simp only [List.length_nil] at hc
    go_enter Tryz.func219, Tryz.ntmps219
    go_wp2
    go_ret
    exact ⟨0, rfl, rfl⟩
  · obtain ⟨ad, rfl, hq⟩ := hr (by omega)
    have hx := hq (o.length - 1) (by omega)
    rw [← topO_get (by omega)] at hx
    obtain ⟨m, hm⟩ : ∃ m, o.length = m + 1 := ⟨o.length - 1, by omega⟩
    rw [show o.length - 1 = m by omega] at hx
    clear hr hq
    rw [hm] at hc
    have hm2 : m ≤ 1000000 := by omega
    generalize topO o = x at *
    have z0 : (((m + 1 : Nat) : Int) == 0) = false := by simp; omega
    have z1 : IntKind.i64.wrap (((m + 1 : Nat) : Int) - 1) = (m : Int) := by rw [show ((m + 1 : Nat) : Int) - 1 = m by omega]; exact IntWalk.i64_in _ (by omega)
    have z2 : (m : Int) < ((m + 1 : Nat) : Int) := by omega
    clear hm hl h0
    go_enter Tryz.func219, Tryz.ntmps219
    go_wp2
    go_quiet (fail)
    go_wp2
    go_ret
    exact ⟨_, rfl, rfl⟩

/-- What push leaves. -/
def PushedOf (w : World) (lo G : Nat) (o : List Int) (e : Ending) (w' : World) : Prop := e = .returned (.tuple #[]) ∧ (∃ v', MkAt w' lo G v' o) ∧ Below lo w w'

set_option maxRecDepth 100000 in
set_option maxHeartbeats 400000 in
theorem push_any (w : World) (lo G : Nat) (v : Value) (o : List Int) (x : Int) (h : MkAt w lo G v o) (hl : o.length ≤ 1000000) :
    Calls Tryz.prog 220 #[.pointer (some ⟨G, 0, none⟩), .int .i64 x] w (PushedOf w lo G (o ++ [x])) := by
  obtain ⟨hw, hr, hg⟩ := h
  have HW := Lib.hid hw
  have HR := Lib.hid hr
  have c0 := whole_cell hw 0
  have hlt := whole_lt hw
  obtain ⟨_, A, k, rfl, _⟩ := row_ints hr
  clear hw hr
  go_enter Tryz.func220, Tryz.ntmps220
  go_wp2_with (at_builtin; refine wpList_append_ints rfl (.tmp 8) (.tmp 10) rfl rfl lo (.slice A o.length k) o (row_alloc HR.out _) _ [x] (ints_one _ _) rfl rfl (by simp; omega) (by simp; omega) ?_
               intro v' w2 hr2 hg2 hat
               have n2 := row_off (by decide) HR.out HW.out
               have W2 := whole_keep (whole_alloc HW.out (.cells #[.int .i64 x] 3)) (hg2.block _ (by simp; omega) (fun e => n2 e.symm))
               have hbk : Below lo w w2 := ((Below.refl _ _).alloc (by omega) _).grown hg2 (by simp; omega) (fun k hk => (row_lt HR.out k hk).1)
               have d0 := whole_cell W2 0
               have f0 := whole_free W2 0
               have HR2 := Lib.hid hr2
               have HW2 := Lib.hid W2
               have HBK := Lib.hid hbk
               obtain ⟨_, C, j, rfl, _⟩ := row_ints hr2
               rw [show (o ++ [x]).length = o.length + 1 by simp] at HR2
               clear hg2 hat hr2 W2 hbk c0 n2)
  go_end0
  exact ⟨rfl, ⟨_, whole_set HW2.out 0 _, row_apart HR2.out (row_off (by decide) HR2.out HW2.out), hg⟩, HBK.out.setCell hg _⟩

/-- What pop leaves. -/
def PoppedOf (w : World) (lo G : Nat) (x : Int) (o : List Int) (e : Ending) (w' : World) : Prop := e = .returned (.int .i64 x) ∧ (∃ v', MkAt w' lo G v' o) ∧ Below lo w w'

set_option maxRecDepth 100000 in
set_option maxHeartbeats 800000 in
theorem pop_any (w : World) (lo G : Nat) (v : Value) (o : List Int) (h : MkAt w lo G v o) (hl : o.length ≤ 1000000) :
    Calls Tryz.prog 221 #[.pointer (some ⟨G, 0, none⟩)] w (PoppedOf w lo G (topO o) o.dropLast) := by
  obtain ⟨hw, hr, hg⟩ := h
  have HW := Lib.hid hw
  have HR := Lib.hid hr
  have c0 := whole_cell hw 0
  have f0 := whole_free hw 0
  have hlt := whole_lt hw
  have HI := Lib.hid (row_ints hr)
  have HT := Lib.hid (top_any w G v o c0 (row_ints hr) hl)
  obtain ⟨_, A, k, rfl, _⟩ := row_ints hr
  clear hw hr
  by_cases h0 : o.length = 0
  · obtain rfl : o = [] := List.eq_nil_of_length_eq_zero h0
    simp only [List.length_nil] at c0
    have z1 : IntKind.i64.wrap (((0 : Nat) : Int) - 1) = -1 := by decide
    go_enter Tryz.func221, Tryz.ntmps221
    go_wp2_with fail
    refine HT.out.mono ?_
    rintro e w1 ⟨n, rfl, rfl⟩
    go_wp2
    go_region
    all_goals
      go_wp2
      go_ret
      exact ⟨rfl, ⟨_, whole_set (whole_below HW.out (below_drewN (Below.refl _ _) _)) 0 _, row_apart (row_below HR.out (below_drewN (Below.refl _ _) _)) (row_off (by decide) HR.out HW.out), hg⟩, (below_drewN (Below.refl _ _) _).setCell hg _⟩
  · obtain ⟨m, hm⟩ : ∃ m, o.length = m + 1 := ⟨o.length - 1, by omega⟩
    have ED : Hid (o.dropLast = o.take m) := Lib.hid (by rw [List.dropLast_eq_take]; congr 1; omega)
    have HC : Hid (Row w lo (.slice A m k) (o.take m)) := Lib.hid (row_cut HR.out (by omega))
    have NW := Lib.hid (row_off (by decide) HR.out HW.out)
    rw [hm] at c0
    have hm2 : m ≤ 1000000 := by omega
    have hk : m + 1 ≤ k := by
      rcases HR.out.2 with ⟨hv, h0⟩ | ⟨g', cap', cur, hv, hb', hg, h1, h2, h3, h4⟩
      · omega
      · simp only [Value.slice.injEq] at hv
        obtain ⟨_, _, rfl⟩ := hv
        omega
    clear hl h0
    rw [ED.out]
    generalize topO o = x at *
    have HL := Lib.hid hm
    clear hm HI
    rcases Nat.eq_zero_or_pos m with hz | hp
    · subst hz
      have z1 : IntKind.i64.wrap (((0 + 1 : Nat) : Int) - 1) = 0 := by decide
      go_enter Tryz.func221, Tryz.ntmps221
      go_wp2_with fail
      refine HT.out.mono ?_
      rintro e w1 ⟨n, rfl, rfl⟩
      go_wp2
      go_region
      go_wp2
      go_ret
      exact ⟨rfl, ⟨_, whole_set (whole_below HW.out (below_drewN (Below.refl _ _) _)) 0 _, row_apart (row_below HC.out (below_drewN (Below.refl _ _) _)) (row_off (by decide) HC.out HW.out), hg⟩, (below_drewN (Below.refl _ _) _).setCell hg _⟩
    · have z1 : IntKind.i64.wrap (((m + 1 : Nat) : Int) - 1) = (m : Int) := by rw [show ((m + 1 : Nat) : Int) - 1 = m by omega]; exact IntWalk.i64_in _ (by omega)
      have z2 : (0 : Int) < (m : Int) := by omega
      go_enter Tryz.func221, Tryz.ntmps221
      go_wp2_with fail
      refine HT.out.mono ?_
      rintro e w1 ⟨n, rfl, rfl⟩
      go_wp2
      go_region
      go_wp2
      go_ret
      exact ⟨rfl, ⟨_, whole_set (whole_below HW.out (below_drewN (Below.refl _ _) _)) 0 _, row_apart (row_below HC.out (below_drewN (Below.refl _ _) _)) (row_off (by decide) HC.out HW.out), hg⟩, (below_drewN (Below.refl _ _) _).setCell hg _⟩

end Go.Proofs.YthnbaeamekolmaaGreatDoor
