/- What impl.WrapCell, spec.WrapCell, impl.Unsigned and spec.Unsigned give. -/
import Derived.Test.YtfiildimochcgaaCellsA
namespace Go.Proofs.Ytfiildimochcgaa
open Go.RowKit
set_option linter.unusedVariables false
set_option linter.unusedSimpArgs false

set_option maxHeartbeats 400000 in
theorem wrapCell_any (a : Int) (w : World) :
    Calls Try.prog 14 #[.int .i64 a] w fun e w' => e = .returned (.int .i64 (wrap32 a)) ∧ w = w' := by
  go_enter Try.func14, Try.ntmps14
  go_wp2_with (go_at_call 29; refine (lowInt_any _ _).mono ?_; rintro e w' ⟨rfl, rfl⟩)
  go_ret
  exact ⟨ret_int rfl, rfl⟩

set_option maxHeartbeats 400000 in
theorem sWrapCell_any (a : Int) (w : World) :
    Calls Try.prog 15 #[.int .i64 a] w fun e w' => e = .returned (.int .i64 (wrap32 a)) ∧ w = w' := by
  go_enter Try.func15, Try.ntmps15
  go_wp2_with (go_at_call 30; refine (sWrap_any _ _).mono ?_; rintro e w' ⟨rfl, rfl⟩)
  go_ret
  exact ⟨ret_int rfl, rfl⟩

/-- A cell without its sign; 0 of what is no cell. -/
def unsV (a : Int) : Int := if cellB a = true then a % 4294967296 else 0

/-- The code that goes with it. -/
def unsC (a : Int) : Int := if cellB a = true then 0 else 4

set_option maxHeartbeats 400000 in
theorem uns_any (a : Int) (w : World) :
    Calls Try.prog 16 #[.int .i64 a] w fun e w' => e = .returned (.tuple #[.int .i64 (unsV a), .int .i64 (unsC a)]) ∧ w = w' := by
  cases ha : cellB a
  · have E : Hid (unsV a = 0 ∧ unsC a = 4) := Lib.hid ⟨by simp [unsV, ha], by simp [unsC, ha]⟩
    go_enter Try.func16, Try.ntmps16
    go_wp2_with (go_at_call 13; refine (cellOK_any _ _).mono ?_; rintro e w' ⟨rfl, rfl⟩)
    go_ret2
    exact ⟨ret_ii E.out.1.symm E.out.2.symm, rfl⟩
  · have E : Hid (unsV a = a % 4294967296 ∧ unsC a = 0) := Lib.hid ⟨by simp [unsV, ha], by simp [unsC, ha]⟩
    obtain ⟨a1, a2⟩ := cellB_true.1 ha
    go_enter Try.func16, Try.ntmps16
    go_wp2_with (go_at_call 13; refine (cellOK_any _ _).mono ?_; rintro e w' ⟨rfl, rfl⟩)
    go_ret2
    exact ⟨ret_ii E.out.1.symm E.out.2.symm, rfl⟩

set_option maxHeartbeats 400000 in
theorem sUnsIn_any (a : Int) (w : World) (a1 : -2147483648 ≤ a) (a2 : a ≤ 2147483647) :
    Calls Try.prog 31 #[.int .i64 a] w fun e w' => e = .returned (.int .i64 (a % 4294967296)) ∧ w = w' := by
  go_enter Try.func31, Try.ntmps31
  go_wp2
  go_ret
  exact ⟨ret_int rfl, rfl⟩

set_option maxHeartbeats 400000 in
theorem sUns_any (a : Int) (w : World) :
    Calls Try.prog 17 #[.int .i64 a] w fun e w' => e = .returned (.tuple #[.int .i64 (unsV a), .int .i64 (unsC a)]) ∧ w = w' := by
  cases ha : cellB a
  · have E : Hid (unsV a = 0 ∧ unsC a = 4) := Lib.hid ⟨by simp [unsV, ha], by simp [unsC, ha]⟩
    go_enter Try.func17, Try.ntmps17
    go_wp2_with (go_at_call 27; refine (sCell_any _ _).mono ?_; rintro e w' ⟨rfl, rfl⟩)
    go_ret2
    exact ⟨ret_ii E.out.1.symm E.out.2.symm, rfl⟩
  · have E : Hid (unsV a = a % 4294967296 ∧ unsC a = 0) := Lib.hid ⟨by simp [unsV, ha], by simp [unsC, ha]⟩
    obtain ⟨a1, a2⟩ := cellB_true.1 ha
    go_enter Try.func17, Try.ntmps17
    go_wp2_with (first | (go_at_call 27; refine (sCell_any _ _).mono ?_; rintro e w' ⟨rfl, rfl⟩) | (go_at_call 31; refine (sUnsIn_any _ _ a1 a2).mono ?_; rintro e w' ⟨rfl, rfl⟩))
    go_ret2
    exact ⟨ret_ii E.out.1.symm E.out.2.symm, rfl⟩

end Go.Proofs.Ytfiildimochcgaa
