/- What the functions on single cells give: contracts of impl's and spec's functions of chapter 2 that only reckon with numbers. -/
import Derived.Test.YthnbaeamekolmaaGreatDoorProg
import Derived.Test.YthnbaeamekolmaaGreatDoorMath
import Derived.WalkKit
import Derived.WalkSpells
import Derived.WalkLawsBesides
import Derived.BigQuiet
import Derived.Deep.QuietTactic
import Derived.Lib.Hide
namespace Go.Proofs.YthnbaeamekolmaaGreatDoor
open Go.RowKit
set_option linter.unusedVariables false
set_option linter.unusedSimpArgs false

theorem ret_int {k : IntKind} {a b : Int} (h : a = b) : Ending.returned (.int k a) = .returned (.int k b) := by rw [h]
theorem ret_bool {a b : Bool} (h : a = b) : Ending.returned (.bool a) = .returned (.bool b) := by rw [h]
theorem ret_ii {a b c d : Int} (h : a = b) (h' : c = d) : Ending.returned (.tuple #[.int .i64 a, .int .i64 c]) = .returned (.tuple #[.int .i64 b, .int .i64 d]) := by rw [h, h']
theorem ret_ib {a b : Int} {c d : Bool} (h : a = b) (h' : c = d) : Ending.returned (.tuple #[.int .i64 a, .bool c]) = .returned (.tuple #[.int .i64 b, .bool d]) := by rw [h, h']
theorem ret_ibi {a b : Int} {c d : Bool} {x y : Int} (h : a = b) (h' : c = d) (h'' : x = y) : Ending.returned (.tuple #[.int .i64 a, .bool c, .int .i64 x]) = .returned (.tuple #[.int .i64 b, .bool d, .int .i64 y]) := by rw [h, h', h'']

set_option maxHeartbeats 400000 in
theorem lowInt_any (a : Int) (w : World) :
    Calls Tryz.prog 224 #[.int .i64 a] w fun e w' => e = .returned (.int .i64 (wrap32 a)) ∧ w = w' := by
  go_enter Tryz.func224, Tryz.ntmps224
  go_wp2
  go_ret
  exact ⟨ret_int (wrap64_wrap32 a), rfl⟩

set_option maxHeartbeats 400000 in
theorem lowU_any (a : Int) (w : World) :
    Calls Tryz.prog 263 #[.int .u32 a] w fun e w' => e = .returned (.int .i64 (wrap32 a)) ∧ w = w' := by
  go_enter Tryz.func263, Tryz.ntmps263
  go_wp2
  go_ret
  exact ⟨ret_int (wrap64_wrap32 a), rfl⟩

set_option maxHeartbeats 400000 in
theorem sWrap_any (a : Int) (w : World) :
    Calls Tryz.prog 141 #[.int .i64 a] w fun e w' => e = .returned (.int .i64 (wrap32 a)) ∧ w = w' := by
  go_enter Tryz.func141, Tryz.ntmps141
  go_wp2
  go_ret
  exact ⟨ret_int (by show wrap64 (wrap32 (IntKind.u64.wrap a % 4294967296)) = _; rw [wrap64_wrap32, wrap32_u64]), rfl⟩

set_option maxHeartbeats 400000 in
theorem cellOK_any (a : Int) (w : World) :
    Calls Tryz.prog 140 #[.int .i64 a] w fun e w' => e = .returned (.bool (cellB a)) ∧ w = w' := by
  by_cases h : -2147483648 ≤ a
  · by_cases h' : a ≤ 2147483647
    · go_enter Tryz.func140, Tryz.ntmps140
      go_wp2
      go_ret
      exact ⟨ret_bool (by unfold cellB; simp [h, h']), rfl⟩
    · go_enter Tryz.func140, Tryz.ntmps140
      go_wp2
      go_ret
      exact ⟨ret_bool (by unfold cellB; simp [h, h']), rfl⟩
  · go_enter Tryz.func140, Tryz.ntmps140
    go_wp2
    go_ret
    exact ⟨ret_bool (by unfold cellB; simp; omega), rfl⟩

/-- Is the number from low to high? -/
def inB (n low high : Int) : Bool := decide (low ≤ n ∧ n ≤ high)

set_option maxHeartbeats 400000 in
theorem sIn_any (n low high : Int) (w : World) :
    Calls Tryz.prog 64 #[.int .i64 n, .int .i64 low, .int .i64 high] w fun e w' => e = .returned (.bool (inB n low high)) ∧ w = w' := by
  by_cases h : low ≤ n
  · by_cases h' : n ≤ high
    · go_enter Tryz.func64, Tryz.ntmps64
      go_wp2
      go_ret
      exact ⟨ret_bool (by unfold inB; simp [h, h']), rfl⟩
    · go_enter Tryz.func64, Tryz.ntmps64
      go_wp2
      go_ret
      exact ⟨ret_bool (by unfold inB; simp [h, h']), rfl⟩
  · go_enter Tryz.func64, Tryz.ntmps64
    go_wp2
    go_ret
    exact ⟨ret_bool (by unfold inB; simp; omega), rfl⟩

set_option maxHeartbeats 400000 in
theorem sCell_any (a : Int) (w : World) :
    Calls Tryz.prog 193 #[.int .i64 a] w fun e w' => e = .returned (.bool (cellB a)) ∧ w = w' := by
  go_enter Tryz.func193, Tryz.ntmps193
  go_wp2_with fail
  refine (sIn_any _ _ _ _).mono ?_
  rintro e w' ⟨rfl, rfl⟩
  go_wp2
  go_ret
  exact ⟨ret_bool rfl, rfl⟩

end Go.Proofs.YthnbaeamekolmaaGreatDoor
