/- What the functions on single cells give: contracts of impl's and spec's functions of chapter 2 that only reckon with numbers. -/
import Derived.Test.YthnbaeamekolmaaDoorProg
import Derived.Test.YthnbaeamekolmaaDoorMath
import Derived.WalkKit
import Derived.WalkSpells
import Derived.WalkLawsBesides
import Derived.BigQuiet
import Derived.Deep.QuietTactic
import Derived.Lib.Hide
namespace Go.Proofs.YthnbaeamekolmaaDoor
open Go.RowKit
set_option linter.unusedVariables false
set_option linter.unusedSimpArgs false

theorem ret_int {k : IntKind} {a b : Int} (h : a = b) : Ending.returned (.int k a) = .returned (.int k b) := by rw [h]
theorem ret_bool {a b : Bool} (h : a = b) : Ending.returned (.bool a) = .returned (.bool b) := by rw [h]
theorem ret_ii {a b c d : Int} (h : a = b) (h' : c = d) : Ending.returned (.tuple #[.int .i64 a, .int .i64 c]) = .returned (.tuple #[.int .i64 b, .int .i64 d]) := by rw [h, h']
theorem ret_ib {a b : Int} {c d : Bool} (h : a = b) (h' : c = d) : Ending.returned (.tuple #[.int .i64 a, .bool c]) = .returned (.tuple #[.int .i64 b, .bool d]) := by rw [h, h']
theorem ret_ibi {a b : Int} {c d : Bool} {x y : Int} (h : a = b) (h' : c = d) (h'' : x = y) : Ending.returned (.tuple #[.int .i64 a, .bool c, .int .i64 x]) = .returned (.tuple #[.int .i64 b, .bool d, .int .i64 y]) := by rw [h, h', h'']

/-- Is the number from low to high? -/
def inB (n low high : Int) : Bool := decide (low ≤ n ∧ n ≤ high)

end Go.Proofs.YthnbaeamekolmaaDoor
