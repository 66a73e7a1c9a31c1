/- What a capability takes, the given side. -/
import Derived.Test.YtkcogfgjabemfaaHsF
namespace Go.Proofs.Ytkcogfgjabemfaa
open Go.RowKit
set_option linter.unusedVariables false
set_option linter.unusedSimpArgs false

/-- How many cells a capability takes. -/
def capTakes (c : Nat) : Nat := [1, 2, 1, 0].getD c 0

set_option maxRecDepth 100000 in
set_option maxHeartbeats 1000000 in
theorem sHTakes_any (c : Nat) (w : World) (hc : c < 4) :
    Calls Try.prog 109 #[.int .i64 c] w fun e w' => e = .returned (.int .i64 (capTakes c : Nat)) ∧ Below w.heap.size w w' := by
  have : c = 0 ∨ c = 1 ∨ c = 2 ∨ c = 3 := by omega
  rcases this with rfl | rfl | rfl | rfl
  all_goals
    go_enter Try.func109, Try.ntmps109
    go_wp2
    go_ret
    exact ⟨rfl, below_alloc (Below.refl _ _) _⟩

end Go.Proofs.Ytkcogfgjabemfaa
