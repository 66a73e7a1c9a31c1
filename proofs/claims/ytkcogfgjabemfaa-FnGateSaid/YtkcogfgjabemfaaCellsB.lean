/- What impl.TwoCells and spec.TwoCells give: contracts of both and of all that they call. -/
import Derived.Test.YtkcogfgjabemfaaCellsA
namespace Go.Proofs.Ytkcogfgjabemfaa
open Go.RowKit
set_option linter.unusedVariables false
set_option linter.unusedSimpArgs false

theorem tdiv_wrap (a b : Int) (ha : -2147483648 ≤ a ∧ a ≤ 2147483647) : wrap64 (a.tdiv b) = a.tdiv b :=
  IntWalk.wrap64_in _ (by have := tdiv_bd a b ha; omega)

theorem tdiv_wrap1 (a b : Int) (ha : -2147483648 ≤ a ∧ a ≤ 2147483647) : wrap64 (wrap64 (a.tdiv b) - 1) = a.tdiv b - 1 := by
  rw [tdiv_wrap a b ha]; exact IntWalk.wrap64_in _ (by have := tdiv_bd a b ha; omega)

theorem tmod_sg (a b : Int) (h : a.tmod b ≠ 0) : (a.tmod b < 0 ↔ a < 0) := by
  have := tmod_sign a b; omega

/-- What the draws of a reckoning leave of the world. -/
theorem two_eq {op a b : Int} : Ending.returned (.tuple #[.int .i64 (twoV op a b), .bool (twoF op a b), .int .i64 (twoC op a b)]) = .returned (.tuple #[.int .i64 (twoV op a b), .bool (twoF op a b), .int .i64 (twoC op a b)]) := rfl

/-- Is the division, if it is one, by another number than 0? -/
def twoR (op b : Int) : Bool := decide (¬ ((op = 4 ∨ op = 5) ∧ b = 0))

theorem two_kind {op a b : Int} (h : op < 1 ∨ 10 < op) : twoC op a b = 9 ∧ twoF op a b = false ∧ twoV op a b = 0 := by
  have hc : twoC op a b = 9 := by unfold twoC; rw [if_pos h]
  refine ⟨hc, ?_, ?_⟩
  · unfold twoF; rw [hc]; simp
  · unfold twoV; rw [hc]; simp

theorem two_range {op a b : Int} (h : ¬ (op < 1 ∨ 10 < op)) (h' : cellB a = false ∨ cellB b = false) : twoC op a b = 4 ∧ twoF op a b = false ∧ twoV op a b = 0 := by
  have hc : twoC op a b = 4 := by unfold twoC; rw [if_neg h]; rcases h' with h' | h' <;> simp [h']
  refine ⟨hc, ?_, ?_⟩
  · unfold twoF; rw [hc]; simp
  · unfold twoV; rw [hc]; simp

theorem two_ok {op a b : Int} (h : ¬ (op < 1 ∨ 10 < op)) (ha : cellB a = true) (hb : cellB b = true) : twoC op a b = 0 ∧ twoF op a b = twoR op b ∧ twoV op a b = twoW op a b := by
  have hc : twoC op a b = 0 := by unfold twoC; rw [if_neg h]; simp [ha, hb]
  refine ⟨hc, ?_, ?_⟩
  · unfold twoF twoR; rw [hc]; simp
  · unfold twoV; rw [hc]; simp

theorem twoW_zero {op b : Int} (a : Int) (h : op = 4 ∨ op = 5) (hb : b = 0) : twoW op a b = 0 := by
  rcases h with rfl | rfl <;> simp [twoW, hb]

end Go.Proofs.Ytkcogfgjabemfaa
