/- The laws' helpers on deeds: alike, marks laid, marks found. -/
import Derived.Test.YtkcogfgjabemfaaDeA
import Derived.WalkSmall
import Derived.Deep.RegionHeld3
namespace Go.Proofs.Ytkcogfgjabemfaa
open Go.RowKit
set_option linter.unusedVariables false
set_option linter.unusedSimpArgs false

/-- The deed with marks from K on. -/
def markDd (K : Nat) : Dd := ⟨(K : Int), (K : Int) + 1, (K : Int) + 1 + 1, (K : Int) + 1 + 1 + 1⟩

/-- The deeds with marks from K on. -/
def marksD (K n : Nat) : List Dd := (List.range n).map fun j => markDd (K + 4 * j)

theorem marksD_len (K n : Nat) : (marksD K n).length = n := by unfold marksD; simp

theorem marksD_at {K n k : Nat} (h : k < (marksD K n).length) : (marksD K n)[k] = markDd (K + 4 * k) := by
  have e : (marksD K n)[k]? = some (markDd (K + 4 * k)) := by
    unfold marksD
    rw [List.getElem?_map, List.getElem?_range (by rwa [marksD_len] at h)]; rfl
  exact (List.getElem?_eq_some_iff.1 e).2

theorem marksD_succ (K n : Nat) : marksD K (n + 1) = marksD K n ++ [markDd (K + 4 * n)] := by unfold marksD; rw [List.range_succ]; simp

/-- Marks at the first k places. -/
def markedD (K k : Nat) (Q : List Dd) : List Dd := marksD K k ++ Q.drop k

theorem markedD_len {K k : Nat} {Q : List Dd} (h : k ≤ Q.length) : (markedD K k Q).length = Q.length := by unfold markedD; rw [List.length_append, marksD_len, List.length_drop]; omega

theorem markedD_zero (K : Nat) (Q : List Dd) : markedD K 0 Q = Q := by unfold markedD marksD; simp

theorem markedD_end (K : Nat) (Q : List Dd) : markedD K Q.length Q = marksD K Q.length := by unfold markedD; simp

theorem markedD_next {K k : Nat} {Q : List Dd} (h : k < Q.length) : (markedD K k Q).set k (markDd (K + 4 * k)) = markedD K (k + 1) Q := by
  unfold markedD
  rw [marksD_succ, List.drop_eq_getElem_cons h, List.set_append_right _ _ (by rw [marksD_len]; exact Nat.le_refl _), marksD_len, Nat.sub_self, List.set_cons_zero]
  simp

/-- What laying marks leaves: the deeds bear them; no other block that was there has turned. -/
def MarkedDOf (w : World) (base : Nat) (v : Value) (n K : Nat) (e : Ending) (w' : World) : Prop := e = .returned (.int .i64 ((K + 4 * n : Nat) : Int)) ∧ DRow w' base v (marksD K n) ∧ w.grownBy w' v.ownBlock

end Go.Proofs.Ytkcogfgjabemfaa
