/- The laws' helpers on words: alike, marks laid, marks found. -/
import Derived.Test.YtkcogfgjabemfaaWdA
import Derived.WalkSmall
namespace Go.Proofs.Ytkcogfgjabemfaa
open Go.RowKit
set_option linter.unusedVariables false
set_option linter.unusedSimpArgs false

theorem wdAt_below {w w' : World} (hb : Below w.heap.size w w') {a : Addr} {x : Wd} (h : WdAt w a x) : WdAt w' a x := wdAt_keep h (cells_below hb)

/-- The word with marks from K on. -/
def markWd (K : Nat) : Wd := ⟨⟨(markL K).toArray⟩, (K : Int) + 1, (K : Int) + 2⟩

/-- The words with marks from K on. -/
def marksW (K n : Nat) : List Wd := (List.range n).map fun j => markWd (K + 3 * j)

theorem marksW_len (K n : Nat) : (marksW K n).length = n := by unfold marksW; simp

theorem marksW_at {K n k : Nat} (h : k < (marksW K n).length) : (marksW K n)[k] = markWd (K + 3 * k) := by
  have e : (marksW K n)[k]? = some (markWd (K + 3 * k)) := by
    unfold marksW
    rw [List.getElem?_map, List.getElem?_range (by rwa [marksW_len] at h)]; rfl
  exact (List.getElem?_eq_some_iff.1 e).2

theorem marksW_succ (K n : Nat) : marksW K (n + 1) = marksW K n ++ [markWd (K + 3 * n)] := by unfold marksW; rw [List.range_succ]; simp

/-- Marks at the first k places. -/
def markedW (K k : Nat) (Q : List Wd) : List Wd := marksW K k ++ Q.drop k

theorem markedW_len {K k : Nat} {Q : List Wd} (h : k ≤ Q.length) : (markedW K k Q).length = Q.length := by unfold markedW; rw [List.length_append, marksW_len, List.length_drop]; omega

theorem markedW_zero (K : Nat) (Q : List Wd) : markedW K 0 Q = Q := by unfold markedW marksW; simp

theorem markedW_end (K : Nat) (Q : List Wd) : markedW K Q.length Q = marksW K Q.length := by unfold markedW; simp

theorem markedW_next {K k : Nat} {Q : List Wd} (h : k < Q.length) : (markedW K k Q).set k (markWd (K + 3 * k)) = markedW K (k + 1) Q := by
  unfold markedW
  rw [marksW_succ, List.drop_eq_getElem_cons h, List.set_append_right _ _ (by rw [marksW_len]; exact Nat.le_refl _), marksW_len, Nat.sub_self, List.set_cons_zero]
  simp

theorem grown_sets {w : World} {g : Nat} (i j k : Nat) (a b c : Value) : w.grownBy (((w.setCell ⟨g, i, none⟩ a).setCell ⟨g, j, none⟩ b).setCell ⟨g, k, none⟩ c) (some g) :=
  ⟨rfl, rfl, rfl, by simp, fun x hx hne => by
    have h : x ≠ g := fun e => hne (by rw [e])
    rw [Below.heap_setCell _ _ _ _ h, Below.heap_setCell _ _ _ _ h, Below.heap_setCell _ _ _ _ h]⟩

/-- What laying marks leaves: the words bear them; no other block that was there has turned. -/
def MarkedWOf (w : World) (base : Nat) (v : Value) (n K : Nat) (e : Ending) (w' : World) : Prop := e = .returned (.int .i64 ((K : Int) + 3 * n)) ∧ WRow w' base v (marksW K n) ∧ w.grownBy w' v.ownBlock

theorem mark_small (K : Nat) (h : K ≤ 1099511627776) : (⟨(markL K).toArray⟩ : ByteArray).size ≤ maxLen := by
  have := markL_len K
  have e : (⟨(markL K).toArray⟩ : ByteArray).size = (markL K).length := by simp [ByteArray.size]
  rw [e]; unfold maxLen; omega

/-- What finding marks leaves: the next mark; what was there has not turned. -/
def HeldWOf (w : World) (m : Int) (e : Ending) (w' : World) : Prop := e = .returned (.int .i64 m) ∧ Below w.heap.size w w'

end Go.Proofs.Ytkcogfgjabemfaa
