/- The laws' helpers on slices of bools. -/
import Derived.Test.YtkcogfgjabemfaaBoA
namespace Go.Proofs.Ytkcogfgjabemfaa
open Go.RowKit
set_option linter.unusedVariables false
set_option linter.unusedSimpArgs false

def BSameTo (P Q : List Bool) (k : Nat) : Prop := P.take k = Q.take k

theorem bsameTo_next {P Q : List Bool} {k : Nat} (h : BSameTo P Q k) (hp : k < P.length) (hq : k < Q.length) (e : P[k] = Q[k]) : BSameTo P Q (k + 1) := by
  unfold BSameTo at *
  rw [List.take_succ_eq_append_getElem hp, List.take_succ_eq_append_getElem hq, h, e]

theorem bsameTo_end {P Q : List Bool} (hl : P.length = Q.length) (h : BSameTo P Q P.length) : (P == Q) = true := by
  unfold BSameTo at h
  rw [List.take_length, hl, List.take_length] at h
  simpa using h

theorem bsame_len {P Q : List Bool} (hl : P.length ≠ Q.length) : (P == Q) = false := by
  rw [beq_eq_false_iff_ne]; intro e; rw [e] at hl; exact hl rfl

theorem bsame_not {P Q : List Bool} {k : Nat} (hp : k < P.length) (hq : k < Q.length) (e : P[k] ≠ Q[k]) : (P == Q) = false := by
  rw [beq_eq_false_iff_ne]; intro h; subst h; exact e rfl

/-- A slice handed back, of the call's own, of these numbers. -/
def BoRowOf (w : World) (zs : List Bool) (e : Ending) (w' : World) : Prop := ∃ v, e = .returned v ∧ BoRow w' w.heap.size v zs ∧ v.ownBlock ≠ none ∧ Below w.heap.size w w'

/-- The first k numbers, then zeros. -/
def partB (zs : List Bool) (k : Nat) : List Bool := zs.take k ++ List.replicate (zs.length - k) false

theorem partB_len {zs : List Bool} {k : Nat} (h : k ≤ zs.length) : (partB zs k).length = zs.length := by unfold partB; simp; omega

theorem partB_next {zs : List Bool} {k : Nat} (h : k < zs.length) : (partB zs k).set k zs[k] = partB zs (k + 1) := by
  unfold partB
  rw [List.set_append_right _ _ (by simp; omega)]
  rw [List.length_take, Nat.min_eq_left (by omega), Nat.sub_self, show zs.length - k = (zs.length - (k + 1)) + 1 by omega, List.replicate_succ, List.set_cons_zero, List.take_succ_eq_append_getElem h, List.append_assoc]
  rfl

theorem partB_end (zs : List Bool) : partB zs zs.length = zs := by unfold partB; simp

theorem bzeros_cells (n : Nat) : (madeCells (Value.bool false).cells (n * 1)).toList = (List.replicate n false).map Value.bool := by
  rw [Nat.mul_one, show (Value.bool false).cells = #[Value.bool false] from rfl, toList_madeCells_one]; simp

theorem bzeros_row {w' : World} {base g n : Nat} (h : w'.ownsRow base 4 1 (.slice (some ⟨g, 0, none⟩) n n) n (madeCells (Value.bool false).cells (n * 1)).toList) : BoRow w' base (.slice (some ⟨g, 0, none⟩) n n) (List.replicate n false) := by
  unfold BoRow
  rw [List.length_replicate, ← bzeros_cells]; exact h

/-- A mark. -/
def mkB (n : Nat) : Bool := n % 3 == 0

/-- Marks from K on. -/
def marksB (K n : Nat) : List Bool := (List.range n).map fun j => mkB (K + j)

theorem marksB_len (K n : Nat) : (marksB K n).length = n := by unfold marksB; simp

theorem marksB_at {K n k : Nat} (h : k < (marksB K n).length) : (marksB K n)[k] = mkB (K + k) := by
  have e : (marksB K n)[k]? = some (mkB (K + k)) := by
    unfold marksB
    rw [List.getElem?_map, List.getElem?_range (by rwa [marksB_len] at h)]; rfl
  exact (List.getElem?_eq_some_iff.1 e).2

theorem mkB_eq (K k : Nat) : ((((K : Int) + k).tmod 3) == 0) = mkB (K + k) := by
  unfold mkB
  have e : ((K : Int) + k).tmod 3 = (((K + k) % 3 : Nat) : Int) := by rw [Int.tmod_eq_emod_of_nonneg (by omega)]; omega
  rw [e]
  by_cases h : (K + k) % 3 = 0
  · rw [h]; rfl
  · have h2 : ((((K + k) % 3 : Nat) : Int) == 0) = false := by rw [beq_eq_false_iff_ne]; omega
    have h3 : ((K + k) % 3 == 0) = false := by rw [beq_eq_false_iff_ne]; exact h
    rw [h2, h3]

theorem mkB_eq2 (K k : Nat) : ((((K : Int) + k) % 3) == 0) = mkB (K + k) := by
  rw [← mkB_eq, Int.tmod_eq_emod_of_nonneg (by omega)]

/-- Marks at the first k places. -/
def markToB (K k : Nat) (Q : List Bool) : List Bool := marksB K k ++ Q.drop k

theorem markToB_len {K k : Nat} {Q : List Bool} (h : k ≤ Q.length) : (markToB K k Q).length = Q.length := by unfold markToB; simp [marksB_len]; omega

theorem markToB_zero (K : Nat) (Q : List Bool) : markToB K 0 Q = Q := by unfold markToB marksB; simp

theorem markToB_end (K : Nat) (Q : List Bool) : markToB K Q.length Q = marksB K Q.length := by unfold markToB; simp

theorem markToB_next {K k : Nat} {Q : List Bool} (h : k < Q.length) : (markToB K k Q).set k (mkB (K + k)) = markToB K (k + 1) Q := by
  unfold markToB
  rw [show marksB K (k + 1) = marksB K k ++ [mkB (K + k)] by unfold marksB; rw [List.range_succ]; simp, List.drop_eq_getElem_cons h, List.set_append_right _ _ (by rw [marksB_len]; exact Nat.le_refl _), marksB_len, Nat.sub_self, List.set_cons_zero]
  simp

/-- What laying marks leaves: the row bears them; no other block has turned. -/
def MarkBOf (w : World) (base : Nat) (v : Value) (n K : Nat) (e : Ending) (w' : World) : Prop := e = .returned (.int .i64 ((K : Int) + n)) ∧ BoRow w' base v (marksB K n) ∧ w.grownBy w' v.ownBlock

end Go.Proofs.Ytkcogfgjabemfaa
