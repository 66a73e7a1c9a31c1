/- Items and what is open behind them: plain mathematics, no program in sight. -/
import Derived.Test.YthnbaeamekolmaaGreatDoorItA
namespace Go.Proofs.YthnbaeamekolmaaGreatDoor
open Go.RowKit
set_option linter.unusedVariables false
set_option linter.unusedSimpArgs false

/-- Is an item valid? -/
def itB (x : It) : Bool := if x.k = 1 then decide (1 ≤ x.v ∧ x.v ≤ 103) else if x.k = 2 then decide (-2147483648 ≤ x.v ∧ x.v ≤ 2147483647) else decide (3 ≤ x.k ∧ x.k ≤ 13) && decide (x.v = 0)

theorem itB_kind {x : It} (h : itB x = true) : 1 ≤ x.k ∧ x.k ≤ 13 := by
  unfold itB at h
  split at h
  · omega
  · split at h
    · omega
    · simp at h; omega

theorem itB_val {x : It} (h : itB x = true) : -2147483648 ≤ x.v ∧ x.v ≤ 2147483647 := by
  unfold itB at h
  split at h
  · simp at h; omega
  · split at h
    · simp at h; omega
    · simp at h; omega

/-- The common errors of a list of items. -/
def askI (Q : List It) : Int := if 4096 < Q.length then 2 else if 60 < Q.length then 6 else if Q.all itB = true then 0 else 1

theorem askI_ok {Q : List It} (h : askI Q = 0) : Q.length ≤ 60 ∧ ∀ x ∈ Q, itB x = true := by
  unfold askI at h
  by_cases h1 : 4096 < Q.length
  · rw [if_pos h1] at h; cases h
  rw [if_neg h1] at h
  by_cases h2 : 60 < Q.length
  · rw [if_pos h2] at h; cases h
  rw [if_neg h2] at h
  by_cases h3 : Q.all itB = true
  · exact ⟨by omega, fun x hx => List.all_eq_true.1 h3 x hx⟩
  · rw [if_neg h3] at h; cases h

/-- The innermost open structure; 0 where none is. -/
def topO (o : List Int) : Int := o.getLastD 0

theorem topO_snoc (o : List Int) (x : Int) : topO (o ++ [x]) = x := by unfold topO; simp

theorem topO_nil : topO [] = 0 := rfl

theorem topO_get {o : List Int} (h : 0 < o.length) : topO o = o[o.length - 1] := by
  unfold topO
  rw [List.getLastD_eq_getLast?, List.getLast?_eq_getElem?, List.getElem?_eq_getElem (by omega)]; rfl

/-- Does an item fit where these are open? -/
def fitB (o : List Int) (k : Int) : Bool :=
  if k = 3 ∨ k = 6 ∨ k = 10 then decide (o.length < 8)
  else if k = 4 then topO o == 3
  else if k = 5 then topO o == 3 || topO o == 4
  else if k = 7 ∨ k = 8 then topO o == 6
  else if k = 9 then topO o == 8
  else if k = 11 ∨ k = 12 then topO o == 10
  else true

/-- What is open behind it. -/
def nextO (o : List Int) (k : Int) : List Int :=
  if k = 3 ∨ k = 6 ∨ k = 10 then o ++ [k]
  else if k = 4 ∨ k = 8 then o.dropLast ++ [k]
  else if k = 5 ∨ k = 7 ∨ k = 9 ∨ k = 11 ∨ k = 12 then o.dropLast
  else o

theorem nextO_len (o : List Int) (k : Int) : (nextO o k).length ≤ o.length + 1 := by
  unfold nextO
  repeat' split
  all_goals simp [List.length_dropLast]
  all_goals omega

/-- Up to the first item that does not fit: how many fit, what is open there. -/
def goO : List It → List Int → Nat × List Int
  | [], o => (0, o)
  | x :: r, o => if fitB o x.k = true then ((goO r (nextO o x.k)).1 + 1, (goO r (nextO o x.k)).2) else (0, o)

theorem goO_le (Q : List It) (o : List Int) : (goO Q o).1 ≤ Q.length := by
  induction Q generalizing o with
  | nil => simp [goO]
  | cons x r ih =>
    unfold goO
    split
    · have := ih (nextO o x.k); simp; omega
    · simp

theorem goO_len (Q : List It) (o : List Int) : (goO Q o).2.length ≤ o.length + Q.length := by
  induction Q generalizing o with
  | nil => simp [goO]
  | cons x r ih =>
    unfold goO
    split
    · have := ih (nextO o x.k); have := nextO_len o x.k; simp; omega
    · simp

/-- The first so many items all fit, and this is open behind them. -/
def Got (Q : List It) (k : Nat) (o : List Int) : Prop := k ≤ Q.length ∧ goO Q [] = (k + (goO (Q.drop k) o).1, (goO (Q.drop k) o).2) ∧ o.length ≤ k

theorem got_start (Q : List It) : Got Q 0 [] := ⟨Nat.zero_le _, by simp, Nat.le_refl _⟩

theorem got_fit {Q : List It} {k : Nat} {o : List Int} (h : Got Q k o) (hk : k < Q.length) (hf : fitB o Q[k].k = true) : Got Q (k + 1) (nextO o Q[k].k) := by
  obtain ⟨h1, h2, h3⟩ := h
  refine ⟨hk, ?_, by have := nextO_len o Q[k].k; omega⟩
  rw [h2, List.drop_eq_getElem_cons hk]
  simp only [goO, hf, if_true]
  congr 1
  omega

theorem got_not {Q : List It} {k : Nat} {o : List Int} (h : Got Q k o) (hk : k < Q.length) (hf : fitB o Q[k].k = false) : goO Q [] = (k, o) := by
  obtain ⟨h1, h2, h3⟩ := h
  rw [h2, List.drop_eq_getElem_cons hk]
  simp [goO, hf]

theorem got_end {Q : List It} {o : List Int} (h : Got Q Q.length o) : goO Q [] = (Q.length, o) := by
  obtain ⟨h1, h2, h3⟩ := h
  rw [h2, List.drop_length]
  simp [goO]

/-- CheckItems. -/
def chkI (Q : List It) : Int × Int :=
  if askI Q ≠ 0 then (0, askI Q) else if (goO Q []).1 < Q.length ∨ 0 < (goO Q []).2.length then (((goO Q []).1 : Int), 12) else (0, 0)

/-- OpenAt. -/
def openI (Q : List It) (p : Int) : List Int × Int :=
  if askI Q ≠ 0 then ([], askI Q) else if p < 0 ∨ (Q.length : Int) < p then ([], 4) else if (goO (Q.take p.toNat) []).1 < p.toNat then ([], 12) else ((goO (Q.take p.toNat) []).2, 0)

/-- How many cells of code an item is. -/
def cellsI (k : Int) : Nat := if k = 5 ∨ k = 6 then 0 else if k = 1 ∨ k = 13 ∨ k = 10 then 1 else 2

theorem cellsI_le (k : Int) : cellsI k ≤ 2 := by
  unfold cellsI
  split
  · omega
  · split <;> omega

/-- The code's length without its end. -/
def sumI : List It → Nat
  | [] => 0
  | x :: r => cellsI x.k + sumI r

theorem sumI_snoc (Q : List It) (x : It) : sumI (Q ++ [x]) = sumI Q + cellsI x.k := by
  induction Q with
  | nil => simp [sumI]
  | cons y r ih => simp [sumI, ih]; omega

theorem sumI_take {Q : List It} {k : Nat} (h : k < Q.length) : sumI (Q.take (k + 1)) = sumI (Q.take k) + cellsI Q[k].k := by
  rw [List.take_succ_eq_append_getElem h, sumI_snoc]

theorem sumI_le (Q : List It) : sumI Q ≤ 2 * Q.length := by
  induction Q with
  | nil => simp [sumI]
  | cons y r ih => have := cellsI_le y.k; simp [sumI]; omega

/-- SizeOf. -/
def sizeI (Q : List It) : Int × Int := if askI Q ≠ 0 then (0, askI Q) else ((sumI Q : Int) + 1, 0)

end Go.Proofs.YthnbaeamekolmaaGreatDoor
