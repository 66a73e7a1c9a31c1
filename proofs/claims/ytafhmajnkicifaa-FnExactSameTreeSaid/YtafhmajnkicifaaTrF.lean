/- Reading a tree: as much fuel as one likes, step by step. Plain mathematics. -/
import Derived.Test.YtafhmajnkicifaaTrM
namespace Go.Proofs.Ytafhmajnkicifaa
open Go.RowKit
set_option linter.unusedVariables false
set_option linter.unusedSimpArgs false

theorem prs_len (n : Nat) : ∀ Q : List It, (prs n Q).2.2.length ≤ Q.length := by
  induction n with
  | zero => intro Q; simp [prs]
  | succ n ih =>
    intro Q
    cases Q with
    | nil => simp [prs]
    | cons x R =>
      have h1 := ih R
      have h2 := ih (prs n R).2.2
      have h3 := ih (prs n (prs n R).2.2).2.2
      simp only [List.length_cons]
      unfold prs
      repeat' split
      all_goals (simp only; omega)

theorem prs_fuel (n : Nat) : ∀ (m : Nat) (Q : List It), Q.length < n → Q.length < m → prs n Q = prs m Q := by
  induction n with
  | zero => intro m Q h; omega
  | succ n ih =>
    intro m Q hn hm
    cases m with
    | zero => omega
    | succ m =>
      cases Q with
      | nil => rfl
      | cons x R =>
        simp only [List.length_cons] at hn hm
        have l1 := prs_len m R
        have l2 := prs_len m (prs m R).2.2
        unfold prs
        rw [ih m R (by omega) (by omega), ih m (prs m R).2.2 (by omega) (by omega), ih m (prs m (prs m R).2.2).2.2 (by omega) (by omega)]

/-- One node and what is behind it: how the reading goes on. -/
def StepT (N : Nat) (x : It) (S : List It) (y : Nd) (T : List It) : Prop := prs N (x :: S) = (y :: (prs N T).1, (prs N T).2) ∧ T.length ≤ S.length

theorem prs_cons {N : Nat} {x : It} {S : List It} (h : (x :: S).length < N) : prs N (x :: S) =
    if x.k = 3 then
      if (prs N S).2.1 = 5 then (.mk 3 0 (prs N S).1 [] :: (prs N (prs N S).2.2).1, (prs N (prs N S).2.2).2)
      else (.mk 3 1 (prs N S).1 (prs N (prs N S).2.2).1 :: (prs N (prs N (prs N S).2.2).2.2).1, (prs N (prs N (prs N S).2.2).2.2).2)
    else if x.k = 6 ∨ x.k = 10 then
      if (prs N S).2.1 = 8 then (.mk 8 0 (prs N S).1 (prs N (prs N S).2.2).1 :: (prs N (prs N (prs N S).2.2).2.2).1, (prs N (prs N (prs N S).2.2).2.2).2)
      else (.mk (prs N S).2.1 0 (prs N S).1 [] :: (prs N (prs N S).2.2).1, (prs N (prs N S).2.2).2)
    else if x.k = 1 ∨ x.k = 2 ∨ x.k = 13 then (.mk x.k x.v [] [] :: (prs N S).1, (prs N S).2)
    else ([], x.k, S) := by
  cases N with
  | zero => omega
  | succ n =>
    simp only [List.length_cons] at h
    have l1 := prs_len (n + 1) S
    have l2 := prs_len (n + 1) (prs (n + 1) S).2.2
    rw [prs, prs_fuel n (n + 1) S (by omega) (by omega), prs_fuel n (n + 1) (prs (n + 1) S).2.2 (by omega) (by omega), prs_fuel n (n + 1) (prs (n + 1) (prs (n + 1) S).2.2).2.2 (by omega) (by omega)]

theorem step_word {N : Nat} {x : It} {S : List It} (h : (x :: S).length < N) (hk : x.k = 1 ∨ x.k = 2 ∨ x.k = 13) : StepT N x S (.mk x.k x.v [] []) S :=
  ⟨by rw [prs_cons h, if_neg (by omega), if_neg (by omega), if_pos hk], Nat.le_refl _⟩

theorem step_if {N : Nat} {x : It} {S : List It} (h : (x :: S).length < N) (hk : x.k = 3) (h5 : (prs N S).2.1 = 5) : StepT N x S (.mk 3 0 (prs N S).1 []) (prs N S).2.2 :=
  ⟨by rw [prs_cons h, if_pos hk, if_pos h5], prs_len _ _⟩

theorem step_else {N : Nat} {x : It} {S : List It} (h : (x :: S).length < N) (hk : x.k = 3) (h5 : (prs N S).2.1 ≠ 5) : StepT N x S (.mk 3 1 (prs N S).1 (prs N (prs N S).2.2).1) (prs N (prs N S).2.2).2.2 :=
  ⟨by rw [prs_cons h, if_pos hk, if_neg h5], Nat.le_trans (prs_len _ _) (prs_len _ _)⟩

theorem step_loop {N : Nat} {x : It} {S : List It} (h : (x :: S).length < N) (hk : x.k = 6 ∨ x.k = 10) (h8 : (prs N S).2.1 ≠ 8) : StepT N x S (.mk (prs N S).2.1 0 (prs N S).1 []) (prs N S).2.2 :=
  ⟨by rw [prs_cons h, if_neg (by omega), if_pos hk, if_neg h8], prs_len _ _⟩

theorem step_while {N : Nat} {x : It} {S : List It} (h : (x :: S).length < N) (hk : x.k = 6 ∨ x.k = 10) (h8 : (prs N S).2.1 = 8) : StepT N x S (.mk 8 0 (prs N S).1 (prs N (prs N S).2.2).1) (prs N (prs N S).2.2).2.2 :=
  ⟨by rw [prs_cons h, if_neg (by omega), if_pos hk, if_pos h8], Nat.le_trans (prs_len _ _) (prs_len _ _)⟩

theorem step_stop {N : Nat} {x : It} {S : List It} (h : (x :: S).length < N) (hk : x.k ≠ 3 ∧ x.k ≠ 6 ∧ x.k ≠ 10 ∧ x.k ≠ 1 ∧ x.k ≠ 2 ∧ x.k ≠ 13) : prs N (x :: S) = ([], x.k, S) := by
  rw [prs_cons h, if_neg (by omega), if_neg (by omega), if_neg (by omega)]

end Go.Proofs.Ytafhmajnkicifaa
