/- Items that fit wherever enough may be opened: plain mathematics. -/
import Derived.Test.YtafhmajnkicifaaCtlM
namespace Go.Proofs.Ytafhmajnkicifaa
open Go.RowKit
set_option linter.unusedVariables false
set_option linter.unusedSimpArgs false

/-- Each item is valid, all that they open they close, and nothing else, where d more may be opened. -/
def Fits (d : Nat) (Q : List It) : Prop := (∀ x ∈ Q, itB x = true) ∧ ∀ (o : List Int) (R : List It), o.length + d ≤ 8 → goO (Q ++ R) o = (Q.length + (goO R o).1, (goO R o).2)

theorem fits_nil (d : Nat) : Fits d [] := ⟨by simp, fun o R _ => by simp⟩

theorem fits_app {d : Nat} {P Q : List It} (p : Fits d P) (q : Fits d Q) : Fits d (P ++ Q) :=
  ⟨fun x hx => (List.mem_append.1 hx).elim (p.1 x) (q.1 x), fun o R ho => by rw [List.append_assoc, p.2 o _ ho, q.2 o R ho]; simp [Nat.add_assoc]⟩

theorem fits_mono {d e : Nat} {Q : List It} (q : Fits d Q) (h : d ≤ e) : Fits e Q := ⟨q.1, fun o R ho => q.2 o R (by omega)⟩

theorem go_step {x : It} {o : List Int} {R : List It} (h : fitB o x.k = true) : goO (x :: R) o = ((goO R (nextO o x.k)).1 + 1, (goO R (nextO o x.k)).2) := by
  rw [goO, if_pos h]

theorem fits_one {x : It} (hb : itB x = true) (hk : x.k = 1 ∨ x.k = 2 ∨ x.k = 13) : Fits 0 [x] := by
  refine ⟨by simpa using hb, fun o R _ => ?_⟩
  have hf : fitB o x.k = true := by rcases hk with h | h | h <;> (rw [h]; rfl)
  have hn : nextO o x.k = o := by rcases hk with h | h | h <;> (rw [h]; rfl)
  rw [List.singleton_append, go_step hf, hn]
  simp [Nat.add_comm]

theorem itB_ctl {k : Int} (h : 3 ≤ k ∧ k ≤ 13) : itB ⟨k, 0⟩ = true := by
  unfold itB
  rw [if_neg (by show ¬ k = 1; omega), if_neg (by show ¬ k = 2; omega)]
  simp; omega

theorem fit_snoc (o : List Int) {j k : Int} (h : (j = 3 ∧ (k = 4 ∨ k = 5)) ∨ (j = 4 ∧ k = 5) ∨ (j = 6 ∧ (k = 7 ∨ k = 8)) ∨ (j = 8 ∧ k = 9) ∨ (j = 10 ∧ (k = 11 ∨ k = 12))) : fitB (o ++ [j]) k = true := by
  unfold fitB
  simp only [topO_snoc]
  rcases h with ⟨rfl, rfl | rfl⟩ | ⟨rfl, rfl⟩ | ⟨rfl, rfl | rfl⟩ | ⟨rfl, rfl⟩ | ⟨rfl, rfl | rfl⟩ <;> rfl

theorem fit_open {o : List Int} {k : Int} (h : k = 3 ∨ k = 6 ∨ k = 10) (ho : o.length < 8) : fitB o k = true := by
  unfold fitB
  rw [if_pos h]; exact decide_eq_true ho

theorem next_open (o : List Int) {k : Int} (h : k = 3 ∨ k = 6 ∨ k = 10) : nextO o k = o ++ [k] := by unfold nextO; rw [if_pos h]

theorem next_turn (o : List Int) (j : Int) {k : Int} (h : k = 4 ∨ k = 8) : nextO (o ++ [j]) k = o ++ [k] := by
  unfold nextO
  rw [if_neg (by omega), if_pos h, List.dropLast_concat]

theorem next_close (o : List Int) (j : Int) {k : Int} (h : k = 5 ∨ k = 7 ∨ k = 9 ∨ k = 11 ∨ k = 12) : nextO (o ++ [j]) k = o := by
  unfold nextO
  rw [if_neg (by omega), if_neg (by omega), if_pos h, List.dropLast_concat]

/-- What is opened, items, what closes it. -/
theorem fits_two {d : Nat} {Q : List It} (q : Fits d Q) {j k : Int} (hj : j = 3 ∨ j = 6 ∨ j = 10) (hk : (j = 3 ∧ k = 5) ∨ (j = 6 ∧ k = 7) ∨ (j = 10 ∧ (k = 11 ∨ k = 12))) : Fits (d + 1) ([⟨j, 0⟩] ++ Q ++ [⟨k, 0⟩]) := by
  refine ⟨fun x hx => ?_, fun o R ho => ?_⟩
  · simp only [List.mem_append, List.mem_singleton] at hx
    rcases hx with (rfl | hx) | rfl
    · exact itB_ctl (by omega)
    · exact q.1 x hx
    · exact itB_ctl (by omega)
  · rw [List.append_assoc, List.append_assoc, List.singleton_append, go_step (fit_open hj (by omega)), next_open o hj, List.append_assoc, q.2 _ _ (by simp; omega), List.singleton_append, go_step (fit_snoc o (k := k) (by omega)), next_close o j (k := k) (by omega)]
    simp; omega

/-- What is opened, items, what turns it, items, what closes it. -/
theorem fits_three {d : Nat} {Q Q2 : List It} (q : Fits d Q) (q2 : Fits d Q2) {j i k : Int} (h : (j = 3 ∧ i = 4 ∧ k = 5) ∨ (j = 6 ∧ i = 8 ∧ k = 9)) : Fits (d + 1) ([⟨j, 0⟩] ++ Q ++ [⟨i, 0⟩] ++ Q2 ++ [⟨k, 0⟩]) := by
  refine ⟨fun x hx => ?_, fun o R ho => ?_⟩
  · simp only [List.mem_append, List.mem_singleton] at hx
    rcases hx with (((rfl | hx) | rfl) | hx) | rfl
    · exact itB_ctl (by omega)
    · exact q.1 x hx
    · exact itB_ctl (by omega)
    · exact q2.1 x hx
    · exact itB_ctl (by omega)
  · simp only [List.append_assoc, List.singleton_append]
    rw [List.cons_append, go_step (fit_open (k := j) (by omega) (by omega)), next_open o (k := j) (by omega)]
    simp only [List.append_assoc, List.cons_append]
    rw [q.2 _ _ (by simp; omega), go_step (fit_snoc o (k := i) (by omega)), next_turn o j (k := i) (by omega), q2.2 _ _ (by simp; omega)]
    simp only [List.singleton_append, List.nil_append]
    rw [go_step (fit_snoc o (k := k) (by omega)), next_close o i (k := k) (by omega)]
    simp; omega

theorem fits_go {d : Nat} {Q : List It} (q : Fits d Q) (h : d ≤ 8) : goO Q [] = (Q.length, []) := by
  have := q.2 [] [] (by simpa using h)
  rw [List.append_nil] at this
  rw [this]; simp [goO]

end Go.Proofs.Ytafhmajnkicifaa
