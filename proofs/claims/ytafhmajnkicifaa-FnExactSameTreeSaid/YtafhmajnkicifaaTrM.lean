/- Trees of items: plain mathematics. -/
import Derived.Test.YtafhmajnkicifaaCtlM
namespace Go.Proofs.Ytafhmajnkicifaa
open Go.RowKit
set_option linter.unusedVariables false
set_option linter.unusedSimpArgs false

/-- A node: its kind, its value, its two parts. -/
inductive Nd where
  | mk (k v : Int) (a b : List Nd)

/-- The nodes of items up to one that ends a part: the nodes, that item's kind (0 at the end), what is behind it. -/
def prs : Nat → List It → List Nd × Int × List It
  | 0, _ => ([], 0, [])
  | _ + 1, [] => ([], 0, [])
  | n + 1, x :: R =>
    if x.k = 3 then
      if (prs n R).2.1 = 5 then (.mk 3 0 (prs n R).1 [] :: (prs n (prs n R).2.2).1, (prs n (prs n R).2.2).2)
      else (.mk 3 1 (prs n R).1 (prs n (prs n R).2.2).1 :: (prs n (prs n (prs n R).2.2).2.2).1, (prs n (prs n (prs n R).2.2).2.2).2)
    else if x.k = 6 ∨ x.k = 10 then
      if (prs n R).2.1 = 8 then (.mk 8 0 (prs n R).1 (prs n (prs n R).2.2).1 :: (prs n (prs n (prs n R).2.2).2.2).1, (prs n (prs n (prs n R).2.2).2.2).2)
      else (.mk (prs n R).2.1 0 (prs n R).1 [] :: (prs n (prs n R).2.2).1, (prs n (prs n R).2.2).2)
    else if x.k = 1 ∨ x.k = 2 ∨ x.k = 13 then (.mk x.k x.v [] [] :: (prs n R).1, (prs n R).2)
    else ([], x.k, R)

/-- All items fit where these are open, and all is closed behind them. -/
def Good (Q : List It) (o : List Int) : Prop := (∀ x ∈ Q, 1 ≤ x.k ∧ x.k ≤ 13) ∧ goO Q o = (Q.length, [])

theorem good_nil {o : List Int} (h : Good [] o) : o = [] := by
  have := congrArg Prod.snd h.2
  simpa [goO] using this

theorem good_cons {x : It} {R : List It} {o : List Int} (h : Good (x :: R) o) : (1 ≤ x.k ∧ x.k ≤ 13) ∧ fitB o x.k = true ∧ Good R (nextO o x.k) := by
  refine ⟨h.1 x (by simp), ?_⟩
  have h2 := h.2
  unfold goO at h2
  by_cases hf : fitB o x.k = true
  · rw [if_pos hf] at h2
    simp only [List.length_cons, Prod.mk.injEq, Nat.add_right_cancel_iff] at h2
    exact ⟨hf, fun y hy => h.1 y (by simp [hy]), Prod.ext h2.1 h2.2⟩
  · rw [if_neg hf] at h2
    simp at h2

/-- What ends a part. -/
def EndOf (o : List Int) (e : Int) (R : List It) (m : Nat) : Prop :=
  (o = [] → e = 0 ∧ R = []) ∧ (o ≠ [] → fitB o e = true ∧ (e = 4 ∨ e = 5 ∨ e = 7 ∨ e = 8 ∨ e = 9 ∨ e = 11 ∨ e = 12) ∧ Good R (nextO o e)) ∧ R.length ≤ m

theorem fit_top {o : List Int} {j e : Int} (h : fitB (o ++ [j]) e = true) (he : e = 4 ∨ e = 5 ∨ e = 7 ∨ e = 8 ∨ e = 9 ∨ e = 11 ∨ e = 12) :
    (e = 4 → j = 3) ∧ (e = 5 → j = 3 ∨ j = 4) ∧ (e = 7 ∨ e = 8 → j = 6) ∧ (e = 9 → j = 8) ∧ (e = 11 ∨ e = 12 → j = 10) := by
  unfold fitB at h
  simp only [topO_snoc] at h
  rcases he with rfl | rfl | rfl | rfl | rfl | rfl | rfl <;> simp at h <;> omega

theorem next_up (o : List Int) {k : Int} (h : k = 3 ∨ k = 6 ∨ k = 10) : nextO o k = o ++ [k] := by unfold nextO; rw [if_pos h]

theorem next_flip (o : List Int) (j : Int) {k : Int} (h : k = 4 ∨ k = 8) : nextO (o ++ [j]) k = o ++ [k] := by
  unfold nextO
  rw [if_neg (by omega), if_pos h, List.dropLast_concat]

theorem next_down (o : List Int) (j : Int) {k : Int} (h : k = 5 ∨ k = 7 ∨ k = 9 ∨ k = 11 ∨ k = 12) : nextO (o ++ [j]) k = o := by
  unfold nextO
  rw [if_neg (by omega), if_neg (by omega), if_pos h, List.dropLast_concat]

theorem next_same (o : List Int) {k : Int} (h : k = 1 ∨ k = 2 ∨ k = 13) : nextO o k = o := by
  unfold nextO
  rw [if_neg (by omega), if_neg (by omega), if_neg (by omega)]

/-- Behind nodes stands what ends them. -/
theorem prs_end (n : Nat) : ∀ (Q : List It) (o : List Int), Q.length < n → Good Q o → EndOf o (prs n Q).2.1 (prs n Q).2.2 Q.length := by
  induction n with
  | zero => intro Q o h; omega
  | succ n ih =>
    intro Q o hl hg
    cases Q with
    | nil =>
      have := good_nil hg
      subst this
      exact ⟨fun _ => ⟨rfl, rfl⟩, fun h => absurd rfl h, Nat.zero_le _⟩
    | cons x R =>
      obtain ⟨hk, hf, hr⟩ := good_cons hg
      simp only [List.length_cons] at hl ⊢
      have grow : ∀ {e S m}, EndOf o e S m → m ≤ R.length → EndOf o e S (R.length + 1) := fun h hm => ⟨h.1, h.2.1, by have := h.2.2; omega⟩
      unfold prs
      by_cases h3 : x.k = 3
      · rw [if_pos h3]
        rw [h3, next_up o (by omega)] at hr
        have p := ih R (o ++ [3]) (by omega) hr
        obtain ⟨p1, p2, p3⟩ := p.2.1 (by simp)
        have pl := p.2.2
        have pt := fit_top p1 p2
        by_cases h5 : (prs n R).2.1 = 5
        · rw [if_pos h5]
          rw [h5, next_down o 3 (by omega)] at p3
          exact grow (ih _ o (by omega) p3) pl
        · rw [if_neg h5]
          have h4 : (prs n R).2.1 = 4 := by omega
          rw [h4, next_flip o 3 (by omega)] at p3
          have q := ih _ (o ++ [4]) (by omega) p3
          obtain ⟨q1, q2, q3⟩ := q.2.1 (by simp)
          have ql := q.2.2
          have qt := fit_top q1 q2
          have h5 : (prs n (prs n R).2.2).2.1 = 5 := by omega
          rw [h5, next_down o 4 (by omega)] at q3
          exact grow (ih _ o (by omega) q3) (by omega)
      · rw [if_neg h3]
        by_cases h6 : x.k = 6 ∨ x.k = 10
        · rw [if_pos h6]
          rw [next_up o (by omega)] at hr
          have p := ih R (o ++ [x.k]) (by omega) hr
          obtain ⟨p1, p2, p3⟩ := p.2.1 (by simp)
          have pl := p.2.2
          have pt := fit_top p1 p2
          by_cases h8 : (prs n R).2.1 = 8
          · rw [if_pos h8]
            rw [h8, next_flip o _ (by omega)] at p3
            have q := ih _ (o ++ [8]) (by omega) p3
            obtain ⟨q1, q2, q3⟩ := q.2.1 (by simp)
            have ql := q.2.2
            have qt := fit_top q1 q2
            have h9 : (prs n (prs n R).2.2).2.1 = 9 := by omega
            rw [h9, next_down o _ (by omega)] at q3
            exact grow (ih _ o (by omega) q3) (by omega)
          · rw [if_neg h8]
            rw [next_down o _ (by omega)] at p3
            exact grow (ih _ o (by omega) p3) pl
        · rw [if_neg h6]
          by_cases h1 : x.k = 1 ∨ x.k = 2 ∨ x.k = 13
          · rw [if_pos h1]
            rw [next_same o h1] at hr
            exact grow (ih R o (by omega) hr) (Nat.le_refl _)
          · rw [if_neg h1]
            refine ⟨fun h => ?_, fun h => ⟨hf, by show x.k = 4 ∨ x.k = 5 ∨ x.k = 7 ∨ x.k = 8 ∨ x.k = 9 ∨ x.k = 11 ∨ x.k = 12; omega, hr⟩, by show R.length ≤ R.length + 1; omega⟩
            subst h
            exfalso
            unfold fitB topO at hf
            rcases (by omega : x.k = 4 ∨ x.k = 5 ∨ x.k = 7 ∨ x.k = 8 ∨ x.k = 9 ∨ x.k = 11 ∨ x.k = 12) with e | e | e | e | e | e | e <;> rw [e] at hf <;> simp at hf

/-- The tree of items that fit. -/
def treeI (Q : List It) : List Nd := (prs (Q.length + 1) Q).1

end Go.Proofs.Ytafhmajnkicifaa
