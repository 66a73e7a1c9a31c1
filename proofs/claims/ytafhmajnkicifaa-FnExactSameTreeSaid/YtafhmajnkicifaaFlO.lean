/- The items of the tree of items are those items. Plain mathematics. -/
import Derived.Test.YtafhmajnkicifaaFlN
namespace Go.Proofs.Ytafhmajnkicifaa
open Go.RowKit
set_option linter.unusedVariables false
set_option linter.unusedSimpArgs false

/-- What is behind nodes. -/
def tlO (o : List Int) (p : Int × List It) : List It := if o = [] then [] else ⟨p.1, 0⟩ :: p.2

def Back (D : Nat) (Q : List It) (o : List Int) (p : List Nd × Int × List It) : Prop := okT D D p.1 = true ∧ DepB D p.1 ∧ Q = itT D p.1 ++ tlO o p.2

theorem back_cons {D : Nat} {o : List Int} {x : It} {R R2 : List It} {y : Nd} {p : List Nd × Int × List It} (hb : Back (D + 1) R2 o p) (hn : nodB y = true) (ha : okT D D y.a = true) (hb' : okT D D y.b = true) (da : DepB D y.a) (db : DepB D y.b)
    (he : x :: R = itN (itT D) y ++ R2) : Back (D + 1) (x :: R) o (y :: p.1, p.2) := by
  obtain ⟨h1, h2, h3⟩ := hb
  refine ⟨?_, ?_, ?_⟩
  · show okT (D + 1) (D + 1) (y :: p.1) = true
    rw [okT_cons, hn, h1, show D + 1 - 1 = D from rfl, ha, hb']; simp
  · intro z hz
    rcases List.mem_cons.1 hz with rfl | hz
    · exact ⟨da, db⟩
    · exact h2 z hz
  · show x :: R = itT (D + 1) (y :: p.1) ++ tlO o p.2
    rw [itT_cons, List.append_assoc, ← h3, he]

theorem itB_zero {x : It} (h : itB x = true) (hk : 3 ≤ x.k) : x.v = 0 := by
  unfold itB at h
  rw [if_neg (by omega), if_neg (by omega)] at h
  simp at h
  exact h.2

theorem it_eta {x : It} {k : Int} (hk : x.k = k) (hv : x.v = 0) : x = ⟨k, 0⟩ := by cases x; simp at hk hv; rw [hk, hv]

theorem okT_empty (D : Nat) : okT D D [] = true := okT_nil D D

theorem dep_nil (D : Nat) : DepB D [] := by
  cases D with
  | zero => exact rfl
  | succ D => intro x hx; cases hx

theorem prs_back (n : Nat) : ∀ (Q : List It) (o : List Int), Q.length < n → Good Q o → (∀ x ∈ Q, itB x = true) → o.length ≤ 8 → Back (9 - o.length) Q o (prs n Q) := by
  induction n with
  | zero => intro Q o h; omega
  | succ n ih =>
    intro Q o hl hg hq ho
    cases Q with
    | nil =>
      have := good_nil hg
      subst this
      exact ⟨okT_nil _ _, dep_nil _, by simp [prs, itT_nil, tlO]⟩
    | cons x R =>
      obtain ⟨hk, hf, hr⟩ := good_cons hg
      simp only [List.length_cons] at hl
      have hR : ∀ y ∈ R, itB y = true := fun y hy => hq y (by simp [hy])
      have hx := hq x (by simp)
      obtain ⟨D, hD⟩ : ∃ D, 9 - o.length = D + 1 := ⟨8 - o.length, by omega⟩
      rw [hD]
      have room : x.k = 3 ∨ x.k = 6 ∨ x.k = 10 → o.length < 8 := fun h => by
        unfold fitB at hf
        rcases h with h | h | h <;> rw [h] at hf <;> simp at hf <;> omega
      have sub : ∀ j : Int, 9 - (o ++ [j]).length = D := fun j => by simp only [List.length_append, List.length_singleton]; omega
      have ne : ∀ (j : Int) (p : Int × List It), tlO (o ++ [j]) p = ⟨p.1, 0⟩ :: p.2 := fun j p => by unfold tlO; rw [if_neg (by simp)]
      unfold prs
      by_cases h3 : x.k = 3
      · rw [if_pos h3]
        have o8 := room (.inl h3)
        have ex := it_eta h3 (itB_zero hx (by omega))
        rw [h3, next_up o (by omega)] at hr
        have b1 := ih R (o ++ [3]) (by omega) hr hR (by simp; omega)
        rw [sub] at b1
        obtain ⟨k1, d1, e1⟩ := b1
        rw [ne] at e1
        have p := prs_end n R (o ++ [3]) (by omega) hr
        obtain ⟨p1, p2, p3⟩ := p.2.1 (by simp)
        have pl := p.2.2
        have pt := fit_top p1 p2
        have hR2 : ∀ y ∈ (prs n R).2.2, itB y = true := fun y hy => hR y (by rw [e1]; simp [hy])
        by_cases h5 : (prs n R).2.1 = 5
        · rw [if_pos h5]
          rw [h5, next_down o 3 (by omega)] at p3
          rw [h5] at e1
          have b2 := ih _ o (by omega) p3 hR2 ho
          rw [hD] at b2
          exact back_cons (y := .mk 3 0 (prs n R).1 []) b2 (by simp [nodB, wrdB, Nd.k, Nd.v, Nd.a, Nd.b]) k1 (okT_nil _ _) d1 (dep_nil _)
            (by rw [ex]; conv => lhs; rw [e1]
                simp [itN, wrdB, opnK, midK, endK, Nd.k, Nd.v, Nd.a, Nd.b])
        · rw [if_neg h5]
          have h4 : (prs n R).2.1 = 4 := by omega
          rw [h4, next_flip o 3 (by omega)] at p3
          rw [h4] at e1
          have b2 := ih _ (o ++ [4]) (by omega) p3 hR2 (by simp; omega)
          rw [sub] at b2
          obtain ⟨k2, d2, e2⟩ := b2
          rw [ne] at e2
          have q := prs_end n _ (o ++ [4]) (by omega) p3
          obtain ⟨q1, q2, q3⟩ := q.2.1 (by simp)
          have ql := q.2.2
          have qt := fit_top q1 q2
          have h52 : (prs n (prs n R).2.2).2.1 = 5 := by omega
          rw [h52, next_down o 4 (by omega)] at q3
          rw [h52] at e2
          have hR3 : ∀ y ∈ (prs n (prs n R).2.2).2.2, itB y = true := fun y hy => hR2 y (by rw [e2]; simp [hy])
          have b3 := ih _ o (by omega) q3 hR3 ho
          rw [hD] at b3
          exact back_cons (y := .mk 3 1 (prs n R).1 (prs n (prs n R).2.2).1) b3 (by simp [nodB, wrdB, Nd.k, Nd.v, Nd.a, Nd.b]) k1 k2 d1 d2
            (by rw [ex]; conv => lhs; rw [e1, e2]
                simp [itN, wrdB, opnK, midK, endK, Nd.k, Nd.v, Nd.a, Nd.b])
      · rw [if_neg h3]
        by_cases h6 : x.k = 6 ∨ x.k = 10
        · rw [if_pos h6]
          have o8 := room (.inr h6)
          have xv := itB_zero hx (by omega)
          rw [next_up o (by omega)] at hr
          have b1 := ih R (o ++ [x.k]) (by omega) hr hR (by simp; omega)
          rw [sub] at b1
          obtain ⟨k1, d1, e1⟩ := b1
          rw [ne] at e1
          have p := prs_end n R (o ++ [x.k]) (by omega) hr
          obtain ⟨p1, p2, p3⟩ := p.2.1 (by simp)
          have pl := p.2.2
          have pt := fit_top p1 p2
          have hR2 : ∀ y ∈ (prs n R).2.2, itB y = true := fun y hy => hR y (by rw [e1]; simp [hy])
          by_cases h8 : (prs n R).2.1 = 8
          · rw [if_pos h8]
            have k6 : x.k = 6 := by omega
            have ex := it_eta k6 xv
            rw [h8, next_flip o _ (by omega)] at p3
            rw [h8] at e1
            have b2 := ih _ (o ++ [8]) (by omega) p3 hR2 (by simp; omega)
            rw [sub] at b2
            obtain ⟨k2, d2, e2⟩ := b2
            rw [ne] at e2
            have q := prs_end n _ (o ++ [8]) (by omega) p3
            obtain ⟨q1, q2, q3⟩ := q.2.1 (by simp)
            have ql := q.2.2
            have qt := fit_top q1 q2
            have h9 : (prs n (prs n R).2.2).2.1 = 9 := by omega
            rw [h9, next_down o _ (by omega)] at q3
            rw [h9] at e2
            have hR3 : ∀ y ∈ (prs n (prs n R).2.2).2.2, itB y = true := fun y hy => hR2 y (by rw [e2]; simp [hy])
            have b3 := ih _ o (by omega) q3 hR3 ho
            rw [hD] at b3
            exact back_cons (y := .mk 8 0 (prs n R).1 (prs n (prs n R).2.2).1) b3 (by simp [nodB, wrdB, Nd.k, Nd.v, Nd.a, Nd.b]) k1 k2 d1 d2
              (by rw [ex]; conv => lhs; rw [e1, e2]
                  simp [itN, wrdB, opnK, midK, endK, Nd.k, Nd.v, Nd.a, Nd.b])
          · rw [if_neg h8]
            rw [next_down o _ (by omega)] at p3
            have b2 := ih _ o (by omega) p3 hR2 ho
            rw [hD] at b2
            have hc : (x.k = 6 ∧ (prs n R).2.1 = 7) ∨ (x.k = 10 ∧ (prs n R).2.1 = 11) ∨ (x.k = 10 ∧ (prs n R).2.1 = 12) := by omega
            rcases hc with ⟨c1, c2⟩ | ⟨c1, c2⟩ | ⟨c1, c2⟩
            all_goals
              have ex := it_eta c1 xv
              rw [c2] at e1 ⊢
              refine back_cons (y := .mk _ 0 (prs n R).1 []) b2 (by simp [nodB, wrdB, Nd.k, Nd.v, Nd.a, Nd.b]) k1 (okT_nil _ _) d1 (dep_nil _) ?_
              rw [ex]
              conv => lhs; rw [e1]
              simp [itN, wrdB, opnK, midK, endK, Nd.k, Nd.v, Nd.a, Nd.b]
        · rw [if_neg h6]
          by_cases h1 : x.k = 1 ∨ x.k = 2 ∨ x.k = 13
          · rw [if_pos h1]
            rw [next_same o h1] at hr
            have b2 := ih R o (by omega) hr hR ho
            rw [hD] at b2
            have hw : wrdB (.mk x.k x.v [] []) = true := by unfold wrdB Nd.k; simp; omega
            exact back_cons (y := .mk x.k x.v [] []) b2 (by unfold nodB; rw [if_pos hw]; simp [Nd.k, Nd.v, Nd.a, Nd.b, hx]) (okT_nil _ _) (okT_nil _ _) (dep_nil _) (dep_nil _)
              (by unfold itN; rw [if_pos hw]; rfl)
          · rw [if_neg h1]
            have o0 : o ≠ [] := by
              intro h
              subst h
              unfold fitB topO at hf
              rcases (by omega : x.k = 4 ∨ x.k = 5 ∨ x.k = 7 ∨ x.k = 8 ∨ x.k = 9 ∨ x.k = 11 ∨ x.k = 12) with e | e | e | e | e | e | e <;> rw [e] at hf <;> simp at hf
            refine ⟨okT_nil _ _, dep_nil _, ?_⟩
            show x :: R = itT (D + 1) [] ++ tlO o (x.k, R)
            rw [itT_nil]
            unfold tlO
            rw [if_neg o0]
            simp
            exact it_eta rfl (itB_zero hx (by omega))

/-- The tree of items that fit, and its items. -/
theorem tree_back {Q : List It} (hg : Good Q []) (hq : ∀ x ∈ Q, itB x = true) : okT 9 9 (treeI Q) = true ∧ DepB 9 (treeI Q) ∧ itT 9 (treeI Q) = Q := by
  have b := prs_back (Q.length + 1) Q [] (by omega) hg hq (by simp)
  obtain ⟨h1, h2, h3⟩ := b
  exact ⟨h1, h2, by simpa [tlO, treeI] using h3.symm⟩

end Go.Proofs.Ytafhmajnkicifaa
