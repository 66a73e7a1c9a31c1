/- Items and their tree: each is recovered from the other. Plain mathematics. -/
import Derived.Test.YtafhmajnkicifaaFlM
import Derived.Test.YtafhmajnkicifaaTrF
namespace Go.Proofs.Ytafhmajnkicifaa
open Go.RowKit
set_option linter.unusedVariables false
set_option linter.unusedSimpArgs false

theorem nd_eta (x : Nd) : x = .mk x.k x.v x.a x.b := by cases x; rfl

/-- Nodes that are at most d levels deep. -/
def DepB : Nat → List Nd → Prop
  | 0, L => L = []
  | d + 1, L => ∀ x ∈ L, DepB d x.a ∧ DepB d x.b

theorem nds_dep (d : Nat) : ∀ {w : World} {v : Value} {L : List Nd}, Nds d w v L → DepB d L := by
  induction d with
  | zero => intro w v L h; exact h.1
  | succ d ih =>
    intro w v L h x hx
    obtain ⟨h1, A, c, hv, hc⟩ := h
    obtain ⟨k, hk, rfl⟩ := List.getElem_of_mem hx
    obtain ⟨ad, _, hd⟩ := hc (by omega)
    obtain ⟨_, _, _, _, _, _, _, _, _, _, ra, rb⟩ := hd k hk
    exact ⟨ih ra, ih rb⟩

theorem dep_up (d : Nat) : ∀ {L : List Nd}, DepB d L → DepB (d + 1) L := by
  induction d with
  | zero => intro L h x hx; rw [h] at hx; cases hx
  | succ d ih => intro L h x hx; exact ⟨ih (h x hx).1, ih (h x hx).2⟩

/-- Reading one node's items. -/
theorem prs_node (d r N : Nat) (x : Nd) (Q : List It) (ih : ∀ r (L : List Nd) (Q : List It), okT d r L = true → DepB d L → (itT d L ++ Q).length < N → prs N (itT d L ++ Q) = (L ++ (prs N Q).1, (prs N Q).2))
    (hn : nodB x = true) (ha : okT d r x.a = true) (hb : okT d r x.b = true) (da : DepB d x.a) (db : DepB d x.b) (hl : (itN (itT d) x ++ Q).length < N) : prs N (itN (itT d) x ++ Q) = (x :: (prs N Q).1, (prs N Q).2) := by
  by_cases hw : wrdB x = true
  · obtain ⟨q1, q2, _⟩ := nodB_word hn hw
    have e : itN (itT d) x = [⟨x.k, x.v⟩] := by unfold itN; exact if_pos hw
    rw [e] at hl ⊢
    have hk : x.k = 1 ∨ x.k = 2 ∨ x.k = 13 := by unfold wrdB at hw; simp at hw; omega
    have s := (step_word (N := N) (x := ⟨x.k, x.v⟩) (S := Q) hl hk).1
    show prs N (⟨x.k, x.v⟩ :: Q) = _
    rw [s]
    have : x = .mk x.k x.v [] [] := by
      have e := nd_eta x
      rwa [List.eq_nil_of_length_eq_zero q1, List.eq_nil_of_length_eq_zero q2] at e
    show (Nd.mk x.k x.v [] [] :: _, _) = _
    rw [← this]
  · have hw' : wrdB x = false := by simpa using hw
    have hk : x.k = 3 ∨ x.k = 7 ∨ x.k = 8 ∨ x.k = 11 ∨ x.k = 12 := by
      unfold nodB at hn
      rw [hw'] at hn
      by_cases h3 : x.k = 3
      · exact .inl h3
      by_cases h8 : x.k = 8
      · exact .inr (.inr (.inl h8))
      by_cases hq : x.k = 7 ∨ x.k = 11 ∨ x.k = 12
      · omega
      · simp [h3, h8, hq] at hn
    obtain ⟨k, v, a, b⟩ := x
    simp only [Nd.k, Nd.v, Nd.a, Nd.b] at *
    rcases hk with rfl | rfl | rfl | rfl | rfl
    · by_cases v0 : v = 0
      · subst v0
        have hb0 : b = [] := by simp [nodB, wrdB, Nd.k, Nd.v, Nd.a, Nd.b] at hn; exact hn
        subst hb0
        have e : itN (itT d) (.mk 3 0 a []) = ⟨3, 0⟩ :: (itT d a ++ [⟨5, 0⟩]) := by simp [itN, wrdB, opnK, midK, endK, Nd.k, Nd.v, Nd.a, Nd.b]
        rw [e] at hl ⊢
        have e2 : (⟨3, 0⟩ :: (itT d a ++ [(⟨5, 0⟩ : It)])) ++ Q = ⟨3, 0⟩ :: (itT d a ++ (⟨5, 0⟩ :: Q)) := by simp
        rw [e2] at hl ⊢
        have s1 := ih r a (⟨5, 0⟩ :: Q) ha da (by simp at hl ⊢; omega)
        have s2 := step_stop (N := N) (x := (⟨5, 0⟩ : It)) (S := Q) (by simp at hl ⊢; omega) (by decide)
        rw [s2] at s1
        simp only [List.append_nil] at s1
        have s := (step_if (N := N) (x := (⟨3, 0⟩ : It)) (S := itT d a ++ (⟨5, 0⟩ :: Q)) hl rfl (by rw [s1])).1
        rw [s, s1]
      · have v1 : v = 1 := by simp [nodB, wrdB, Nd.k, Nd.v, Nd.a, Nd.b, v0] at hn; exact of_decide_eq_true hn
        subst v1
        have e : itN (itT d) (.mk 3 1 a b) = ⟨3, 0⟩ :: (itT d a ++ (⟨4, 0⟩ :: (itT d b ++ [⟨5, 0⟩]))) := by simp [itN, wrdB, opnK, midK, endK, Nd.k, Nd.v, Nd.a, Nd.b]
        rw [e] at hl ⊢
        have e2 : (⟨3, 0⟩ :: (itT d a ++ (⟨4, 0⟩ :: (itT d b ++ [(⟨5, 0⟩ : It)])))) ++ Q = ⟨3, 0⟩ :: (itT d a ++ (⟨4, 0⟩ :: (itT d b ++ (⟨5, 0⟩ :: Q)))) := by simp
        rw [e2] at hl ⊢
        have s1 := ih r a (⟨4, 0⟩ :: (itT d b ++ (⟨5, 0⟩ :: Q))) ha da (by simp at hl ⊢; omega)
        have s2 := step_stop (N := N) (x := (⟨4, 0⟩ : It)) (S := itT d b ++ (⟨5, 0⟩ :: Q)) (by simp at hl ⊢; omega) (by decide)
        rw [s2] at s1
        simp only [List.append_nil] at s1
        have s3 := ih r b (⟨5, 0⟩ :: Q) hb db (by simp at hl ⊢; omega)
        have s4 := step_stop (N := N) (x := (⟨5, 0⟩ : It)) (S := Q) (by simp at hl ⊢; omega) (by decide)
        rw [s4] at s3
        simp only [List.append_nil] at s3
        have s := (step_else (N := N) (x := (⟨3, 0⟩ : It)) (S := itT d a ++ (⟨4, 0⟩ :: (itT d b ++ (⟨5, 0⟩ :: Q)))) hl rfl (by rw [s1]; show (4 : Int) ≠ 5; decide)).1
        rw [s, s1]
        show (Nd.mk 3 1 a (prs N (itT d b ++ (⟨5, 0⟩ :: Q))).1 :: (prs N (prs N (itT d b ++ (⟨5, 0⟩ :: Q))).2.2).1, (prs N (prs N (itT d b ++ (⟨5, 0⟩ :: Q))).2.2).2) = _
        rw [s3]
    · have hv : v = 0 ∧ b = [] := by simp [nodB, wrdB, Nd.k, Nd.v, Nd.a, Nd.b] at hn; exact ⟨of_decide_eq_true hn.1, hn.2⟩
      obtain ⟨rfl, rfl⟩ := hv
      have e : itN (itT d) (.mk 7 0 a []) = ⟨6, 0⟩ :: (itT d a ++ [⟨7, 0⟩]) := by simp [itN, wrdB, opnK, midK, endK, Nd.k, Nd.v, Nd.a, Nd.b]
      rw [e] at hl ⊢
      have e2 : (⟨6, 0⟩ :: (itT d a ++ [(⟨7, 0⟩ : It)])) ++ Q = ⟨6, 0⟩ :: (itT d a ++ (⟨7, 0⟩ :: Q)) := by simp
      rw [e2] at hl ⊢
      have s1 := ih r a (⟨7, 0⟩ :: Q) ha da (by simp at hl ⊢; omega)
      have s2 := step_stop (N := N) (x := (⟨7, 0⟩ : It)) (S := Q) (by simp at hl ⊢; omega) (by decide)
      rw [s2] at s1
      simp only [List.append_nil] at s1
      have s := (step_loop (N := N) (x := (⟨6, 0⟩ : It)) (S := itT d a ++ (⟨7, 0⟩ :: Q)) hl (.inl rfl) (by rw [s1]; show (7 : Int) ≠ 8; decide)).1
      rw [s, s1]
    · have hv : v = 0 := by simp [nodB, wrdB, Nd.k, Nd.v, Nd.a, Nd.b] at hn; exact of_decide_eq_true hn
      subst hv
      have e : itN (itT d) (.mk 8 0 a b) = ⟨6, 0⟩ :: (itT d a ++ (⟨8, 0⟩ :: (itT d b ++ [⟨9, 0⟩]))) := by simp [itN, wrdB, opnK, midK, endK, Nd.k, Nd.v, Nd.a, Nd.b]
      rw [e] at hl ⊢
      have e2 : (⟨6, 0⟩ :: (itT d a ++ (⟨8, 0⟩ :: (itT d b ++ [(⟨9, 0⟩ : It)])))) ++ Q = ⟨6, 0⟩ :: (itT d a ++ (⟨8, 0⟩ :: (itT d b ++ (⟨9, 0⟩ :: Q)))) := by simp
      rw [e2] at hl ⊢
      have s1 := ih r a (⟨8, 0⟩ :: (itT d b ++ (⟨9, 0⟩ :: Q))) ha da (by simp at hl ⊢; omega)
      have s2 := step_stop (N := N) (x := (⟨8, 0⟩ : It)) (S := itT d b ++ (⟨9, 0⟩ :: Q)) (by simp at hl ⊢; omega) (by decide)
      rw [s2] at s1
      simp only [List.append_nil] at s1
      have s3 := ih r b (⟨9, 0⟩ :: Q) hb db (by simp at hl ⊢; omega)
      have s4 := step_stop (N := N) (x := (⟨9, 0⟩ : It)) (S := Q) (by simp at hl ⊢; omega) (by decide)
      rw [s4] at s3
      simp only [List.append_nil] at s3
      have s := (step_while (N := N) (x := (⟨6, 0⟩ : It)) (S := itT d a ++ (⟨8, 0⟩ :: (itT d b ++ (⟨9, 0⟩ :: Q)))) hl (.inl rfl) (by rw [s1])).1
      rw [s, s1]
      show (Nd.mk 8 0 a (prs N (itT d b ++ (⟨9, 0⟩ :: Q))).1 :: (prs N (prs N (itT d b ++ (⟨9, 0⟩ :: Q))).2.2).1, (prs N (prs N (itT d b ++ (⟨9, 0⟩ :: Q))).2.2).2) = _
      rw [s3]
    · have hv : v = 0 ∧ b = [] := by simp [nodB, wrdB, Nd.k, Nd.v, Nd.a, Nd.b] at hn; exact ⟨of_decide_eq_true hn.1, hn.2⟩
      obtain ⟨rfl, rfl⟩ := hv
      have e : itN (itT d) (.mk 11 0 a []) = ⟨10, 0⟩ :: (itT d a ++ [⟨11, 0⟩]) := by simp [itN, wrdB, opnK, midK, endK, Nd.k, Nd.v, Nd.a, Nd.b]
      rw [e] at hl ⊢
      have e2 : (⟨10, 0⟩ :: (itT d a ++ [(⟨11, 0⟩ : It)])) ++ Q = ⟨10, 0⟩ :: (itT d a ++ (⟨11, 0⟩ :: Q)) := by simp
      rw [e2] at hl ⊢
      have s1 := ih r a (⟨11, 0⟩ :: Q) ha da (by simp at hl ⊢; omega)
      have s2 := step_stop (N := N) (x := (⟨11, 0⟩ : It)) (S := Q) (by simp at hl ⊢; omega) (by decide)
      rw [s2] at s1
      simp only [List.append_nil] at s1
      have s := (step_loop (N := N) (x := (⟨10, 0⟩ : It)) (S := itT d a ++ (⟨11, 0⟩ :: Q)) hl (.inr rfl) (by rw [s1]; show (11 : Int) ≠ 8; decide)).1
      rw [s, s1]
    · have hv : v = 0 ∧ b = [] := by simp [nodB, wrdB, Nd.k, Nd.v, Nd.a, Nd.b] at hn; exact ⟨of_decide_eq_true hn.1, hn.2⟩
      obtain ⟨rfl, rfl⟩ := hv
      have e : itN (itT d) (.mk 12 0 a []) = ⟨10, 0⟩ :: (itT d a ++ [⟨12, 0⟩]) := by simp [itN, wrdB, opnK, midK, endK, Nd.k, Nd.v, Nd.a, Nd.b]
      rw [e] at hl ⊢
      have e2 : (⟨10, 0⟩ :: (itT d a ++ [(⟨12, 0⟩ : It)])) ++ Q = ⟨10, 0⟩ :: (itT d a ++ (⟨12, 0⟩ :: Q)) := by simp
      rw [e2] at hl ⊢
      have s1 := ih r a (⟨12, 0⟩ :: Q) ha da (by simp at hl ⊢; omega)
      have s2 := step_stop (N := N) (x := (⟨12, 0⟩ : It)) (S := Q) (by simp at hl ⊢; omega) (by decide)
      rw [s2] at s1
      simp only [List.append_nil] at s1
      have s := (step_loop (N := N) (x := (⟨10, 0⟩ : It)) (S := itT d a ++ (⟨12, 0⟩ :: Q)) hl (.inr rfl) (by rw [s1]; show (12 : Int) ≠ 8; decide)).1
      rw [s, s1]

/-- A tree is read back from its items. -/
theorem prs_items (N : Nat) (d : Nat) : ∀ (r : Nat) (L : List Nd) (Q : List It), okT d r L = true → DepB d L → (itT d L ++ Q).length < N → prs N (itT d L ++ Q) = (L ++ (prs N Q).1, (prs N Q).2) := by
  induction d with
  | zero =>
    intro r L Q _ h0 _
    rw [h0]; simp [itT]
  | succ d ih =>
    intro r L
    induction L with
    | nil => intro Q _ _ _; rw [itT_nil]; simp
    | cons x L ihL =>
      intro Q hok hd hl
      rw [okT_cons] at hok
      simp only [Bool.and_eq_true, decide_eq_true_eq] at hok
      obtain ⟨⟨⟨⟨h0, hn⟩, ha⟩, hb⟩, hL⟩ := hok
      rw [itT_cons, List.append_assoc] at hl ⊢
      have hx := hd x (by simp)
      have hr : ∀ y ∈ L, DepB d y.a ∧ DepB d y.b := fun y hy => hd y (by simp [hy])
      have hl2 : (itT (d + 1) L ++ Q).length < N := by simp only [List.length_append] at hl ⊢; omega
      rw [prs_node d (r - 1) N x (itT (d + 1) L ++ Q) ih hn ha hb hx.1 hx.2 hl, ihL Q hL hr hl2]
      rfl

/-- Trees of the same items are the same. -/
theorem itT_inj {d r s : Nat} {L M : List Nd} (h1 : okT d r L = true) (h2 : okT d s M = true) (d1 : DepB d L) (d2 : DepB d M) (he : itT d L = itT d M) : L = M := by
  have p := prs_items ((itT d L).length + 1) d r L [] h1 d1 (by simp)
  have q := prs_items ((itT d L).length + 1) d s M [] h2 d2 (by rw [← he]; simp)
  rw [← he, p] at q
  simpa using congrArg Prod.fst q

end Go.Proofs.Ytafhmajnkicifaa
