/- Code made of items: plain mathematics. -/
import Derived.Test.YthnbaeamekolmaaGreatDoorAsA
namespace Go.Proofs.YthnbaeamekolmaaGreatDoor
open Go.RowKit
set_option linter.unusedVariables false
set_option linter.unusedSimpArgs false

/-- What an item makes of the code and of the marks: a mark is where a target is missing, and where to jump back. -/
def cStep (a s : Int) (x : It) (c : List Int) (m : List It) : List Int × List It :=
  if x.k = 1 then (c ++ [x.v], m)
  else if x.k = 2 then (c ++ [57, x.v], m)
  else if x.k = 3 then (c ++ [59, 0], m ++ [⟨(c.length : Int) + 1, 0⟩])
  else if x.k = 4 then ((c ++ [58, 0]).set (topM m).k.toNat (a + (c.length + 2 : Nat)), m.dropLast ++ [⟨(c.length : Int) + 1, 0⟩])
  else if x.k = 5 then (c.set (topM m).k.toNat (a + c.length), m.dropLast)
  else if x.k = 6 then (c, m ++ [⟨0, a + c.length⟩])
  else if x.k = 7 then (c ++ [59, (topM m).v], m.dropLast)
  else if x.k = 8 then (c ++ [59, 0], m.dropLast ++ [⟨(c.length : Int) + 1, (topM m).v⟩])
  else if x.k = 9 then ((c ++ [58, (topM m).v]).set (topM m).k.toNat (a + (c.length + 2 : Nat)), m.dropLast)
  else if x.k = 10 then (c ++ [60], m ++ [⟨0, a + (c.length + 1 : Nat)⟩])
  else if x.k = 11 then (c ++ [61, (topM m).v], m.dropLast)
  else if x.k = 12 then (c ++ [62, (topM m).v], m.dropLast)
  else (c ++ [s], m)

theorem cStep_len (a s : Int) (x : It) (c : List Int) (m : List It) (hk : 1 ≤ x.k ∧ x.k ≤ 13) : (cStep a s x c m).1.length = c.length + cellsI x.k := by
  obtain ⟨k, v⟩ := x
  simp only at hk
  rcases (by omega : k = 1 ∨ k = 2 ∨ k = 3 ∨ k = 4 ∨ k = 5 ∨ k = 6 ∨ k = 7 ∨ k = 8 ∨ k = 9 ∨ k = 10 ∨ k = 11 ∨ k = 12 ∨ k = 13) with rfl | rfl | rfl | rfl | rfl | rfl | rfl | rfl | rfl | rfl | rfl | rfl | rfl <;> simp [cStep, cellsI]

/-- The marks belong to what is open: where one closes by a jump ahead, its hole lies in the code. -/
def InvM (o : List Int) (n : Nat) (m : List It) : Prop :=
  m.length = o.length ∧ ∀ i, i < o.length → (o.getD i 0 = 3 ∨ o.getD i 0 = 4 ∨ o.getD i 0 = 8) → 0 ≤ (m.getD i noIt).k ∧ (m.getD i noIt).k < n

theorem invM_nil (n : Nat) : InvM [] n [] := ⟨rfl, fun i hi => by simp at hi⟩

theorem invM_grow {o : List Int} {n n' : Nat} {m : List It} (h : InvM o n m) (hn : n ≤ n') : InvM o n' m := ⟨h.1, fun i hi hk => by have := h.2 i hi hk; omega⟩

theorem invM_push {o : List Int} {n : Nat} {m : List It} (h : InvM o n m) (k : Int) (x : It) (hx : (k = 3 ∨ k = 4 ∨ k = 8) → 0 ≤ x.k ∧ x.k < n) : InvM (o ++ [k]) n (m ++ [x]) := by
  refine ⟨by simp [h.1], fun i hi hk => ?_⟩
  rw [List.length_append, List.length_singleton] at hi
  by_cases e : i < o.length
  · rw [List.getD_eq_getElem?_getD, List.getElem?_append_left e, ← List.getD_eq_getElem?_getD] at hk
    rw [List.getD_eq_getElem?_getD, List.getElem?_append_left (by rw [h.1]; exact e), ← List.getD_eq_getElem?_getD]
    exact h.2 i e hk
  · obtain rfl : i = o.length := by omega
    rw [List.getD_eq_getElem?_getD, List.getElem?_append_right (Nat.le_refl _), Nat.sub_self] at hk
    rw [List.getD_eq_getElem?_getD, ← h.1, List.getElem?_append_right (Nat.le_refl _), Nat.sub_self]
    exact hx hk

theorem invM_pop {o : List Int} {n : Nat} {m : List It} (h : InvM o n m) : InvM o.dropLast n m.dropLast := by
  refine ⟨by simp [h.1], fun i hi hk => ?_⟩
  rw [List.length_dropLast] at hi
  have e1 : o.dropLast.getD i 0 = o.getD i 0 := by rw [List.getD_eq_getElem?_getD, List.getD_eq_getElem?_getD, List.getElem?_dropLast, if_pos (by omega)]
  have e2 : m.dropLast.getD i noIt = m.getD i noIt := by rw [List.getD_eq_getElem?_getD, List.getD_eq_getElem?_getD, List.getElem?_dropLast, if_pos (by rw [h.1]; omega)]
  rw [e1] at hk
  rw [e2]
  exact h.2 i (by omega) hk

theorem topO_getD {o : List Int} (h : 0 < o.length) : topO o = o.getD (o.length - 1) 0 := by
  rw [topO_get h, List.getD_eq_getElem?_getD, List.getElem?_eq_getElem (by omega)]; rfl

theorem topM_getD {m : List It} (h : 0 < m.length) : topM m = m.getD (m.length - 1) noIt := by
  rw [topM_get h, List.getD_eq_getElem?_getD, List.getElem?_eq_getElem (by omega)]; rfl

theorem topO_some {o : List Int} (h : topO o ≠ 0) : 0 < o.length := by
  rcases Nat.eq_zero_or_pos o.length with h0 | h0
  · rw [List.eq_nil_of_length_eq_zero h0] at h; exact absurd rfl h
  · exact h0

theorem invM_top {o : List Int} {n : Nat} {m : List It} (h : InvM o n m) (ht : topO o = 3 ∨ topO o = 4 ∨ topO o = 8) : ∃ k : Nat, (topM m).k = k ∧ k < n := by
  have hp : 0 < o.length := topO_some (by omega)
  rw [topO_getD hp] at ht
  have := h.2 (o.length - 1) (by omega) ht
  rw [topM_getD (by rw [h.1]; exact hp), h.1]
  exact ⟨_, (Int.toNat_of_nonneg this.1).symm, by omega⟩

/-- What an item asks of the marks. -/
def NeedM (k : Int) (n : Nat) (m : List It) : Prop :=
  ((k = 4 ∨ k = 5 ∨ k = 7 ∨ k = 8 ∨ k = 9 ∨ k = 11 ∨ k = 12) → 0 < m.length) ∧ ((k = 4 ∨ k = 5 ∨ k = 9) → ∃ j : Nat, (topM m).k = j ∧ j < n)

theorem needM_of {o : List Int} {n : Nat} {m : List It} {k : Int} (h : InvM o n m) (hf : fitB o k = true) : NeedM k n m := by
  have key : (k = 4 ∨ k = 5 ∨ k = 7 ∨ k = 8 ∨ k = 9 ∨ k = 11 ∨ k = 12) → topO o ≠ 0 := by
    intro hk
    unfold fitB at hf
    rcases hk with rfl | rfl | rfl | rfl | rfl | rfl | rfl <;> simp at hf <;> omega
  refine ⟨fun hk => by rw [h.1]; exact topO_some (key hk), fun hk => invM_top h ?_⟩
  unfold fitB at hf
  rcases hk with rfl | rfl | rfl <;> simp at hf <;> omega

theorem invM_step {o : List Int} {m : List It} {a s : Int} {x : It} {c : List Int} (h : InvM o c.length m) (hk : 1 ≤ x.k ∧ x.k ≤ 13) : InvM (nextO o x.k) (cStep a s x c m).1.length (cStep a s x c m).2 := by
  have hl := cStep_len a s x c m hk
  rw [hl]
  have hg := invM_grow h (show c.length ≤ c.length + cellsI x.k by omega)
  obtain ⟨k, v⟩ := x
  simp only at hk hg ⊢
  rcases (by omega : k = 1 ∨ k = 2 ∨ k = 3 ∨ k = 4 ∨ k = 5 ∨ k = 6 ∨ k = 7 ∨ k = 8 ∨ k = 9 ∨ k = 10 ∨ k = 11 ∨ k = 12 ∨ k = 13) with rfl | rfl | rfl | rfl | rfl | rfl | rfl | rfl | rfl | rfl | rfl | rfl | rfl
  · exact hg
  · exact hg
  · exact invM_push hg 3 _ (fun _ => by simp [cellsI]; omega)
  · exact invM_push (invM_pop hg) 4 _ (fun _ => by simp [cellsI]; omega)
  · exact invM_pop hg
  · exact invM_push hg 6 _ (fun e => by omega)
  · exact invM_pop hg
  · exact invM_push (invM_pop hg) 8 _ (fun _ => by simp [cellsI]; omega)
  · exact invM_pop hg
  · exact invM_push hg 10 _ (fun e => by omega)
  · exact invM_pop hg
  · exact invM_pop hg
  · exact hg

/-- Code and marks behind these items. -/
def runC (a s : Int) (Q : List It) : List Int × List It := Q.foldl (fun p x => cStep a s x p.1 p.2) ([], [])

theorem runC_take (a s : Int) {Q : List It} {k : Nat} (h : k < Q.length) : runC a s (Q.take (k + 1)) = cStep a s Q[k] (runC a s (Q.take k)).1 (runC a s (Q.take k)).2 := by
  unfold runC
  rw [List.take_succ_eq_append_getElem h, List.foldl_append]; rfl

/-- Behind the first k items of a list that fits: code c, marks m. -/
def Made (a s : Int) (Q : List It) (k : Nat) (c : List Int) (m : List It) : Prop :=
  ∃ o, Got Q k o ∧ runC a s (Q.take k) = (c, m) ∧ InvM o c.length m ∧ c.length = sumI (Q.take k)

theorem made_start (a s : Int) (Q : List It) : Made a s Q 0 [] [] := ⟨[], got_start Q, rfl, invM_nil _, rfl⟩

theorem made_small {a s : Int} {Q : List It} {k : Nat} {c : List Int} {m : List It} (h : Made a s Q k c m) (hl : Q.length ≤ 60) : c.length ≤ 120 ∧ m.length ≤ 60 := by
  obtain ⟨o, h1, h2, h3, h4⟩ := h
  have := sumI_le (Q.take k)
  rw [List.length_take] at this
  have := h1.2.2
  have := h1.1
  have := h3.1
  omega

theorem made_need {a s : Int} {Q : List It} {k : Nat} {c : List Int} {m : List It} (h : Made a s Q k c m) (hq : (goO Q []).1 = Q.length) (hk : k < Q.length) : NeedM Q[k].k c.length m := by
  obtain ⟨o, h1, h2, h3, h4⟩ := h
  by_cases hf : fitB o Q[k].k = true
  · exact needM_of h3 hf
  · have := got_not h1 hk (by simpa using hf)
    rw [this] at hq
    simp at hq
    omega

theorem made_next {a s : Int} {Q : List It} {k : Nat} {c : List Int} {m : List It} (h : Made a s Q k c m) (hq : (goO Q []).1 = Q.length) (hk : k < Q.length) (hi : 1 ≤ Q[k].k ∧ Q[k].k ≤ 13) : Made a s Q (k + 1) (cStep a s Q[k] c m).1 (cStep a s Q[k] c m).2 := by
  obtain ⟨o, h1, h2, h3, h4⟩ := h
  by_cases hf : fitB o Q[k].k = true
  · exact ⟨_, got_fit h1 hk hf, by rw [runC_take a s hk, h2], invM_step h3 hi, by rw [cStep_len a s _ _ _ hi, h4, sumI_take hk]⟩
  · have := got_not h1 hk (by simpa using hf)
    rw [this] at hq
    simp at hq
    omega

theorem made_end {a s : Int} {Q : List It} {c : List Int} {m : List It} (h : Made a s Q Q.length c m) : c = (runC a s Q).1 ∧ c.length = sumI Q := by
  obtain ⟨o, h1, h2, h3, h4⟩ := h
  rw [List.take_length] at h2 h4
  exact ⟨by rw [h2], h4⟩

/-- CompileItems. -/
def compI (Q : List It) (a s : Int) : List Int × Int :=
  if (chkI Q).2 ≠ 0 then ([], (chkI Q).2) else if (inB a 0 400 && inB s 1 103) = false then ([], 4) else if 400 < a + (sumI Q + 1 : Nat) then ([], 7) else ((runC a s Q).1 ++ [53], 0)

theorem chkI_ok {Q : List It} (h : (chkI Q).2 = 0) : askI Q = 0 ∧ (goO Q []).1 = Q.length ∧ (goO Q []).2 = [] := by
  unfold chkI at h
  by_cases h0 : askI Q = 0
  · rw [if_neg (by simpa using h0)] at h
    by_cases h1 : (goO Q []).1 < Q.length ∨ 0 < (goO Q []).2.length
    · rw [if_pos h1] at h; cases h
    · have := goO_le Q []
      exact ⟨h0, by omega, List.eq_nil_of_length_eq_zero (by omega)⟩
  · rw [if_pos h0] at h; exact absurd h h0

theorem runC_small (a s : Int) (Q : List It) (hq : (goO Q []).1 = Q.length) (hi : ∀ x ∈ Q, itB x = true) : Made a s Q Q.length (runC a s Q).1 (runC a s Q).2 := by
  have : ∀ k, k ≤ Q.length → Made a s Q k (runC a s (Q.take k)).1 (runC a s (Q.take k)).2 := by
    intro k
    induction k with
    | zero => intro _; simpa [runC] using made_start a s Q
    | succ n ih =>
      intro hk
      have := made_next (ih (by omega)) hq (show n < Q.length by omega) (itB_kind (hi _ (List.getElem_mem _)))
      rwa [← runC_take a s (show n < Q.length by omega)] at this
  have h := this Q.length (Nat.le_refl _)
  rwa [List.take_length] at h

theorem compI_small (Q : List It) (a s : Int) : (compI Q a s).1.length ≤ 1000 := by
  unfold compI
  by_cases h0 : (chkI Q).2 = 0
  · rw [if_neg (by simpa using h0)]
    split
    · simp
    · split
      · simp
      · obtain ⟨h1, h2, _⟩ := chkI_ok h0
        obtain ⟨h3, h4⟩ := askI_ok h1
        have := (made_small (runC_small a s Q h2 h4) h3).1
        simp
        omega
  · rw [if_pos h0]; simp

end Go.Proofs.YthnbaeamekolmaaGreatDoor
