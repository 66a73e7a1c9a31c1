/- The items of a tree: plain mathematics. -/
import Derived.Test.YtafhmajnkicifaaTrB
namespace Go.Proofs.Ytafhmajnkicifaa
open Go.RowKit
set_option linter.unusedVariables false
set_option linter.unusedSimpArgs false

/-- A node that is one item. -/
def wrdB (x : Nd) : Bool := decide (x.k = 1) || decide (x.k = 2) || decide (x.k = 13)

/-- A node that is well formed, its parts aside. -/
def nodB (x : Nd) : Bool :=
  if wrdB x = true then itB ⟨x.k, x.v⟩ && decide (x.a.length = 0) && decide (x.b.length = 0)
  else if x.k = 3 then decide (x.v = 1) || (decide (x.v = 0) && decide (x.b.length = 0))
  else if x.k = 8 then decide (x.v = 0)
  else if x.k = 7 ∨ x.k = 11 ∨ x.k = 12 then decide (x.v = 0) && decide (x.b.length = 0)
  else false

/-- The items around a structure's parts. -/
def opnK (x : Nd) : Int := if x.k = 3 then 3 else if x.k = 7 ∨ x.k = 8 then 6 else 10

def midK (x : Nd) : Int := if x.k = 3 then (if x.v = 0 then 0 else 4) else if x.k = 7 then 0 else if x.k = 8 then 8 else 0

def endK (x : Nd) : Int := if x.k = 3 then 5 else if x.k = 7 then 7 else if x.k = 8 then 9 else x.k

/-- The items of a node, by those of its parts. -/
def itN (f : List Nd → List It) (x : Nd) : List It :=
  if wrdB x = true then [⟨x.k, x.v⟩] else [⟨opnK x, 0⟩] ++ f x.a ++ (if midK x ≠ 0 then [⟨midK x, 0⟩] ++ f x.b else []) ++ [⟨endK x, 0⟩]

def itL (f : List Nd → List It) : List Nd → List It
  | [] => []
  | x :: r => itN f x ++ itL f r

/-- The items of nodes, d levels deep. -/
def itT : Nat → List Nd → List It
  | 0 => fun _ => []
  | d + 1 => itL (itT d)

def okL (f : List Nd → Bool) (c : Bool) : List Nd → Bool
  | [] => true
  | x :: r => c && nodB x && f x.a && f x.b && okL f c r

/-- Nodes that are well formed, with r levels left. -/
def okT : Nat → Nat → List Nd → Bool
  | 0 => fun _ _ => true
  | d + 1 => fun r => okL (okT d (r - 1)) (decide (0 < r))

theorem itT_nil (d : Nat) : itT d [] = [] := by cases d <;> rfl

theorem okT_nil (d r : Nat) : okT d r [] = true := by cases d <;> rfl

theorem itT_cons (d : Nat) (x : Nd) (L : List Nd) : itT (d + 1) (x :: L) = itN (itT d) x ++ itT (d + 1) L := rfl

theorem okT_cons (d r : Nat) (x : Nd) (L : List Nd) : okT (d + 1) r (x :: L) = (decide (0 < r) && nodB x && okT d (r - 1) x.a && okT d (r - 1) x.b && okT (d + 1) r L) := rfl

theorem itT_app (d : Nat) (L M : List Nd) : itT (d + 1) (L ++ M) = itT (d + 1) L ++ itT (d + 1) M := by
  induction L with
  | nil => rw [List.nil_append, itT_nil, List.nil_append]
  | cons y r ih => rw [List.cons_append, itT_cons, itT_cons, ih, List.append_assoc]

theorem okT_app (d r : Nat) (L M : List Nd) : okT (d + 1) r (L ++ M) = (okT (d + 1) r L && okT (d + 1) r M) := by
  induction L with
  | nil => rw [List.nil_append, okT_nil, Bool.true_and]
  | cons y s ih => rw [List.cons_append, okT_cons, okT_cons, ih]; simp only [Bool.and_assoc]

theorem itN_pos (f : List Nd → List It) (x : Nd) : 1 ≤ (itN f x).length := by
  unfold itN
  split <;> simp

theorem itT_ge (d : Nat) (L : List Nd) : L.length ≤ (itT (d + 1) L).length := by
  induction L with
  | nil => simp
  | cons x r ih => rw [itT_cons, List.length_append, List.length_cons]; have := itN_pos (itT d) x; omega

theorem itT_take (d : Nat) (L : List Nd) {k : Nat} (hk : k < L.length) : itT (d + 1) (L.take (k + 1)) = itT (d + 1) (L.take k) ++ itN (itT d) L[k] := by
  rw [List.take_succ_eq_append_getElem hk, itT_app, itT_cons, itT_nil, List.append_nil]

theorem okT_take (d r : Nat) (L : List Nd) {k : Nat} (hk : k < L.length) : okT (d + 1) r (L.take (k + 1)) = (okT (d + 1) r (L.take k) && (decide (0 < r) && nodB L[k] && okT d (r - 1) L[k].a && okT d (r - 1) L[k].b)) := by
  rw [List.take_succ_eq_append_getElem hk, okT_app, okT_cons, okT_nil, Bool.and_true]

/-- What the whole asks of one node. -/
theorem okT_at (d r : Nat) (L : List Nd) {k : Nat} (hk : k < L.length) (h : okT (d + 1) r L = true) : 0 < r ∧ nodB L[k] = true ∧ okT d (r - 1) L[k].a = true ∧ okT d (r - 1) L[k].b = true := by
  have e := okT_app d r (L.take k) (L.drop k)
  rw [List.take_append_drop, h, List.drop_eq_getElem_cons hk, okT_cons] at e
  simp at e
  exact ⟨e.2.1.1.1.1, e.2.1.1.1.2, e.2.1.1.2, e.2.1.2⟩

theorem itT_le (d : Nat) (L : List Nd) {k : Nat} (hk : k < L.length) : (itT (d + 1) (L.take k)).length + (itN (itT d) L[k]).length ≤ (itT (d + 1) L).length := by
  have e := congrArg List.length (itT_app d (L.take k) (L.drop k))
  rw [List.take_append_drop, List.drop_eq_getElem_cons hk, itT_cons] at e
  simp only [List.length_append] at e
  omega

/-- What ItemsOf comes to. -/
def fitT (d r : Nat) (L : List Nd) : Bool := okT d r L && decide ((itT d L).length ≤ 60)

def itemsC (d : Nat) (L : List Nd) : List It × Int :=
  if 4096 < L.length then ([], 2) else if 60 < L.length then ([], 6) else if fitT d 9 L = true then (itT d L, 0) else ([], 1)

/-- The parts of a structure. -/
theorem nodB_mid {x : Nd} (h : nodB x = true) (hw : wrdB x = false) (hm : midK x = 0) : x.b.length = 0 := by
  unfold nodB at h
  unfold midK at hm
  rw [hw] at h
  by_cases h3 : x.k = 3
  · simp [h3] at h hm
    by_cases hv : x.v = 0
    · simp [hv] at h; exact List.eq_nil_iff_length_eq_zero.1 (by simpa using h)
    · simp [hv] at hm
  · by_cases h7 : x.k = 7
    · simp [h7] at h; simp [h.2]
    · by_cases h8 : x.k = 8
      · simp [h8] at hm
      · by_cases hq : x.k = 11 ∨ x.k = 12
        · rcases hq with q | q <;> simp [q] at h <;> simp [h.2]
        · have h11 : x.k ≠ 11 := fun e => hq (.inl e)
          have h12 : x.k ≠ 12 := fun e => hq (.inr e)
          simp [h3, h7, h8, h11, h12] at h

theorem nodB_word {x : Nd} (h : nodB x = true) (hw : wrdB x = true) : x.a.length = 0 ∧ x.b.length = 0 ∧ itB ⟨x.k, x.v⟩ = true := by
  unfold nodB at h
  rw [if_pos hw] at h
  simp at h
  exact ⟨by simp [h.1.2], by simp [h.2], h.1.1⟩

end Go.Proofs.Ytafhmajnkicifaa
