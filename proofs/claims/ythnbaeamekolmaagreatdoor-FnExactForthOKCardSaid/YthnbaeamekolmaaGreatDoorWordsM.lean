/- Plain facts on the words of a line: no program in sight. -/
import Derived.WalkKit
namespace Go.Proofs.YthnbaeamekolmaaGreatDoor
set_option linter.unusedVariables false
set_option linter.unusedSimpArgs false

/-- The words of a text, cur being what is open. -/
def wGo : List UInt8 → List UInt8 → List (List UInt8)
  | [], cur => if cur = [] then [] else [cur]
  | c :: r, cur => if c = 32 then (if cur = [] then wGo r [] else cur :: wGo r []) else wGo r (cur ++ [c])

/-- The words of a text. -/
def wordsL (l : List UInt8) : List (List UInt8) := wGo l []

/-- What stands from place f to place k. -/
def mid (l : List UInt8) (f k : Nat) : List UInt8 := (l.drop f).take (k - f)

theorem mid_nil (l : List UInt8) (k : Nat) : mid l k k = [] := by simp [mid]

theorem mid_len {l : List UInt8} {f k : Nat} (hf : f ≤ k) (hk : k ≤ l.length) : (mid l f k).length = k - f := by simp [mid]; omega

theorem mid_snoc {l : List UInt8} {f k : Nat} (hf : f ≤ k) (hk : k < l.length) : mid l f (k + 1) = mid l f k ++ [l[k]] := by
  unfold mid
  rw [show k + 1 - f = (k - f) + 1 from by omega, List.take_succ_eq_append_getElem (by simp; omega)]
  congr 2
  simp
  congr 1
  omega

/-- After k bytes, with words W done and the next one from f on. -/
def WordsAt (l : List UInt8) (W : List (List UInt8)) (f k : Nat) : Prop := f ≤ k ∧ k ≤ l.length ∧ wordsL l = W ++ wGo (l.drop k) (mid l f k)

theorem wordsAt_zero (l : List UInt8) : WordsAt l [] 0 0 := ⟨Nat.le_refl _, Nat.zero_le _, by simp [wordsL, mid]⟩

theorem drop_at {l : List UInt8} {k : Nat} (hk : k < l.length) : l.drop k = l[k] :: l.drop (k + 1) := List.drop_eq_getElem_cons hk

theorem wordsAt_other {l : List UInt8} {W : List (List UInt8)} {f k : Nat} (h : WordsAt l W f k) (hk : k < l.length) (hc : l[k] ≠ 32) : WordsAt l W f (k + 1) := by
  obtain ⟨h1, h2, h3⟩ := h
  refine ⟨by omega, by omega, ?_⟩
  rw [h3, drop_at hk, wGo, if_neg hc, mid_snoc h1 hk]

theorem wordsAt_gap {l : List UInt8} {W : List (List UInt8)} {k : Nat} (h : WordsAt l W k k) (hk : k < l.length) (hc : l[k] = 32) : WordsAt l W (k + 1) (k + 1) := by
  obtain ⟨h1, h2, h3⟩ := h
  refine ⟨by omega, by omega, ?_⟩
  rw [h3, drop_at hk, wGo, if_pos hc, mid_nil, mid_nil, if_pos rfl]

theorem mid_ne {l : List UInt8} {f k : Nat} (hf : f < k) (hk : k ≤ l.length) : mid l f k ≠ [] := by
  intro e
  have := mid_len (l := l) (f := f) (k := k) (by omega) hk
  rw [e] at this; simp at this; omega

theorem wordsAt_word {l : List UInt8} {W : List (List UInt8)} {f k : Nat} (h : WordsAt l W f k) (hf : f < k) (hk : k < l.length) (hc : l[k] = 32) : WordsAt l (W ++ [mid l f k]) (k + 1) (k + 1) := by
  obtain ⟨h1, h2, h3⟩ := h
  refine ⟨by omega, by omega, ?_⟩
  rw [h3, drop_at hk, wGo, if_pos hc, if_neg (mid_ne hf h2), mid_nil]
  simp

theorem wordsAt_end {l : List UInt8} {W : List (List UInt8)} (h : WordsAt l W l.length l.length) : wordsL l = W := by
  obtain ⟨_, _, h3⟩ := h
  rw [h3, mid_nil]; simp [wGo]

theorem wordsAt_last {l : List UInt8} {W : List (List UInt8)} {f : Nat} (h : WordsAt l W f l.length) (hf : f < l.length) : wordsL l = W ++ [mid l f l.length] := by
  obtain ⟨_, h2, h3⟩ := h
  rw [h3]; simp [wGo, mid_ne hf h2]

theorem wGo_ne : ∀ (l cur : List UInt8), ∀ q ∈ wGo l cur, q ≠ [] := by
  intro l
  induction l with
  | nil => intro cur q hq; unfold wGo at hq; split at hq <;> simp at hq; subst hq; assumption
  | cons c r ih =>
    intro cur q hq
    unfold wGo at hq
    split at hq
    · split at hq
      · exact ih _ q hq
      · rcases List.mem_cons.1 hq with rfl | hq
        · assumption
        · exact ih _ q hq
    · exact ih _ q hq

theorem words_ne (l : List UInt8) : ∀ q ∈ wordsL l, q ≠ [] := wGo_ne l []

theorem wGo_sum : ∀ (l cur : List UInt8), (wGo l cur).length ≤ l.length + (if cur = [] then 0 else 1) := by
  intro l
  induction l with
  | nil => intro cur; unfold wGo; split <;> simp
  | cons c r ih =>
    intro cur
    unfold wGo
    split
    · split
      · have := ih []; simp at this ⊢; omega
      · have := ih []; simp at this ⊢; omega
    · have := ih (cur ++ [c])
      simp at this ⊢
      split <;> omega

theorem words_few (l : List UInt8) : (wordsL l).length ≤ l.length := by unfold wordsL; have := wGo_sum l []; simpa using this

theorem wGo_le : ∀ (l cur : List UInt8), ∀ q ∈ wGo l cur, q.length ≤ l.length + cur.length := by
  intro l
  induction l with
  | nil => intro cur q hq; unfold wGo at hq; split at hq <;> simp at hq; subst hq; simp
  | cons c r ih =>
    intro cur q hq
    unfold wGo at hq
    split at hq
    · split at hq
      · have := ih _ q hq; simp at this ⊢; omega
      · rcases List.mem_cons.1 hq with rfl | hq
        · simp
        · have := ih _ q hq; simp at this ⊢; omega
    · have := ih _ q hq; simp at this ⊢; omega

theorem words_le (l : List UInt8) : ∀ q ∈ wordsL l, q.length ≤ l.length := fun q hq => by have := wGo_le l [] q hq; simpa using this

theorem last_test {q : List UInt8} {c : UInt8} (h : q.getLast? = some c) : ((c.toNat : Int) != 41) = (q.getLast? != some 41) := by
  rw [h, Bool.eq_iff_iff]
  simp
  constructor
  · intro h1 h2; apply h1; rw [h2]; rfl
  · intro h1 h2; apply h1; exact UInt8.toNat_inj.1 (by simp; omega)

/-- The words that are left, remarks taken out (o: one is open), and whether none is open at the end. -/
def scanL : Bool → List (List UInt8) → List (List UInt8) × Bool
  | o, [] => ([], !o)
  | true, q :: r => scanL (q.getLast? != some 41) r
  | false, q :: r => if q = [92] then ([], true) else if q = [40] then scanL true r else (q :: (scanL false r).1, (scanL false r).2)

/-- Behind k words of Q, with W kept and o open. -/
def ScanAt (Q : List (List UInt8)) (W : List (List UInt8)) (o : Bool) (k : Nat) : Prop := k ≤ Q.length ∧ W.length ≤ k ∧ scanL false Q = (W ++ (scanL o (Q.drop k)).1, (scanL o (Q.drop k)).2)

theorem scanAt_zero (Q : List (List UInt8)) : ScanAt Q [] false 0 := ⟨Nat.zero_le _, Nat.le_refl _, by simp⟩

theorem qdrop {Q : List (List UInt8)} {k : Nat} (hk : k < Q.length) : Q.drop k = Q[k] :: Q.drop (k + 1) := List.drop_eq_getElem_cons hk

theorem scanAt_open {Q W : List (List UInt8)} {k : Nat} (h : ScanAt Q W true k) (hk : k < Q.length) : ScanAt Q W (Q[k].getLast? != some 41) (k + 1) := by
  obtain ⟨h1, h2, h3⟩ := h
  refine ⟨by omega, by omega, ?_⟩
  rw [h3, qdrop hk]; rfl

theorem scanAt_round {Q W : List (List UInt8)} {k : Nat} (h : ScanAt Q W false k) (hk : k < Q.length) (hq : Q[k] = [40]) : ScanAt Q W true (k + 1) := by
  obtain ⟨h1, h2, h3⟩ := h
  refine ⟨by omega, by omega, ?_⟩
  rw [h3, qdrop hk, scanL, if_neg (by rw [hq]; decide), if_pos hq]

theorem scanAt_keep {Q W : List (List UInt8)} {k : Nat} (h : ScanAt Q W false k) (hk : k < Q.length) (h92 : Q[k] ≠ [92]) (h40 : Q[k] ≠ [40]) : ScanAt Q (W ++ [Q[k]]) false (k + 1) := by
  obtain ⟨h1, h2, h3⟩ := h
  refine ⟨by omega, by simp; omega, ?_⟩
  rw [h3, qdrop hk, scanL, if_neg h92, if_neg h40]
  simp

theorem scanAt_stop {Q W : List (List UInt8)} {k : Nat} (h : ScanAt Q W false k) (hk : k < Q.length) (h92 : Q[k] = [92]) : scanL false Q = (W, true) := by
  obtain ⟨h1, h2, h3⟩ := h
  rw [h3, qdrop hk, scanL, if_pos h92]; simp

theorem scanAt_end {Q W : List (List UInt8)} {o : Bool} (h : ScanAt Q W o Q.length) : scanL false Q = (W, !o) := by
  obtain ⟨h1, h2, h3⟩ := h
  rw [h3]; simp [scanL]

/-- The words of a line, and the code. -/
def lwL (l : List UInt8) : List (List UInt8) := if 400 < l.length then [] else if (scanL false (wordsL l)).2 = true then (scanL false (wordsL l)).1 else []

/-- The code of a line. -/
def lwC (l : List UInt8) : Int := if 65536 < l.length then 2 else if 400 < l.length then 8 else if (scanL false (wordsL l)).2 = true then 0 else 3

end Go.Proofs.YthnbaeamekolmaaGreatDoor
