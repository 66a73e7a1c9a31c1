/- PkX: several of my texts, laid together: WordsM, WordsA, StrsA, SrcX, SrcB, SrcE, DsA, IdA, DsB, IdM, IdB. -/
import Derived.WalkKit
import Derived.Test.YtafhmajnkicifaaOwnA
import Derived.Lib.Strings
import Derived.Deep.QuietTactic
import Derived.BigQuiet
import Derived.Deep.RegionHeld3
import Derived.Test.YtafhmajnkicifaaSrcA
import Derived.Test.YtafhmajnkicifaaGbA
import Derived.Test.YtafhmajnkicifaaPrA
import Derived.Test.YtafhmajnkicifaaCtlM
namespace Go.Proofs.Ytafhmajnkicifaa
set_option linter.unusedVariables false
set_option linter.unusedSimpArgs false

/-- The words of a text, cur being what is open. -/
def wGo : List UInt8 → List UInt8 → List (List UInt8)
  | [], cur => if cur = [] then [] else [cur]
  | c :: r, cur => if c = 32 then (if cur = [] then wGo r [] else cur :: wGo r []) else wGo r (cur ++ [c])

/-- The words of a text. -/
def wordsL (l : List UInt8) : List (List UInt8) := wGo l []

/-- What stands from place f to place k. -/
def mid (l : List UInt8) (f k : Nat) : List UInt8 := (l.drop f).take (k - f)

theorem mid_nil (l : List UInt8) (k : Nat) : mid l k k = [] := by simp [mid]

theorem mid_len {l : List UInt8} {f k : Nat} (hf : f ≤ k) (hk : k ≤ l.length) : (mid l f k).length = k - f := by simp [mid]; omega

theorem mid_snoc {l : List UInt8} {f k : Nat} (hf : f ≤ k) (hk : k < l.length) : mid l f (k + 1) = mid l f k ++ [l[k]] := by
  unfold mid
  rw [show k + 1 - f = (k - f) + 1 from by omega, List.take_succ_eq_append_getElem (by simp; omega)]
  congr 2
  simp
  congr 1
  omega

/-- After k bytes, with words W done and the next one from f on. -/
def WordsAt (l : List UInt8) (W : List (List UInt8)) (f k : Nat) : Prop := f ≤ k ∧ k ≤ l.length ∧ wordsL l = W ++ wGo (l.drop k) (mid l f k)

theorem wordsAt_zero (l : List UInt8) : WordsAt l [] 0 0 := ⟨Nat.le_refl _, Nat.zero_le _, by simp [wordsL, mid]⟩

theorem drop_at {l : List UInt8} {k : Nat} (hk : k < l.length) : l.drop k = l[k] :: l.drop (k + 1) := List.drop_eq_getElem_cons hk

theorem wordsAt_other {l : List UInt8} {W : List (List UInt8)} {f k : Nat} (h : WordsAt l W f k) (hk : k < l.length) (hc : l[k] ≠ 32) : WordsAt l W f (k + 1) := by
  obtain ⟨h1, h2, h3⟩ := h
  refine ⟨by omega, by omega, ?_⟩
  rw [h3, drop_at hk, wGo, if_neg hc, mid_snoc h1 hk]

theorem wordsAt_gap {l : List UInt8} {W : List (List UInt8)} {k : Nat} (h : WordsAt l W k k) (hk : k < l.length) (hc : l[k] = 32) : WordsAt l W (k + 1) (k + 1) := by
  obtain ⟨h1, h2, h3⟩ := h
  refine ⟨by omega, by omega, ?_⟩
  rw [h3, drop_at hk, wGo, if_pos hc, mid_nil, mid_nil, if_pos rfl]

theorem mid_ne {l : List UInt8} {f k : Nat} (hf : f < k) (hk : k ≤ l.length) : mid l f k ≠ [] := by
  intro e
  have := mid_len (l := l) (f := f) (k := k) (by omega) hk
  rw [e] at this; simp at this; omega

theorem wordsAt_word {l : List UInt8} {W : List (List UInt8)} {f k : Nat} (h : WordsAt l W f k) (hf : f < k) (hk : k < l.length) (hc : l[k] = 32) : WordsAt l (W ++ [mid l f k]) (k + 1) (k + 1) := by
  obtain ⟨h1, h2, h3⟩ := h
  refine ⟨by omega, by omega, ?_⟩
  rw [h3, drop_at hk, wGo, if_pos hc, if_neg (mid_ne hf h2), mid_nil]
  simp

theorem wordsAt_end {l : List UInt8} {W : List (List UInt8)} (h : WordsAt l W l.length l.length) : wordsL l = W := by
  obtain ⟨_, _, h3⟩ := h
  rw [h3, mid_nil]; simp [wGo]

theorem wordsAt_last {l : List UInt8} {W : List (List UInt8)} {f : Nat} (h : WordsAt l W f l.length) (hf : f < l.length) : wordsL l = W ++ [mid l f l.length] := by
  obtain ⟨_, h2, h3⟩ := h
  rw [h3]; simp [wGo, mid_ne hf h2]

theorem wGo_ne : ∀ (l cur : List UInt8), ∀ q ∈ wGo l cur, q ≠ [] := by
  intro l
  induction l with
  | nil => intro cur q hq; unfold wGo at hq; split at hq <;> simp at hq; subst hq; assumption
  | cons c r ih =>
    intro cur q hq
    unfold wGo at hq
    split at hq
    · split at hq
      · exact ih _ q hq
      · rcases List.mem_cons.1 hq with rfl | hq
        · assumption
        · exact ih _ q hq
    · exact ih _ q hq

theorem words_ne (l : List UInt8) : ∀ q ∈ wordsL l, q ≠ [] := wGo_ne l []

theorem wGo_sum : ∀ (l cur : List UInt8), (wGo l cur).length ≤ l.length + (if cur = [] then 0 else 1) := by
  intro l
  induction l with
  | nil => intro cur; unfold wGo; split <;> simp
  | cons c r ih =>
    intro cur
    unfold wGo
    split
    · split
      · have := ih []; simp at this ⊢; omega
      · have := ih []; simp at this ⊢; omega
    · have := ih (cur ++ [c])
      simp at this ⊢
      split <;> omega

theorem words_few (l : List UInt8) : (wordsL l).length ≤ l.length := by unfold wordsL; have := wGo_sum l []; simpa using this

theorem wGo_le : ∀ (l cur : List UInt8), ∀ q ∈ wGo l cur, q.length ≤ l.length + cur.length := by
  intro l
  induction l with
  | nil => intro cur q hq; unfold wGo at hq; split at hq <;> simp at hq; subst hq; simp
  | cons c r ih =>
    intro cur q hq
    unfold wGo at hq
    split at hq
    · split at hq
      · have := ih _ q hq; simp at this ⊢; omega
      · rcases List.mem_cons.1 hq with rfl | hq
        · simp
        · have := ih _ q hq; simp at this ⊢; omega
    · have := ih _ q hq; simp at this ⊢; omega

theorem words_le (l : List UInt8) : ∀ q ∈ wordsL l, q.length ≤ l.length := fun q hq => by have := wGo_le l [] q hq; simpa using this

theorem last_test {q : List UInt8} {c : UInt8} (h : q.getLast? = some c) : ((c.toNat : Int) != 41) = (q.getLast? != some 41) := by
  rw [h, Bool.eq_iff_iff]
  simp
  constructor
  · intro h1 h2; apply h1; rw [h2]; rfl
  · intro h1 h2; apply h1; exact UInt8.toNat_inj.1 (by simp; omega)

/-- The words that are left, remarks taken out (o: one is open), and whether none is open at the end. -/
def scanL : Bool → List (List UInt8) → List (List UInt8) × Bool
  | o, [] => ([], !o)
  | true, q :: r => scanL (q.getLast? != some 41) r
  | false, q :: r => if q = [92] then ([], true) else if q = [40] then scanL true r else (q :: (scanL false r).1, (scanL false r).2)

/-- Behind k words of Q, with W kept and o open. -/
def ScanAt (Q : List (List UInt8)) (W : List (List UInt8)) (o : Bool) (k : Nat) : Prop := k ≤ Q.length ∧ W.length ≤ k ∧ scanL false Q = (W ++ (scanL o (Q.drop k)).1, (scanL o (Q.drop k)).2)

theorem scanAt_zero (Q : List (List UInt8)) : ScanAt Q [] false 0 := ⟨Nat.zero_le _, Nat.le_refl _, by simp⟩

theorem qdrop {Q : List (List UInt8)} {k : Nat} (hk : k < Q.length) : Q.drop k = Q[k] :: Q.drop (k + 1) := List.drop_eq_getElem_cons hk

theorem scanAt_open {Q W : List (List UInt8)} {k : Nat} (h : ScanAt Q W true k) (hk : k < Q.length) : ScanAt Q W (Q[k].getLast? != some 41) (k + 1) := by
  obtain ⟨h1, h2, h3⟩ := h
  refine ⟨by omega, by omega, ?_⟩
  rw [h3, qdrop hk]; rfl

theorem scanAt_round {Q W : List (List UInt8)} {k : Nat} (h : ScanAt Q W false k) (hk : k < Q.length) (hq : Q[k] = [40]) : ScanAt Q W true (k + 1) := by
  obtain ⟨h1, h2, h3⟩ := h
  refine ⟨by omega, by omega, ?_⟩
  rw [h3, qdrop hk, scanL, if_neg (by rw [hq]; decide), if_pos hq]

theorem scanAt_keep {Q W : List (List UInt8)} {k : Nat} (h : ScanAt Q W false k) (hk : k < Q.length) (h92 : Q[k] ≠ [92]) (h40 : Q[k] ≠ [40]) : ScanAt Q (W ++ [Q[k]]) false (k + 1) := by
  obtain ⟨h1, h2, h3⟩ := h
  refine ⟨by omega, by simp; omega, ?_⟩
  rw [h3, qdrop hk, scanL, if_neg h92, if_neg h40]
  simp

theorem scanAt_stop {Q W : List (List UInt8)} {k : Nat} (h : ScanAt Q W false k) (hk : k < Q.length) (h92 : Q[k] = [92]) : scanL false Q = (W, true) := by
  obtain ⟨h1, h2, h3⟩ := h
  rw [h3, qdrop hk, scanL, if_pos h92]; simp

theorem scanAt_end {Q W : List (List UInt8)} {o : Bool} (h : ScanAt Q W o Q.length) : scanL false Q = (W, !o) := by
  obtain ⟨h1, h2, h3⟩ := h
  rw [h3]; simp [scanL]

/-- The words of a line, and the code. -/
def lwL (l : List UInt8) : List (List UInt8) := if 400 < l.length then [] else if (scanL false (wordsL l)).2 = true then (scanL false (wordsL l)).1 else []

/-- The code of a line. -/
def lwC (l : List UInt8) : Int := if 65536 < l.length then 2 else if 400 < l.length then 8 else if (scanL false (wordsL l)).2 = true then 0 else 3

end Go.Proofs.Ytafhmajnkicifaa

namespace Go.Proofs.Ytafhmajnkicifaa
open Go.RowKit
set_option linter.unusedVariables false
set_option linter.unusedSimpArgs false

/-- A text as a value. -/
def strV (q : List UInt8) : Value := .string ⟨q.toArray⟩

theorem extract_mid (s : ByteArray) (f k : Nat) : (Value.string (s.extract f k)) = strV (mid s.data.toList f k) := by
  unfold strV mid; rw [Lib.extract_eq]

theorem sp_at {s : ByteArray} {k : Nat} (h : k < s.size) : s.data.toList[k]'(by simpa using h) = s[k] := rfl

/-- What a function leaves that hands back texts of its own. -/
def TextsOf (w : World) (Q : List (List UInt8)) (e : Ending) (w' : World) : Prop := ∃ v, e = .returned v ∧ Owns w' w.heap.size 9 v Q.length (Q.map strV) ∧ Below w.heap.size w w'

theorem last_byte {q : List UInt8} (h : q ≠ []) : ∃ (c : UInt8) (hk : q.length - 1 < (⟨q.toArray⟩ : ByteArray).size), (⟨q.toArray⟩ : ByteArray)[q.length - 1]'hk = c ∧ q.getLast? = some c := by
  have hp : 0 < q.length := List.length_pos_iff.2 h
  refine ⟨q[q.length - 1], by show q.length - 1 < q.toArray.size; simp; omega, rfl, ?_⟩
  rw [List.getLast?_eq_getElem?]
  exact List.getElem?_eq_getElem _

theorem str_size (q : List UInt8) : (⟨q.toArray⟩ : ByteArray).size = q.length := by show q.toArray.size = _; simp

theorem str_eq (q p : List UInt8) : ((⟨q.toArray⟩ : ByteArray).toList == p) = (q == p) := by rw [Lib.toList_data]

theorem hll2 (s : ByteArray) : s.data.toList.length = s.size := by simp

/-- What l02Words leaves. -/
def ScanOf (w : World) (X : List (List UInt8) × Bool) (e : Ending) (w' : World) : Prop := ∃ v, e = .returned (.tuple #[v, .bool X.2]) ∧ Owns w' w.heap.size 9 v X.1.length (X.1.map strV) ∧ Below w.heap.size w w'

theorem owns_base {w : World} {base base' : Nat} {e : TypeId} {v : Value} {n : Nat} {xs : List Value} (h : Owns w base e v n xs) (hb : base' ≤ base) : Owns w base' e v n xs := by
  obtain ⟨⟨h1, h2⟩, h3⟩ := h
  refine ⟨⟨h1, ?_⟩, h3⟩
  rcases h2 with h2 | ⟨g, cap, cur, a1, a2, a3⟩
  · exact .inl h2
  · exact .inr ⟨g, cap, cur, a1, by omega, a3⟩

end Go.Proofs.Ytafhmajnkicifaa

namespace Go.Proofs.Ytafhmajnkicifaa
open Go.RowKit
set_option linter.unusedVariables false
set_option linter.unusedSimpArgs false

/-- A slice, nil or not, that reads as these texts. -/
def Strs (w : World) (A : Option Addr) (cap : Nat) (Q : List (List UInt8)) : Prop := Q.length ≤ maxLen ∧ (0 < Q.length → ∃ g, A = some ⟨g, 0, none⟩ ∧ ∀ k (h : k < Q.length), w.cell? ⟨g, k, none⟩ = some (.string ⟨Q[k].toArray⟩))

theorem strs_of_own {w : World} {base : Nat} {v : Value} {Q : List (List UInt8)} (h : w.ownsRow base 9 1 v Q.length (Q.map strV)) : ∃ A cap, v = .slice A Q.length cap ∧ Strs w A cap Q := by
  rcases h.2 with ⟨hv, h0⟩ | ⟨g, cap, cur, hv, hb, hg, h1, h2, h3, h4⟩
  · exact ⟨none, 0, by rw [hv, h0], by rw [h0]; exact Nat.zero_le _, fun hp => by omega⟩
  · refine ⟨some ⟨g, 0, none⟩, cap, hv, Nat.le_trans h1 h2, fun _ => ⟨g, rfl, fun k hk => ?_⟩⟩
    subst hv
    rw [h.cellAt k (by omega)]
    simp [strV, hk]

theorem strs_draws {w : World} {A : Option Addr} {cap n : Nat} {Q : List (List UInt8)} (h : Strs w A cap Q) : Strs (w.drewN n) A cap Q := h

/-- The first k texts are alike. -/
def AlikeTo (P Q : List (List UInt8)) (k : Nat) : Prop := P.take k = Q.take k

theorem alike_zero (P Q : List (List UInt8)) : AlikeTo P Q 0 := by unfold AlikeTo; simp

theorem alike_next {P Q : List (List UInt8)} {k : Nat} (h : AlikeTo P Q k) (hp : k < P.length) (hq : k < Q.length) (e : P[k] = Q[k]) : AlikeTo P Q (k + 1) := by
  unfold AlikeTo at *
  rw [List.take_succ_eq_append_getElem hp, List.take_succ_eq_append_getElem hq, h, e]

theorem alike_end {P Q : List (List UInt8)} (hl : P.length = Q.length) (h : AlikeTo P Q P.length) : (P == Q) = true := by
  unfold AlikeTo at h
  rw [List.take_length, hl, List.take_length] at h
  simpa using h

theorem alike_len {P Q : List (List UInt8)} (hl : P.length ≠ Q.length) : (P == Q) = false := by
  rw [beq_eq_false_iff_ne]; intro e; rw [e] at hl; exact hl rfl

theorem alike_not {P Q : List (List UInt8)} {k : Nat} (hp : k < P.length) (hq : k < Q.length) (e : P[k] ≠ Q[k]) : (P == Q) = false := by
  rw [beq_eq_false_iff_ne]; intro h; subst h; exact e rfl

theorem text_eq_test (p q : List UInt8) : ((⟨p.toArray⟩ : ByteArray).toList == (⟨q.toArray⟩ : ByteArray).toList) = (p == q) := by
  rw [Lib.toList_data, Lib.toList_data]

/-- What a comparison leaves: draws alone. -/
def SameOf (w : World) (b : Bool) (e : Ending) (w' : World) : Prop := ∃ n : Nat, e = .returned (.bool b) ∧ w' = w.drewN n

end Go.Proofs.Ytafhmajnkicifaa

namespace Go.Proofs.Ytafhmajnkicifaa
open Go.RowKit
set_option linter.unusedVariables false
set_option linter.unusedSimpArgs false

/-- Where a source stands: how many bytes are drawn, and its seed. -/
abbrev DSt := Nat × Int

/-- The next byte of a source over the code zs, and where it stands then. -/
def dByte (len : Nat) (zs : List Int) (s : DSt) : Int × DSt :=
  if s.1 < len then (zs.getD s.1 0, (s.1 + 1, (s.2 * 31 + zs.getD s.1 0 + 7) % 2147483648))
  else if s.1 + 1 ≤ 3000 then ((s.2 * 1103515245 + 12345) % 2147483648 / 65536 % 256, (s.1 + 1, (s.2 * 1103515245 + 12345) % 2147483648))
  else (0, (s.1 + 1, s.2))

theorem dByte_at (len : Nat) (zs : List Int) (s : DSt) : (dByte len zs s).2.1 = s.1 + 1 := by unfold dByte; split <;> (try split) <;> rfl

/-- A source that stands there. -/
def SrcS (w : World) (b : Nat) (a : Option Addr) (len cap : Nat) (zs : List Int) (s : DSt) : Prop := SrcAt w b a len cap zs s.1 s.2

/-- What an exact draw leaves. -/
def DrewS (w : World) (b : Nat) (a : Option Addr) (len cap : Nat) (zs : List Int) (v : Value) (s : DSt) (e : Ending) (w' : World) : Prop := e = .returned v ∧ SrcS w' b a len cap zs s ∧ w.grownBy w' (some b)

set_option maxRecDepth 100000 in
set_option maxHeartbeats 1000000 in
theorem byteS_late (b : Nat) (a : Option Addr) (len cap : Nat) (zs : List Int) (k : Nat) (seed : Int) (w : World) (h : SrcAt w b a len cap zs k seed) (hN : k < 1000000000) (hl : len < k + 1) (h3 : 3000 < k + 1) :
    Calls Try.prog 69 #[.pointer (some ⟨b, 0, none⟩)] w (DrewS w b a len cap zs (.int .i64 0) (k + 1, seed)) := by
  have H := Lib.hid h
  obtain ⟨c0, c1, c2, f1, f2, row, apart, s0, s1⟩ := h
  clear row apart
  go_enter Try.func69, Try.ntmps69
  go_wp2
  go_quiet (fail)
  go_wp2
  go_ret
  exact ⟨rfl, src_draws (src_one H.out) _, grown_trans (grown_set _ _ _ _) (grown_draws _ _ _)⟩

set_option maxRecDepth 100000 in
set_option maxHeartbeats 1000000 in
theorem byteS_mid (b : Nat) (a : Option Addr) (len cap : Nat) (zs : List Int) (k : Nat) (seed : Int) (w : World) (h : SrcAt w b a len cap zs k seed) (hN : k < 1000000000) (hl : len < k + 1) (h3 : k + 1 ≤ 3000) :
    Calls Try.prog 69 #[.pointer (some ⟨b, 0, none⟩)] w (DrewS w b a len cap zs (.int .i64 ((seed * 1103515245 + 12345) % 2147483648 / 65536 % 256)) (k + 1, (seed * 1103515245 + 12345) % 2147483648)) := by
  have H := Lib.hid h
  obtain ⟨c0, c1, c2, f1, f2, row, apart, s0, s1⟩ := h
  clear row apart
  go_enter Try.func69, Try.ntmps69
  go_wp2
  go_quiet (fail)
  go_wp2
  go_ret
  exact ⟨rfl, src_two (src_draws (src_one H.out) _) _ (by omega) (by omega), grown_trans (grown_trans (grown_set _ _ _ _) (grown_draws _ _ _)) (grown_set _ _ _ _)⟩

set_option maxRecDepth 100000 in
set_option maxHeartbeats 1000000 in
theorem byteS_code (b bc off : Nat) (len cap : Nat) (zs : List Int) (k : Nat) (seed : Int) (w : World) (h : SrcAt w b (some ⟨bc, off, none⟩) len cap zs k seed) (hl : k < len) :
    Calls Try.prog 69 #[.pointer (some ⟨b, 0, none⟩)] w (DrewS w b (some ⟨bc, off, none⟩) len cap zs (.int .i64 (zs.getD k 0)) (k + 1, (seed * 31 + zs.getD k 0 + 7) % 2147483648)) := by
  have H := Lib.hid h
  obtain ⟨c0, c1, c2, f1, f2, row, apart, s0, s1⟩ := h
  rcases row with ⟨h, _⟩ | ⟨x, hx, h1, h2, hz, h4, h5⟩
  · cases h
  obtain rfl := Option.some.inj hx
  have hne : ¬ bc = b := apart _ rfl (by omega)
  have hc : w.cell? ⟨bc, off + k, none⟩ = some (.int .u8 (zs.getD k 0)) := by have := h4 k (by omega); rwa [Addr.add_lit] at this
  have hv : 0 ≤ zs.getD k 0 ∧ zs.getD k 0 ≤ 255 := by
    have := range_u8 h5 k
    rwa [← List.getD_eq_getElem?_getD] at this
  unfold maxLen at h2
  generalize zs.getD k 0 = v at *
  obtain ⟨v0, v1⟩ := hv
  clear h4 h5 apart hz hx
  go_enter Try.func69, Try.ntmps69
  go_wp2
  go_quiet (fail)
  go_wp2
  go_region
  go_wp2
  go_quiet (fail)
  go_wp2
  go_ret
  exact ⟨rfl, src_draws (src_two (src_draws (src_one H.out) _) _ (by omega) (by omega)) _, grown_trans (grown_trans (grown_trans (grown_set _ _ _ _) (grown_draws _ _ _)) (grown_set _ _ _ _)) (grown_draws _ _ _)⟩

theorem byteS_any (b : Nat) (a : Option Addr) (len cap : Nat) (zs : List Int) (s : DSt) (w : World) (h : SrcS w b a len cap zs s) (hN : s.1 < 1000000000) :
    Calls Try.prog 69 #[.pointer (some ⟨b, 0, none⟩)] w (DrewS w b a len cap zs (.int .i64 (dByte len zs s).1) (dByte len zs s).2) := by
  obtain ⟨k, seed⟩ := s
  by_cases hl : k < len
  · rcases SrcAt.row h with ⟨_, h0, _⟩ | ⟨x, rfl, h1, h2, hz, h4, h5⟩
    · omega
    · have hx : w.cell? (x.add 0) = some (.int .u8 (zs.getD 0 0)) := h4 0 (by omega)
      obtain ⟨bc, off, spot⟩ := x
      have hspot : spot = none := by simpa [Addr.add] using World.cell?_spot hx
      subst hspot
      have e : dByte len zs (k, seed) = (zs.getD k 0, (k + 1, (seed * 31 + zs.getD k 0 + 7) % 2147483648)) := by unfold dByte; rw [if_pos hl]
      rw [e]
      exact byteS_code b bc off len cap zs k seed w h hl
  · by_cases h3 : k + 1 ≤ 3000
    · have e : dByte len zs (k, seed) = ((seed * 1103515245 + 12345) % 2147483648 / 65536 % 256, (k + 1, (seed * 1103515245 + 12345) % 2147483648)) := by unfold dByte; rw [if_neg hl, if_pos h3]
      rw [e]
      exact byteS_mid b a len cap zs k seed w h hN (by omega) h3
    · have e : dByte len zs (k, seed) = (0, (k + 1, seed)) := by unfold dByte; rw [if_neg hl, if_neg h3]
      rw [e]
      exact byteS_late b a len cap zs k seed w h hN (by omega) (by omega)

theorem srcS_bytes {w : World} {b : Nat} {a : Option Addr} {len cap : Nat} {zs : List Int} {s : DSt} (h : SrcS w b a len cap zs s) : 0 ≤ (dByte len zs s).1 ∧ (dByte len zs s).1 ≤ 255 := by
  unfold dByte
  split
  · rcases SrcAt.row h with ⟨_, h0, _⟩ | ⟨x, _, h1, h2, hz, h4, h5⟩
    · omega
    · have := range_u8 h5 s.1
      rwa [← List.getD_eq_getElem?_getD] at this
  · split <;> simp <;> omega

/-- The next number of a source below a small n. -/
def dSmall (len : Nat) (zs : List Int) (n : Nat) (s : DSt) : Nat × DSt := (((dByte len zs s).1 % (n : Int)).toNat, (dByte len zs s).2)

theorem dSmall_lt (len : Nat) (zs : List Int) {n : Nat} (s : DSt) (h : 0 < n) : (dSmall len zs n s).1 < n := by
  unfold dSmall
  have := Int.emod_lt_of_pos (dByte len zs s).1 (by omega : (0 : Int) < n)
  have := Int.emod_nonneg (dByte len zs s).1 (by omega : (n : Int) ≠ 0)
  simp; omega

theorem dSmall_at (len : Nat) (zs : List Int) (n : Nat) (s : DSt) : (dSmall len zs n s).2.1 = s.1 + 1 := dByte_at len zs s

set_option maxRecDepth 100000 in
set_option maxHeartbeats 400000 in
theorem nextS_any (b : Nat) (a : Option Addr) (len cap : Nat) (zs : List Int) (s : DSt) (n : Nat) (w : World) (h : SrcS w b a len cap zs s) (hN : s.1 < 1000000000) (h1 : 1 < n) (h2 : n ≤ 256) :
    Calls Try.prog 54 #[.pointer (some ⟨b, 0, none⟩), .int .i64 n] w (DrewS w b a len cap zs (.int .i64 (dSmall len zs n s).1) (dSmall len zs n s).2) := by
  have R := srcS_bytes h
  have C := Lib.hid (byteS_any b a len cap zs s w h hN)
  have E : Hid (((dSmall len zs n s).1 : Int) = (dByte len zs s).1 % n) := Lib.hid (by
    unfold dSmall
    have := Int.emod_nonneg (dByte len zs s).1 (by omega : (n : Int) ≠ 0)
    simp; omega)
  have E2 : Hid ((dSmall len zs n s).2 = (dByte len zs s).2) := Lib.hid rfl
  rw [E2.out, E.out]
  clear h hN E E2
  obtain ⟨d1, hd1⟩ : ∃ d, (dByte len zs s).1 = d := ⟨_, rfl⟩
  obtain ⟨d2, hd2⟩ : ∃ d, (dByte len zs s).2 = d := ⟨_, rfl⟩
  rw [hd1] at R C ⊢
  rw [hd2] at C ⊢
  clear hd1 hd2
  obtain ⟨v0, v1⟩ := R
  go_enter Try.func54, Try.ntmps54
  go_wp2_with fail
  refine C.out.mono ?_
  rintro e w1 ⟨rfl, hs, hg⟩
  have S := Lib.hid hs
  have G := Lib.hid hg
  clear hs hg
  have z0 : ((n : Int) == 0) = false := by simp; omega
  go_wp2
  go_ret
  exact ⟨rfl, S.out, G.out⟩

set_option maxRecDepth 100000 in
set_option maxHeartbeats 400000 in
theorem chanceS_any (b : Nat) (a : Option Addr) (len cap : Nat) (zs : List Int) (s : DSt) (n : Nat) (w : World) (h : SrcS w b a len cap zs s) (hN : s.1 < 1000000000) (h1 : 1 < n) (h2 : n ≤ 256) :
    Calls Try.prog 44 #[.pointer (some ⟨b, 0, none⟩), .int .i64 n] w (DrewS w b a len cap zs (.bool (decide ((dSmall len zs n s).1 + 1 = n))) (dSmall len zs n s).2) := by
  have C := Lib.hid (nextS_any b a len cap zs s n w h hN h1 h2)
  have hlt := dSmall_lt len zs s (by omega : 0 < n)
  clear h hN
  obtain ⟨d1, hd1⟩ : ∃ d, (dSmall len zs n s).1 = d := ⟨_, rfl⟩
  obtain ⟨d2, hd2⟩ : ∃ d, (dSmall len zs n s).2 = d := ⟨_, rfl⟩
  rw [hd1] at C hlt ⊢
  rw [hd2] at C ⊢
  clear hd1 hd2
  have E : Hid (((d1 : Int) == (n : Int) - 1) = decide (d1 + 1 = n)) := Lib.hid (by rw [Bool.eq_iff_iff]; simp; omega)
  go_enter Try.func44, Try.ntmps44
  go_wp2_with fail
  refine C.out.mono ?_
  rintro e w1 ⟨rfl, hs, hg⟩
  have S := Lib.hid hs
  have G := Lib.hid hg
  clear hs hg
  go_wp2
  go_ret
  exact ⟨ret_bool E.out, S.out, G.out⟩

theorem strs_at {w : World} {A : Option Addr} {cap : Nat} {Q : List (List UInt8)} (h : Strs w A cap Q) {k : Nat} (hk : k < Q.length) : ∃ g, A = some ⟨g, 0, none⟩ ∧ w.cell? ⟨g, k, none⟩ = some (.string ⟨Q[k].toArray⟩) := by
  obtain ⟨g, hA, hc⟩ := h.2 (by omega)
  exact ⟨g, hA, hc k hk⟩

end Go.Proofs.Ytafhmajnkicifaa

namespace Go.Proofs.Ytafhmajnkicifaa
open Go.RowKit
set_option linter.unusedVariables false
set_option linter.unusedSimpArgs false

set_option maxRecDepth 100000 in
set_option maxHeartbeats 400000 in
theorem source_any (a : Option Addr) (len cap : Nat) (w : World) (hl : len ≤ 9223372036854775807) :
    Calls Try.prog 26 #[.slice a len cap] w fun e w' => e = .returned (.pointer (some ⟨w.heap.size, 0, none⟩)) ∧ w' = w.alloc (.cells #[.slice a len cap, .int .i64 0, .int .i64 ((len : Int) % 1000)] 73) := by
  go_enter Try.func26, Try.ntmps26
  go_wp2
  go_ret
  exact ⟨rfl, rfl⟩

theorem src_new {w : World} {a : Option Addr} {len cap : Nat} {zs : List Int} (h : BRow w a len cap zs) :
    Src (w.alloc (.cells #[.slice a len cap, .int .i64 0, .int .i64 ((len : Int) % 1000)] 73)) w.heap.size a len cap zs 0 := by
  have hb := brow_lt h
  refine ⟨0, (len : Int) % 1000, Nat.le_refl _, ?_, ?_, ?_, ?_, ?_, ?_, ?_, ?_, ?_⟩
  · simp
  · simp
  · simp
  · simp
  · simp
  · rcases h with h | ⟨x, rfl, h1, h2, h3, h4, h5⟩
    · exact .inl h
    · exact .inr ⟨x, rfl, h1, h2, h3, fun i hi => by rw [World.cell?_alloc_lt _ _ _ (by rw [add_block]; exact hb x rfl (by omega))]; exact h4 i hi, h5⟩
  · intro x hx hc; have := hb x hx hc; omega
  · omega
  · omega

set_option maxRecDepth 100000 in
set_option maxHeartbeats 2000000 in
theorem cell_any (b : Nat) (a : Option Addr) (len cap : Nat) (zs : List Int) (N : Nat) (w : World) (h : Src w b a len cap zs N) (hN : Few (N + 4)) :
    Calls Try.prog 70 #[.pointer (some ⟨b, 0, none⟩)] w (Drew w b a len cap zs (N + 5) fun v => -2147483648 ≤ v ∧ v ≤ 2147483647) := by
  have H := Lib.hid h
  have HN : Hid (∀ m, m ≤ N + 4 → Few m) := Lib.hid fun m hm => by unfold Few at *; omega
  clear h hN
  go_enter Try.func70, Try.ntmps70
  go_wp2_with fail
  refine (next_small _ _ _ _ _ _ _ _ H.out (HN.out _ (by omega)) (by omega) (by omega)).mono ?_
  rintro e w1 ⟨v, hv1, rfl, hs1, hg1⟩
  obtain ⟨v0, v1⟩ := hv1
  have S1 := Lib.hid hs1
  have G1 := Lib.hid hg1
  clear hs1 hg1
  rcases (by omega : v = 0 ∨ v = 1 ∨ v = 2 ∨ v = 3 ∨ (v ≠ 0 ∧ v ≠ 1 ∧ v ≠ 2 ∧ v ≠ 3)) with rfl | rfl | rfl | rfl | ⟨n0, n1, n2, n3⟩
  · go_wp2_with fail
    refine (next_small _ _ _ _ _ _ _ _ S1.out (HN.out _ (by omega)) (by omega) (by omega)).mono ?_
    rintro e w2 ⟨u, hv2, rfl, hs2, hg2⟩
    obtain ⟨u0, u1⟩ := hv2
    have S2 := Lib.hid hs2
    have G2 := Lib.hid (grown_trans G1.out hg2)
    clear hs2 hg2
    go_wp2
    go_ret
    exact ⟨_, ⟨by omega, by omega⟩, rfl, src_mono S2.out (by omega), G2.out⟩
  · go_wp2_with fail
    refine (next_small _ _ _ _ _ _ _ _ S1.out (HN.out _ (by omega)) (by omega) (by omega)).mono ?_
    rintro e w2 ⟨u, hv2, rfl, hs2, hg2⟩
    obtain ⟨u0, u1⟩ := hv2
    have S2 := Lib.hid hs2
    have G2 := Lib.hid (grown_trans G1.out hg2)
    clear hs2 hg2
    go_wp2
    go_ret
    exact ⟨_, ⟨by omega, by omega⟩, rfl, src_mono S2.out (by omega), G2.out⟩
  · go_wp2_with fail
    refine (byte_any _ _ _ _ _ _ _ S1.out (HN.out _ (by omega))).mono ?_
    rintro e w2 ⟨u, hv2, rfl, hs2, hg2⟩
    obtain ⟨u0, u1⟩ := hv2
    have S2 := Lib.hid hs2
    have G2 := Lib.hid (grown_trans G1.out hg2)
    clear hs2 hg2
    go_wp2_with fail
    refine (byte_any _ _ _ _ _ _ _ S2.out (HN.out _ (by omega))).mono ?_
    rintro e w3 ⟨t, hv3, rfl, hs3, hg3⟩
    obtain ⟨t0, t1⟩ := hv3
    have S3 := Lib.hid hs3
    have G3 := Lib.hid (grown_trans G2.out hg3)
    clear hs3 hg3
    go_wp2_with fail
    refine (byte_any _ _ _ _ _ _ _ S3.out (HN.out _ (by omega))).mono ?_
    rintro e w4 ⟨r, hv4, rfl, hs4, hg4⟩
    obtain ⟨r0, r1⟩ := hv4
    have S4 := Lib.hid hs4
    have G4 := Lib.hid (grown_trans G3.out hg4)
    clear hs4 hg4
    go_wp2_with fail
    refine (byte_any _ _ _ _ _ _ _ S4.out (HN.out _ (by omega))).mono ?_
    rintro e w5 ⟨q, hv5, rfl, hs5, hg5⟩
    obtain ⟨q0, q1⟩ := hv5
    have S5 := Lib.hid hs5
    have G5 := Lib.hid (grown_trans G4.out hg5)
    clear hs5 hg5
    go_wp2_with fail
    refine (sWrap_any _ _).mono ?_
    rintro e w6 ⟨rfl, rfl⟩
    go_wp2
    go_ret
    exact ⟨_, wrap32_cell _, rfl, src_mono S5.out (by omega), G5.out⟩
  · go_wp2_with fail
    refine (next_small _ _ _ _ _ _ _ _ S1.out (HN.out _ (by omega)) (by omega) (by omega)).mono ?_
    rintro e w2 ⟨u, hv2, rfl, hs2, hg2⟩
    obtain ⟨u0, u1⟩ := hv2
    have S2 := Lib.hid hs2
    have G2 := Lib.hid (grown_trans G1.out hg2)
    clear hs2 hg2
    go_wp2
    go_ret
    exact ⟨_, ⟨by omega, by omega⟩, rfl, src_mono S2.out (by omega), G2.out⟩
  · have m0 : (v == 0) = false := by simpa using n0
    have m1 : (v == 1) = false := by simpa using n1
    have m2 : (v == 2) = false := by simpa using n2
    have m3 : (v == 3) = false := by simpa using n3
    go_wp2_with fail
    refine (next_small _ _ _ _ _ _ _ _ S1.out (HN.out _ (by omega)) (by omega) (by omega)).mono ?_
    rintro e w2 ⟨u, hv2, rfl, hs2, hg2⟩
    obtain ⟨u0, u1⟩ := hv2
    have S2 := Lib.hid hs2
    have G2 := Lib.hid (grown_trans G1.out hg2)
    clear hs2 hg2
    go_wp2
    go_ret
    exact ⟨_, ⟨by omega, by omega⟩, rfl, src_mono S2.out (by omega), G2.out⟩

/-- What a drawn cell leaves: a cell; of what was there nothing has turned. -/
def CellDrew (w : World) (e : Ending) (w' : World) : Prop := ∃ v : Int, (-2147483648 ≤ v ∧ v ≤ 2147483647) ∧ e = .returned (.int .i64 v) ∧ Below w.heap.size w w'

theorem below_newS {w w' : World} (o : Obj) (h : (w.alloc o).grownBy w' (some w.heap.size)) : Below w.heap.size w w' :=
  ((Below.refl w.heap.size w).alloc (Nat.le_refl _) o).grown h (by simp) (fun k hk => by cases hk; exact Nat.le_refl _)

end Go.Proofs.Ytafhmajnkicifaa

namespace Go.Proofs.Ytafhmajnkicifaa
open Go.RowKit
set_option linter.unusedVariables false
set_option linter.unusedSimpArgs false

theorem brow_lo {w w' : World} {B : Nat} {a : Option Addr} {len cap : Nat} {zs : List Int} (h : BRow w a len cap zs) (ha : ∀ x, a = some x → 0 < cap → x.block < B) (k : Below B w w') : BRow w' a len cap zs := by
  rcases h with h | ⟨x, rfl, h1, h2, h3, h4, h5⟩
  · exact .inl h
  · exact .inr ⟨x, rfl, h1, h2, h3, fun i hi => by rw [k.cell (by rw [add_block]; exact ha x rfl (by omega))]; exact h4 i hi, h5⟩

/-- The source stays where nothing below a bound turns. -/
theorem src_lo {w w' : World} {B b : Nat} {a : Option Addr} {len cap : Nat} {zs : List Int} {N : Nat} (h : Src w b a len cap zs N) (hb : b < B) (ha : ∀ x, a = some x → 0 < cap → x.block < B) (k : Below B w w') : Src w' b a len cap zs N := by
  obtain ⟨i, seed, hi, c0, c1, c2, f1, f2, row, ap, s0, s1⟩ := h
  exact ⟨i, seed, hi, by rw [k.cell (p := ⟨b, 0, none⟩) hb]; exact c0, by rw [k.cell (p := ⟨b, 1, none⟩) hb]; exact c1, by rw [k.cell (p := ⟨b, 2, none⟩) hb]; exact c2,
    by rw [k.frozen (p := ⟨b, 1, none⟩) hb]; exact f1, by rw [k.frozen (p := ⟨b, 2, none⟩) hb]; exact f2, brow_lo row ha k, ap, s0, s1⟩

theorem src_lt {w : World} {b : Nat} {a : Option Addr} {len cap : Nat} {zs : List Int} {N : Nat} (h : Src w b a len cap zs N) : b < w.heap.size := by
  obtain ⟨i, seed, hi, h⟩ := h
  exact lt_of_cell h.c0

theorem src_code_lt {w : World} {b : Nat} {a : Option Addr} {len cap : Nat} {zs : List Int} {N : Nat} (h : Src w b a len cap zs N) : ∀ x, a = some x → 0 < cap → x.block < w.heap.size := by
  obtain ⟨i, seed, hi, h⟩ := h
  exact brow_lt h.row

theorem src_alloc {w : World} {b : Nat} {a : Option Addr} {len cap : Nat} {zs : List Int} {N : Nat} (h : Src w b a len cap zs N) (o : Obj) : Src (w.alloc o) b a len cap zs N :=
  src_lo h (src_lt h) (src_code_lt h) ((Below.refl _ _).alloc (Nat.le_refl _) _)

theorem src_draws' {w : World} {b : Nat} {a : Option Addr} {len cap : Nat} {zs : List Int} {N : Nat} (h : Src w b a len cap zs N) : Src w.drew b a len cap zs N :=
  src_lo h (src_lt h) (src_code_lt h) (Below.refl _ _).drew

end Go.Proofs.Ytafhmajnkicifaa

namespace Go.Proofs.Ytafhmajnkicifaa
open Go.RowKit
set_option linter.unusedVariables false
set_option linter.unusedSimpArgs false

/-- The next number below n, as an integer. -/
def dNx (len : Nat) (zs : List Int) (n : Nat) (s : DSt) : Int × DSt := (((dSmall len zs n s).1 : Int), (dSmall len zs n s).2)

/-- What an exact draw of a number leaves. -/
def NxOf (w : World) (b : Nat) (a : Option Addr) (len cap : Nat) (zs : List Int) (n : Nat) (s : DSt) (e : Ending) (w' : World) : Prop :=
  ∃ (v : Int) (s' : DSt), dNx len zs n s = (v, s') ∧ (0 ≤ v ∧ v < n) ∧ s'.1 = s.1 + 1 ∧ e = .returned (.int .i64 v) ∧ SrcS w' b a len cap zs s' ∧ w.grownBy w' (some b)

theorem nextD (b : Nat) (a : Option Addr) (len cap : Nat) (zs : List Int) (s : DSt) (n : Nat) (w : World) (h : SrcS w b a len cap zs s) (hN : s.1 < 1000000000) (h1 : 1 < n) (h2 : n ≤ 256) :
    Calls Try.prog 54 #[.pointer (some ⟨b, 0, none⟩), .int .i64 n] w (NxOf w b a len cap zs n s) := by
  refine (nextS_any b a len cap zs s n w h hN h1 h2).mono ?_
  rintro e w' ⟨he, hs, hg⟩
  have := dSmall_lt len zs s (by omega : 0 < n)
  exact ⟨_, _, rfl, ⟨by omega, by omega⟩, dSmall_at len zs n s, he, hs, hg⟩

/-- What an exact draw of a byte leaves. -/
def ByOf (w : World) (b : Nat) (a : Option Addr) (len cap : Nat) (zs : List Int) (s : DSt) (e : Ending) (w' : World) : Prop :=
  ∃ (v : Int) (s' : DSt), dByte len zs s = (v, s') ∧ (0 ≤ v ∧ v ≤ 255) ∧ s'.1 = s.1 + 1 ∧ e = .returned (.int .i64 v) ∧ SrcS w' b a len cap zs s' ∧ w.grownBy w' (some b)

theorem byteD (b : Nat) (a : Option Addr) (len cap : Nat) (zs : List Int) (s : DSt) (w : World) (h : SrcS w b a len cap zs s) (hN : s.1 < 1000000000) :
    Calls Try.prog 69 #[.pointer (some ⟨b, 0, none⟩)] w (ByOf w b a len cap zs s) := by
  have hb := srcS_bytes h
  refine (byteS_any b a len cap zs s w h hN).mono ?_
  rintro e w' ⟨he, hs, hg⟩
  exact ⟨_, _, rfl, hb, dByte_at len zs s, he, hs, hg⟩

/-- A chance. -/
def ChOf (w : World) (b : Nat) (a : Option Addr) (len cap : Nat) (zs : List Int) (n : Nat) (s : DSt) (e : Ending) (w' : World) : Prop :=
  ∃ (t : Bool) (v : Int) (s' : DSt), dNx len zs n s = (v, s') ∧ (t = true ↔ v + 1 = n) ∧ s'.1 = s.1 + 1 ∧ e = .returned (.bool t) ∧ SrcS w' b a len cap zs s' ∧ w.grownBy w' (some b)

theorem chanceD (b : Nat) (a : Option Addr) (len cap : Nat) (zs : List Int) (s : DSt) (n : Nat) (w : World) (h : SrcS w b a len cap zs s) (hN : s.1 < 1000000000) (h1 : 1 < n) (h2 : n ≤ 256) :
    Calls Try.prog 44 #[.pointer (some ⟨b, 0, none⟩), .int .i64 n] w (ChOf w b a len cap zs n s) := by
  refine (chanceS_any b a len cap zs s n w h hN h1 h2).mono ?_
  rintro e w' ⟨he, hs, hg⟩
  exact ⟨_, _, _, rfl, by rw [decide_eq_true_iff]; omega, dSmall_at len zs n s, he, hs, hg⟩

/-- A cell drawn. -/
def dCell (len : Nat) (zs : List Int) (s : DSt) : Int × DSt :=
  if (dNx len zs 8 s).1 = 0 then (2147483647 - (dNx len zs 3 (dNx len zs 8 s).2).1, (dNx len zs 3 (dNx len zs 8 s).2).2)
  else if (dNx len zs 8 s).1 = 1 then (-2147483648 + (dNx len zs 3 (dNx len zs 8 s).2).1, (dNx len zs 3 (dNx len zs 8 s).2).2)
  else if (dNx len zs 8 s).1 = 2 then
    let p := dByte len zs (dNx len zs 8 s).2
    let q := dByte len zs p.2
    let r := dByte len zs q.2
    let t := dByte len zs r.2
    (wrap32 (p.1 * 16777216 + q.1 * 65536 + r.1 * 256 + t.1), t.2)
  else if (dNx len zs 8 s).1 = 3 then (-(dNx len zs 40 (dNx len zs 8 s).2).1, (dNx len zs 40 (dNx len zs 8 s).2).2)
  else ((dNx len zs 40 (dNx len zs 8 s).2).1, (dNx len zs 40 (dNx len zs 8 s).2).2)

/-- What an exact draw of a cell leaves. -/
def CeOf (f : DSt → Int × DSt) (m : Nat) (w : World) (b : Nat) (a : Option Addr) (len cap : Nat) (zs : List Int) (s : DSt) (e : Ending) (w' : World) : Prop :=
  ∃ (v : Int) (s' : DSt), f s = (v, s') ∧ (-2147483648 ≤ v ∧ v ≤ 2147483647) ∧ s'.1 ≤ s.1 + m ∧ e = .returned (.int .i64 v) ∧ SrcS w' b a len cap zs s' ∧ w.grownBy w' (some b)

set_option maxRecDepth 100000 in
set_option maxHeartbeats 2000000 in
theorem cellD (b : Nat) (a : Option Addr) (len cap : Nat) (zs : List Int) (s0 : DSt) (w0 : World) (h : SrcS w0 b a len cap zs s0) (hN : s0.1 < 900000000) :
    Calls Try.prog 70 #[.pointer (some ⟨b, 0, none⟩)] w0 (CeOf (dCell len zs) 5 w0 b a len cap zs s0) := by
  have S0 := Lib.hid h
  have G0 : Hid (w0.grownBy w0 (some b)) := Lib.hid (World.grownBy.refl _ _)
  clear h
  go_enter Try.func70, Try.ntmps70
  go_wp2_with fail
  refine (nextD _ _ _ _ _ _ 8 _ S0.out (by omega) (by omega) (by omega)).mono ?_
  rintro e w1 ⟨v, s1, he, ⟨l1, u1⟩, hp, rfl, hs, hg⟩
  have E1 := Lib.hid he
  have S1 := Lib.hid hs
  have G1 := Lib.hid (grown_trans G0.out hg)
  have p1 : s1.1 = s0.1 + 1 := hp
  clear he hs hg hp
  rcases (by omega : v = 0 ∨ v = 1 ∨ v = 2 ∨ v = 3 ∨ (v ≠ 0 ∧ v ≠ 1 ∧ v ≠ 2 ∧ v ≠ 3)) with rfl | rfl | rfl | rfl | ⟨n0, n1, n2, n3⟩
  · go_wp2_with fail
    refine (nextD _ _ _ _ _ _ 3 _ S1.out (by omega) (by omega) (by omega)).mono ?_
    rintro e w2 ⟨u, s2, he, ⟨l2, u2⟩, hp, rfl, hs, hg⟩
    have E2 := Lib.hid he
    have S2 := Lib.hid hs
    have G2 := Lib.hid (grown_trans G1.out hg)
    have p2 : s2.1 = s1.1 + 1 := hp
    clear he hs hg hp
    go_wp2
    go_ret
    exact ⟨_, s2, by unfold dCell; rw [E1.out]; simp [E2.out], ⟨by omega, by omega⟩, by omega, rfl, S2.out, G2.out⟩
  · go_wp2_with fail
    refine (nextD _ _ _ _ _ _ 3 _ S1.out (by omega) (by omega) (by omega)).mono ?_
    rintro e w2 ⟨u, s2, he, ⟨l2, u2⟩, hp, rfl, hs, hg⟩
    have E2 := Lib.hid he
    have S2 := Lib.hid hs
    have G2 := Lib.hid (grown_trans G1.out hg)
    have p2 : s2.1 = s1.1 + 1 := hp
    clear he hs hg hp
    go_wp2
    go_ret
    exact ⟨_, s2, by unfold dCell; rw [E1.out]; simp [E2.out], ⟨by omega, by omega⟩, by omega, rfl, S2.out, G2.out⟩
  · go_wp2_with fail
    refine (byteD _ _ _ _ _ _ _ S1.out (by omega)).mono ?_
    rintro e w2 ⟨u, s2, he, ⟨l2, u2⟩, hp, rfl, hs, hg⟩
    have E2 := Lib.hid he
    have S2 := Lib.hid hs
    have G2 := Lib.hid (grown_trans G1.out hg)
    have p2 : s2.1 = s1.1 + 1 := hp
    clear he hs hg hp
    go_wp2_with fail
    refine (byteD _ _ _ _ _ _ _ S2.out (by omega)).mono ?_
    rintro e w3 ⟨t, s3, he, ⟨l3, u3⟩, hp, rfl, hs, hg⟩
    have E3 := Lib.hid he
    have S3 := Lib.hid hs
    have G3 := Lib.hid (grown_trans G2.out hg)
    have p3 : s3.1 = s2.1 + 1 := hp
    clear he hs hg hp
    go_wp2_with fail
    refine (byteD _ _ _ _ _ _ _ S3.out (by omega)).mono ?_
    rintro e w4 ⟨r, s4, he, ⟨l4, u4⟩, hp, rfl, hs, hg⟩
    have E4 := Lib.hid he
    have S4 := Lib.hid hs
    have G4 := Lib.hid (grown_trans G3.out hg)
    have p4 : s4.1 = s3.1 + 1 := hp
    clear he hs hg hp
    go_wp2_with fail
    refine (byteD _ _ _ _ _ _ _ S4.out (by omega)).mono ?_
    rintro e w5 ⟨q, s5, he, ⟨l5, u5⟩, hp, rfl, hs, hg⟩
    have E5 := Lib.hid he
    have S5 := Lib.hid hs
    have G5 := Lib.hid (grown_trans G4.out hg)
    have p5 : s5.1 = s4.1 + 1 := hp
    clear he hs hg hp
    go_wp2_with fail
    refine (sWrap_any _ _).mono ?_
    rintro e w6 ⟨rfl, rfl⟩
    go_wp2
    go_ret
    exact ⟨_, s5, by unfold dCell; rw [E1.out]; simp [E2.out, E3.out, E4.out, E5.out], wrap32_cell _, by omega, rfl, S5.out, G5.out⟩
  · go_wp2_with fail
    refine (nextD _ _ _ _ _ _ 40 _ S1.out (by omega) (by omega) (by omega)).mono ?_
    rintro e w2 ⟨u, s2, he, ⟨l2, u2⟩, hp, rfl, hs, hg⟩
    have E2 := Lib.hid he
    have S2 := Lib.hid hs
    have G2 := Lib.hid (grown_trans G1.out hg)
    have p2 : s2.1 = s1.1 + 1 := hp
    clear he hs hg hp
    go_wp2
    go_ret
    exact ⟨_, s2, by unfold dCell; rw [E1.out]; simp [E2.out], ⟨by omega, by omega⟩, by omega, rfl, S2.out, G2.out⟩
  · have m0 : (v == 0) = false := by simpa using n0
    have m1 : (v == 1) = false := by simpa using n1
    have m2 : (v == 2) = false := by simpa using n2
    have m3 : (v == 3) = false := by simpa using n3
    go_wp2_with fail
    refine (nextD _ _ _ _ _ _ 40 _ S1.out (by omega) (by omega) (by omega)).mono ?_
    rintro e w2 ⟨u, s2, he, ⟨l2, u2⟩, hp, rfl, hs, hg⟩
    have E2 := Lib.hid he
    have S2 := Lib.hid hs
    have G2 := Lib.hid (grown_trans G1.out hg)
    have p2 : s2.1 = s1.1 + 1 := hp
    clear he hs hg hp
    go_wp2
    go_ret
    exact ⟨_, s2, by unfold dCell; rw [E1.out]; simp [E2.out, n0, n1, n2, n3], ⟨by omega, by omega⟩, by omega, rfl, S2.out, G2.out⟩

end Go.Proofs.Ytafhmajnkicifaa

namespace Go.Proofs.Ytafhmajnkicifaa
open Go.RowKit
set_option linter.unusedVariables false
set_option linter.unusedSimpArgs false

theorem whole_gbI {w w' : World} {b g : Nat} {t : TypeId} {cs : Array Value} (hg : w.grownBy w' (some b)) (h : Whole w g t cs) (hne : g ≠ b) : Whole w' g t cs :=
  whole_keep h (hg.block g (whole_lt h) (fun e => hne (Option.some.inj e)))

theorem irow_gb {w w' : World} {b lo : Nat} {v : Value} {Q : List It} (hg : w.grownBy w' (some b)) (h : IRow w lo v Q) (hb : b < lo) : IRow w' lo v Q :=
  irow_keep h fun g hv => hg.block g (irow_lt h g hv).2 (fun e => by have := irow_lt h g hv; simp at e; omega)

theorem its_gb {w w' : World} {b lo : Nat} {v : Value} {Q : List It} (hg : w.grownBy w' (some b)) (h : IRow w lo v Q) (hb : b < lo) : Its w' v Q := irow_its (irow_gb hg h hb)

theorem irow_form {w : World} {lo : Nat} {v : Value} {Q : List It} (h : IRow w lo v Q) : ∃ A n c, v = .slice A n c := by
  obtain ⟨_, A, c, rfl, _⟩ := irow_its h
  exact ⟨_, _, _, rfl⟩

/-- What a drawn yes or no leaves. -/
def YesI (w : World) (b : Nat) (a : Option Addr) (len cap : Nat) (zs : List Int) (N : Nat) (e : Ending) (w' : World) : Prop :=
  ∃ y : Bool, e = .returned (.bool y) ∧ Src w' b a len cap zs N ∧ w.grownBy w' (some b)

set_option maxRecDepth 100000 in
set_option maxHeartbeats 400000 in
theorem chance_i (b : Nat) (a : Option Addr) (len cap : Nat) (zs : List Int) (N : Nat) (n : Int) (w : World) (h : Src w b a len cap zs N) (hN : Few N) (h1 : 1 < n) (h2 : n ≤ 256) :
    Calls Try.prog 44 #[.pointer (some ⟨b, 0, none⟩), .int .i64 n] w (YesI w b a len cap zs (N + 1)) := by
  have C := Lib.hid (next_small b a len cap zs N n w h hN h1 h2)
  clear h hN
  go_enter Try.func44, Try.ntmps44
  go_wp2_with fail
  refine C.out.mono ?_
  rintro e w1 ⟨v, _, rfl, hs, hg⟩
  have S := Lib.hid hs
  have G := Lib.hid hg
  clear hs hg
  go_wp2
  go_ret
  exact ⟨_, rfl, S.out, G.out⟩

set_option maxRecDepth 100000 in
set_option maxHeartbeats 2000000 in
theorem addr_drew (b : Nat) (a : Option Addr) (len cap : Nat) (zs : List Int) (N : Nat) (w : World) (h : Src w b a len cap zs N) (hN : N ≤ 1000000) :
    Calls Try.prog 71 #[.pointer (some ⟨b, 0, none⟩)] w (Drew w b a len cap zs (N + 8) fun v => -2147483648 ≤ v ∧ v ≤ 2147483647) := by
  have hb := src_lt h
  have H := Lib.hid h
  clear h
  go_enter Try.func71, Try.ntmps71
  go_wp2_with fail
  refine (next_small _ _ _ _ _ _ _ _ H.out (by unfold Few; omega) (by omega) (by omega)).mono ?_
  rintro e w1 ⟨v1, ⟨l1, u1⟩, rfl, hs1, hg1⟩
  have S1 := Lib.hid hs1
  have G1 := Lib.hid hg1
  have z1 : w.heap.size ≤ w1.heap.size := hg1.size
  clear hs1 hg1
  go_wp2_with fail
  refine (next_small _ _ _ _ _ _ _ _ S1.out (by unfold Few; omega) (by omega) (by omega)).mono ?_
  rintro e w2 ⟨v2, ⟨l2, u2⟩, rfl, hs2, hg2⟩
  have S2 := Lib.hid hs2
  have G2 := Lib.hid (grown_trans G1.out hg2)
  have z2 : w1.heap.size ≤ w2.heap.size := hg2.size
  clear hs2 hg2
  go_wp2_with fail
  refine (cell_any _ _ _ _ _ _ _ S2.out (by unfold Few; omega)).mono ?_
  rintro e w3 ⟨v3, ⟨l3, u3⟩, rfl, hs3, hg3⟩
  have S3 := Lib.hid hs3
  have G3 := Lib.hid (grown_trans G2.out hg3)
  have z3 : w2.heap.size ≤ w3.heap.size := hg3.size
  clear hs3 hg3
  go_wp2_with fail
  refine (next_small _ _ _ _ _ _ _ _ (src_alloc S3.out _) (by unfold Few; omega) (by omega) (by omega)).mono ?_
  rintro e w4 ⟨v4, ⟨l4, u4⟩, rfl, hs4, hg4⟩
  have S4 := Lib.hid hs4
  have G4 := Lib.hid (grown_trans (gb_alloc G3.out _) hg4)
  have X4 := whole_gbI hg4 (whole_new w3 _ _) (by omega)
  clear hs4 hg4
  rcases (by omega : v4 = 0 ∨ v4 = 1 ∨ v4 = 2 ∨ v4 = 3) with rfl | rfl | rfl | rfl
  · have c := whole_cell X4 0
    simp at c
    go_wp2
    go_ret
    exact ⟨_, ⟨by omega, by omega⟩, rfl, src_mono S4.out (by omega), G4.out⟩
  · have c := whole_cell X4 1
    simp at c
    go_wp2
    go_ret
    exact ⟨_, ⟨by omega, by omega⟩, rfl, src_mono S4.out (by omega), G4.out⟩
  · have c := whole_cell X4 2
    simp at c
    go_wp2
    go_ret
    exact ⟨_, ⟨by omega, by omega⟩, rfl, src_mono S4.out (by omega), G4.out⟩
  · have c := whole_cell X4 3
    simp at c
    go_wp2
    go_ret
    exact ⟨_, ⟨by omega, by omega⟩, rfl, src_mono S4.out (by omega), G4.out⟩
/-- What a drawn item leaves. -/
def ItDrew (w : World) (b : Nat) (a : Option Addr) (len cap : Nat) (zs : List Int) (N : Nat) (e : Ending) (w' : World) : Prop :=
  ∃ x : It, e = .returned (.agg #[.int .i64 x.k, .int .i64 x.v]) ∧ itB x = true ∧ (x.k = 1 ∨ x.k = 2) ∧ Src w' b a len cap zs N ∧ w.grownBy w' (some b)

theorem itB_word {n : Int} (h : 1 ≤ n ∧ n ≤ 103) : itB ⟨1, n⟩ = true := by unfold itB; simp; omega

theorem itB_lit {n : Int} (h : -2147483648 ≤ n ∧ n ≤ 2147483647) : itB ⟨2, n⟩ = true := by unfold itB; simp; omega

set_option maxRecDepth 100000 in
set_option maxHeartbeats 4000000 in
theorem flat_drew (b : Nat) (a : Option Addr) (len cap : Nat) (zs : List Int) (N : Nat) (w : World) (h : Src w b a len cap zs N) (hN : N ≤ 100000) :
    Calls Try.prog 58 #[.pointer (some ⟨b, 0, none⟩), .int .i64 86] w (ItDrew w b a len cap zs (N + 20)) := by
  have hb := src_lt h
  have HA := Lib.hid (src_code_lt h)
  have H := Lib.hid h
  clear h
  go_enter Try.func58, Try.ntmps58
  go_wp2_with fail
  refine (next_small _ _ _ _ _ _ _ _ (src_alloc H.out _) (by unfold Few; omega) (by omega) (by omega)).mono ?_
  rintro e w1 ⟨v, ⟨v0, v1⟩, rfl, hs1, hg1⟩
  have S1 := Lib.hid hs1
  have G1 := Lib.hid (grown_trans (gb_alloc (World.grownBy.refl w _) _) hg1)
  have X1 := whole_gbI hg1 (whole_new w _ _) (by omega)
  have z1 : w.heap.size < w1.heap.size := whole_lt X1
  clear hs1 hg1
  rcases (by omega : (v = 0 ∨ v = 1) ∨ v = 2 ∨ v = 3 ∨ (v ≠ 0 ∧ v ≠ 1 ∧ v ≠ 2 ∧ v ≠ 3)) with hv | rfl | rfl | ⟨n0, n1, n2, n3⟩
  · rcases hv with rfl | rfl
    · go_wp2_with fail
      refine (next_small _ _ _ _ _ _ _ _ S1.out (by unfold Few; omega) (by omega) (by omega)).mono ?_
      rintro e w2 ⟨v2, ⟨l2, u2⟩, rfl, hs2, hg2⟩
      have S2 := Lib.hid hs2
      have G2 := Lib.hid (grown_trans G1.out hg2)
      have X2 := whole_gbI hg2 X1 (by omega)
      have z2 := whole_lt X2
      clear hs2 hg2 G1 S1 X1
      go_wp2_with fail
      refine (cell_any _ _ _ _ _ _ _ S2.out (by unfold Few; omega)).mono ?_
      rintro e w3 ⟨v3, ⟨l3, u3⟩, rfl, hs3, hg3⟩
      have S3 := Lib.hid hs3
      have G3 := Lib.hid (grown_trans G2.out hg3)
      have X3 := whole_gbI hg3 X2 (by omega)
      have z3 := whole_lt X3
      clear hs3 hg3 G2 S2 X2
      go_wp2_with fail
      refine (addr_drew _ _ _ _ _ _ _ S3.out (by omega)).mono ?_
      rintro e w4 ⟨v4, ⟨l4, u4⟩, rfl, hs4, hg4⟩
      have S4 := Lib.hid hs4
      have G4 := Lib.hid (grown_trans G3.out hg4)
      have X4 := whole_gbI hg4 X3 (by omega)
      have z4 := whole_lt X4
      clear hs4 hg4 G3 S3 X3
      go_wp2_with fail
      refine (next_small _ _ _ _ _ _ _ _ (src_alloc S4.out _) (by unfold Few; omega) (by omega) (by omega)).mono ?_
      rintro e w5 ⟨v5, ⟨l5, u5⟩, rfl, hs5, hg5⟩
      have S5 := Lib.hid hs5
      have Y5 := whole_gbI hg5 (whole_new w4 _ _) (by omega)
      have G5 := Lib.hid (grown_trans (gb_alloc G4.out _) hg5)
      have X5 := whole_gbI hg5 (whole_alloc X4 _) (by omega)
      have B5 : Hid (Below w.heap.size w5 w5) := Lib.hid (Below.refl _ _)
      clear hs5 hg5 G4 S4 X4
      rcases (by omega : v5 = 0 ∨ v5 = 1 ∨ v5 = 2) with rfl | rfl | rfl
      · have y := whole_cell Y5 0
        simp at y
        have c0 := whole_cell X5 0
        have c1 := whole_cell X5 1
        have cf := whole_free X5
        have cz := whole_lt X5
        simp at c0 c1
        go_wp2
        refine bodyPost_ret (v := .agg #[.int .i64 2, .int .i64 (v2)]) (by simp [results, Try.results58, go_sem, *]) rfl ⟨⟨2, v2⟩, rfl, itB_lit (by omega), by simp, src_mono (src_lo S5.out hb HA.out ?_) (by omega), ?_⟩
        · repeat (first | with_reducible exact B5.out | with_reducible refine Below.setCell ?_ (by simp; try omega) _)
        · repeat (first | with_reducible exact G5.out | with_reducible refine gb_set ?_ (by simp; try omega) _)
      · have y := whole_cell Y5 1
        simp at y
        have c0 := whole_cell X5 0
        have c1 := whole_cell X5 1
        have cf := whole_free X5
        have cz := whole_lt X5
        simp at c0 c1
        go_wp2
        refine bodyPost_ret (v := .agg #[.int .i64 2, .int .i64 (v3)]) (by simp [results, Try.results58, go_sem, *]) rfl ⟨⟨2, v3⟩, rfl, itB_lit (by omega), by simp, src_mono (src_lo S5.out hb HA.out ?_) (by omega), ?_⟩
        · repeat (first | with_reducible exact B5.out | with_reducible refine Below.setCell ?_ (by simp; try omega) _)
        · repeat (first | with_reducible exact G5.out | with_reducible refine gb_set ?_ (by simp; try omega) _)
      · have y := whole_cell Y5 2
        simp at y
        have c0 := whole_cell X5 0
        have c1 := whole_cell X5 1
        have cf := whole_free X5
        have cz := whole_lt X5
        simp at c0 c1
        go_wp2
        refine bodyPost_ret (v := .agg #[.int .i64 2, .int .i64 (v4)]) (by simp [results, Try.results58, go_sem, *]) rfl ⟨⟨2, v4⟩, rfl, itB_lit (by omega), by simp, src_mono (src_lo S5.out hb HA.out ?_) (by omega), ?_⟩
        · repeat (first | with_reducible exact B5.out | with_reducible refine Below.setCell ?_ (by simp; try omega) _)
        · repeat (first | with_reducible exact G5.out | with_reducible refine gb_set ?_ (by simp; try omega) _)
    · go_wp2_with fail
      refine (next_small _ _ _ _ _ _ _ _ S1.out (by unfold Few; omega) (by omega) (by omega)).mono ?_
      rintro e w2 ⟨v2, ⟨l2, u2⟩, rfl, hs2, hg2⟩
      have S2 := Lib.hid hs2
      have G2 := Lib.hid (grown_trans G1.out hg2)
      have X2 := whole_gbI hg2 X1 (by omega)
      have z2 := whole_lt X2
      clear hs2 hg2 G1 S1 X1
      go_wp2_with fail
      refine (cell_any _ _ _ _ _ _ _ S2.out (by unfold Few; omega)).mono ?_
      rintro e w3 ⟨v3, ⟨l3, u3⟩, rfl, hs3, hg3⟩
      have S3 := Lib.hid hs3
      have G3 := Lib.hid (grown_trans G2.out hg3)
      have X3 := whole_gbI hg3 X2 (by omega)
      have z3 := whole_lt X3
      clear hs3 hg3 G2 S2 X2
      go_wp2_with fail
      refine (addr_drew _ _ _ _ _ _ _ S3.out (by omega)).mono ?_
      rintro e w4 ⟨v4, ⟨l4, u4⟩, rfl, hs4, hg4⟩
      have S4 := Lib.hid hs4
      have G4 := Lib.hid (grown_trans G3.out hg4)
      have X4 := whole_gbI hg4 X3 (by omega)
      have z4 := whole_lt X4
      clear hs4 hg4 G3 S3 X3
      go_wp2_with fail
      refine (next_small _ _ _ _ _ _ _ _ (src_alloc S4.out _) (by unfold Few; omega) (by omega) (by omega)).mono ?_
      rintro e w5 ⟨v5, ⟨l5, u5⟩, rfl, hs5, hg5⟩
      have S5 := Lib.hid hs5
      have Y5 := whole_gbI hg5 (whole_new w4 _ _) (by omega)
      have G5 := Lib.hid (grown_trans (gb_alloc G4.out _) hg5)
      have X5 := whole_gbI hg5 (whole_alloc X4 _) (by omega)
      have B5 : Hid (Below w.heap.size w5 w5) := Lib.hid (Below.refl _ _)
      clear hs5 hg5 G4 S4 X4
      rcases (by omega : v5 = 0 ∨ v5 = 1 ∨ v5 = 2) with rfl | rfl | rfl
      · have y := whole_cell Y5 0
        simp at y
        have c0 := whole_cell X5 0
        have c1 := whole_cell X5 1
        have cf := whole_free X5
        have cz := whole_lt X5
        simp at c0 c1
        go_wp2
        refine bodyPost_ret (v := .agg #[.int .i64 2, .int .i64 (v2)]) (by simp [results, Try.results58, go_sem, *]) rfl ⟨⟨2, v2⟩, rfl, itB_lit (by omega), by simp, src_mono (src_lo S5.out hb HA.out ?_) (by omega), ?_⟩
        · repeat (first | with_reducible exact B5.out | with_reducible refine Below.setCell ?_ (by simp; try omega) _)
        · repeat (first | with_reducible exact G5.out | with_reducible refine gb_set ?_ (by simp; try omega) _)
      · have y := whole_cell Y5 1
        simp at y
        have c0 := whole_cell X5 0
        have c1 := whole_cell X5 1
        have cf := whole_free X5
        have cz := whole_lt X5
        simp at c0 c1
        go_wp2
        refine bodyPost_ret (v := .agg #[.int .i64 2, .int .i64 (v3)]) (by simp [results, Try.results58, go_sem, *]) rfl ⟨⟨2, v3⟩, rfl, itB_lit (by omega), by simp, src_mono (src_lo S5.out hb HA.out ?_) (by omega), ?_⟩
        · repeat (first | with_reducible exact B5.out | with_reducible refine Below.setCell ?_ (by simp; try omega) _)
        · repeat (first | with_reducible exact G5.out | with_reducible refine gb_set ?_ (by simp; try omega) _)
      · have y := whole_cell Y5 2
        simp at y
        have c0 := whole_cell X5 0
        have c1 := whole_cell X5 1
        have cf := whole_free X5
        have cz := whole_lt X5
        simp at c0 c1
        go_wp2
        refine bodyPost_ret (v := .agg #[.int .i64 2, .int .i64 (v4)]) (by simp [results, Try.results58, go_sem, *]) rfl ⟨⟨2, v4⟩, rfl, itB_lit (by omega), by simp, src_mono (src_lo S5.out hb HA.out ?_) (by omega), ?_⟩
        · repeat (first | with_reducible exact B5.out | with_reducible refine Below.setCell ?_ (by simp; try omega) _)
        · repeat (first | with_reducible exact G5.out | with_reducible refine gb_set ?_ (by simp; try omega) _)
  · go_wp2_with fail
    refine (next_small _ _ _ _ _ _ _ _ S1.out (by unfold Few; omega) (by omega) (by omega)).mono ?_
    rintro e w2 ⟨v2, ⟨l2, u2⟩, rfl, hs2, hg2⟩
    have S2 := Lib.hid hs2
    have G2 := Lib.hid (grown_trans G1.out hg2)
    have X2 := whole_gbI hg2 X1 (by omega)
    have B2 : Hid (Below w.heap.size w2 w2) := Lib.hid (Below.refl _ _)
    clear hs2 hg2 G1 S1 X1
    have c0 := whole_cell X2 0
    have c1 := whole_cell X2 1
    have cf := whole_free X2
    have cz := whole_lt X2
    simp at c0 c1
    go_wp2
    refine bodyPost_ret (v := .agg #[.int .i64 1, .int .i64 (84 + v2)]) (by simp [results, Try.results58, go_sem, *]) rfl ⟨⟨1, 84 + v2⟩, rfl, itB_word (by omega), by simp, src_mono (src_lo S2.out hb HA.out ?_) (by omega), ?_⟩
    · repeat (first | with_reducible exact B2.out | with_reducible refine Below.setCell ?_ (by simp; try omega) _)
    · repeat (first | with_reducible exact G2.out | with_reducible refine gb_set ?_ (by simp; try omega) _)
  · go_wp2_with fail
    refine (next_small _ _ _ _ _ _ _ _ (src_alloc S1.out _) (by unfold Few; omega) (by omega) (by omega)).mono ?_
    rintro e w2 ⟨v2, ⟨l2, u2⟩, rfl, hs2, hg2⟩
    have Y2 := whole_gbI hg2 (whole_new w1 _ _) (by omega)
    have G2 := Lib.hid (grown_trans (gb_alloc G1.out _) hg2)
    have X2 := whole_gbI hg2 (whole_alloc X1 _) (by omega)
    have S2 := Lib.hid hs2
    have B2 : Hid (Below w.heap.size w2 w2) := Lib.hid (Below.refl _ _)
    clear hs2 hg2 G1 S1 X1
    obtain ⟨j, rfl⟩ := Int.eq_ofNat_of_zero_le l2
    rcases (by omega : j = 0 ∨ j = 1 ∨ j = 2 ∨ j = 3 ∨ j = 4 ∨ j = 5 ∨ j = 6 ∨ j = 7 ∨ j = 8 ∨ j = 9) with rfl | rfl | rfl | rfl | rfl | rfl | rfl | rfl | rfl | rfl
    · have y := whole_cell Y2 0
      simp at y
      have c0 := whole_cell X2 0
      have c1 := whole_cell X2 1
      have cf := whole_free X2
      have cz := whole_lt X2
      simp at c0 c1
      go_wp2
      refine bodyPost_ret (v := .agg #[.int .i64 1, .int .i64 (1)]) (by simp [results, Try.results58, go_sem, *]) rfl ⟨⟨1, 1⟩, rfl, itB_word (by omega), by simp, src_mono (src_lo S2.out hb HA.out ?_) (by omega), ?_⟩
      · repeat (first | with_reducible exact B2.out | with_reducible refine Below.setCell ?_ (by simp; try omega) _)
      · repeat (first | with_reducible exact G2.out | with_reducible refine gb_set ?_ (by simp; try omega) _)
    · have y := whole_cell Y2 1
      simp at y
      have c0 := whole_cell X2 0
      have c1 := whole_cell X2 1
      have cf := whole_free X2
      have cz := whole_lt X2
      simp at c0 c1
      go_wp2
      refine bodyPost_ret (v := .agg #[.int .i64 1, .int .i64 (2)]) (by simp [results, Try.results58, go_sem, *]) rfl ⟨⟨1, 2⟩, rfl, itB_word (by omega), by simp, src_mono (src_lo S2.out hb HA.out ?_) (by omega), ?_⟩
      · repeat (first | with_reducible exact B2.out | with_reducible refine Below.setCell ?_ (by simp; try omega) _)
      · repeat (first | with_reducible exact G2.out | with_reducible refine gb_set ?_ (by simp; try omega) _)
    · have y := whole_cell Y2 2
      simp at y
      have c0 := whole_cell X2 0
      have c1 := whole_cell X2 1
      have cf := whole_free X2
      have cz := whole_lt X2
      simp at c0 c1
      go_wp2
      refine bodyPost_ret (v := .agg #[.int .i64 1, .int .i64 (3)]) (by simp [results, Try.results58, go_sem, *]) rfl ⟨⟨1, 3⟩, rfl, itB_word (by omega), by simp, src_mono (src_lo S2.out hb HA.out ?_) (by omega), ?_⟩
      · repeat (first | with_reducible exact B2.out | with_reducible refine Below.setCell ?_ (by simp; try omega) _)
      · repeat (first | with_reducible exact G2.out | with_reducible refine gb_set ?_ (by simp; try omega) _)
    · have y := whole_cell Y2 3
      simp at y
      have c0 := whole_cell X2 0
      have c1 := whole_cell X2 1
      have cf := whole_free X2
      have cz := whole_lt X2
      simp at c0 c1
      go_wp2
      refine bodyPost_ret (v := .agg #[.int .i64 1, .int .i64 (4)]) (by simp [results, Try.results58, go_sem, *]) rfl ⟨⟨1, 4⟩, rfl, itB_word (by omega), by simp, src_mono (src_lo S2.out hb HA.out ?_) (by omega), ?_⟩
      · repeat (first | with_reducible exact B2.out | with_reducible refine Below.setCell ?_ (by simp; try omega) _)
      · repeat (first | with_reducible exact G2.out | with_reducible refine gb_set ?_ (by simp; try omega) _)
    · have y := whole_cell Y2 4
      simp at y
      have c0 := whole_cell X2 0
      have c1 := whole_cell X2 1
      have cf := whole_free X2
      have cz := whole_lt X2
      simp at c0 c1
      go_wp2
      refine bodyPost_ret (v := .agg #[.int .i64 1, .int .i64 (15)]) (by simp [results, Try.results58, go_sem, *]) rfl ⟨⟨1, 15⟩, rfl, itB_word (by omega), by simp, src_mono (src_lo S2.out hb HA.out ?_) (by omega), ?_⟩
      · repeat (first | with_reducible exact B2.out | with_reducible refine Below.setCell ?_ (by simp; try omega) _)
      · repeat (first | with_reducible exact G2.out | with_reducible refine gb_set ?_ (by simp; try omega) _)
    · have y := whole_cell Y2 5
      simp at y
      have c0 := whole_cell X2 0
      have c1 := whole_cell X2 1
      have cf := whole_free X2
      have cz := whole_lt X2
      simp at c0 c1
      go_wp2
      refine bodyPost_ret (v := .agg #[.int .i64 1, .int .i64 (16)]) (by simp [results, Try.results58, go_sem, *]) rfl ⟨⟨1, 16⟩, rfl, itB_word (by omega), by simp, src_mono (src_lo S2.out hb HA.out ?_) (by omega), ?_⟩
      · repeat (first | with_reducible exact B2.out | with_reducible refine Below.setCell ?_ (by simp; try omega) _)
      · repeat (first | with_reducible exact G2.out | with_reducible refine gb_set ?_ (by simp; try omega) _)
    · have y := whole_cell Y2 6
      simp at y
      have c0 := whole_cell X2 0
      have c1 := whole_cell X2 1
      have cf := whole_free X2
      have cz := whole_lt X2
      simp at c0 c1
      go_wp2
      refine bodyPost_ret (v := .agg #[.int .i64 1, .int .i64 (17)]) (by simp [results, Try.results58, go_sem, *]) rfl ⟨⟨1, 17⟩, rfl, itB_word (by omega), by simp, src_mono (src_lo S2.out hb HA.out ?_) (by omega), ?_⟩
      · repeat (first | with_reducible exact B2.out | with_reducible refine Below.setCell ?_ (by simp; try omega) _)
      · repeat (first | with_reducible exact G2.out | with_reducible refine gb_set ?_ (by simp; try omega) _)
    · have y := whole_cell Y2 7
      simp at y
      have c0 := whole_cell X2 0
      have c1 := whole_cell X2 1
      have cf := whole_free X2
      have cz := whole_lt X2
      simp at c0 c1
      go_wp2
      refine bodyPost_ret (v := .agg #[.int .i64 1, .int .i64 (46)]) (by simp [results, Try.results58, go_sem, *]) rfl ⟨⟨1, 46⟩, rfl, itB_word (by omega), by simp, src_mono (src_lo S2.out hb HA.out ?_) (by omega), ?_⟩
      · repeat (first | with_reducible exact B2.out | with_reducible refine Below.setCell ?_ (by simp; try omega) _)
      · repeat (first | with_reducible exact G2.out | with_reducible refine gb_set ?_ (by simp; try omega) _)
    · have y := whole_cell Y2 8
      simp at y
      have c0 := whole_cell X2 0
      have c1 := whole_cell X2 1
      have cf := whole_free X2
      have cz := whole_lt X2
      simp at c0 c1
      go_wp2
      refine bodyPost_ret (v := .agg #[.int .i64 1, .int .i64 (32)]) (by simp [results, Try.results58, go_sem, *]) rfl ⟨⟨1, 32⟩, rfl, itB_word (by omega), by simp, src_mono (src_lo S2.out hb HA.out ?_) (by omega), ?_⟩
      · repeat (first | with_reducible exact B2.out | with_reducible refine Below.setCell ?_ (by simp; try omega) _)
      · repeat (first | with_reducible exact G2.out | with_reducible refine gb_set ?_ (by simp; try omega) _)
    · have y := whole_cell Y2 9
      simp at y
      have c0 := whole_cell X2 0
      have c1 := whole_cell X2 1
      have cf := whole_free X2
      have cz := whole_lt X2
      simp at c0 c1
      go_wp2
      refine bodyPost_ret (v := .agg #[.int .i64 1, .int .i64 (34)]) (by simp [results, Try.results58, go_sem, *]) rfl ⟨⟨1, 34⟩, rfl, itB_word (by omega), by simp, src_mono (src_lo S2.out hb HA.out ?_) (by omega), ?_⟩
      · repeat (first | with_reducible exact B2.out | with_reducible refine Below.setCell ?_ (by simp; try omega) _)
      · repeat (first | with_reducible exact G2.out | with_reducible refine gb_set ?_ (by simp; try omega) _)
  · have e0 : (v == 0) = false := by rw [beq_eq_false_iff_ne]; exact n0
    have e1 : (v == 1) = false := by rw [beq_eq_false_iff_ne]; exact n1
    have e2 : (v == 2) = false := by rw [beq_eq_false_iff_ne]; exact n2
    have e3 : (v == 3) = false := by rw [beq_eq_false_iff_ne]; exact n3
    clear n0 n1 n2 n3
    go_wp2_with fail
    refine (next_small _ _ _ _ _ _ _ _ S1.out (by unfold Few; omega) (by omega) (by omega)).mono ?_
    rintro e w2 ⟨v2, ⟨l2, u2⟩, rfl, hs2, hg2⟩
    have S2 := Lib.hid hs2
    have G2 := Lib.hid (grown_trans G1.out hg2)
    have X2 := whole_gbI hg2 X1 (by omega)
    have B2 : Hid (Below w.heap.size w2 w2) := Lib.hid (Below.refl _ _)
    clear hs2 hg2 G1 S1 X1
    have c0 := whole_cell X2 0
    have c1 := whole_cell X2 1
    have cf := whole_free X2
    have cz := whole_lt X2
    simp at c0 c1
    go_wp2
    refine bodyPost_ret (v := .agg #[.int .i64 1, .int .i64 (1 + v2)]) (by simp [results, Try.results58, go_sem, *]) rfl ⟨⟨1, 1 + v2⟩, rfl, itB_word (by omega), by simp, src_mono (src_lo S2.out hb HA.out ?_) (by omega), ?_⟩
    · repeat (first | with_reducible exact B2.out | with_reducible refine Below.setCell ?_ (by simp; try omega) _)
    · repeat (first | with_reducible exact G2.out | with_reducible refine gb_set ?_ (by simp; try omega) _)
theorem irow_one (w : World) (x : It) : IRow (w.alloc (.cells #[.int .i64 x.k, .int .i64 x.v] 59)) w.heap.size (.slice (some ⟨w.heap.size, 0, none⟩) 1 1) [x] :=
  World.ownsRow_lit w #[.int .i64 x.k, .int .i64 x.v] 1 (Nat.le_refl _) (by unfold maxLen; omega) rfl

theorem its_lit {w : World} (x : It) {g : Nat} (hg : g = w.heap.size) : Its (w.alloc (.cells #[.int .i64 x.k, .int .i64 x.v] 59)) (.slice (some ⟨g, 0, none⟩) 1 1) [x] := by subst hg; exact its_one w x _

theorem irow_empty (w : World) {base : Nat} (hb : base ≤ w.heap.size) : IRow (w.alloc (.cells #[] 59)) base (.slice (some ⟨w.heap.size, 0, none⟩) 0 0) [] := World.ownsRow_made w #[] 0 hb (by unfold maxLen; omega) rfl

/-- What a function leaves that hands back a new row of items. -/
def RowI (w : World) (Q : List It) (e : Ending) (w' : World) : Prop := ∃ v, e = .returned v ∧ IRow w' w.heap.size v Q ∧ Below w.heap.size w w'

set_option maxRecDepth 100000 in
set_option maxHeartbeats 400000 in
theorem item1_any (k : Int) (w : World) : Calls Try.prog 55 #[.int .i64 k] w (RowI w [⟨k, 0⟩]) := by
  go_enter Try.func55, Try.ntmps55
  go_wp2
  go_ret
  exact ⟨_, rfl, irow_one w ⟨k, 0⟩, below_alloc (Below.refl _ _) _⟩

set_option maxRecDepth 100000 in
set_option maxHeartbeats 400000 in
theorem lit1_any (k : Int) (w : World) : Calls Try.prog 60 #[.int .i64 k] w (RowI w [⟨2, k⟩]) := by
  go_enter Try.func60, Try.ntmps60
  go_wp2
  go_ret
  exact ⟨_, rfl, irow_one w ⟨2, k⟩, below_alloc (Below.refl _ _) _⟩

set_option maxRecDepth 100000 in
set_option maxHeartbeats 400000 in
theorem word1_any (k : Int) (w : World) : Calls Try.prog 61 #[.int .i64 k] w (RowI w [⟨1, k⟩]) := by
  go_enter Try.func61, Try.ntmps61
  go_wp2
  go_ret
  exact ⟨_, rfl, irow_one w ⟨1, k⟩, below_alloc (Below.refl _ _) _⟩

/-- A block of slices that read so. -/
def Cats (w : World) (g : Nat) (L : List (List It)) : Prop := ∀ k (hk : k < L.length), ∃ v, w.cell? ⟨g, k, none⟩ = some v ∧ Its w v L[k]

theorem flat_take (L : List (List It)) {k : Nat} (hk : k < L.length) : (L.take (k + 1)).flatten = (L.take k).flatten ++ L[k] := by
  rw [List.take_succ_eq_append_getElem hk, List.flatten_append]; simp

theorem flat_le (L : List (List It)) {k : Nat} (hk : k < L.length) : (L.take k).flatten.length + L[k].length ≤ L.flatten.length := by
  have h := congrArg List.length (congrArg List.flatten (List.take_append_drop (k + 1) L))
  rw [List.flatten_append, List.length_append, flat_take L hk, List.length_append] at h
  omega

set_option maxRecDepth 100000 in
set_option maxHeartbeats 2000000 in
theorem cat_any (g n : Nat) (L : List (List It)) (w : World) (h : Cats w g L) (hg : g < w.heap.size) (hn : L.length = n) (h8 : n ≤ 8) (hs : L.flatten.length ≤ 100000) :
    Calls Try.prog 56 #[.slice (some ⟨g, 0, none⟩) n n] w (RowI w L.flatten) := by
  have H := Lib.hid h
  have LN := Lib.hid hn
  have HS := Lib.hid hs
  clear h hn hs
  go_enter Try.func56, Try.ntmps56
  go_wp2
  go_loopw [3, 4] (fun o i wr => ∃ (k : Nat) (ov : Value), k ≤ n ∧ i = .int .i64 k ∧ o = ov ∧ IRow wr w.heap.size ov (L.take k).flatten ∧ Below w.heap.size w wr) (fun _ i _ => n - (intOf i).toNat)
  case atStart => exact ⟨0, _, Nat.zero_le _, rfl, rfl, irow_empty w (Nat.le_refl _), below_alloc (Below.refl _ _) _⟩
  case round =>
    obtain ⟨k, ov, hk, rfl, rfl, hr, hb⟩ := hrel
    have zw := hb.size
    by_cases hlt : k < n
    · have hk' : k < L.length := by rw [LN.out]; exact hlt
      obtain ⟨v, hc, hi⟩ := H.out k hk'
      have c : wr.cell? ⟨g, k, none⟩ = some v := by rw [hb.cell (p := ⟨g, k, none⟩) hg]; exact hc
      have I := Lib.hid (its_below hi hb)
      have R := Lib.hid hr
      have B := Lib.hid hb
      have E := Lib.hid (flat_take L hk')
      have EL := Lib.hid (flat_le L hk')
      generalize hx : L[k] = x at *
      generalize hq : (L.take k).flatten = q at *
      clear hc hi hr hb hx hq
      go_wp2_with (first
        | (at_builtin; refine wpList_append_items rfl (.tmp 12) (.tmp 16) rfl rfl w.heap.size _ q R.out _ x I.out rfl rfl (by have := HS.out; have := EL.out; omega) zw ?_
           intro v2 w2 hr2 hg2 hat
           have R2 := Lib.hid hr2
           have B2 := Lib.hid (B.out.grown hg2 zw (fun g hg => (irow_lt R.out g hg).1))
           clear hr2 hg2 hat R B I c))
      go_roundw
      case rel => exact ⟨k + 1, _, by omega, by go_num, rfl, by rw [E.out]; exact R2.out, B2.out⟩
      case measure => simp [intOf]; omega
    · obtain rfl : k = n := by omega
      have R : Hid (IRow wr w.heap.size _ L.flatten) := Lib.hid (by rw [← LN.out, List.take_length] at hr; exact hr)
      have B := Lib.hid hb
      clear hr hb
      go_wp2
      go_ret
      exact ⟨_, rfl, R.out, B.out⟩

end Go.Proofs.Ytafhmajnkicifaa

namespace Go.Proofs.Ytafhmajnkicifaa
open Go.RowKit
set_option linter.unusedVariables false
set_option linter.unusedSimpArgs false

theorem srcS_lt {w : World} {b : Nat} {a : Option Addr} {len cap : Nat} {zs : List Int} {s : DSt} (h : SrcS w b a len cap zs s) : b < w.heap.size := lt_of_cell (SrcAt.c0 h)

theorem srcS_code_lt {w : World} {b : Nat} {a : Option Addr} {len cap : Nat} {zs : List Int} {s : DSt} (h : SrcS w b a len cap zs s) : ∀ x, a = some x → 0 < cap → x.block < w.heap.size := brow_lt (SrcAt.row h)

theorem srcS_lo {w w' : World} {B b : Nat} {a : Option Addr} {len cap : Nat} {zs : List Int} {s : DSt} (h : SrcS w b a len cap zs s) (hb : b < B) (ha : ∀ x, a = some x → 0 < cap → x.block < B) (k : Below B w w') : SrcS w' b a len cap zs s := by
  obtain ⟨c0, c1, c2, f1, f2, row, ap, s0, s1⟩ := h
  exact ⟨by rw [k.cell (p := ⟨b, 0, none⟩) hb]; exact c0, by rw [k.cell (p := ⟨b, 1, none⟩) hb]; exact c1, by rw [k.cell (p := ⟨b, 2, none⟩) hb]; exact c2,
    by rw [k.frozen (p := ⟨b, 1, none⟩) hb]; exact f1, by rw [k.frozen (p := ⟨b, 2, none⟩) hb]; exact f2, brow_lo row ha k, ap, s0, s1⟩

theorem srcS_alloc {w : World} {b : Nat} {a : Option Addr} {len cap : Nat} {zs : List Int} {s : DSt} (h : SrcS w b a len cap zs s) (o : Obj) : SrcS (w.alloc o) b a len cap zs s :=
  srcS_lo h (srcS_lt h) (srcS_code_lt h) ((Below.refl _ _).alloc (Nat.le_refl _) _)

/-- An address drawn. -/
def dAddr (len : Nat) (zs : List Int) (s : DSt) : Int × DSt :=
  let p := dNx len zs 8 s
  let q := dNx len zs 130 p.2
  let r := dCell len zs q.2
  let t := dNx len zs 4 r.2
  (if t.1 = 0 then 4096 + 4 * p.1 else if t.1 = 1 then 4096 + q.1 else if t.1 = 2 then 4092 else r.1, t.2)

/-- An item without control drawn. -/
def dFlat (len : Nat) (zs : List Int) (s : DSt) : It × DSt :=
  let p := dNx len zs 5 s
  if p.1 = 0 ∨ p.1 = 1 then
    let x := dNx len zs 6 p.2
    let c := dCell len zs x.2
    let d := dAddr len zs c.2
    let e := dNx len zs 3 d.2
    (⟨2, if e.1 = 0 then x.1 else if e.1 = 1 then c.1 else d.1⟩, e.2)
  else if p.1 = 2 then (⟨1, 84 + (dNx len zs 3 p.2).1⟩, (dNx len zs 3 p.2).2)
  else if p.1 = 3 then (⟨1, [1, 2, 3, 4, 15, 16, 17, 46, 32, 34].getD (dNx len zs 10 p.2).1.toNat 0⟩, (dNx len zs 10 p.2).2)
  else (⟨1, 1 + (dNx len zs 66 p.2).1⟩, (dNx len zs 66 p.2).2)

/-- What an exact draw of an item leaves. -/
def ItD (f : DSt → It × DSt) (m : Nat) (w : World) (b : Nat) (a : Option Addr) (len cap : Nat) (zs : List Int) (s : DSt) (e : Ending) (w' : World) : Prop :=
  ∃ (x : It) (s' : DSt), f s = (x, s') ∧ e = .returned (.agg #[.int .i64 x.k, .int .i64 x.v]) ∧ itB x = true ∧ (x.k = 1 ∨ x.k = 2) ∧ s'.1 ≤ s.1 + m ∧ SrcS w' b a len cap zs s' ∧ w.grownBy w' (some b)

set_option maxRecDepth 100000 in
set_option maxHeartbeats 2000000 in
theorem addrD (b : Nat) (a : Option Addr) (len cap : Nat) (zs : List Int) (s : DSt) (w : World) (h : SrcS w b a len cap zs s) (hN : s.1 < 800000000) :
    Calls Try.prog 71 #[.pointer (some ⟨b, 0, none⟩)] w (CeOf (dAddr len zs) 8 w b a len cap zs s) := by
  have hb := srcS_lt h
  have H := Lib.hid h
  clear h
  go_enter Try.func71, Try.ntmps71
  go_wp2_with fail
  refine (nextD _ _ _ _ _ _ 8 _ H.out (by omega) (by omega) (by omega)).mono ?_
  rintro e w1 ⟨v1, t1, he1, ⟨l1, u1⟩, hp1, rfl, hs1, hg1⟩
  have E1 := Lib.hid he1
  clear he1
  have S1 := Lib.hid hs1
  have G1 := Lib.hid hg1
  have z1 : w.heap.size ≤ w1.heap.size := hg1.size
  clear hs1 hg1
  go_wp2_with fail
  refine (nextD _ _ _ _ _ _ 130 _ S1.out (by omega) (by omega) (by omega)).mono ?_
  rintro e w2 ⟨v2, t2, he2, ⟨l2, u2⟩, hp2, rfl, hs2, hg2⟩
  have E2 := Lib.hid he2
  clear he2
  have S2 := Lib.hid hs2
  have G2 := Lib.hid (grown_trans G1.out hg2)
  have z2 : w1.heap.size ≤ w2.heap.size := hg2.size
  clear hs2 hg2
  go_wp2_with fail
  refine (cellD _ _ _ _ _ _ _ S2.out (by omega)).mono ?_
  rintro e w3 ⟨v3, t3, he3, ⟨l3, u3⟩, hp3, rfl, hs3, hg3⟩
  have E3 := Lib.hid he3
  clear he3
  have S3 := Lib.hid hs3
  have G3 := Lib.hid (grown_trans G2.out hg3)
  have z3 : w2.heap.size ≤ w3.heap.size := hg3.size
  clear hs3 hg3
  go_wp2_with fail
  refine (nextD _ _ _ _ _ _ 4 _ (srcS_alloc S3.out _) (by omega) (by omega) (by omega)).mono ?_
  rintro e w4 ⟨v4, t4, he4, ⟨l4, u4⟩, hp4, rfl, hs4, hg4⟩
  have E4 := Lib.hid he4
  clear he4
  have S4 := Lib.hid hs4
  have G4 := Lib.hid (grown_trans (gb_alloc G3.out _) hg4)
  have X4 := whole_gbI hg4 (whole_new w3 _ _) (by omega)
  clear hs4 hg4
  rcases (by omega : v4 = 0 ∨ v4 = 1 ∨ v4 = 2 ∨ v4 = 3) with rfl | rfl | rfl | rfl
  · have c := whole_cell X4 0
    simp at c
    go_wp2
    go_ret
    exact ⟨_, t4, by unfold dAddr; simp [E1.out, E2.out, E3.out, E4.out], ⟨by omega, by omega⟩, by omega, rfl, S4.out, G4.out⟩
  · have c := whole_cell X4 1
    simp at c
    go_wp2
    go_ret
    exact ⟨_, t4, by unfold dAddr; simp [E1.out, E2.out, E3.out, E4.out], ⟨by omega, by omega⟩, by omega, rfl, S4.out, G4.out⟩
  · have c := whole_cell X4 2
    simp at c
    go_wp2
    go_ret
    exact ⟨_, t4, by unfold dAddr; simp [E1.out, E2.out, E3.out, E4.out], ⟨by omega, by omega⟩, by omega, rfl, S4.out, G4.out⟩
  · have c := whole_cell X4 3
    simp at c
    go_wp2
    go_ret
    exact ⟨_, t4, by unfold dAddr; simp [E1.out, E2.out, E3.out, E4.out], ⟨by omega, by omega⟩, by omega, rfl, S4.out, G4.out⟩

set_option maxRecDepth 100000 in
set_option maxHeartbeats 4000000 in
theorem flatD (b : Nat) (a : Option Addr) (len cap : Nat) (zs : List Int) (s : DSt) (w : World) (h : SrcS w b a len cap zs s) (hN : s.1 < 700000000) :
    Calls Try.prog 58 #[.pointer (some ⟨b, 0, none⟩), .int .i64 86] w (ItD (dFlat len zs) 20 w b a len cap zs s) := by
  have hb := srcS_lt h
  have HA := Lib.hid (srcS_code_lt h)
  have H := Lib.hid h
  clear h
  go_enter Try.func58, Try.ntmps58
  go_wp2_with fail
  refine (nextD _ _ _ _ _ _ 5 _ (srcS_alloc H.out _) (by omega) (by omega) (by omega)).mono ?_
  rintro e w1 ⟨v, t1, he1, ⟨v0, v1⟩, hp1, rfl, hs1, hg1⟩
  have E1 := Lib.hid he1
  clear he1
  have S1 := Lib.hid hs1
  have G1 := Lib.hid (grown_trans (gb_alloc (World.grownBy.refl w _) _) hg1)
  have X1 := whole_gbI hg1 (whole_new w _ _) (by omega)
  have z1 : w.heap.size < w1.heap.size := whole_lt X1
  clear hs1 hg1
  rcases (by omega : (v = 0 ∨ v = 1) ∨ v = 2 ∨ v = 3 ∨ (v ≠ 0 ∧ v ≠ 1 ∧ v ≠ 2 ∧ v ≠ 3)) with hv | rfl | rfl | ⟨n0, n1, n2, n3⟩
  · rcases hv with rfl | rfl
    · go_wp2_with fail
      refine (nextD _ _ _ _ _ _ 6 _ S1.out (by omega) (by omega) (by omega)).mono ?_
      rintro e w2 ⟨v2, t2, he2, ⟨l2, u2⟩, hp2, rfl, hs2, hg2⟩
      have E2 := Lib.hid he2
      clear he2
      have S2 := Lib.hid hs2
      have G2 := Lib.hid (grown_trans G1.out hg2)
      have X2 := whole_gbI hg2 X1 (by omega)
      have z2 := whole_lt X2
      clear hs2 hg2 G1 S1 X1
      go_wp2_with fail
      refine (cellD _ _ _ _ _ _ _ S2.out (by omega)).mono ?_
      rintro e w3 ⟨v3, t3, he3, ⟨l3, u3⟩, hp3, rfl, hs3, hg3⟩
      have E3 := Lib.hid he3
      clear he3
      have S3 := Lib.hid hs3
      have G3 := Lib.hid (grown_trans G2.out hg3)
      have X3 := whole_gbI hg3 X2 (by omega)
      have z3 := whole_lt X3
      clear hs3 hg3 G2 S2 X2
      go_wp2_with fail
      refine (addrD _ _ _ _ _ _ _ S3.out (by omega)).mono ?_
      rintro e w4 ⟨v4, t4, he4, ⟨l4, u4⟩, hp4, rfl, hs4, hg4⟩
      have E4 := Lib.hid he4
      clear he4
      have S4 := Lib.hid hs4
      have G4 := Lib.hid (grown_trans G3.out hg4)
      have X4 := whole_gbI hg4 X3 (by omega)
      have z4 := whole_lt X4
      clear hs4 hg4 G3 S3 X3
      go_wp2_with fail
      refine (nextD _ _ _ _ _ _ 3 _ (srcS_alloc S4.out _) (by omega) (by omega) (by omega)).mono ?_
      rintro e w5 ⟨v5, t5, he5, ⟨l5, u5⟩, hp5, rfl, hs5, hg5⟩
      have E5 := Lib.hid he5
      clear he5
      have S5 := Lib.hid hs5
      have Y5 := whole_gbI hg5 (whole_new w4 _ _) (by omega)
      have G5 := Lib.hid (grown_trans (gb_alloc G4.out _) hg5)
      have X5 := whole_gbI hg5 (whole_alloc X4 _) (by omega)
      have B5 : Hid (Below w.heap.size w5 w5) := Lib.hid (Below.refl _ _)
      clear hs5 hg5 G4 S4 X4
      rcases (by omega : v5 = 0 ∨ v5 = 1 ∨ v5 = 2) with rfl | rfl | rfl
      · have y := whole_cell Y5 0
        simp at y
        have c0 := whole_cell X5 0
        have c1 := whole_cell X5 1
        have cf := whole_free X5
        have cz := whole_lt X5
        simp at c0 c1
        go_wp2
        refine bodyPost_ret (v := .agg #[.int .i64 2, .int .i64 (v2)]) (by simp [results, Try.results58, go_sem, *]) rfl ⟨⟨2, v2⟩, t5, by unfold dFlat; simp [E1.out, E2.out, E3.out, E4.out, E5.out], rfl, itB_lit (by omega), by simp, by omega, srcS_lo S5.out hb HA.out ?_, ?_⟩
        · repeat (first | with_reducible exact B5.out | with_reducible refine Below.setCell ?_ (by simp; try omega) _)
        · repeat (first | with_reducible exact G5.out | with_reducible refine gb_set ?_ (by simp; try omega) _)
      · have y := whole_cell Y5 1
        simp at y
        have c0 := whole_cell X5 0
        have c1 := whole_cell X5 1
        have cf := whole_free X5
        have cz := whole_lt X5
        simp at c0 c1
        go_wp2
        refine bodyPost_ret (v := .agg #[.int .i64 2, .int .i64 (v3)]) (by simp [results, Try.results58, go_sem, *]) rfl ⟨⟨2, v3⟩, t5, by unfold dFlat; simp [E1.out, E2.out, E3.out, E4.out, E5.out], rfl, itB_lit (by omega), by simp, by omega, srcS_lo S5.out hb HA.out ?_, ?_⟩
        · repeat (first | with_reducible exact B5.out | with_reducible refine Below.setCell ?_ (by simp; try omega) _)
        · repeat (first | with_reducible exact G5.out | with_reducible refine gb_set ?_ (by simp; try omega) _)
      · have y := whole_cell Y5 2
        simp at y
        have c0 := whole_cell X5 0
        have c1 := whole_cell X5 1
        have cf := whole_free X5
        have cz := whole_lt X5
        simp at c0 c1
        go_wp2
        refine bodyPost_ret (v := .agg #[.int .i64 2, .int .i64 (v4)]) (by simp [results, Try.results58, go_sem, *]) rfl ⟨⟨2, v4⟩, t5, by unfold dFlat; simp [E1.out, E2.out, E3.out, E4.out, E5.out], rfl, itB_lit (by omega), by simp, by omega, srcS_lo S5.out hb HA.out ?_, ?_⟩
        · repeat (first | with_reducible exact B5.out | with_reducible refine Below.setCell ?_ (by simp; try omega) _)
        · repeat (first | with_reducible exact G5.out | with_reducible refine gb_set ?_ (by simp; try omega) _)
    · go_wp2_with fail
      refine (nextD _ _ _ _ _ _ 6 _ S1.out (by omega) (by omega) (by omega)).mono ?_
      rintro e w2 ⟨v2, t2, he2, ⟨l2, u2⟩, hp2, rfl, hs2, hg2⟩
      have E2 := Lib.hid he2
      clear he2
      have S2 := Lib.hid hs2
      have G2 := Lib.hid (grown_trans G1.out hg2)
      have X2 := whole_gbI hg2 X1 (by omega)
      have z2 := whole_lt X2
      clear hs2 hg2 G1 S1 X1
      go_wp2_with fail
      refine (cellD _ _ _ _ _ _ _ S2.out (by omega)).mono ?_
      rintro e w3 ⟨v3, t3, he3, ⟨l3, u3⟩, hp3, rfl, hs3, hg3⟩
      have E3 := Lib.hid he3
      clear he3
      have S3 := Lib.hid hs3
      have G3 := Lib.hid (grown_trans G2.out hg3)
      have X3 := whole_gbI hg3 X2 (by omega)
      have z3 := whole_lt X3
      clear hs3 hg3 G2 S2 X2
      go_wp2_with fail
      refine (addrD _ _ _ _ _ _ _ S3.out (by omega)).mono ?_
      rintro e w4 ⟨v4, t4, he4, ⟨l4, u4⟩, hp4, rfl, hs4, hg4⟩
      have E4 := Lib.hid he4
      clear he4
      have S4 := Lib.hid hs4
      have G4 := Lib.hid (grown_trans G3.out hg4)
      have X4 := whole_gbI hg4 X3 (by omega)
      have z4 := whole_lt X4
      clear hs4 hg4 G3 S3 X3
      go_wp2_with fail
      refine (nextD _ _ _ _ _ _ 3 _ (srcS_alloc S4.out _) (by omega) (by omega) (by omega)).mono ?_
      rintro e w5 ⟨v5, t5, he5, ⟨l5, u5⟩, hp5, rfl, hs5, hg5⟩
      have E5 := Lib.hid he5
      clear he5
      have S5 := Lib.hid hs5
      have Y5 := whole_gbI hg5 (whole_new w4 _ _) (by omega)
      have G5 := Lib.hid (grown_trans (gb_alloc G4.out _) hg5)
      have X5 := whole_gbI hg5 (whole_alloc X4 _) (by omega)
      have B5 : Hid (Below w.heap.size w5 w5) := Lib.hid (Below.refl _ _)
      clear hs5 hg5 G4 S4 X4
      rcases (by omega : v5 = 0 ∨ v5 = 1 ∨ v5 = 2) with rfl | rfl | rfl
      · have y := whole_cell Y5 0
        simp at y
        have c0 := whole_cell X5 0
        have c1 := whole_cell X5 1
        have cf := whole_free X5
        have cz := whole_lt X5
        simp at c0 c1
        go_wp2
        refine bodyPost_ret (v := .agg #[.int .i64 2, .int .i64 (v2)]) (by simp [results, Try.results58, go_sem, *]) rfl ⟨⟨2, v2⟩, t5, by unfold dFlat; simp [E1.out, E2.out, E3.out, E4.out, E5.out], rfl, itB_lit (by omega), by simp, by omega, srcS_lo S5.out hb HA.out ?_, ?_⟩
        · repeat (first | with_reducible exact B5.out | with_reducible refine Below.setCell ?_ (by simp; try omega) _)
        · repeat (first | with_reducible exact G5.out | with_reducible refine gb_set ?_ (by simp; try omega) _)
      · have y := whole_cell Y5 1
        simp at y
        have c0 := whole_cell X5 0
        have c1 := whole_cell X5 1
        have cf := whole_free X5
        have cz := whole_lt X5
        simp at c0 c1
        go_wp2
        refine bodyPost_ret (v := .agg #[.int .i64 2, .int .i64 (v3)]) (by simp [results, Try.results58, go_sem, *]) rfl ⟨⟨2, v3⟩, t5, by unfold dFlat; simp [E1.out, E2.out, E3.out, E4.out, E5.out], rfl, itB_lit (by omega), by simp, by omega, srcS_lo S5.out hb HA.out ?_, ?_⟩
        · repeat (first | with_reducible exact B5.out | with_reducible refine Below.setCell ?_ (by simp; try omega) _)
        · repeat (first | with_reducible exact G5.out | with_reducible refine gb_set ?_ (by simp; try omega) _)
      · have y := whole_cell Y5 2
        simp at y
        have c0 := whole_cell X5 0
        have c1 := whole_cell X5 1
        have cf := whole_free X5
        have cz := whole_lt X5
        simp at c0 c1
        go_wp2
        refine bodyPost_ret (v := .agg #[.int .i64 2, .int .i64 (v4)]) (by simp [results, Try.results58, go_sem, *]) rfl ⟨⟨2, v4⟩, t5, by unfold dFlat; simp [E1.out, E2.out, E3.out, E4.out, E5.out], rfl, itB_lit (by omega), by simp, by omega, srcS_lo S5.out hb HA.out ?_, ?_⟩
        · repeat (first | with_reducible exact B5.out | with_reducible refine Below.setCell ?_ (by simp; try omega) _)
        · repeat (first | with_reducible exact G5.out | with_reducible refine gb_set ?_ (by simp; try omega) _)
  · go_wp2_with fail
    refine (nextD _ _ _ _ _ _ 3 _ S1.out (by omega) (by omega) (by omega)).mono ?_
    rintro e w2 ⟨v2, t2, he2, ⟨l2, u2⟩, hp2, rfl, hs2, hg2⟩
    have E2 := Lib.hid he2
    clear he2
    have S2 := Lib.hid hs2
    have G2 := Lib.hid (grown_trans G1.out hg2)
    have X2 := whole_gbI hg2 X1 (by omega)
    have B2 : Hid (Below w.heap.size w2 w2) := Lib.hid (Below.refl _ _)
    clear hs2 hg2 G1 S1 X1
    have c0 := whole_cell X2 0
    have c1 := whole_cell X2 1
    have cf := whole_free X2
    have cz := whole_lt X2
    simp at c0 c1
    go_wp2
    refine bodyPost_ret (v := .agg #[.int .i64 1, .int .i64 (84 + v2)]) (by simp [results, Try.results58, go_sem, *]) rfl ⟨⟨1, 84 + v2⟩, t2, by unfold dFlat; simp [E1.out, E2.out], rfl, itB_word (by omega), by simp, by omega, srcS_lo S2.out hb HA.out ?_, ?_⟩
    · repeat (first | with_reducible exact B2.out | with_reducible refine Below.setCell ?_ (by simp; try omega) _)
    · repeat (first | with_reducible exact G2.out | with_reducible refine gb_set ?_ (by simp; try omega) _)
  · go_wp2_with fail
    refine (nextD _ _ _ _ _ _ 10 _ (srcS_alloc S1.out _) (by omega) (by omega) (by omega)).mono ?_
    rintro e w2 ⟨v2, t2, he2, ⟨l2, u2⟩, hp2, rfl, hs2, hg2⟩
    have E2 := Lib.hid he2
    clear he2
    have Y2 := whole_gbI hg2 (whole_new w1 _ _) (by omega)
    have G2 := Lib.hid (grown_trans (gb_alloc G1.out _) hg2)
    have X2 := whole_gbI hg2 (whole_alloc X1 _) (by omega)
    have S2 := Lib.hid hs2
    have B2 : Hid (Below w.heap.size w2 w2) := Lib.hid (Below.refl _ _)
    clear hs2 hg2 G1 S1 X1
    obtain ⟨j, rfl⟩ := Int.eq_ofNat_of_zero_le l2
    rcases (by omega : j = 0 ∨ j = 1 ∨ j = 2 ∨ j = 3 ∨ j = 4 ∨ j = 5 ∨ j = 6 ∨ j = 7 ∨ j = 8 ∨ j = 9) with rfl | rfl | rfl | rfl | rfl | rfl | rfl | rfl | rfl | rfl
    · have y := whole_cell Y2 0
      simp at y
      have c0 := whole_cell X2 0
      have c1 := whole_cell X2 1
      have cf := whole_free X2
      have cz := whole_lt X2
      simp at c0 c1
      go_wp2
      refine bodyPost_ret (v := .agg #[.int .i64 1, .int .i64 (1)]) (by simp [results, Try.results58, go_sem, *]) rfl ⟨⟨1, 1⟩, t2, by unfold dFlat; simp [E1.out, E2.out], rfl, itB_word (by omega), by simp, by omega, srcS_lo S2.out hb HA.out ?_, ?_⟩
      · repeat (first | with_reducible exact B2.out | with_reducible refine Below.setCell ?_ (by simp; try omega) _)
      · repeat (first | with_reducible exact G2.out | with_reducible refine gb_set ?_ (by simp; try omega) _)
    · have y := whole_cell Y2 1
      simp at y
      have c0 := whole_cell X2 0
      have c1 := whole_cell X2 1
      have cf := whole_free X2
      have cz := whole_lt X2
      simp at c0 c1
      go_wp2
      refine bodyPost_ret (v := .agg #[.int .i64 1, .int .i64 (2)]) (by simp [results, Try.results58, go_sem, *]) rfl ⟨⟨1, 2⟩, t2, by unfold dFlat; simp [E1.out, E2.out], rfl, itB_word (by omega), by simp, by omega, srcS_lo S2.out hb HA.out ?_, ?_⟩
      · repeat (first | with_reducible exact B2.out | with_reducible refine Below.setCell ?_ (by simp; try omega) _)
      · repeat (first | with_reducible exact G2.out | with_reducible refine gb_set ?_ (by simp; try omega) _)
    · have y := whole_cell Y2 2
      simp at y
      have c0 := whole_cell X2 0
      have c1 := whole_cell X2 1
      have cf := whole_free X2
      have cz := whole_lt X2
      simp at c0 c1
      go_wp2
      refine bodyPost_ret (v := .agg #[.int .i64 1, .int .i64 (3)]) (by simp [results, Try.results58, go_sem, *]) rfl ⟨⟨1, 3⟩, t2, by unfold dFlat; simp [E1.out, E2.out], rfl, itB_word (by omega), by simp, by omega, srcS_lo S2.out hb HA.out ?_, ?_⟩
      · repeat (first | with_reducible exact B2.out | with_reducible refine Below.setCell ?_ (by simp; try omega) _)
      · repeat (first | with_reducible exact G2.out | with_reducible refine gb_set ?_ (by simp; try omega) _)
    · have y := whole_cell Y2 3
      simp at y
      have c0 := whole_cell X2 0
      have c1 := whole_cell X2 1
      have cf := whole_free X2
      have cz := whole_lt X2
      simp at c0 c1
      go_wp2
      refine bodyPost_ret (v := .agg #[.int .i64 1, .int .i64 (4)]) (by simp [results, Try.results58, go_sem, *]) rfl ⟨⟨1, 4⟩, t2, by unfold dFlat; simp [E1.out, E2.out], rfl, itB_word (by omega), by simp, by omega, srcS_lo S2.out hb HA.out ?_, ?_⟩
      · repeat (first | with_reducible exact B2.out | with_reducible refine Below.setCell ?_ (by simp; try omega) _)
      · repeat (first | with_reducible exact G2.out | with_reducible refine gb_set ?_ (by simp; try omega) _)
    · have y := whole_cell Y2 4
      simp at y
      have c0 := whole_cell X2 0
      have c1 := whole_cell X2 1
      have cf := whole_free X2
      have cz := whole_lt X2
      simp at c0 c1
      go_wp2
      refine bodyPost_ret (v := .agg #[.int .i64 1, .int .i64 (15)]) (by simp [results, Try.results58, go_sem, *]) rfl ⟨⟨1, 15⟩, t2, by unfold dFlat; simp [E1.out, E2.out], rfl, itB_word (by omega), by simp, by omega, srcS_lo S2.out hb HA.out ?_, ?_⟩
      · repeat (first | with_reducible exact B2.out | with_reducible refine Below.setCell ?_ (by simp; try omega) _)
      · repeat (first | with_reducible exact G2.out | with_reducible refine gb_set ?_ (by simp; try omega) _)
    · have y := whole_cell Y2 5
      simp at y
      have c0 := whole_cell X2 0
      have c1 := whole_cell X2 1
      have cf := whole_free X2
      have cz := whole_lt X2
      simp at c0 c1
      go_wp2
      refine bodyPost_ret (v := .agg #[.int .i64 1, .int .i64 (16)]) (by simp [results, Try.results58, go_sem, *]) rfl ⟨⟨1, 16⟩, t2, by unfold dFlat; simp [E1.out, E2.out], rfl, itB_word (by omega), by simp, by omega, srcS_lo S2.out hb HA.out ?_, ?_⟩
      · repeat (first | with_reducible exact B2.out | with_reducible refine Below.setCell ?_ (by simp; try omega) _)
      · repeat (first | with_reducible exact G2.out | with_reducible refine gb_set ?_ (by simp; try omega) _)
    · have y := whole_cell Y2 6
      simp at y
      have c0 := whole_cell X2 0
      have c1 := whole_cell X2 1
      have cf := whole_free X2
      have cz := whole_lt X2
      simp at c0 c1
      go_wp2
      refine bodyPost_ret (v := .agg #[.int .i64 1, .int .i64 (17)]) (by simp [results, Try.results58, go_sem, *]) rfl ⟨⟨1, 17⟩, t2, by unfold dFlat; simp [E1.out, E2.out], rfl, itB_word (by omega), by simp, by omega, srcS_lo S2.out hb HA.out ?_, ?_⟩
      · repeat (first | with_reducible exact B2.out | with_reducible refine Below.setCell ?_ (by simp; try omega) _)
      · repeat (first | with_reducible exact G2.out | with_reducible refine gb_set ?_ (by simp; try omega) _)
    · have y := whole_cell Y2 7
      simp at y
      have c0 := whole_cell X2 0
      have c1 := whole_cell X2 1
      have cf := whole_free X2
      have cz := whole_lt X2
      simp at c0 c1
      go_wp2
      refine bodyPost_ret (v := .agg #[.int .i64 1, .int .i64 (46)]) (by simp [results, Try.results58, go_sem, *]) rfl ⟨⟨1, 46⟩, t2, by unfold dFlat; simp [E1.out, E2.out], rfl, itB_word (by omega), by simp, by omega, srcS_lo S2.out hb HA.out ?_, ?_⟩
      · repeat (first | with_reducible exact B2.out | with_reducible refine Below.setCell ?_ (by simp; try omega) _)
      · repeat (first | with_reducible exact G2.out | with_reducible refine gb_set ?_ (by simp; try omega) _)
    · have y := whole_cell Y2 8
      simp at y
      have c0 := whole_cell X2 0
      have c1 := whole_cell X2 1
      have cf := whole_free X2
      have cz := whole_lt X2
      simp at c0 c1
      go_wp2
      refine bodyPost_ret (v := .agg #[.int .i64 1, .int .i64 (32)]) (by simp [results, Try.results58, go_sem, *]) rfl ⟨⟨1, 32⟩, t2, by unfold dFlat; simp [E1.out, E2.out], rfl, itB_word (by omega), by simp, by omega, srcS_lo S2.out hb HA.out ?_, ?_⟩
      · repeat (first | with_reducible exact B2.out | with_reducible refine Below.setCell ?_ (by simp; try omega) _)
      · repeat (first | with_reducible exact G2.out | with_reducible refine gb_set ?_ (by simp; try omega) _)
    · have y := whole_cell Y2 9
      simp at y
      have c0 := whole_cell X2 0
      have c1 := whole_cell X2 1
      have cf := whole_free X2
      have cz := whole_lt X2
      simp at c0 c1
      go_wp2
      refine bodyPost_ret (v := .agg #[.int .i64 1, .int .i64 (34)]) (by simp [results, Try.results58, go_sem, *]) rfl ⟨⟨1, 34⟩, t2, by unfold dFlat; simp [E1.out, E2.out], rfl, itB_word (by omega), by simp, by omega, srcS_lo S2.out hb HA.out ?_, ?_⟩
      · repeat (first | with_reducible exact B2.out | with_reducible refine Below.setCell ?_ (by simp; try omega) _)
      · repeat (first | with_reducible exact G2.out | with_reducible refine gb_set ?_ (by simp; try omega) _)
  · have e0 : (v == 0) = false := by rw [beq_eq_false_iff_ne]; exact n0
    have e1 : (v == 1) = false := by rw [beq_eq_false_iff_ne]; exact n1
    have e2 : (v == 2) = false := by rw [beq_eq_false_iff_ne]; exact n2
    have e3 : (v == 3) = false := by rw [beq_eq_false_iff_ne]; exact n3
    have NN := Lib.hid (And.intro n0 (And.intro n1 (And.intro n2 n3)))
    clear n0 n1 n2 n3
    go_wp2_with fail
    refine (nextD _ _ _ _ _ _ 66 _ S1.out (by omega) (by omega) (by omega)).mono ?_
    rintro e w2 ⟨v2, t2, he2, ⟨l2, u2⟩, hp2, rfl, hs2, hg2⟩
    have E2 := Lib.hid he2
    clear he2
    have S2 := Lib.hid hs2
    have G2 := Lib.hid (grown_trans G1.out hg2)
    have X2 := whole_gbI hg2 X1 (by omega)
    have B2 : Hid (Below w.heap.size w2 w2) := Lib.hid (Below.refl _ _)
    clear hs2 hg2 G1 S1 X1
    have c0 := whole_cell X2 0
    have c1 := whole_cell X2 1
    have cf := whole_free X2
    have cz := whole_lt X2
    simp at c0 c1
    go_wp2
    refine bodyPost_ret (v := .agg #[.int .i64 1, .int .i64 (1 + v2)]) (by simp [results, Try.results58, go_sem, *]) rfl ⟨⟨1, 1 + v2⟩, t2, by unfold dFlat; simp [E1.out, E2.out, NN.out.1, NN.out.2.1, NN.out.2.2.1, NN.out.2.2.2], rfl, itB_word (by omega), by simp, by omega, srcS_lo S2.out hb HA.out ?_, ?_⟩
    · repeat (first | with_reducible exact B2.out | with_reducible refine Below.setCell ?_ (by simp; try omega) _)
    · repeat (first | with_reducible exact G2.out | with_reducible refine gb_set ?_ (by simp; try omega) _)

end Go.Proofs.Ytafhmajnkicifaa

namespace Go.Proofs.Ytafhmajnkicifaa
open Go.RowKit
set_option linter.unusedVariables false
set_option linter.unusedSimpArgs false

/-- Each item is valid, all that they open they close, and nothing else, where d more may be opened. -/
def Fits (d : Nat) (Q : List It) : Prop := (∀ x ∈ Q, itB x = true) ∧ ∀ (o : List Int) (R : List It), o.length + d ≤ 8 → goO (Q ++ R) o = (Q.length + (goO R o).1, (goO R o).2)

theorem fits_nil (d : Nat) : Fits d [] := ⟨by simp, fun o R _ => by simp⟩

theorem fits_app {d : Nat} {P Q : List It} (p : Fits d P) (q : Fits d Q) : Fits d (P ++ Q) :=
  ⟨fun x hx => (List.mem_append.1 hx).elim (p.1 x) (q.1 x), fun o R ho => by rw [List.append_assoc, p.2 o _ ho, q.2 o R ho]; simp [Nat.add_assoc]⟩

theorem fits_mono {d e : Nat} {Q : List It} (q : Fits d Q) (h : d ≤ e) : Fits e Q := ⟨q.1, fun o R ho => q.2 o R (by omega)⟩

theorem go_step {x : It} {o : List Int} {R : List It} (h : fitB o x.k = true) : goO (x :: R) o = ((goO R (nextO o x.k)).1 + 1, (goO R (nextO o x.k)).2) := by
  rw [goO, if_pos h]

theorem fits_one {x : It} (hb : itB x = true) (hk : x.k = 1 ∨ x.k = 2 ∨ x.k = 13) : Fits 0 [x] := by
  refine ⟨by simpa using hb, fun o R _ => ?_⟩
  have hf : fitB o x.k = true := by rcases hk with h | h | h <;> (rw [h]; rfl)
  have hn : nextO o x.k = o := by rcases hk with h | h | h <;> (rw [h]; rfl)
  rw [List.singleton_append, go_step hf, hn]
  simp [Nat.add_comm]

theorem itB_ctl {k : Int} (h : 3 ≤ k ∧ k ≤ 13) : itB ⟨k, 0⟩ = true := by
  unfold itB
  rw [if_neg (by show ¬ k = 1; omega), if_neg (by show ¬ k = 2; omega)]
  simp; omega

theorem fit_snoc (o : List Int) {j k : Int} (h : (j = 3 ∧ (k = 4 ∨ k = 5)) ∨ (j = 4 ∧ k = 5) ∨ (j = 6 ∧ (k = 7 ∨ k = 8)) ∨ (j = 8 ∧ k = 9) ∨ (j = 10 ∧ (k = 11 ∨ k = 12))) : fitB (o ++ [j]) k = true := by
  unfold fitB
  simp only [topO_snoc]
  rcases h with ⟨rfl, rfl | rfl⟩ | ⟨rfl, rfl⟩ | ⟨rfl, rfl | rfl⟩ | ⟨rfl, rfl⟩ | ⟨rfl, rfl | rfl⟩ <;> rfl

theorem fit_open {o : List Int} {k : Int} (h : k = 3 ∨ k = 6 ∨ k = 10) (ho : o.length < 8) : fitB o k = true := by
  unfold fitB
  rw [if_pos h]; exact decide_eq_true ho

theorem next_open (o : List Int) {k : Int} (h : k = 3 ∨ k = 6 ∨ k = 10) : nextO o k = o ++ [k] := by unfold nextO; rw [if_pos h]

theorem next_turn (o : List Int) (j : Int) {k : Int} (h : k = 4 ∨ k = 8) : nextO (o ++ [j]) k = o ++ [k] := by
  unfold nextO
  rw [if_neg (by omega), if_pos h, List.dropLast_concat]

theorem next_close (o : List Int) (j : Int) {k : Int} (h : k = 5 ∨ k = 7 ∨ k = 9 ∨ k = 11 ∨ k = 12) : nextO (o ++ [j]) k = o := by
  unfold nextO
  rw [if_neg (by omega), if_neg (by omega), if_pos h, List.dropLast_concat]

/-- What is opened, items, what closes it. -/
theorem fits_two {d : Nat} {Q : List It} (q : Fits d Q) {j k : Int} (hj : j = 3 ∨ j = 6 ∨ j = 10) (hk : (j = 3 ∧ k = 5) ∨ (j = 6 ∧ k = 7) ∨ (j = 10 ∧ (k = 11 ∨ k = 12))) : Fits (d + 1) ([⟨j, 0⟩] ++ Q ++ [⟨k, 0⟩]) := by
  refine ⟨fun x hx => ?_, fun o R ho => ?_⟩
  · simp only [List.mem_append, List.mem_singleton] at hx
    rcases hx with (rfl | hx) | rfl
    · exact itB_ctl (by omega)
    · exact q.1 x hx
    · exact itB_ctl (by omega)
  · rw [List.append_assoc, List.append_assoc, List.singleton_append, go_step (fit_open hj (by omega)), next_open o hj, List.append_assoc, q.2 _ _ (by simp; omega), List.singleton_append, go_step (fit_snoc o (k := k) (by omega)), next_close o j (k := k) (by omega)]
    simp; omega

/-- What is opened, items, what turns it, items, what closes it. -/
theorem fits_three {d : Nat} {Q Q2 : List It} (q : Fits d Q) (q2 : Fits d Q2) {j i k : Int} (h : (j = 3 ∧ i = 4 ∧ k = 5) ∨ (j = 6 ∧ i = 8 ∧ k = 9)) : Fits (d + 1) ([⟨j, 0⟩] ++ Q ++ [⟨i, 0⟩] ++ Q2 ++ [⟨k, 0⟩]) := by
  refine ⟨fun x hx => ?_, fun o R ho => ?_⟩
  · simp only [List.mem_append, List.mem_singleton] at hx
    rcases hx with (((rfl | hx) | rfl) | hx) | rfl
    · exact itB_ctl (by omega)
    · exact q.1 x hx
    · exact itB_ctl (by omega)
    · exact q2.1 x hx
    · exact itB_ctl (by omega)
  · simp only [List.append_assoc, List.singleton_append]
    rw [List.cons_append, go_step (fit_open (k := j) (by omega) (by omega)), next_open o (k := j) (by omega)]
    simp only [List.append_assoc, List.cons_append]
    rw [q.2 _ _ (by simp; omega), go_step (fit_snoc o (k := i) (by omega)), next_turn o j (k := i) (by omega), q2.2 _ _ (by simp; omega)]
    simp only [List.singleton_append, List.nil_append]
    rw [go_step (fit_snoc o (k := k) (by omega)), next_close o i (k := k) (by omega)]
    simp; omega

theorem fits_go {d : Nat} {Q : List It} (q : Fits d Q) (h : d ≤ 8) : goO Q [] = (Q.length, []) := by
  have := q.2 [] [] (by simpa using h)
  rw [List.append_nil] at this
  rw [this]; simp [goO]

end Go.Proofs.Ytafhmajnkicifaa

namespace Go.Proofs.Ytafhmajnkicifaa
open Go.RowKit
set_option linter.unusedVariables false
set_option linter.unusedSimpArgs false

theorem cats4 (w : World) (t : TypeId) {g : Nat} (hg : g = w.heap.size) {v0 v1 v2 v3 : Value} {Q0 Q1 Q2 Q3 : List It} (h0 : Its w v0 Q0) (h1 : Its w v1 Q1) (h2 : Its w v2 Q2) (h3 : Its w v3 Q3) : Cats (w.alloc (.cells #[v0, v1, v2, v3] t)) g [Q0, Q1, Q2, Q3] := by
  subst hg
  have X := whole_new w t #[v0, v1, v2, v3]
  have B := below_alloc (Below.refl w.heap.size w) (.cells #[v0, v1, v2, v3] t)
  intro k hk
  rcases k with _ | _ | _ | _ | k
  · exact ⟨v0, whole_cell X 0, its_below h0 B⟩
  · exact ⟨v1, whole_cell X 1, its_below h1 B⟩
  · exact ⟨v2, whole_cell X 2, its_below h2 B⟩
  · exact ⟨v3, whole_cell X 3, its_below h3 B⟩
  · simp at hk; omega

theorem cats6 (w : World) (t : TypeId) {g : Nat} (hg : g = w.heap.size) {v0 v1 v2 v3 v4 v5 : Value} {Q0 Q1 Q2 Q3 Q4 Q5 : List It} (h0 : Its w v0 Q0) (h1 : Its w v1 Q1) (h2 : Its w v2 Q2) (h3 : Its w v3 Q3) (h4 : Its w v4 Q4) (h5 : Its w v5 Q5) : Cats (w.alloc (.cells #[v0, v1, v2, v3, v4, v5] t)) g [Q0, Q1, Q2, Q3, Q4, Q5] := by
  subst hg
  have X := whole_new w t #[v0, v1, v2, v3, v4, v5]
  have B := below_alloc (Below.refl w.heap.size w) (.cells #[v0, v1, v2, v3, v4, v5] t)
  intro k hk
  rcases k with _ | _ | _ | _ | _ | _ | k
  · exact ⟨v0, whole_cell X 0, its_below h0 B⟩
  · exact ⟨v1, whole_cell X 1, its_below h1 B⟩
  · exact ⟨v2, whole_cell X 2, its_below h2 B⟩
  · exact ⟨v3, whole_cell X 3, its_below h3 B⟩
  · exact ⟨v4, whole_cell X 4, its_below h4 B⟩
  · exact ⟨v5, whole_cell X 5, its_below h5 B⟩
  · simp at hk; omega

theorem cats8 (w : World) (t : TypeId) {g : Nat} (hg : g = w.heap.size) {v0 v1 v2 v3 v4 v5 v6 v7 : Value} {Q0 Q1 Q2 Q3 Q4 Q5 Q6 Q7 : List It} (h0 : Its w v0 Q0) (h1 : Its w v1 Q1) (h2 : Its w v2 Q2) (h3 : Its w v3 Q3) (h4 : Its w v4 Q4) (h5 : Its w v5 Q5) (h6 : Its w v6 Q6) (h7 : Its w v7 Q7) : Cats (w.alloc (.cells #[v0, v1, v2, v3, v4, v5, v6, v7] t)) g [Q0, Q1, Q2, Q3, Q4, Q5, Q6, Q7] := by
  subst hg
  have X := whole_new w t #[v0, v1, v2, v3, v4, v5, v6, v7]
  have B := below_alloc (Below.refl w.heap.size w) (.cells #[v0, v1, v2, v3, v4, v5, v6, v7] t)
  intro k hk
  rcases k with _ | _ | _ | _ | _ | _ | _ | _ | k
  · exact ⟨v0, whole_cell X 0, its_below h0 B⟩
  · exact ⟨v1, whole_cell X 1, its_below h1 B⟩
  · exact ⟨v2, whole_cell X 2, its_below h2 B⟩
  · exact ⟨v3, whole_cell X 3, its_below h3 B⟩
  · exact ⟨v4, whole_cell X 4, its_below h4 B⟩
  · exact ⟨v5, whole_cell X 5, its_below h5 B⟩
  · exact ⟨v6, whole_cell X 6, its_below h6 B⟩
  · exact ⟨v7, whole_cell X 7, its_below h7 B⟩
  · simp at hk; omega

/-- What a drawn block leaves. -/
def BlockDrew (w : World) (b : Nat) (a : Option Addr) (len cap : Nat) (zs : List Int) (N d M : Nat) (e : Ending) (w' : World) : Prop :=
  ∃ v Q, e = .returned v ∧ IRow w' w.heap.size v Q ∧ Fits d Q ∧ Q.length ≤ M ∧ Src w' b a len cap zs N ∧ w.grownBy w' (some b)

set_option maxRecDepth 100000 in
set_option maxHeartbeats 8000000 in
theorem block0_drew (b : Nat) (a : Option Addr) (len cap : Nat) (zs : List Int) (N : Nat) (w : World) (h : Src w b a len cap zs N) (hN : N ≤ 90000) :
    Calls Try.prog 43 #[.pointer (some ⟨b, 0, none⟩), .int .i64 86, .int .i64 0] w (BlockDrew w b a len cap zs (N + 100) 0 4) := by
  have hb0 := src_lt h
  have HA := Lib.hid (src_code_lt h)
  have H := Lib.hid h
  clear h
  go_enter Try.func43, Try.ntmps43
  go_wp2_with fail
  refine (next_small _ _ _ _ _ _ _ _ (src_alloc H.out _) (by unfold Few; omega) (by omega) (by omega)).mono ?_
  rintro e w1 ⟨v, ⟨v0, v1⟩, rfl, hs, hg⟩
  have S := hs
  have G := grown_trans (gb_alloc (World.grownBy.refl w _) _) hg
  have R_out : IRow w1 w.heap.size (.slice (some ⟨w.heap.size, 0, none⟩) 0 0) [] := irow_gb hg (irow_empty w (Nat.le_refl _)) hb0
  clear hs hg
  go_wp2
  go_loopw [7, 8] (fun o i wr => ∃ (k : Int) (A : Option Addr) (n c : Nat) (Q : List It), 0 ≤ k ∧ k ≤ 4 ∧ i = .int .i64 k ∧ o = .slice A n c ∧ IRow wr w.heap.size (.slice A n c) Q ∧ Fits 0 Q ∧ (Q.length : Int) ≤ (4 - k) * 1 ∧ Src wr b a len cap zs (N + 1 + (4 - k.toNat) * 20) ∧ w.grownBy wr (some b)) (fun _ i _ => (intOf i).toNat)
  case atStart => exact ⟨1 + v, _, _, _, [], by omega, by omega, by go_num, rfl, R_out, fits_nil _, by simp; omega, src_mono S (by omega), G⟩
  case round =>
    clear R_out S G
    obtain ⟨k, A, n, c, Q, k0, k4, rfl, rfl, R_out, F, LQ, S, G⟩ := hrel
    have zwr : w.heap.size ≤ wr.heap.size := G.size
    by_cases hlt : 0 < k
    · go_wp2_with fail
      refine (flat_drew _ _ _ _ _ _ _ S (by omega)).mono ?_
      rintro e w11 ⟨⟨xk, xv⟩, rfl, xb, hx, hs, hg⟩
      have R_out := irow_gb hg R_out (by omega)
      have S := hs
      have G := grown_trans G hg
      have zw11 : w.heap.size ≤ w11.heap.size := by have := hg.size; omega
      clear hs hg
      simp only at hx xb
      rcases hx with rfl | rfl
      · cases hin : inB xv 57 62
        · have FX := xb
          go_wp2_with (first | (go_at_call 59; refine (sIn_any _ _ _ _).mono ?_; rintro e w' ⟨rfl, rfl⟩; rw [hin]) | (at_builtin; refine wpList_append_items rfl (.tmp 37) (.tmp 39) rfl rfl w.heap.size _ Q (irow_below R_out (by repeat (first | with_reducible exact Below.refl _ _ | with_reducible refine Below.setCell ?_ (by first | omega | (simp; done) | (simp; omega)) _ | with_reducible refine Below.alloc ?_ (by first | omega | (simp; done) | (simp; omega)) _))) _ [⟨1, xv⟩] (its_lit ⟨1, xv⟩ (by simp)) rfl rfl (by simp; omega) (by simp; omega) ?_; intro v9 w9 hr hgr hat; obtain ⟨A9, n9, c9, rfl⟩ := irow_form hr; have BX : Below w.heap.size w11 w9 := Below.grown (by repeat (first | with_reducible exact Below.refl _ _ | with_reducible refine Below.setCell ?_ (by first | omega | (simp; done) | (simp; omega)) _ | with_reducible refine Below.alloc ?_ (by first | omega | (simp; done) | (simp; omega)) _)) hgr (by simp; omega) (fun g hg => (irow_lt R_out g hg).1); have S := src_lo S hb0 HA.out BX; have G := gb_of_lo G BX; clear BX hgr hat))
          have FN : Fits 0 (Q ++ [(⟨1, xv⟩ : It)]) := fits_app F (fits_mono (fits_one FX (by simp)) (by omega))
          have L9 : ((Q ++ [(⟨1, xv⟩ : It)]).length : Int) ≤ (4 - (k - 1)) * 1 := by simp; omega
          generalize Q ++ [(⟨1, xv⟩ : It)] = Q9 at *
          clear R_out
          go_roundw
          case rel => exact ⟨k - 1, _, _, _, Q9, by omega, by omega, by go_num, rfl, hr, FN, L9, src_mono S (by omega), G⟩
          case measure => simp [intOf]; omega
        · have FX : itB (⟨1, 1⟩ : It) = true := by decide
          go_wp2_with (first | (go_at_call 59; refine (sIn_any _ _ _ _).mono ?_; rintro e w' ⟨rfl, rfl⟩; rw [hin]) | (at_builtin; refine wpList_append_items rfl (.tmp 37) (.tmp 39) rfl rfl w.heap.size _ Q (irow_below R_out (by repeat (first | with_reducible exact Below.refl _ _ | with_reducible refine Below.setCell ?_ (by first | omega | (simp; done) | (simp; omega)) _ | with_reducible refine Below.alloc ?_ (by first | omega | (simp; done) | (simp; omega)) _))) _ [⟨1, 1⟩] (its_lit ⟨1, 1⟩ (by simp)) rfl rfl (by simp; omega) (by simp; omega) ?_; intro v9 w9 hr hgr hat; obtain ⟨A9, n9, c9, rfl⟩ := irow_form hr; have BX : Below w.heap.size w11 w9 := Below.grown (by repeat (first | with_reducible exact Below.refl _ _ | with_reducible refine Below.setCell ?_ (by first | omega | (simp; done) | (simp; omega)) _ | with_reducible refine Below.alloc ?_ (by first | omega | (simp; done) | (simp; omega)) _)) hgr (by simp; omega) (fun g hg => (irow_lt R_out g hg).1); have S := src_lo S hb0 HA.out BX; have G := gb_of_lo G BX; clear BX hgr hat))
          have FN : Fits 0 (Q ++ [(⟨1, 1⟩ : It)]) := fits_app F (fits_mono (fits_one FX (by simp)) (by omega))
          have L9 : ((Q ++ [(⟨1, 1⟩ : It)]).length : Int) ≤ (4 - (k - 1)) * 1 := by simp; omega
          generalize Q ++ [(⟨1, 1⟩ : It)] = Q9 at *
          clear R_out
          go_roundw
          case rel => exact ⟨k - 1, _, _, _, Q9, by omega, by omega, by go_num, rfl, hr, FN, L9, src_mono S (by omega), G⟩
          case measure => simp [intOf]; omega
      · have FX := xb
        go_wp2_with (first | (at_builtin; refine wpList_append_items rfl (.tmp 37) (.tmp 39) rfl rfl w.heap.size _ Q (irow_below R_out (by repeat (first | with_reducible exact Below.refl _ _ | with_reducible refine Below.setCell ?_ (by first | omega | (simp; done) | (simp; omega)) _ | with_reducible refine Below.alloc ?_ (by first | omega | (simp; done) | (simp; omega)) _))) _ [⟨2, xv⟩] (its_lit ⟨2, xv⟩ (by simp)) rfl rfl (by simp; omega) (by simp; omega) ?_; intro v9 w9 hr hgr hat; obtain ⟨A9, n9, c9, rfl⟩ := irow_form hr; have BX : Below w.heap.size w11 w9 := Below.grown (by repeat (first | with_reducible exact Below.refl _ _ | with_reducible refine Below.setCell ?_ (by first | omega | (simp; done) | (simp; omega)) _ | with_reducible refine Below.alloc ?_ (by first | omega | (simp; done) | (simp; omega)) _)) hgr (by simp; omega) (fun g hg => (irow_lt R_out g hg).1); have S := src_lo S hb0 HA.out BX; have G := gb_of_lo G BX; clear BX hgr hat))
        have FN : Fits 0 (Q ++ [(⟨2, xv⟩ : It)]) := fits_app F (fits_mono (fits_one FX (by simp)) (by omega))
        have L9 : ((Q ++ [(⟨2, xv⟩ : It)]).length : Int) ≤ (4 - (k - 1)) * 1 := by simp; omega
        generalize Q ++ [(⟨2, xv⟩ : It)] = Q9 at *
        clear R_out
        go_roundw
        case rel => exact ⟨k - 1, _, _, _, Q9, by omega, by omega, by go_num, rfl, hr, FN, L9, src_mono S (by omega), G⟩
        case measure => simp [intOf]; omega
    · obtain rfl : k = 0 := by omega
      go_wp2
      go_ret
      exact ⟨_, Q, rfl, R_out, F, by omega, src_mono S (by omega), G⟩

end Go.Proofs.Ytafhmajnkicifaa
