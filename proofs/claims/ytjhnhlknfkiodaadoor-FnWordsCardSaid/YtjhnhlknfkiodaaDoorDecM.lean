/- Plain facts on the characters of a text and its words: a blank is a character of its own; no other character holds one. -/
import Derived.Test.YtjhnhlknfkiodaaDoorWordsM
import Derived.Lib.OthersKept
namespace Go.Proofs.YtjhnhlknfkiodaaDoor
open Go.RowKit
set_option linter.unusedVariables false
set_option linter.unusedSimpArgs false

theorem get_in (s : ByteArray) (k : Nat) (h : k < s.size) : s.get! k = s[k]'h := by simp [ByteArray.get!, getElem!_pos, h]; rfl

/-- What the character at a place is: where it is a blank, the byte is one and it is one byte long; else no byte of it is one. -/
theorem decode_is (s : ByteArray) (k : Nat) (h : k < s.size) : 1 ≤ (Utf8.decode s k).2 ∧ k + (Utf8.decode s k).2 ≤ s.size ∧
    ((Utf8.decode s k).1 = 32 → s[k]'h = 32 ∧ (Utf8.decode s k).2 = 1) ∧ ((Utf8.decode s k).1 ≠ 32 → ∀ j (hj : j < s.size), k ≤ j → j < k + (Utf8.decode s k).2 → s[j]'hj ≠ 32) := by
  have g0 : s.get! (k + 0) = s[k]'h := get_in s k h
  have e32 : ∀ c : UInt8, c = 32 → c.toNat = 32 := fun c h => by rw [h]; rfl
  have t32 : ∀ c : UInt8, c.toNat = 32 → c = 32 := fun c h => UInt8.toNat_inj.1 (by rw [h]; rfl)
  have one : (s[k]'h).toNat ≠ 32 → ∀ j (hj : j < s.size), k ≤ j → j < k + 1 → s[j]'hj ≠ 32 := fun hn j hj h1 h2 => by
    obtain rfl : j = k := by omega
    intro e; exact hn (e32 _ e)
  have hi : ∀ i, i < s.size → (s.get! i).toNat / 64 = 2 → ∀ hj : i < s.size, s[i]'hj ≠ 32 := fun i h1 h2 hj e => by
    rw [get_in s i h1, e] at h2; exact absurd h2 (by decide)
  unfold Utf8.decode
  simp only [g0]
  by_cases c0 : (s[k]'h).toNat < 0x80
  · rw [if_pos c0]
    exact ⟨Nat.le_refl _, h, fun e => ⟨t32 _ e, rfl⟩, fun e => one e⟩
  · rw [if_neg c0]
    have big : (s[k]'h).toNat ≠ 32 := by omega
    have err : 1 ≤ ((Utf8.runeError, 1) : Nat × Nat).2 ∧ k + ((Utf8.runeError, 1) : Nat × Nat).2 ≤ s.size ∧ (((Utf8.runeError, 1) : Nat × Nat).1 = 32 → s[k]'h = 32 ∧ ((Utf8.runeError, 1) : Nat × Nat).2 = 1) ∧ (((Utf8.runeError, 1) : Nat × Nat).1 ≠ 32 → ∀ j (hj : j < s.size), k ≤ j → j < k + ((Utf8.runeError, 1) : Nat × Nat).2 → s[j]'hj ≠ 32) :=
      ⟨Nat.le_refl _, h, fun e => absurd e (by decide), fun _ => one big⟩
    have ok : ∀ (c n : Nat), 128 ≤ c → 1 ≤ n → (∀ i, 1 ≤ i → i < n → k + i < s.size ∧ (s.get! (k + i)).toNat / 64 = 2) → 1 ≤ ((c, n) : Nat × Nat).2 ∧ k + ((c, n) : Nat × Nat).2 ≤ s.size ∧ (((c, n) : Nat × Nat).1 = 32 → s[k]'h = 32 ∧ ((c, n) : Nat × Nat).2 = 1) ∧ (((c, n) : Nat × Nat).1 ≠ 32 → ∀ j (hj : j < s.size), k ≤ j → j < k + ((c, n) : Nat × Nat).2 → s[j]'hj ≠ 32) := by
      intro c n hc hn hall
      refine ⟨hn, ?_, fun e => absurd e (by simp; omega), fun _ j hj h1 h2 => ?_⟩
      · by_cases h1 : n = 1
        · subst h1; exact h
        · have := (hall (n - 1) (by omega) (by omega)).1; simp; omega
      · by_cases e : j = k
        · subst e; intro e2; exact big (e32 _ e2)
        · have := hall (j - k) (by omega) (by simp at h2; omega)
          rw [show k + (j - k) = j from by omega] at this
          exact hi j this.1 this.2 hj
    have ct : ∀ i, (decide (k + i < s.size) && (s.get! (k + i)).toNat / 64 == 2) = true → k + i < s.size ∧ (s.get! (k + i)).toNat / 64 = 2 := fun i h => by simpa using h
    split
    · rename_i hc
      simp only [Bool.and_eq_true] at hc
      have h1 := ct 1 (by simpa using hc.2)
      split
      · rename_i h2
        exact ok _ 2 (by omega) (by omega) (fun i a b => by
          obtain rfl : i = 1 := by omega
          exact h1)
      · exact err
    · split
      · rename_i hc
        simp only [Bool.and_eq_true] at hc
        have h1 := ct 1 (by simpa using hc.1.2)
        have h2 := ct 2 (by simpa using hc.2)
        split
        · rename_i h3
          simp only [Bool.and_eq_true, decide_eq_true_eq] at h3
          exact ok _ 3 (by omega) (by omega) (fun i a b => by
            rcases (by omega : i = 1 ∨ i = 2) with rfl | rfl
            · exact h1
            · exact h2)
        · exact err
      · split
        · rename_i hc
          simp only [Bool.and_eq_true] at hc
          have h1 := ct 1 (by simpa using hc.1.1.2)
          have h2 := ct 2 (by simpa using hc.1.2)
          have h3 := ct 3 (by simpa using hc.2)
          split
          · rename_i h4
            simp only [Bool.and_eq_true, decide_eq_true_eq] at h4
            exact ok _ 4 (by omega) (by omega) (fun i a b => by
              rcases (by omega : i = 1 ∨ i = 2 ∨ i = 3) with rfl | rfl | rfl
              · exact h1
              · exact h2
              · exact h3)
          · exact err
        · exact err

/-- Bytes that are no blanks, n of them. -/
theorem wordsAt_more {l : List UInt8} {W : List (List UInt8)} {f k : Nat} (h : WordsAt l W f k) : ∀ n, (∀ j (hj : j < l.length), k ≤ j → j < k + n → l[j] ≠ 32) → k + n ≤ l.length → WordsAt l W f (k + n) := by
  intro n
  induction n with
  | zero => intro _ _; exact h
  | succ n ih =>
    intro h1 h2
    have hk : k + n < l.length := by omega
    exact wordsAt_other (k := k + n) (ih (fun j hj a b => h1 j hj a (by omega)) (by omega)) hk (h1 (k + n) hk (by omega) (by omega))

end Go.Proofs.YtjhnhlknfkiodaaDoor
