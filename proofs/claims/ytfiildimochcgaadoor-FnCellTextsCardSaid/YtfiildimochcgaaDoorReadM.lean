/- Plain facts on reading a number's digits: no program in sight. -/
import Derived.Test.YtfiildimochcgaaDoorReadA
namespace Go.Proofs.YtfiildimochcgaaDoor
open Go.RowKit
set_option linter.unusedVariables false
set_option linter.unusedSimpArgs false

/-- The number that digits are, without a bound. -/
def sumL (base : Int) (l : List UInt8) : Int := l.foldl (fun n c => n * base + digV c.toNat) 0

theorem sumL_nil (base : Int) : sumL base [] = 0 := rfl

theorem sumL_snoc (base : Int) (l : List UInt8) (c : UInt8) : sumL base (l ++ [c]) = sumL base l * base + digV c.toNat := by
  unfold sumL; rw [List.foldl_append]; rfl

/-- Is the byte a digit of the base? -/
def inBase (base : Int) (c : UInt8) : Bool := decide (0 ≤ digV c.toNat ∧ digV c.toNat < base)

/-- Are these digits of the base, one to 32 of them? -/
def readOk (base : Int) (l : List UInt8) : Bool := decide (1 ≤ l.length ∧ l.length ≤ 32) && l.all (inBase base)

/-- The cell that a text is. -/
def rdV (base : Int) (l : List UInt8) : Int := if minL l = true then wrap32 (-(sumL base (stripL l))) else wrap32 (sumL base (stripL l))

/-- The code of a reading. -/
def rcC (base : Int) (l : List UInt8) : Int := if 65536 < l.length then 2 else if inB base 2 16 = false then 4 else if readOk base (stripL l) = true then 0 else 3

/-- What a reading hands back. -/
def rcV (base : Int) (l : List UInt8) : Int := if rcC base l = 0 then rdV base l else 0

theorem rc_long {base : Int} {l : List UInt8} (h : 65536 < l.length) : rcV base l = 0 ∧ rcC base l = 2 := by
  have : rcC base l = 2 := by unfold rcC; rw [if_pos h]
  exact ⟨by unfold rcV; rw [this]; rfl, this⟩

theorem rc_base {base : Int} {l : List UInt8} (h : ¬ 65536 < l.length) (hb : inB base 2 16 = false) : rcV base l = 0 ∧ rcC base l = 4 := by
  have : rcC base l = 4 := by unfold rcC; rw [if_neg h, if_pos hb]
  exact ⟨by unfold rcV; rw [this]; rfl, this⟩

theorem rc_form {base : Int} {l : List UInt8} (h : ¬ 65536 < l.length) (hb : inB base 2 16 = true) (hr : readOk base (stripL l) = false) : rcV base l = 0 ∧ rcC base l = 3 := by
  have : rcC base l = 3 := by unfold rcC; rw [if_neg h, if_neg (by rw [hb]; simp), if_neg (by rw [hr]; simp)]
  exact ⟨by unfold rcV; rw [this]; rfl, this⟩

theorem rc_ok {base : Int} {l : List UInt8} (h : ¬ 65536 < l.length) (hb : inB base 2 16 = true) (hr : readOk base (stripL l) = true) : rcV base l = rdV base l ∧ rcC base l = 0 := by
  have : rcC base l = 0 := by unfold rcC; rw [if_neg h, if_neg (by rw [hb]; simp), if_pos hr]
  exact ⟨by unfold rcV; rw [this]; rfl, this⟩

/-- The first k bytes are digits of the base. -/
def DigTo (base : Int) (l : List UInt8) (k : Nat) : Prop := ∀ x ∈ l.take k, inBase base x = true

theorem digTo_zero (base : Int) (l : List UInt8) : DigTo base l 0 := by intro x hx; simp at hx

theorem digTo_succ {base : Int} {s : ByteArray} {k : Nat} (h : k < s.size) (ho : DigTo base s.data.toList k) (h0 : 0 ≤ digV s[k].toNat) (h1 : digV s[k].toNat < base) : DigTo base s.data.toList (k + 1) := by
  intro x hx
  rw [take_snoc s k h] at hx
  rcases List.mem_append.1 hx with hx | hx
  · exact ho x hx
  · rw [List.mem_singleton.1 hx]; unfold inBase; exact decide_eq_true ⟨h0, h1⟩

theorem readOk_all {base : Int} {s : ByteArray} (h1 : 1 ≤ s.size) (h2 : s.size ≤ 32) (ho : DigTo base s.data.toList s.size) : readOk base s.data.toList = true := by
  have hl : s.data.toList.length = s.size := by simp
  unfold DigTo at ho
  rw [List.take_of_length_le (by omega)] at ho
  unfold readOk
  rw [Bool.and_eq_true]
  exact ⟨decide_eq_true (by omega), List.all_eq_true.2 ho⟩

theorem readOk_len {base : Int} {s : ByteArray} (h : ¬ (1 ≤ s.size ∧ s.size ≤ 32)) : readOk base s.data.toList = false := by
  have hl : s.data.toList.length = s.size := by simp
  unfold readOk
  rw [hl, decide_eq_false h]; rfl

theorem readOk_bad {base : Int} {s : ByteArray} {k : Nat} (h : k < s.size) (hb : ¬ (0 ≤ digV s[k].toNat ∧ digV s[k].toNat < base)) : readOk base s.data.toList = false := by
  have hl : s.data.toList.length = s.size := by simp
  have hm : s[k] ∈ s.data.toList := List.getElem_mem (l := s.data.toList) (n := k) (by omega)
  cases hc : readOk base s.data.toList
  · rfl
  · unfold readOk at hc
    rw [Bool.and_eq_true] at hc
    have := List.all_eq_true.1 hc.2 _ hm
    unfold inBase at this
    exact absurd (of_decide_eq_true this) hb

theorem sumTo_succ {base : Int} {s : ByteArray} {k : Nat} (h : k < s.size) : sumL base (s.data.toList.take (k + 1)) = sumL base (s.data.toList.take k) * base + digV s[k].toNat := by
  rw [take_snoc s k h, sumL_snoc]

theorem sumTo_all {base : Int} {s : ByteArray} : sumL base (s.data.toList.take s.size) = sumL base s.data.toList := by
  rw [List.take_of_length_le (by simp)]

theorem wrap32_congr {a b : Int} (h : (a - b) % 4294967296 = 0) : wrap32 a = wrap32 b := by unfold wrap32; omega

theorem w32_step (x b d : Int) : wrap32 (wrap64 (wrap64 (wrap32 x * b) + d)) = wrap32 (x * b + d) := by
  obtain ⟨q, hq⟩ : ∃ q, wrap32 x = x + 4294967296 * q := ⟨-((x + 2147483648) / 4294967296), by unfold wrap32; omega⟩
  rw [hq, Int.add_mul, Int.mul_assoc]
  generalize x * b = y
  generalize q * b = m
  unfold wrap32 wrap64
  omega

theorem u32_step (x b d : Int) : ((x % 4294967296 * (b % 4294967296)) % 4294967296 + d % 4294967296) % 4294967296 = (x * b + d) % 4294967296 := by
  rw [← Int.mul_emod, ← Int.add_emod]

theorem wrap32_mod (x : Int) : wrap32 (x % 4294967296) = wrap32 x := by unfold wrap32; omega

theorem wrap32_negmod (x : Int) : wrap32 (-(x % 4294967296) % 4294967296) = wrap32 (-x) := by unfold wrap32; omega

theorem wrap32_negw (x : Int) : wrap32 (-(wrap32 x)) = wrap32 (-x) := by unfold wrap32; omega

theorem wrap32_zero : wrap32 0 = 0 := by unfold wrap32; omega

theorem list_size (s : ByteArray) : s.data.toList.length = s.size := by simp

end Go.Proofs.YtfiildimochcgaaDoor
