/- Plain arithmetic on cells: the wraps, the floored division, and what an operation on two cells gives. No program in sight. -/
import Derived.RowKit
import Derived.WalkKit
namespace Go.Proofs.YthnbaeamekolmaaGreatDoor
open Go.RowKit
set_option linter.unusedVariables false
set_option linter.unusedSimpArgs false

theorem wrap64_wrap32 (a : Int) : wrap64 (wrap32 a) = wrap32 a := by unfold wrap64 wrap32; omega
theorem wrap32_wrap64 (a : Int) : wrap32 (wrap64 a) = wrap32 a := by unfold wrap64 wrap32; omega
theorem wrap32_u64 (a : Int) : wrap32 (IntKind.u64.wrap a % 4294967296) = wrap32 a := by
  have h : IntKind.u64.wrap a = a % 18446744073709551616 := rfl
  rw [h]; unfold wrap32; omega
theorem wrap32_cell (a : Int) : -2147483648 ≤ wrap32 a ∧ wrap32 a ≤ 2147483647 := by unfold wrap32; omega
theorem wrap32_in {a : Int} (h : -2147483648 ≤ a ∧ a ≤ 2147483647) : wrap32 a = a := by unfold wrap32; omega

/-- Is the number a cell? -/
def cellB (a : Int) : Bool := decide (-2147483648 ≤ a ∧ a ≤ 2147483647)
theorem cellB_true {a : Int} : cellB a = true ↔ -2147483648 ≤ a ∧ a ≤ 2147483647 := by unfold cellB; simp
theorem cellB_false {a : Int} : cellB a = false ↔ a < -2147483648 ∨ 2147483647 < a := by unfold cellB; simp; omega

/-- The quotient, rounded down, as the program reckons it. -/
def flq (a b : Int) : Int := if a.tmod b ≠ 0 ∧ (a < 0) ≠ (b < 0) then a.tdiv b - 1 else a.tdiv b
/-- The remainder that belongs to it. -/
def flr (a b : Int) : Int := if a.tmod b ≠ 0 ∧ (a < 0) ≠ (b < 0) then a.tmod b + b else a.tmod b

theorem tdm (a b : Int) : b * a.tdiv b + a.tmod b = a := Int.mul_tdiv_add_tmod a b

theorem tmod_bd (a b : Int) (hb : b ≠ 0) : (b < 0 → b < a.tmod b ∧ a.tmod b < -b) ∧ (0 < b → -b < a.tmod b ∧ a.tmod b < b) := by
  constructor
  · intro h
    have h1 := Int.tmod_lt_of_pos a (b := -b) (by omega)
    have h2 := Int.lt_tmod_of_pos a (b := -b) (by omega)
    rw [Int.tmod_neg] at h1 h2
    omega
  · intro h
    have h1 := Int.tmod_lt_of_pos a h
    have h2 := Int.lt_tmod_of_pos a h
    omega
theorem tmod_sign (a b : Int) : (0 ≤ a → 0 ≤ a.tmod b) ∧ (a ≤ 0 → a.tmod b ≤ 0) := by
  constructor
  · intro h; exact Int.tmod_nonneg b h
  · intro h
    have h1 := Int.tmod_nonneg (a := -a) b (by omega)
    rw [Int.neg_tmod] at h1
    omega

theorem flr_eq (a b : Int) : a - flq a b * b = flr a b := by
  have h := tdm a b
  unfold flq flr
  split
  · rw [Int.sub_mul, Int.mul_comm (a.tdiv b) b]; omega
  · rw [Int.mul_comm (a.tdiv b) b]; omega
theorem flr_sign (a b : Int) (hb : b ≠ 0) : (b < 0 → b < flr a b ∧ flr a b ≤ 0) ∧ (0 < b → 0 ≤ flr a b ∧ flr a b < b) := by
  have h1 := tmod_bd a b hb
  have h2 := tmod_sign a b
  unfold flr
  split
  · rename_i h
    obtain ⟨h3, h4⟩ := h
    by_cases ha : a < 0 <;> by_cases hb' : b < 0 <;> simp [ha, hb'] at h4 <;> constructor <;> intro _ <;> omega
  · rename_i h
    by_cases ha : a < 0 <;> by_cases hb' : b < 0 <;> simp [ha, hb'] at h <;> constructor <;> intro _ <;> omega

theorem tdiv_bd (a b : Int) (ha : -2147483648 ≤ a ∧ a ≤ 2147483647) : -2147483648 ≤ a.tdiv b ∧ a.tdiv b ≤ 2147483648 := by
  have h := Int.natAbs_tdiv_le_natAbs a b
  omega
theorem flq_bd (a b : Int) (ha : -2147483648 ≤ a ∧ a ≤ 2147483647) : -2147483649 ≤ flq a b ∧ flq a b ≤ 2147483648 := by
  have h := tdiv_bd a b ha
  unfold flq; split <;> omega
theorem flr_bd (a b : Int) (hb : b ≠ 0) (hb' : -2147483648 ≤ b ∧ b ≤ 2147483647) : -2147483648 ≤ flr a b ∧ flr a b ≤ 2147483647 := by
  have h := flr_sign a b hb
  omega

/-- What an operation on two cells gives. -/
def twoW (op a b : Int) : Int :=
  if op = 1 then wrap32 (a + b) else if op = 2 then wrap32 (a - b) else if op = 3 then wrap32 (a * b)
  else if op = 4 then (if b = 0 then 0 else wrap32 (flq a b)) else if op = 5 then (if b = 0 then 0 else flr a b)
  else if op = 6 then bits .and .i64 a b else if op = 7 then bits .or .i64 a b else if op = 8 then bits .xor .i64 a b
  else if b < 0 ∨ 31 < b then 0
  else if op = 9 then wrap32 (a % 4294967296 * 2 ^ b.toNat % 4294967296) else wrap32 (a % 4294967296 / 2 ^ b.toNat)
/-- Its code. -/
def twoC (op a b : Int) : Int := if op < 1 ∨ 10 < op then 9 else if cellB a = true ∧ cellB b = true then 0 else 4
/-- Is there a result? -/
def twoF (op a b : Int) : Bool := decide (twoC op a b = 0 ∧ ¬ ((op = 4 ∨ op = 5) ∧ b = 0))
/-- The number that is handed back. -/
def twoV (op a b : Int) : Int := if twoC op a b = 0 then twoW op a b else 0

theorem wrap_toInt (x : BitVec 64) : IntKind.i64.wrap (x.toNat : Int) = x.toInt := by
  have h := x.isLt
  unfold IntKind.wrap
  simp [IntKind.bits, IntKind.signed, BitVec.toInt]
  split <;> split <;> omega
theorem ext_cell (a : Int) (h : -2147483648 ≤ a ∧ a ≤ 2147483647) : BitVec.ofInt 64 a = (BitVec.ofInt 32 a).signExtend 64 := by
  apply BitVec.eq_of_toInt_eq
  rw [BitVec.toInt_signExtend_of_le (by decide)]
  rw [BitVec.toInt_ofInt, BitVec.toInt_ofInt]
  simp [Int.bmod]
  omega
theorem cell_ext (x : BitVec 32) : -2147483648 ≤ (x.signExtend 64).toInt ∧ (x.signExtend 64).toInt ≤ 2147483647 := by
  rw [BitVec.toInt_signExtend_of_le (by decide)]
  have h1 := x.toInt_lt
  have h2 := x.le_toInt
  omega
theorem and_cell (a b : Int) (ha : -2147483648 ≤ a ∧ a ≤ 2147483647) (hb : -2147483648 ≤ b ∧ b ≤ 2147483647) : -2147483648 ≤ bits .and .i64 a b ∧ bits .and .i64 a b ≤ 2147483647 := by
  have e : bits .and .i64 a b = ((BitVec.ofInt 64 a) &&& (BitVec.ofInt 64 b)).toInt := by rw [← wrap_toInt]; rfl
  rw [e, ext_cell a ha, ext_cell b hb, ← BitVec.signExtend_and]
  exact cell_ext _
theorem or_cell (a b : Int) (ha : -2147483648 ≤ a ∧ a ≤ 2147483647) (hb : -2147483648 ≤ b ∧ b ≤ 2147483647) : -2147483648 ≤ bits .or .i64 a b ∧ bits .or .i64 a b ≤ 2147483647 := by
  have e : bits .or .i64 a b = ((BitVec.ofInt 64 a) ||| (BitVec.ofInt 64 b)).toInt := by rw [← wrap_toInt]; rfl
  rw [e, ext_cell a ha, ext_cell b hb, ← BitVec.signExtend_or]
  exact cell_ext _
theorem xor_cell (a b : Int) (ha : -2147483648 ≤ a ∧ a ≤ 2147483647) (hb : -2147483648 ≤ b ∧ b ≤ 2147483647) : -2147483648 ≤ bits .xor .i64 a b ∧ bits .xor .i64 a b ≤ 2147483647 := by
  have e : bits .xor .i64 a b = ((BitVec.ofInt 64 a) ^^^ (BitVec.ofInt 64 b)).toInt := by rw [← wrap_toInt]; rfl
  rw [e, ext_cell a ha, ext_cell b hb, ← BitVec.signExtend_xor]
  exact cell_ext _

theorem twoW_cell (op a b : Int) (ha : -2147483648 ≤ a ∧ a ≤ 2147483647) (hb : -2147483648 ≤ b ∧ b ≤ 2147483647) : -2147483648 ≤ twoW op a b ∧ twoW op a b ≤ 2147483647 := by
  unfold twoW
  repeat' split
  all_goals first
    | exact wrap32_cell _
    | exact and_cell a b ha hb
    | exact or_cell a b ha hb
    | exact xor_cell a b ha hb
    | exact flr_bd a b (by assumption) hb
    | omega

end Go.Proofs.YthnbaeamekolmaaGreatDoor
