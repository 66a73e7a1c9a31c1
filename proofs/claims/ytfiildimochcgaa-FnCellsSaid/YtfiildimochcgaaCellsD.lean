/- The contracts of TwoCells and Unsigned at cells, and the plain facts that the law on cells asks. -/
import Derived.Test.YtfiildimochcgaaCellsB
import Derived.Test.YtfiildimochcgaaCellsC
import Derived.Test.YtfiildimochcgaaSrcB
namespace Go.Proofs.Ytfiildimochcgaa
open Go.RowKit
set_option linter.unusedVariables false
set_option linter.unusedSimpArgs false

/-- A cell. -/
def IsCell (a : Int) : Prop := -2147483648 ≤ a ∧ a ≤ 2147483647

theorem two_cell (op a b : Int) (w : World) (h1 : 1 ≤ op) (h2 : op ≤ 10) (ha : IsCell a) (hb : IsCell b) :
    Calls Try.prog 11 #[.int .i64 op, .int .i64 a, .int .i64 b] w fun e w' => e = .returned (.tuple #[.int .i64 (twoW op a b), .bool (twoR op b), .int .i64 0]) ∧ ∃ n, w' = w.drewN n := by
  have h := two_ok (op := op) (by omega) (cellB_true.2 ha) (cellB_true.2 hb)
  refine (two_any op a b w).mono ?_
  rintro e w' ⟨rfl, n, rfl⟩
  exact ⟨ret_ibi h.2.2 h.2.1 h.1, n, rfl⟩

theorem sTwo_cell (op a b : Int) (w : World) (h1 : 1 ≤ op) (h2 : op ≤ 10) (ha : IsCell a) (hb : IsCell b) :
    Calls Try.prog 12 #[.int .i64 op, .int .i64 a, .int .i64 b] w fun e w' => e = .returned (.tuple #[.int .i64 (twoW op a b), .bool (twoR op b), .int .i64 0]) ∧ w = w' := by
  have h := two_ok (op := op) (by omega) (cellB_true.2 ha) (cellB_true.2 hb)
  refine (sTwo_any op a b w).mono ?_
  rintro e w' ⟨rfl, rfl⟩
  exact ⟨ret_ibi h.2.2 h.2.1 h.1, rfl⟩

theorem uns_cell (a : Int) (w : World) (ha : IsCell a) :
    Calls Try.prog 16 #[.int .i64 a] w fun e w' => e = .returned (.tuple #[.int .i64 (a % 4294967296), .int .i64 0]) ∧ w = w' := by
  refine (uns_any a w).mono ?_
  rintro e w' ⟨rfl, rfl⟩
  exact ⟨ret_ii (by unfold unsV; rw [if_pos (cellB_true.2 ha)]) (by unfold unsC; rw [if_pos (cellB_true.2 ha)]), rfl⟩

theorem sUns_cell (a : Int) (w : World) (ha : IsCell a) :
    Calls Try.prog 17 #[.int .i64 a] w fun e w' => e = .returned (.tuple #[.int .i64 (a % 4294967296), .int .i64 0]) ∧ w = w' := by
  refine (sUns_any a w).mono ?_
  rintro e w' ⟨rfl, rfl⟩
  exact ⟨ret_ii (by unfold unsV; rw [if_pos (cellB_true.2 ha)]) (by unfold unsC; rw [if_pos (cellB_true.2 ha)]), rfl⟩

theorem cell_yes (a : Int) (w : World) (ha : IsCell a) :
    Calls Try.prog 13 #[.int .i64 a] w fun e w' => e = .returned (.bool true) ∧ w = w' := by
  refine (cellOK_any a w).mono ?_
  rintro e w' ⟨rfl, rfl⟩
  exact ⟨ret_bool (cellB_true.2 ha), rfl⟩

theorem mul_bd {a b : Int} (ha : IsCell a) (hb : IsCell b) : -4611686018427387904 ≤ a * b ∧ a * b ≤ 4611686018427387904 := by
  unfold IsCell at ha hb
  have h : (a * b).natAbs = a.natAbs * b.natAbs := Int.natAbs_mul a b
  have h2 : a.natAbs * b.natAbs ≤ 2147483648 * 2147483648 := Nat.mul_le_mul (by omega) (by omega)
  omega

theorem two_isCell {op a b : Int} (ha : IsCell a) (hb : IsCell b) : IsCell (twoW op a b) := twoW_cell op a b ha hb

theorem two_add (a b : Int) : twoW 1 a b = wrap32 (a + b) := by simp [twoW]
theorem two_sub (a b : Int) : twoW 2 a b = wrap32 (a - b) := by simp [twoW]
theorem two_mul (a b : Int) : twoW 3 a b = wrap32 (a * b) := by simp [twoW]
theorem two_div {a b : Int} (h : b ≠ 0) : twoW 4 a b = wrap32 (flq a b) := by simp [twoW, h]
theorem two_mod {a b : Int} (h : b ≠ 0) : twoW 5 a b = flr a b := by simp [twoW, h]

theorem wrap_rem (x : Int) : (x - wrap32 x).tmod 4294967296 = 0 := by
  have : x - wrap32 x = 4294967296 * ((x + 2147483648) / 4294967296) := by unfold wrap32; omega
  rw [this, Int.mul_tmod_right]

theorem div_mod {a b : Int} (ha : IsCell a) (hb : IsCell b) (h : b ≠ 0) : wrap32 (twoW 4 a b * b + twoW 5 a b) = a := by
  rw [two_div h, two_mod h]
  have e : flq a b * b + flr a b = a := by have := flr_eq a b; omega
  obtain ⟨q, hq⟩ : ∃ q, wrap32 (flq a b) = flq a b + 4294967296 * q := ⟨-((flq a b + 2147483648) / 4294967296), by unfold wrap32; omega⟩
  rw [hq, Int.add_mul, Int.mul_assoc]
  generalize q * b = m at *
  generalize flq a b * b = y at *
  unfold IsCell at ha
  unfold wrap32
  omega

theorem mod_sign {a b : Int} (h : b ≠ 0) : (b < 0 → b < twoW 5 a b ∧ twoW 5 a b ≤ 0) ∧ (0 < b → 0 ≤ twoW 5 a b ∧ twoW 5 a b < b) := by
  rw [two_mod h]; exact flr_sign a b h

theorem uns_back {a : Int} (ha : IsCell a) : wrap32 (a % 4294967296) = a := by
  unfold IsCell at ha; unfold wrap32; omega

theorem notR (b : Int) : twoR 4 b = !(b == 0) := by
  unfold twoR
  by_cases h : b = 0 <;> simp [h]

/-- The three results that the law lays in a list, kept in block B; of what was there nothing has turned. -/
def Laid3 (w : World) (B : Nat) (x y z : Int) (wr : World) : Prop :=
  Below w.heap.size w wr ∧ wr.cell? ⟨B, 0, none⟩ = some (.int .i64 x) ∧ wr.cell? ⟨B, 1, none⟩ = some (.int .i64 y) ∧ wr.cell? ⟨B, 2, none⟩ = some (.int .i64 z)

theorem laid3_draws {w wr : World} {B : Nat} {x y z : Int} (h : Laid3 w B x y z wr) (n : Nat) : Laid3 w B x y z (wr.drewN n) :=
  ⟨⟨h.1.os, h.1.tape, h.1.output, h.1.size, h.1.block⟩, h.2.1, h.2.2.1, h.2.2.2⟩

theorem laid3_new {w w' : World} {x y z : Int} (h : Below w.heap.size w w') (t : TypeId) : Laid3 w w'.heap.size x y z (w'.alloc (.cells #[.int .i64 x, .int .i64 y, .int .i64 z] t)) :=
  ⟨h.alloc h.size _, by simp, by simp, by simp⟩

end Go.Proofs.Ytfiildimochcgaa
