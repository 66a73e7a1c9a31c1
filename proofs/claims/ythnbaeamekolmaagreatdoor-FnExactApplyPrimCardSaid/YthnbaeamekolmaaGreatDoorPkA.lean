/- PkA: several of my texts, laid together: Math, CellsA, OwnA, RowA, RowB. -/
import Derived.RowKit
import Derived.WalkKit
import Derived.Test.YthnbaeamekolmaaGreatDoorProg
import Derived.WalkSpells
import Derived.WalkLawsBesides
import Derived.BigQuiet
import Derived.Deep.QuietTactic
import Derived.Lib.Hide
import Derived.Laws.AppendOwn
import Derived.Laws.OwnMore
import Derived.OwnWalk
import Derived.Deep.Draws
import Derived.Maps.AppendAt
import Derived.Laws.CopyOwn
namespace Go.Proofs.YthnbaeamekolmaaGreatDoor
open Go.RowKit
set_option linter.unusedVariables false
set_option linter.unusedSimpArgs false

theorem wrap64_wrap32 (a : Int) : wrap64 (wrap32 a) = wrap32 a := by unfold wrap64 wrap32; omega
theorem wrap32_wrap64 (a : Int) : wrap32 (wrap64 a) = wrap32 a := by unfold wrap64 wrap32; omega
theorem wrap32_u64 (a : Int) : wrap32 (IntKind.u64.wrap a % 4294967296) = wrap32 a := by
  have h : IntKind.u64.wrap a = a % 18446744073709551616 := rfl
  rw [h]; unfold wrap32; omega
theorem wrap32_cell (a : Int) : -2147483648 ≤ wrap32 a ∧ wrap32 a ≤ 2147483647 := by unfold wrap32; omega
theorem wrap32_in {a : Int} (h : -2147483648 ≤ a ∧ a ≤ 2147483647) : wrap32 a = a := by unfold wrap32; omega

/-- Is the number a cell? -/
def cellB (a : Int) : Bool := decide (-2147483648 ≤ a ∧ a ≤ 2147483647)
theorem cellB_true {a : Int} : cellB a = true ↔ -2147483648 ≤ a ∧ a ≤ 2147483647 := by unfold cellB; simp
theorem cellB_false {a : Int} : cellB a = false ↔ a < -2147483648 ∨ 2147483647 < a := by unfold cellB; simp; omega

/-- The quotient, rounded down, as the program reckons it. -/
def flq (a b : Int) : Int := if a.tmod b ≠ 0 ∧ (a < 0) ≠ (b < 0) then a.tdiv b - 1 else a.tdiv b
/-- The remainder that belongs to it. -/
def flr (a b : Int) : Int := if a.tmod b ≠ 0 ∧ (a < 0) ≠ (b < 0) then a.tmod b + b else a.tmod b

theorem tdm (a b : Int) : b * a.tdiv b + a.tmod b = a := Int.mul_tdiv_add_tmod a b

theorem tmod_bd (a b : Int) (hb : b ≠ 0) : (b < 0 → b < a.tmod b ∧ a.tmod b < -b) ∧ (0 < b → -b < a.tmod b ∧ a.tmod b < b) := by
  constructor
  · intro h
    have h1 := Int.tmod_lt_of_pos a (b := -b) (by omega)
    have h2 := Int.lt_tmod_of_pos a (b := -b) (by omega)
    rw [Int.tmod_neg] at h1 h2
    omega
  · intro h
    have h1 := Int.tmod_lt_of_pos a h
    have h2 := Int.lt_tmod_of_pos a h
    omega
theorem tmod_sign (a b : Int) : (0 ≤ a → 0 ≤ a.tmod b) ∧ (a ≤ 0 → a.tmod b ≤ 0) := by
  constructor
  · intro h; exact Int.tmod_nonneg b h
  · intro h
    have h1 := Int.tmod_nonneg (a := -a) b (by omega)
    rw [Int.neg_tmod] at h1
    omega

theorem flr_eq (a b : Int) : a - flq a b * b = flr a b := by
  have h := tdm a b
  unfold flq flr
  split
  · rw [Int.sub_mul, Int.mul_comm (a.tdiv b) b]; omega
  · rw [Int.mul_comm (a.tdiv b) b]; omega
theorem flr_sign (a b : Int) (hb : b ≠ 0) : (b < 0 → b < flr a b ∧ flr a b ≤ 0) ∧ (0 < b → 0 ≤ flr a b ∧ flr a b < b) := by
  have h1 := tmod_bd a b hb
  have h2 := tmod_sign a b
  unfold flr
  split
  · rename_i h
    obtain ⟨h3, h4⟩ := h
    by_cases ha : a < 0 <;> by_cases hb' : b < 0 <;> simp [ha, hb'] at h4 <;> constructor <;> intro _ <;> omega
  · rename_i h
    by_cases ha : a < 0 <;> by_cases hb' : b < 0 <;> simp [ha, hb'] at h <;> constructor <;> intro _ <;> omega

theorem tdiv_bd (a b : Int) (ha : -2147483648 ≤ a ∧ a ≤ 2147483647) : -2147483648 ≤ a.tdiv b ∧ a.tdiv b ≤ 2147483648 := by
  have h := Int.natAbs_tdiv_le_natAbs a b
  omega
theorem flq_bd (a b : Int) (ha : -2147483648 ≤ a ∧ a ≤ 2147483647) : -2147483649 ≤ flq a b ∧ flq a b ≤ 2147483648 := by
  have h := tdiv_bd a b ha
  unfold flq; split <;> omega
theorem flr_bd (a b : Int) (hb : b ≠ 0) (hb' : -2147483648 ≤ b ∧ b ≤ 2147483647) : -2147483648 ≤ flr a b ∧ flr a b ≤ 2147483647 := by
  have h := flr_sign a b hb
  omega

/-- What an operation on two cells gives. -/
def twoW (op a b : Int) : Int :=
  if op = 1 then wrap32 (a + b) else if op = 2 then wrap32 (a - b) else if op = 3 then wrap32 (a * b)
  else if op = 4 then (if b = 0 then 0 else wrap32 (flq a b)) else if op = 5 then (if b = 0 then 0 else flr a b)
  else if op = 6 then bits .and .i64 a b else if op = 7 then bits .or .i64 a b else if op = 8 then bits .xor .i64 a b
  else if b < 0 ∨ 31 < b then 0
  else if op = 9 then wrap32 (a % 4294967296 * 2 ^ b.toNat % 4294967296) else wrap32 (a % 4294967296 / 2 ^ b.toNat)
/-- Its code. -/
def twoC (op a b : Int) : Int := if op < 1 ∨ 10 < op then 9 else if cellB a = true ∧ cellB b = true then 0 else 4
/-- Is there a result? -/
def twoF (op a b : Int) : Bool := decide (twoC op a b = 0 ∧ ¬ ((op = 4 ∨ op = 5) ∧ b = 0))
/-- The number that is handed back. -/
def twoV (op a b : Int) : Int := if twoC op a b = 0 then twoW op a b else 0

theorem wrap_toInt (x : BitVec 64) : IntKind.i64.wrap (x.toNat : Int) = x.toInt := by
  have h := x.isLt
  unfold IntKind.wrap
  simp [IntKind.bits, IntKind.signed, BitVec.toInt]
  split <;> split <;> omega
theorem ext_cell (a : Int) (h : -2147483648 ≤ a ∧ a ≤ 2147483647) : BitVec.ofInt 64 a = (BitVec.ofInt 32 a).signExtend 64 := by
  apply BitVec.eq_of_toInt_eq
  rw [BitVec.toInt_signExtend_of_le (by decide)]
  rw [BitVec.toInt_ofInt, BitVec.toInt_ofInt]
  simp [Int.bmod]
  omega
theorem cell_ext (x : BitVec 32) : -2147483648 ≤ (x.signExtend 64).toInt ∧ (x.signExtend 64).toInt ≤ 2147483647 := by
  rw [BitVec.toInt_signExtend_of_le (by decide)]
  have h1 := x.toInt_lt
  have h2 := x.le_toInt
  omega
theorem and_cell (a b : Int) (ha : -2147483648 ≤ a ∧ a ≤ 2147483647) (hb : -2147483648 ≤ b ∧ b ≤ 2147483647) : -2147483648 ≤ bits .and .i64 a b ∧ bits .and .i64 a b ≤ 2147483647 := by
  have e : bits .and .i64 a b = ((BitVec.ofInt 64 a) &&& (BitVec.ofInt 64 b)).toInt := by rw [← wrap_toInt]; rfl
  rw [e, ext_cell a ha, ext_cell b hb, ← BitVec.signExtend_and]
  exact cell_ext _
theorem or_cell (a b : Int) (ha : -2147483648 ≤ a ∧ a ≤ 2147483647) (hb : -2147483648 ≤ b ∧ b ≤ 2147483647) : -2147483648 ≤ bits .or .i64 a b ∧ bits .or .i64 a b ≤ 2147483647 := by
  have e : bits .or .i64 a b = ((BitVec.ofInt 64 a) ||| (BitVec.ofInt 64 b)).toInt := by rw [← wrap_toInt]; rfl
  rw [e, ext_cell a ha, ext_cell b hb, ← BitVec.signExtend_or]
  exact cell_ext _
theorem xor_cell (a b : Int) (ha : -2147483648 ≤ a ∧ a ≤ 2147483647) (hb : -2147483648 ≤ b ∧ b ≤ 2147483647) : -2147483648 ≤ bits .xor .i64 a b ∧ bits .xor .i64 a b ≤ 2147483647 := by
  have e : bits .xor .i64 a b = ((BitVec.ofInt 64 a) ^^^ (BitVec.ofInt 64 b)).toInt := by rw [← wrap_toInt]; rfl
  rw [e, ext_cell a ha, ext_cell b hb, ← BitVec.signExtend_xor]
  exact cell_ext _

theorem twoW_cell (op a b : Int) (ha : -2147483648 ≤ a ∧ a ≤ 2147483647) (hb : -2147483648 ≤ b ∧ b ≤ 2147483647) : -2147483648 ≤ twoW op a b ∧ twoW op a b ≤ 2147483647 := by
  unfold twoW
  repeat' split
  all_goals first
    | exact wrap32_cell _
    | exact and_cell a b ha hb
    | exact or_cell a b ha hb
    | exact xor_cell a b ha hb
    | exact flr_bd a b (by assumption) hb
    | omega

end Go.Proofs.YthnbaeamekolmaaGreatDoor

namespace Go.Proofs.YthnbaeamekolmaaGreatDoor
open Go.RowKit
set_option linter.unusedVariables false
set_option linter.unusedSimpArgs false

theorem ret_int {k : IntKind} {a b : Int} (h : a = b) : Ending.returned (.int k a) = .returned (.int k b) := by rw [h]
theorem ret_bool {a b : Bool} (h : a = b) : Ending.returned (.bool a) = .returned (.bool b) := by rw [h]
theorem ret_ii {a b c d : Int} (h : a = b) (h' : c = d) : Ending.returned (.tuple #[.int .i64 a, .int .i64 c]) = .returned (.tuple #[.int .i64 b, .int .i64 d]) := by rw [h, h']
theorem ret_ib {a b : Int} {c d : Bool} (h : a = b) (h' : c = d) : Ending.returned (.tuple #[.int .i64 a, .bool c]) = .returned (.tuple #[.int .i64 b, .bool d]) := by rw [h, h']
theorem ret_ibi {a b : Int} {c d : Bool} {x y : Int} (h : a = b) (h' : c = d) (h'' : x = y) : Ending.returned (.tuple #[.int .i64 a, .bool c, .int .i64 x]) = .returned (.tuple #[.int .i64 b, .bool d, .int .i64 y]) := by rw [h, h', h'']

set_option maxHeartbeats 400000 in
theorem lowInt_any (a : Int) (w : World) :
    Calls Tryz.prog 224 #[.int .i64 a] w fun e w' => e = .returned (.int .i64 (wrap32 a)) ∧ w = w' := by
  go_enter Tryz.func224, Tryz.ntmps224
  go_wp2
  go_ret
  exact ⟨ret_int (wrap64_wrap32 a), rfl⟩

set_option maxHeartbeats 400000 in
theorem lowU_any (a : Int) (w : World) :
    Calls Tryz.prog 263 #[.int .u32 a] w fun e w' => e = .returned (.int .i64 (wrap32 a)) ∧ w = w' := by
  go_enter Tryz.func263, Tryz.ntmps263
  go_wp2
  go_ret
  exact ⟨ret_int (wrap64_wrap32 a), rfl⟩

set_option maxHeartbeats 400000 in
theorem sWrap_any (a : Int) (w : World) :
    Calls Tryz.prog 141 #[.int .i64 a] w fun e w' => e = .returned (.int .i64 (wrap32 a)) ∧ w = w' := by
  go_enter Tryz.func141, Tryz.ntmps141
  go_wp2
  go_ret
  exact ⟨ret_int (by show wrap64 (wrap32 (IntKind.u64.wrap a % 4294967296)) = _; rw [wrap64_wrap32, wrap32_u64]), rfl⟩

set_option maxHeartbeats 400000 in
theorem cellOK_any (a : Int) (w : World) :
    Calls Tryz.prog 140 #[.int .i64 a] w fun e w' => e = .returned (.bool (cellB a)) ∧ w = w' := by
  by_cases h : -2147483648 ≤ a
  · by_cases h' : a ≤ 2147483647
    · go_enter Tryz.func140, Tryz.ntmps140
      go_wp2
      go_ret
      exact ⟨ret_bool (by unfold cellB; simp [h, h']), rfl⟩
    · go_enter Tryz.func140, Tryz.ntmps140
      go_wp2
      go_ret
      exact ⟨ret_bool (by unfold cellB; simp [h, h']), rfl⟩
  · go_enter Tryz.func140, Tryz.ntmps140
    go_wp2
    go_ret
    exact ⟨ret_bool (by unfold cellB; simp; omega), rfl⟩

/-- Is the number from low to high? -/
def inB (n low high : Int) : Bool := decide (low ≤ n ∧ n ≤ high)

set_option maxHeartbeats 400000 in
theorem sIn_any (n low high : Int) (w : World) :
    Calls Tryz.prog 64 #[.int .i64 n, .int .i64 low, .int .i64 high] w fun e w' => e = .returned (.bool (inB n low high)) ∧ w = w' := by
  by_cases h : low ≤ n
  · by_cases h' : n ≤ high
    · go_enter Tryz.func64, Tryz.ntmps64
      go_wp2
      go_ret
      exact ⟨ret_bool (by unfold inB; simp [h, h']), rfl⟩
    · go_enter Tryz.func64, Tryz.ntmps64
      go_wp2
      go_ret
      exact ⟨ret_bool (by unfold inB; simp [h, h']), rfl⟩
  · go_enter Tryz.func64, Tryz.ntmps64
    go_wp2
    go_ret
    exact ⟨ret_bool (by unfold inB; simp; omega), rfl⟩

set_option maxHeartbeats 400000 in
theorem sCell_any (a : Int) (w : World) :
    Calls Tryz.prog 193 #[.int .i64 a] w fun e w' => e = .returned (.bool (cellB a)) ∧ w = w' := by
  go_enter Tryz.func193, Tryz.ntmps193
  go_wp2_with fail
  refine (sIn_any _ _ _ _).mono ?_
  rintro e w' ⟨rfl, rfl⟩
  go_wp2
  go_ret
  exact ⟨ret_bool rfl, rfl⟩

end Go.Proofs.YthnbaeamekolmaaGreatDoor

namespace Go.Proofs.YthnbaeamekolmaaGreatDoor
open Go.RowKit
set_option linter.unusedVariables false
set_option linter.unusedSimpArgs false

theorem own_info5 : (Tryz.prog.info? 5).map (fun i => (i.zero, i.size, i.bytes)) = some (some (.int .u8 0), 1, 1) := by kernel_rfl

theorem own_info9 : (Tryz.prog.info? 9).map (fun i => (i.zero, i.size, i.bytes)) = some (some (.string ⟨#[]⟩), 1, 16) := by kernel_rfl

/-- A slice of the call's own, not nil. -/
def Owns (w : World) (base : Nat) (e : TypeId) (v : Value) (n : Nat) (xs : List Value) : Prop := w.ownsRow base e 1 v n xs ∧ v ≠ .slice none 0 0

theorem owns_form {w : World} {base : Nat} {e : TypeId} {v : Value} {n : Nat} {xs : List Value} (h : Owns w base e v n xs) : ∃ g cap, v = .slice (some ⟨g, 0, none⟩) n cap ∧ base ≤ g ∧ g < w.heap.size ∧ n ≤ cap ∧ cap ≤ maxLen := by
  obtain ⟨⟨_, h | ⟨g, cap, cur, hv, hb, hg, h1, h2, _⟩⟩, hn⟩ := h
  · exact absurd h.1 hn
  · refine ⟨g, cap, hv, hb, ?_, h1, h2⟩
    rcases Nat.lt_or_ge g w.heap.size with hlt | hge
    · exact hlt
    · rw [Array.getElem?_eq_none hge] at hg; cases hg

theorem owns_new {w0 w : World} {e : TypeId} (h : w0.heap.size ≤ w.heap.size) : Owns (w.alloc (.cells #[] e)) w0.heap.size e (.slice (some ⟨w.heap.size, 0, none⟩) 0 0) 0 [] :=
  ⟨World.ownsRow_made w #[] 0 h (by unfold maxLen; omega) rfl, by simp⟩

theorem owns_next {w : World} {base : Nat} {e : TypeId} {v v' : Value} {n m : Nat} {xs : List Value} (hv : v ≠ .slice none 0 0) (h : w.ownsRow base e 1 v' n xs) (hn : v' = .slice none 0 0 ↔ v = .slice none 0 0 ∧ m = 0) : Owns w base e v' n xs :=
  ⟨h, fun e => hv (hn.1 e).1⟩

theorem owns_below {w0 wr wx : World} {o : Obj} {v : Value} {k : Nat} {xs : List Value} {e : TypeId} (hb : Below w0.heap.size w0 wr) (ho : wr.ownsRow w0.heap.size e 1 v k xs) (hg : (wr.alloc o).grownBy wx v.ownBlock) : Below w0.heap.size w0 wx :=
  (hb.alloc hb.size o).grown hg (by have := hb.size; simp; omega) (fun r hr => (ho.lt r hr).1)

/-- What is owned from a place on stays owned where nothing from that place on but newer blocks turns. -/
theorem owns_kept {w w' : World} {base : Nat} {e : TypeId} {v : Value} {n : Nat} {xs : List Value} (h : Owns w base e v n xs) (hb : Below w.heap.size w w') : Owns w' base e v n xs :=
  ⟨h.1.kept (row := none) ⟨hb.os, hb.tape, hb.output, hb.size, fun k hk _ => hb.block k hk⟩ (by
    cases hv : v.ownBlock
    · exact .inl rfl
    · exact .inr (by simp)), h.2⟩

/-- What is owned, perhaps nil, stays owned where nothing but newer blocks turns. -/
theorem own_over_below {w w' : World} {base : Nat} {e : TypeId} {v : Value} {n : Nat} {xs : List Value} (h : w.ownsRow base e 1 v n xs) (hb : Below w.heap.size w w') : w'.ownsRow base e 1 v n xs :=
  h.kept (row := none) ⟨hb.os, hb.tape, hb.output, hb.size, fun k hk _ => hb.block k hk⟩ (by
    cases hv : v.ownBlock
    · exact .inl rfl
    · exact .inr (by simp))

theorem below_draws {B : Nat} {w w' : World} (h : Below B w w') (n : Nat) : Below B w (w'.drewN n) := ⟨h.os, h.tape, h.output, h.size, h.block⟩

theorem own_base {w : World} {base base' : Nat} {e : TypeId} {v : Value} {n : Nat} {xs : List Value} (h : w.ownsRow base e 1 v n xs) (hb : base' ≤ base) : w.ownsRow base' e 1 v n xs := by
  obtain ⟨h1, h2⟩ := h
  refine ⟨h1, ?_⟩
  rcases h2 with h2 | ⟨g, cap, cur, a1, a2, a3⟩
  · exact .inl h2
  · exact .inr ⟨g, cap, cur, a1, by omega, a3⟩

theorem strs_form {w : World} {base : Nat} {e : TypeId} {v : Value} {n : Nat} {xs : List Value} (h : w.ownsRow base e 1 v n xs) : ∃ A cap, v = .slice A n cap ∧ (0 < n → ∃ g, A = some ⟨g, 0, none⟩ ∧ base ≤ g) := by
  rcases h.2 with ⟨hv, h0⟩ | ⟨g, cap, cur, hv, hb, _⟩
  · exact ⟨none, 0, by rw [hv, h0], fun hp => by omega⟩
  · exact ⟨_, _, hv, fun _ => ⟨g, rfl, hb⟩⟩

/-- An owned row of bytes as a text. -/
theorem owns_text {w : World} {base g cap n : Nat} {q : List UInt8} (h : w.ownsRow base 5 1 (.slice (some ⟨g, 0, none⟩) n cap) n (q.map fun c => .int .u8 (c.toNat : Int))) (hq : q.length = n) :
    (convert 55 9 (.slice (some ⟨g, 0, none⟩) n cap)).run Tryz.prog w = .ok (.string ⟨q.toArray⟩) w := by
  have h2 := run_convert_bytes_back (P := Tryz.prog) w 55 9 5 ⟨g, 0, none⟩ cap q Tryz.underlying55 Tryz.underlying5 Tryz.underlying9 (fun j hj => by
    have h3 := h.cellAt j (by omega)
    rw [Addr.add_lit, Nat.zero_add, h3]
    simp [hj])
  rw [hq] at h2
  exact h2

end Go.Proofs.YthnbaeamekolmaaGreatDoor

namespace Go.Proofs.YthnbaeamekolmaaGreatDoor
open Go.RowKit
set_option linter.unusedVariables false
set_option linter.unusedSimpArgs false

theorem own_info3 : (Tryz.prog.info? 3).map (fun i => (i.zero, i.size, i.bytes)) = some (some (.int .i64 0), 1, 8) := by kernel_rfl

theorem own_size3 : (Tryz.prog.info? 3).map (·.size) = some 1 := by kernel_rfl

/-- Block g is just these cells. -/
def Whole (w : World) (g : Nat) (t : TypeId) (cs : Array Value) : Prop := w.heap[g]? = some (.cells cs t (0, 0))

theorem whole_lt {w : World} {g : Nat} {t : TypeId} {cs : Array Value} (h : Whole w g t cs) : g < w.heap.size := by
  rcases Nat.lt_or_ge g w.heap.size with hl | hge
  · exact hl
  · unfold Whole at h; rw [Array.getElem?_eq_none hge] at h; cases h

theorem whole_cell {w : World} {g : Nat} {t : TypeId} {cs : Array Value} (h : Whole w g t cs) (i : Nat) : w.cell? ⟨g, i, none⟩ = cs[i]? := cell_of_row w g i cs t (0, 0) h

theorem whole_free {w : World} {g : Nat} {t : TypeId} {cs : Array Value} (h : Whole w g t cs) (i : Nat) : w.frozen? ⟨g, i, none⟩ = false := by
  unfold Whole at h; simp [World.frozen?, h]

theorem whole_new (w : World) (t : TypeId) (cs : Array Value) : Whole (w.alloc (.cells cs t)) w.heap.size t cs := heap_alloc_new w _

theorem whole_keep {w w' : World} {g : Nat} {t : TypeId} {cs : Array Value} (h : Whole w g t cs) (hk : w'.heap[g]? = w.heap[g]?) : Whole w' g t cs := hk.trans h

theorem whole_below {w w' : World} {g : Nat} {t : TypeId} {cs : Array Value} (h : Whole w g t cs) (hb : Below w.heap.size w w') : Whole w' g t cs := whole_keep h (hb.block g (whole_lt h))

theorem whole_alloc {w : World} {g : Nat} {t : TypeId} {cs : Array Value} (h : Whole w g t cs) (o : Obj) : Whole (w.alloc o) g t cs := whole_keep h (Below.heap_alloc w o g (whole_lt h))

theorem whole_far {w : World} {g : Nat} {t : TypeId} {cs : Array Value} (h : Whole w g t cs) {p : Addr} (hp : g ≠ p.block) (u : Value) : Whole (w.setCell p u) g t cs := whole_keep h (Below.heap_setCell w p u g hp)

theorem whole_set {w : World} {g : Nat} {t : TypeId} {cs : Array Value} (h : Whole w g t cs) (i : Nat) (u : Value) : Whole (w.setCell ⟨g, i, none⟩ u) g t (cs.setIfInBounds i u) := by
  unfold Whole at *
  simp [World.setCell, Array.getElem?_modify, h]

/-- A slice, nil or not, that reads as these numbers. -/
def Ints (w : World) (v : Value) (zs : List Int) : Prop :=
  zs.length ≤ maxLen ∧ ∃ A cap, v = .slice A zs.length cap ∧ (0 < zs.length → ∃ ad, A = some ad ∧ ∀ k (h : k < zs.length), w.cell? (ad.add k) = some (.int .i64 zs[k]))

/-- A slice of the call's own, perhaps nil, of these numbers. -/
def Row (w : World) (base : Nat) (v : Value) (zs : List Int) : Prop := w.ownsRow base 3 1 v zs.length (zs.map (Value.int .i64))

theorem ints_keep {w w' : World} {v : Value} {zs : List Int} (h : Ints w v zs) (hk : ∀ (x : Addr) (u : Value), w.cell? x = some u → w'.cell? x = some u) : Ints w' v zs := by
  obtain ⟨h1, A, cap, hv, hc⟩ := h
  refine ⟨h1, A, cap, hv, fun hp => ?_⟩
  obtain ⟨ad, ha, hc⟩ := hc hp
  exact ⟨ad, ha, fun k hk' => hk _ _ (hc k hk')⟩

theorem ints_below {w w' : World} {v : Value} {zs : List Int} (h : Ints w v zs) (hb : Below w.heap.size w w') : Ints w' v zs :=
  ints_keep h fun x u hx => by rw [hb.cell (World.block_lt_of_cell? w x hx)]; exact hx

theorem ints_nil (w : World) : Ints w (.slice none 0 0) [] := ⟨Nat.zero_le _, none, 0, rfl, fun h => absurd h (by simp)⟩

theorem row_nil (w : World) (base : Nat) : Row w base (.slice none 0 0) [] := World.ownsRow_nil w base _ 1

theorem row_ints {w : World} {base : Nat} {v : Value} {zs : List Int} (h : Row w base v zs) : Ints w v zs := by
  rcases h.2 with ⟨hv, h0⟩ | ⟨g, cap, cur, hv, hb, hg, h1, h2, h3, h4⟩
  · exact ⟨by rw [h0]; exact Nat.zero_le _, none, 0, by rw [hv, h0], fun hp => absurd hp (by omega)⟩
  · refine ⟨Nat.le_trans h1 h2, some ⟨g, 0, none⟩, cap, hv, fun _ => ⟨_, rfl, fun k hk => ?_⟩⟩
    subst hv
    have hc := h.cellAt k (by omega)
    rw [show (⟨g, 0, none⟩ : Addr).add k = ⟨g, k, none⟩ by rw [Addr.add_lit, Nat.zero_add], hc]
    simp [hk]

theorem row_form {w : World} {base : Nat} {v : Value} {zs : List Int} (h : Row w base v zs) (hp : 0 < zs.length) : ∃ g cap, v = .slice (some ⟨g, 0, none⟩) zs.length cap ∧ base ≤ g ∧ g < w.heap.size ∧ zs.length ≤ cap ∧ cap ≤ maxLen := by
  rcases h.2 with ⟨_, h0⟩ | ⟨g, cap, cur, hv, hb, hg, h1, h2, _⟩
  · omega
  · exact ⟨g, cap, hv, hb, (Array.getElem?_eq_some_iff.1 hg).1, h1, h2⟩

theorem row_len {w : World} {base : Nat} {v : Value} {zs : List Int} (h : Row w base v zs) : zs.length ≤ maxLen := (row_ints h).1

theorem row_lt {w : World} {base : Nat} {v : Value} {zs : List Int} (h : Row w base v zs) : ∀ g, v.ownBlock = some g → base ≤ g ∧ g < w.heap.size := h.lt

theorem row_keep {w w' : World} {base : Nat} {v : Value} {zs : List Int} (h : Row w base v zs) (hk : ∀ g, v.ownBlock = some g → w'.heap[g]? = w.heap[g]?) : Row w' base v zs := by
  obtain ⟨h1, h2⟩ := h
  refine ⟨h1, ?_⟩
  rcases h2 with h2 | ⟨g, cap, cur, hv, hb, hg, r⟩
  · exact .inl h2
  · exact .inr ⟨g, cap, cur, hv, hb, by rw [hk g (by rw [hv]; rfl)]; exact hg, r⟩

theorem row_below {w w' : World} {base : Nat} {v : Value} {zs : List Int} (h : Row w base v zs) (hb : Below w.heap.size w w') : Row w' base v zs := row_keep h fun g hg => hb.block g (row_lt h g hg).2

theorem row_alloc {w : World} {base : Nat} {v : Value} {zs : List Int} (h : Row w base v zs) (o : Obj) : Row (w.alloc o) base v zs := row_keep h fun g hg => Below.heap_alloc w o g (row_lt h g hg).2

theorem row_base {w : World} {base base' : Nat} {v : Value} {zs : List Int} (h : Row w base v zs) (hb : base' ≤ base) : Row w base' v zs := own_base h hb

theorem row_whole {w : World} {base g : Nat} {zs : List Int} (h : Whole w g 3 (zs.map (Value.int .i64)).toArray) (hb : base ≤ g) (hl : zs.length ≤ maxLen) : Row w base (.slice (some ⟨g, 0, none⟩) zs.length zs.length) zs :=
  ⟨by simp, .inr ⟨g, zs.length, _, rfl, hb, h, Nat.le_refl _, hl, by simp, by rw [Nat.mul_one, List.toList_toArray, List.take_of_length_le (by simp)]⟩⟩

theorem row_full {w : World} {base g : Nat} {zs : List Int} (h : Row w base (.slice (some ⟨g, 0, none⟩) zs.length zs.length) zs) : Whole w g 3 (zs.map (Value.int .i64)).toArray := by
  rcases h.2 with ⟨hv, _⟩ | ⟨g', cap, cur, hv, hb, hg, h1, h2, h3, h4⟩
  · cases hv
  · simp only [Value.slice.injEq, Option.some.injEq, Addr.mk.injEq, true_and, and_true] at hv
    obtain ⟨rfl, rfl⟩ := hv
    unfold Whole
    rw [hg, ← h4, List.take_of_length_le (by simp [h3]), Array.toArray_toList]

/-- The row of a slice that is written at one place. -/
theorem row_set {w : World} {base g cap : Nat} {zs : List Int} (h : Row w base (.slice (some ⟨g, 0, none⟩) zs.length cap) zs) (k : Nat) (n : Int) :
    Row (w.setCell ⟨g, k, none⟩ (.int .i64 n)) base (.slice (some ⟨g, 0, none⟩) zs.length cap) (zs.set k n) ∧ w.grownBy (w.setCell ⟨g, k, none⟩ (.int .i64 n)) (some g) := by
  have h2 := World.ownsRow.stored h k (.int .i64 n)
  refine ⟨?_, h2.2⟩
  have := h2.1
  rw [← List.map_set] at this
  unfold Row
  rw [List.length_set]
  exact this

theorem row_cell {w : World} {base g cap : Nat} {zs : List Int} (h : Row w base (.slice (some ⟨g, 0, none⟩) zs.length cap) zs) (k : Nat) (hk : k < zs.length) : w.cell? ⟨g, k, none⟩ = some (.int .i64 zs[k]) := by
  rw [World.ownsRow.cellAt h k (by omega)]; simp [hk]

theorem row_free {w : World} {base g cap n : Nat} {zs : List Int} (h : Row w base (.slice (some ⟨g, 0, none⟩) n cap) zs) (k : Nat) : w.frozen? ⟨g, k, none⟩ = false := by
  have h' := h
  rcases h'.2 with ⟨hv, _⟩ | ⟨g', cap, cur, hv, hb, hg, _⟩
  · cases hv
  · simp only [Value.slice.injEq, Option.some.injEq, Addr.mk.injEq, true_and, and_true] at hv
    obtain ⟨rfl, _⟩ := hv
    simp [World.frozen?, hg]

/-- Numbers as bools of two slices: draws alone. -/
def BoolOf (w : World) (b : Bool) (e : Ending) (w' : World) : Prop := ∃ n : Nat, e = .returned (.bool b) ∧ w' = w.drewN n

/-- The first k numbers are alike. -/
def SameTo (P Q : List Int) (k : Nat) : Prop := P.take k = Q.take k

theorem sameTo_zero (P Q : List Int) : SameTo P Q 0 := by unfold SameTo; simp

theorem sameTo_next {P Q : List Int} {k : Nat} (h : SameTo P Q k) (hp : k < P.length) (hq : k < Q.length) (e : P[k] = Q[k]) : SameTo P Q (k + 1) := by
  unfold SameTo at *
  rw [List.take_succ_eq_append_getElem hp, List.take_succ_eq_append_getElem hq, h, e]

theorem sameTo_end {P Q : List Int} (hl : P.length = Q.length) (h : SameTo P Q P.length) : (P == Q) = true := by
  unfold SameTo at h
  rw [List.take_length, hl, List.take_length] at h
  simpa using h

theorem same_len {P Q : List Int} (hl : P.length ≠ Q.length) : (P == Q) = false := by
  rw [beq_eq_false_iff_ne]; intro e; rw [e] at hl; exact hl rfl

theorem same_not {P Q : List Int} {k : Nat} (hp : k < P.length) (hq : k < Q.length) (e : P[k] ≠ Q[k]) : (P == Q) = false := by
  rw [beq_eq_false_iff_ne]; intro h; subst h; exact e rfl

/-- Append of a row of numbers that reads, nil or not, onto a row of the call's own. -/
theorem run_append_ints (w : World) (base : Nat) (v : Value) (ys : List Int) (hown : Row w base v ys) (x : Value) (zs : List Int) (hz : Ints w x zs) (hl : ys.length + zs.length ≤ 1099511627776) (hbase : base ≤ w.heap.size) :
    ∃ v' w', (Builtin.append_ #[23, 23] 23 #[v, x]).run Tryz.prog w = .ok v' w' ∧ Row w' base v' (ys ++ zs) ∧ w.grownBy w' v.ownBlock ∧ (v'.ownBlock = v.ownBlock ∨ v'.ownBlock = some w.heap.size) := by
  obtain ⟨i0, hi0, hz0, hz1, hz2⟩ := info_parts own_info3
  obtain ⟨zm, A, cap, rfl, hc⟩ := hz
  have fin : ∀ ad, A = some ad → ∃ v' w', (Builtin.append_ #[23, 23] 23 #[v, .slice A zs.length cap]).run Tryz.prog w = .ok v' w' ∧ Row w' base v' (ys ++ zs) ∧ w.grownBy w' v.ownBlock ∧ (v'.ownBlock = v.ownBlock ∨ v'.ownBlock = some w.heap.size) := by
    rintro ad rfl
    obtain ⟨v', w', hr, h2, h3, _, h5⟩ := run_append_own_at (P := Tryz.prog) w base 23 23 3 i0 _ 1 8 Tryz.underlying23 hi0 hz0 hz1 hz2 rfl (by omega) v ys.length _ hown ad zs.length cap (zs.map (Value.int .i64)) (by simp)
      (fun j u hu => by
        rcases Nat.lt_or_ge j zs.length with hj | hj
        · obtain ⟨ad', ha, hc⟩ := hc (by omega)
          obtain rfl := Option.some.inj ha
          rw [hc j hj]
          simpa [hj] using hu
        · simp [hj] at hu) (ints_oneCell _ _) (by unfold maxLen; omega) (by omega) hbase
    exact ⟨v', w', hr, by unfold Row; rw [List.map_append, List.length_append]; exact h2, h3, h5⟩
  rcases A with _ | ad
  · have h0 : zs = [] := by
      rcases Nat.eq_zero_or_pos zs.length with h0 | h0
      · exact List.eq_nil_of_length_eq_zero h0
      · obtain ⟨ad, ha, _⟩ := hc h0; cases ha
    subst h0
    refine ⟨v, w, ?_, by rw [List.append_nil]; exact hown, World.grownBy.refl w _, .inl rfl⟩
    rcases hown.2 with ⟨rfl, h0⟩ | ⟨g, cap', cur, rfl, _, _, hnc, _⟩
    · simp [Builtin.append_, run_underlying Tryz.underlying23, sizeOf, typeInfo, hi0, Builtin.lenOf, Builtin.firstCells]
    · simp [Builtin.append_, run_underlying Tryz.underlying23, sizeOf, typeInfo, hi0, Builtin.lenOf, Builtin.firstCells, hnc, storeCells]
  · exact fin ad rfl

theorem wpList_append_ints {w : World} {ops : Array Oper} {rest : List Oper} {o : Oper} {a : Act} {Q : Exit → Act → World → Prop} (hgd : o.guard = none) (s x : Operand)
    (ho : o.op = .call { callee := .builtin .append, args := #[s, x], argTypes := #[23, 23] }) (hty : o.type = 23)
    (base : Nat) (v : Value) (ys : List Int) (hown : Row w base v ys) (u : Value) (zs : List Int) (hz : Ints w u zs) (hs : a.eval s = v) (hx : a.eval x = u) (hl : ys.length + zs.length ≤ 1099511627776) (hbase : base ≤ w.heap.size)
    (h : ∀ v' w', Row w' base v' (ys ++ zs) → w.grownBy w' v.ownBlock → (v'.ownBlock = v.ownBlock ∨ v'.ownBlock = some w.heap.size) → wpList Tryz.prog ops Q rest (a.put o.dst v') w') :
    wpList Tryz.prog ops Q (o :: rest) a w := by
  refine wpList_plain hgd fun K hK => ?_
  obtain ⟨v', w', hrun, h2, h3, h4⟩ := run_append_ints w base v ys hown u zs hz hl hbase
  unfold Oper.wp execOp
  simp only [ho, hty, resolve, invoke, builtin, Sem.run_bind, Sem.run_pure, Result.andThen_ok, List.map_toArray, List.map_cons, List.map_nil, hs, hx, hrun]
  exact hK _ _ (h v' w' h2 h3 h4)

end Go.Proofs.YthnbaeamekolmaaGreatDoor

namespace Go.Proofs.YthnbaeamekolmaaGreatDoor
open Go.RowKit
set_option linter.unusedVariables false
set_option linter.unusedSimpArgs false

set_option maxRecDepth 100000 in
set_option maxHeartbeats 1000000 in
theorem eqInts_any (u v : Value) (P Q : List Int) (w : World) (hu : Ints w u P) (hv : Ints w v Q) :
    Calls Tryz.prog 34 #[u, v] w (BoolOf w (P == Q)) := by
  obtain ⟨pm, A, ca, rfl, ha⟩ := hu
  obtain ⟨qm, B, cb, rfl, hb⟩ := hv
  unfold maxLen at pm qm
  by_cases hl : P.length = Q.length
  · have z0 : ((P.length : Int) != (Q.length : Int)) = false := by simp [hl]
    have LE := Lib.hid hl
    have hlq : P.length ≤ Q.length := by omega
    have HA := Lib.hid ha
    have HB := Lib.hid hb
    clear hl ha hb
    go_enter Tryz.func34, Tryz.ntmps34
    go_wp2
    clear z0
    go_loopw [5] (fun i wr => ∃ k n : Nat, k ≤ P.length ∧ i = .int .i64 k ∧ SameTo P Q k ∧ wr = w.drewN n) (fun i _ => P.length - (intOf i).toNat)
    case atStart => exact ⟨0, 0, Nat.zero_le _, rfl, sameTo_zero _ _, rfl⟩
    case round =>
      obtain ⟨k, n, hk, rfl, hat, rfl⟩ := hrel
      have AT := Lib.hid hat
      clear hat
      by_cases hlt : k < P.length
      · have hlt2 : k < Q.length := by omega
        obtain ⟨ga, rfl, hca⟩ := HA.out (by omega)
        obtain ⟨gb, rfl, hcb⟩ := HB.out (by omega)
        have ka := hca k hlt
        have kb := hcb k hlt2
        clear hca hcb
        by_cases e : P[k] = Q[k]
        · have t1 : (P[k] == Q[k]) = true := by rw [beq_iff_eq]; exact e
          have NX := Lib.hid (sameTo_next AT.out hlt hlt2 e)
          clear e
          generalize P[k] = x at *
          generalize Q[k] = y at *
          go_wp2
          go_quiet (fail)
          go_wp2
          go_roundw
          case rel => exact ⟨k + 1, _, by omega, by go_num, NX.out, rfl⟩
          case measure => simp [intOf]; omega
        · have t1 : (P[k] == Q[k]) = false := by rw [beq_eq_false_iff_ne]; exact e
          have NO := Lib.hid (same_not hlt hlt2 e)
          clear e
          generalize P[k] = x at *
          generalize Q[k] = y at *
          go_wp2
          go_quiet (fail)
          go_wp2
          go_ret
          exact ⟨_, ret_bool NO.out.symm, by rw [World.drewN_drewN]⟩
      · obtain rfl : k = P.length := by omega
        have E := Lib.hid (sameTo_end LE.out AT.out)
        go_wp2
        go_ret
        exact ⟨_, ret_bool E.out.symm, rfl⟩
  · have z0 : ((P.length : Int) != (Q.length : Int)) = true := by rw [bne_iff_ne]; omega
    have E := Lib.hid (same_len hl)
    clear hl ha hb
    go_enter Tryz.func34, Tryz.ntmps34
    go_wp2
    go_ret
    exact ⟨0, ret_bool E.out.symm, rfl⟩

set_option maxRecDepth 100000 in
set_option maxHeartbeats 1000000 in
theorem sSame_any (u v : Value) (P Q : List Int) (w : World) (hu : Ints w u P) (hv : Ints w v Q) :
    Calls Tryz.prog 171 #[u, v] w (BoolOf w (P == Q)) := by
  obtain ⟨pm, A, ca, rfl, ha⟩ := hu
  obtain ⟨qm, B, cb, rfl, hb⟩ := hv
  unfold maxLen at pm qm
  by_cases hl : P.length = Q.length
  · have z0 : ((P.length : Int) != (Q.length : Int)) = false := by simp [hl]
    have LE := Lib.hid hl
    have hlq : P.length ≤ Q.length := by omega
    have HA := Lib.hid ha
    have HB := Lib.hid hb
    clear hl ha hb
    go_enter Tryz.func171, Tryz.ntmps171
    go_wp2
    clear z0
    go_loopw [5] (fun i wr => ∃ k n : Nat, k ≤ P.length ∧ i = .int .i64 k ∧ SameTo P Q k ∧ wr = w.drewN n) (fun i _ => P.length - (intOf i).toNat)
    case atStart => exact ⟨0, 0, Nat.zero_le _, rfl, sameTo_zero _ _, rfl⟩
    case round =>
      obtain ⟨k, n, hk, rfl, hat, rfl⟩ := hrel
      have AT := Lib.hid hat
      clear hat
      by_cases hlt : k < P.length
      · have hlt2 : k < Q.length := by omega
        obtain ⟨ga, rfl, hca⟩ := HA.out (by omega)
        obtain ⟨gb, rfl, hcb⟩ := HB.out (by omega)
        have ka := hca k hlt
        have kb := hcb k hlt2
        clear hca hcb
        by_cases e : P[k] = Q[k]
        · have t1 : (P[k] == Q[k]) = true := by rw [beq_iff_eq]; exact e
          have NX := Lib.hid (sameTo_next AT.out hlt hlt2 e)
          clear e
          generalize P[k] = x at *
          generalize Q[k] = y at *
          go_wp2
          go_quiet (fail)
          go_wp2
          go_roundw
          case rel => exact ⟨k + 1, _, by omega, by go_num, NX.out, rfl⟩
          case measure => simp [intOf]; omega
        · have t1 : (P[k] == Q[k]) = false := by rw [beq_eq_false_iff_ne]; exact e
          have NO := Lib.hid (same_not hlt hlt2 e)
          clear e
          generalize P[k] = x at *
          generalize Q[k] = y at *
          go_wp2
          go_quiet (fail)
          go_wp2
          go_ret
          exact ⟨_, ret_bool NO.out.symm, by rw [World.drewN_drewN]⟩
      · obtain rfl : k = P.length := by omega
        have E := Lib.hid (sameTo_end LE.out AT.out)
        go_wp2
        go_ret
        exact ⟨_, ret_bool E.out.symm, rfl⟩
  · have z0 : ((P.length : Int) != (Q.length : Int)) = true := by rw [bne_iff_ne]; omega
    have E := Lib.hid (same_len hl)
    clear hl ha hb
    go_enter Tryz.func171, Tryz.ntmps171
    go_wp2
    go_ret
    exact ⟨0, ret_bool E.out.symm, rfl⟩

set_option maxRecDepth 100000 in
set_option maxHeartbeats 1000000 in
theorem sameInts_any (u v : Value) (P Q : List Int) (w : World) (hu : Ints w u P) (hv : Ints w v Q) :
    Calls Tryz.prog 23 #[u, v] w (BoolOf w (P == Q)) := by
  obtain ⟨pm, A, ca, rfl, ha⟩ := hu
  obtain ⟨qm, B, cb, rfl, hb⟩ := hv
  unfold maxLen at pm qm
  by_cases hl : P.length = Q.length
  · have z0 : ((P.length : Int) != (Q.length : Int)) = false := by simp [hl]
    have LE := Lib.hid hl
    have hlq : P.length ≤ Q.length := by omega
    have HA := Lib.hid ha
    have HB := Lib.hid hb
    clear hl ha hb
    go_enter Tryz.func23, Tryz.ntmps23
    go_wp2
    clear z0
    go_loopw [5] (fun i wr => ∃ k n : Nat, k ≤ P.length ∧ i = .int .i64 k ∧ SameTo P Q k ∧ wr = w.drewN n) (fun i _ => P.length - (intOf i).toNat)
    case atStart => exact ⟨0, 0, Nat.zero_le _, rfl, sameTo_zero _ _, rfl⟩
    case round =>
      obtain ⟨k, n, hk, rfl, hat, rfl⟩ := hrel
      have AT := Lib.hid hat
      clear hat
      by_cases hlt : k < P.length
      · have hlt2 : k < Q.length := by omega
        obtain ⟨ga, rfl, hca⟩ := HA.out (by omega)
        obtain ⟨gb, rfl, hcb⟩ := HB.out (by omega)
        have ka := hca k hlt
        have kb := hcb k hlt2
        clear hca hcb
        by_cases e : P[k] = Q[k]
        · have t1 : (P[k] == Q[k]) = true := by rw [beq_iff_eq]; exact e
          have NX := Lib.hid (sameTo_next AT.out hlt hlt2 e)
          clear e
          generalize P[k] = x at *
          generalize Q[k] = y at *
          go_wp2
          go_quiet (fail)
          go_wp2
          go_roundw
          case rel => exact ⟨k + 1, _, by omega, by go_num, NX.out, rfl⟩
          case measure => simp [intOf]; omega
        · have t1 : (P[k] == Q[k]) = false := by rw [beq_eq_false_iff_ne]; exact e
          have NO := Lib.hid (same_not hlt hlt2 e)
          clear e
          generalize P[k] = x at *
          generalize Q[k] = y at *
          go_wp2
          go_quiet (fail)
          go_wp2
          go_ret
          exact ⟨_, ret_bool NO.out.symm, by rw [World.drewN_drewN]⟩
      · obtain rfl : k = P.length := by omega
        have E := Lib.hid (sameTo_end LE.out AT.out)
        go_wp2
        go_ret
        exact ⟨_, ret_bool E.out.symm, rfl⟩
  · have z0 : ((P.length : Int) != (Q.length : Int)) = true := by rw [bne_iff_ne]; omega
    have E := Lib.hid (same_len hl)
    clear hl ha hb
    go_enter Tryz.func23, Tryz.ntmps23
    go_wp2
    go_ret
    exact ⟨0, ret_bool E.out.symm, rfl⟩

set_option maxRecDepth 100000 in
set_option maxHeartbeats 1000000 in
theorem slEqual_any (u v : Value) (P Q : List Int) (w : World) (hu : Ints w u P) (hv : Ints w v Q) :
    Calls Tryz.prog 67 #[u, v] w (BoolOf w (P == Q)) := by
  obtain ⟨pm, A, ca, rfl, ha⟩ := hu
  obtain ⟨qm, B, cb, rfl, hb⟩ := hv
  unfold maxLen at pm qm
  by_cases hl : P.length = Q.length
  · have z0 : ((P.length : Int) != (Q.length : Int)) = false := by simp [hl]
    have LE := Lib.hid hl
    have hlq : P.length ≤ Q.length := by omega
    have HA := Lib.hid ha
    have HB := Lib.hid hb
    clear hl ha hb
    go_enter Tryz.func67, Tryz.ntmps67
    go_wp2
    clear z0
    go_loopw [5, 13] (fun _ i wr => ∃ k n : Nat, k ≤ P.length ∧ i = .int .i64 k ∧ SameTo P Q k ∧ wr = w.drewN n) (fun _ i _ => P.length - (intOf i).toNat)
    case atStart => exact ⟨0, 0, Nat.zero_le _, rfl, sameTo_zero _ _, rfl⟩
    case round =>
      obtain ⟨k, n, hk, rfl, hat, rfl⟩ := hrel
      have AT := Lib.hid hat
      clear hat
      by_cases hlt : k < P.length
      · have hlt2 : k < Q.length := by omega
        obtain ⟨ga, rfl, hca⟩ := HA.out (by omega)
        obtain ⟨gb, rfl, hcb⟩ := HB.out (by omega)
        have ka := hca k hlt
        have kb := hcb k hlt2
        clear hca hcb
        by_cases e : P[k] = Q[k]
        · have t1 : (P[k] == Q[k]) = true := by rw [beq_iff_eq]; exact e
          have NX := Lib.hid (sameTo_next AT.out hlt hlt2 e)
          clear e
          generalize P[k] = x at *
          generalize Q[k] = y at *
          go_wp2
          go_quiet (fail)
          go_wp2
          go_roundw
          case rel => exact ⟨k + 1, _, by omega, by go_num, NX.out, rfl⟩
          case measure => simp [intOf]; omega
        · have t1 : (P[k] == Q[k]) = false := by rw [beq_eq_false_iff_ne]; exact e
          have NO := Lib.hid (same_not hlt hlt2 e)
          clear e
          generalize P[k] = x at *
          generalize Q[k] = y at *
          go_wp2
          go_quiet (fail)
          go_wp2
          go_ret
          exact ⟨_, ret_bool NO.out.symm, by rw [World.drewN_drewN]⟩
      · obtain rfl : k = P.length := by omega
        have E := Lib.hid (sameTo_end LE.out AT.out)
        go_wp2
        go_ret
        exact ⟨_, ret_bool E.out.symm, rfl⟩
  · have z0 : ((P.length : Int) != (Q.length : Int)) = true := by rw [bne_iff_ne]; omega
    have E := Lib.hid (same_len hl)
    clear hl ha hb
    go_enter Tryz.func67, Tryz.ntmps67
    go_wp2
    go_ret
    exact ⟨0, ret_bool E.out.symm, rfl⟩

/-- Are all the numbers cells? -/
def cellsB (l : List Int) : Bool := l.all cellB

theorem cellsB_at {l : List Int} (h : cellsB l = true) {n : Int} (hn : n ∈ l) : cellB n = true := List.all_eq_true.1 h n hn

/-- The first k are cells. -/
def CellsTo (l : List Int) (k : Nat) : Prop := ∀ n ∈ l.take k, cellB n = true

theorem cellsTo_zero (l : List Int) : CellsTo l 0 := by intro n hn; simp at hn

theorem cellsTo_next {l : List Int} {k : Nat} (h : CellsTo l k) (hk : k < l.length) (e : cellB l[k] = true) : CellsTo l (k + 1) := by
  intro n hn
  rw [List.take_succ_eq_append_getElem hk] at hn
  rcases List.mem_append.1 hn with hn | hn
  · exact h n hn
  · rw [List.mem_singleton.1 hn]; exact e

theorem cells_end {l : List Int} (h : CellsTo l l.length) : cellsB l = true := by
  unfold CellsTo at h; rw [List.take_length] at h; exact List.all_eq_true.2 h

theorem cells_not {l : List Int} {k : Nat} (hk : k < l.length) (e : cellB l[k] = false) : cellsB l = false := by
  cases h : cellsB l
  · rfl
  · rw [cellsB_at h (List.getElem_mem hk)] at e; cases e

set_option maxRecDepth 100000 in
set_option maxHeartbeats 1000000 in
theorem allCells_any (v : Value) (Q : List Int) (w : World) (hv : Ints w v Q) :
    Calls Tryz.prog 68 #[v] w fun e w' => e = .returned (.bool (cellsB Q)) ∧ w = w' := by
  obtain ⟨qm, B, cb, rfl, hb⟩ := hv
  unfold maxLen at qm
  have HB := Lib.hid hb
  clear hb
  go_enter Tryz.func68, Tryz.ntmps68
  go_wp2
  go_loop [4, 7] (fun _ i => ∃ k : Nat, k ≤ Q.length ∧ i = .int .i64 k ∧ CellsTo Q k) (fun _ i => Q.length - (intOf i).toNat)
  case atStart => exact ⟨0, Nat.zero_le _, rfl, cellsTo_zero _⟩
  case round =>
    obtain ⟨k, hk, rfl, hat⟩ := hrel
    have AT := Lib.hid hat
    clear hat
    by_cases hlt : k < Q.length
    · obtain ⟨gb, rfl, hcb⟩ := HB.out (by omega)
      have kb := hcb k hlt
      clear hcb
      cases e : cellB Q[k]
      · have NO := Lib.hid (cells_not hlt e)
        generalize Q[k] = y at *
        go_wp2_with (go_at_call 140; refine (cellOK_any _ _).mono ?_; rintro e w' ⟨rfl, rfl⟩)
        go_ret
        exact ⟨ret_bool NO.out.symm, rfl⟩
      · have NX := Lib.hid (cellsTo_next AT.out hlt e)
        generalize Q[k] = y at *
        go_wp2_with (go_at_call 140; refine (cellOK_any _ _).mono ?_; rintro e w' ⟨rfl, rfl⟩)
        go_round
        case rel => exact ⟨k + 1, by omega, by go_num, NX.out⟩
        case measure => simp [intOf]; omega
    · obtain rfl : k = Q.length := by omega
      have E := Lib.hid (cells_end AT.out)
      go_wp2
      go_ret
      exact ⟨ret_bool E.out.symm, rfl⟩

set_option maxRecDepth 100000 in
set_option maxHeartbeats 1000000 in
theorem sCells_any (v : Value) (Q : List Int) (w : World) (hv : Ints w v Q) :
    Calls Tryz.prog 132 #[v] w fun e w' => e = .returned (.bool (cellsB Q)) ∧ w = w' := by
  obtain ⟨qm, B, cb, rfl, hb⟩ := hv
  unfold maxLen at qm
  have HB := Lib.hid hb
  clear hb
  go_enter Tryz.func132, Tryz.ntmps132
  go_wp2
  go_loop [3] (fun i => ∃ k : Nat, k ≤ Q.length ∧ i = .int .i64 k ∧ CellsTo Q k) (fun i => Q.length - (intOf i).toNat)
  case atStart => exact ⟨0, Nat.zero_le _, rfl, cellsTo_zero _⟩
  case round =>
    obtain ⟨k, hk, rfl, hat⟩ := hrel
    have AT := Lib.hid hat
    clear hat
    by_cases hlt : k < Q.length
    · obtain ⟨gb, rfl, hcb⟩ := HB.out (by omega)
      have kb := hcb k hlt
      clear hcb
      cases e : cellB Q[k]
      · have NO := Lib.hid (cells_not hlt e)
        generalize Q[k] = y at *
        go_wp2_with (go_at_call 193; refine (sCell_any _ _).mono ?_; rintro e w' ⟨rfl, rfl⟩)
        go_ret
        exact ⟨ret_bool NO.out.symm, rfl⟩
      · have NX := Lib.hid (cellsTo_next AT.out hlt e)
        generalize Q[k] = y at *
        go_wp2_with (go_at_call 193; refine (sCell_any _ _).mono ?_; rintro e w' ⟨rfl, rfl⟩)
        go_round
        case rel => exact ⟨k + 1, by omega, by go_num, NX.out⟩
        case measure => simp [intOf]; omega
    · obtain rfl : k = Q.length := by omega
      have E := Lib.hid (cells_end AT.out)
      go_wp2
      go_ret
      exact ⟨ret_bool E.out.symm, rfl⟩

/-- What is left of a size. -/
def leftOf (left : Int) (n : Nat) : Int := if left - n < 0 then -1 else left - n

set_option maxHeartbeats 400000 in
theorem szInts_any (A : Option Addr) (n cap : Nat) (left : Int) (w : World) (hn : n ≤ maxLen) (h0 : 0 ≤ left) (h1 : left ≤ 1048576) :
    Calls Tryz.prog 72 #[.slice A n cap, .int .i64 left] w fun e w' => e = .returned (.int .i64 (leftOf left n)) ∧ w = w' := by
  unfold maxLen at hn
  by_cases h : left - n < 0
  · have E : Hid (leftOf left n = -1) := Lib.hid (by unfold leftOf; rw [if_pos h])
    go_enter Tryz.func72, Tryz.ntmps72
    go_wp2
    go_ret
    exact ⟨ret_int E.out.symm, rfl⟩
  · have E : Hid (leftOf left n = left - n) := Lib.hid (by unfold leftOf; rw [if_neg h])
    go_enter Tryz.func72, Tryz.ntmps72
    go_wp2
    go_ret
    exact ⟨ret_int E.out.symm, rfl⟩

/-- A slice handed back, of the call's own, of these numbers. -/
def RowOf (w : World) (zs : List Int) (e : Ending) (w' : World) : Prop := ∃ v, e = .returned v ∧ Row w' w.heap.size v zs ∧ v.ownBlock ≠ none ∧ Below w.heap.size w w'

/-- The first k numbers, then zeros. -/
def partI (zs : List Int) (k : Nat) : List Int := zs.take k ++ List.replicate (zs.length - k) 0

theorem partI_len {zs : List Int} {k : Nat} (h : k ≤ zs.length) : (partI zs k).length = zs.length := by unfold partI; simp; omega

theorem partI_next {zs : List Int} {k : Nat} (h : k < zs.length) : (partI zs k).set k zs[k] = partI zs (k + 1) := by
  unfold partI
  rw [List.set_append_right _ _ (by simp; omega)]
  rw [List.length_take, Nat.min_eq_left (by omega), Nat.sub_self, show zs.length - k = (zs.length - (k + 1)) + 1 by omega, List.replicate_succ, List.set_cons_zero, List.take_succ_eq_append_getElem h, List.append_assoc]
  rfl

theorem partI_end (zs : List Int) : partI zs zs.length = zs := by unfold partI; simp

theorem zeros_cells (n : Nat) : (madeCells (Value.int .i64 0).cells (n * 1)).toList = (List.replicate n (0 : Int)).map (Value.int .i64) := by
  rw [Nat.mul_one, show (Value.int .i64 0).cells = #[Value.int .i64 0] from rfl, toList_madeCells_one]; simp

theorem zeros_row {w' : World} {base g n : Nat} (h : w'.ownsRow base 3 1 (.slice (some ⟨g, 0, none⟩) n n) n (madeCells (Value.int .i64 0).cells (n * 1)).toList) : Row w' base (.slice (some ⟨g, 0, none⟩) n n) (List.replicate n 0) := by
  unfold Row
  rw [List.length_replicate, ← zeros_cells]; exact h

set_option maxRecDepth 100000 in
set_option maxHeartbeats 1000000 in
theorem toInts_any (v : Value) (zs : List Int) (w : World) (hv : Ints w v zs) (hl : zs.length ≤ 1099511627776) :
    Calls Tryz.prog 33 #[v] w (RowOf w zs) := by
  obtain ⟨i0, hi0, hz0, hz1, hz2⟩ := info_parts own_info3
  have hv0 := Lib.hid hv
  obtain ⟨qm, A, ca, rfl, ha⟩ := hv
  clear ha qm
  have I0 := Lib.hid hi0
  have Z0 := Lib.hid hz0
  have Z1 := Lib.hid hz1
  have Z2 := Lib.hid hz2
  have B8 : Hid (i0.bytes * zs.length ≤ 281474976710656) := Lib.hid (by rw [hz2]; omega)
  clear hi0 hz0 hz1 hz2
  go_enter Tryz.func33, Tryz.ntmps33
  go_wp2_with (at_make; refine wpList_make_full _ rfl _ _ 23 rfl w.heap.size 3 i0 _ 1 Tryz.underlying23 I0.out Z0.out Z1.out .i64 .i64 _ _ zs.length rfl rfl rfl rfl B8.out (by unfold maxLen; omega) (Nat.le_refl _) ?_; intro w1 ho1 hg1; have R1 := Lib.hid (zeros_row ho1); have B1 : Hid (Below w.heap.size w w1) := Lib.hid ((Below.refl _ _).grown hg1 (Nat.le_refl _) (by simp)); clear ho1 hg1)
  go_loopw [4] (fun i wr => ∃ k : Nat, k ≤ zs.length ∧ i = .int .i64 k ∧ Row wr w.heap.size (.slice (some ⟨w.heap.size, 0, none⟩) zs.length zs.length) (partI zs k) ∧ Below w.heap.size w wr) (fun i _ => zs.length - (intOf i).toNat)
  case atStart => exact ⟨0, Nat.zero_le _, rfl, by unfold partI; exact R1.out, B1.out⟩
  case round =>
    obtain ⟨k, hk, rfl, hr, hb⟩ := hrel
    have HR := Lib.hid hr
    have HB := Lib.hid hb
    clear hr hb
    by_cases hlt : k < zs.length
    · have pl := partI_len (Nat.le_of_lt hlt)
      have HI := ints_below hv0.out HB.out
      obtain ⟨_, A', ca', hv', hc⟩ := HI
      simp only [Value.slice.injEq, true_and] at hv'
      obtain ⟨rfl, rfl⟩ := hv'
      obtain ⟨ad, rfl, hc'⟩ := hc (by omega)
      have kc := hc' k hlt
      clear hc'
      have HR' := HR.out
      rw [← pl] at HR'
      have ko := row_cell HR' k (by omega)
      have kf := row_free HR' k
      have ST := row_set HR' k zs[k]
      rw [partI_next hlt, pl] at ST
      have SR := Lib.hid ST.1
      have SB : Hid (Below w.heap.size w (wr.setCell ⟨w.heap.size, k, none⟩ (.int .i64 zs[k]))) := Lib.hid (HB.out.setCell (Nat.le_refl _) _)
      clear hc ST HR'
      generalize (partI zs k)[k]'_ = old at *
      generalize zs[k] = x at *
      go_wp2
      go_roundw
      case rel => exact ⟨k + 1, by omega, by go_num, SR.out, SB.out⟩
      case measure => simp [intOf]; omega
    · obtain rfl : k = zs.length := by omega
      rw [partI_end] at HR
      go_wp2
      go_ret
      exact ⟨_, rfl, HR.out, by simp [Value.ownBlock], HB.out⟩

theorem copy_parts {w w1 : World} {A : Option Addr} {ca : Nat} {zs : List Int} (hv : Ints w (.slice A zs.length ca) zs) (ho : w1.ownsRow w.heap.size 3 1 (.slice (some ⟨w.heap.size, 0, none⟩) zs.length zs.length) zs.length (madeCells (Value.int .i64 0).cells (zs.length * 1)).toList) (hg : w.grownBy w1 none) (hl : zs.length ≤ 1099511627776) :
    w1.heap[w.heap.size]? = some (.cells ((List.replicate zs.length (0 : Int)).map (Value.int .i64)).toArray 3 (0, 0)) ∧ (zs.map (Value.int .i64)).length = Nat.min zs.length zs.length ∧
    (0 < (zs.map (Value.int .i64)).length → some (⟨w.heap.size, 0, none⟩ : Addr) = some ⟨w.heap.size, 0, none⟩ ∧ ∃ ad, A = some ad ∧ ∀ j v, (zs.map (Value.int .i64))[j]? = some v → w1.cell? (ad.add j) = some v) ∧
    0 + (zs.map (Value.int .i64)).length ≤ ((List.replicate zs.length (0 : Int)).map (Value.int .i64)).length ∧ Below w.heap.size w w1 := by
  have B1 : Below w.heap.size w w1 := (Below.refl _ _).grown hg (Nat.le_refl _) (by simp)
  refine ⟨?_, by simp [Nat.min_def], fun hp => ⟨rfl, ?_⟩, by simp, B1⟩
  · have R1 := zeros_row ho
    rw [show (Value.slice (some ⟨w.heap.size, 0, none⟩) zs.length zs.length) = .slice (some ⟨w.heap.size, 0, none⟩) (List.replicate zs.length (0 : Int)).length (List.replicate zs.length (0 : Int)).length by simp] at R1
    exact row_full R1
  · obtain ⟨_, A', ca', hv', hc⟩ := ints_below hv B1
    simp only [Value.slice.injEq, true_and] at hv'
    obtain ⟨rfl, rfl⟩ := hv'
    obtain ⟨ad, rfl, hc'⟩ := hc (by simpa using hp)
    refine ⟨ad, rfl, fun j u hu => ?_⟩
    rcases Nat.lt_or_ge j zs.length with hj | hj
    · rw [hc' j hj]; simpa [hj] using hu
    · simp [hj] at hu

theorem splice_all (zs : List Int) : Go.splice ((List.replicate zs.length (0 : Int)).map (Value.int .i64)) 0 (zs.map (Value.int .i64)) = zs.map (Value.int .i64) := by
  unfold Go.splice; simp

set_option maxRecDepth 100000 in
set_option maxHeartbeats 1000000 in
theorem copyCells_any (v : Value) (zs : List Int) (w : World) (hv : Ints w v zs) (hl : zs.length ≤ 1099511627776) :
    Calls Tryz.prog 131 #[v] w (RowOf w zs) := by
  obtain ⟨i0, hi0, hz0, hz1, hz2⟩ := info_parts own_info3
  have hv0 := Lib.hid hv
  obtain ⟨qm, A, ca, rfl, ha⟩ := hv
  clear ha qm
  have I0 := Lib.hid hi0
  have Z0 := Lib.hid hz0
  have Z1 := Lib.hid hz1
  have B8 : Hid (i0.bytes * zs.length ≤ 281474976710656) := Lib.hid (by rw [hz2]; omega)
  clear hi0 hz0 hz1 hz2
  go_enter Tryz.func131, Tryz.ntmps131
  go_wp2_with (first
    | (at_make; refine wpList_make_full _ rfl _ _ 23 rfl w.heap.size 3 i0 _ 1 Tryz.underlying23 I0.out Z0.out Z1.out .i64 .i64 _ _ zs.length rfl rfl rfl rfl B8.out (by unfold maxLen; omega) (Nat.le_refl _) ?_
       intro w1 ho1 hg1
       have CP := Lib.hid (copy_parts hv0.out ho1 hg1 hl)
       clear ho1 hg1)
    | (with_reducible refine wpList_copy_splice rfl _ _ 23 23 rfl 3 Tryz.underlying23 own_size3 _ _ _ _ _ _ rfl rfl w.heap.size 0 _ 3 CP.out.1 (zs.map (Value.int .i64)) CP.out.2.1 CP.out.2.2.1 CP.out.2.2.2.1 (ints_oneCell _ _) w.heap.size w CP.out.2.2.2.2 (Nat.le_refl _) ?_
       intro w2 H2 hb2
       have R2 : Hid (Row w2 w.heap.size (.slice (some ⟨w.heap.size, 0, none⟩) zs.length zs.length) zs) := Lib.hid (by
         have h := H2.out
         rw [splice_all] at h
         exact row_whole h (Nat.le_refl _) (by unfold maxLen; omega))
       have B2 := Lib.hid hb2
       clear hb2))
  go_ret
  exact ⟨_, rfl, R2.out, by simp [Value.ownBlock], B2.out⟩

/-- Marks from K on. -/
def marksI (K n : Nat) : List Int := (List.range n).map fun j => ((K + j : Nat) : Int)

theorem marksI_len (K n : Nat) : (marksI K n).length = n := by unfold marksI; simp

theorem marksI_at {K n k : Nat} (h : k < (marksI K n).length) : (marksI K n)[k] = ((K + k : Nat) : Int) := by unfold marksI; simp

/-- Marks at the first k places. -/
def markToI (K k : Nat) (Q : List Int) : List Int := marksI K k ++ Q.drop k

theorem markToI_len {K k : Nat} {Q : List Int} (h : k ≤ Q.length) : (markToI K k Q).length = Q.length := by unfold markToI; simp [marksI_len]; omega

theorem markToI_zero (K : Nat) (Q : List Int) : markToI K 0 Q = Q := by unfold markToI marksI; simp

theorem markToI_end (K : Nat) (Q : List Int) : markToI K Q.length Q = marksI K Q.length := by unfold markToI; simp

theorem markToI_next {K k : Nat} {Q : List Int} (h : k < Q.length) : (markToI K k Q).set k ((K + k : Nat) : Int) = markToI K (k + 1) Q := by
  unfold markToI
  rw [show marksI K (k + 1) = marksI K k ++ [((K + k : Nat) : Int)] by unfold marksI; rw [List.range_succ]; simp, List.drop_eq_getElem_cons h, List.set_append_right _ _ (by rw [marksI_len]; exact Nat.le_refl _), marksI_len, Nat.sub_self, List.set_cons_zero]
  simp

theorem gb_comp {a b c : World} {row : Option Nat} (h : a.grownBy b row) (k : b.grownBy c row) : a.grownBy c row :=
  ⟨k.os.trans h.os, k.tape.trans h.tape, k.output.trans h.output, Nat.le_trans h.size k.size, fun i hi hr => (k.block i (Nat.lt_of_lt_of_le hi h.size) hr).trans (h.block i hi hr)⟩

/-- What laying marks leaves: the row bears them; no other block has turned. -/
def MarkIOf (w : World) (base : Nat) (v : Value) (n K : Nat) (e : Ending) (w' : World) : Prop := e = .returned (.int .i64 ((K : Int) + n)) ∧ Row w' base v (marksI K n) ∧ w.grownBy w' v.ownBlock

set_option maxRecDepth 100000 in
set_option maxHeartbeats 1000000 in
theorem markInts_any (v : Value) (base K : Nat) (Q : List Int) (w : World) (h : Row w base v Q) (hQ : Q.length ≤ 1099511627776) (hK : K ≤ 1099511627776) :
    Calls Tryz.prog 35 #[v, .int .i64 K] w (MarkIOf w base v Q.length K) := by
  obtain ⟨_, A, cap, rfl, _⟩ := row_ints h
  have H := Lib.hid h
  clear h
  go_enter Tryz.func35, Tryz.ntmps35
  go_wp2
  go_loopw [5, 1] (fun i m wr => ∃ k : Nat, k ≤ Q.length ∧ i = .int .i64 k ∧ m = .int .i64 ((K : Int) + k) ∧ Row wr base (.slice A Q.length cap) (markToI K k Q) ∧ w.grownBy wr (Value.ownBlock (.slice A Q.length cap))) (fun i _ _ => Q.length - (intOf i).toNat)
  case atStart => exact ⟨0, Nat.zero_le _, rfl, by simp, by rw [markToI_zero]; exact H.out, World.grownBy.refl w _⟩
  case round =>
    obtain ⟨k, hk, rfl, rfl, hr, hg⟩ := hrel
    have HG := Lib.hid hg
    have HR := Lib.hid hr
    clear hg hr
    by_cases hlt : k < Q.length
    · have pl := markToI_len (K := K) (Nat.le_of_lt hlt)
      have HR' := HR.out
      rw [← pl] at HR'
      obtain ⟨g, cap', hv, _, hglt, _⟩ := row_form HR' (by omega)
      simp only [Value.slice.injEq, true_and] at hv
      obtain ⟨rfl, rfl⟩ := hv
      have ko := row_cell HR' k (by omega)
      have kf := row_free HR' k
      have ST := row_set HR' k ((K + k : Nat) : Int)
      rw [markToI_next hlt, pl, show (((K + k : Nat) : Int)) = (K : Int) + k by omega] at ST
      have SR := Lib.hid ST.1
      have SG := Lib.hid (gb_comp HG.out ST.2)
      clear ST HR'
      generalize (markToI K k Q)[k]'_ = old at *
      go_wp2
      go_roundw
      case rel => exact ⟨k + 1, by omega, by go_num, by go_num, SR.out, SG.out⟩
      case measure => simp [intOf]; omega
    · obtain rfl : k = Q.length := by omega
      rw [markToI_end] at HR
      go_wp2
      go_ret
      exact ⟨rfl, HR.out, HG.out⟩

set_option maxRecDepth 100000 in
set_option maxHeartbeats 1000000 in
theorem heldInts_any (v : Value) (n K : Nat) (w : World) (h : Ints w v (marksI K n)) (hn : n ≤ 1099511627776) (hK : K ≤ 1099511627776) :
    Calls Tryz.prog 73 #[v, .int .i64 K] w fun e w' => e = .returned (.int .i64 ((K : Int) + n)) ∧ w = w' := by
  obtain ⟨_, A, cap, rfl, hc⟩ := h
  have HC : Hid (0 < n → ∃ ad, A = some ad ∧ ∀ k, k < n → w.cell? (ad.add k) = some (.int .i64 ((K : Int) + k))) := Lib.hid fun hp => by
    obtain ⟨ad, ha, hc⟩ := hc (by rw [marksI_len]; exact hp)
    refine ⟨ad, ha, fun k hk => ?_⟩
    rw [hc k (by rw [marksI_len]; exact hk), marksI_at, show (((K + k : Nat) : Int)) = (K : Int) + k by omega]
  clear hc
  rw [marksI_len]
  go_enter Tryz.func73, Tryz.ntmps73
  go_wp2
  go_loop [5, 1] (fun i m => ∃ k : Nat, k ≤ n ∧ i = .int .i64 k ∧ m = .int .i64 ((K : Int) + k)) (fun i _ => n - (intOf i).toNat)
  case atStart => exact ⟨0, Nat.zero_le _, rfl, by simp⟩
  case round =>
    obtain ⟨k, hk, rfl, rfl⟩ := hrel
    by_cases hlt : k < n
    · obtain ⟨ad, rfl, hc⟩ := HC.out (by omega)
      have kc := hc k hlt
      clear hc
      have t1 : (((K : Int) + k) != ((K : Int) + k)) = false := by simp
      go_wp2
      go_round
      case rel => exact ⟨k + 1, by omega, by go_num, by go_num⟩
      case measure => simp [intOf]; omega
    · obtain rfl : k = n := by omega
      go_wp2
      go_ret
      exact ⟨rfl, rfl⟩

end Go.Proofs.YthnbaeamekolmaaGreatDoor
