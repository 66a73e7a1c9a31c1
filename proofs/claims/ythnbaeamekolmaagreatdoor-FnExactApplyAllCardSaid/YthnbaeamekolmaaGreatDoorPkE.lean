/- PkE: several of my texts, laid together: FmtA, FmtB, FmtC, FmtD, FmtE. -/
import Derived.Test.YthnbaeamekolmaaGreatDoorPkA
import Derived.Test.YthnbaeamekolmaaGreatDoorPkD
import Derived.WalkSmall
import Derived.Laws.AppendOwn
import Derived.Test.YthnbaeamekolmaaGreatDoorShelf
import Derived.Lib.AppendIntMem
import Derived.Lib.LaidTab
namespace Go.Proofs.YthnbaeamekolmaaGreatDoor
open Go.RowKit
set_option linter.unusedVariables false
set_option linter.unusedSimpArgs false

/-- Is the base a power of two, of those that are asked? -/
def p2 (b : Nat) : Bool := b == 2 || b == 4 || b == 8 || b == 16

set_option maxRecDepth 100000 in
set_option maxHeartbeats 1000000 in
theorem pow_any (b : Nat) (w : World) (h1 : 2 ≤ b) (h2 : b ≤ 16) :
    Calls Tryz.prog 284 #[.int .i64 b] w fun e w' => e = .returned (.bool (p2 b)) ∧ w = w' := by
  have cs : b = 2 ∨ b = 3 ∨ b = 4 ∨ b = 5 ∨ b = 6 ∨ b = 7 ∨ b = 8 ∨ b = 9 ∨ b = 10 ∨ b = 11 ∨ b = 12 ∨ b = 13 ∨ b = 14 ∨ b = 15 ∨ b = 16 := by omega
  clear h1 h2
  rcases cs with rfl | rfl | rfl | rfl | rfl | rfl | rfl | rfl | rfl | rfl | rfl | rfl | rfl | rfl | rfl
  all_goals
    go_enter Tryz.func284, Tryz.ntmps284
    go_wp2
    go_ret
    exact ⟨ret_bool (by decide), rfl⟩

/-- The letters that the library reads, at a digit. -/
theorem low_at : ∀ (u : Nat) (h : u < 36), (⟨#[48, 49, 50, 51, 52, 53, 54, 55, 56, 57, 97, 98, 99, 100, 101, 102, 103, 104, 105, 106, 107, 108, 109, 110, 111, 112, 113, 114, 115, 116, 117, 118, 119, 120, 121, 122]⟩ : ByteArray)[u]'h = lowD u := by
  rintro (_ | _ | _ | _ | _ | _ | _ | _ | _ | _ | _ | _ | _ | _ | _ | _ | _ | _ | _ | _ | _ | _ | _ | _ | _ | _ | _ | _ | _ | _ | _ | _ | _ | _ | _ | _ | _) h <;> first | rfl | omega

/-- The library's buffer of 65 bytes in block B, filled from i on with S; of what was there nothing has turned. -/
structure Buf (w : World) (B i : Nat) (S : List UInt8) (wr : World) : Prop where
  below : Below w.heap.size w wr
  len : i + S.length = 65
  cells : ∀ j, j < 65 → ∃ v, wr.cell? ⟨B, j, none⟩ = some v
  free : ∀ j, wr.frozen? ⟨B, j, none⟩ = false
  held : ∀ j (h : j < S.length), wr.cell? ⟨B, i + j, none⟩ = some (.int .u8 (S[j].toNat : Int))

theorem buf_store {w wr : World} {B k : Nat} {S : List UInt8} (h : Buf w B (k + 1) S wr) (hB : w.heap.size ≤ B) (c : UInt8) : Buf w B k (c :: S) (wr.setCell ⟨B, k, none⟩ (.int .u8 (c.toNat : Int))) := by
  obtain ⟨h1, h2, h3, h4, h5⟩ := h
  have hk : k < 65 := by omega
  obtain ⟨v, hv⟩ := h3 k hk
  refine ⟨h1.setCell hB _, by rw [List.length_cons]; omega, ?_, ?_, ?_⟩
  · intro j hj
    by_cases e : j = k
    · subst e; exact ⟨_, World.cell?_setCell_same _ _ _ hv⟩
    · obtain ⟨v', hv'⟩ := h3 j hj
      exact ⟨v', by rw [World.cell?_setCell_other _ _ _ _ (by intro e'; injection e'; omega)]; exact hv'⟩
  · intro j; simpa using h4 j
  · intro j hj
    cases j with
    | zero => exact World.cell?_setCell_same _ _ _ hv
    | succ j =>
      rw [World.cell?_setCell_other _ _ _ _ (by intro e'; injection e'; omega)]
      have := h5 j (by simpa using hj)
      rw [show k + (j + 1) = k + 1 + j from by omega]
      simpa using this

theorem zero_size : Tryz.zeroCells277.size = 65 := by kernel_rfl

theorem buf_new (w : World) (t : TypeId) : Buf w w.heap.size 65 [] (w.alloc (.cells Tryz.zeroCells277 t)) := by
  refine ⟨(Below.refl _ _).alloc (Nat.le_refl _) _, rfl, ?_, ?_, ?_⟩
  · intro j hj
    refine ⟨Tryz.zeroCells277[j]'(by rw [zero_size]; exact hj), ?_⟩
    rw [World.cell?_alloc_new]
    exact Array.getElem?_eq_getElem _
  · intro j; exact World.frozen?_alloc_new _ _ _ _
  · intro j hj; simp at hj

theorem buf_conv {w wr : World} {B i m : Nat} {S : List UInt8} (h : Buf w B i S wr) (hm : m = 65 - i) : (convert 55 9 (.slice (some ⟨B, i, none⟩) m m)).run Tryz.prog wr = .ok (.string ⟨S.toArray⟩) wr := by
  have hl : S.length = m := by have := h.len; omega
  have := run_convert_bytes_back (P := Tryz.prog) wr 55 9 5 ⟨B, i, none⟩ m S Tryz.underlying55 Tryz.underlying5 Tryz.underlying9 (fun j hj => by
    rw [Addr.add_lit]; exact h.held j hj)
  rw [hl] at this
  exact this

theorem arr_len : Tryz.prog.arrayLen 277 = 65 := by simp [Program.arrayLen, Tryz.underlying277]

theorem cut_from (B i m : Nat) (hi : i < 65) (hm : m = 65 - i) (W : World) : (Instr.sliceAt 277 (.pointer (some ⟨B, 0, none⟩)) (some (.int .i64 i)) none none).run Tryz.prog W = .ok (.slice (some ⟨B, i, none⟩) m m) W := by
  rw [run_sliceAt_array_l W 277 ⟨B, 0, none⟩ (by simp [Program.arrayLen, Program.elem, Tryz.underlying277]) .i64 (i : Int) (by omega) (by rw [arr_len]; omega)]
  rw [arr_len]
  go_simp
  omega

set_option maxRecDepth 100000 in
set_option maxHeartbeats 2000000 in
theorem fmt_gen (u b : Nat) (w : World) (h1 : 2 ≤ b) (h2 : b ≤ 16) (h10 : ((b : Int) == 10) = false) (hp : p2 b = false) (hu : u ≤ 2147483648) :
    Calls Tryz.prog 274 #[.slice none 0 0, .int .u64 u, .int .i64 b, .bool false, .bool false] w fun e w' => e = .returned (.tuple #[.slice none 0 0, .string ⟨(digN lowD b u).toArray⟩]) ∧ Below w.heap.size w w' := by
  have LEN := Lib.hid (digN_33 (D := lowD) h1 hu)
  go_enter Tryz.func274, Tryz.ntmps274
  go_wp2_with (go_at_call 284; refine (pow_any _ _ h1 h2).mono ?_; rintro e w' ⟨rfl, rfl⟩)
  go_loopw [13, 1] (fun i v wr => ∃ (k q : Nat) (S : List UInt8), i = .int .i64 ((k : Int) + 1) ∧ v = .int .u64 q ∧ q ≤ 2147483648 ∧ digN lowD b u = digN lowD b q ++ S ∧ Buf w w.heap.size (k + 1) S wr) (fun _ v _ => (intOf v).toNat)
  case atStart => exact ⟨64, u, [], rfl, rfl, hu, by simp, buf_new w _⟩
  case round =>
    obtain ⟨k, q, S, rfl, rfl, hq, hdig, hbuf⟩ := hrel
    have HB := Lib.hid hbuf
    have HD := Lib.hid hdig
    obtain ⟨v0, hv0⟩ := hbuf.cells k (by have := hbuf.len; omega)
    have hf0 := hbuf.free k
    have hk : k ≤ 64 := by have := hbuf.len; omega
    clear hbuf hdig
    by_cases hlt : b ≤ q
    · obtain ⟨r, hr⟩ : ∃ r : Nat, r = q % b := ⟨_, rfl⟩
      obtain ⟨q', hq'⟩ : ∃ q' : Nat, q' = q / b := ⟨_, rfl⟩
      obtain ⟨p, hp'⟩ : ∃ p : Nat, p = q' * b := ⟨_, rfl⟩
      have hpq : p + r = q := by rw [hp', hr, hq', Nat.mul_comm]; exact Nat.div_add_mod q b
      have e1 : ((q : Int) / (b : Int)) = q' := by rw [hq']; omega
      have e2 : ((q' : Int) * (b : Int)) = p := by rw [hp']; simp
      have e3 : ((q : Int) - (p : Int)) = r := by omega
      have hrb : r < 36 := by have := Nat.mod_lt q (by omega : 0 < b); omega
      have hq'x : q' ≤ 2147483648 := by rw [hq']; exact Nat.le_trans (Nat.div_le_self _ _) hq
      have hq'l : q' < q := by rw [hq']; exact Nat.div_lt_self (by omega) (by omega)
      have hpx : p ≤ 2147483648 := by omega
      have E : Hid (digN lowD b u = digN lowD b q' ++ (lowD r :: S)) := Lib.hid (by rw [HD.out, digN_step h1 hlt, hr, hq']; simp)
      have AT := Lib.hid (low_at r hrb)
      have K : Hid (1 ≤ k) := Lib.hid (by
        have l1 := congrArg List.length HD.out
        have l2 := LEN.out
        have l3 := HB.out.len
        simp at l1; omega)
      clear hr hq' hp' hpq
      go_wp2
      go_roundw
      case rel => exact ⟨k - 1, q', lowD r :: S, congrArg (Value.int .i64) (by have := K.out; omega), rfl, hq'x, E.out, by
        rw [show k - 1 + 1 = k from by have := K.out; omega, ← AT.out]; exact buf_store HB.out (Nat.le_refl _) _⟩
      case measure => simp [intOf]; omega
    · have hq36 : q < 36 := by omega
      have AT := Lib.hid (low_at q hq36)
      have E : Hid (digN lowD b u = lowD q :: S) := Lib.hid (by rw [HD.out, digN_small (by omega)]; rfl)
      obtain ⟨m, hm⟩ : ∃ m, m = 65 - k := ⟨_, rfl⟩
      have hb1 := buf_store HB.out (Nat.le_refl _) ((⟨#[48, 49, 50, 51, 52, 53, 54, 55, 56, 57, 97, 98, 99, 100, 101, 102, 103, 104, 105, 106, 107, 108, 109, 110, 111, 112, 113, 114, 115, 116, 117, 118, 119, 120, 121, 122]⟩ : ByteArray)[q]'hq36)
      have hk65 : k < 65 := by omega
      have hcv := buf_conv hb1 hm
      have hsl := cut_from w.heap.size k m hk65 hm
      have B1 := Lib.hid hb1.below
      clear hb1 hm
      go_wp2
      go_ret2
      exact ⟨congrArg (fun s => Ending.returned (.tuple #[.slice none 0 0, .string s])) (by rw [E.out, ← AT.out]), B1.out⟩

end Go.Proofs.YthnbaeamekolmaaGreatDoor

namespace Go.Proofs.YthnbaeamekolmaaGreatDoor
open Go.RowKit
set_option linter.unusedVariables false
set_option linter.unusedSimpArgs false

/-- What the library's table holds, where it is read. -/
structure TZ (w : World) : Prop where
  c1 : w.cell? ⟨9, 1, none⟩ = some (.int .u8 1)
  c3 : w.cell? ⟨9, 3, none⟩ = some (.int .u8 2)
  c7 : w.cell? ⟨9, 7, none⟩ = some (.int .u8 3)
  c15 : w.cell? ⟨9, 15, none⟩ = some (.int .u8 4)

set_option maxRecDepth 100000 in
set_option maxHeartbeats 1000000 in
theorem tzIn_2 (w : World) (h : TZ w) :
    Calls Tryz.prog 290 #[.int .u64 2] w fun e w' => e = .returned (.int .i64 1) ∧ w = w' := by
  have hc := h.c1
  clear h
  have e : IntKind.u64.wrap (bits .and .u64 2 (IntKind.u64.wrap (-2)) * 285870213051353865) / 288230376151711744 = 1 := by decide
  go_enter Tryz.func290, Tryz.ntmps290
  go_wp2
  go_ret
  exact ⟨rfl, rfl⟩

set_option maxRecDepth 100000 in
set_option maxHeartbeats 1000000 in
theorem tz_2 (w : World) (h : TZ w) :
    Calls Tryz.prog 285 #[.int .u64 2] w fun e w' => e = .returned (.int .i64 1) ∧ w = w' := by
  have H := Lib.hid h
  clear h
  go_enter Tryz.func285, Tryz.ntmps285
  go_wp2_with (go_at_call 290; refine (tzIn_2 _ H.out).mono ?_; rintro e w' ⟨rfl, rfl⟩)
  go_ret
  exact ⟨rfl, rfl⟩

set_option maxRecDepth 100000 in
set_option maxHeartbeats 1000000 in
theorem tzIn_4 (w : World) (h : TZ w) :
    Calls Tryz.prog 290 #[.int .u64 4] w fun e w' => e = .returned (.int .i64 2) ∧ w = w' := by
  have hc := h.c3
  clear h
  have e : IntKind.u64.wrap (bits .and .u64 4 (IntKind.u64.wrap (-4)) * 285870213051353865) / 288230376151711744 = 3 := by decide
  go_enter Tryz.func290, Tryz.ntmps290
  go_wp2
  go_ret
  exact ⟨rfl, rfl⟩

set_option maxRecDepth 100000 in
set_option maxHeartbeats 1000000 in
theorem tz_4 (w : World) (h : TZ w) :
    Calls Tryz.prog 285 #[.int .u64 4] w fun e w' => e = .returned (.int .i64 2) ∧ w = w' := by
  have H := Lib.hid h
  clear h
  go_enter Tryz.func285, Tryz.ntmps285
  go_wp2_with (go_at_call 290; refine (tzIn_4 _ H.out).mono ?_; rintro e w' ⟨rfl, rfl⟩)
  go_ret
  exact ⟨rfl, rfl⟩

set_option maxRecDepth 100000 in
set_option maxHeartbeats 1000000 in
theorem tzIn_8 (w : World) (h : TZ w) :
    Calls Tryz.prog 290 #[.int .u64 8] w fun e w' => e = .returned (.int .i64 3) ∧ w = w' := by
  have hc := h.c7
  clear h
  have e : IntKind.u64.wrap (bits .and .u64 8 (IntKind.u64.wrap (-8)) * 285870213051353865) / 288230376151711744 = 7 := by decide
  go_enter Tryz.func290, Tryz.ntmps290
  go_wp2
  go_ret
  exact ⟨rfl, rfl⟩

set_option maxRecDepth 100000 in
set_option maxHeartbeats 1000000 in
theorem tz_8 (w : World) (h : TZ w) :
    Calls Tryz.prog 285 #[.int .u64 8] w fun e w' => e = .returned (.int .i64 3) ∧ w = w' := by
  have H := Lib.hid h
  clear h
  go_enter Tryz.func285, Tryz.ntmps285
  go_wp2_with (go_at_call 290; refine (tzIn_8 _ H.out).mono ?_; rintro e w' ⟨rfl, rfl⟩)
  go_ret
  exact ⟨rfl, rfl⟩

set_option maxRecDepth 100000 in
set_option maxHeartbeats 1000000 in
theorem tzIn_16 (w : World) (h : TZ w) :
    Calls Tryz.prog 290 #[.int .u64 16] w fun e w' => e = .returned (.int .i64 4) ∧ w = w' := by
  have hc := h.c15
  clear h
  have e : IntKind.u64.wrap (bits .and .u64 16 (IntKind.u64.wrap (-16)) * 285870213051353865) / 288230376151711744 = 15 := by decide
  go_enter Tryz.func290, Tryz.ntmps290
  go_wp2
  go_ret
  exact ⟨rfl, rfl⟩

set_option maxRecDepth 100000 in
set_option maxHeartbeats 1000000 in
theorem tz_16 (w : World) (h : TZ w) :
    Calls Tryz.prog 285 #[.int .u64 16] w fun e w' => e = .returned (.int .i64 4) ∧ w = w' := by
  have H := Lib.hid h
  clear h
  go_enter Tryz.func285, Tryz.ntmps285
  go_wp2_with (go_at_call 290; refine (tzIn_16 _ H.out).mono ?_; rintro e w' ⟨rfl, rfl⟩)
  go_ret
  exact ⟨rfl, rfl⟩

end Go.Proofs.YthnbaeamekolmaaGreatDoor

namespace Go.Proofs.YthnbaeamekolmaaGreatDoor
open Go.RowKit
set_option linter.unusedVariables false
set_option linter.unusedSimpArgs false

theorem lt_cell {w : World} {x : Addr} {v : Value} (h : w.cell? x = some v) : x.block < w.heap.size := by
  rcases Nat.lt_or_ge x.block w.heap.size with h1 | h1
  · exact h1
  · simp [World.cell?, h1] at h

theorem tz_below {w w' : World} (h : TZ w) (hb : Below w.heap.size w w') : TZ w' :=
  ⟨by rw [hb.cell (lt_cell h.c1)]; exact h.c1, by rw [hb.cell (lt_cell h.c3)]; exact h.c3, by rw [hb.cell (lt_cell h.c7)]; exact h.c7, by rw [hb.cell (lt_cell h.c15)]; exact h.c15⟩

theorem and_low (q s : Nat) (hq : q < 18446744073709551616) (hs : s < 64) : bits .and .u64 (q : Int) (((2 ^ s - 1 : Nat) : Nat) : Int) = ((q % 2 ^ s : Nat) : Int) := by
  have hs2 : 2 ^ s - 1 < 2 ^ 64 := by
    have := Nat.pow_lt_pow_right (a := 2) (by omega) hs
    omega
  have e : bits .and .u64 (q : Int) ((2 ^ s - 1 : Nat) : Int) = IntKind.u64.wrap (((BitVec.ofInt 64 (q : Int)) &&& (BitVec.ofInt 64 ((2 ^ s - 1 : Nat) : Int))).toNat : Int) := rfl
  rw [e, BitVec.toNat_and, BitVec.ofInt_natCast, BitVec.ofInt_natCast, BitVec.toNat_ofNat, BitVec.toNat_ofNat, Nat.mod_eq_of_lt (by omega : q < 2 ^ 64), Nat.mod_eq_of_lt hs2, Nat.and_two_pow_sub_one_eq_mod, IntKind.wrap_u64]
  have := Nat.mod_le q (2 ^ s)
  omega

set_option maxRecDepth 100000 in
set_option maxHeartbeats 2000000 in
theorem fmt_gen_neg (u b : Nat) (w : World) (h1 : 2 ≤ b) (h2 : b ≤ 16) (h10 : ((b : Int) == 10) = false) (hp : p2 b = false) (hu : u ≤ 2147483648) :
    Calls Tryz.prog 274 #[.slice none 0 0, .int .u64 (IntKind.u64.wrap (-(u : Int))), .int .i64 b, .bool true, .bool false] w fun e w' => e = .returned (.tuple #[.slice none 0 0, .string ⟨(45 :: digN lowD b u).toArray⟩]) ∧ Below w.heap.size w w' := by
  have LEN := Lib.hid (digN_33 (D := lowD) (b := b) h1 hu)
  have hwr : IntKind.u64.wrap (-IntKind.u64.wrap (-(u : Int))) = (u : Int) := by rw [IntKind.wrap_u64, IntKind.wrap_u64]; omega
  go_enter Tryz.func274, Tryz.ntmps274
  go_wp2_with (go_at_call 284; refine (pow_any _ _ h1 h2).mono ?_; rintro e w' ⟨rfl, rfl⟩)
  clear hwr
  go_loopw [13, 1] (fun i v wr => ∃ (k q : Nat) (S : List UInt8), i = .int .i64 ((k : Int) + 1) ∧ v = .int .u64 q ∧ q ≤ 2147483648 ∧ digN lowD b u = digN lowD b q ++ S ∧ Buf w w.heap.size (k + 1) S wr) (fun _ v _ => (intOf v).toNat)
  case atStart => exact ⟨64, u, [], rfl, rfl, hu, by simp, buf_new w _⟩
  case round =>
    obtain ⟨k, q, S, rfl, rfl, hq, hdig, hbuf⟩ := hrel
    have HB := Lib.hid hbuf
    have HD := Lib.hid hdig
    obtain ⟨v0, hv0⟩ := hbuf.cells k (by have := hbuf.len; omega)
    have hf0 := hbuf.free k
    have hk : k ≤ 64 := by have := hbuf.len; omega
    clear hbuf hdig
    by_cases hlt : b ≤ q
    · obtain ⟨r, hr⟩ : ∃ r : Nat, r = q % b := ⟨_, rfl⟩
      obtain ⟨q', hq'⟩ : ∃ q' : Nat, q' = q / b := ⟨_, rfl⟩
      obtain ⟨p, hp'⟩ : ∃ p : Nat, p = q' * b := ⟨_, rfl⟩
      have hpq : p + r = q := by rw [hp', hr, hq', Nat.mul_comm]; exact Nat.div_add_mod q b
      have e1 : ((q : Int) / (b : Int)) = q' := by rw [hq']; omega
      have e2 : ((q' : Int) * (b : Int)) = p := by rw [hp']; simp
      have e3 : ((q : Int) - (p : Int)) = r := by omega
      have hpx : p ≤ 2147483648 := by omega
      have hrb : r < 36 := by have := Nat.mod_lt q (by omega : 0 < b); omega
      have hq'x : q' ≤ 2147483648 := by rw [hq']; exact Nat.le_trans (Nat.div_le_self _ _) hq
      have hq'l : q' < q := by rw [hq']; exact Nat.div_lt_self (by omega) (by omega)
      have E : Hid (digN lowD b u = digN lowD b q' ++ (lowD r :: S)) := Lib.hid (by rw [HD.out, digN_step h1 hlt, hr, hq']; simp)
      have AT := Lib.hid (low_at r hrb)
      have K : Hid (1 ≤ k) := Lib.hid (by
        have l1 := congrArg List.length HD.out
        have l2 := LEN.out
        have l3 := HB.out.len
        simp at l1; omega)
      clear hr hq' hp' hpq
      go_wp2
      go_roundw
      case rel => exact ⟨k - 1, q', lowD r :: S, congrArg (Value.int .i64) (by have := K.out; omega), rfl, hq'x, E.out, by
        rw [show k - 1 + 1 = k from by have := K.out; omega, ← AT.out]; exact buf_store HB.out (Nat.le_refl _) _⟩
      case measure => simp [intOf]; omega
    · have hq36 : q < 36 := by omega
      have AT := Lib.hid (low_at q hq36)
      have E : Hid (digN lowD b u = lowD q :: S) := Lib.hid (by rw [HD.out, digN_small (by omega)]; rfl)
      have K : 1 ≤ k := by
        have l1 := congrArg List.length E.out
        have l2 := LEN.out
        have l3 := HB.out.len
        simp at l1; omega
      obtain ⟨j, rfl⟩ : ∃ j, k = j + 1 := ⟨k - 1, by omega⟩
      obtain ⟨m, hm⟩ : ∃ m, m = 65 - j := ⟨_, rfl⟩
      have hb1 := buf_store HB.out (Nat.le_refl _) ((⟨#[48, 49, 50, 51, 52, 53, 54, 55, 56, 57, 97, 98, 99, 100, 101, 102, 103, 104, 105, 106, 107, 108, 109, 110, 111, 112, 113, 114, 115, 116, 117, 118, 119, 120, 121, 122]⟩ : ByteArray)[q]'hq36)
      have hb2 := buf_store hb1 (Nat.le_refl _) 45
      obtain ⟨v1, hv1⟩ := HB.out.cells j (by omega)
      have hf1 := HB.out.free j
      have hk65 : j < 65 := by omega
      have hcv := buf_conv hb2 hm
      have hsl := cut_from w.heap.size j m hk65 hm
      have B1 := Lib.hid hb2.below
      have e45 : ((45 : UInt8).toNat : Int) = 45 := rfl
      rw [e45] at hcv
      clear hb1 hb2 hm K e45
      go_wp2
      go_ret2
      exact ⟨congrArg (fun s => Ending.returned (.tuple #[.slice none 0 0, .string s])) (by rw [E.out, ← AT.out]), B1.out⟩

set_option maxRecDepth 100000 in
set_option maxHeartbeats 2000000 in
theorem fmt_2 (u : Nat) (w : World) (hu : u ≤ 2147483648) (htz : TZ w) :
    Calls Tryz.prog 274 #[.slice none 0 0, .int .u64 u, .int .i64 2, .bool false, .bool false] w fun e w' => e = .returned (.tuple #[.slice none 0 0, .string ⟨(digN lowD 2 u).toArray⟩]) ∧ Below w.heap.size w w' := by
  have LEN := Lib.hid (digN_33 (D := lowD) (b := 2) (by omega) hu)
  have TZA := Lib.hid (tz_below htz ((Below.refl w.heap.size w).alloc (Nat.le_refl _) (.cells Tryz.zeroCells277 277)))
  clear htz
  have P2 : p2 2 = true := rfl
  have PP : Hid (∀ W, Calls Tryz.prog 284 #[.int .i64 2] W fun e w' => e = .returned (.bool (p2 2)) ∧ W = w') := Lib.hid fun W => pow_any 2 W (by omega) (by omega)
  go_enter Tryz.func274, Tryz.ntmps274
  go_wp2_with (first | (go_at_call 284; refine (PP.out _).mono ?_; rintro e w' ⟨rfl, rfl⟩) | (go_at_call 285; refine (tz_2 _ TZA.out).mono ?_; rintro e w' ⟨rfl, rfl⟩))
  go_loopw [13, 1] (fun i v wr => ∃ (k q : Nat) (S : List UInt8), i = .int .i64 ((k : Int) + 1) ∧ v = .int .u64 q ∧ q ≤ 2147483648 ∧ digN lowD 2 u = digN lowD 2 q ++ S ∧ Buf w w.heap.size (k + 1) S wr) (fun _ v _ => (intOf v).toNat)
  case atStart => exact ⟨64, u, [], rfl, rfl, hu, by simp, buf_new w _⟩
  case round =>
    obtain ⟨k, q, S, rfl, rfl, hq, hdig, hbuf⟩ := hrel
    have HB := Lib.hid hbuf
    have HD := Lib.hid hdig
    obtain ⟨v0, hv0⟩ := hbuf.cells k (by have := hbuf.len; omega)
    have hf0 := hbuf.free k
    have hk : k ≤ 64 := by have := hbuf.len; omega
    clear hbuf hdig
    by_cases hlt : 2 ≤ q
    · obtain ⟨r, hr⟩ : ∃ r : Nat, r = q % 2 := ⟨_, rfl⟩
      obtain ⟨q', hq'⟩ : ∃ q' : Nat, q' = q / 2 := ⟨_, rfl⟩
      have e1 : ((q : Int) / 2) = q' := by rw [hq']; omega
      have e2 : bits .and .u64 (q : Int) 1 = r := by have := and_low q 1 (by omega) (by omega); rw [hr]; exact this
      have hrb : r < 36 := by have := Nat.mod_lt q (by omega : 0 < 2); omega
      have hq'x : q' ≤ 2147483648 := by rw [hq']; exact Nat.le_trans (Nat.div_le_self _ _) hq
      have hq'l : q' < q := by rw [hq']; exact Nat.div_lt_self (by omega) (by omega)
      have E : Hid (digN lowD 2 u = digN lowD 2 q' ++ (lowD r :: S)) := Lib.hid (by rw [HD.out, digN_step (by omega) hlt, hr, hq']; simp)
      have AT := Lib.hid (low_at r hrb)
      have K : Hid (1 ≤ k) := Lib.hid (by
        have l1 := congrArg List.length HD.out
        have l2 := LEN.out
        have l3 := HB.out.len
        simp at l1; omega)
      clear hr hq'
      go_wp2
      go_roundw
      case rel => exact ⟨k - 1, q', lowD r :: S, congrArg (Value.int .i64) (by have := K.out; omega), rfl, hq'x, E.out, by
        rw [show k - 1 + 1 = k from by have := K.out; omega, ← AT.out]; exact buf_store HB.out (Nat.le_refl _) _⟩
      case measure => simp [intOf]; omega
    · have hq36 : q < 36 := by omega
      have AT := Lib.hid (low_at q hq36)
      have E : Hid (digN lowD 2 u = lowD q :: S) := Lib.hid (by rw [HD.out, digN_small (by omega)]; rfl)
      obtain ⟨m, hm⟩ : ∃ m, m = 65 - k := ⟨_, rfl⟩
      have hb1 := buf_store HB.out (Nat.le_refl _) ((⟨#[48, 49, 50, 51, 52, 53, 54, 55, 56, 57, 97, 98, 99, 100, 101, 102, 103, 104, 105, 106, 107, 108, 109, 110, 111, 112, 113, 114, 115, 116, 117, 118, 119, 120, 121, 122]⟩ : ByteArray)[q]'hq36)
      have hk65 : k < 65 := by omega
      have hcv := buf_conv hb1 hm
      have hsl := cut_from w.heap.size k m hk65 hm
      have B1 := Lib.hid hb1.below
      clear hb1 hm
      go_wp2
      go_ret2
      exact ⟨congrArg (fun s => Ending.returned (.tuple #[.slice none 0 0, .string s])) (by rw [E.out, ← AT.out]), B1.out⟩

set_option maxRecDepth 100000 in
set_option maxHeartbeats 2000000 in
theorem fmt_4 (u : Nat) (w : World) (hu : u ≤ 2147483648) (htz : TZ w) :
    Calls Tryz.prog 274 #[.slice none 0 0, .int .u64 u, .int .i64 4, .bool false, .bool false] w fun e w' => e = .returned (.tuple #[.slice none 0 0, .string ⟨(digN lowD 4 u).toArray⟩]) ∧ Below w.heap.size w w' := by
  have LEN := Lib.hid (digN_33 (D := lowD) (b := 4) (by omega) hu)
  have TZA := Lib.hid (tz_below htz ((Below.refl w.heap.size w).alloc (Nat.le_refl _) (.cells Tryz.zeroCells277 277)))
  clear htz
  have P2 : p2 4 = true := rfl
  have PP : Hid (∀ W, Calls Tryz.prog 284 #[.int .i64 4] W fun e w' => e = .returned (.bool (p2 4)) ∧ W = w') := Lib.hid fun W => pow_any 4 W (by omega) (by omega)
  go_enter Tryz.func274, Tryz.ntmps274
  go_wp2_with (first | (go_at_call 284; refine (PP.out _).mono ?_; rintro e w' ⟨rfl, rfl⟩) | (go_at_call 285; refine (tz_4 _ TZA.out).mono ?_; rintro e w' ⟨rfl, rfl⟩))
  go_loopw [13, 1] (fun i v wr => ∃ (k q : Nat) (S : List UInt8), i = .int .i64 ((k : Int) + 1) ∧ v = .int .u64 q ∧ q ≤ 2147483648 ∧ digN lowD 4 u = digN lowD 4 q ++ S ∧ Buf w w.heap.size (k + 1) S wr) (fun _ v _ => (intOf v).toNat)
  case atStart => exact ⟨64, u, [], rfl, rfl, hu, by simp, buf_new w _⟩
  case round =>
    obtain ⟨k, q, S, rfl, rfl, hq, hdig, hbuf⟩ := hrel
    have HB := Lib.hid hbuf
    have HD := Lib.hid hdig
    obtain ⟨v0, hv0⟩ := hbuf.cells k (by have := hbuf.len; omega)
    have hf0 := hbuf.free k
    have hk : k ≤ 64 := by have := hbuf.len; omega
    clear hbuf hdig
    by_cases hlt : 4 ≤ q
    · obtain ⟨r, hr⟩ : ∃ r : Nat, r = q % 4 := ⟨_, rfl⟩
      obtain ⟨q', hq'⟩ : ∃ q' : Nat, q' = q / 4 := ⟨_, rfl⟩
      have e1 : ((q : Int) / 4) = q' := by rw [hq']; omega
      have e2 : bits .and .u64 (q : Int) 3 = r := by have := and_low q 2 (by omega) (by omega); rw [hr]; exact this
      have hrb : r < 36 := by have := Nat.mod_lt q (by omega : 0 < 4); omega
      have hq'x : q' ≤ 2147483648 := by rw [hq']; exact Nat.le_trans (Nat.div_le_self _ _) hq
      have hq'l : q' < q := by rw [hq']; exact Nat.div_lt_self (by omega) (by omega)
      have E : Hid (digN lowD 4 u = digN lowD 4 q' ++ (lowD r :: S)) := Lib.hid (by rw [HD.out, digN_step (by omega) hlt, hr, hq']; simp)
      have AT := Lib.hid (low_at r hrb)
      have K : Hid (1 ≤ k) := Lib.hid (by
        have l1 := congrArg List.length HD.out
        have l2 := LEN.out
        have l3 := HB.out.len
        simp at l1; omega)
      clear hr hq'
      go_wp2
      go_roundw
      case rel => exact ⟨k - 1, q', lowD r :: S, congrArg (Value.int .i64) (by have := K.out; omega), rfl, hq'x, E.out, by
        rw [show k - 1 + 1 = k from by have := K.out; omega, ← AT.out]; exact buf_store HB.out (Nat.le_refl _) _⟩
      case measure => simp [intOf]; omega
    · have hq36 : q < 36 := by omega
      have AT := Lib.hid (low_at q hq36)
      have E : Hid (digN lowD 4 u = lowD q :: S) := Lib.hid (by rw [HD.out, digN_small (by omega)]; rfl)
      obtain ⟨m, hm⟩ : ∃ m, m = 65 - k := ⟨_, rfl⟩
      have hb1 := buf_store HB.out (Nat.le_refl _) ((⟨#[48, 49, 50, 51, 52, 53, 54, 55, 56, 57, 97, 98, 99, 100, 101, 102, 103, 104, 105, 106, 107, 108, 109, 110, 111, 112, 113, 114, 115, 116, 117, 118, 119, 120, 121, 122]⟩ : ByteArray)[q]'hq36)
      have hk65 : k < 65 := by omega
      have hcv := buf_conv hb1 hm
      have hsl := cut_from w.heap.size k m hk65 hm
      have B1 := Lib.hid hb1.below
      clear hb1 hm
      go_wp2
      go_ret2
      exact ⟨congrArg (fun s => Ending.returned (.tuple #[.slice none 0 0, .string s])) (by rw [E.out, ← AT.out]), B1.out⟩

set_option maxRecDepth 100000 in
set_option maxHeartbeats 2000000 in
theorem fmt_8 (u : Nat) (w : World) (hu : u ≤ 2147483648) (htz : TZ w) :
    Calls Tryz.prog 274 #[.slice none 0 0, .int .u64 u, .int .i64 8, .bool false, .bool false] w fun e w' => e = .returned (.tuple #[.slice none 0 0, .string ⟨(digN lowD 8 u).toArray⟩]) ∧ Below w.heap.size w w' := by
  have LEN := Lib.hid (digN_33 (D := lowD) (b := 8) (by omega) hu)
  have TZA := Lib.hid (tz_below htz ((Below.refl w.heap.size w).alloc (Nat.le_refl _) (.cells Tryz.zeroCells277 277)))
  clear htz
  have P2 : p2 8 = true := rfl
  have PP : Hid (∀ W, Calls Tryz.prog 284 #[.int .i64 8] W fun e w' => e = .returned (.bool (p2 8)) ∧ W = w') := Lib.hid fun W => pow_any 8 W (by omega) (by omega)
  go_enter Tryz.func274, Tryz.ntmps274
  go_wp2_with (first | (go_at_call 284; refine (PP.out _).mono ?_; rintro e w' ⟨rfl, rfl⟩) | (go_at_call 285; refine (tz_8 _ TZA.out).mono ?_; rintro e w' ⟨rfl, rfl⟩))
  go_loopw [13, 1] (fun i v wr => ∃ (k q : Nat) (S : List UInt8), i = .int .i64 ((k : Int) + 1) ∧ v = .int .u64 q ∧ q ≤ 2147483648 ∧ digN lowD 8 u = digN lowD 8 q ++ S ∧ Buf w w.heap.size (k + 1) S wr) (fun _ v _ => (intOf v).toNat)
  case atStart => exact ⟨64, u, [], rfl, rfl, hu, by simp, buf_new w _⟩
  case round =>
    obtain ⟨k, q, S, rfl, rfl, hq, hdig, hbuf⟩ := hrel
    have HB := Lib.hid hbuf
    have HD := Lib.hid hdig
    obtain ⟨v0, hv0⟩ := hbuf.cells k (by have := hbuf.len; omega)
    have hf0 := hbuf.free k
    have hk : k ≤ 64 := by have := hbuf.len; omega
    clear hbuf hdig
    by_cases hlt : 8 ≤ q
    · obtain ⟨r, hr⟩ : ∃ r : Nat, r = q % 8 := ⟨_, rfl⟩
      obtain ⟨q', hq'⟩ : ∃ q' : Nat, q' = q / 8 := ⟨_, rfl⟩
      have e1 : ((q : Int) / 8) = q' := by rw [hq']; omega
      have e2 : bits .and .u64 (q : Int) 7 = r := by have := and_low q 3 (by omega) (by omega); rw [hr]; exact this
      have hrb : r < 36 := by have := Nat.mod_lt q (by omega : 0 < 8); omega
      have hq'x : q' ≤ 2147483648 := by rw [hq']; exact Nat.le_trans (Nat.div_le_self _ _) hq
      have hq'l : q' < q := by rw [hq']; exact Nat.div_lt_self (by omega) (by omega)
      have E : Hid (digN lowD 8 u = digN lowD 8 q' ++ (lowD r :: S)) := Lib.hid (by rw [HD.out, digN_step (by omega) hlt, hr, hq']; simp)
      have AT := Lib.hid (low_at r hrb)
      have K : Hid (1 ≤ k) := Lib.hid (by
        have l1 := congrArg List.length HD.out
        have l2 := LEN.out
        have l3 := HB.out.len
        simp at l1; omega)
      clear hr hq'
      go_wp2
      go_roundw
      case rel => exact ⟨k - 1, q', lowD r :: S, congrArg (Value.int .i64) (by have := K.out; omega), rfl, hq'x, E.out, by
        rw [show k - 1 + 1 = k from by have := K.out; omega, ← AT.out]; exact buf_store HB.out (Nat.le_refl _) _⟩
      case measure => simp [intOf]; omega
    · have hq36 : q < 36 := by omega
      have AT := Lib.hid (low_at q hq36)
      have E : Hid (digN lowD 8 u = lowD q :: S) := Lib.hid (by rw [HD.out, digN_small (by omega)]; rfl)
      obtain ⟨m, hm⟩ : ∃ m, m = 65 - k := ⟨_, rfl⟩
      have hb1 := buf_store HB.out (Nat.le_refl _) ((⟨#[48, 49, 50, 51, 52, 53, 54, 55, 56, 57, 97, 98, 99, 100, 101, 102, 103, 104, 105, 106, 107, 108, 109, 110, 111, 112, 113, 114, 115, 116, 117, 118, 119, 120, 121, 122]⟩ : ByteArray)[q]'hq36)
      have hk65 : k < 65 := by omega
      have hcv := buf_conv hb1 hm
      have hsl := cut_from w.heap.size k m hk65 hm
      have B1 := Lib.hid hb1.below
      clear hb1 hm
      go_wp2
      go_ret2
      exact ⟨congrArg (fun s => Ending.returned (.tuple #[.slice none 0 0, .string s])) (by rw [E.out, ← AT.out]), B1.out⟩

set_option maxRecDepth 100000 in
set_option maxHeartbeats 2000000 in
theorem fmt_16 (u : Nat) (w : World) (hu : u ≤ 2147483648) (htz : TZ w) :
    Calls Tryz.prog 274 #[.slice none 0 0, .int .u64 u, .int .i64 16, .bool false, .bool false] w fun e w' => e = .returned (.tuple #[.slice none 0 0, .string ⟨(digN lowD 16 u).toArray⟩]) ∧ Below w.heap.size w w' := by
  have LEN := Lib.hid (digN_33 (D := lowD) (b := 16) (by omega) hu)
  have TZA := Lib.hid (tz_below htz ((Below.refl w.heap.size w).alloc (Nat.le_refl _) (.cells Tryz.zeroCells277 277)))
  clear htz
  have P2 : p2 16 = true := rfl
  have PP : Hid (∀ W, Calls Tryz.prog 284 #[.int .i64 16] W fun e w' => e = .returned (.bool (p2 16)) ∧ W = w') := Lib.hid fun W => pow_any 16 W (by omega) (by omega)
  go_enter Tryz.func274, Tryz.ntmps274
  go_wp2_with (first | (go_at_call 284; refine (PP.out _).mono ?_; rintro e w' ⟨rfl, rfl⟩) | (go_at_call 285; refine (tz_16 _ TZA.out).mono ?_; rintro e w' ⟨rfl, rfl⟩))
  go_loopw [13, 1] (fun i v wr => ∃ (k q : Nat) (S : List UInt8), i = .int .i64 ((k : Int) + 1) ∧ v = .int .u64 q ∧ q ≤ 2147483648 ∧ digN lowD 16 u = digN lowD 16 q ++ S ∧ Buf w w.heap.size (k + 1) S wr) (fun _ v _ => (intOf v).toNat)
  case atStart => exact ⟨64, u, [], rfl, rfl, hu, by simp, buf_new w _⟩
  case round =>
    obtain ⟨k, q, S, rfl, rfl, hq, hdig, hbuf⟩ := hrel
    have HB := Lib.hid hbuf
    have HD := Lib.hid hdig
    obtain ⟨v0, hv0⟩ := hbuf.cells k (by have := hbuf.len; omega)
    have hf0 := hbuf.free k
    have hk : k ≤ 64 := by have := hbuf.len; omega
    clear hbuf hdig
    by_cases hlt : 16 ≤ q
    · obtain ⟨r, hr⟩ : ∃ r : Nat, r = q % 16 := ⟨_, rfl⟩
      obtain ⟨q', hq'⟩ : ∃ q' : Nat, q' = q / 16 := ⟨_, rfl⟩
      have e1 : ((q : Int) / 16) = q' := by rw [hq']; omega
      have e2 : bits .and .u64 (q : Int) 15 = r := by have := and_low q 4 (by omega) (by omega); rw [hr]; exact this
      have hrb : r < 36 := by have := Nat.mod_lt q (by omega : 0 < 16); omega
      have hq'x : q' ≤ 2147483648 := by rw [hq']; exact Nat.le_trans (Nat.div_le_self _ _) hq
      have hq'l : q' < q := by rw [hq']; exact Nat.div_lt_self (by omega) (by omega)
      have E : Hid (digN lowD 16 u = digN lowD 16 q' ++ (lowD r :: S)) := Lib.hid (by rw [HD.out, digN_step (by omega) hlt, hr, hq']; simp)
      have AT := Lib.hid (low_at r hrb)
      have K : Hid (1 ≤ k) := Lib.hid (by
        have l1 := congrArg List.length HD.out
        have l2 := LEN.out
        have l3 := HB.out.len
        simp at l1; omega)
      clear hr hq'
      go_wp2
      go_roundw
      case rel => exact ⟨k - 1, q', lowD r :: S, congrArg (Value.int .i64) (by have := K.out; omega), rfl, hq'x, E.out, by
        rw [show k - 1 + 1 = k from by have := K.out; omega, ← AT.out]; exact buf_store HB.out (Nat.le_refl _) _⟩
      case measure => simp [intOf]; omega
    · have hq36 : q < 36 := by omega
      have AT := Lib.hid (low_at q hq36)
      have E : Hid (digN lowD 16 u = lowD q :: S) := Lib.hid (by rw [HD.out, digN_small (by omega)]; rfl)
      obtain ⟨m, hm⟩ : ∃ m, m = 65 - k := ⟨_, rfl⟩
      have hb1 := buf_store HB.out (Nat.le_refl _) ((⟨#[48, 49, 50, 51, 52, 53, 54, 55, 56, 57, 97, 98, 99, 100, 101, 102, 103, 104, 105, 106, 107, 108, 109, 110, 111, 112, 113, 114, 115, 116, 117, 118, 119, 120, 121, 122]⟩ : ByteArray)[q]'hq36)
      have hk65 : k < 65 := by omega
      have hcv := buf_conv hb1 hm
      have hsl := cut_from w.heap.size k m hk65 hm
      have B1 := Lib.hid hb1.below
      clear hb1 hm
      go_wp2
      go_ret2
      exact ⟨congrArg (fun s => Ending.returned (.tuple #[.slice none 0 0, .string s])) (by rw [E.out, ← AT.out]), B1.out⟩

set_option maxRecDepth 100000 in
set_option maxHeartbeats 2000000 in
theorem fmt_2_neg (u : Nat) (w : World) (hu : u ≤ 2147483648) (htz : TZ w) :
    Calls Tryz.prog 274 #[.slice none 0 0, .int .u64 (IntKind.u64.wrap (-(u : Int))), .int .i64 2, .bool true, .bool false] w fun e w' => e = .returned (.tuple #[.slice none 0 0, .string ⟨(45 :: digN lowD 2 u).toArray⟩]) ∧ Below w.heap.size w w' := by
  have LEN := Lib.hid (digN_33 (D := lowD) (b := 2) (by omega) hu)
  have hwr : IntKind.u64.wrap (-IntKind.u64.wrap (-(u : Int))) = (u : Int) := by rw [IntKind.wrap_u64, IntKind.wrap_u64]; omega
  have TZA := Lib.hid (tz_below htz ((Below.refl w.heap.size w).alloc (Nat.le_refl _) (.cells Tryz.zeroCells277 277)))
  clear htz
  have P2 : p2 2 = true := rfl
  have PP : Hid (∀ W, Calls Tryz.prog 284 #[.int .i64 2] W fun e w' => e = .returned (.bool (p2 2)) ∧ W = w') := Lib.hid fun W => pow_any 2 W (by omega) (by omega)
  go_enter Tryz.func274, Tryz.ntmps274
  go_wp2_with (first | (go_at_call 284; refine (PP.out _).mono ?_; rintro e w' ⟨rfl, rfl⟩) | (go_at_call 285; refine (tz_2 _ TZA.out).mono ?_; rintro e w' ⟨rfl, rfl⟩))
  clear hwr
  go_loopw [13, 1] (fun i v wr => ∃ (k q : Nat) (S : List UInt8), i = .int .i64 ((k : Int) + 1) ∧ v = .int .u64 q ∧ q ≤ 2147483648 ∧ digN lowD 2 u = digN lowD 2 q ++ S ∧ Buf w w.heap.size (k + 1) S wr) (fun _ v _ => (intOf v).toNat)
  case atStart => exact ⟨64, u, [], rfl, rfl, hu, by simp, buf_new w _⟩
  case round =>
    obtain ⟨k, q, S, rfl, rfl, hq, hdig, hbuf⟩ := hrel
    have HB := Lib.hid hbuf
    have HD := Lib.hid hdig
    obtain ⟨v0, hv0⟩ := hbuf.cells k (by have := hbuf.len; omega)
    have hf0 := hbuf.free k
    have hk : k ≤ 64 := by have := hbuf.len; omega
    clear hbuf hdig
    by_cases hlt : 2 ≤ q
    · obtain ⟨r, hr⟩ : ∃ r : Nat, r = q % 2 := ⟨_, rfl⟩
      obtain ⟨q', hq'⟩ : ∃ q' : Nat, q' = q / 2 := ⟨_, rfl⟩
      have e1 : ((q : Int) / 2) = q' := by rw [hq']; omega
      have e2 : bits .and .u64 (q : Int) 1 = r := by have := and_low q 1 (by omega) (by omega); rw [hr]; exact this
      have hrb : r < 36 := by have := Nat.mod_lt q (by omega : 0 < 2); omega
      have hq'x : q' ≤ 2147483648 := by rw [hq']; exact Nat.le_trans (Nat.div_le_self _ _) hq
      have hq'l : q' < q := by rw [hq']; exact Nat.div_lt_self (by omega) (by omega)
      have E : Hid (digN lowD 2 u = digN lowD 2 q' ++ (lowD r :: S)) := Lib.hid (by rw [HD.out, digN_step (by omega) hlt, hr, hq']; simp)
      have AT := Lib.hid (low_at r hrb)
      have K : Hid (1 ≤ k) := Lib.hid (by
        have l1 := congrArg List.length HD.out
        have l2 := LEN.out
        have l3 := HB.out.len
        simp at l1; omega)
      clear hr hq'
      go_wp2
      go_roundw
      case rel => exact ⟨k - 1, q', lowD r :: S, congrArg (Value.int .i64) (by have := K.out; omega), rfl, hq'x, E.out, by
        rw [show k - 1 + 1 = k from by have := K.out; omega, ← AT.out]; exact buf_store HB.out (Nat.le_refl _) _⟩
      case measure => simp [intOf]; omega
    · have hq36 : q < 36 := by omega
      have AT := Lib.hid (low_at q hq36)
      have E : Hid (digN lowD 2 u = lowD q :: S) := Lib.hid (by rw [HD.out, digN_small (by omega)]; rfl)
      have K : 1 ≤ k := by
        have l1 := congrArg List.length E.out
        have l2 := LEN.out
        have l3 := HB.out.len
        simp at l1; omega
      obtain ⟨j, rfl⟩ : ∃ j, k = j + 1 := ⟨k - 1, by omega⟩
      obtain ⟨m, hm⟩ : ∃ m, m = 65 - j := ⟨_, rfl⟩
      have hb1 := buf_store HB.out (Nat.le_refl _) ((⟨#[48, 49, 50, 51, 52, 53, 54, 55, 56, 57, 97, 98, 99, 100, 101, 102, 103, 104, 105, 106, 107, 108, 109, 110, 111, 112, 113, 114, 115, 116, 117, 118, 119, 120, 121, 122]⟩ : ByteArray)[q]'hq36)
      have hb2 := buf_store hb1 (Nat.le_refl _) 45
      obtain ⟨v1, hv1⟩ := HB.out.cells j (by omega)
      have hf1 := HB.out.free j
      have hk65 : j < 65 := by omega
      have hcv := buf_conv hb2 hm
      have hsl := cut_from w.heap.size j m hk65 hm
      have B1 := Lib.hid hb2.below
      have e45 : ((45 : UInt8).toNat : Int) = 45 := rfl
      rw [e45] at hcv
      clear hb1 hb2 hm K e45
      go_wp2
      go_ret2
      exact ⟨congrArg (fun s => Ending.returned (.tuple #[.slice none 0 0, .string s])) (by rw [E.out, ← AT.out]), B1.out⟩

set_option maxRecDepth 100000 in
set_option maxHeartbeats 2000000 in
theorem fmt_4_neg (u : Nat) (w : World) (hu : u ≤ 2147483648) (htz : TZ w) :
    Calls Tryz.prog 274 #[.slice none 0 0, .int .u64 (IntKind.u64.wrap (-(u : Int))), .int .i64 4, .bool true, .bool false] w fun e w' => e = .returned (.tuple #[.slice none 0 0, .string ⟨(45 :: digN lowD 4 u).toArray⟩]) ∧ Below w.heap.size w w' := by
  have LEN := Lib.hid (digN_33 (D := lowD) (b := 4) (by omega) hu)
  have hwr : IntKind.u64.wrap (-IntKind.u64.wrap (-(u : Int))) = (u : Int) := by rw [IntKind.wrap_u64, IntKind.wrap_u64]; omega
  have TZA := Lib.hid (tz_below htz ((Below.refl w.heap.size w).alloc (Nat.le_refl _) (.cells Tryz.zeroCells277 277)))
  clear htz
  have P2 : p2 4 = true := rfl
  have PP : Hid (∀ W, Calls Tryz.prog 284 #[.int .i64 4] W fun e w' => e = .returned (.bool (p2 4)) ∧ W = w') := Lib.hid fun W => pow_any 4 W (by omega) (by omega)
  go_enter Tryz.func274, Tryz.ntmps274
  go_wp2_with (first | (go_at_call 284; refine (PP.out _).mono ?_; rintro e w' ⟨rfl, rfl⟩) | (go_at_call 285; refine (tz_4 _ TZA.out).mono ?_; rintro e w' ⟨rfl, rfl⟩))
  clear hwr
  go_loopw [13, 1] (fun i v wr => ∃ (k q : Nat) (S : List UInt8), i = .int .i64 ((k : Int) + 1) ∧ v = .int .u64 q ∧ q ≤ 2147483648 ∧ digN lowD 4 u = digN lowD 4 q ++ S ∧ Buf w w.heap.size (k + 1) S wr) (fun _ v _ => (intOf v).toNat)
  case atStart => exact ⟨64, u, [], rfl, rfl, hu, by simp, buf_new w _⟩
  case round =>
    obtain ⟨k, q, S, rfl, rfl, hq, hdig, hbuf⟩ := hrel
    have HB := Lib.hid hbuf
    have HD := Lib.hid hdig
    obtain ⟨v0, hv0⟩ := hbuf.cells k (by have := hbuf.len; omega)
    have hf0 := hbuf.free k
    have hk : k ≤ 64 := by have := hbuf.len; omega
    clear hbuf hdig
    by_cases hlt : 4 ≤ q
    · obtain ⟨r, hr⟩ : ∃ r : Nat, r = q % 4 := ⟨_, rfl⟩
      obtain ⟨q', hq'⟩ : ∃ q' : Nat, q' = q / 4 := ⟨_, rfl⟩
      have e1 : ((q : Int) / 4) = q' := by rw [hq']; omega
      have e2 : bits .and .u64 (q : Int) 3 = r := by have := and_low q 2 (by omega) (by omega); rw [hr]; exact this
      have hrb : r < 36 := by have := Nat.mod_lt q (by omega : 0 < 4); omega
      have hq'x : q' ≤ 2147483648 := by rw [hq']; exact Nat.le_trans (Nat.div_le_self _ _) hq
      have hq'l : q' < q := by rw [hq']; exact Nat.div_lt_self (by omega) (by omega)
      have E : Hid (digN lowD 4 u = digN lowD 4 q' ++ (lowD r :: S)) := Lib.hid (by rw [HD.out, digN_step (by omega) hlt, hr, hq']; simp)
      have AT := Lib.hid (low_at r hrb)
      have K : Hid (1 ≤ k) := Lib.hid (by
        have l1 := congrArg List.length HD.out
        have l2 := LEN.out
        have l3 := HB.out.len
        simp at l1; omega)
      clear hr hq'
      go_wp2
      go_roundw
      case rel => exact ⟨k - 1, q', lowD r :: S, congrArg (Value.int .i64) (by have := K.out; omega), rfl, hq'x, E.out, by
        rw [show k - 1 + 1 = k from by have := K.out; omega, ← AT.out]; exact buf_store HB.out (Nat.le_refl _) _⟩
      case measure => simp [intOf]; omega
    · have hq36 : q < 36 := by omega
      have AT := Lib.hid (low_at q hq36)
      have E : Hid (digN lowD 4 u = lowD q :: S) := Lib.hid (by rw [HD.out, digN_small (by omega)]; rfl)
      have K : 1 ≤ k := by
        have l1 := congrArg List.length E.out
        have l2 := LEN.out
        have l3 := HB.out.len
        simp at l1; omega
      obtain ⟨j, rfl⟩ : ∃ j, k = j + 1 := ⟨k - 1, by omega⟩
      obtain ⟨m, hm⟩ : ∃ m, m = 65 - j := ⟨_, rfl⟩
      have hb1 := buf_store HB.out (Nat.le_refl _) ((⟨#[48, 49, 50, 51, 52, 53, 54, 55, 56, 57, 97, 98, 99, 100, 101, 102, 103, 104, 105, 106, 107, 108, 109, 110, 111, 112, 113, 114, 115, 116, 117, 118, 119, 120, 121, 122]⟩ : ByteArray)[q]'hq36)
      have hb2 := buf_store hb1 (Nat.le_refl _) 45
      obtain ⟨v1, hv1⟩ := HB.out.cells j (by omega)
      have hf1 := HB.out.free j
      have hk65 : j < 65 := by omega
      have hcv := buf_conv hb2 hm
      have hsl := cut_from w.heap.size j m hk65 hm
      have B1 := Lib.hid hb2.below
      have e45 : ((45 : UInt8).toNat : Int) = 45 := rfl
      rw [e45] at hcv
      clear hb1 hb2 hm K e45
      go_wp2
      go_ret2
      exact ⟨congrArg (fun s => Ending.returned (.tuple #[.slice none 0 0, .string s])) (by rw [E.out, ← AT.out]), B1.out⟩

set_option maxRecDepth 100000 in
set_option maxHeartbeats 2000000 in
theorem fmt_8_neg (u : Nat) (w : World) (hu : u ≤ 2147483648) (htz : TZ w) :
    Calls Tryz.prog 274 #[.slice none 0 0, .int .u64 (IntKind.u64.wrap (-(u : Int))), .int .i64 8, .bool true, .bool false] w fun e w' => e = .returned (.tuple #[.slice none 0 0, .string ⟨(45 :: digN lowD 8 u).toArray⟩]) ∧ Below w.heap.size w w' := by
  have LEN := Lib.hid (digN_33 (D := lowD) (b := 8) (by omega) hu)
  have hwr : IntKind.u64.wrap (-IntKind.u64.wrap (-(u : Int))) = (u : Int) := by rw [IntKind.wrap_u64, IntKind.wrap_u64]; omega
  have TZA := Lib.hid (tz_below htz ((Below.refl w.heap.size w).alloc (Nat.le_refl _) (.cells Tryz.zeroCells277 277)))
  clear htz
  have P2 : p2 8 = true := rfl
  have PP : Hid (∀ W, Calls Tryz.prog 284 #[.int .i64 8] W fun e w' => e = .returned (.bool (p2 8)) ∧ W = w') := Lib.hid fun W => pow_any 8 W (by omega) (by omega)
  go_enter Tryz.func274, Tryz.ntmps274
  go_wp2_with (first | (go_at_call 284; refine (PP.out _).mono ?_; rintro e w' ⟨rfl, rfl⟩) | (go_at_call 285; refine (tz_8 _ TZA.out).mono ?_; rintro e w' ⟨rfl, rfl⟩))
  clear hwr
  go_loopw [13, 1] (fun i v wr => ∃ (k q : Nat) (S : List UInt8), i = .int .i64 ((k : Int) + 1) ∧ v = .int .u64 q ∧ q ≤ 2147483648 ∧ digN lowD 8 u = digN lowD 8 q ++ S ∧ Buf w w.heap.size (k + 1) S wr) (fun _ v _ => (intOf v).toNat)
  case atStart => exact ⟨64, u, [], rfl, rfl, hu, by simp, buf_new w _⟩
  case round =>
    obtain ⟨k, q, S, rfl, rfl, hq, hdig, hbuf⟩ := hrel
    have HB := Lib.hid hbuf
    have HD := Lib.hid hdig
    obtain ⟨v0, hv0⟩ := hbuf.cells k (by have := hbuf.len; omega)
    have hf0 := hbuf.free k
    have hk : k ≤ 64 := by have := hbuf.len; omega
    clear hbuf hdig
    by_cases hlt : 8 ≤ q
    · obtain ⟨r, hr⟩ : ∃ r : Nat, r = q % 8 := ⟨_, rfl⟩
      obtain ⟨q', hq'⟩ : ∃ q' : Nat, q' = q / 8 := ⟨_, rfl⟩
      have e1 : ((q : Int) / 8) = q' := by rw [hq']; omega
      have e2 : bits .and .u64 (q : Int) 7 = r := by have := and_low q 3 (by omega) (by omega); rw [hr]; exact this
      have hrb : r < 36 := by have := Nat.mod_lt q (by omega : 0 < 8); omega
      have hq'x : q' ≤ 2147483648 := by rw [hq']; exact Nat.le_trans (Nat.div_le_self _ _) hq
      have hq'l : q' < q := by rw [hq']; exact Nat.div_lt_self (by omega) (by omega)
      have E : Hid (digN lowD 8 u = digN lowD 8 q' ++ (lowD r :: S)) := Lib.hid (by rw [HD.out, digN_step (by omega) hlt, hr, hq']; simp)
      have AT := Lib.hid (low_at r hrb)
      have K : Hid (1 ≤ k) := Lib.hid (by
        have l1 := congrArg List.length HD.out
        have l2 := LEN.out
        have l3 := HB.out.len
        simp at l1; omega)
      clear hr hq'
      go_wp2
      go_roundw
      case rel => exact ⟨k - 1, q', lowD r :: S, congrArg (Value.int .i64) (by have := K.out; omega), rfl, hq'x, E.out, by
        rw [show k - 1 + 1 = k from by have := K.out; omega, ← AT.out]; exact buf_store HB.out (Nat.le_refl _) _⟩
      case measure => simp [intOf]; omega
    · have hq36 : q < 36 := by omega
      have AT := Lib.hid (low_at q hq36)
      have E : Hid (digN lowD 8 u = lowD q :: S) := Lib.hid (by rw [HD.out, digN_small (by omega)]; rfl)
      have K : 1 ≤ k := by
        have l1 := congrArg List.length E.out
        have l2 := LEN.out
        have l3 := HB.out.len
        simp at l1; omega
      obtain ⟨j, rfl⟩ : ∃ j, k = j + 1 := ⟨k - 1, by omega⟩
      obtain ⟨m, hm⟩ : ∃ m, m = 65 - j := ⟨_, rfl⟩
      have hb1 := buf_store HB.out (Nat.le_refl _) ((⟨#[48, 49, 50, 51, 52, 53, 54, 55, 56, 57, 97, 98, 99, 100, 101, 102, 103, 104, 105, 106, 107, 108, 109, 110, 111, 112, 113, 114, 115, 116, 117, 118, 119, 120, 121, 122]⟩ : ByteArray)[q]'hq36)
      have hb2 := buf_store hb1 (Nat.le_refl _) 45
      obtain ⟨v1, hv1⟩ := HB.out.cells j (by omega)
      have hf1 := HB.out.free j
      have hk65 : j < 65 := by omega
      have hcv := buf_conv hb2 hm
      have hsl := cut_from w.heap.size j m hk65 hm
      have B1 := Lib.hid hb2.below
      have e45 : ((45 : UInt8).toNat : Int) = 45 := rfl
      rw [e45] at hcv
      clear hb1 hb2 hm K e45
      go_wp2
      go_ret2
      exact ⟨congrArg (fun s => Ending.returned (.tuple #[.slice none 0 0, .string s])) (by rw [E.out, ← AT.out]), B1.out⟩

set_option maxRecDepth 100000 in
set_option maxHeartbeats 2000000 in
theorem fmt_16_neg (u : Nat) (w : World) (hu : u ≤ 2147483648) (htz : TZ w) :
    Calls Tryz.prog 274 #[.slice none 0 0, .int .u64 (IntKind.u64.wrap (-(u : Int))), .int .i64 16, .bool true, .bool false] w fun e w' => e = .returned (.tuple #[.slice none 0 0, .string ⟨(45 :: digN lowD 16 u).toArray⟩]) ∧ Below w.heap.size w w' := by
  have LEN := Lib.hid (digN_33 (D := lowD) (b := 16) (by omega) hu)
  have hwr : IntKind.u64.wrap (-IntKind.u64.wrap (-(u : Int))) = (u : Int) := by rw [IntKind.wrap_u64, IntKind.wrap_u64]; omega
  have TZA := Lib.hid (tz_below htz ((Below.refl w.heap.size w).alloc (Nat.le_refl _) (.cells Tryz.zeroCells277 277)))
  clear htz
  have P2 : p2 16 = true := rfl
  have PP : Hid (∀ W, Calls Tryz.prog 284 #[.int .i64 16] W fun e w' => e = .returned (.bool (p2 16)) ∧ W = w') := Lib.hid fun W => pow_any 16 W (by omega) (by omega)
  go_enter Tryz.func274, Tryz.ntmps274
  go_wp2_with (first | (go_at_call 284; refine (PP.out _).mono ?_; rintro e w' ⟨rfl, rfl⟩) | (go_at_call 285; refine (tz_16 _ TZA.out).mono ?_; rintro e w' ⟨rfl, rfl⟩))
  clear hwr
  go_loopw [13, 1] (fun i v wr => ∃ (k q : Nat) (S : List UInt8), i = .int .i64 ((k : Int) + 1) ∧ v = .int .u64 q ∧ q ≤ 2147483648 ∧ digN lowD 16 u = digN lowD 16 q ++ S ∧ Buf w w.heap.size (k + 1) S wr) (fun _ v _ => (intOf v).toNat)
  case atStart => exact ⟨64, u, [], rfl, rfl, hu, by simp, buf_new w _⟩
  case round =>
    obtain ⟨k, q, S, rfl, rfl, hq, hdig, hbuf⟩ := hrel
    have HB := Lib.hid hbuf
    have HD := Lib.hid hdig
    obtain ⟨v0, hv0⟩ := hbuf.cells k (by have := hbuf.len; omega)
    have hf0 := hbuf.free k
    have hk : k ≤ 64 := by have := hbuf.len; omega
    clear hbuf hdig
    by_cases hlt : 16 ≤ q
    · obtain ⟨r, hr⟩ : ∃ r : Nat, r = q % 16 := ⟨_, rfl⟩
      obtain ⟨q', hq'⟩ : ∃ q' : Nat, q' = q / 16 := ⟨_, rfl⟩
      have e1 : ((q : Int) / 16) = q' := by rw [hq']; omega
      have e2 : bits .and .u64 (q : Int) 15 = r := by have := and_low q 4 (by omega) (by omega); rw [hr]; exact this
      have hrb : r < 36 := by have := Nat.mod_lt q (by omega : 0 < 16); omega
      have hq'x : q' ≤ 2147483648 := by rw [hq']; exact Nat.le_trans (Nat.div_le_self _ _) hq
      have hq'l : q' < q := by rw [hq']; exact Nat.div_lt_self (by omega) (by omega)
      have E : Hid (digN lowD 16 u = digN lowD 16 q' ++ (lowD r :: S)) := Lib.hid (by rw [HD.out, digN_step (by omega) hlt, hr, hq']; simp)
      have AT := Lib.hid (low_at r hrb)
      have K : Hid (1 ≤ k) := Lib.hid (by
        have l1 := congrArg List.length HD.out
        have l2 := LEN.out
        have l3 := HB.out.len
        simp at l1; omega)
      clear hr hq'
      go_wp2
      go_roundw
      case rel => exact ⟨k - 1, q', lowD r :: S, congrArg (Value.int .i64) (by have := K.out; omega), rfl, hq'x, E.out, by
        rw [show k - 1 + 1 = k from by have := K.out; omega, ← AT.out]; exact buf_store HB.out (Nat.le_refl _) _⟩
      case measure => simp [intOf]; omega
    · have hq36 : q < 36 := by omega
      have AT := Lib.hid (low_at q hq36)
      have E : Hid (digN lowD 16 u = lowD q :: S) := Lib.hid (by rw [HD.out, digN_small (by omega)]; rfl)
      have K : 1 ≤ k := by
        have l1 := congrArg List.length E.out
        have l2 := LEN.out
        have l3 := HB.out.len
        simp at l1; omega
      obtain ⟨j, rfl⟩ : ∃ j, k = j + 1 := ⟨k - 1, by omega⟩
      obtain ⟨m, hm⟩ : ∃ m, m = 65 - j := ⟨_, rfl⟩
      have hb1 := buf_store HB.out (Nat.le_refl _) ((⟨#[48, 49, 50, 51, 52, 53, 54, 55, 56, 57, 97, 98, 99, 100, 101, 102, 103, 104, 105, 106, 107, 108, 109, 110, 111, 112, 113, 114, 115, 116, 117, 118, 119, 120, 121, 122]⟩ : ByteArray)[q]'hq36)
      have hb2 := buf_store hb1 (Nat.le_refl _) 45
      obtain ⟨v1, hv1⟩ := HB.out.cells j (by omega)
      have hf1 := HB.out.free j
      have hk65 : j < 65 := by omega
      have hcv := buf_conv hb2 hm
      have hsl := cut_from w.heap.size j m hk65 hm
      have B1 := Lib.hid hb2.below
      have e45 : ((45 : UInt8).toNat : Int) = 45 := rfl
      rw [e45] at hcv
      clear hb1 hb2 hm K e45
      go_wp2
      go_ret2
      exact ⟨congrArg (fun s => Ending.returned (.tuple #[.slice none 0 0, .string s])) (by rw [E.out, ← AT.out]), B1.out⟩

end Go.Proofs.YthnbaeamekolmaaGreatDoor

namespace Go.Proofs.YthnbaeamekolmaaGreatDoor
open Go.RowKit
set_option linter.unusedVariables false
set_option linter.unusedSimpArgs false

theorem dec_eq (u : Nat) : Lib.decDigits u = digN lowD 10 u := by
  induction u using Nat.strongRecOn with
  | _ u ih =>
    by_cases h : u < 10
    · rw [Lib.decDigits, dif_pos h, digN_small h]; simp [lowD, h]
    · rw [Lib.decDigits, dif_neg h, digN_step (by omega) (by omega), ih (u / 10) (by omega)]
      have : u % 10 < 10 := by omega
      simp [lowD, this]

theorem itoa_eq (n : Int) : Lib.itoa n = textL lowD 10 n := by
  unfold Lib.itoa textL
  by_cases h : n < 0
  · rw [if_pos h, if_pos h, dec_eq]
  · rw [if_neg h, if_neg h, dec_eq]; congr 1; omega

theorem up_low : ∀ (k : Nat), k < 16 → Lib.upperB (lowD k) = upD k := by
  rintro (_ | _ | _ | _ | _ | _ | _ | _ | _ | _ | _ | _ | _ | _ | _ | _ | _) h <;> first | rfl | omega

theorem low_small : ∀ (k : Nat), k < 16 → (lowD k).toNat < 128 := by
  rintro (_ | _ | _ | _ | _ | _ | _ | _ | _ | _ | _ | _ | _ | _ | _ | _ | _) h <;> first | decide | omega

theorem upper_text {b : Nat} (hb : 2 ≤ b) (hb' : b ≤ 16) (n : Int) : Lib.toUpperA (textL lowD b n) = textL upD b n := by
  unfold Lib.toUpperA textL
  have h := digN_map (D := lowD) (E := upD) (f := Lib.upperB) hb (fun k hk => up_low k (by omega)) n.natAbs
  split
  · rw [List.map_cons, h]; rfl
  · exact h

theorem text_ascii {b : Nat} (hb : 2 ≤ b) (hb' : b ≤ 16) (n : Int) : ∀ c ∈ textL lowD b n, c.toNat < 128 := by
  have h := digN_all (D := lowD) (p := fun c => c.toNat < 128) hb (fun k hk => low_small k (by omega)) n.natAbs
  unfold textL
  split
  · intro c hc
    rcases List.mem_cons.1 hc with rfl | hc
    · decide
    · exact h c hc
  · exact h

theorem text_len {b : Nat} (hb : 2 ≤ b) {n : Int} (h1 : -2147483648 ≤ n) (h2 : n ≤ 2147483647) {D : Nat → UInt8} : (textL D b n).length ≤ 33 := by
  have h := digN_33 (D := D) hb (u := n.natAbs) (by omega)
  unfold textL
  split
  · simp; omega
  · omega

/-- formatBits at every base but 10, of a number that is not negative. -/
theorem bits_pos (u b : Nat) (w : World) (h1 : 2 ≤ b) (h2 : b ≤ 16) (h10 : b ≠ 10) (hu : u ≤ 2147483648) (htz : TZ w) :
    Calls Tryz.prog 274 #[.slice none 0 0, .int .u64 u, .int .i64 b, .bool false, .bool false] w fun e w' => e = .returned (.tuple #[.slice none 0 0, .string ⟨(digN lowD b u).toArray⟩]) ∧ Below w.heap.size w w' := by
  by_cases hp : p2 b = true
  · have : b = 2 ∨ b = 4 ∨ b = 8 ∨ b = 16 := by unfold p2 at hp; simp at hp; omega
    rcases this with rfl | rfl | rfl | rfl
    · exact fmt_2 u w hu htz
    · exact fmt_4 u w hu htz
    · exact fmt_8 u w hu htz
    · exact fmt_16 u w hu htz
  · exact fmt_gen u b w h1 h2 (by simp; omega) (by simpa using hp) hu

/-- formatBits at every base but 10, of a negative number. -/
theorem bits_neg (u b : Nat) (w : World) (h1 : 2 ≤ b) (h2 : b ≤ 16) (h10 : b ≠ 10) (hu : u ≤ 2147483648) (htz : TZ w) :
    Calls Tryz.prog 274 #[.slice none 0 0, .int .u64 (IntKind.u64.wrap (-(u : Int))), .int .i64 b, .bool true, .bool false] w fun e w' => e = .returned (.tuple #[.slice none 0 0, .string ⟨(45 :: digN lowD b u).toArray⟩]) ∧ Below w.heap.size w w' := by
  by_cases hp : p2 b = true
  · have : b = 2 ∨ b = 4 ∨ b = 8 ∨ b = 16 := by unfold p2 at hp; simp at hp; omega
    rcases this with rfl | rfl | rfl | rfl
    · exact fmt_2_neg u w hu htz
    · exact fmt_4_neg u w hu htz
    · exact fmt_8_neg u w hu htz
    · exact fmt_16_neg u w hu htz
  · exact fmt_gen_neg u b w h1 h2 (by simp; omega) (by simpa using hp) hu

/-- What the library's tables hold, where a cell's text reads them. -/
def Tabs (w : World) : Prop := TZ w ∧ Lib.TabIs Tryz.prog w "internal/strconv.uint64pow10" .u64 Lib.pow10Tab

set_option maxRecDepth 100000 in
set_option maxHeartbeats 1000000 in
theorem fmtIn_any (n : Int) (b : Nat) (w : World) (h1 : 2 ≤ b) (h2 : b ≤ 16) (h10 : b ≠ 10) (n1 : -2147483648 ≤ n) (n2 : n ≤ 2147483647) (htz : TZ w) :
    Calls Tryz.prog 248 #[.int .i64 n, .int .i64 b] w fun e w' => e = .returned (.string ⟨(textL lowD b n).toArray⟩) ∧ Below w.heap.size w w' := by
  have hb10 : ((b : Int) == 10) = false := by simp; omega
  by_cases hn : n < 0
  · obtain ⟨u, hu⟩ : ∃ u : Nat, n = -(u : Int) := ⟨n.natAbs, by omega⟩
    subst hu
    have E : Hid (45 :: digN lowD b u = textL lowD b (-(u : Int))) := Lib.hid (by rw [textL_neg hn]; simp)
    have C := Lib.hid (bits_neg u b w h1 h2 h10 (by omega) htz)
    clear htz h10
    go_enter Tryz.func248, Tryz.ntmps248
    go_wp2_with fail
    rw [show decide (0 < u) = true from decide_eq_true (by omega)]
    refine C.out.mono ?_
    rintro e w1 ⟨rfl, hb⟩
    have B := Lib.hid hb
    clear hb
    go_wp2
    go_ret
    exact ⟨congrArg (fun s => Ending.returned (.string s)) (by rw [E.out]), B.out⟩
  · obtain ⟨u, rfl⟩ := Int.eq_ofNat_of_zero_le (by omega : 0 ≤ n)
    have E : Hid (digN lowD b u = textL lowD b (u : Int)) := Lib.hid textL_nat.symm
    have C := Lib.hid (bits_pos u b w h1 h2 h10 (by omega) htz)
    clear htz h10
    go_enter Tryz.func248, Tryz.ntmps248
    go_wp2_with fail
    first | (with_reducible refine C.out.mono ?_) | (rw [show decide ((u : Int) < 0) = false from decide_eq_false (by omega)]; with_reducible refine C.out.mono ?_)
    rintro e w1 ⟨rfl, hb⟩
    have B := Lib.hid hb
    clear hb
    go_wp2
    go_ret
    exact ⟨congrArg (fun s => Ending.returned (.string s)) (by rw [E.out]), B.out⟩

set_option maxRecDepth 100000 in
set_option maxHeartbeats 1000000 in
theorem fmt_any (n : Int) (b : Nat) (w : World) (h1 : 2 ≤ b) (h2 : b ≤ 16) (n1 : -2147483648 ≤ n) (n2 : n ≤ 2147483647) (ht : Tabs w) :
    Calls Tryz.prog 227 #[.int .i64 n, .int .i64 b] w fun e w' => e = .returned (.string ⟨(textL lowD b n).toArray⟩) ∧ Below w.heap.size w w' := by
  by_cases h10 : b = 10
  · subst h10
    refine (Tryz.strconv_FormatInt_10 n (by omega) (by omega) w ht.2).mono ?_
    rintro e w' ⟨rfl, k, os, rfl⟩
    exact ⟨by rw [itoa_eq], Lib.below_grow _ _ (Nat.le_refl _) _ _⟩
  · have C := Lib.hid (fmtIn_any n b w h1 h2 h10 n1 n2 ht.1)
    clear ht h10
    go_enter Tryz.func227, Tryz.ntmps227
    go_wp2_with fail
    refine C.out.mono ?_
    rintro e w1 ⟨rfl, hb⟩
    have B := Lib.hid hb
    clear hb
    go_wp2
    go_ret
    exact ⟨rfl, B.out⟩

end Go.Proofs.YthnbaeamekolmaaGreatDoor

namespace Go.Proofs.YthnbaeamekolmaaGreatDoor
open Go.RowKit
set_option linter.unusedVariables false
set_option linter.unusedSimpArgs false

set_option maxRecDepth 100000 in
set_option maxHeartbeats 1000000 in
theorem cellText_any (n base : Int) (w : World) (ht : Tabs w) :
    Calls Tryz.prog 190 #[.int .i64 n, .int .i64 base] w fun e w' => e = .returned (.tuple #[.string ⟨(ctL upD n base).toArray⟩, .int .i64 (ctC n base)]) ∧ Below w.heap.size w w' := by
  have HT := Lib.hid ht
  clear ht
  cases hn : cellB n
  · have E := Lib.hid (ct_no (D := upD) (base := base) (.inl hn))
    go_enter Tryz.func190, Tryz.ntmps190
    go_wp2_with (first | (go_at_call 140; refine (cellOK_any _ _).mono ?_; rintro e w' ⟨rfl, rfl⟩) | (go_at_call 69; refine (baseOK_any _ _).mono ?_; rintro e w' ⟨rfl, rfl⟩))
    go_ret2
    exact ⟨ret_si (by rw [E.out.2]) E.out.1.symm, Below.refl _ _⟩
  · cases hb : inB base 2 16
    · have E := Lib.hid (ct_no (D := upD) (n := n) (.inr hb))
      go_enter Tryz.func190, Tryz.ntmps190
      go_wp2_with (first | (go_at_call 140; refine (cellOK_any _ _).mono ?_; rintro e w' ⟨rfl, rfl⟩) | (go_at_call 69; refine (baseOK_any _ _).mono ?_; rintro e w' ⟨rfl, rfl⟩))
      go_ret2
      exact ⟨ret_si (by rw [E.out.2]) E.out.1.symm, Below.refl _ _⟩
    · have b12 : 2 ≤ base ∧ base ≤ 16 := by unfold inB at hb; simpa using hb
      obtain ⟨b, rfl⟩ := Int.eq_ofNat_of_zero_le (by omega : 0 ≤ base)
      have b1 : 2 ≤ b := by omega
      have b2 : b ≤ 16 := by omega
      have nn := cellB_true.1 hn
      have E := Lib.hid (ct_yes (D := upD) hn hb)
      have U := Lib.hid (upper_text b1 b2 n)
      have LN := Lib.hid (text_len b1 nn.1 nn.2 (D := lowD))
      have AS := Lib.hid (text_ascii b1 b2 n)
      have T := Lib.hid (fmt_any n b w b1 b2 nn.1 nn.2 HT.out)
      obtain ⟨n1, n2⟩ := nn
      clear b12
      go_enter Tryz.func190, Tryz.ntmps190
      go_wp2_with (first | (go_at_call 140; refine (cellOK_any _ _).mono ?_; rintro e w' ⟨rfl, rfl⟩) | (go_at_call 69; refine (baseOK_any _ _).mono ?_; rintro e w' ⟨rfl, rfl⟩))
      refine T.out.mono ?_
      rintro e w1 ⟨rfl, hb1⟩
      have B1 := Lib.hid hb1
      clear hb1
      generalize textL lowD b n = l at *
      go_wp2_with fail
      refine (Tryz.strings_ToUpper_ascii ⟨l.toArray⟩ _ (by have := LN.out; show l.toArray.size ≤ _; simp; omega) (fun j c hj => AS.out c (by
        have h2 : l[j]? = some c := by simpa using hj
        exact List.mem_of_getElem? h2))).mono ?_
      rintro e w2 ⟨rfl, hb2⟩
      have B2 := Lib.hid hb2
      clear hb2
      go_wp2
      go_ret2
      exact ⟨ret_si (by rw [E.out.2, Int.toNat_natCast, ← U.out]) E.out.1.symm, B1.out.trans (B2.out.mono B1.out.size)⟩

end Go.Proofs.YthnbaeamekolmaaGreatDoor
