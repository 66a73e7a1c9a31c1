/- What strconv's formatBits gives in the bases that are powers of two, and of negative numbers. -/
import Derived.Test.YtfiildimochcgaaDoorFmtB
namespace Go.Proofs.YtfiildimochcgaaDoor
open Go.RowKit
set_option linter.unusedVariables false
set_option linter.unusedSimpArgs false

theorem lt_cell {w : World} {x : Addr} {v : Value} (h : w.cell? x = some v) : x.block < w.heap.size := by
  rcases Nat.lt_or_ge x.block w.heap.size with h1 | h1
  · exact h1
  · simp [World.cell?, h1] at h

theorem tz_below {w w' : World} (h : TZ w) (hb : Below w.heap.size w w') : TZ w' :=
  ⟨by rw [hb.cell (lt_cell h.c1)]; exact h.c1, by rw [hb.cell (lt_cell h.c3)]; exact h.c3, by rw [hb.cell (lt_cell h.c7)]; exact h.c7, by rw [hb.cell (lt_cell h.c15)]; exact h.c15⟩

theorem and_low (q s : Nat) (hq : q < 18446744073709551616) (hs : s < 64) : bits .and .u64 (q : Int) (((2 ^ s - 1 : Nat) : Nat) : Int) = ((q % 2 ^ s : Nat) : Int) := by
  have hs2 : 2 ^ s - 1 < 2 ^ 64 := by
    have := Nat.pow_lt_pow_right (a := 2) (by omega) hs
    omega
  have e : bits .and .u64 (q : Int) ((2 ^ s - 1 : Nat) : Int) = IntKind.u64.wrap (((BitVec.ofInt 64 (q : Int)) &&& (BitVec.ofInt 64 ((2 ^ s - 1 : Nat) : Int))).toNat : Int) := rfl
  rw [e, BitVec.toNat_and, BitVec.ofInt_natCast, BitVec.ofInt_natCast, BitVec.toNat_ofNat, BitVec.toNat_ofNat, Nat.mod_eq_of_lt (by omega : q < 2 ^ 64), Nat.mod_eq_of_lt hs2, Nat.and_two_pow_sub_one_eq_mod, IntKind.wrap_u64]
  have := Nat.mod_le q (2 ^ s)
  omega

set_option maxRecDepth 100000 in
set_option maxHeartbeats 2000000 in
theorem fmt_gen_neg (u b : Nat) (w : World) (h1 : 2 ≤ b) (h2 : b ≤ 16) (h10 : ((b : Int) == 10) = false) (hp : p2 b = false) (hu : u ≤ 2147483648) :
    Calls Tryd.prog 51 #[.slice none 0 0, .int .u64 (IntKind.u64.wrap (-(u : Int))), .int .i64 b, .bool true, .bool false] w fun e w' => e = .returned (.tuple #[.slice none 0 0, .string ⟨(45 :: digN lowD b u).toArray⟩]) ∧ Below w.heap.size w w' := by
  have LEN := Lib.hid (digN_33 (D := lowD) (b := b) h1 hu)
  have hwr : IntKind.u64.wrap (-IntKind.u64.wrap (-(u : Int))) = (u : Int) := by rw [IntKind.wrap_u64, IntKind.wrap_u64]; omega
  go_enter Tryd.func51, Tryd.ntmps51
  go_wp2_with (go_at_call 61; refine (pow_any _ _ h1 h2).mono ?_; rintro e w' ⟨rfl, rfl⟩)
  clear hwr
  go_loopw [13, 1] (fun i v wr => ∃ (k q : Nat) (S : List UInt8), i = .int .i64 ((k : Int) + 1) ∧ v = .int .u64 q ∧ q ≤ 2147483648 ∧ digN lowD b u = digN lowD b q ++ S ∧ Buf w w.heap.size (k + 1) S wr) (fun _ v _ => (intOf v).toNat)
  case atStart => exact ⟨64, u, [], rfl, rfl, hu, by simp, buf_new w _⟩
  case round =>
    obtain ⟨k, q, S, rfl, rfl, hq, hdig, hbuf⟩ := hrel
    have HB := Lib.hid hbuf
    have HD := Lib.hid hdig
    obtain ⟨v0, hv0⟩ := hbuf.cells k (by have := hbuf.len; omega)
    have hf0 := hbuf.free k
    have hk : k ≤ 64 := by have := hbuf.len; omega
    clear hbuf hdig
    by_cases hlt : b ≤ q
    · obtain ⟨r, hr⟩ : ∃ r : Nat, r = q % b := ⟨_, rfl⟩
      obtain ⟨q', hq'⟩ : ∃ q' : Nat, q' = q / b := ⟨_, rfl⟩
      obtain ⟨p, hp'⟩ : ∃ p : Nat, p = q' * b := ⟨_, rfl⟩
      have hpq : p + r = q := by rw [hp', hr, hq', Nat.mul_comm]; exact Nat.div_add_mod q b
      have e1 : ((q : Int) / (b : Int)) = q' := by rw [hq']; omega
      have e2 : ((q' : Int) * (b : Int)) = p := by rw [hp']; simp
      have e3 : ((q : Int) - (p : Int)) = r := by omega
      have hpx : p ≤ 2147483648 := by omega
      have hrb : r < 36 := by have := Nat.mod_lt q (by omega : 0 < b); omega
      have hq'x : q' ≤ 2147483648 := by rw [hq']; exact Nat.le_trans (Nat.div_le_self _ _) hq
      have hq'l : q' < q := by rw [hq']; exact Nat.div_lt_self (by omega) (by omega)
      have E : Hid (digN lowD b u = digN lowD b q' ++ (lowD r :: S)) := Lib.hid (by rw [HD.out, digN_step h1 hlt, hr, hq']; simp)
      have AT := Lib.hid (low_at r hrb)
      have K : Hid (1 ≤ k) := Lib.hid (by
        have l1 := congrArg List.length HD.out
        have l2 := LEN.out
        have l3 := HB.out.len
        simp at l1; omega)
      clear hr hq' hp' hpq
      go_wp2
      go_roundw
      case rel => exact ⟨k - 1, q', lowD r :: S, congrArg (Value.int .i64) (by have := K.out; omega), rfl, hq'x, E.out, by
        rw [show k - 1 + 1 = k from by have := K.out; omega, ← AT.out]; exact buf_store HB.out (Nat.le_refl _) _⟩
      case measure => simp [intOf]; omega
    · have hq36 : q < 36 := by omega
      have AT := Lib.hid (low_at q hq36)
      have E : Hid (digN lowD b u = lowD q :: S) := Lib.hid (by rw [HD.out, digN_small (by omega)]; rfl)
      have K : 1 ≤ k := by
        have l1 := congrArg List.length E.out
        have l2 := LEN.out
        have l3 := HB.out.len
        simp at l1; omega
      obtain ⟨j, rfl⟩ : ∃ j, k = j + 1 := ⟨k - 1, by omega⟩
      obtain ⟨m, hm⟩ : ∃ m, m = 65 - j := ⟨_, rfl⟩
      have hb1 := buf_store HB.out (Nat.le_refl _) ((⟨#[48, 49, 50, 51, 52, 53, 54, 55, 56, 57, 97, 98, 99, 100, 101, 102, 103, 104, 105, 106, 107, 108, 109, 110, 111, 112, 113, 114, 115, 116, 117, 118, 119, 120, 121, 122]⟩ : ByteArray)[q]'hq36)
      have hb2 := buf_store hb1 (Nat.le_refl _) 45
      obtain ⟨v1, hv1⟩ := HB.out.cells j (by omega)
      have hf1 := HB.out.free j
      have hk65 : j < 65 := by omega
      have hcv := buf_conv hb2 hm
      have hsl := cut_from w.heap.size j m hk65 hm
      have B1 := Lib.hid hb2.below
      have e45 : ((45 : UInt8).toNat : Int) = 45 := rfl
      rw [e45] at hcv
      clear hb1 hb2 hm K e45
      go_wp2
      go_ret2
      exact ⟨congrArg (fun s => Ending.returned (.tuple #[.slice none 0 0, .string s])) (by rw [E.out, ← AT.out]), B1.out⟩

set_option maxRecDepth 100000 in
set_option maxHeartbeats 2000000 in
theorem fmt_2 (u : Nat) (w : World) (hu : u ≤ 2147483648) (htz : TZ w) :
    Calls Tryd.prog 51 #[.slice none 0 0, .int .u64 u, .int .i64 2, .bool false, .bool false] w fun e w' => e = .returned (.tuple #[.slice none 0 0, .string ⟨(digN lowD 2 u).toArray⟩]) ∧ Below w.heap.size w w' := by
  have LEN := Lib.hid (digN_33 (D := lowD) (b := 2) (by omega) hu)
  have TZA := Lib.hid (tz_below htz ((Below.refl w.heap.size w).alloc (Nat.le_refl _) (.cells Tryd.zeroCells87 87)))
  clear htz
  have P2 : p2 2 = true := rfl
  have PP : Hid (∀ W, Calls Tryd.prog 61 #[.int .i64 2] W fun e w' => e = .returned (.bool (p2 2)) ∧ W = w') := Lib.hid fun W => pow_any 2 W (by omega) (by omega)
  go_enter Tryd.func51, Tryd.ntmps51
  go_wp2_with (first | (go_at_call 61; refine (PP.out _).mono ?_; rintro e w' ⟨rfl, rfl⟩) | (go_at_call 62; refine (tz_2 _ TZA.out).mono ?_; rintro e w' ⟨rfl, rfl⟩))
  go_loopw [13, 1] (fun i v wr => ∃ (k q : Nat) (S : List UInt8), i = .int .i64 ((k : Int) + 1) ∧ v = .int .u64 q ∧ q ≤ 2147483648 ∧ digN lowD 2 u = digN lowD 2 q ++ S ∧ Buf w w.heap.size (k + 1) S wr) (fun _ v _ => (intOf v).toNat)
  case atStart => exact ⟨64, u, [], rfl, rfl, hu, by simp, buf_new w _⟩
  case round =>
    obtain ⟨k, q, S, rfl, rfl, hq, hdig, hbuf⟩ := hrel
    have HB := Lib.hid hbuf
    have HD := Lib.hid hdig
    obtain ⟨v0, hv0⟩ := hbuf.cells k (by have := hbuf.len; omega)
    have hf0 := hbuf.free k
    have hk : k ≤ 64 := by have := hbuf.len; omega
    clear hbuf hdig
    by_cases hlt : 2 ≤ q
    · obtain ⟨r, hr⟩ : ∃ r : Nat, r = q % 2 := ⟨_, rfl⟩
      obtain ⟨q', hq'⟩ : ∃ q' : Nat, q' = q / 2 := ⟨_, rfl⟩
      have e1 : ((q : Int) / 2) = q' := by rw [hq']; omega
      have e2 : bits .and .u64 (q : Int) 1 = r := by have := and_low q 1 (by omega) (by omega); rw [hr]; exact this
      have hrb : r < 36 := by have := Nat.mod_lt q (by omega : 0 < 2); omega
      have hq'x : q' ≤ 2147483648 := by rw [hq']; exact Nat.le_trans (Nat.div_le_self _ _) hq
      have hq'l : q' < q := by rw [hq']; exact Nat.div_lt_self (by omega) (by omega)
      have E : Hid (digN lowD 2 u = digN lowD 2 q' ++ (lowD r :: S)) := Lib.hid (by rw [HD.out, digN_step (by omega) hlt, hr, hq']; simp)
      have AT := Lib.hid (low_at r hrb)
      have K : Hid (1 ≤ k) := Lib.hid (by
        have l1 := congrArg List.length HD.out
        have l2 := LEN.out
        have l3 := HB.out.len
        simp at l1; omega)
      clear hr hq'
      go_wp2
      go_roundw
      case rel => exact ⟨k - 1, q', lowD r :: S, congrArg (Value.int .i64) (by have := K.out; omega), rfl, hq'x, E.out, by
        rw [show k - 1 + 1 = k from by have := K.out; omega, ← AT.out]; exact buf_store HB.out (Nat.le_refl _) _⟩
      case measure => simp [intOf]; omega
    · have hq36 : q < 36 := by omega
      have AT := Lib.hid (low_at q hq36)
      have E : Hid (digN lowD 2 u = lowD q :: S) := Lib.hid (by rw [HD.out, digN_small (by omega)]; rfl)
      obtain ⟨m, hm⟩ : ∃ m, m = 65 - k := ⟨_, rfl⟩
      have hb1 := buf_store HB.out (Nat.le_refl _) ((⟨#[48, 49, 50, 51, 52, 53, 54, 55, 56, 57, 97, 98, 99, 100, 101, 102, 103, 104, 105, 106, 107, 108, 109, 110, 111, 112, 113, 114, 115, 116, 117, 118, 119, 120, 121, 122]⟩ : ByteArray)[q]'hq36)
      have hk65 : k < 65 := by omega
      have hcv := buf_conv hb1 hm
      have hsl := cut_from w.heap.size k m hk65 hm
      have B1 := Lib.hid hb1.below
      clear hb1 hm
      go_wp2
      go_ret2
      exact ⟨congrArg (fun s => Ending.returned (.tuple #[.slice none 0 0, .string s])) (by rw [E.out, ← AT.out]), B1.out⟩

set_option maxRecDepth 100000 in
set_option maxHeartbeats 2000000 in
theorem fmt_4 (u : Nat) (w : World) (hu : u ≤ 2147483648) (htz : TZ w) :
    Calls Tryd.prog 51 #[.slice none 0 0, .int .u64 u, .int .i64 4, .bool false, .bool false] w fun e w' => e = .returned (.tuple #[.slice none 0 0, .string ⟨(digN lowD 4 u).toArray⟩]) ∧ Below w.heap.size w w' := by
  have LEN := Lib.hid (digN_33 (D := lowD) (b := 4) (by omega) hu)
  have TZA := Lib.hid (tz_below htz ((Below.refl w.heap.size w).alloc (Nat.le_refl _) (.cells Tryd.zeroCells87 87)))
  clear htz
  have P2 : p2 4 = true := rfl
  have PP : Hid (∀ W, Calls Tryd.prog 61 #[.int .i64 4] W fun e w' => e = .returned (.bool (p2 4)) ∧ W = w') := Lib.hid fun W => pow_any 4 W (by omega) (by omega)
  go_enter Tryd.func51, Tryd.ntmps51
  go_wp2_with (first | (go_at_call 61; refine (PP.out _).mono ?_; rintro e w' ⟨rfl, rfl⟩) | (go_at_call 62; refine (tz_4 _ TZA.out).mono ?_; rintro e w' ⟨rfl, rfl⟩))
  go_loopw [13, 1] (fun i v wr => ∃ (k q : Nat) (S : List UInt8), i = .int .i64 ((k : Int) + 1) ∧ v = .int .u64 q ∧ q ≤ 2147483648 ∧ digN lowD 4 u = digN lowD 4 q ++ S ∧ Buf w w.heap.size (k + 1) S wr) (fun _ v _ => (intOf v).toNat)
  case atStart => exact ⟨64, u, [], rfl, rfl, hu, by simp, buf_new w _⟩
  case round =>
    obtain ⟨k, q, S, rfl, rfl, hq, hdig, hbuf⟩ := hrel
    have HB := Lib.hid hbuf
    have HD := Lib.hid hdig
    obtain ⟨v0, hv0⟩ := hbuf.cells k (by have := hbuf.len; omega)
    have hf0 := hbuf.free k
    have hk : k ≤ 64 := by have := hbuf.len; omega
    clear hbuf hdig
    by_cases hlt : 4 ≤ q
    · obtain ⟨r, hr⟩ : ∃ r : Nat, r = q % 4 := ⟨_, rfl⟩
      obtain ⟨q', hq'⟩ : ∃ q' : Nat, q' = q / 4 := ⟨_, rfl⟩
      have e1 : ((q : Int) / 4) = q' := by rw [hq']; omega
      have e2 : bits .and .u64 (q : Int) 3 = r := by have := and_low q 2 (by omega) (by omega); rw [hr]; exact this
      have hrb : r < 36 := by have := Nat.mod_lt q (by omega : 0 < 4); omega
      have hq'x : q' ≤ 2147483648 := by rw [hq']; exact Nat.le_trans (Nat.div_le_self _ _) hq
      have hq'l : q' < q := by rw [hq']; exact Nat.div_lt_self (by omega) (by omega)
      have E : Hid (digN lowD 4 u = digN lowD 4 q' ++ (lowD r :: S)) := Lib.hid (by rw [HD.out, digN_step (by omega) hlt, hr, hq']; simp)
      have AT := Lib.hid (low_at r hrb)
      have K : Hid (1 ≤ k) := Lib.hid (by
        have l1 := congrArg List.length HD.out
        have l2 := LEN.out
        have l3 := HB.out.len
        simp at l1; omega)
      clear hr hq'
      go_wp2
      go_roundw
      case rel => exact ⟨k - 1, q', lowD r :: S, congrArg (Value.int .i64) (by have := K.out; omega), rfl, hq'x, E.out, by
        rw [show k - 1 + 1 = k from by have := K.out; omega, ← AT.out]; exact buf_store HB.out (Nat.le_refl _) _⟩
      case measure => simp [intOf]; omega
    · have hq36 : q < 36 := by omega
      have AT := Lib.hid (low_at q hq36)
      have E : Hid (digN lowD 4 u = lowD q :: S) := Lib.hid (by rw [HD.out, digN_small (by omega)]; rfl)
      obtain ⟨m, hm⟩ : ∃ m, m = 65 - k := ⟨_, rfl⟩
      have hb1 := buf_store HB.out (Nat.le_refl _) ((⟨#[48, 49, 50, 51, 52, 53, 54, 55, 56, 57, 97, 98, 99, 100, 101, 102, 103, 104, 105, 106, 107, 108, 109, 110, 111, 112, 113, 114, 115, 116, 117, 118, 119, 120, 121, 122]⟩ : ByteArray)[q]'hq36)
      have hk65 : k < 65 := by omega
      have hcv := buf_conv hb1 hm
      have hsl := cut_from w.heap.size k m hk65 hm
      have B1 := Lib.hid hb1.below
      clear hb1 hm
      go_wp2
      go_ret2
      exact ⟨congrArg (fun s => Ending.returned (.tuple #[.slice none 0 0, .string s])) (by rw [E.out, ← AT.out]), B1.out⟩

set_option maxRecDepth 100000 in
set_option maxHeartbeats 2000000 in
theorem fmt_8 (u : Nat) (w : World) (hu : u ≤ 2147483648) (htz : TZ w) :
    Calls Tryd.prog 51 #[.slice none 0 0, .int .u64 u, .int .i64 8, .bool false, .bool false] w fun e w' => e = .returned (.tuple #[.slice none 0 0, .string ⟨(digN lowD 8 u).toArray⟩]) ∧ Below w.heap.size w w' := by
  have LEN := Lib.hid (digN_33 (D := lowD) (b := 8) (by omega) hu)
  have TZA := Lib.hid (tz_below htz ((Below.refl w.heap.size w).alloc (Nat.le_refl _) (.cells Tryd.zeroCells87 87)))
  clear htz
  have P2 : p2 8 = true := rfl
  have PP : Hid (∀ W, Calls Tryd.prog 61 #[.int .i64 8] W fun e w' => e = .returned (.bool (p2 8)) ∧ W = w') := Lib.hid fun W => pow_any 8 W (by omega) (by omega)
  go_enter Tryd.func51, Tryd.ntmps51
  go_wp2_with (first | (go_at_call 61; refine (PP.out _).mono ?_; rintro e w' ⟨rfl, rfl⟩) | (go_at_call 62; refine (tz_8 _ TZA.out).mono ?_; rintro e w' ⟨rfl, rfl⟩))
  go_loopw [13, 1] (fun i v wr => ∃ (k q : Nat) (S : List UInt8), i = .int .i64 ((k : Int) + 1) ∧ v = .int .u64 q ∧ q ≤ 2147483648 ∧ digN lowD 8 u = digN lowD 8 q ++ S ∧ Buf w w.heap.size (k + 1) S wr) (fun _ v _ => (intOf v).toNat)
  case atStart => exact ⟨64, u, [], rfl, rfl, hu, by simp, buf_new w _⟩
  case round =>
    obtain ⟨k, q, S, rfl, rfl, hq, hdig, hbuf⟩ := hrel
    have HB := Lib.hid hbuf
    have HD := Lib.hid hdig
    obtain ⟨v0, hv0⟩ := hbuf.cells k (by have := hbuf.len; omega)
    have hf0 := hbuf.free k
    have hk : k ≤ 64 := by have := hbuf.len; omega
    clear hbuf hdig
    by_cases hlt : 8 ≤ q
    · obtain ⟨r, hr⟩ : ∃ r : Nat, r = q % 8 := ⟨_, rfl⟩
      obtain ⟨q', hq'⟩ : ∃ q' : Nat, q' = q / 8 := ⟨_, rfl⟩
      have e1 : ((q : Int) / 8) = q' := by rw [hq']; omega
      have e2 : bits .and .u64 (q : Int) 7 = r := by have := and_low q 3 (by omega) (by omega); rw [hr]; exact this
      have hrb : r < 36 := by have := Nat.mod_lt q (by omega : 0 < 8); omega
      have hq'x : q' ≤ 2147483648 := by rw [hq']; exact Nat.le_trans (Nat.div_le_self _ _) hq
      have hq'l : q' < q := by rw [hq']; exact Nat.div_lt_self (by omega) (by omega)
      have E : Hid (digN lowD 8 u = digN lowD 8 q' ++ (lowD r :: S)) := Lib.hid (by rw [HD.out, digN_step (by omega) hlt, hr, hq']; simp)
      have AT := Lib.hid (low_at r hrb)
      have K : Hid (1 ≤ k) := Lib.hid (by
        have l1 := congrArg List.length HD.out
        have l2 := LEN.out
        have l3 := HB.out.len
        simp at l1; omega)
      clear hr hq'
      go_wp2
      go_roundw
      case rel => exact ⟨k - 1, q', lowD r :: S, congrArg (Value.int .i64) (by have := K.out; omega), rfl, hq'x, E.out, by
        rw [show k - 1 + 1 = k from by have := K.out; omega, ← AT.out]; exact buf_store HB.out (Nat.le_refl _) _⟩
      case measure => simp [intOf]; omega
    · have hq36 : q < 36 := by omega
      have AT := Lib.hid (low_at q hq36)
      have E : Hid (digN lowD 8 u = lowD q :: S) := Lib.hid (by rw [HD.out, digN_small (by omega)]; rfl)
      obtain ⟨m, hm⟩ : ∃ m, m = 65 - k := ⟨_, rfl⟩
      have hb1 := buf_store HB.out (Nat.le_refl _) ((⟨#[48, 49, 50, 51, 52, 53, 54, 55, 56, 57, 97, 98, 99, 100, 101, 102, 103, 104, 105, 106, 107, 108, 109, 110, 111, 112, 113, 114, 115, 116, 117, 118, 119, 120, 121, 122]⟩ : ByteArray)[q]'hq36)
      have hk65 : k < 65 := by omega
      have hcv := buf_conv hb1 hm
      have hsl := cut_from w.heap.size k m hk65 hm
      have B1 := Lib.hid hb1.below
      clear hb1 hm
      go_wp2
      go_ret2
      exact ⟨congrArg (fun s => Ending.returned (.tuple #[.slice none 0 0, .string s])) (by rw [E.out, ← AT.out]), B1.out⟩

set_option maxRecDepth 100000 in
set_option maxHeartbeats 2000000 in
theorem fmt_16 (u : Nat) (w : World) (hu : u ≤ 2147483648) (htz : TZ w) :
    Calls Tryd.prog 51 #[.slice none 0 0, .int .u64 u, .int .i64 16, .bool false, .bool false] w fun e w' => e = .returned (.tuple #[.slice none 0 0, .string ⟨(digN lowD 16 u).toArray⟩]) ∧ Below w.heap.size w w' := by
  have LEN := Lib.hid (digN_33 (D := lowD) (b := 16) (by omega) hu)
  have TZA := Lib.hid (tz_below htz ((Below.refl w.heap.size w).alloc (Nat.le_refl _) (.cells Tryd.zeroCells87 87)))
  clear htz
  have P2 : p2 16 = true := rfl
  have PP : Hid (∀ W, Calls Tryd.prog 61 #[.int .i64 16] W fun e w' => e = .returned (.bool (p2 16)) ∧ W = w') := Lib.hid fun W => pow_any 16 W (by omega) (by omega)
  go_enter Tryd.func51, Tryd.ntmps51
  go_wp2_with (first | (go_at_call 61; refine (PP.out _).mono ?_; rintro e w' ⟨rfl, rfl⟩) | (go_at_call 62; refine (tz_16 _ TZA.out).mono ?_; rintro e w' ⟨rfl, rfl⟩))
  go_loopw [13, 1] (fun i v wr => ∃ (k q : Nat) (S : List UInt8), i = .int .i64 ((k : Int) + 1) ∧ v = .int .u64 q ∧ q ≤ 2147483648 ∧ digN lowD 16 u = digN lowD 16 q ++ S ∧ Buf w w.heap.size (k + 1) S wr) (fun _ v _ => (intOf v).toNat)
  case atStart => exact ⟨64, u, [], rfl, rfl, hu, by simp, buf_new w _⟩
  case round =>
    obtain ⟨k, q, S, rfl, rfl, hq, hdig, hbuf⟩ := hrel
    have HB := Lib.hid hbuf
    have HD := Lib.hid hdig
    obtain ⟨v0, hv0⟩ := hbuf.cells k (by have := hbuf.len; omega)
    have hf0 := hbuf.free k
    have hk : k ≤ 64 := by have := hbuf.len; omega
    clear hbuf hdig
    by_cases hlt : 16 ≤ q
    · obtain ⟨r, hr⟩ : ∃ r : Nat, r = q % 16 := ⟨_, rfl⟩
      obtain ⟨q', hq'⟩ : ∃ q' : Nat, q' = q / 16 := ⟨_, rfl⟩
      have e1 : ((q : Int) / 16) = q' := by rw [hq']; omega
      have e2 : bits .and .u64 (q : Int) 15 = r := by have := and_low q 4 (by omega) (by omega); rw [hr]; exact this
      have hrb : r < 36 := by have := Nat.mod_lt q (by omega : 0 < 16); omega
      have hq'x : q' ≤ 2147483648 := by rw [hq']; exact Nat.le_trans (Nat.div_le_self _ _) hq
      have hq'l : q' < q := by rw [hq']; exact Nat.div_lt_self (by omega) (by omega)
      have E : Hid (digN lowD 16 u = digN lowD 16 q' ++ (lowD r :: S)) := Lib.hid (by rw [HD.out, digN_step (by omega) hlt, hr, hq']; simp)
      have AT := Lib.hid (low_at r hrb)
      have K : Hid (1 ≤ k) := Lib.hid (by
        have l1 := congrArg List.length HD.out
        have l2 := LEN.out
        have l3 := HB.out.len
        simp at l1; omega)
      clear hr hq'
      go_wp2
      go_roundw
      case rel => exact ⟨k - 1, q', lowD r :: S, congrArg (Value.int .i64) (by have := K.out; omega), rfl, hq'x, E.out, by
        rw [show k - 1 + 1 = k from by have := K.out; omega, ← AT.out]; exact buf_store HB.out (Nat.le_refl _) _⟩
      case measure => simp [intOf]; omega
    · have hq36 : q < 36 := by omega
      have AT := Lib.hid (low_at q hq36)
      have E : Hid (digN lowD 16 u = lowD q :: S) := Lib.hid (by rw [HD.out, digN_small (by omega)]; rfl)
      obtain ⟨m, hm⟩ : ∃ m, m = 65 - k := ⟨_, rfl⟩
      have hb1 := buf_store HB.out (Nat.le_refl _) ((⟨#[48, 49, 50, 51, 52, 53, 54, 55, 56, 57, 97, 98, 99, 100, 101, 102, 103, 104, 105, 106, 107, 108, 109, 110, 111, 112, 113, 114, 115, 116, 117, 118, 119, 120, 121, 122]⟩ : ByteArray)[q]'hq36)
      have hk65 : k < 65 := by omega
      have hcv := buf_conv hb1 hm
      have hsl := cut_from w.heap.size k m hk65 hm
      have B1 := Lib.hid hb1.below
      clear hb1 hm
      go_wp2
      go_ret2
      exact ⟨congrArg (fun s => Ending.returned (.tuple #[.slice none 0 0, .string s])) (by rw [E.out, ← AT.out]), B1.out⟩

set_option maxRecDepth 100000 in
set_option maxHeartbeats 2000000 in
theorem fmt_2_neg (u : Nat) (w : World) (hu : u ≤ 2147483648) (htz : TZ w) :
    Calls Tryd.prog 51 #[.slice none 0 0, .int .u64 (IntKind.u64.wrap (-(u : Int))), .int .i64 2, .bool true, .bool false] w fun e w' => e = .returned (.tuple #[.slice none 0 0, .string ⟨(45 :: digN lowD 2 u).toArray⟩]) ∧ Below w.heap.size w w' := by
  have LEN := Lib.hid (digN_33 (D := lowD) (b := 2) (by omega) hu)
  have hwr : IntKind.u64.wrap (-IntKind.u64.wrap (-(u : Int))) = (u : Int) := by rw [IntKind.wrap_u64, IntKind.wrap_u64]; omega
  have TZA := Lib.hid (tz_below htz ((Below.refl w.heap.size w).alloc (Nat.le_refl _) (.cells Tryd.zeroCells87 87)))
  clear htz
  have P2 : p2 2 = true := rfl
  have PP : Hid (∀ W, Calls Tryd.prog 61 #[.int .i64 2] W fun e w' => e = .returned (.bool (p2 2)) ∧ W = w') := Lib.hid fun W => pow_any 2 W (by omega) (by omega)
  go_enter Tryd.func51, Tryd.ntmps51
  go_wp2_with (first | (go_at_call 61; refine (PP.out _).mono ?_; rintro e w' ⟨rfl, rfl⟩) | (go_at_call 62; refine (tz_2 _ TZA.out).mono ?_; rintro e w' ⟨rfl, rfl⟩))
  clear hwr
  go_loopw [13, 1] (fun i v wr => ∃ (k q : Nat) (S : List UInt8), i = .int .i64 ((k : Int) + 1) ∧ v = .int .u64 q ∧ q ≤ 2147483648 ∧ digN lowD 2 u = digN lowD 2 q ++ S ∧ Buf w w.heap.size (k + 1) S wr) (fun _ v _ => (intOf v).toNat)
  case atStart => exact ⟨64, u, [], rfl, rfl, hu, by simp, buf_new w _⟩
  case round =>
    obtain ⟨k, q, S, rfl, rfl, hq, hdig, hbuf⟩ := hrel
    have HB := Lib.hid hbuf
    have HD := Lib.hid hdig
    obtain ⟨v0, hv0⟩ := hbuf.cells k (by have := hbuf.len; omega)
    have hf0 := hbuf.free k
    have hk : k ≤ 64 := by have := hbuf.len; omega
    clear hbuf hdig
    by_cases hlt : 2 ≤ q
    · obtain ⟨r, hr⟩ : ∃ r : Nat, r = q % 2 := ⟨_, rfl⟩
      obtain ⟨q', hq'⟩ : ∃ q' : Nat, q' = q / 2 := ⟨_, rfl⟩
      have e1 : ((q : Int) / 2) = q' := by rw [hq']; omega
      have e2 : bits .and .u64 (q : Int) 1 = r := by have := and_low q 1 (by omega) (by omega); rw [hr]; exact this
      have hrb : r < 36 := by have := Nat.mod_lt q (by omega : 0 < 2); omega
      have hq'x : q' ≤ 2147483648 := by rw [hq']; exact Nat.le_trans (Nat.div_le_self _ _) hq
      have hq'l : q' < q := by rw [hq']; exact Nat.div_lt_self (by omega) (by omega)
      have E : Hid (digN lowD 2 u = digN lowD 2 q' ++ (lowD r :: S)) := Lib.hid (by rw [HD.out, digN_step (by omega) hlt, hr, hq']; simp)
      have AT := Lib.hid (low_at r hrb)
      have K : Hid (1 ≤ k) := Lib.hid (by
        have l1 := congrArg List.length HD.out
        have l2 := LEN.out
        have l3 := HB.out.len
        simp at l1; omega)
      clear hr hq'
      go_wp2
      go_roundw
      case rel => exact ⟨k - 1, q', lowD r :: S, congrArg (Value.int .i64) (by have := K.out; omega), rfl, hq'x, E.out, by
        rw [show k - 1 + 1 = k from by have := K.out; omega, ← AT.out]; exact buf_store HB.out (Nat.le_refl _) _⟩
      case measure => simp [intOf]; omega
    · have hq36 : q < 36 := by omega
      have AT := Lib.hid (low_at q hq36)
      have E : Hid (digN lowD 2 u = lowD q :: S) := Lib.hid (by rw [HD.out, digN_small (by omega)]; rfl)
      have K : 1 ≤ k := by
        have l1 := congrArg List.length E.out
        have l2 := LEN.out
        have l3 := HB.out.len
        simp at l1; omega
      obtain ⟨j, rfl⟩ : ∃ j, k = j + 1 := ⟨k - 1, by omega⟩
      obtain ⟨m, hm⟩ : ∃ m, m = 65 - j := ⟨_, rfl⟩
      have hb1 := buf_store HB.out (Nat.le_refl _) ((⟨#[48, 49, 50, 51, 52, 53, 54, 55, 56, 57, 97, 98, 99, 100, 101, 102, 103, 104, 105, 106, 107, 108, 109, 110, 111, 112, 113, 114, 115, 116, 117, 118, 119, 120, 121, 122]⟩ : ByteArray)[q]'hq36)
      have hb2 := buf_store hb1 (Nat.le_refl _) 45
      obtain ⟨v1, hv1⟩ := HB.out.cells j (by omega)
      have hf1 := HB.out.free j
      have hk65 : j < 65 := by omega
      have hcv := buf_conv hb2 hm
      have hsl := cut_from w.heap.size j m hk65 hm
      have B1 := Lib.hid hb2.below
      have e45 : ((45 : UInt8).toNat : Int) = 45 := rfl
      rw [e45] at hcv
      clear hb1 hb2 hm K e45
      go_wp2
      go_ret2
      exact ⟨congrArg (fun s => Ending.returned (.tuple #[.slice none 0 0, .string s])) (by rw [E.out, ← AT.out]), B1.out⟩

set_option maxRecDepth 100000 in
set_option maxHeartbeats 2000000 in
theorem fmt_4_neg (u : Nat) (w : World) (hu : u ≤ 2147483648) (htz : TZ w) :
    Calls Tryd.prog 51 #[.slice none 0 0, .int .u64 (IntKind.u64.wrap (-(u : Int))), .int .i64 4, .bool true, .bool false] w fun e w' => e = .returned (.tuple #[.slice none 0 0, .string ⟨(45 :: digN lowD 4 u).toArray⟩]) ∧ Below w.heap.size w w' := by
  have LEN := Lib.hid (digN_33 (D := lowD) (b := 4) (by omega) hu)
  have hwr : IntKind.u64.wrap (-IntKind.u64.wrap (-(u : Int))) = (u : Int) := by rw [IntKind.wrap_u64, IntKind.wrap_u64]; omega
  have TZA := Lib.hid (tz_below htz ((Below.refl w.heap.size w).alloc (Nat.le_refl _) (.cells Tryd.zeroCells87 87)))
  clear htz
  have P2 : p2 4 = true := rfl
  have PP : Hid (∀ W, Calls Tryd.prog 61 #[.int .i64 4] W fun e w' => e = .returned (.bool (p2 4)) ∧ W = w') := Lib.hid fun W => pow_any 4 W (by omega) (by omega)
  go_enter Tryd.func51, Tryd.ntmps51
  go_wp2_with (first | (go_at_call 61; refine (PP.out _).mono ?_; rintro e w' ⟨rfl, rfl⟩) | (go_at_call 62; refine (tz_4 _ TZA.out).mono ?_; rintro e w' ⟨rfl, rfl⟩))
  clear hwr
  go_loopw [13, 1] (fun i v wr => ∃ (k q : Nat) (S : List UInt8), i = .int .i64 ((k : Int) + 1) ∧ v = .int .u64 q ∧ q ≤ 2147483648 ∧ digN lowD 4 u = digN lowD 4 q ++ S ∧ Buf w w.heap.size (k + 1) S wr) (fun _ v _ => (intOf v).toNat)
  case atStart => exact ⟨64, u, [], rfl, rfl, hu, by simp, buf_new w _⟩
  case round =>
    obtain ⟨k, q, S, rfl, rfl, hq, hdig, hbuf⟩ := hrel
    have HB := Lib.hid hbuf
    have HD := Lib.hid hdig
    obtain ⟨v0, hv0⟩ := hbuf.cells k (by have := hbuf.len; omega)
    have hf0 := hbuf.free k
    have hk : k ≤ 64 := by have := hbuf.len; omega
    clear hbuf hdig
    by_cases hlt : 4 ≤ q
    · obtain ⟨r, hr⟩ : ∃ r : Nat, r = q % 4 := ⟨_, rfl⟩
      obtain ⟨q', hq'⟩ : ∃ q' : Nat, q' = q / 4 := ⟨_, rfl⟩
      have e1 : ((q : Int) / 4) = q' := by rw [hq']; omega
      have e2 : bits .and .u64 (q : Int) 3 = r := by have := and_low q 2 (by omega) (by omega); rw [hr]; exact this
      have hrb : r < 36 := by have := Nat.mod_lt q (by omega : 0 < 4); omega
      have hq'x : q' ≤ 2147483648 := by rw [hq']; exact Nat.le_trans (Nat.div_le_self _ _) hq
      have hq'l : q' < q := by rw [hq']; exact Nat.div_lt_self (by omega) (by omega)
      have E : Hid (digN lowD 4 u = digN lowD 4 q' ++ (lowD r :: S)) := Lib.hid (by rw [HD.out, digN_step (by omega) hlt, hr, hq']; simp)
      have AT := Lib.hid (low_at r hrb)
      have K : Hid (1 ≤ k) := Lib.hid (by
        have l1 := congrArg List.length HD.out
        have l2 := LEN.out
        have l3 := HB.out.len
        simp at l1; omega)
      clear hr hq'
      go_wp2
      go_roundw
      case rel => exact ⟨k - 1, q', lowD r :: S, congrArg (Value.int .i64) (by have := K.out; omega), rfl, hq'x, E.out, by
        rw [show k - 1 + 1 = k from by have := K.out; omega, ← AT.out]; exact buf_store HB.out (Nat.le_refl _) _⟩
      case measure => simp [intOf]; omega
    · have hq36 : q < 36 := by omega
      have AT := Lib.hid (low_at q hq36)
      have E : Hid (digN lowD 4 u = lowD q :: S) := Lib.hid (by rw [HD.out, digN_small (by omega)]; rfl)
      have K : 1 ≤ k := by
        have l1 := congrArg List.length E.out
        have l2 := LEN.out
        have l3 := HB.out.len
        simp at l1; omega
      obtain ⟨j, rfl⟩ : ∃ j, k = j + 1 := ⟨k - 1, by omega⟩
      obtain ⟨m, hm⟩ : ∃ m, m = 65 - j := ⟨_, rfl⟩
      have hb1 := buf_store HB.out (Nat.le_refl _) ((⟨#[48, 49, 50, 51, 52, 53, 54, 55, 56, 57, 97, 98, 99, 100, 101, 102, 103, 104, 105, 106, 107, 108, 109, 110, 111, 112, 113, 114, 115, 116, 117, 118, 119, 120, 121, 122]⟩ : ByteArray)[q]'hq36)
      have hb2 := buf_store hb1 (Nat.le_refl _) 45
      obtain ⟨v1, hv1⟩ := HB.out.cells j (by omega)
      have hf1 := HB.out.free j
      have hk65 : j < 65 := by omega
      have hcv := buf_conv hb2 hm
      have hsl := cut_from w.heap.size j m hk65 hm
      have B1 := Lib.hid hb2.below
      have e45 : ((45 : UInt8).toNat : Int) = 45 := rfl
      rw [e45] at hcv
      clear hb1 hb2 hm K e45
      go_wp2
      go_ret2
      exact ⟨congrArg (fun s => Ending.returned (.tuple #[.slice none 0 0, .string s])) (by rw [E.out, ← AT.out]), B1.out⟩

set_option maxRecDepth 100000 in
set_option maxHeartbeats 2000000 in
theorem fmt_8_neg (u : Nat) (w : World) (hu : u ≤ 2147483648) (htz : TZ w) :
    Calls Tryd.prog 51 #[.slice none 0 0, .int .u64 (IntKind.u64.wrap (-(u : Int))), .int .i64 8, .bool true, .bool false] w fun e w' => e = .returned (.tuple #[.slice none 0 0, .string ⟨(45 :: digN lowD 8 u).toArray⟩]) ∧ Below w.heap.size w w' := by
  have LEN := Lib.hid (digN_33 (D := lowD) (b := 8) (by omega) hu)
  have hwr : IntKind.u64.wrap (-IntKind.u64.wrap (-(u : Int))) = (u : Int) := by rw [IntKind.wrap_u64, IntKind.wrap_u64]; omega
  have TZA := Lib.hid (tz_below htz ((Below.refl w.heap.size w).alloc (Nat.le_refl _) (.cells Tryd.zeroCells87 87)))
  clear htz
  have P2 : p2 8 = true := rfl
  have PP : Hid (∀ W, Calls Tryd.prog 61 #[.int .i64 8] W fun e w' => e = .returned (.bool (p2 8)) ∧ W = w') := Lib.hid fun W => pow_any 8 W (by omega) (by omega)
  go_enter Tryd.func51, Tryd.ntmps51
  go_wp2_with (first | (go_at_call 61; refine (PP.out _).mono ?_; rintro e w' ⟨rfl, rfl⟩) | (go_at_call 62; refine (tz_8 _ TZA.out).mono ?_; rintro e w' ⟨rfl, rfl⟩))
  clear hwr
  go_loopw [13, 1] (fun i v wr => ∃ (k q : Nat) (S : List UInt8), i = .int .i64 ((k : Int) + 1) ∧ v = .int .u64 q ∧ q ≤ 2147483648 ∧ digN lowD 8 u = digN lowD 8 q ++ S ∧ Buf w w.heap.size (k + 1) S wr) (fun _ v _ => (intOf v).toNat)
  case atStart => exact ⟨64, u, [], rfl, rfl, hu, by simp, buf_new w _⟩
  case round =>
    obtain ⟨k, q, S, rfl, rfl, hq, hdig, hbuf⟩ := hrel
    have HB := Lib.hid hbuf
    have HD := Lib.hid hdig
    obtain ⟨v0, hv0⟩ := hbuf.cells k (by have := hbuf.len; omega)
    have hf0 := hbuf.free k
    have hk : k ≤ 64 := by have := hbuf.len; omega
    clear hbuf hdig
    by_cases hlt : 8 ≤ q
    · obtain ⟨r, hr⟩ : ∃ r : Nat, r = q % 8 := ⟨_, rfl⟩
      obtain ⟨q', hq'⟩ : ∃ q' : Nat, q' = q / 8 := ⟨_, rfl⟩
      have e1 : ((q : Int) / 8) = q' := by rw [hq']; omega
      have e2 : bits .and .u64 (q : Int) 7 = r := by have := and_low q 3 (by omega) (by omega); rw [hr]; exact this
      have hrb : r < 36 := by have := Nat.mod_lt q (by omega : 0 < 8); omega
      have hq'x : q' ≤ 2147483648 := by rw [hq']; exact Nat.le_trans (Nat.div_le_self _ _) hq
      have hq'l : q' < q := by rw [hq']; exact Nat.div_lt_self (by omega) (by omega)
      have E : Hid (digN lowD 8 u = digN lowD 8 q' ++ (lowD r :: S)) := Lib.hid (by rw [HD.out, digN_step (by omega) hlt, hr, hq']; simp)
      have AT := Lib.hid (low_at r hrb)
      have K : Hid (1 ≤ k) := Lib.hid (by
        have l1 := congrArg List.length HD.out
        have l2 := LEN.out
        have l3 := HB.out.len
        simp at l1; omega)
      clear hr hq'
      go_wp2
      go_roundw
      case rel => exact ⟨k - 1, q', lowD r :: S, congrArg (Value.int .i64) (by have := K.out; omega), rfl, hq'x, E.out, by
        rw [show k - 1 + 1 = k from by have := K.out; omega, ← AT.out]; exact buf_store HB.out (Nat.le_refl _) _⟩
      case measure => simp [intOf]; omega
    · have hq36 : q < 36 := by omega
      have AT := Lib.hid (low_at q hq36)
      have E : Hid (digN lowD 8 u = lowD q :: S) := Lib.hid (by rw [HD.out, digN_small (by omega)]; rfl)
      have K : 1 ≤ k := by
        have l1 := congrArg List.length E.out
        have l2 := LEN.out
        have l3 := HB.out.len
        simp at l1; omega
      obtain ⟨j, rfl⟩ : ∃ j, k = j + 1 := ⟨k - 1, by omega⟩
      obtain ⟨m, hm⟩ : ∃ m, m = 65 - j := ⟨_, rfl⟩
      have hb1 := buf_store HB.out (Nat.le_refl _) ((⟨#[48, 49, 50, 51, 52, 53, 54, 55, 56, 57, 97, 98, 99, 100, 101, 102, 103, 104, 105, 106, 107, 108, 109, 110, 111, 112, 113, 114, 115, 116, 117, 118, 119, 120, 121, 122]⟩ : ByteArray)[q]'hq36)
      have hb2 := buf_store hb1 (Nat.le_refl _) 45
      obtain ⟨v1, hv1⟩ := HB.out.cells j (by omega)
      have hf1 := HB.out.free j
      have hk65 : j < 65 := by omega
      have hcv := buf_conv hb2 hm
      have hsl := cut_from w.heap.size j m hk65 hm
      have B1 := Lib.hid hb2.below
      have e45 : ((45 : UInt8).toNat : Int) = 45 := rfl
      rw [e45] at hcv
      clear hb1 hb2 hm K e45
      go_wp2
      go_ret2
      exact ⟨congrArg (fun s => Ending.returned (.tuple #[.slice none 0 0, .string s])) (by rw [E.out, ← AT.out]), B1.out⟩

set_option maxRecDepth 100000 in
set_option maxHeartbeats 2000000 in
theorem fmt_16_neg (u : Nat) (w : World) (hu : u ≤ 2147483648) (htz : TZ w) :
    Calls Tryd.prog 51 #[.slice none 0 0, .int .u64 (IntKind.u64.wrap (-(u : Int))), .int .i64 16, .bool true, .bool false] w fun e w' => e = .returned (.tuple #[.slice none 0 0, .string ⟨(45 :: digN lowD 16 u).toArray⟩]) ∧ Below w.heap.size w w' := by
  have LEN := Lib.hid (digN_33 (D := lowD) (b := 16) (by omega) hu)
  have hwr : IntKind.u64.wrap (-IntKind.u64.wrap (-(u : Int))) = (u : Int) := by rw [IntKind.wrap_u64, IntKind.wrap_u64]; omega
  have TZA := Lib.hid (tz_below htz ((Below.refl w.heap.size w).alloc (Nat.le_refl _) (.cells Tryd.zeroCells87 87)))
  clear htz
  have P2 : p2 16 = true := rfl
  have PP : Hid (∀ W, Calls Tryd.prog 61 #[.int .i64 16] W fun e w' => e = .returned (.bool (p2 16)) ∧ W = w') := Lib.hid fun W => pow_any 16 W (by omega) (by omega)
  go_enter Tryd.func51, Tryd.ntmps51
  go_wp2_with (first | (go_at_call 61; refine (PP.out _).mono ?_; rintro e w' ⟨rfl, rfl⟩) | (go_at_call 62; refine (tz_16 _ TZA.out).mono ?_; rintro e w' ⟨rfl, rfl⟩))
  clear hwr
  go_loopw [13, 1] (fun i v wr => ∃ (k q : Nat) (S : List UInt8), i = .int .i64 ((k : Int) + 1) ∧ v = .int .u64 q ∧ q ≤ 2147483648 ∧ digN lowD 16 u = digN lowD 16 q ++ S ∧ Buf w w.heap.size (k + 1) S wr) (fun _ v _ => (intOf v).toNat)
  case atStart => exact ⟨64, u, [], rfl, rfl, hu, by simp, buf_new w _⟩
  case round =>
    obtain ⟨k, q, S, rfl, rfl, hq, hdig, hbuf⟩ := hrel
    have HB := Lib.hid hbuf
    have HD := Lib.hid hdig
    obtain ⟨v0, hv0⟩ := hbuf.cells k (by have := hbuf.len; omega)
    have hf0 := hbuf.free k
    have hk : k ≤ 64 := by have := hbuf.len; omega
    clear hbuf hdig
    by_cases hlt : 16 ≤ q
    · obtain ⟨r, hr⟩ : ∃ r : Nat, r = q % 16 := ⟨_, rfl⟩
      obtain ⟨q', hq'⟩ : ∃ q' : Nat, q' = q / 16 := ⟨_, rfl⟩
      have e1 : ((q : Int) / 16) = q' := by rw [hq']; omega
      have e2 : bits .and .u64 (q : Int) 15 = r := by have := and_low q 4 (by omega) (by omega); rw [hr]; exact this
      have hrb : r < 36 := by have := Nat.mod_lt q (by omega : 0 < 16); omega
      have hq'x : q' ≤ 2147483648 := by rw [hq']; exact Nat.le_trans (Nat.div_le_self _ _) hq
      have hq'l : q' < q := by rw [hq']; exact Nat.div_lt_self (by omega) (by omega)
      have E : Hid (digN lowD 16 u = digN lowD 16 q' ++ (lowD r :: S)) := Lib.hid (by rw [HD.out, digN_step (by omega) hlt, hr, hq']; simp)
      have AT := Lib.hid (low_at r hrb)
      have K : Hid (1 ≤ k) := Lib.hid (by
        have l1 := congrArg List.length HD.out
        have l2 := LEN.out
        have l3 := HB.out.len
        simp at l1; omega)
      clear hr hq'
      go_wp2
      go_roundw
      case rel => exact ⟨k - 1, q', lowD r :: S, congrArg (Value.int .i64) (by have := K.out; omega), rfl, hq'x, E.out, by
        rw [show k - 1 + 1 = k from by have := K.out; omega, ← AT.out]; exact buf_store HB.out (Nat.le_refl _) _⟩
      case measure => simp [intOf]; omega
    · have hq36 : q < 36 := by omega
      have AT := Lib.hid (low_at q hq36)
      have E : Hid (digN lowD 16 u = lowD q :: S) := Lib.hid (by rw [HD.out, digN_small (by omega)]; rfl)
      have K : 1 ≤ k := by
        have l1 := congrArg List.length E.out
        have l2 := LEN.out
        have l3 := HB.out.len
        simp at l1; omega
      obtain ⟨j, rfl⟩ : ∃ j, k = j + 1 := ⟨k - 1, by omega⟩
      obtain ⟨m, hm⟩ : ∃ m, m = 65 - j := ⟨_, rfl⟩
      have hb1 := buf_store HB.out (Nat.le_refl _) ((⟨#[48, 49, 50, 51, 52, 53, 54, 55, 56, 57, 97, 98, 99, 100, 101, 102, 103, 104, 105, 106, 107, 108, 109, 110, 111, 112, 113, 114, 115, 116, 117, 118, 119, 120, 121, 122]⟩ : ByteArray)[q]'hq36)
      have hb2 := buf_store hb1 (Nat.le_refl _) 45
      obtain ⟨v1, hv1⟩ := HB.out.cells j (by omega)
      have hf1 := HB.out.free j
      have hk65 : j < 65 := by omega
      have hcv := buf_conv hb2 hm
      have hsl := cut_from w.heap.size j m hk65 hm
      have B1 := Lib.hid hb2.below
      have e45 : ((45 : UInt8).toNat : Int) = 45 := rfl
      rw [e45] at hcv
      clear hb1 hb2 hm K e45
      go_wp2
      go_ret2
      exact ⟨congrArg (fun s => Ending.returned (.tuple #[.slice none 0 0, .string s])) (by rw [E.out, ← AT.out]), B1.out⟩

end Go.Proofs.YtfiildimochcgaaDoor
