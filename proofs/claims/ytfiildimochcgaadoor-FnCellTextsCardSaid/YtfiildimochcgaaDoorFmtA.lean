/- What strconv's formatBits gives in the bases that the cells use. -/
import Derived.Test.YtfiildimochcgaaDoorCellsA
import Derived.Test.YtfiildimochcgaaDoorTextM
import Derived.WalkSmall
import Derived.Laws.AppendOwn
namespace Go.Proofs.YtfiildimochcgaaDoor
open Go.RowKit
set_option linter.unusedVariables false
set_option linter.unusedSimpArgs false

/-- Is the base a power of two, of those that are asked? -/
def p2 (b : Nat) : Bool := b == 2 || b == 4 || b == 8 || b == 16

set_option maxRecDepth 100000 in
set_option maxHeartbeats 1000000 in
theorem pow_any (b : Nat) (w : World) (h1 : 2 ≤ b) (h2 : b ≤ 16) :
    Calls Tryd.prog 61 #[.int .i64 b] w fun e w' => e = .returned (.bool (p2 b)) ∧ w = w' := by
  have cs : b = 2 ∨ b = 3 ∨ b = 4 ∨ b = 5 ∨ b = 6 ∨ b = 7 ∨ b = 8 ∨ b = 9 ∨ b = 10 ∨ b = 11 ∨ b = 12 ∨ b = 13 ∨ b = 14 ∨ b = 15 ∨ b = 16 := by omega
  clear h1 h2
  rcases cs with rfl | rfl | rfl | rfl | rfl | rfl | rfl | rfl | rfl | rfl | rfl | rfl | rfl | rfl | rfl
  all_goals
    go_enter Tryd.func61, Tryd.ntmps61
    go_wp2
    go_ret
    exact ⟨ret_bool (by decide), rfl⟩

/-- The letters that the library reads, at a digit. -/
theorem low_at : ∀ (u : Nat) (h : u < 36), (⟨#[48, 49, 50, 51, 52, 53, 54, 55, 56, 57, 97, 98, 99, 100, 101, 102, 103, 104, 105, 106, 107, 108, 109, 110, 111, 112, 113, 114, 115, 116, 117, 118, 119, 120, 121, 122]⟩ : ByteArray)[u]'h = lowD u := by
  rintro (_ | _ | _ | _ | _ | _ | _ | _ | _ | _ | _ | _ | _ | _ | _ | _ | _ | _ | _ | _ | _ | _ | _ | _ | _ | _ | _ | _ | _ | _ | _ | _ | _ | _ | _ | _ | _) h <;> first | rfl | omega

/-- The library's buffer of 65 bytes in block B, filled from i on with S; of what was there nothing has turned. -/
structure Buf (w : World) (B i : Nat) (S : List UInt8) (wr : World) : Prop where
  below : Below w.heap.size w wr
  len : i + S.length = 65
  cells : ∀ j, j < 65 → ∃ v, wr.cell? ⟨B, j, none⟩ = some v
  free : ∀ j, wr.frozen? ⟨B, j, none⟩ = false
  held : ∀ j (h : j < S.length), wr.cell? ⟨B, i + j, none⟩ = some (.int .u8 (S[j].toNat : Int))

theorem buf_store {w wr : World} {B k : Nat} {S : List UInt8} (h : Buf w B (k + 1) S wr) (hB : w.heap.size ≤ B) (c : UInt8) : Buf w B k (c :: S) (wr.setCell ⟨B, k, none⟩ (.int .u8 (c.toNat : Int))) := by
  obtain ⟨h1, h2, h3, h4, h5⟩ := h
  have hk : k < 65 := by omega
  obtain ⟨v, hv⟩ := h3 k hk
  refine ⟨h1.setCell hB _, by rw [List.length_cons]; omega, ?_, ?_, ?_⟩
  · intro j hj
    by_cases e : j = k
    · subst e; exact ⟨_, World.cell?_setCell_same _ _ _ hv⟩
    · obtain ⟨v', hv'⟩ := h3 j hj
      exact ⟨v', by rw [World.cell?_setCell_other _ _ _ _ (by intro e'; injection e'; omega)]; exact hv'⟩
  · intro j; simpa using h4 j
  · intro j hj
    cases j with
    | zero => exact World.cell?_setCell_same _ _ _ hv
    | succ j =>
      rw [World.cell?_setCell_other _ _ _ _ (by intro e'; injection e'; omega)]
      have := h5 j (by simpa using hj)
      rw [show k + (j + 1) = k + 1 + j from by omega]
      simpa using this

theorem zero_size : Tryd.zeroCells87.size = 65 := by kernel_rfl

theorem buf_new (w : World) (t : TypeId) : Buf w w.heap.size 65 [] (w.alloc (.cells Tryd.zeroCells87 t)) := by
  refine ⟨(Below.refl _ _).alloc (Nat.le_refl _) _, rfl, ?_, ?_, ?_⟩
  · intro j hj
    refine ⟨Tryd.zeroCells87[j]'(by rw [zero_size]; exact hj), ?_⟩
    rw [World.cell?_alloc_new]
    exact Array.getElem?_eq_getElem _
  · intro j; exact World.frozen?_alloc_new _ _ _ _
  · intro j hj; simp at hj

theorem buf_conv {w wr : World} {B i m : Nat} {S : List UInt8} (h : Buf w B i S wr) (hm : m = 65 - i) : (convert 22 9 (.slice (some ⟨B, i, none⟩) m m)).run Tryd.prog wr = .ok (.string ⟨S.toArray⟩) wr := by
  have hl : S.length = m := by have := h.len; omega
  have := run_convert_bytes_back (P := Tryd.prog) wr 22 9 5 ⟨B, i, none⟩ m S Tryd.underlying22 Tryd.underlying5 Tryd.underlying9 (fun j hj => by
    rw [Addr.add_lit]; exact h.held j hj)
  rw [hl] at this
  exact this

theorem arr_len : Tryd.prog.arrayLen 87 = 65 := by simp [Program.arrayLen, Tryd.underlying87]

theorem cut_from (B i m : Nat) (hi : i < 65) (hm : m = 65 - i) (W : World) : (Instr.sliceAt 87 (.pointer (some ⟨B, 0, none⟩)) (some (.int .i64 i)) none none).run Tryd.prog W = .ok (.slice (some ⟨B, i, none⟩) m m) W := by
  rw [run_sliceAt_array_l W 87 ⟨B, 0, none⟩ (by simp [Program.arrayLen, Program.elem, Tryd.underlying87]) .i64 (i : Int) (by omega) (by rw [arr_len]; omega)]
  rw [arr_len]
  go_simp
  omega

set_option maxRecDepth 100000 in
set_option maxHeartbeats 2000000 in
theorem fmt_gen (u b : Nat) (w : World) (h1 : 2 ≤ b) (h2 : b ≤ 16) (h10 : ((b : Int) == 10) = false) (hp : p2 b = false) (hu : u ≤ 2147483648) :
    Calls Tryd.prog 51 #[.slice none 0 0, .int .u64 u, .int .i64 b, .bool false, .bool false] w fun e w' => e = .returned (.tuple #[.slice none 0 0, .string ⟨(digN lowD b u).toArray⟩]) ∧ Below w.heap.size w w' := by
  have LEN := Lib.hid (digN_33 (D := lowD) h1 hu)
  go_enter Tryd.func51, Tryd.ntmps51
  go_wp2_with (go_at_call 61; refine (pow_any _ _ h1 h2).mono ?_; rintro e w' ⟨rfl, rfl⟩)
  go_loopw [13, 1] (fun i v wr => ∃ (k q : Nat) (S : List UInt8), i = .int .i64 ((k : Int) + 1) ∧ v = .int .u64 q ∧ q ≤ 2147483648 ∧ digN lowD b u = digN lowD b q ++ S ∧ Buf w w.heap.size (k + 1) S wr) (fun _ v _ => (intOf v).toNat)
  case atStart => exact ⟨64, u, [], rfl, rfl, hu, by simp, buf_new w _⟩
  case round =>
    obtain ⟨k, q, S, rfl, rfl, hq, hdig, hbuf⟩ := hrel
    have HB := Lib.hid hbuf
    have HD := Lib.hid hdig
    obtain ⟨v0, hv0⟩ := hbuf.cells k (by have := hbuf.len; omega)
    have hf0 := hbuf.free k
    have hk : k ≤ 64 := by have := hbuf.len; omega
    clear hbuf hdig
    by_cases hlt : b ≤ q
    · obtain ⟨r, hr⟩ : ∃ r : Nat, r = q % b := ⟨_, rfl⟩
      obtain ⟨q', hq'⟩ : ∃ q' : Nat, q' = q / b := ⟨_, rfl⟩
      obtain ⟨p, hp'⟩ : ∃ p : Nat, p = q' * b := ⟨_, rfl⟩
      have hpq : p + r = q := by rw [hp', hr, hq', Nat.mul_comm]; exact Nat.div_add_mod q b
      have e1 : ((q : Int) / (b : Int)) = q' := by rw [hq']; omega
      have e2 : ((q' : Int) * (b : Int)) = p := by rw [hp']; simp
      have e3 : ((q : Int) - (p : Int)) = r := by omega
      have hrb : r < 36 := by have := Nat.mod_lt q (by omega : 0 < b); omega
      have hq'x : q' ≤ 2147483648 := by rw [hq']; exact Nat.le_trans (Nat.div_le_self _ _) hq
      have hq'l : q' < q := by rw [hq']; exact Nat.div_lt_self (by omega) (by omega)
      have hpx : p ≤ 2147483648 := by omega
      have E : Hid (digN lowD b u = digN lowD b q' ++ (lowD r :: S)) := Lib.hid (by rw [HD.out, digN_step h1 hlt, hr, hq']; simp)
      have AT := Lib.hid (low_at r hrb)
      have K : Hid (1 ≤ k) := Lib.hid (by
        have l1 := congrArg List.length HD.out
        have l2 := LEN.out
        have l3 := HB.out.len
        simp at l1; omega)
      clear hr hq' hp' hpq
      go_wp2
      go_roundw
      case rel => exact ⟨k - 1, q', lowD r :: S, congrArg (Value.int .i64) (by have := K.out; omega), rfl, hq'x, E.out, by
        rw [show k - 1 + 1 = k from by have := K.out; omega, ← AT.out]; exact buf_store HB.out (Nat.le_refl _) _⟩
      case measure => simp [intOf]; omega
    · have hq36 : q < 36 := by omega
      have AT := Lib.hid (low_at q hq36)
      have E : Hid (digN lowD b u = lowD q :: S) := Lib.hid (by rw [HD.out, digN_small (by omega)]; rfl)
      obtain ⟨m, hm⟩ : ∃ m, m = 65 - k := ⟨_, rfl⟩
      have hb1 := buf_store HB.out (Nat.le_refl _) ((⟨#[48, 49, 50, 51, 52, 53, 54, 55, 56, 57, 97, 98, 99, 100, 101, 102, 103, 104, 105, 106, 107, 108, 109, 110, 111, 112, 113, 114, 115, 116, 117, 118, 119, 120, 121, 122]⟩ : ByteArray)[q]'hq36)
      have hk65 : k < 65 := by omega
      have hcv := buf_conv hb1 hm
      have hsl := cut_from w.heap.size k m hk65 hm
      have B1 := Lib.hid hb1.below
      clear hb1 hm
      go_wp2
      go_ret2
      exact ⟨congrArg (fun s => Ending.returned (.tuple #[.slice none 0 0, .string s])) (by rw [E.out, ← AT.out]), B1.out⟩

end Go.Proofs.YtfiildimochcgaaDoor
