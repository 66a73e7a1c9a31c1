/- What spec.l01Text and spec.CellText give. -/
import Derived.Test.YtfiildimochcgaaDoorReadA
import Derived.Test.YtfiildimochcgaaDoorTextM
import Derived.WalkSmall
namespace Go.Proofs.YtfiildimochcgaaDoor
open Go.RowKit
set_option linter.unusedVariables false
set_option linter.unusedSimpArgs false

/-- The letters that the specification reads, at a digit. -/
theorem up_at : ∀ (u : Nat) (h : u < 16), (⟨#[48, 49, 50, 51, 52, 53, 54, 55, 56, 57, 65, 66, 67, 68, 69, 70]⟩ : ByteArray)[u]'h = upD u := by
  rintro (_ | _ | _ | _ | _ | _ | _ | _ | _ | _ | _ | _ | _ | _ | _ | _ | _) h <;> first | rfl | omega

theorem app_one (l : List UInt8) (c : UInt8) : (⟨l.toArray⟩ ++ ⟨#[c]⟩ : ByteArray) = ⟨(l ++ [c]).toArray⟩ := by
  apply ByteArray.ext; simp

theorem one_app (l : List UInt8) : ((⟨#[45]⟩ : ByteArray) ++ ⟨l.toArray⟩) = ⟨(45 :: l).toArray⟩ := by
  apply ByteArray.ext; apply Array.ext'; simp

theorem conv_one (W : World) (c : UInt8) : (convert 22 9 (.slice (some ⟨W.heap.size, 0, none⟩) 1 1)).run Tryd.prog (W.alloc (.cells #[.int .u8 (c.toNat : Int)] 5)) = .ok (.string ⟨#[c]⟩) (W.alloc (.cells #[.int .u8 (c.toNat : Int)] 5)) :=
  run_convert_bytes_back (P := Tryd.prog) _ 22 9 5 ⟨W.heap.size, 0, none⟩ 1 [c] Tryd.underlying22 Tryd.underlying5 Tryd.underlying9 (fun j hj => by
    have : j = 0 := by simp at hj; omega
    subst this
    simp [Addr.add])

set_option maxRecDepth 100000 in
set_option maxHeartbeats 1000000 in
theorem text_small (u b : Nat) (w : World) (hb : 2 ≤ b) (hb' : b ≤ 16) (hu : u < b) :
    Calls Tryd.prog 24 #[.int .i64 u, .int .i64 b] w fun e w' => e = .returned (.string ⟨(digN upD b u).toArray⟩) ∧ Below w.heap.size w w' := by
  have hm : ((u : Int) % (b : Int)) = u := Int.emod_eq_of_lt (by omega) (by omega)
  have h16 : u < 16 := by omega
  have hcv := conv_one w ((⟨#[48, 49, 50, 51, 52, 53, 54, 55, 56, 57, 65, 66, 67, 68, 69, 70]⟩ : ByteArray)[u]'h16)
  have E : Hid ((⟨#[(⟨#[48, 49, 50, 51, 52, 53, 54, 55, 56, 57, 65, 66, 67, 68, 69, 70]⟩ : ByteArray)[u]'h16]⟩ : ByteArray) = ⟨(digN upD b u).toArray⟩) := Lib.hid (by rw [digN_small hu, up_at u h16])
  go_enter Tryd.func24, Tryd.ntmps24
  go_wp2
  go_ret
  exact ⟨congrArg (fun s => Ending.returned (.string s)) E.out, (Below.refl _ _).alloc (Nat.le_refl _) _⟩

set_option maxRecDepth 100000 in
set_option maxHeartbeats 1000000 in
theorem text_step (u b : Nat) (w : World) (hb : 2 ≤ b) (hb' : b ≤ 16) (hu : b ≤ u) (hx : u ≤ 2147483648)
    (ih : ∀ W, Calls Tryd.prog 24 #[.int .i64 ((u / b : Nat) : Int), .int .i64 b] W fun e w' => e = .returned (.string ⟨(digN upD b (u / b)).toArray⟩) ∧ Below W.heap.size W w') :
    Calls Tryd.prog 24 #[.int .i64 u, .int .i64 b] w fun e w' => e = .returned (.string ⟨(digN upD b u).toArray⟩) ∧ Below w.heap.size w w' := by
  obtain ⟨r, hr⟩ : ∃ r : Nat, r = u % b := ⟨_, rfl⟩
  obtain ⟨q, hq⟩ : ∃ q : Nat, q = u / b := ⟨_, rfl⟩
  have hm : ((u : Int) % (b : Int)) = r := by rw [hr]; omega
  have hd : ((u : Int) / (b : Int)) = q := by rw [hq]; omega
  have h16 : r < 16 := by have := Nat.mod_lt u (by omega : 0 < b); omega
  have E : Hid ((digN upD b q) ++ [upD r] = digN upD b u) := Lib.hid (by rw [digN_step hb hu, hr, hq])
  have hqx : q ≤ 2147483648 := by rw [hq]; exact Nat.le_trans (Nat.div_le_self _ _) hx
  have hll : (digN upD b q).length ≤ 32 := digN_33 hb hqx
  rw [← hq] at ih
  have IH := Lib.hid ih
  clear ih hr hq
  have hcv := conv_one w ((⟨#[48, 49, 50, 51, 52, 53, 54, 55, 56, 57, 65, 66, 67, 68, 69, 70]⟩ : ByteArray)[r]'h16)
  have A16 := Lib.hid (up_at r h16)
  go_enter Tryd.func24, Tryd.ntmps24
  go_wp2_with fail
  refine (IH.out _).mono ?_
  rintro e w1 ⟨rfl, hb1⟩
  have B1 := Lib.hid hb1
  clear hb1 hcv
  generalize (⟨#[48, 49, 50, 51, 52, 53, 54, 55, 56, 57, 65, 66, 67, 68, 69, 70]⟩ : ByteArray)[r]'h16 = c at *
  generalize digN upD b q = l at *
  go_wp2
  go_ret
  exact ⟨congrArg (fun s => Ending.returned (.string s)) (by rw [app_one, A16.out, E.out]), ((Below.refl _ _).alloc (Nat.le_refl _) _).trans (B1.out.mono (by simp))⟩

theorem text_nat (b : Nat) (hb : 2 ≤ b) (hb' : b ≤ 16) (u : Nat) : u ≤ 2147483648 → ∀ w : World,
    Calls Tryd.prog 24 #[.int .i64 u, .int .i64 b] w fun e w' => e = .returned (.string ⟨(digN upD b u).toArray⟩) ∧ Below w.heap.size w w' := by
  induction u using Nat.strongRecOn with
  | _ u ih =>
    intro hu w
    by_cases h : u < b
    · exact text_small u b w hb hb' h
    · exact text_step u b w hb hb' (by omega) hu fun W => ih (u / b) (Nat.div_lt_self (by omega) (by omega)) (Nat.le_trans (Nat.div_le_self _ _) hu) W

set_option maxRecDepth 100000 in
set_option maxHeartbeats 1000000 in
theorem text_any (n : Int) (b : Nat) (w : World) (hb : 2 ≤ b) (hb' : b ≤ 16) (h1 : -2147483648 ≤ n) (h2 : n ≤ 2147483647) :
    Calls Tryd.prog 24 #[.int .i64 n, .int .i64 b] w fun e w' => e = .returned (.string ⟨(textL upD b n).toArray⟩) ∧ Below w.heap.size w w' := by
  by_cases hn : n < 0
  · obtain ⟨m, hm⟩ : ∃ m : Nat, n.natAbs = m := ⟨_, rfl⟩
    have hneg : -n = (m : Int) := by omega
    have hmx : m ≤ 2147483648 := by omega
    have hll : (digN upD b m).length ≤ 32 := digN_33 hb hmx
    have E : Hid (45 :: digN upD b m = textL upD b n) := Lib.hid (by rw [textL_neg hn, hm])
    have T := Lib.hid (text_nat b hb hb' m hmx)
    clear hm
    go_enter Tryd.func24, Tryd.ntmps24
    go_wp2_with fail
    refine (T.out _).mono ?_
    rintro e w1 ⟨rfl, hb1⟩
    have B1 := Lib.hid hb1
    clear hb1
    generalize digN upD b m = l at *
    go_wp2
    go_ret
    exact ⟨congrArg (fun s => Ending.returned (.string s)) (by rw [one_app, E.out]), B1.out⟩
  · obtain ⟨u, rfl⟩ := Int.eq_ofNat_of_zero_le (by omega : 0 ≤ n)
    refine (text_nat b hb hb' u (by omega) w).mono ?_
    rintro e w' ⟨rfl, hb⟩
    exact ⟨by rw [textL_nat], hb⟩

/-- The code of a text. -/
def ctC (n base : Int) : Int := if cellB n = true ∧ inB base 2 16 = true then 0 else 4

/-- The text of a cell in a base; nothing where there is none. -/
def ctL (D : Nat → UInt8) (n base : Int) : List UInt8 := if cellB n = true ∧ inB base 2 16 = true then textL D base.toNat n else []

theorem ct_no {D : Nat → UInt8} {n base : Int} (h : cellB n = false ∨ inB base 2 16 = false) : ctC n base = 4 ∧ ctL D n base = [] := by
  unfold ctC ctL
  rcases h with h | h <;> simp [h]

theorem ct_yes {D : Nat → UInt8} {n base : Int} (h : cellB n = true) (h' : inB base 2 16 = true) : ctC n base = 0 ∧ ctL D n base = textL D base.toNat n := by
  unfold ctC ctL
  simp [h, h']

theorem ret_si {a b : ByteArray} {c d : Int} (h : a = b) (h' : c = d) : Ending.returned (.tuple #[.string a, .int .i64 c]) = .returned (.tuple #[.string b, .int .i64 d]) := by rw [h, h']

set_option maxRecDepth 100000 in
set_option maxHeartbeats 1000000 in
theorem sCellText_any (n base : Int) (w : World) :
    Calls Tryd.prog 10 #[.int .i64 n, .int .i64 base] w fun e w' => e = .returned (.tuple #[.string ⟨(ctL upD n base).toArray⟩, .int .i64 (ctC n base)]) ∧ Below w.heap.size w w' := by
  cases hn : cellB n
  · have E := Lib.hid (ct_no (D := upD) (base := base) (.inl hn))
    go_enter Tryd.func10, Tryd.ntmps10
    go_wp2_with (first | (go_at_call 22; refine (sCell_any _ _).mono ?_; rintro e w' ⟨rfl, rfl⟩) | (go_at_call 23; refine (sBase_any _ _).mono ?_; rintro e w' ⟨rfl, rfl⟩))
    go_ret2
    exact ⟨ret_si (by rw [E.out.2]) E.out.1.symm, Below.refl _ _⟩
  · cases hb : inB base 2 16
    · have E := Lib.hid (ct_no (D := upD) (n := n) (.inr hb))
      go_enter Tryd.func10, Tryd.ntmps10
      go_wp2_with (first | (go_at_call 22; refine (sCell_any _ _).mono ?_; rintro e w' ⟨rfl, rfl⟩) | (go_at_call 23; refine (sBase_any _ _).mono ?_; rintro e w' ⟨rfl, rfl⟩))
      go_ret2
      exact ⟨ret_si (by rw [E.out.2]) E.out.1.symm, Below.refl _ _⟩
    · have b12 : 2 ≤ base ∧ base ≤ 16 := by unfold inB at hb; simpa using hb
      obtain ⟨b, rfl⟩ := Int.eq_ofNat_of_zero_le (by omega : 0 ≤ base)
      have E := Lib.hid (ct_yes (D := upD) hn hb)
      have T := Lib.hid (text_any n b · (by omega) (by omega) (cellB_true.1 hn).1 (cellB_true.1 hn).2)
      clear b12
      go_enter Tryd.func10, Tryd.ntmps10
      go_wp2_with (first | (go_at_call 22; refine (sCell_any _ _).mono ?_; rintro e w' ⟨rfl, rfl⟩) | (go_at_call 23; refine (sBase_any _ _).mono ?_; rintro e w' ⟨rfl, rfl⟩))
      refine (T.out _).mono ?_
      rintro e w1 ⟨rfl, hb1⟩
      have B1 := Lib.hid hb1
      clear hb1
      go_wp2
      go_ret2
      exact ⟨ret_si (by rw [E.out.2]; simp) E.out.1.symm, B1.out⟩

end Go.Proofs.YtfiildimochcgaaDoor
