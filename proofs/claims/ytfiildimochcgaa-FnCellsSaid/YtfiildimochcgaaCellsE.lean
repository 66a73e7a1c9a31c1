/- The law on cells, walked: at two codes that are not too long. -/
import Derived.Test.YtfiildimochcgaaCellsD
namespace Go.Proofs.Ytfiildimochcgaa
open Go.RowKit
set_option linter.unusedVariables false
set_option linter.unusedSimpArgs false

/-- What a law leaves: true; of what was there nothing has turned. -/
def Fin (w : World) (e : Ending) (w' : World) : Prop := e = .returned (.bool true) ∧ Below w.heap.size w w'

theorem below_draws {B : Nat} {w w' : World} (h : Below B w w') (n : Nat) : Below B w (w'.drewN n) := ⟨h.os, h.tape, h.output, h.size, h.block⟩

set_option maxRecDepth 100000 in
set_option maxHeartbeats 4000000 in
theorem cells_core (a0 : Option Addr) (len0 : Nat) (cap0 : Nat) (z0 : List Int) (a1 : Option Addr) (len1 : Nat) (cap1 : Nat) (z1 : List Int) (w : World) (g0 : BRow w a0 len0 cap0 z0) (g1 : BRow w a1 len1 cap1 z1) (l0 : len0 ≤ 1048576) (l1 : len1 ≤ 1048576) :
    Calls Try.prog 3 #[.slice a0 len0 cap0, .slice a1 len1 cap1] w (Fin w) := by
  have G0 := Lib.hid g0
  have G1 := Lib.hid g1
  clear g0 g1
  go_enter Try.func3, Try.ntmps3
  go_wp2_with fail
  refine (cellDrawn_any _ _ _ _ _ G0.out (by omega)).mono ?_
  rintro e w1 ⟨a, ha, rfl, hb⟩
  have B1 := Lib.hid hb
  have IA : Hid (IsCell a) := Lib.hid ha
  obtain ⟨ha1, ha2⟩ := ha
  clear hb
  go_wp2_with fail
  refine (cellDrawn_any _ _ _ _ _ (brow_below G1.out B1.out) (by omega)).mono ?_
  rintro e w2 ⟨b, hb, rfl, hb2⟩
  have B2 : Hid (Below w.heap.size w w2) := Lib.hid (B1.out.trans (hb2.mono B1.out.size))
  have IB : Hid (IsCell b) := Lib.hid hb
  clear hb2
  obtain ⟨hb1, hb2⟩ := hb
  have hp := mul_bd IA.out IB.out
  obtain ⟨hp1, hp2⟩ := hp
  go_wp2_with fail
  go_loopw [8] (fun i wr => ∃ k : Int, 1 ≤ k ∧ k ≤ 11 ∧ i = .int .i64 k ∧ Laid3 w w2.heap.size (a + b) (a - b) (a * b) wr) (fun i _ => (11 - intOf i).toNat)
  case atStart => exact ⟨1, by omega, by omega, rfl, laid3_new B2.out _⟩
  case round =>
    obtain ⟨k, hk1, hk2, rfl, hl⟩ := hrel
    have L := Lib.hid hl
    obtain ⟨hbel, hx, hy, hz⟩ := hl
    clear hbel
    by_cases hlt : k ≤ 10
    · have TC := two_isCell (op := k) IA.out IB.out
      have TH := Lib.hid TC
      unfold IsCell at TC
      obtain ⟨t1, t2⟩ := TC
      by_cases h3 : k ≤ 3
      · rcases (by omega : k = 1 ∨ k = 2 ∨ k = 3) with rfl | rfl | rfl
        · have e1 : (twoW 1 a b != wrap32 (a + b)) = false := by rw [two_add]; simp
          go_wp2_with (first | (go_at_call 11; refine (two_cell _ _ _ _ (by omega) (by omega) IA.out IB.out).mono ?_; rintro e w' ⟨rfl, n, rfl⟩) | (go_at_call 12; refine (sTwo_cell _ _ _ _ (by omega) (by omega) IA.out IB.out).mono ?_; rintro e w' ⟨rfl, rfl⟩) | (go_at_call 13; refine (cell_yes _ _ TH.out).mono ?_; rintro e w' ⟨rfl, rfl⟩) | (go_at_call 14; refine (wrapCell_any _ _).mono ?_; rintro e w' ⟨rfl, rfl⟩))
          go_roundw
          case rel => exact ⟨2, by omega, by omega, rfl, laid3_draws L.out _⟩
          case measure => simp [intOf]
        · have e1 : (twoW 2 a b != wrap32 (a - b)) = false := by rw [two_sub]; simp
          go_wp2_with (first | (go_at_call 11; refine (two_cell _ _ _ _ (by omega) (by omega) IA.out IB.out).mono ?_; rintro e w' ⟨rfl, n, rfl⟩) | (go_at_call 12; refine (sTwo_cell _ _ _ _ (by omega) (by omega) IA.out IB.out).mono ?_; rintro e w' ⟨rfl, rfl⟩) | (go_at_call 13; refine (cell_yes _ _ TH.out).mono ?_; rintro e w' ⟨rfl, rfl⟩) | (go_at_call 14; refine (wrapCell_any _ _).mono ?_; rintro e w' ⟨rfl, rfl⟩))
          go_roundw
          case rel => exact ⟨3, by omega, by omega, rfl, laid3_draws L.out _⟩
          case measure => simp [intOf]
        · have e1 : (twoW 3 a b != wrap32 (a * b)) = false := by rw [two_mul]; simp
          go_wp2_with (first | (go_at_call 11; refine (two_cell _ _ _ _ (by omega) (by omega) IA.out IB.out).mono ?_; rintro e w' ⟨rfl, n, rfl⟩) | (go_at_call 12; refine (sTwo_cell _ _ _ _ (by omega) (by omega) IA.out IB.out).mono ?_; rintro e w' ⟨rfl, rfl⟩) | (go_at_call 13; refine (cell_yes _ _ TH.out).mono ?_; rintro e w' ⟨rfl, rfl⟩) | (go_at_call 14; refine (wrapCell_any _ _).mono ?_; rintro e w' ⟨rfl, rfl⟩))
          go_roundw
          case rel => exact ⟨4, by omega, by omega, rfl, laid3_draws L.out _⟩
          case measure => simp [intOf]
      · go_wp2_with (first | (go_at_call 11; refine (two_cell _ _ _ _ (by omega) (by omega) IA.out IB.out).mono ?_; rintro e w' ⟨rfl, n, rfl⟩) | (go_at_call 12; refine (sTwo_cell _ _ _ _ (by omega) (by omega) IA.out IB.out).mono ?_; rintro e w' ⟨rfl, rfl⟩) | (go_at_call 13; refine (cell_yes _ _ TH.out).mono ?_; rintro e w' ⟨rfl, rfl⟩) | (go_at_call 14; refine (wrapCell_any _ _).mono ?_; rintro e w' ⟨rfl, rfl⟩))
        go_roundw
        case rel => exact ⟨k + 1, by omega, by omega, rfl, laid3_draws L.out _⟩
        case measure => simp [intOf]; omega
    · obtain rfl : k = 11 := by omega
      clear hx hy hz hlt hk1 hk2
      have T4 := two_isCell (op := 4) IA.out IB.out
      have T5 := two_isCell (op := 5) IA.out IB.out
      have hp4 := mul_bd T4 IB.out
      unfold IsCell at T4 T5
      obtain ⟨p1, p2⟩ := hp4
      obtain ⟨s1, s2⟩ := T4
      obtain ⟨s3, s4⟩ := T5
      have W7 := wrap32_cell (a * b + 7)
      have e7 : ((a * b + 7 - wrap32 (a * b + 7)).tmod 4294967296 != 0) = false := by rw [wrap_rem]; rfl
      have eu : (wrap32 (a % 4294967296) == a) = true := by rw [uns_back IA.out]; simp
      by_cases h0 : b = 0
      · have r4 : twoR 4 b = false := by rw [notR, h0]; rfl
        have m0 : (b == 0) = true := by rw [h0]; rfl
        clear h0
        go_wp2_with (first | (go_at_call 11; refine (two_cell _ _ _ _ (by omega) (by omega) IA.out IB.out).mono ?_; rintro e w' ⟨rfl, n, rfl⟩) | (go_at_call 14; refine (wrapCell_any _ _).mono ?_; rintro e w' ⟨rfl, rfl⟩) | (go_at_call 15; refine (sWrapCell_any _ _).mono ?_; rintro e w' ⟨rfl, rfl⟩))
        go_ret
        exact ⟨rfl, below_draws L.out.1 _⟩
      · have r4 : twoR 4 b = true := by rw [notR]; simpa using h0
        have m0 : (b == 0) = false := by simpa using h0
        have ms := mod_sign (a := a) h0
        have es : (wrap32 (twoW 4 a b * b + twoW 5 a b) == a) = true := by rw [div_mod IA.out IB.out h0]; simp
        by_cases hneg : b < 0
        · have ms := ms.1 hneg
          by_cases hr0 : twoW 5 a b = 0
          · have q0 : (twoW 5 a b == 0) = true := by rw [hr0]; rfl
            clear hr0 h0
            go_wp2_with (first | (go_at_call 11; refine (two_cell _ _ _ _ (by omega) (by omega) IA.out IB.out).mono ?_; rintro e w' ⟨rfl, n, rfl⟩) | (go_at_call 14; refine (wrapCell_any _ _).mono ?_; rintro e w' ⟨rfl, rfl⟩) | (go_at_call 15; refine (sWrapCell_any _ _).mono ?_; rintro e w' ⟨rfl, rfl⟩) | (go_at_call 16; refine (uns_cell _ _ IA.out).mono ?_; rintro e w' ⟨rfl, rfl⟩) | (go_at_call 17; refine (sUns_cell _ _ IA.out).mono ?_; rintro e w' ⟨rfl, rfl⟩))
            go_ret
            exact ⟨rfl, below_draws L.out.1 _⟩
          · have d1 : twoW 5 a b < 0 := by omega
            have q0 : (twoW 5 a b == 0) = false := by simpa using hr0
            clear hr0 h0
            go_wp2_with (first | (go_at_call 11; refine (two_cell _ _ _ _ (by omega) (by omega) IA.out IB.out).mono ?_; rintro e w' ⟨rfl, n, rfl⟩) | (go_at_call 14; refine (wrapCell_any _ _).mono ?_; rintro e w' ⟨rfl, rfl⟩) | (go_at_call 15; refine (sWrapCell_any _ _).mono ?_; rintro e w' ⟨rfl, rfl⟩) | (go_at_call 16; refine (uns_cell _ _ IA.out).mono ?_; rintro e w' ⟨rfl, rfl⟩) | (go_at_call 17; refine (sUns_cell _ _ IA.out).mono ?_; rintro e w' ⟨rfl, rfl⟩))
            go_ret
            exact ⟨rfl, below_draws L.out.1 _⟩
        · have hpos : 0 < b := by omega
          have ms := ms.2 hpos
          by_cases hr0 : twoW 5 a b = 0
          · have q0 : (twoW 5 a b == 0) = true := by rw [hr0]; rfl
            clear hr0 h0
            go_wp2_with (first | (go_at_call 11; refine (two_cell _ _ _ _ (by omega) (by omega) IA.out IB.out).mono ?_; rintro e w' ⟨rfl, n, rfl⟩) | (go_at_call 14; refine (wrapCell_any _ _).mono ?_; rintro e w' ⟨rfl, rfl⟩) | (go_at_call 15; refine (sWrapCell_any _ _).mono ?_; rintro e w' ⟨rfl, rfl⟩) | (go_at_call 16; refine (uns_cell _ _ IA.out).mono ?_; rintro e w' ⟨rfl, rfl⟩) | (go_at_call 17; refine (sUns_cell _ _ IA.out).mono ?_; rintro e w' ⟨rfl, rfl⟩))
            go_ret
            exact ⟨rfl, below_draws L.out.1 _⟩
          · have d1 : 0 < twoW 5 a b := by omega
            have q0 : (twoW 5 a b == 0) = false := by simpa using hr0
            clear hr0 h0
            go_wp2_with (first | (go_at_call 11; refine (two_cell _ _ _ _ (by omega) (by omega) IA.out IB.out).mono ?_; rintro e w' ⟨rfl, n, rfl⟩) | (go_at_call 14; refine (wrapCell_any _ _).mono ?_; rintro e w' ⟨rfl, rfl⟩) | (go_at_call 15; refine (sWrapCell_any _ _).mono ?_; rintro e w' ⟨rfl, rfl⟩) | (go_at_call 16; refine (uns_cell _ _ IA.out).mono ?_; rintro e w' ⟨rfl, rfl⟩) | (go_at_call 17; refine (sUns_cell _ _ IA.out).mono ?_; rintro e w' ⟨rfl, rfl⟩))
            go_ret
            exact ⟨rfl, below_draws L.out.1 _⟩

set_option maxRecDepth 100000 in
theorem cells_long (a0 : Option Addr) (len0 : Nat) (cap0 : Nat) (a1 : Option Addr) (len1 : Nat) (cap1 : Nat) (w : World) (h : 1048576 < len0 ∨ 1048576 < len1) :
    Calls Try.prog 3 #[.slice a0 len0 cap0, .slice a1 len1 cap1] w (Fin w) := by
  by_cases h0 : 1048576 < len0
  · clear h
    go_enter Try.func3, Try.ntmps3
    go_wp2
    go_ret
    exact ⟨rfl, Below.refl _ _⟩
  · have h1 : 1048576 < len1 := by omega
    clear h
    go_enter Try.func3, Try.ntmps3
    go_wp2
    go_ret
    exact ⟨rfl, Below.refl _ _⟩

end Go.Proofs.Ytfiildimochcgaa
