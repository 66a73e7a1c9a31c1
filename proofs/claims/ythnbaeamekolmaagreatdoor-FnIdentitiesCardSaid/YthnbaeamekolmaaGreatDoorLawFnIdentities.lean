/- laws.FnIdentities returns true at every two codes: at new data with four drawn cells, the ten lists of primitives that take each other back leave all as it was, by impl and by spec; six primitives on four cells end with a throw behind four. No condition but the card's: the listed tables are tied to the program's text (a pruned copy of the project). -/
import Derived.Test.YthnbaeamekolmaaGreatDoorRows
import Derived.Test.YthnbaeamekolmaaGreatDoorTie
import Derived.Test.YthnbaeamekolmaaGreatDoorCards
import Derived.Test.YthnbaeamekolmaaGreatDoorPkW
import Derived.Test.YthnbaeamekolmaaGreatDoorPkV
import Derived.Test.YthnbaeamekolmaaGreatDoorPkU
import Derived.Test.YthnbaeamekolmaaGreatDoorPkT
import Derived.Test.YthnbaeamekolmaaGreatDoorPkB
import Derived.Deep.RegionHeld3
import Derived.Stop.LaidErr
import Derived.WalkKit
import Derived.ProofKit
import Derived.OpenShut
import Derived.ShutString
import Derived.ChangeOld
import Derived.Below
import Derived.LaidMore
import Derived.Stop.Joined
import Derived.ChangeVars
import Derived.WalkSmall
import Derived.SevenTiedAt
import Derived.Lay
namespace Go.Proofs.YthnbaeamekolmaaGreatDoor.fnIdentities
open Go.ChangeShapes Go.WideShapes Go.ChangeAt Go.RowKit
open Go.ChangeMaps (open_string shut_string)
set_option linter.unusedSimpArgs false
set_option linter.unusedVariables false

theorem own : ownKnob Tryz.prog.godebug = none := by kernel_rfl
theorem laidOut : laidOutB Tryz.prog = true := by kernel_rfl

/-- What the row lists. -/
def listed : List (String × DataW Unit) := [("math/bits.deBruijn32tab", Rows.laid_math_bits_deBruijn32tab), ("math/bits.deBruijn64tab", Rows.laid_math_bits_deBruijn64tab), ("internal/strconv.uint64pow10", Rows.laid_internal_strconv_uint64pow10), ("unicode/utf8.acceptRanges", Rows.laid_unicode_utf8_acceptRanges), ("loop.example/g00787/impl.flags", Rows.laid_loop_example_g00787_impl_flags), ("unicode.CaseRanges", Rows.laid_unicode_CaseRanges), ("unicode/utf8.first", Rows.laid_unicode_utf8_first)]

theorem at99 (a : Option Addr) (len cap : Nat) (zs : List Int) (w : World) (h : BRow w a len cap zs) (hlx : len ≤ 1048576) :
    Calls Tryz.prog 17 #[.slice a len cap, .int .i64 0, .int .i64 99] w (AtPost w 99) :=
  at_any a len cap zs 0 99 w h hlx (by omega) (by omega) (by omega)

theorem brow_at {w w' : World} {a : Option Addr} {len cap : Nat} {zs : List Int} (h : BRow w a len cap zs) (hb : Below w.heap.size w w') : BRow w' a len cap zs := brow_below h hb

/-- The library's table, in order. -/
def tz64 : List Int := [0, 1, 56, 2, 57, 49, 28, 3, 61, 58, 42, 50, 38, 29, 17, 4, 62, 47, 59, 36, 45, 43, 51, 22, 53, 39, 33, 30, 24, 18, 12, 5, 63, 55, 48, 27, 60, 41, 37, 16, 46, 35, 44, 21, 52, 32, 23, 11, 54, 26, 40, 15, 34, 20, 31, 10, 25, 14, 19, 9, 13, 8, 7, 6]

/-- What the condition gives the walk. -/
theorem of_laid {w : World} (h : laidMetH Tryz.prog listed w) : Tb5 w := by
  rw [MakeChecks.laidMetH_plain _ _ _ (by kernel_rfl)] at h
  unfold listed at h
  have h1 := h.tail
  have h2 := h1.tail
  have h4 := h2.tail.tail
  have t1 : Lib.TabIs Tryz.prog w "math/bits.deBruijn64tab" .u8 tz64 := Lib.tabIs_of_head (show Tryz.prog.globalNamed "math/bits.deBruijn64tab" = some 9 by kernel_rfl) (show (Tryz.prog.globals[9]?).map (·.type) = some 291 by kernel_rfl) Tryz.underlying291 Tryz.underlying5 (by kernel_rfl) (by kernel_rfl) h1
  have e2 : (Rows.laid_internal_strconv_uint64pow10 : DataW Unit) = Lib.tabData .u64 Lib.pow10Tab := by kernel_rfl
  rw [e2] at h2
  have t2 : Lib.TabIs Tryz.prog w "internal/strconv.uint64pow10" .u64 Lib.pow10Tab := Lib.tabIs_of_head (show Tryz.prog.globalNamed "internal/strconv.uint64pow10" = some 4 by kernel_rfl) (show (Tryz.prog.globals[4]?).map (·.type) = some 276 by kernel_rfl) Tryz.underlying276 Tryz.underlying198 (by kernel_rfl) (by kernel_rfl) h2
  have e4 : (Rows.laid_loop_example_g00787_impl_flags : DataW Unit) = .agg (flagRows.map fun L => .agg (L.map fun b => .lit (.int .i64 b))) := by kernel_rfl
  rw [e4] at h4
  have c := fun i hi => t1.cell (show Tryz.prog.globalNamed "math/bits.deBruijn64tab" = some 9 by kernel_rfl) i hi
  exact ⟨flags_of_head h4, ⟨c 1 (by decide), c 3 (by decide), c 7 (by decide), c 15 (by decide)⟩, t2⟩

set_option maxRecDepth 100000 in
set_option maxHeartbeats 4000000 in
theorem walk (a0 : Option Addr) (len0 cap0 : Nat) (z0 : List Int) (a1 : Option Addr) (len1 cap1 : Nat) (z1 : List Int) (w : World) (w0 : BRow w a0 len0 cap0 z0) (w1 : BRow w a1 len1 cap1 z1) (hl : Tb5 w) :
    Calls Tryz.prog 6 #[.slice a0 len0 cap0, .slice a1 len1 cap1] w fun e w' => e = .returned (.bool true) ∧ Below w.heap.size w w' := by
  have TB : Hid (∀ W, Below w.heap.size w W → Tb5 W) := Lib.hid fun W h => tb_stable _ _ hl h
  clear hl
  have g0 : BRow w a0 len0 cap0 z0 := w0
  have g1 : BRow w a1 len1 cap1 z1 := w1
  have W0 := Lib.hid g0
  have W1 := Lib.hid g1
  have l0m : len0 ≤ maxLen := by rcases g0 with ⟨_, h, _⟩ | ⟨_, _, h1, h2, _⟩ <;> omega
  have l1m : len1 ≤ maxLen := by rcases g1 with ⟨_, h, _⟩ | ⟨_, _, h1, h2, _⟩ <;> omega
  unfold maxLen at l0m l1m
  clear w0 w1 g0 g1
  by_cases l0 : len0 ≤ 1048576
  rotate_left
  · go_enter Tryz.func6, Tryz.ntmps6
    go_wp2
    go_ret
    exact ⟨rfl, Below.refl _ _⟩
  by_cases l1 : len1 ≤ 1048576
  rotate_left
  · go_enter Tryz.func6, Tryz.ntmps6
    go_wp2
    go_ret
    exact ⟨rfl, Below.refl _ _⟩
  go_enter Tryz.func6, Tryz.ntmps6
  go_wp2_with fail
  refine (sNewData_any _).mono ?_
  rintro e m1 ⟨u, rfl, UN1, hb⟩
  obtain ⟨A1, k1, A2, k2, A3, k3, rfl⟩ := datIn_form (datOf_in UN1)
  have B1 : Below w.heap.size w m1 := hb
  clear hb
  go_wp2_with fail
  refine (cellDrawn_any _ _ _ _ _ (brow_at W0.out (below_alloc B1 _)) (by omega)).mono ?_
  rintro e m2 ⟨x1, hx1, rfl, hb⟩
  have B2 := below_step (below_alloc B1 _) hb
  have X2 := whole_b hb (whole_new m1 _ _)
  have UN2 := datOf_b hb (datOf_below UN1 (below_alloc (Below.refl _ _) _))
  clear hb UN1
  go_wp2_with fail
  refine (cellDrawn_any _ _ _ _ _ (brow_at W1.out B2) (by omega)).mono ?_
  rintro e m3 ⟨x2, hx2, rfl, hb⟩
  have B3 := below_step B2 hb
  have X3 := whole_b hb X2
  have UN3 := datOf_b hb UN2
  clear hb UN2 X2 B2
  go_wp2_with fail
  refine (at99 _ _ _ _ _ (brow_at W0.out B3) l0).mono ?_
  rintro e w' ⟨x3, kk, ⟨v0, v1⟩, rfl, rfl⟩
  go_wp2_with fail
  refine (at99 _ _ _ _ _ (brow_at W1.out (below_drewN B3 kk)) l1).mono ?_
  rintro e w' ⟨x4, kl, ⟨v2, v3⟩, rfl, rfl⟩
  have B4 := below_drewN (below_drewN B3 kk) kl
  have X4 : Whole ((m3.drewN kk).drewN kl) m1.heap.size 40 _ := X3
  have UN4 := datOf_below (datOf_below UN3 (below_drewN (Below.refl _ _) kk)) (below_drewN (Below.refl _ _) kl)
  clear UN3 X3 B3
  generalize (m3.drewN kk).drewN kl = m4 at *
  obtain ⟨c0, c1, c2, c3, c4, c5⟩ := six_cells X4
  have fr := whole_free X4
  have zx := whole_lt X4
  go_upto_region 5 with fail
  clear c0 c1 c2 c3 c4 c5 fr
  have s1 : w.heap.size ≤ m1.heap.size := B1.size
  have X5 : Whole ((m4.setCell ⟨m1.heap.size, 0, none⟩ (.slice (some ⟨m4.heap.size, 0, none⟩) 4 4)).alloc (.cells #[.int .i64 x1, .int .i64 x2, .int .i64 x3, .int .i64 x4] 3)) m1.heap.size 40 #[.slice (some ⟨m4.heap.size, 0, none⟩) 4 4, .slice A2 newDt.b.length k2, .slice A3 newDt.c.length k3, .int .i64 newDt.h, .int .i64 newDt.n, .string newDt.o] := whole_alloc (whole_set X4 0 _) _
  have B5 : Below w.heap.size w ((m4.setCell ⟨m1.heap.size, 0, none⟩ (.slice (some ⟨m4.heap.size, 0, none⟩) 4 4)).alloc (.cells #[.int .i64 x1, .int .i64 x2, .int .i64 x3, .int .i64 x4] 3)) := (B4.setCell (p := ⟨m1.heap.size, 0, none⟩) s1 _).alloc (by have := B4.size; simpa using this) _
  have UN5 := datOf_below (datOf_keep (w' := m4.setCell ⟨m1.heap.size, 0, none⟩ (.slice (some ⟨m4.heap.size, 0, none⟩) 4 4)) UN4 (fun g h1 h2 h3 => Below.heap_setCell _ _ _ _ (by show g ≠ m1.heap.size; omega))) (below_alloc (Below.refl _ _) (.cells #[.int .i64 x1, .int .i64 x2, .int .i64 x3, .int .i64 x4] 3))
  have IS5 : Ints ((m4.setCell ⟨m1.heap.size, 0, none⟩ (.slice (some ⟨m4.heap.size, 0, none⟩) 4 4)).alloc (.cells #[.int .i64 x1, .int .i64 x2, .int .i64 x3, .int .i64 x4] 3)) (.slice (some ⟨m4.heap.size, 0, none⟩) 4 4) [x1, x2, x3, x4] := by
    have h := ints_lit (m4.setCell ⟨m1.heap.size, 0, none⟩ (.slice (some ⟨m4.heap.size, 0, none⟩) 4 4)) [x1, x2, x3, x4] (by unfold maxLen; simp)
    have e : (m4.setCell ⟨m1.heap.size, 0, none⟩ (.slice (some ⟨m4.heap.size, 0, none⟩) 4 4)).heap.size = m4.heap.size := by simp
    rw [e] at h
    exact h
  have DC5 : DatC ((m4.setCell ⟨m1.heap.size, 0, none⟩ (.slice (some ⟨m4.heap.size, 0, none⟩) 4 4)).alloc (.cells #[.int .i64 x1, .int .i64 x2, .int .i64 x3, .int .i64 x4] 3)) (.agg #[.slice (some ⟨m4.heap.size, 0, none⟩) 4 4, .slice A2 newDt.b.length k2, .slice A3 newDt.c.length k3, .int .i64 newDt.h, .int .i64 newDt.n, .string newDt.o]) (d4 x1 x2 x3 x4) :=
    ⟨datIn_stack (n := 0) (datOf_in UN5) IS5, caps_stack (datOf_caps UN4) (Nat.le_refl 4) (by unfold maxLen; omega)⟩
  have E4 : ∃ d, d = d4 x1 x2 x3 x4 ∧ DtFine d ∧ (∀ k, k < 10 → dAll d (idL.getD k []) = (d, ((idL.getD k []).length : Int), 0, 0)) ∧ dAll d [2, 2, 2, 2, 2, 1] = (newDt, 4, -4, 0) := by
    have hd := d4_fine (cellB_true.2 hx1) (cellB_true.2 hx2) (cellB_true.2 (show -2147483648 ≤ x3 ∧ x3 ≤ 2147483647 by omega)) (cellB_true.2 (show -2147483648 ≤ x4 ∧ x4 ≤ 2147483647 by omega))
    exact ⟨_, rfl, hd, fun k hk => ident_all (cellB_true.2 hx1) (cellB_true.2 hx2) (cellB_true.2 (show -2147483648 ≤ x3 ∧ x3 ≤ 2147483647 by omega)) (by omega) (by omega) k hk, ident_drop hd⟩
  obtain ⟨D, hD, HDF, HID, HDR⟩ := E4
  rw [← hD] at DC5
  have hq : m1.heap.size < m4.heap.size := whole_lt X4
  clear UN4 UN5 IS5 X4 B4 B1 hD zx
  generalize (m4.setCell ⟨m1.heap.size, 0, none⟩ (.slice (some ⟨m4.heap.size, 0, none⟩) 4 4)).alloc (.cells #[.int .i64 x1, .int .i64 x2, .int .i64 x3, .int .i64 x4] 3) = m5 at *
  generalize (.slice (some ⟨m4.heap.size, 0, none⟩) 4 4 : Value) = sv at *
  go_upto_region 6 with fail
  have LS := Lib.hid (lists_at m5)
  have LB := lists_below m5
  change Code.wp _ _ _ _ (listsW m5)
  have X6 := whole_below X5 LB
  have B6 := Lib.hid (below_step B5 LB)
  have DC6 := datC_below DC5 LB
  have zg : m5.heap.size + 1 + 1 + 1 + 1 + 1 + 1 + 1 + 1 + 1 + 1 < (listsW m5).heap.size := by unfold listsW; simp
  clear X5 B5 DC5 LB
  generalize listsW m5 = m6 at *
  have HX := Lib.hid X6
  have HC := Lib.hid DC6
  have IP : Hid (∀ k, k < 10 → ∀ sk W, Below m6.heap.size m6 W → Ints W sk (idL.getD k []) → Calls Tryz.prog 26 #[(.agg #[sv, .slice A2 newDt.b.length k2, .slice A3 newDt.c.length k3, .int .i64 newDt.h, .int .i64 newDt.n, .string newDt.o]), sk] W (ResOf W D [((idL.getD k []).length : Int), 0, 0])) := Lib.hid fun k hk sk W hW hi => by
    have h := iAll_any (.agg #[sv, .slice A2 newDt.b.length k2, .slice A3 newDt.c.length k3, .int .i64 newDt.h, .int .i64 newDt.n, .string newDt.o]) sk D (idL.getD k []) W (datC_below HC.out hW).1 hi (TB.out _ (below_step B6.out hW))
    rw [HID k hk] at h
    exact h
  have SP : Hid (∀ k, k < 10 → ∀ sk W, Below m6.heap.size m6 W → Ints W sk (idL.getD k []) → Calls Tryz.prog 27 #[(.agg #[sv, .slice A2 newDt.b.length k2, .slice A3 newDt.c.length k3, .int .i64 newDt.h, .int .i64 newDt.n, .string newDt.o]), sk] W (ResOf W D [((idL.getD k []).length : Int), 0, 0])) := Lib.hid fun k hk sk W hW hi => by
    have h := sAll_any (.agg #[sv, .slice A2 newDt.b.length k2, .slice A3 newDt.c.length k3, .int .i64 newDt.h, .int .i64 newDt.n, .string newDt.o]) sk D (idL.getD k []) W (datC_below HC.out hW) hi
    rw [HID k hk] at h
    exact h
  have IR : Hid (∀ sk W, Below m6.heap.size m6 W → Ints W sk [2, 2, 2, 2, 2, 1] → Calls Tryz.prog 26 #[(.agg #[sv, .slice A2 newDt.b.length k2, .slice A3 newDt.c.length k3, .int .i64 newDt.h, .int .i64 newDt.n, .string newDt.o]), sk] W (ResOf W newDt [4, -4, 0])) := Lib.hid fun sk W hW hi => by
    have h := iAll_any (.agg #[sv, .slice A2 newDt.b.length k2, .slice A3 newDt.c.length k3, .int .i64 newDt.h, .int .i64 newDt.n, .string newDt.o]) sk D _ W (datC_below HC.out hW).1 hi (TB.out _ (below_step B6.out hW))
    rw [HDR] at h
    exact h
  have SR : Hid (∀ sk W, Below m6.heap.size m6 W → Ints W sk [2, 2, 2, 2, 2, 1] → Calls Tryz.prog 27 #[(.agg #[sv, .slice A2 newDt.b.length k2, .slice A3 newDt.c.length k3, .int .i64 newDt.h, .int .i64 newDt.n, .string newDt.o]), sk] W (ResOf W newDt [4, -4, 0])) := Lib.hid fun sk W hW hi => by
    have h := sAll_any (.agg #[sv, .slice A2 newDt.b.length k2, .slice A3 newDt.c.length k3, .int .i64 newDt.h, .int .i64 newDt.n, .string newDt.o]) sk D _ W (datC_below HC.out hW) hi
    rw [HDR] at h
    exact h
  have SD : Hid (∀ d, DtFine d → ∀ u v W, DatIn W u d → DatIn W v d → Calls Tryz.prog 21 #[u, v] W fun e w' => e = .returned (.bool true) ∧ Below W.heap.size W w') := Lib.hid fun d hd u v W h h' => by
    have := iSameData_any u v d d W h h'
    rw [sameV_self hd] at this; exact this
  have HFD := Lib.hid HDF
  clear HID HDR HDF X6 DC6
  go_wp2_with fail
  go_loopw [7] (fun i wr => ∃ k : Nat, k ≤ 10 ∧ i = .int .i64 k ∧ Below m6.heap.size m6 wr) (fun i _ => 10 - (intOf i).toNat)
  case atStart => exact ⟨0, by omega, rfl, Below.refl _ _⟩
  case round =>
    obtain ⟨k, hk, rfl, hbr⟩ := hrel
    have Bwr := Lib.hid hbr
    by_cases hlt : k < 10
    · have q1 : (k : Int) < 10 := by omega
      obtain ⟨b, n, hn, hc, hi⟩ := LS.out m6 (Below.refl _ _) k hlt
      have VB : Hid (∀ W, Below m6.heap.size m6 W → Whole W m1.heap.size 40 #[sv, .slice A2 newDt.b.length k2, .slice A3 newDt.c.length k3, .int .i64 newDt.h, .int .i64 newDt.n, .string newDt.o] ∧ W.cell? ⟨m5.heap.size + 1 + 1 + 1 + 1 + 1 + 1 + 1 + 1 + 1 + 1, k, none⟩ = some (.slice (some ⟨b, 0, none⟩) n n)) := Lib.hid fun W h => ⟨whole_below HX.out h, by rw [h.cell (World.block_lt_of_cell? m6 _ hc)]; exact hc⟩
      have IPK : Hid (∀ W, Below m6.heap.size m6 W → Calls Tryz.prog 26 #[(.agg #[sv, .slice A2 newDt.b.length k2, .slice A3 newDt.c.length k3, .int .i64 newDt.h, .int .i64 newDt.n, .string newDt.o]), .slice (some ⟨b, 0, none⟩) n n] W (ResOf W D [(n : Int), 0, 0])) := Lib.hid fun W h => by
        have h2 := IP.out k hlt _ W h (ints_below hi h)
        rw [← hn] at h2; exact h2
      have SPK : Hid (∀ W, Below m6.heap.size m6 W → Calls Tryz.prog 27 #[(.agg #[sv, .slice A2 newDt.b.length k2, .slice A3 newDt.c.length k3, .int .i64 newDt.h, .int .i64 newDt.n, .string newDt.o]), .slice (some ⟨b, 0, none⟩) n n] W (ResOf W D [(n : Int), 0, 0])) := Lib.hid fun W h => by
        have h2 := SP.out k hlt _ W h (ints_below hi h)
        rw [← hn] at h2; exact h2
      have tn : ((n : Int) != (n : Int)) = false := by simp
      clear hn hc hi hbr
      obtain ⟨⟨c0, c1, c2, c3, c4, c5⟩, cl⟩ : (fun w' => (w'.cell? ⟨m1.heap.size, 0, none⟩ = some sv ∧ w'.cell? ⟨m1.heap.size, 1, none⟩ = some (.slice A2 newDt.b.length k2) ∧ w'.cell? ⟨m1.heap.size, 2, none⟩ = some (.slice A3 newDt.c.length k3) ∧ w'.cell? ⟨m1.heap.size, 3, none⟩ = some (.int .i64 newDt.h) ∧ w'.cell? ⟨m1.heap.size, 4, none⟩ = some (.int .i64 newDt.n) ∧ w'.cell? ⟨m1.heap.size, 5, none⟩ = some (.string newDt.o)) ∧ w'.cell? ⟨m5.heap.size + 1 + 1 + 1 + 1 + 1 + 1 + 1 + 1 + 1 + 1, k, none⟩ = some (.slice (some ⟨b, 0, none⟩) n n)) wr := ⟨six_cells (VB.out _ Bwr.out).1, (VB.out _ Bwr.out).2⟩
      have VW : Hid (∀ W, Below wr.heap.size wr W → (fun w' => (w'.cell? ⟨m1.heap.size, 0, none⟩ = some sv ∧ w'.cell? ⟨m1.heap.size, 1, none⟩ = some (.slice A2 newDt.b.length k2) ∧ w'.cell? ⟨m1.heap.size, 2, none⟩ = some (.slice A3 newDt.c.length k3) ∧ w'.cell? ⟨m1.heap.size, 3, none⟩ = some (.int .i64 newDt.h) ∧ w'.cell? ⟨m1.heap.size, 4, none⟩ = some (.int .i64 newDt.n) ∧ w'.cell? ⟨m1.heap.size, 5, none⟩ = some (.string newDt.o)) ∧ w'.cell? ⟨m5.heap.size + 1 + 1 + 1 + 1 + 1 + 1 + 1 + 1 + 1 + 1, k, none⟩ = some (.slice (some ⟨b, 0, none⟩) n n)) W ∧ Below m6.heap.size m6 W) := Lib.hid fun W h => ⟨⟨six_cells (VB.out _ (below_step Bwr.out h)).1, (VB.out _ (below_step Bwr.out h)).2⟩, below_step Bwr.out h⟩
      go_upto_region 9 with fail
      go_cut [8, 9, 10, 11] from 60 to 71 (fun s8 s9 s10 s11 wx => IdCut wr D n s8 s9 s10 s11 wx)
      case first =>
        go_region_held3 (fun w' => (w'.cell? ⟨m1.heap.size, 0, none⟩ = some sv ∧ w'.cell? ⟨m1.heap.size, 1, none⟩ = some (.slice A2 newDt.b.length k2) ∧ w'.cell? ⟨m1.heap.size, 2, none⟩ = some (.slice A3 newDt.c.length k3) ∧ w'.cell? ⟨m1.heap.size, 3, none⟩ = some (.int .i64 newDt.h) ∧ w'.cell? ⟨m1.heap.size, 4, none⟩ = some (.int .i64 newDt.n) ∧ w'.cell? ⟨m1.heap.size, 5, none⟩ = some (.string newDt.o)) ∧ w'.cell? ⟨m5.heap.size + 1 + 1 + 1 + 1 + 1 + 1 + 1 + 1 + 1 + 1, k, none⟩ = some (.slice (some ⟨b, 0, none⟩) n n))
          (exact (VW.out _ (by repeat (first | with_reducible exact D3 | with_reducible exact Below.refl _ _ | with_reducible refine below_alloc ?_ _ | with_reducible refine Below.drew ?_ | with_reducible refine Below.setCell ?_ (by simp; try omega) _))).1)
          (first
            | (go_at_call 26; with_reducible show Calls _ _ _ (World.drew (World.alloc _ _)) _
               refine (IPK.out _ (VW.out _ (by repeat (first | with_reducible exact D3 | with_reducible exact Below.refl _ _ | with_reducible refine below_alloc ?_ _ | with_reducible refine Below.drew ?_ | with_reducible refine Below.setCell ?_ (by simp; try omega) _))).2).mono ?_
               rintro e w3 ⟨u, rfl, hu, hb⟩
               simp only [List.map_cons, List.map_nil]
               have D3 : Below wr.heap.size wr w3 := below_step (by repeat (first | with_reducible exact D3 | with_reducible exact Below.refl _ _ | with_reducible refine below_alloc ?_ _ | with_reducible refine Below.drew ?_ | with_reducible refine Below.setCell ?_ (by simp; try omega) _)) hb
               have X3 : Whole w3 wr.heap.size 40 #[.slice none 0 0, .slice none 0 0, .slice none 0 0, .int .i64 0, .int .i64 0, .string ⟨#[]⟩] := whole_b hb (whole_new wr _ _)
               clear hb
               obtain ⟨G1, i1, G2, i2, G3, i3, rfl⟩ := datIn_form (datOf_in hu)
               have zx := whole_lt X3
               obtain ⟨x0, x1, x2, x3, x4, x5⟩ := six_cells X3
               have fx := whole_free X3)
            | (go_at_call 26; with_reducible show Calls _ _ _ (World.drew _) _
               refine (IPK.out _ (VW.out _ (by repeat (first | with_reducible exact D3 | with_reducible exact Below.refl _ _ | with_reducible refine below_alloc ?_ _ | with_reducible refine Below.drew ?_ | with_reducible refine Below.setCell ?_ (by simp; try omega) _))).2).mono ?_
               rintro e w3 ⟨u, rfl, hu, hb⟩
               simp only [List.map_cons, List.map_nil]
               have D3 : Below wr.heap.size wr w3 := below_step (by repeat (first | with_reducible exact D3 | with_reducible exact Below.refl _ _ | with_reducible refine below_alloc ?_ _ | with_reducible refine Below.drew ?_ | with_reducible refine Below.setCell ?_ (by simp; try omega) _)) hb
               clear hb
               obtain ⟨G1, i1, G2, i2, G3, i3, rfl⟩ := datIn_form (datOf_in hu)
               have zx := D3.size))
        all_goals (go_wp2_with fail; go_meet)
        · exact ⟨_, _, _, _, _, _, _, rfl, rfl, rfl, rfl, whole_new w3 _ _, datIn_below (datOf_in hu) (below_alloc (Below.refl _ _) _), below_alloc D3 _⟩
        · refine ⟨_, _, _, _, _, _, _, rfl, rfl, rfl, rfl, six_whole X3 _ _ _ _ _ _, datOf_in (datOf_keep hu (fun g h1 h2 h3 => ?_)), below_six D3 (Nat.le_refl _) _ _ _ _ _ _⟩
          have hg : wr.heap.size + 1 ≤ g := by simpa using h2
          iterate 6 rw [Below.heap_setCell _ _ _ _ (by show g ≠ wr.heap.size; omega)]
      case rest =>
        obtain ⟨g, G1, i1, G2, i2, G3, i3, rfl, rfl, rfl, rfl, XG, DG, BW⟩ := hcut
        rename World => wd
        have Bwd := Lib.hid (below_step Bwr.out BW)
        have HXG := Lib.hid XG
        have HDG := Lib.hid DG
        clear XG DG BW c0 c1 c2 c3 c4 c5 cl VW
        obtain ⟨⟨c0, c1, c2, c3, c4, c5⟩, cl⟩ : (fun w' => (w'.cell? ⟨m1.heap.size, 0, none⟩ = some sv ∧ w'.cell? ⟨m1.heap.size, 1, none⟩ = some (.slice A2 newDt.b.length k2) ∧ w'.cell? ⟨m1.heap.size, 2, none⟩ = some (.slice A3 newDt.c.length k3) ∧ w'.cell? ⟨m1.heap.size, 3, none⟩ = some (.int .i64 newDt.h) ∧ w'.cell? ⟨m1.heap.size, 4, none⟩ = some (.int .i64 newDt.n) ∧ w'.cell? ⟨m1.heap.size, 5, none⟩ = some (.string newDt.o)) ∧ w'.cell? ⟨m5.heap.size + 1 + 1 + 1 + 1 + 1 + 1 + 1 + 1 + 1 + 1, k, none⟩ = some (.slice (some ⟨b, 0, none⟩) n n)) wd := ⟨six_cells (VB.out _ Bwd.out).1, (VB.out _ Bwd.out).2⟩
        have VW : Hid (∀ W, Below wd.heap.size wd W → (fun w' => (w'.cell? ⟨m1.heap.size, 0, none⟩ = some sv ∧ w'.cell? ⟨m1.heap.size, 1, none⟩ = some (.slice A2 newDt.b.length k2) ∧ w'.cell? ⟨m1.heap.size, 2, none⟩ = some (.slice A3 newDt.c.length k3) ∧ w'.cell? ⟨m1.heap.size, 3, none⟩ = some (.int .i64 newDt.h) ∧ w'.cell? ⟨m1.heap.size, 4, none⟩ = some (.int .i64 newDt.n) ∧ w'.cell? ⟨m1.heap.size, 5, none⟩ = some (.string newDt.o)) ∧ w'.cell? ⟨m5.heap.size + 1 + 1 + 1 + 1 + 1 + 1 + 1 + 1 + 1 + 1, k, none⟩ = some (.slice (some ⟨b, 0, none⟩) n n)) W ∧ Below m6.heap.size m6 W) := Lib.hid fun W h => ⟨⟨six_cells (VB.out _ (below_step Bwd.out h)).1, (VB.out _ (below_step Bwd.out h)).2⟩, below_step Bwd.out h⟩
        go_upto_region 10 with fail
        go_cut [12, 13, 14, 15] from 71 to 82 (fun s8 s9 s10 s11 wx => IdCut wd D n s8 s9 s10 s11 wx)
        case first =>
          go_region_held3 (fun w' => (w'.cell? ⟨m1.heap.size, 0, none⟩ = some sv ∧ w'.cell? ⟨m1.heap.size, 1, none⟩ = some (.slice A2 newDt.b.length k2) ∧ w'.cell? ⟨m1.heap.size, 2, none⟩ = some (.slice A3 newDt.c.length k3) ∧ w'.cell? ⟨m1.heap.size, 3, none⟩ = some (.int .i64 newDt.h) ∧ w'.cell? ⟨m1.heap.size, 4, none⟩ = some (.int .i64 newDt.n) ∧ w'.cell? ⟨m1.heap.size, 5, none⟩ = some (.string newDt.o)) ∧ w'.cell? ⟨m5.heap.size + 1 + 1 + 1 + 1 + 1 + 1 + 1 + 1 + 1 + 1, k, none⟩ = some (.slice (some ⟨b, 0, none⟩) n n))
            (exact (VW.out _ (by repeat (first | with_reducible exact D3 | with_reducible exact Below.refl _ _ | with_reducible refine below_alloc ?_ _ | with_reducible refine Below.drew ?_ | with_reducible refine Below.setCell ?_ (by simp; try omega) _))).1)
            (first
              | (go_at_call 27; with_reducible show Calls _ _ _ (World.drew (World.alloc _ _)) _
                 refine (SPK.out _ (VW.out _ (by repeat (first | with_reducible exact D3 | with_reducible exact Below.refl _ _ | with_reducible refine below_alloc ?_ _ | with_reducible refine Below.drew ?_ | with_reducible refine Below.setCell ?_ (by simp; try omega) _))).2).mono ?_
                 rintro e w3 ⟨u, rfl, hu, hb⟩
                 simp only [List.map_cons, List.map_nil]
                 have D3 : Below wd.heap.size wd w3 := below_step (by repeat (first | with_reducible exact D3 | with_reducible exact Below.refl _ _ | with_reducible refine below_alloc ?_ _ | with_reducible refine Below.drew ?_ | with_reducible refine Below.setCell ?_ (by simp; try omega) _)) hb
                 have X3 : Whole w3 wd.heap.size 40 #[.slice none 0 0, .slice none 0 0, .slice none 0 0, .int .i64 0, .int .i64 0, .string ⟨#[]⟩] := whole_b hb (whole_new wd _ _)
                 clear hb
                 obtain ⟨G1, i1, G2, i2, G3, i3, rfl⟩ := datIn_form (datOf_in hu)
                 have zx := whole_lt X3
                 obtain ⟨x0, x1, x2, x3, x4, x5⟩ := six_cells X3
                 have fx := whole_free X3)
              | (go_at_call 27; with_reducible show Calls _ _ _ (World.drew _) _
                 refine (SPK.out _ (VW.out _ (by repeat (first | with_reducible exact D3 | with_reducible exact Below.refl _ _ | with_reducible refine below_alloc ?_ _ | with_reducible refine Below.drew ?_ | with_reducible refine Below.setCell ?_ (by simp; try omega) _))).2).mono ?_
                 rintro e w3 ⟨u, rfl, hu, hb⟩
                 simp only [List.map_cons, List.map_nil]
                 have D3 : Below wd.heap.size wd w3 := below_step (by repeat (first | with_reducible exact D3 | with_reducible exact Below.refl _ _ | with_reducible refine below_alloc ?_ _ | with_reducible refine Below.drew ?_ | with_reducible refine Below.setCell ?_ (by simp; try omega) _)) hb
                 clear hb
                 obtain ⟨G1, i1, G2, i2, G3, i3, rfl⟩ := datIn_form (datOf_in hu)
                 have zx := D3.size))
          all_goals (go_wp2_with fail; go_meet)
          · exact ⟨_, _, _, _, _, _, _, rfl, rfl, rfl, rfl, whole_new w3 _ _, datIn_below (datOf_in hu) (below_alloc (Below.refl _ _) _), below_alloc D3 _⟩
          · refine ⟨_, _, _, _, _, _, _, rfl, rfl, rfl, rfl, six_whole X3 _ _ _ _ _ _, datOf_in (datOf_keep hu (fun g h1 h2 h3 => ?_)), below_six D3 (Nat.le_refl _) _ _ _ _ _ _⟩
            have hg : wd.heap.size + 1 ≤ g := by simpa using h2
            iterate 6 rw [Below.heap_setCell _ _ _ _ (by show g ≠ wd.heap.size; omega)]
        case rest =>
          obtain ⟨g2, H1, h1, H2, h2, H3, h3, rfl, rfl, rfl, rfl, XH, DH, BW⟩ := hcut
          have BE := Lib.hid (below_step Bwd.out BW)
          obtain ⟨c0, c1, c2, c3, c4, c5⟩ := six_cells (VB.out _ BE.out).1
          have cl := (VB.out _ BE.out).2
          have XG := whole_below HXG.out BW
          obtain ⟨x0, x1, x2, x3, x4, x5⟩ := six_cells XG
          have zx := whole_lt XG
          have zy := whole_lt (VB.out _ BE.out).1
          have DG := Lib.hid (datIn_below HDG.out BW)
          clear XH DH BW XG
          go_wp2_with (go_at_call 21; refine (SD.out D HFD.out _ _ _ DG.out (datC_below HC.out BE.out).1).mono ?_; rintro e w9 ⟨rfl, hb9⟩)
          go_roundw
          case rel => exact ⟨k + 1, by omega, by go_num, below_step BE.out hb9⟩
          case measure => simp [intOf]; omega
    · obtain rfl : k = 10 := by omega
      have q1 : ¬ ((10 : Nat) : Int) < 10 := by omega
      obtain ⟨c0, c1, c2, c3, c4, c5⟩ := six_cells (whole_below HX.out hbr)
      have zy := whole_lt (whole_below HX.out hbr)
      go_wp2_with fail
      refine (IR.out _ _ (below_alloc hbr _) (by exact ints_lit wr [2, 2, 2, 2, 2, 1] (by unfold maxLen; simp))).mono ?_
      rintro e n1 ⟨u, rfl, hu, hb⟩
      simp only [List.map_cons, List.map_nil]
      obtain ⟨G1, i1, G2, i2, G3, i3, rfl⟩ := datIn_form (datOf_in hu)
      have BN := below_step (below_alloc hbr _) hb
      clear hb c0 c1 c2 c3 c4 c5 zy
      obtain ⟨c0, c1, c2, c3, c4, c5⟩ := six_cells (whole_below HX.out BN)
      have zy := whole_lt (whole_below HX.out BN)
      go_wp2_with fail
      refine (SR.out _ _ (below_alloc (below_alloc BN _) _) (by exact ints_lit1 n1 _ [2, 2, 2, 2, 2, 1] (by unfold maxLen; simp))).mono ?_
      rintro e n2 ⟨u2, rfl, hu2, hb⟩
      simp only [List.map_cons, List.map_nil]
      obtain ⟨H1, h1, H2, h2, H3, h3, rfl⟩ := datIn_form (datOf_in hu2)
      have XG := whole_b hb (whole_alloc (whole_new n1 _ _) _)
      have DG := datIn_below (datOf_in hu) (below_step (below_alloc (below_alloc (Below.refl _ _) _) _) hb)
      have BE := below_step (below_alloc (below_alloc BN _) _) hb
      clear hb c0 c1 c2 c3 c4 c5 zy
      obtain ⟨x0, x1, x2, x3, x4, x5⟩ := six_cells XG
      have zx := whole_lt XG
      have e0 : (((newDt.s.length : Nat) : Int) == 0) = true := rfl
      go_wp2_with (go_at_call 21; refine (SD.out newDt new_fine _ _ _ (datIn_below DG (below_alloc (Below.refl _ _) _)) (datIn_below (datOf_in hu2) (below_alloc (Below.refl _ _) _))).mono ?_; rintro e w9 ⟨rfl, hb9⟩; have X9 := whole_b hb9 (whole_new n2 _ _); have y0 := whole_cell X9 0; simp at y0)
      go_ret
      exact ⟨rfl, below_step B6.out (below_step (below_alloc BE _) hb9)⟩

set_option maxRecDepth 100000 in
theorem lifted (os : Os) (started : os.Started) (H : Type) (enc : TypeId × Value → H) :
    ReturnsInHanded {} Tryz.checked os 6 .any (fun w args => (Rows.fnIdentitiesSpec.pre enc Tryz.prog Tryz.f6 [] false w args ∧ laidMetH Tryz.prog listed w) ∧ sizedMet enc Tryz.prog Tryz.f6 (OpenSpec.ofChange Rows.fnIdentitiesSpec) false w args)
      (Rows.fnIdentitiesSpec.post enc Tryz.prog Tryz.f6 false true false false) := by
  refine returnsInHanded_of_change_and (C := Tryz.checked) (X := fun w _ => laidMetH Tryz.prog listed w) (fun _ _ _ hh h => h.of_heap hh) own started (by kernel_rfl) Tryz.func6
    (ChangeSpec.witness_shaped (enc := enc) (C := Tryz.checked) (os := os) (X := fun w _ => laidMetH Tryz.prog listed w) false (World.laidAll Tryz.prog os listed) #[.slice none 0 0, .slice none 0 0] 8 (World.laidAll_os _ _ _)
      (World.shaped_of_ZipB (by kernel_rfl) (by kernel_rfl)) (by kernel_rfl) (by kernel_rfl) (by kernel_rfl)
      (by rw [MakeChecks.laidMetH_plain _ _ _ (by kernel_rfl)]; exact laidMet_laidAll _ (by kernel_rfl) (by kernel_rfl))) ?_
  intro W base args ds gs before hval0 hW _ _ hL _
  have hval : ∀ (j : Nat) t v, Tryz.f6.params[j]? = some t → args[j]? = some v → Value.okWide Tryz.prog W .any base t v := hval0
  have hW' := hW
  obtain ⟨p, q, hA0, hV0, rfl, hfz, hnd⟩ := hW
  have hA : DataW.TrodAll enc Tryz.prog W 0 (fun _ => true) true Tryz.f6.params.toList args.toList ds p := hA0
  have hV : DataW.TrodVars enc Tryz.prog W (fun _ => true) ["loop.example/g00787/impl.flags"] gs q := hV0
  rw [Tryz.params6] at hA hval
  obtain ⟨v0, vs0, d0, ds0, p0, q0, hargs, rfl, rfl, h0, r0⟩ := trodAll_cons hA
  obtain ⟨v1, vs1, d1, ds1, p1, q1, rfl, rfl, rfl, h1, r1⟩ := trodAll_cons r0
  obtain ⟨rfl, rfl, rfl⟩ := trodAll_nil r1
  obtain rfl : args = #[v0, v1] := by cases args; simp_all
  obtain ⟨g, t, cs, fuelV, dv, pv, rfl, hg, ht, hvar, hd, rfl⟩ := trodVars_one hV
  obtain rfl := Option.some.inj ((show Tryz.prog.globalNamed "loop.example/g00787/impl.flags" = some 0 by kernel_rfl).symm.trans hg)
  obtain rfl := Option.some.inj ((show (Tryz.prog.globals[0]?).map (·.type) = some 217 by kernel_rfl).symm.trans ht)
  obtain ⟨a0, len0, cap0, rfl⟩ := okWide_slice Tryz.underlying55 (hval 0 55 v0 rfl rfl)
  have k0 := h0
  have lt0 : ∀ x ∈ p0, x.block < W.heap.size := by obtain ⟨m, hm⟩ := k0; exact DataW.trod_lt m _ _ _ hm
  obtain ⟨z0, w0⟩ : ∃ zs, BRow W a0 len0 cap0 zs := by
    obtain ⟨fuel, hf⟩ := h0
    rcases open_ints Tryz.underlying55 Tryz.underlying5 (by kernel_rfl) hf with ⟨hcs, _⟩ | ⟨x, l, c, zs, hcs, _, hl, hm, hz, _, hcell, hwz⟩
    · simp [Value.cells] at hcs
      obtain ⟨rfl, rfl, rfl⟩ := hcs
      exact ⟨[], .inl ⟨rfl, rfl, rfl, rfl⟩⟩
    · simp [Value.cells] at hcs
      obtain ⟨rfl, rfl, rfl⟩ := hcs
      exact ⟨zs, .inr ⟨_, rfl, hl, hm, by simpa using hz, hcell, hwz⟩⟩
  obtain ⟨a1, len1, cap1, rfl⟩ := okWide_slice Tryz.underlying55 (hval 1 55 v1 rfl rfl)
  have k1 := h1
  have lt1 : ∀ x ∈ p1, x.block < W.heap.size := by obtain ⟨m, hm⟩ := k1; exact DataW.trod_lt m _ _ _ hm
  obtain ⟨z1, w1⟩ : ∃ zs, BRow W a1 len1 cap1 zs := by
    obtain ⟨fuel, hf⟩ := h1
    rcases open_ints Tryz.underlying55 Tryz.underlying5 (by kernel_rfl) hf with ⟨hcs, _⟩ | ⟨x, l, c, zs, hcs, _, hl, hm, hz, _, hcell, hwz⟩
    · simp [Value.cells] at hcs
      obtain ⟨rfl, rfl, rfl⟩ := hcs
      exact ⟨[], .inl ⟨rfl, rfl, rfl, rfl⟩⟩
    · simp [Value.cells] at hcs
      obtain ⟨rfl, rfl, rfl⟩ := hcs
      exact ⟨zs, .inr ⟨_, rfl, hl, hm, by simpa using hz, hcell, hwz⟩⟩
  have hfact := of_laid hL
  clear hA0 hV0 hval0
  have hg0 : 0 < W.heap.size := by
    rcases Nat.lt_or_ge 0 W.heap.size with h1 | h1
    · exact h1
    · simp [World.var?, hg, h1] at hvar
  have ltv : ∀ x ∈ pv, x.block < W.heap.size := DataW.trod_lt fuelV _ _ _ hd
  refine (walk a0 len0 cap0 z0 a1 len1 cap1 z1 W w0 w1 hfact).mono fun e W' ⟨he, bel⟩ => ?_
  subst he
  obtain ⟨fuelW, hd'⟩ := Below.trod (v := .agg cs) laidOut (by kernel_rfl) (of_decide_eq_true (by kernel_rfl)) ⟨fuelV, hd⟩ bel ltv
  exact ⟨_, rfl, _, _, _, [], _, _, hW', trodAll_mk1 (shut_bool Tryz.underlying4 _), (trodAll_cons_mk (Below.trod laidOut (by kernel_rfl) (of_decide_eq_true (by kernel_rfl)) k0 bel lt0) (trodAll_cons_mk (Below.trod laidOut (by kernel_rfl) (of_decide_eq_true (by kernel_rfl)) k1 bel lt1) trodAll_mk0)), trodVars_mk1 hg ht (var?_below bel hg hg0 hvar) hd', bel.frame _, fun h => by cases h⟩

theorem and_intro {a b : Bool} (ha : a = true) (hb : b = true) : (a && b) = true := by rw [ha, hb]; rfl

set_option maxRecDepth 100000 in
set_option maxHeartbeats 8000000 in
theorem closed : joinedFacts Tryz.prog 6 Tryz.f6 Rows.fnIdentitiesSpec Rows.fnIdentitiesRow = true := by
  unfold joinedFacts
  repeat' (with_reducible refine and_intro ?_ ?_)
  all_goals as_aux_lemma => kernel_rfl

theorem over : Rows.FnIdentitiesSaid :=
  OpenClaim.holds_of_wide 6 Tryz.f6 rfl rfl rfl rfl rfl rfl rfl ⟨rfl, rfl, rfl, rfl, rfl⟩ rfl rfl rfl rfl rfl (by kernel_rfl) Tryz.func6 closed
    (of_decide_eq_true (by kernel_rfl)) (by unfold Func.isWrapper; first | (rw [if_pos (by decide +kernel)]; kernel_rfl) | (rw [if_neg (by decide +kernel)]; exact ⟨rfl, rfl⟩))
    (fun os started H enc _ => lifted os started H enc)

/-- The statement: the tied card. -/
theorem proved : Rows.FnIdentitiesCardSaid :=
  Claim7.holds_tied_plain_at .later [] [.data, .data, .data, .data, .data, .pinned, .pinned] true (true, "040dfef8b6dd789b16104e7e41f69202df3a530845632ec4bd72ba64af32fcb5") false
    over (fun _ h => by cases h) (by kernel_rfl) (fun _ h => by cases h) fnIdentities_row_tie rfl ⟨rfl, rfl⟩ (by kernel_rfl) rfl
    (fun f fn hf hfn => by
      obtain rfl : f = 6 := Option.some.inj ((show Tryz.prog.funcNamed "loop.example/g00787/laws.FnIdentities" = some 6 by kernel_rfl).symm.trans hf) |>.symm
      obtain rfl : fn = Tryz.f6 := (Option.some.inj (Tryz.func6.symm.trans hfn)).symm
      exact ⟨by kernel_rfl, fun j t ht => by
        rw [Tryz.params6] at ht
        have hm : t ∈ [55, 55] := by simpa using Array.mem_of_getElem? ht
        have hall : ([55, 55].all fun u => !Tryz.prog.wantsStandIn u) = true := by kernel_rfl
        exact (show Tryz.prog.wantsStandIn t = false by simpa using List.all_eq_true.1 hall t hm)⟩)
    (by kernel_rfl)
#print axioms proved
end Go.Proofs.YthnbaeamekolmaaGreatDoor.fnIdentities
