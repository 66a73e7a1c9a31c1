/- laws.FnPrims returns true at every two codes: six primitives in a row on drawn data have the specification's effects, leave valid data, leave all as it was with a throw, and leave the cells below their own; there is no primitive 53. No condition but the card's: the listed tables are tied to the program's text (a pruned copy of the project). -/
import Derived.Test.YthnbaeamekolmaaGreatDoorRows
import Derived.Test.YthnbaeamekolmaaGreatDoorTie
import Derived.Test.YthnbaeamekolmaaGreatDoorCards
import Derived.Test.YthnbaeamekolmaaGreatDoorPkX
import Derived.Test.YthnbaeamekolmaaGreatDoorPkV
import Derived.Test.YthnbaeamekolmaaGreatDoorPkU
import Derived.Test.YthnbaeamekolmaaGreatDoorPkT
import Derived.Test.YthnbaeamekolmaaGreatDoorPkB
import Derived.Deep.RegionHeld3
import Derived.Stop.LaidErr
import Derived.BigQuiet
import Derived.WalkKit
import Derived.ProofKit
import Derived.OpenShut
import Derived.ShutString
import Derived.ChangeOld
import Derived.Below
import Derived.LaidMore
import Derived.Stop.Joined
import Derived.ChangeVars
import Derived.WalkSmall
import Derived.SevenTiedAt
import Derived.Lay
namespace Go.Proofs.YthnbaeamekolmaaGreatDoor.fnPrims
open Go.ChangeShapes Go.WideShapes Go.ChangeAt Go.RowKit
open Go.ChangeMaps (open_string shut_string)
set_option linter.unusedSimpArgs false
set_option linter.unusedVariables false

theorem own : ownKnob Tryz.prog.godebug = none := by kernel_rfl
theorem laidOut : laidOutB Tryz.prog = true := by kernel_rfl

/-- What the row lists. -/
def listed : List (String × DataW Unit) := [("math/bits.deBruijn32tab", Rows.laid_math_bits_deBruijn32tab), ("math/bits.deBruijn64tab", Rows.laid_math_bits_deBruijn64tab), ("internal/strconv.uint64pow10", Rows.laid_internal_strconv_uint64pow10), ("unicode/utf8.acceptRanges", Rows.laid_unicode_utf8_acceptRanges), ("loop.example/g00787/impl.flags", Rows.laid_loop_example_g00787_impl_flags), ("unicode.CaseRanges", Rows.laid_unicode_CaseRanges), ("unicode/utf8.first", Rows.laid_unicode_utf8_first)]

theorem at52 (a : Option Addr) (len cap : Nat) (zs : List Int) (i : Nat) (w : World) (h : BRow w a len cap zs) (hlx : len ≤ 1048576) (hi : i ≤ 1000000) :
    Calls Tryz.prog 17 #[.slice a len cap, .int .i64 i, .int .i64 52] w (AtPost w 52) :=
  at_any a len cap zs i 52 w h hlx hi (by omega) (by omega)

theorem brow_at {w w' : World} {a : Option Addr} {len cap : Nat} {zs : List Int} (h : BRow w a len cap zs) (hb : Below w.heap.size w w') : BRow w' a len cap zs := brow_below h hb

/-- How the loop stands: the data are c, valid, their rows apart from the variable's block. -/
def PrimsAt (w : World) (g : Nat) (c : Dt) (wr : World) : Prop :=
  ∃ C1 j1 C2 j2 C3 j3 lo hi, DtFine c ∧ Whole wr g 40 #[.slice C1 c.s.length j1, .slice C2 c.b.length j2, .slice C3 c.c.length j3, .int .i64 c.h, .int .i64 c.n, .string c.o] ∧ DatOf wr lo hi (.agg #[.slice C1 c.s.length j1, .slice C2 c.b.length j2, .slice C3 c.c.length j3, .int .i64 c.h, .int .i64 c.n, .string c.o]) c ∧ (hi ≤ g ∨ g < lo) ∧ Below w.heap.size w wr

/-- The library's table, in order. -/
def tz64 : List Int := [0, 1, 56, 2, 57, 49, 28, 3, 61, 58, 42, 50, 38, 29, 17, 4, 62, 47, 59, 36, 45, 43, 51, 22, 53, 39, 33, 30, 24, 18, 12, 5, 63, 55, 48, 27, 60, 41, 37, 16, 46, 35, 44, 21, 52, 32, 23, 11, 54, 26, 40, 15, 34, 20, 31, 10, 25, 14, 19, 9, 13, 8, 7, 6]

/-- What the condition gives the walk. -/
theorem of_laid {w : World} (h : laidMetH Tryz.prog listed w) : Tb5 w := by
  rw [MakeChecks.laidMetH_plain _ _ _ (by kernel_rfl)] at h
  unfold listed at h
  have h1 := h.tail
  have h2 := h1.tail
  have h4 := h2.tail.tail
  have t1 : Lib.TabIs Tryz.prog w "math/bits.deBruijn64tab" .u8 tz64 := Lib.tabIs_of_head (show Tryz.prog.globalNamed "math/bits.deBruijn64tab" = some 9 by kernel_rfl) (show (Tryz.prog.globals[9]?).map (·.type) = some 291 by kernel_rfl) Tryz.underlying291 Tryz.underlying5 (by kernel_rfl) (by kernel_rfl) h1
  have e2 : (Rows.laid_internal_strconv_uint64pow10 : DataW Unit) = Lib.tabData .u64 Lib.pow10Tab := by kernel_rfl
  rw [e2] at h2
  have t2 : Lib.TabIs Tryz.prog w "internal/strconv.uint64pow10" .u64 Lib.pow10Tab := Lib.tabIs_of_head (show Tryz.prog.globalNamed "internal/strconv.uint64pow10" = some 4 by kernel_rfl) (show (Tryz.prog.globals[4]?).map (·.type) = some 276 by kernel_rfl) Tryz.underlying276 Tryz.underlying198 (by kernel_rfl) (by kernel_rfl) h2
  have e4 : (Rows.laid_loop_example_g00787_impl_flags : DataW Unit) = .agg (flagRows.map fun L => .agg (L.map fun b => .lit (.int .i64 b))) := by kernel_rfl
  rw [e4] at h4
  have c := fun i hi => t1.cell (show Tryz.prog.globalNamed "math/bits.deBruijn64tab" = some 9 by kernel_rfl) i hi
  exact ⟨flags_of_head h4, ⟨c 1 (by decide), c 3 (by decide), c 7 (by decide), c 15 (by decide)⟩, t2⟩

set_option maxRecDepth 100000 in
set_option maxHeartbeats 4000000 in
theorem walk (a0 : Option Addr) (len0 cap0 : Nat) (z0 : List Int) (a1 : Option Addr) (len1 cap1 : Nat) (z1 : List Int) (w : World) (w0 : BRow w a0 len0 cap0 z0) (w1 : BRow w a1 len1 cap1 z1) (hl : Tb5 w) :
    Calls Tryz.prog 5 #[.slice a0 len0 cap0, .slice a1 len1 cap1] w fun e w' => e = .returned (.bool true) ∧ Below w.heap.size w w' := by
  have TB : Hid (∀ W, Below w.heap.size w W → Tb5 W) := Lib.hid fun W h => tb_stable _ _ hl h
  clear hl
  have g0 : BRow w a0 len0 cap0 z0 := w0
  have g1 : BRow w a1 len1 cap1 z1 := w1
  have W0 := Lib.hid g0
  have W1 := Lib.hid g1
  have l0m : len0 ≤ maxLen := by rcases g0 with ⟨_, h, _⟩ | ⟨_, _, h1, h2, _⟩ <;> omega
  have l1m : len1 ≤ maxLen := by rcases g1 with ⟨_, h, _⟩ | ⟨_, _, h1, h2, _⟩ <;> omega
  unfold maxLen at l0m l1m
  clear w0 w1 g0 g1
  by_cases l0 : len0 ≤ 1048576
  rotate_left
  · go_enter Tryz.func5, Tryz.ntmps5
    go_wp2
    go_ret
    exact ⟨rfl, Below.refl _ _⟩
  by_cases l1 : len1 ≤ 1048576
  rotate_left
  · go_enter Tryz.func5, Tryz.ntmps5
    go_wp2
    go_ret
    exact ⟨rfl, Below.refl _ _⟩
  go_enter Tryz.func5, Tryz.ntmps5
  go_wp2_with fail
  refine (dataDrawn_any _ _ _ _ _ W0.out (by omega)).mono ?_
  rintro e m1 ⟨u, d, rfl, hd, UD1, hb⟩
  obtain ⟨A1, k1, A2, k2, A3, k3, rfl⟩ := datIn_form (datOf_in UD1)
  have ST : Hid (PrimsAt w m1.heap.size d (m1.alloc (.cells #[.slice A1 d.s.length k1, .slice A2 d.b.length k2, .slice A3 d.c.length k3, .int .i64 d.h, .int .i64 d.n, .string d.o] 40))) :=
    Lib.hid ⟨_, _, _, _, _, _, _, _, hd, whole_new m1 _ _, datOf_below UD1 (below_alloc (Below.refl _ _) _), .inl (Nat.le_refl _), below_alloc hb _⟩
  have s1 : w.heap.size ≤ m1.heap.size := hb.size
  have SD : Hid (∀ d, DtFine d → ∀ u v W, DatIn W u d → DatIn W v d → Calls Tryz.prog 21 #[u, v] W fun e w' => e = .returned (.bool true) ∧ Below W.heap.size W w') := Lib.hid fun d hd u v W h h' => by
    have := iSameData_any u v d d W h h'
    rw [sameV_self hd] at this; exact this
  have OK : Hid (∀ d, DtFine d → ∀ v W, DatIn W v d → Calls Tryz.prog 22 #[v] W fun e w' => e = .returned (.bool true) ∧ Below W.heap.size W w') := Lib.hid fun d hd v W h => by
    have := dataOK_any v d W h
    rw [dOK_true hd] at this; exact this
  clear hb UD1 hd
  go_wp2_with fail
  go_loopw [6] (fun i wr => ∃ (k : Nat) (c : Dt), k ≤ 6 ∧ i = .int .i64 k ∧ PrimsAt w m1.heap.size c wr) (fun i _ => 6 - (intOf i).toNat)
  case atStart => exact ⟨0, d, by omega, rfl, ST.out⟩
  case round =>
    obtain ⟨k, c, hk, rfl, C1, j1, C2, j2, C3, j3, lo, hi, hc, XC, DCC, hlo, hbr⟩ := hrel
    clear ST
    by_cases hlt : k < 6
    · have q1 : (k : Int) < 6 := by omega
      go_wp2_with fail
      refine (at52 _ _ _ _ k _ (brow_at W1.out hbr) l1 (by omega)).mono ?_
      rintro e w' ⟨pv, kk, ⟨v0, v1⟩, rfl, rfl⟩
      obtain ⟨p, hp⟩ : ∃ p : Nat, 1 + pv = (p : Int) := ⟨(1 + pv).toNat, by omega⟩
      have n1 : IntKind.i64.wrap (1 + pv) = (p : Int) := by rw [hp]; exact IntWalk.i64_in _ (by omega)
      obtain ⟨r, t, ha, hr, htk, hsame, hlow⟩ := prim_key hc p (by omega) (by omega)
      have B2 : Below w.heap.size w (wr.drewN kk) := below_drewN hbr kk
      have X2 : Whole (wr.drewN kk) m1.heap.size 40 #[.slice C1 c.s.length j1, .slice C2 c.b.length j2, .slice C3 c.c.length j3, .int .i64 c.h, .int .i64 c.n, .string c.o] := XC
      have D2 : DatOf (wr.drewN kk) lo hi (.agg #[.slice C1 c.s.length j1, .slice C2 c.b.length j2, .slice C3 c.c.length j3, .int .i64 c.h, .int .i64 c.n, .string c.o]) c := datOf_below DCC (below_drewN (Below.refl _ _) kk)
      have IA : Hid (∀ u W, DatIn W u c → Tb5 W → Calls Tryz.prog 18 #[u, .int .i64 p, .int .i64 0] W (ResOf W r [t, 0])) := Lib.hid fun u W h ht => by
        have := iAp_any u c p 0 W h ht
        rw [ha] at this; exact this
      have SA : Hid (∀ u W, DatC W u c → Calls Tryz.prog 19 #[u, .int .i64 p, .int .i64 0] W (ResOf W r [t, 0])) := Lib.hid fun u W h => by
        have := sAp_any u c p 0 W h
        rw [ha] at this; exact this
      have TK : Hid (∀ W, Calls Tryz.prog 20 #[.int .i64 p] W (NumsOf W [(takesP p : Int), 0])) := Lib.hid fun W => by
        have := iTakes_any p W
        rw [htk] at this; exact this
      have t3 := takes3 p
      clear XC DCC hbr ha htk hp v0 v1
      generalize wr.drewN kk = m2 at *
      generalize takesP p = tk at *
      have tt : (t != t) = false := by simp
      have HCF := Lib.hid hc
      have HRF := Lib.hid hr
      have HS := Lib.hid hsame
      have HL := Lib.hid hlow
      have hcl := fine_sl hc
      have hrl := fine_sl hr
      clear hc hr hsame hlow
      obtain ⟨c0, c1, c2, c3, c4, c5⟩ := six_cells X2
      have zc := whole_lt X2
      have hgx := whole_lt X2
      go_wp2_with fail
      clear c0 c1 c2 c3 c4 c5 zc
      refine (IA.out _ _ (datOf_in D2) (TB.out _ B2)).mono ?_
      rintro e m3 ⟨ux, rfl, UX3, hb⟩
      simp only [List.map_cons, List.map_nil]
      obtain ⟨E1, e1, E2, e2, E3, e3, rfl⟩ := datIn_form (datOf_in UX3)
      have B3 := below_b hb B2
      have X3 := whole_b hb X2
      have D3 := datOf_b hb D2
      have z23 := hb.size
      clear hb B2 X2 D2
      obtain ⟨c0, c1, c2, c3, c4, c5⟩ := six_cells X3
      have zc := whole_lt X3
      go_wp2_with fail
      clear c0 c1 c2 c3 c4 c5 zc
      refine (SA.out _ _ (by exact datC_below ⟨datOf_in D3, datOf_caps D3⟩ (below_alloc (Below.refl _ _) _))).mono ?_
      rintro e m4 ⟨uw, rfl, UW4, hb⟩
      simp only [List.map_cons, List.map_nil]
      obtain ⟨F1, f1, F2, f2, F3, f3, rfl⟩ := datIn_form (datOf_in UW4)
      have B4 := below_step (below_alloc B3 _) hb
      have X4 := whole_b hb (whole_alloc X3 _)
      have XX4 := whole_b hb (whole_new m3 _ _)
      have D4 := datOf_b hb (datOf_below D3 (below_alloc (Below.refl _ _) _))
      have UX4 := datOf_b hb (datOf_below UX3 (below_alloc (Below.refl _ _) _))
      have z34 : m3.heap.size + 1 ≤ m4.heap.size := by have := hb.size; simpa using this
      replace UW4 := datOf_base (lo' := m3.heap.size + 1) UW4 (by simp)
      clear hb B3 X3 D3 UX3
      go_wp2_with fail
      refine (TK.out _).mono ?_
      rintro e m5 ⟨rfl, hb⟩
      simp only [List.map_cons, List.map_nil]
      have B5 := below_step (below_alloc B4 _) hb
      have X5 := whole_b hb (whole_alloc X4 _)
      have XX5 := whole_b hb (whole_alloc XX4 _)
      have XW5 := whole_b hb (whole_new m4 _ _)
      have D5 := datOf_b hb (datOf_below D4 (below_alloc (Below.refl _ _) _))
      have UX5 := datOf_b hb (datOf_below UX4 (below_alloc (Below.refl _ _) _))
      have UW5 := datOf_b hb (datOf_below UW4 (below_alloc (Below.refl _ _) _))
      have z45 : m4.heap.size + 1 ≤ m5.heap.size := by have := hb.size; simpa using this
      clear hb B4 X4 XX4 D4 UX4 UW4
      have z1 : w.heap.size ≤ m1.heap.size := s1
      by_cases ht : t = 0
      · obtain ⟨hl1, hl2, hl3⟩ := HL.out ht
        subst ht
        obtain ⟨m, hm⟩ : ∃ m, c.s.length - tk = m := ⟨_, rfl⟩
        rw [hm] at hl2 hl3
        have n2 : IntKind.i64.wrap ((c.s.length : Int) - (tk : Int)) = (m : Int) := by rw [IntWalk.i64_in _ (by omega)]; omega
        obtain ⟨x0, x1, x2, x3, x4, x5⟩ := six_cells XX5
        have zx := whole_lt XX5
        obtain ⟨y0, y1, y2, y3, y4, y5⟩ := six_cells XW5
        have zy := whole_lt XW5
        go_wp2_with fail
        clear x0 x1 x2 x3 x4 x5 zx y0 y1 y2 y3 y4 y5 zy
        refine (SD.out r HRF.out _ _ _ (datOf_in UX5) (datOf_in UW5)).mono ?_
        rintro e m6 ⟨rfl, hb⟩
        have B6 := below_b hb B5
        have X6 := whole_b hb X5
        have XX6 := whole_b hb XX5
        have XW6 := whole_b hb XW5
        have D6 := datOf_b hb D5
        have UX6 := datOf_b hb UX5
        have UW6 := datOf_b hb UW5
        clear hb B5 X5 XX5 XW5 D5 UX5 UW5
        obtain ⟨x0, x1, x2, x3, x4, x5⟩ := six_cells XX6
        have zx := whole_lt XX6
        go_wp2_with fail
        clear x0 x1 x2 x3 x4 x5 zx
        refine (OK.out r HRF.out _ _ (datOf_in UX6)).mono ?_
        rintro e m7 ⟨rfl, hb⟩
        have B7 := below_b hb B6
        have X7 := whole_b hb X6
        have XX7 := whole_b hb XX6
        have XW7 := whole_b hb XW6
        have D7 := datOf_b hb D6
        have UX7 := datOf_b hb UX6
        have UW7 := datOf_b hb UW6
        clear hb B6 X6 XX6 XW6 D6 UX6 UW6
        obtain ⟨x0, x1, x2, x3, x4, x5⟩ := six_cells XX7
        have zx := whole_lt XX7
        obtain ⟨c0, c1, c2, c3, c4, c5⟩ := six_cells X7
        have zc := whole_lt X7
        obtain ⟨_, _, _, _, _, _, _, _, _, _, ev, k1', k2', _⟩ := datOf_caps UX7
        simp only [Value.agg.injEq, Array.mk.injEq, List.cons.injEq, Value.slice.injEq] at ev
        obtain ⟨_, _, _, _, _, _, _, _, _, _, ev2, k3', k4', _⟩ := datOf_caps D7
        simp only [Value.agg.injEq, Array.mk.injEq, List.cons.injEq, Value.slice.injEq] at ev2
        have p1 : m ≤ e1 := by obtain ⟨⟨_, h1, h2⟩, _⟩ := ev; omega
        have p2 : m ≤ j1 := by obtain ⟨⟨_, h1, h2⟩, _⟩ := ev2; omega
        have p3 : ¬ ((r.s.length : Int) < (m : Int)) := by omega
        have p4 : ¬ ((m : Int) < 0) := by omega
        have XI : Hid (∀ W, Below m7.heap.size m7 W → Ints W (.slice E1 m e1) (r.s.take m)) := Lib.hid fun W h => ints_below (ints_take (datIn_first (datOf_in UX7)) (by omega)) h
        have CI : Hid (∀ W, Below m7.heap.size m7 W → Ints W (.slice C1 m j1) (r.s.take m)) := Lib.hid fun W h => by
          rw [hl3]; exact ints_below (ints_take (datIn_first (datOf_in D7)) (by omega)) h
        have te : (r.s.take m == r.s.take m) = true := by simp
        clear ev ev2 k1' k2' k3' k4' hl3 hm
        have XQ : Hid (∀ n, Calls Tryz.prog 23 #[.slice E1 m e1, .slice C1 m j1] (m7.drewN n) fun e w' => e = .returned (.bool true) ∧ ∃ k, w' = (m7.drewN n).drewN k) := Lib.hid fun n =>
          (sameInts_any _ _ (r.s.take m) (r.s.take m) _ (XI.out _ (below_drewN (Below.refl _ _) n)) (CI.out _ (below_drewN (Below.refl _ _) n))).mono fun e w' ⟨kq, he, hw⟩ => ⟨by rw [he, te], kq, hw⟩
        have RW : Hid (∀ n, PrimsAt w m1.heap.size r (((((((m7.drewN n).setCell ⟨m1.heap.size, 0, none⟩ (.slice F1 r.s.length f1)).setCell ⟨m1.heap.size, 1, none⟩ (.slice F2 r.b.length f2)).setCell ⟨m1.heap.size, 2, none⟩ (.slice F3 r.c.length f3)).setCell ⟨m1.heap.size, 3, none⟩ (.int .i64 r.h)).setCell ⟨m1.heap.size, 4, none⟩ (.int .i64 r.n)).setCell ⟨m1.heap.size, 5, none⟩ (.string r.o))) := Lib.hid fun n => by
          have XQ : Whole (m7.drewN n) m1.heap.size 40 _ := X7
          have UQ := datOf_below UW7 (below_drewN (Below.refl _ _) n)
          have BQ := below_drewN B7 n
          exact ⟨_, _, _, _, _, _, _, _, HRF.out, six_whole XQ _ _ _ _ _ _, datOf_keep UQ (fun g h1 h2 h3 => by iterate 6 rw [Below.heap_setCell _ _ _ _ (by show g ≠ m1.heap.size; omega)]), .inr (by omega), below_six BQ (by omega) _ _ _ _ _ _⟩
        go_upto_region 14 with fail
        go_quiet ((go_at_call 23; exact Calls.quiet_of (XQ.out _)))
        clear x0 x1 x2 x3 x4 x5 zx
        obtain ⟨y0, y1, y2, y3, y4, y5⟩ := six_cells XW7
        have zy := whole_lt XW7
        have fc := whole_free X7
        clear XI CI XQ
        go_wp2
        go_roundw
        case rel => exact ⟨k + 1, r, by omega, by go_num, RW.out _⟩
        case measure => simp [intOf]; omega
      · have hsm := HS.out ht
        subst hsm
        have t0 : (t == 0) = false := by simpa using ht
        have t1 : (t != 0) = true := by simpa using ht
        have t2 : decide (t = 0) = false := by simpa using ht
        have n2 : IntKind.i64.wrap ((r.s.length : Int) - (tk : Int)) = (r.s.length : Int) - (tk : Int) := IntWalk.i64_in _ (by omega)
        obtain ⟨x0, x1, x2, x3, x4, x5⟩ := six_cells XX5
        have zx := whole_lt XX5
        obtain ⟨y0, y1, y2, y3, y4, y5⟩ := six_cells XW5
        have zy := whole_lt XW5
        go_wp2_with fail
        clear x0 x1 x2 x3 x4 x5 zx y0 y1 y2 y3 y4 y5 zy
        refine (SD.out r HRF.out _ _ _ (datOf_in UX5) (datOf_in UW5)).mono ?_
        rintro e m6 ⟨rfl, hb⟩
        have B6 := below_b hb B5
        have X6 := whole_b hb X5
        have XX6 := whole_b hb XX5
        have XW6 := whole_b hb XW5
        have D6 := datOf_b hb D5
        have UX6 := datOf_b hb UX5
        have UW6 := datOf_b hb UW5
        clear hb B5 X5 XX5 XW5 D5 UX5 UW5
        obtain ⟨x0, x1, x2, x3, x4, x5⟩ := six_cells XX6
        have zx := whole_lt XX6
        go_wp2_with fail
        clear x0 x1 x2 x3 x4 x5 zx
        refine (OK.out r HRF.out _ _ (datOf_in UX6)).mono ?_
        rintro e m7 ⟨rfl, hb⟩
        have B7 := below_b hb B6
        have X7 := whole_b hb X6
        have XX7 := whole_b hb XX6
        have XW7 := whole_b hb XW6
        have D7 := datOf_b hb D6
        have UX7 := datOf_b hb UX6
        have UW7 := datOf_b hb UW6
        clear hb B6 X6 XX6 XW6 D6 UX6 UW6
        obtain ⟨x0, x1, x2, x3, x4, x5⟩ := six_cells XX7
        have zx := whole_lt XX7
        obtain ⟨c0, c1, c2, c3, c4, c5⟩ := six_cells X7
        have zc := whole_lt X7
        go_wp2_with fail
        clear x0 x1 x2 x3 x4 x5 zx c0 c1 c2 c3 c4 c5 zc
        refine (SD.out r HRF.out _ _ _ (datOf_in UX7) (datOf_in D7)).mono ?_
        rintro e m8 ⟨rfl, hb⟩
        have B8 := below_b hb B7
        have X8 := whole_b hb X7
        have XX8 := whole_b hb XX7
        have XW8 := whole_b hb XW7
        have D8 := datOf_b hb D7
        have UX8 := datOf_b hb UX7
        have UW8 := datOf_b hb UW7
        clear hb B7 X7 XX7 XW7 D7 UX7 UW7
        obtain ⟨c0, c1, c2, c3, c4, c5⟩ := six_cells X8
        have zc := whole_lt X8
        have RW : Hid (∀ n, PrimsAt w m1.heap.size r (((((((m8.drewN n).setCell ⟨m1.heap.size, 0, none⟩ (.slice F1 r.s.length f1)).setCell ⟨m1.heap.size, 1, none⟩ (.slice F2 r.b.length f2)).setCell ⟨m1.heap.size, 2, none⟩ (.slice F3 r.c.length f3)).setCell ⟨m1.heap.size, 3, none⟩ (.int .i64 r.h)).setCell ⟨m1.heap.size, 4, none⟩ (.int .i64 r.n)).setCell ⟨m1.heap.size, 5, none⟩ (.string r.o))) := Lib.hid fun n => by
          have XQ : Whole (m8.drewN n) m1.heap.size 40 _ := X8
          have UQ := datOf_below UW8 (below_drewN (Below.refl _ _) n)
          have BQ := below_drewN B8 n
          exact ⟨_, _, _, _, _, _, _, _, HRF.out, six_whole XQ _ _ _ _ _ _, datOf_keep UQ (fun g h1 h2 h3 => by iterate 6 rw [Below.heap_setCell _ _ _ _ (by show g ≠ m1.heap.size; omega)]), .inr (by omega), below_six BQ (by omega) _ _ _ _ _ _⟩
        go_upto_region 14 with fail
        go_quiet (fail)
        obtain ⟨y0, y1, y2, y3, y4, y5⟩ := six_cells XW8
        have zy := whole_lt XW8
        have fc := whole_free X8
        go_wp2
        go_roundw
        case rel => exact ⟨k + 1, r, by omega, by go_num, RW.out _⟩
        case measure => simp [intOf]; omega
    · obtain rfl : k = 6 := by omega
      have q1 : ¬ ((6 : Nat) : Int) < 6 := by omega
      have N : Hid (∀ u W, DatIn W u c → Tb5 W → Calls Tryz.prog 18 #[u, .int .i64 53, .int .i64 0] W (ResOf W noDt [0, 9])) := Lib.hid fun u W h ht => by
        have := iAp_any u c 53 0 W h ht
        rw [prim_none hc] at this; exact this
      obtain ⟨c0, c1, c2, c3, c4, c5⟩ := six_cells XC
      have zc := whole_lt XC
      go_wp2_with fail
      refine (N.out _ _ (datOf_in DCC) (TB.out _ hbr)).mono ?_
      rintro e m9 ⟨uz, rfl, UZ, hb⟩
      simp only [List.map_cons, List.map_nil]
      obtain ⟨G1, i1, G2, i2, G3, i3, rfl⟩ := datIn_form (datOf_in UZ)
      have BZ := below_b hb hbr
      go_wp2
      go_ret
      exact ⟨rfl, below_alloc BZ _⟩

set_option maxRecDepth 100000 in
theorem lifted (os : Os) (started : os.Started) (H : Type) (enc : TypeId × Value → H) :
    ReturnsInHanded {} Tryz.checked os 5 .any (fun w args => (Rows.fnPrimsSpec.pre enc Tryz.prog Tryz.f5 [] false w args ∧ laidMetH Tryz.prog listed w) ∧ sizedMet enc Tryz.prog Tryz.f5 (OpenSpec.ofChange Rows.fnPrimsSpec) false w args)
      (Rows.fnPrimsSpec.post enc Tryz.prog Tryz.f5 false true false false) := by
  refine returnsInHanded_of_change_and (C := Tryz.checked) (X := fun w _ => laidMetH Tryz.prog listed w) (fun _ _ _ hh h => h.of_heap hh) own started (by kernel_rfl) Tryz.func5
    (ChangeSpec.witness_shaped (enc := enc) (C := Tryz.checked) (os := os) (X := fun w _ => laidMetH Tryz.prog listed w) false (World.laidAll Tryz.prog os listed) #[.slice none 0 0, .slice none 0 0] 8 (World.laidAll_os _ _ _)
      (World.shaped_of_ZipB (by kernel_rfl) (by kernel_rfl)) (by kernel_rfl) (by kernel_rfl) (by kernel_rfl)
      (by rw [MakeChecks.laidMetH_plain _ _ _ (by kernel_rfl)]; exact laidMet_laidAll _ (by kernel_rfl) (by kernel_rfl))) ?_
  intro W base args ds gs before hval0 hW _ _ hL _
  have hval : ∀ (j : Nat) t v, Tryz.f5.params[j]? = some t → args[j]? = some v → Value.okWide Tryz.prog W .any base t v := hval0
  have hW' := hW
  obtain ⟨p, q, hA0, hV0, rfl, hfz, hnd⟩ := hW
  have hA : DataW.TrodAll enc Tryz.prog W 0 (fun _ => true) true Tryz.f5.params.toList args.toList ds p := hA0
  have hV : DataW.TrodVars enc Tryz.prog W (fun _ => true) ["loop.example/g00787/impl.flags"] gs q := hV0
  rw [Tryz.params5] at hA hval
  obtain ⟨v0, vs0, d0, ds0, p0, q0, hargs, rfl, rfl, h0, r0⟩ := trodAll_cons hA
  obtain ⟨v1, vs1, d1, ds1, p1, q1, rfl, rfl, rfl, h1, r1⟩ := trodAll_cons r0
  obtain ⟨rfl, rfl, rfl⟩ := trodAll_nil r1
  obtain rfl : args = #[v0, v1] := by cases args; simp_all
  obtain ⟨g, t, cs, fuelV, dv, pv, rfl, hg, ht, hvar, hd, rfl⟩ := trodVars_one hV
  obtain rfl := Option.some.inj ((show Tryz.prog.globalNamed "loop.example/g00787/impl.flags" = some 0 by kernel_rfl).symm.trans hg)
  obtain rfl := Option.some.inj ((show (Tryz.prog.globals[0]?).map (·.type) = some 217 by kernel_rfl).symm.trans ht)
  obtain ⟨a0, len0, cap0, rfl⟩ := okWide_slice Tryz.underlying55 (hval 0 55 v0 rfl rfl)
  have k0 := h0
  have lt0 : ∀ x ∈ p0, x.block < W.heap.size := by obtain ⟨m, hm⟩ := k0; exact DataW.trod_lt m _ _ _ hm
  obtain ⟨z0, w0⟩ : ∃ zs, BRow W a0 len0 cap0 zs := by
    obtain ⟨fuel, hf⟩ := h0
    rcases open_ints Tryz.underlying55 Tryz.underlying5 (by kernel_rfl) hf with ⟨hcs, _⟩ | ⟨x, l, c, zs, hcs, _, hl, hm, hz, _, hcell, hwz⟩
    · simp [Value.cells] at hcs
      obtain ⟨rfl, rfl, rfl⟩ := hcs
      exact ⟨[], .inl ⟨rfl, rfl, rfl, rfl⟩⟩
    · simp [Value.cells] at hcs
      obtain ⟨rfl, rfl, rfl⟩ := hcs
      exact ⟨zs, .inr ⟨_, rfl, hl, hm, by simpa using hz, hcell, hwz⟩⟩
  obtain ⟨a1, len1, cap1, rfl⟩ := okWide_slice Tryz.underlying55 (hval 1 55 v1 rfl rfl)
  have k1 := h1
  have lt1 : ∀ x ∈ p1, x.block < W.heap.size := by obtain ⟨m, hm⟩ := k1; exact DataW.trod_lt m _ _ _ hm
  obtain ⟨z1, w1⟩ : ∃ zs, BRow W a1 len1 cap1 zs := by
    obtain ⟨fuel, hf⟩ := h1
    rcases open_ints Tryz.underlying55 Tryz.underlying5 (by kernel_rfl) hf with ⟨hcs, _⟩ | ⟨x, l, c, zs, hcs, _, hl, hm, hz, _, hcell, hwz⟩
    · simp [Value.cells] at hcs
      obtain ⟨rfl, rfl, rfl⟩ := hcs
      exact ⟨[], .inl ⟨rfl, rfl, rfl, rfl⟩⟩
    · simp [Value.cells] at hcs
      obtain ⟨rfl, rfl, rfl⟩ := hcs
      exact ⟨zs, .inr ⟨_, rfl, hl, hm, by simpa using hz, hcell, hwz⟩⟩
  have hfact := of_laid hL
  clear hA0 hV0 hval0
  have hg0 : 0 < W.heap.size := by
    rcases Nat.lt_or_ge 0 W.heap.size with h1 | h1
    · exact h1
    · simp [World.var?, hg, h1] at hvar
  have ltv : ∀ x ∈ pv, x.block < W.heap.size := DataW.trod_lt fuelV _ _ _ hd
  refine (walk a0 len0 cap0 z0 a1 len1 cap1 z1 W w0 w1 hfact).mono fun e W' ⟨he, bel⟩ => ?_
  subst he
  obtain ⟨fuelW, hd'⟩ := Below.trod (v := .agg cs) laidOut (by kernel_rfl) (of_decide_eq_true (by kernel_rfl)) ⟨fuelV, hd⟩ bel ltv
  exact ⟨_, rfl, _, _, _, [], _, _, hW', trodAll_mk1 (shut_bool Tryz.underlying4 _), (trodAll_cons_mk (Below.trod laidOut (by kernel_rfl) (of_decide_eq_true (by kernel_rfl)) k0 bel lt0) (trodAll_cons_mk (Below.trod laidOut (by kernel_rfl) (of_decide_eq_true (by kernel_rfl)) k1 bel lt1) trodAll_mk0)), trodVars_mk1 hg ht (var?_below bel hg hg0 hvar) hd', bel.frame _, fun h => by cases h⟩

theorem and_intro {a b : Bool} (ha : a = true) (hb : b = true) : (a && b) = true := by rw [ha, hb]; rfl

set_option maxRecDepth 100000 in
set_option maxHeartbeats 8000000 in
theorem closed : joinedFacts Tryz.prog 5 Tryz.f5 Rows.fnPrimsSpec Rows.fnPrimsRow = true := by
  unfold joinedFacts
  repeat' (with_reducible refine and_intro ?_ ?_)
  all_goals as_aux_lemma => kernel_rfl

theorem over : Rows.FnPrimsSaid :=
  OpenClaim.holds_of_wide 5 Tryz.f5 rfl rfl rfl rfl rfl rfl rfl ⟨rfl, rfl, rfl, rfl, rfl⟩ rfl rfl rfl rfl rfl (by kernel_rfl) Tryz.func5 closed
    (of_decide_eq_true (by kernel_rfl)) (by unfold Func.isWrapper; first | (rw [if_pos (by decide +kernel)]; kernel_rfl) | (rw [if_neg (by decide +kernel)]; exact ⟨rfl, rfl⟩))
    (fun os started H enc _ => lifted os started H enc)

/-- The statement: the tied card. -/
theorem proved : Rows.FnPrimsCardSaid :=
  Claim7.holds_tied_plain_at .later [] [.data, .data, .data, .data, .data, .pinned, .pinned] true (true, "040dfef8b6dd789b16104e7e41f69202df3a530845632ec4bd72ba64af32fcb5") false
    over (fun _ h => by cases h) (by kernel_rfl) (fun _ h => by cases h) fnPrims_row_tie rfl ⟨rfl, rfl⟩ (by kernel_rfl) rfl
    (fun f fn hf hfn => by
      obtain rfl : f = 5 := Option.some.inj ((show Tryz.prog.funcNamed "loop.example/g00787/laws.FnPrims" = some 5 by kernel_rfl).symm.trans hf) |>.symm
      obtain rfl : fn = Tryz.f5 := (Option.some.inj (Tryz.func5.symm.trans hfn)).symm
      exact ⟨by kernel_rfl, fun j t ht => by
        rw [Tryz.params5] at ht
        have hm : t ∈ [55, 55] := by simpa using Array.mem_of_getElem? ht
        have hall : ([55, 55].all fun u => !Tryz.prog.wantsStandIn u) = true := by kernel_rfl
        exact (show Tryz.prog.wantsStandIn t = false by simpa using List.all_eq_true.1 hall t hm)⟩)
    (by kernel_rfl)
#print axioms proved
end Go.Proofs.YthnbaeamekolmaaGreatDoor.fnPrims
