/- laws.FnExactApplyPrim returns true at every data, every primitive's number and every floor: impl.ApplyPrim and spec.ApplyPrim give the same data, throw and code; impl writes into no argument, and what it hands back owns its memory. No condition but the card's: the listed tables are tied to the program's text (a pruned copy of the project). -/
import Derived.Test.YthnbaeamekolmaaGreatDoorRows
import Derived.Test.YthnbaeamekolmaaGreatDoorTie
import Derived.Test.YthnbaeamekolmaaGreatDoorCards
import Derived.Test.YthnbaeamekolmaaGreatDoorPkT
import Derived.Test.YthnbaeamekolmaaGreatDoorPkB
import Derived.Deep.RegionHeld3
import Derived.Stop.LaidErr
import Derived.WalkKit
import Derived.ProofKit
import Derived.OpenShut
import Derived.ShutString
import Derived.ChangeOld
import Derived.Below
import Derived.LaidMore
import Derived.Stop.Joined
import Derived.ChangeVars
import Derived.WalkSmall
import Derived.SevenTiedAt
import Derived.Lay
namespace Go.Proofs.YthnbaeamekolmaaGreatDoor.fnExactApplyPrim
open Go.ChangeShapes Go.WideShapes Go.ChangeAt Go.RowKit
open Go.ChangeMaps (open_string shut_string)
set_option linter.unusedSimpArgs false
set_option linter.unusedVariables false

theorem own : ownKnob Tryz.prog.godebug = none := by kernel_rfl
theorem laidOut : laidOutB Tryz.prog = true := by kernel_rfl

/-- What the row lists. -/
def listed : List (String × DataW Unit) := [("math/bits.deBruijn32tab", Rows.laid_math_bits_deBruijn32tab), ("math/bits.deBruijn64tab", Rows.laid_math_bits_deBruijn64tab), ("internal/strconv.uint64pow10", Rows.laid_internal_strconv_uint64pow10), ("unicode/utf8.acceptRanges", Rows.laid_unicode_utf8_acceptRanges), ("loop.example/g00787/impl.flags", Rows.laid_loop_example_g00787_impl_flags), ("unicode.CaseRanges", Rows.laid_unicode_CaseRanges), ("unicode/utf8.first", Rows.laid_unicode_utf8_first)]

/-- The library's table, in order. -/
def tz64 : List Int := [0, 1, 56, 2, 57, 49, 28, 3, 61, 58, 42, 50, 38, 29, 17, 4, 62, 47, 59, 36, 45, 43, 51, 22, 53, 39, 33, 30, 24, 18, 12, 5, 63, 55, 48, 27, 60, 41, 37, 16, 46, 35, 44, 21, 52, 32, 23, 11, 54, 26, 40, 15, 34, 20, 31, 10, 25, 14, 19, 9, 13, 8, 7, 6]

/-- What the condition gives the walk. -/
theorem of_laid {w : World} (h : laidMetH Tryz.prog listed w) : Tb5 w := by
  rw [MakeChecks.laidMetH_plain _ _ _ (by kernel_rfl)] at h
  unfold listed at h
  have h1 := h.tail
  have h2 := h1.tail
  have h4 := h2.tail.tail
  have t1 : Lib.TabIs Tryz.prog w "math/bits.deBruijn64tab" .u8 tz64 := Lib.tabIs_of_head (show Tryz.prog.globalNamed "math/bits.deBruijn64tab" = some 9 by kernel_rfl) (show (Tryz.prog.globals[9]?).map (·.type) = some 291 by kernel_rfl) Tryz.underlying291 Tryz.underlying5 (by kernel_rfl) (by kernel_rfl) h1
  have e2 : (Rows.laid_internal_strconv_uint64pow10 : DataW Unit) = Lib.tabData .u64 Lib.pow10Tab := by kernel_rfl
  rw [e2] at h2
  have t2 : Lib.TabIs Tryz.prog w "internal/strconv.uint64pow10" .u64 Lib.pow10Tab := Lib.tabIs_of_head (show Tryz.prog.globalNamed "internal/strconv.uint64pow10" = some 4 by kernel_rfl) (show (Tryz.prog.globals[4]?).map (·.type) = some 276 by kernel_rfl) Tryz.underlying276 Tryz.underlying198 (by kernel_rfl) (by kernel_rfl) h2
  have e4 : (Rows.laid_loop_example_g00787_impl_flags : DataW Unit) = .agg (flagRows.map fun L => .agg (L.map fun b => .lit (.int .i64 b))) := by kernel_rfl
  rw [e4] at h4
  have c := fun i hi => t1.cell (show Tryz.prog.globalNamed "math/bits.deBruijn64tab" = some 9 by kernel_rfl) i hi
  exact ⟨flags_of_head h4, ⟨c 1 (by decide), c 3 (by decide), c 7 (by decide), c 15 (by decide)⟩, t2⟩

set_option maxRecDepth 100000 in
set_option maxHeartbeats 4000000 in
theorem walk (v0 : Value) (D0 : Dt) (a1 : Int) (a2 : Int) (w : World) (w0 : DatIn w v0 D0) (w1 : (Lit.int .i64 a1).wf = true) (w2 : (Lit.int .i64 a2).wf = true) (hl : Tb5 w) :
    Calls Tryz.prog 7 #[v0, .int .i64 a1, .int .i64 a2] w fun e w' => e = .returned (.bool true) ∧ Below w.heap.size w w' := by
  have HD := w0
  have TB : Hid (∀ W, Below w.heap.size w W → Tb5 W) := Lib.hid fun W h => tb_stable _ _ hl h
  clear hl
  obtain ⟨A1, k1, A2, k2, A3, k3, rfl⟩ := datIn_form w0
  clear w0
  clear w1 w2
  go_enter Tryz.func7, Tryz.ntmps7
  go_wp2_with fail
  refine (szData_any _ D0 1048576 _ (datIn_below HD (below_alloc (Below.refl _ _) _)) (by omega) (by omega)).mono ?_
  rintro e m1 ⟨q, rfl, hr, hb⟩
  have B1 := below_step (below_alloc (Below.refl _ _) _) hb
  have V1 := whole_below (whole_new w _ _) hb
  clear hb
  rcases hr with rfl | ⟨h0, h1, hs⟩
  · go_wp2
    go_ret
    exact ⟨rfl, B1⟩
  have RS := dApply_small hs a1 a2
  have SP : Hid (∀ v W, DatC W v D0 → Calls Tryz.prog 19 #[v, .int .i64 a1, .int .i64 a2] W (ResOf W (dApply D0 a1 a2).1 [(dApply D0 a1 a2).2.1, (dApply D0 a1 a2).2.2])) := Lib.hid fun v W h => sAp_any v D0 a1 a2 W h
  have IP : Hid (∀ v W, DatIn W v D0 → Tb5 W → Calls Tryz.prog 18 #[v, .int .i64 a1, .int .i64 a2] W (ResOf W (dApply D0 a1 a2).1 [(dApply D0 a1 a2).2.1, (dApply D0 a1 a2).2.2])) := Lib.hid fun v W h ht => iAp_any v D0 a1 a2 W h ht
  generalize dApply D0 a1 a2 = pp at *
  obtain ⟨r, n0, n1⟩ := pp
  simp only at *
  have tn0 : (n0 != n0) = false := by simp
  have tn1 : (n1 != n1) = false := by simp
  have hsm := hs
  have hrm := RS
  obtain ⟨hs1, hs2, hs3, _⟩ := hsm
  obtain ⟨hr1, hr2, hr3, _⟩ := hrm
  obtain ⟨v00, v01, v02, v03, v04, v05⟩ := six_cells V1
  have zv := whole_lt V1
  go_wp2_with fail
  clear v00 v01 v02 v03 v04 v05 zv
  refine (toData_any _ D0 _ (datIn_below HD B1) hs).mono ?_
  rintro e m2 ⟨u, rfl, hu, hb⟩
  have B2 : Below w.heap.size w m2 := below_step B1 hb
  have V2 := whole_b hb V1
  clear hb B1 V1
  go_wp2_with fail
  refine (SP.out _ _ ⟨datOf_in hu, datOf_caps hu⟩).mono ?_
  rintro e m3 ⟨uw, rfl, UW3, hb⟩
  clear hu
  obtain ⟨C1, j1, C2, j2, C3, j3, rfl⟩ := datIn_form (datOf_in UW3)
  have hwm : w.heap.size < m2.heap.size := whole_lt V2
  have s23 : m2.heap.size ≤ m3.heap.size := hb.size
  have B3 : Below w.heap.size w m3 := below_step B2 hb
  have V3 := whole_b hb V2
  clear hb B2 V2
  simp only [List.map_cons, List.map_nil]
  obtain ⟨v00, v01, v02, v03, v04, v05⟩ := six_cells V3
  have zv := whole_lt V3
  go_wp2_with fail
  clear v00 v01 v02 v03 v04 v05 zv
  refine (toData_any _ D0 _ (datIn_below HD (below_alloc B3 _)) hs).mono ?_
  rintro e m4 ⟨ux, rfl, UX4, hb⟩
  obtain ⟨E1, i1, E2, i2, E3, i3, rfl⟩ := datIn_form (datOf_in UX4)
  have s34 : m3.heap.size + 1 ≤ m4.heap.size := by have := hb.size; simpa using this
  replace UX4 := datOf_base (lo' := m3.heap.size + 1) UX4 (by simp)
  have B4 : Below w.heap.size w m4 := below_step (below_alloc B3 _) hb
  have V4 := whole_b hb (whole_alloc V3 _)
  have S4 := whole_b hb (whole_new m3 _ _)
  have UW4 := datOf_b hb (datOf_below UW3 (below_alloc (Below.refl _ _) _))
  clear hb B3 V3 UW3
  go_wp2_with fail
  refine (IP.out _ _ (datOf_in (datOf_below UX4 (below_alloc (Below.refl _ _) _))) (TB.out _ (below_alloc B4 _))).mono ?_
  rintro e m5 ⟨ug, rfl, UG5, hb⟩
  obtain ⟨G1, g1, G2, g2, G3, g3, rfl⟩ := datIn_form (datOf_in UG5)
  have s45 : m4.heap.size + 1 ≤ m5.heap.size := by have := hb.size; simpa using this
  replace UG5 := datOf_base (lo' := m4.heap.size + 1) UG5 (by simp)
  have B5 : Below w.heap.size w m5 := below_step (below_alloc B4 _) hb
  have V5 := whole_b hb (whole_alloc V4 _)
  have S5 := whole_b hb (whole_alloc S4 _)
  have X5 := whole_b hb (whole_new m4 _ _)
  have UW5 := datOf_b hb (datOf_below UW4 (below_alloc (Below.refl _ _) _))
  have UX5 := datOf_b hb (datOf_below UX4 (below_alloc (Below.refl _ _) _))
  clear hb B4 V4 S4 UW4 UX4
  simp only [List.map_cons, List.map_nil]
  obtain ⟨s00, s01, s02, s03, s04, s05⟩ := six_cells S5
  have zs := whole_lt S5
  go_wp2_with fail
  clear s00 s01 s02 s03 s04 s05 zs
  refine (eqData_same _ _ r _ (datOf_in (datOf_below UG5 (below_alloc (Below.refl _ _) _))) (datOf_in (datOf_below UW5 (below_alloc (Below.refl _ _) _)))).mono ?_
  rintro e m6 ⟨rfl, hb⟩
  have s56 : m5.heap.size + 1 ≤ m6.heap.size := by have := hb.size; simpa using this
  have B6 : Below w.heap.size w m6 := below_step (below_alloc B5 _) hb
  have V6 := whole_b hb (whole_alloc V5 _)
  have S6 := whole_b hb (whole_alloc S5 _)
  have X6 := whole_b hb (whole_alloc X5 _)
  have G6 := whole_b hb (whole_new m5 _ _)
  have UW6 := datOf_b hb (datOf_below UW5 (below_alloc (Below.refl _ _) _))
  have UX6 := datOf_b hb (datOf_below UX5 (below_alloc (Below.refl _ _) _))
  have UG6 := datOf_b hb (datOf_below UG5 (below_alloc (Below.refl _ _) _))
  clear hb B5 V5 S5 X5 UW5 UX5 UG5
  go_wp2_with fail
  go_region_held3 (fun w' => (w'.cell? ⟨w.heap.size, 0, none⟩ = some (.slice A1 D0.s.length k1) ∧ w'.cell? ⟨w.heap.size, 1, none⟩ = some (.slice A2 D0.b.length k2) ∧ w'.cell? ⟨w.heap.size, 2, none⟩ = some (.slice A3 D0.c.length k3) ∧ w'.cell? ⟨w.heap.size, 3, none⟩ = some (.int .i64 D0.h) ∧ w'.cell? ⟨w.heap.size, 4, none⟩ = some (.int .i64 D0.n) ∧ w'.cell? ⟨w.heap.size, 5, none⟩ = some (.string D0.o)) ∧ (w'.cell? ⟨m4.heap.size, 0, none⟩ = some (.slice E1 D0.s.length i1) ∧ w'.cell? ⟨m4.heap.size, 1, none⟩ = some (.slice E2 D0.b.length i2) ∧ w'.cell? ⟨m4.heap.size, 2, none⟩ = some (.slice E3 D0.c.length i3) ∧ w'.cell? ⟨m4.heap.size, 3, none⟩ = some (.int .i64 D0.h) ∧ w'.cell? ⟨m4.heap.size, 4, none⟩ = some (.int .i64 D0.n) ∧ w'.cell? ⟨m4.heap.size, 5, none⟩ = some (.string D0.o))) (exact ⟨six_cells (by assumption), six_cells (by assumption)⟩)
    (first
      | (go_at_call 29; refine (toData_any _ D0 _ (datIn_below HD (by first | exact B6 | exact B6.drew)) hs).mono ?_; rintro e m7 ⟨ut, rfl, UT7, hb⟩; have V7 := whole_b hb V6; have S7 := whole_b hb S6; have X7 := whole_b hb X6; have G7 := whole_b hb G6; have UW7 := datOf_b hb UW6; have UX7 := datOf_b hb UX6; have UG7 := datOf_b hb UG6; have B7 : Below w.heap.size w m7 := (by first | exact below_b hb B6.drew | exact below_b hb B6); have s67 : m6.heap.size ≤ m7.heap.size := hb.size; clear hb)
      | (go_at_call 30; refine (eqData_same _ _ D0 _ (datOf_in (by exact UX7)) (datOf_in (by exact UT7))).mono ?_; rintro e m8 ⟨rfl, hb⟩; have V8 := whole_b hb V7; have S8 := whole_b hb S7; have X8 := whole_b hb X7; have G8 := whole_b hb G7; have UW8 := datOf_b hb UW7; have UX8 := datOf_b hb UX7; have UG8 := datOf_b hb UG7; have B8 : Below w.heap.size w m8 := (by first | exact below_b hb B7 | exact below_b hb B7.drew); have s78 : m7.heap.size ≤ m8.heap.size := hb.size; clear hb))
  clear UT7 B6 B7 V6 V7 S6 S7 X6 X7 G6 G7 UW6 UW7 UX6 UX7 UG6 UG7
  obtain ⟨x00, x01, x02, x03, x04, x05⟩ := six_cells X8
  have zx := whole_lt X8
  go_wp2_with fail
  clear x00 x01 x02 x03 x04 x05 zx
  refine (markData_any _ D0 _ _ 1 _ UX8 hs (by omega) (by omega)).mono ?_
  rintro e m9 ⟨rfl, _, hn⟩
  have s89 : m8.heap.size ≤ m9.heap.size := hn.size
  clear UX8
  have B9 : Below w.heap.size w m9 := B8.trans ((within_below hn (by omega)).mono (by omega))
  have V9 := whole_keep V8 (hn.block _ (whole_lt V8) (by omega))
  have S9 := whole_keep S8 (hn.block _ (whole_lt S8) (by omega))
  have X9 := whole_keep X8 (hn.block _ (whole_lt X8) (by omega))
  have G9 := whole_keep G8 (hn.block _ (whole_lt G8) (by omega))
  have UW9 := datOf_within UW8 hn (by omega)
  have UG9 := datOf_within UG8 hn (by omega)
  clear hn B8 V8 S8 X8 G8 UW8 UG8
  have kp : (0 : Int) ≤ ((1 + numD D0 : Nat) : Int) := by omega
  obtain ⟨g00, g01, g02, g03, g04, g05⟩ := six_cells G9
  have zg := whole_lt G9
  obtain ⟨s00, s01, s02, s03, s04, s05⟩ := six_cells S9
  have zs := whole_lt S9
  go_wp2_with fail
  clear g00 g01 g02 g03 g04 g05 zg s00 s01 s02 s03 s04 s05 zs
  refine (eqData_same _ _ r _ (datOf_in UG9) (datOf_in UW9)).mono ?_
  rintro e m10 ⟨rfl, hb⟩
  have sa : m9.heap.size ≤ m10.heap.size := hb.size
  have B10 : Below w.heap.size w m10 := below_step B9 hb
  have V10 := whole_b hb V9
  have S10 := whole_b hb S9
  have G10 := whole_b hb G9
  have UW10 := datOf_b hb UW9
  have UG10 := datOf_b hb UG9
  clear hb B9 V9 S9 G9 UW9 UG9
  obtain ⟨g00, g01, g02, g03, g04, g05⟩ := six_cells G10
  have zg := whole_lt G10
  go_wp2_with fail
  clear g00 g01 g02 g03 g04 g05 zg
  refine (markData_any _ r _ _ 1 _ UG10 RS (by omega) (by omega)).mono ?_
  rintro e m11 ⟨rfl, UM11, hn⟩
  have sb : m10.heap.size ≤ m11.heap.size := hn.size
  clear UG10
  have B11 : Below w.heap.size w m11 := B10.trans ((within_below hn (by omega)).mono (by omega))
  have V11 := whole_keep V10 (hn.block _ (whole_lt V10) (by omega))
  have S11 := whole_keep S10 (hn.block _ (whole_lt S10) (by omega))
  have G11 := whole_keep G10 (hn.block _ (whole_lt G10) (by omega))
  have UW11 := datOf_within UW10 hn (by omega)
  clear hn B10 V10 S10 G10 UW10
  have kq : (0 : Int) ≤ ((1 + numD r : Nat) : Int) := by omega
  have kr : (((1 + numD r : Nat) : Int) != ((1 + numD r : Nat) : Int)) = false := by simp
  obtain ⟨g00, g01, g02, g03, g04, g05⟩ := six_cells G11
  have zg := whole_lt G11
  go_wp2_with fail
  clear g00 g01 g02 g03 g04 g05 zg
  refine (heldData_any _ r 1 _ (datOf_in UM11) RS (by omega)).mono ?_
  rintro e m12 ⟨rfl, hb⟩
  have B12 : Below w.heap.size w m12 := below_step B11 hb
  have V12 := whole_b hb V11
  have S12 := whole_b hb S11
  have G12 := whole_b hb G11
  have UW12 := datOf_b hb UW11
  have UM12 := datOf_b hb UM11
  clear hb B11 V11 S11 G11 UW11 UM11
  obtain ⟨v00, v01, v02, v03, v04, v05⟩ := six_cells V12
  have zv := whole_lt V12
  go_wp2_with fail
  clear v00 v01 v02 v03 v04 v05 zv
  refine (toData_any _ D0 _ (datIn_below HD B12) hs).mono ?_
  rintro e m13 ⟨uy, rfl, UY, hb⟩
  have B13 : Below w.heap.size w m13 := below_step B12 hb
  have V13 := whole_b hb V12
  have S13 := whole_b hb S12
  have G13 := whole_b hb G12
  have UW13 := datOf_b hb UW12
  have UM13 := datOf_b hb UM12
  clear hb B12 V12 S12 G12 UW12 UM12
  go_wp2_with fail
  refine (IP.out _ _ (datOf_in UY) (TB.out _ B13)).mono ?_
  rintro e m14 ⟨uh, rfl, UH14, hb⟩
  clear UY
  obtain ⟨H1, h1', H2, h2', H3, h3', rfl⟩ := datIn_form (datOf_in UH14)
  have B14 : Below w.heap.size w m14 := below_step B13 hb
  have V14 := whole_b hb V13
  have S14 := whole_b hb S13
  have G14 := whole_b hb G13
  have UW14 := datOf_b hb UW13
  have UM14 := datOf_b hb UM13
  clear hb B13 V13 S13 G13 UW13 UM13
  simp only [List.map_cons, List.map_nil]
  obtain ⟨s00, s01, s02, s03, s04, s05⟩ := six_cells S14
  have zs := whole_lt S14
  obtain ⟨g00, g01, g02, g03, g04, g05⟩ := six_cells G14
  have zg := whole_lt G14
  go_wp2_with fail
  clear s00 s01 s02 s03 s04 s05 zs g00 g01 g02 g03 g04 g05 zg
  refine (eqData_same _ _ r _ (datOf_in (datOf_below UH14 (below_alloc (Below.refl _ _) _))) (datOf_in (datOf_below UW14 (below_alloc (Below.refl _ _) _)))).mono ?_
  rintro e m15 ⟨rfl, hb⟩
  have B15 : Below w.heap.size w m15 := below_step (below_alloc B14 _) hb
  have V15 := whole_b hb (whole_alloc V14 _)
  have S15 := whole_b hb (whole_alloc S14 _)
  have G15 := whole_b hb (whole_alloc G14 _)
  have UW15 := datOf_b hb (datOf_below UW14 (below_alloc (Below.refl _ _) _))
  have UM15 := datOf_b hb (datOf_below UM14 (below_alloc (Below.refl _ _) _))
  have UH15 := datOf_b hb (datOf_below UH14 (below_alloc (Below.refl _ _) _))
  clear hb B14 V14 S14 G14 UW14 UM14 UH14
  obtain ⟨g00, g01, g02, g03, g04, g05⟩ := six_cells G15
  have zg := whole_lt G15
  go_wp2_with fail
  clear g00 g01 g02 g03 g04 g05 zg
  refine (heldData_any _ r 1 _ (datOf_in UM15) RS (by omega)).mono ?_
  rintro e m16 ⟨rfl, hb⟩
  have B16 : Below w.heap.size w m16 := below_step B15 hb
  have V16 := whole_b hb V15
  have S16 := whole_b hb S15
  have G16 := whole_b hb G15
  have UW16 := datOf_b hb UW15
  have UM16 := datOf_b hb UM15
  have UH16 := datOf_b hb UH15
  clear hb B15 V15 S15 G15 UW15 UM15 UH15
  go_wp2
  go_ret
  exact ⟨rfl, B16⟩

set_option maxRecDepth 100000 in
theorem lifted (os : Os) (started : os.Started) (H : Type) (enc : TypeId × Value → H) :
    ReturnsInHanded {} Tryz.checked os 7 .any (fun w args => (Rows.fnExactApplyPrimSpec.pre enc Tryz.prog Tryz.f7 [] false w args ∧ laidMetH Tryz.prog listed w) ∧ sizedMet enc Tryz.prog Tryz.f7 (OpenSpec.ofChange Rows.fnExactApplyPrimSpec) false w args)
      (Rows.fnExactApplyPrimSpec.post enc Tryz.prog Tryz.f7 false true false false) := by
  refine returnsInHanded_of_change_and (C := Tryz.checked) (X := fun w _ => laidMetH Tryz.prog listed w) (fun _ _ _ hh h => h.of_heap hh) own started (by kernel_rfl) Tryz.func7
    (ChangeSpec.witness_shaped (enc := enc) (C := Tryz.checked) (os := os) (X := fun w _ => laidMetH Tryz.prog listed w) false (World.laidAll Tryz.prog os listed) #[.agg #[.slice none 0 0, .slice none 0 0, .slice none 0 0, .int .i64 0, .int .i64 0, .string ByteArray.empty], .int .i64 0, .int .i64 0] 8 (World.laidAll_os _ _ _)
      (World.shaped_of_ZipB (by kernel_rfl) (by kernel_rfl)) (by kernel_rfl) (by kernel_rfl) (by kernel_rfl)
      (by rw [MakeChecks.laidMetH_plain _ _ _ (by kernel_rfl)]; exact laidMet_laidAll _ (by kernel_rfl) (by kernel_rfl))) ?_
  intro W base args ds gs before hval0 hW _ _ hL _
  have hval : ∀ (j : Nat) t v, Tryz.f7.params[j]? = some t → args[j]? = some v → Value.okWide Tryz.prog W .any base t v := hval0
  have hW' := hW
  obtain ⟨p, q, hA0, hV0, rfl, hfz, hnd⟩ := hW
  have hA : DataW.TrodAll enc Tryz.prog W 0 (fun _ => true) true Tryz.f7.params.toList args.toList ds p := hA0
  have hV : DataW.TrodVars enc Tryz.prog W (fun _ => true) ["loop.example/g00787/impl.flags"] gs q := hV0
  rw [Tryz.params7] at hA hval
  obtain ⟨v0, vs0, d0, ds0, p0, q0, hargs, rfl, rfl, h0, r0⟩ := trodAll_cons hA
  obtain ⟨v1, vs1, d1, ds1, p1, q1, rfl, rfl, rfl, h1, r1⟩ := trodAll_cons r0
  obtain ⟨v2, vs2, d2, ds2, p2, q2, rfl, rfl, rfl, h2, r2⟩ := trodAll_cons r1
  obtain ⟨rfl, rfl, rfl⟩ := trodAll_nil r2
  obtain rfl : args = #[v0, v1, v2] := by cases args; simp_all
  obtain ⟨g, t, cs, fuelV, dv, pv, rfl, hg, ht, hvar, hd, rfl⟩ := trodVars_one hV
  obtain rfl := Option.some.inj ((show Tryz.prog.globalNamed "loop.example/g00787/impl.flags" = some 0 by kernel_rfl).symm.trans hg)
  obtain rfl := Option.some.inj ((show (Tryz.prog.globals[0]?).map (·.type) = some 217 by kernel_rfl).symm.trans ht)
  have k0 := h0
  have lt0 : ∀ x ∈ p0, x.block < W.heap.size := by obtain ⟨m, hm⟩ := k0; exact DataW.trod_lt m _ _ _ hm
  obtain ⟨D0, w0⟩ := open_data (hval 0 25 v0 rfl rfl) h0
  obtain ⟨a1, rfl, rfl, rfl, w1⟩ := open_int Tryz.underlying3 (hval 1 3 v1 rfl rfl) h1
  obtain ⟨a2, rfl, rfl, rfl, w2⟩ := open_int Tryz.underlying3 (hval 2 3 v2 rfl rfl) h2
  have hfact := of_laid hL
  clear hA0 hV0 hval0
  have hg0 : 0 < W.heap.size := by
    rcases Nat.lt_or_ge 0 W.heap.size with h1 | h1
    · exact h1
    · simp [World.var?, hg, h1] at hvar
  have ltv : ∀ x ∈ pv, x.block < W.heap.size := DataW.trod_lt fuelV _ _ _ hd
  refine (walk v0 D0 a1 a2 W w0 w1 w2 hfact).mono fun e W' ⟨he, bel⟩ => ?_
  subst he
  obtain ⟨fuelW, hd'⟩ := Below.trod (v := .agg cs) laidOut (by kernel_rfl) (of_decide_eq_true (by kernel_rfl)) ⟨fuelV, hd⟩ bel ltv
  exact ⟨_, rfl, _, _, _, [], _, _, hW', trodAll_mk1 (shut_bool Tryz.underlying4 _), (trodAll_cons_mk (Below.trod laidOut (by kernel_rfl) (of_decide_eq_true (by kernel_rfl)) k0 bel lt0) (trodAll_cons_mk (shut_int Tryz.underlying3 w1) (trodAll_cons_mk (shut_int Tryz.underlying3 w2) trodAll_mk0))), trodVars_mk1 hg ht (var?_below bel hg hg0 hvar) hd', bel.frame _, fun h => by cases h⟩

theorem and_intro {a b : Bool} (ha : a = true) (hb : b = true) : (a && b) = true := by rw [ha, hb]; rfl

set_option maxRecDepth 100000 in
set_option maxHeartbeats 8000000 in
theorem closed : joinedFacts Tryz.prog 7 Tryz.f7 Rows.fnExactApplyPrimSpec Rows.fnExactApplyPrimRow = true := by
  unfold joinedFacts
  repeat' (with_reducible refine and_intro ?_ ?_)
  all_goals as_aux_lemma => kernel_rfl

theorem over : Rows.FnExactApplyPrimSaid :=
  OpenClaim.holds_of_wide 7 Tryz.f7 rfl rfl rfl rfl rfl rfl rfl ⟨rfl, rfl, rfl, rfl, rfl⟩ rfl rfl rfl rfl rfl (by kernel_rfl) Tryz.func7 closed
    (of_decide_eq_true (by kernel_rfl)) (by unfold Func.isWrapper; first | (rw [if_pos (by decide +kernel)]; kernel_rfl) | (rw [if_neg (by decide +kernel)]; exact ⟨rfl, rfl⟩))
    (fun os started H enc _ => lifted os started H enc)

/-- The statement: the tied card. -/
theorem proved : Rows.FnExactApplyPrimCardSaid :=
  Claim7.holds_tied_plain_at .later [] [.data, .data, .data, .data, .data, .pinned, .pinned] true (true, "040dfef8b6dd789b16104e7e41f69202df3a530845632ec4bd72ba64af32fcb5") false
    over (fun _ h => by cases h) (by kernel_rfl) (fun _ h => by cases h) fnExactApplyPrim_row_tie rfl ⟨rfl, rfl⟩ (by kernel_rfl) rfl
    (fun f fn hf hfn => by
      obtain rfl : f = 7 := Option.some.inj ((show Tryz.prog.funcNamed "loop.example/g00787/laws.FnExactApplyPrim" = some 7 by kernel_rfl).symm.trans hf) |>.symm
      obtain rfl : fn = Tryz.f7 := (Option.some.inj (Tryz.func7.symm.trans hfn)).symm
      exact ⟨by kernel_rfl, fun j t ht => by
        rw [Tryz.params7] at ht
        have hm : t ∈ [25, 3, 3] := by simpa using Array.mem_of_getElem? ht
        have hall : ([25, 3, 3].all fun u => !Tryz.prog.wantsStandIn u) = true := by kernel_rfl
        exact (show Tryz.prog.wantsStandIn t = false by simpa using List.all_eq_true.1 hall t hm)⟩)
    (by kernel_rfl)
#print axioms proved
end Go.Proofs.YthnbaeamekolmaaGreatDoor.fnExactApplyPrim
