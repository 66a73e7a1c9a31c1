/- laws.FnExactApplyAll returns true at every data and every list of numbers: impl.ApplyAll and spec.ApplyAll give the same data, number, throw and code; impl writes into no argument, and what it hands back owns its memory. No condition but the card's: the listed tables are tied to the program's text (a pruned copy of the project). -/
import Derived.Test.YthnbaeamekolmaaGreatDoorRows
import Derived.Test.YthnbaeamekolmaaGreatDoorTie
import Derived.Test.YthnbaeamekolmaaGreatDoorCards
import Derived.Test.YthnbaeamekolmaaGreatDoorPkU
import Derived.Test.YthnbaeamekolmaaGreatDoorPkT
import Derived.Test.YthnbaeamekolmaaGreatDoorPkB
import Derived.Deep.RegionHeld3
import Derived.Stop.LaidErr
import Derived.WalkKit
import Derived.ProofKit
import Derived.OpenShut
import Derived.ShutString
import Derived.ChangeOld
import Derived.Below
import Derived.LaidMore
import Derived.Stop.Joined
import Derived.ChangeVars
import Derived.WalkSmall
import Derived.SevenTiedAt
import Derived.Lay
namespace Go.Proofs.YthnbaeamekolmaaGreatDoor.fnExactApplyAll
open Go.ChangeShapes Go.WideShapes Go.ChangeAt Go.RowKit
open Go.ChangeMaps (open_string shut_string)
set_option linter.unusedSimpArgs false
set_option linter.unusedVariables false

theorem own : ownKnob Tryz.prog.godebug = none := by kernel_rfl
theorem laidOut : laidOutB Tryz.prog = true := by kernel_rfl

/-- What the row lists. -/
def listed : List (String × DataW Unit) := [("math/bits.deBruijn32tab", Rows.laid_math_bits_deBruijn32tab), ("math/bits.deBruijn64tab", Rows.laid_math_bits_deBruijn64tab), ("internal/strconv.uint64pow10", Rows.laid_internal_strconv_uint64pow10), ("unicode/utf8.acceptRanges", Rows.laid_unicode_utf8_acceptRanges), ("loop.example/g00787/impl.flags", Rows.laid_loop_example_g00787_impl_flags), ("unicode.CaseRanges", Rows.laid_unicode_CaseRanges), ("unicode/utf8.first", Rows.laid_unicode_utf8_first)]

/-- The library's table, in order. -/
def tz64 : List Int := [0, 1, 56, 2, 57, 49, 28, 3, 61, 58, 42, 50, 38, 29, 17, 4, 62, 47, 59, 36, 45, 43, 51, 22, 53, 39, 33, 30, 24, 18, 12, 5, 63, 55, 48, 27, 60, 41, 37, 16, 46, 35, 44, 21, 52, 32, 23, 11, 54, 26, 40, 15, 34, 20, 31, 10, 25, 14, 19, 9, 13, 8, 7, 6]

/-- What the condition gives the walk. -/
theorem of_laid {w : World} (h : laidMetH Tryz.prog listed w) : Tb5 w := by
  rw [MakeChecks.laidMetH_plain _ _ _ (by kernel_rfl)] at h
  unfold listed at h
  have h1 := h.tail
  have h2 := h1.tail
  have h4 := h2.tail.tail
  have t1 : Lib.TabIs Tryz.prog w "math/bits.deBruijn64tab" .u8 tz64 := Lib.tabIs_of_head (show Tryz.prog.globalNamed "math/bits.deBruijn64tab" = some 9 by kernel_rfl) (show (Tryz.prog.globals[9]?).map (·.type) = some 291 by kernel_rfl) Tryz.underlying291 Tryz.underlying5 (by kernel_rfl) (by kernel_rfl) h1
  have e2 : (Rows.laid_internal_strconv_uint64pow10 : DataW Unit) = Lib.tabData .u64 Lib.pow10Tab := by kernel_rfl
  rw [e2] at h2
  have t2 : Lib.TabIs Tryz.prog w "internal/strconv.uint64pow10" .u64 Lib.pow10Tab := Lib.tabIs_of_head (show Tryz.prog.globalNamed "internal/strconv.uint64pow10" = some 4 by kernel_rfl) (show (Tryz.prog.globals[4]?).map (·.type) = some 276 by kernel_rfl) Tryz.underlying276 Tryz.underlying198 (by kernel_rfl) (by kernel_rfl) h2
  have e4 : (Rows.laid_loop_example_g00787_impl_flags : DataW Unit) = .agg (flagRows.map fun L => .agg (L.map fun b => .lit (.int .i64 b))) := by kernel_rfl
  rw [e4] at h4
  have c := fun i hi => t1.cell (show Tryz.prog.globalNamed "math/bits.deBruijn64tab" = some 9 by kernel_rfl) i hi
  exact ⟨flags_of_head h4, ⟨c 1 (by decide), c 3 (by decide), c 7 (by decide), c 15 (by decide)⟩, t2⟩

set_option maxRecDepth 100000 in
set_option maxHeartbeats 4000000 in
theorem walk (v0 : Value) (D0 : Dt) (v1 : Value) (D1 : List Int) (w : World) (w0 : DatIn w v0 D0) (w1 : Ints w v1 D1) (hl : Tb5 w) :
    Calls Tryz.prog 8 #[v0, v1] w fun e w' => e = .returned (.bool true) ∧ Below w.heap.size w w' := by
  have HD := w0
  have TB : Hid (∀ W, Below w.heap.size w W → Tb5 W) := Lib.hid fun W h => tb_stable _ _ hl h
  clear hl
  obtain ⟨A1, k1, A2, k2, A3, k3, rfl⟩ := datIn_form w0
  obtain ⟨_, L1, l1, rfl, _⟩ := id w1
  have HI := Lib.hid w1
  clear w0 w1
  by_cases hbig : 1048576 < D1.length
  · have hbig' : (1048576 : Int) < D1.length := by omega
    go_enter Tryz.func8, Tryz.ntmps8
    go_wp2
    go_ret
    exact ⟨rfl, by repeat (first | with_reducible exact Below.refl _ _ | with_reducible refine below_alloc ?_ _)⟩
  have hbig' : ¬ (1048576 : Int) < D1.length := by omega
  go_enter Tryz.func8, Tryz.ntmps8
  go_wp2_with fail
  refine (szData_any _ D0 1048576 _ (datIn_below HD (below_alloc (Below.refl _ _) _)) (by omega) (by omega)).mono ?_
  rintro e m1 ⟨q, rfl, hr, hb⟩
  have B1 := below_step (below_alloc (Below.refl _ _) _) hb
  have V1 := whole_below (whole_new w _ _) hb
  clear hb
  rcases hr with rfl | ⟨h0, h1, hs⟩
  · go_wp2
    go_ret
    exact ⟨rfl, B1⟩
  have RS := dAll_small hs D1
  have SP : Hid (∀ v sv W, DatC W v D0 → Ints W sv D1 → Calls Tryz.prog 27 #[v, sv] W (ResOf W (dAll D0 D1).1 [(dAll D0 D1).2.1, (dAll D0 D1).2.2.1, (dAll D0 D1).2.2.2])) := Lib.hid fun v sv W h hi => sAll_any v sv D0 D1 W h hi
  have IP : Hid (∀ v sv W, DatIn W v D0 → Ints W sv D1 → Tb5 W → Calls Tryz.prog 26 #[v, sv] W (ResOf W (dAll D0 D1).1 [(dAll D0 D1).2.1, (dAll D0 D1).2.2.1, (dAll D0 D1).2.2.2])) := Lib.hid fun v sv W h hi ht => iAll_any v sv D0 D1 W h hi ht
  generalize dAll D0 D1 = pp at *
  obtain ⟨r, n0, n1, n2⟩ := pp
  simp only at *
  have tn0 : (n0 != n0) = false := by simp
  have tn1 : (n1 != n1) = false := by simp
  have tn2 : (n2 != n2) = false := by simp
  have hsm := hs
  have hrm := RS
  obtain ⟨hs1, hs2, hs3, _⟩ := hsm
  obtain ⟨hr1, hr2, hr3, _⟩ := hrm
  have hll : D1.length ≤ 1099511627776 := by omega
  obtain ⟨v00, v01, v02, v03, v04, v05⟩ := six_cells V1
  have zv := whole_lt V1
  go_wp2_with fail
  clear v00 v01 v02 v03 v04 v05 zv
  refine (toData_any _ D0 _ (datIn_below HD B1) hs).mono ?_
  rintro e m2 ⟨u, rfl, hu, hb⟩
  have B2 : Below w.heap.size w m2 := below_step B1 hb
  have V2 := whole_b hb V1
  clear hb B1 V1
  go_wp2_with fail
  refine (toInts_any _ D1 _ (ints_below HI.out B2) hll).mono ?_
  rintro e m3 ⟨li, rfl, hli, _, hb⟩
  replace hu := datOf_below hu hb
  have B3 : Below w.heap.size w m3 := below_step B2 hb
  have V3 := whole_b hb V2
  clear hb B2 V2
  go_wp2_with fail
  refine (SP.out _ _ _ ⟨datOf_in hu, datOf_caps hu⟩ (row_ints hli)).mono ?_
  rintro e m4 ⟨uw, rfl, UW4, hb⟩
  clear hu hli
  obtain ⟨C1, j1, C2, j2, C3, j3, rfl⟩ := datIn_form (datOf_in UW4)
  have hwm : w.heap.size < m3.heap.size := whole_lt V3
  have s34 : m3.heap.size ≤ m4.heap.size := hb.size
  have B4 : Below w.heap.size w m4 := below_step B3 hb
  have V4 := whole_b hb V3
  clear hb B3 V3
  simp only [List.map_cons, List.map_nil]
  obtain ⟨v00, v01, v02, v03, v04, v05⟩ := six_cells V4
  have zv := whole_lt V4
  go_wp2_with fail
  clear v00 v01 v02 v03 v04 v05 zv
  refine (toData_any _ D0 _ (datIn_below HD (below_alloc B4 _)) hs).mono ?_
  rintro e m5 ⟨ux, rfl, UX5, hb⟩
  obtain ⟨E1, i1, E2, i2, E3, i3, rfl⟩ := datIn_form (datOf_in UX5)
  have s45 : m4.heap.size + 1 ≤ m5.heap.size := by have := hb.size; simpa using this
  replace UX5 := datOf_base (lo' := m4.heap.size + 1) UX5 (by simp)
  have B5 : Below w.heap.size w m5 := below_step (below_alloc B4 _) hb
  have V5 := whole_b hb (whole_alloc V4 _)
  have S5 := whole_b hb (whole_new m4 _ _)
  have UW5 := datOf_b hb (datOf_below UW4 (below_alloc (Below.refl _ _) _))
  clear hb B4 V4 UW4
  go_wp2_with fail
  refine (toInts_any _ D1 _ (ints_below HI.out (below_alloc B5 _)) hll).mono ?_
  rintro e m6 ⟨xi, rfl, XI6, _, hb⟩
  have s56 : m5.heap.size + 1 ≤ m6.heap.size := by have := hb.size; simpa using this
  replace XI6 := row_base (base' := m5.heap.size + 1) XI6 (by simp)
  have XL := Lib.hid (row_lt XI6)
  have B6 : Below w.heap.size w m6 := below_step (below_alloc B5 _) hb
  have V6 := whole_b hb (whole_alloc V5 _)
  have S6 := whole_b hb (whole_alloc S5 _)
  have X6 := whole_b hb (whole_new m5 _ _)
  have UW6 := datOf_b hb (datOf_below UW5 (below_alloc (Below.refl _ _) _))
  have UX6 := datOf_b hb (datOf_below UX5 (below_alloc (Below.refl _ _) _))
  clear hb B5 V5 S5 UW5 UX5
  obtain ⟨_, X1, x1, rfl, _⟩ := row_ints XI6
  obtain ⟨x00, x01, x02, x03, x04, x05⟩ := six_cells X6
  have zx := whole_lt X6
  go_wp2_with fail
  clear x00 x01 x02 x03 x04 x05 zx
  refine (IP.out _ _ _ (datOf_in UX6) (row_ints XI6) (TB.out _ B6)).mono ?_
  rintro e m7 ⟨ug, rfl, UG7, hb⟩
  obtain ⟨G1, g1, G2, g2, G3, g3, rfl⟩ := datIn_form (datOf_in UG7)
  have s67 : m6.heap.size ≤ m7.heap.size := hb.size
  have XI7 := row_below XI6 hb
  clear XI6
  have B7 : Below w.heap.size w m7 := below_step B6 hb
  have V7 := whole_b hb V6
  have S7 := whole_b hb S6
  have X7 := whole_b hb X6
  have UW7 := datOf_b hb UW6
  have UX7 := datOf_b hb UX6
  clear hb B6 V6 S6 X6 UW6 UX6
  simp only [List.map_cons, List.map_nil]
  obtain ⟨s00, s01, s02, s03, s04, s05⟩ := six_cells S7
  have zs := whole_lt S7
  go_wp2_with fail
  clear s00 s01 s02 s03 s04 s05 zs
  refine (eqData_same _ _ r _ (datOf_in (datOf_below UG7 (below_alloc (Below.refl _ _) _))) (datOf_in (datOf_below UW7 (below_alloc (Below.refl _ _) _)))).mono ?_
  rintro e m8 ⟨rfl, hb⟩
  have s78 : m7.heap.size + 1 ≤ m8.heap.size := by have := hb.size; simpa using this
  have XI8 := row_below (row_alloc XI7 _) hb
  clear XI7
  have B8 : Below w.heap.size w m8 := below_step (below_alloc B7 _) hb
  have V8 := whole_b hb (whole_alloc V7 _)
  have S8 := whole_b hb (whole_alloc S7 _)
  have X8 := whole_b hb (whole_alloc X7 _)
  have G8 := whole_b hb (whole_new m7 _ _)
  have UW8 := datOf_b hb (datOf_below UW7 (below_alloc (Below.refl _ _) _))
  have UX8 := datOf_b hb (datOf_below UX7 (below_alloc (Below.refl _ _) _))
  have UG8 := datOf_b hb (datOf_below UG7 (below_alloc (Below.refl _ _) _))
  clear hb B7 V7 S7 X7 UW7 UX7 UG7
  go_wp2_with fail
  go_region_held3 (fun w' => (w'.cell? ⟨w.heap.size, 0, none⟩ = some (.slice A1 D0.s.length k1) ∧ w'.cell? ⟨w.heap.size, 1, none⟩ = some (.slice A2 D0.b.length k2) ∧ w'.cell? ⟨w.heap.size, 2, none⟩ = some (.slice A3 D0.c.length k3) ∧ w'.cell? ⟨w.heap.size, 3, none⟩ = some (.int .i64 D0.h) ∧ w'.cell? ⟨w.heap.size, 4, none⟩ = some (.int .i64 D0.n) ∧ w'.cell? ⟨w.heap.size, 5, none⟩ = some (.string D0.o)) ∧ (w'.cell? ⟨m5.heap.size, 0, none⟩ = some (.slice E1 D0.s.length i1) ∧ w'.cell? ⟨m5.heap.size, 1, none⟩ = some (.slice E2 D0.b.length i2) ∧ w'.cell? ⟨m5.heap.size, 2, none⟩ = some (.slice E3 D0.c.length i3) ∧ w'.cell? ⟨m5.heap.size, 3, none⟩ = some (.int .i64 D0.h) ∧ w'.cell? ⟨m5.heap.size, 4, none⟩ = some (.int .i64 D0.n) ∧ w'.cell? ⟨m5.heap.size, 5, none⟩ = some (.string D0.o))) (exact ⟨six_cells (by assumption), six_cells (by assumption)⟩)
    (first
      | (go_at_call 29; refine (toData_any _ D0 _ (datIn_below HD (by first | exact B8 | exact B8.drew)) hs).mono ?_; rintro e m9 ⟨ut, rfl, UT9, hb⟩; have V9 := whole_b hb V8; have S9 := whole_b hb S8; have X9 := whole_b hb X8; have G9 := whole_b hb G8; have UW9 := datOf_b hb UW8; have UX9 := datOf_b hb UX8; have UG9 := datOf_b hb UG8; have XI9 := row_b hb XI8; have B9 : Below w.heap.size w m9 := (by first | exact below_b hb B8.drew | exact below_b hb B8); have s89 : m8.heap.size ≤ m9.heap.size := hb.size; clear hb)
      | (go_at_call 30; refine (eqData_same _ _ D0 _ (datOf_in (by exact UX9)) (datOf_in (by exact UT9))).mono ?_; rintro e m10 ⟨rfl, hb⟩; have V10 := whole_b hb V9; have S10 := whole_b hb S9; have X10 := whole_b hb X9; have G10 := whole_b hb G9; have UW10 := datOf_b hb UW9; have UX10 := datOf_b hb UX9; have UG10 := datOf_b hb UG9; have XI10 := row_b hb XI9; have B10 : Below w.heap.size w m10 := (by first | exact below_b hb B9 | exact below_b hb B9.drew); have s910 : m9.heap.size ≤ m10.heap.size := hb.size; clear hb))
  clear UT9 B8 B9 V8 V9 S8 S9 X8 X9 G8 G9 UW8 UW9 UX8 UX9 UG8 UG9 XI8 XI9
  go_wp2_with fail
  refine (toInts_any _ D1 _ (ints_below HI.out B10) hll).mono ?_
  rintro e m11 ⟨yi, rfl, YI, _, hb⟩
  have s1011 : m10.heap.size ≤ m11.heap.size := hb.size
  have XI11 := row_below XI10 hb
  clear XI10
  have B11 : Below w.heap.size w m11 := below_step B10 hb
  have V11 := whole_b hb V10
  have S11 := whole_b hb S10
  have X11 := whole_b hb X10
  have G11 := whole_b hb G10
  have UW11 := datOf_b hb UW10
  have UX11 := datOf_b hb UX10
  have UG11 := datOf_b hb UG10
  clear hb B10 V10 S10 X10 G10 UW10 UX10 UG10
  go_wp2_with fail
  refine (eqInts_any _ _ D1 D1 _ (row_ints XI11) (row_ints YI)).mono ?_
  rintro e m12 ⟨nd, rfl, hmm⟩
  have tt : (D1 == D1) = true := by simp
  rw [tt]
  clear YI
  have hb : Below m11.heap.size m11 m12 := by rw [hmm]; exact below_drewN (Below.refl _ _) nd
  clear hmm
  have s1112 : m11.heap.size ≤ m12.heap.size := hb.size
  have XI12 := row_below XI11 hb
  clear XI11
  have B12 : Below w.heap.size w m12 := below_step B11 hb
  have V12 := whole_b hb V11
  have S12 := whole_b hb S11
  have X12 := whole_b hb X11
  have G12 := whole_b hb G11
  have UW12 := datOf_b hb UW11
  have UX12 := datOf_b hb UX11
  have UG12 := datOf_b hb UG11
  clear hb B11 V11 S11 X11 G11 UW11 UX11 UG11
  obtain ⟨x00, x01, x02, x03, x04, x05⟩ := six_cells X12
  have zx := whole_lt X12
  go_wp2_with fail
  clear x00 x01 x02 x03 x04 x05 zx
  refine (markData_any _ D0 _ _ 1 _ UX12 hs (by omega) (by omega)).mono ?_
  rintro e m13 ⟨rfl, _, hn⟩
  have s1213 : m12.heap.size ≤ m13.heap.size := hn.size
  clear UX12
  have XI13 := row_keep XI12 (fun g hg => hn.block g (row_lt XI12 g hg).2 (by have := (row_lt XI12 g hg).1; omega))
  clear XI12
  have B13 : Below w.heap.size w m13 := B12.trans ((within_below hn (by omega)).mono (by omega))
  have V13 := whole_keep V12 (hn.block _ (whole_lt V12) (by omega))
  have S13 := whole_keep S12 (hn.block _ (whole_lt S12) (by omega))
  have X13 := whole_keep X12 (hn.block _ (whole_lt X12) (by omega))
  have G13 := whole_keep G12 (hn.block _ (whole_lt G12) (by omega))
  have UW13 := datOf_within UW12 hn (by omega)
  have UG13 := datOf_within UG12 hn (by omega)
  clear hn B12 V12 S12 X12 G12 UW12 UG12
  go_wp2_with fail
  refine (markInts_any _ _ (1 + numD D0) D1 _ XI13 hll (by unfold numD; omega)).mono ?_
  rintro e m14 ⟨rfl, _, hgr⟩
  have s1314 : m13.heap.size ≤ m14.heap.size := hgr.size
  have hn := within_grown hgr XL.out
  clear hgr XI13
  have B14 : Below w.heap.size w m14 := B13.trans ((within_below hn (by omega)).mono (by omega))
  have V14 := whole_keep V13 (hn.block _ (whole_lt V13) (by omega))
  have S14 := whole_keep S13 (hn.block _ (whole_lt S13) (by omega))
  have X14 := whole_keep X13 (hn.block _ (whole_lt X13) (by omega))
  have G14 := whole_keep G13 (hn.block _ (whole_lt G13) (by omega))
  have UW14 := datOf_within UW13 hn (by omega)
  have UG14 := datOf_within UG13 hn (by omega)
  clear hn B13 V13 S13 X13 G13 UW13 UG13
  have kp : ¬ (((1 + numD D0 : Nat) : Int) + (D1.length : Int) < 0) := by omega
  obtain ⟨g00, g01, g02, g03, g04, g05⟩ := six_cells G14
  have zg := whole_lt G14
  obtain ⟨s00, s01, s02, s03, s04, s05⟩ := six_cells S14
  have zs := whole_lt S14
  go_wp2_with fail
  clear g00 g01 g02 g03 g04 g05 zg s00 s01 s02 s03 s04 s05 zs
  refine (eqData_same _ _ r _ (datOf_in UG14) (datOf_in UW14)).mono ?_
  rintro e m15 ⟨rfl, hb⟩
  have sa : m14.heap.size ≤ m15.heap.size := hb.size
  clear X14
  have B15 : Below w.heap.size w m15 := below_step B14 hb
  have V15 := whole_b hb V14
  have S15 := whole_b hb S14
  have G15 := whole_b hb G14
  have UW15 := datOf_b hb UW14
  have UG15 := datOf_b hb UG14
  clear hb B14 V14 S14 G14 UW14 UG14
  obtain ⟨g00, g01, g02, g03, g04, g05⟩ := six_cells G15
  have zg := whole_lt G15
  go_wp2_with fail
  clear g00 g01 g02 g03 g04 g05 zg
  refine (markData_any _ r _ _ 1 _ UG15 RS (by omega) (by omega)).mono ?_
  rintro e m16 ⟨rfl, UM16, hn⟩
  have sb : m15.heap.size ≤ m16.heap.size := hn.size
  clear UG15
  have B16 : Below w.heap.size w m16 := B15.trans ((within_below hn (by omega)).mono (by omega))
  have V16 := whole_keep V15 (hn.block _ (whole_lt V15) (by omega))
  have S16 := whole_keep S15 (hn.block _ (whole_lt S15) (by omega))
  have G16 := whole_keep G15 (hn.block _ (whole_lt G15) (by omega))
  have UW16 := datOf_within UW15 hn (by omega)
  clear hn B15 V15 S15 G15 UW15
  have kq : (0 : Int) ≤ ((1 + numD r : Nat) : Int) := by omega
  have kr : (((1 + numD r : Nat) : Int) != ((1 + numD r : Nat) : Int)) = false := by simp
  obtain ⟨g00, g01, g02, g03, g04, g05⟩ := six_cells G16
  have zg := whole_lt G16
  go_wp2_with fail
  clear g00 g01 g02 g03 g04 g05 zg
  refine (heldData_any _ r 1 _ (datOf_in UM16) RS (by omega)).mono ?_
  rintro e m17 ⟨rfl, hb⟩
  have B17 : Below w.heap.size w m17 := below_step B16 hb
  have V17 := whole_b hb V16
  have S17 := whole_b hb S16
  have G17 := whole_b hb G16
  have UW17 := datOf_b hb UW16
  have UM17 := datOf_b hb UM16
  clear hb B16 V16 S16 G16 UW16 UM16
  obtain ⟨v00, v01, v02, v03, v04, v05⟩ := six_cells V17
  have zv := whole_lt V17
  go_wp2_with fail
  clear v00 v01 v02 v03 v04 v05 zv
  refine (toData_any _ D0 _ (datIn_below HD B17) hs).mono ?_
  rintro e m18 ⟨uy, rfl, UY, hb⟩
  have B18 : Below w.heap.size w m18 := below_step B17 hb
  have V18 := whole_b hb V17
  have S18 := whole_b hb S17
  have G18 := whole_b hb G17
  have UW18 := datOf_b hb UW17
  have UM18 := datOf_b hb UM17
  clear hb B17 V17 S17 G17 UW17 UM17
  go_wp2_with fail
  refine (toInts_any _ D1 _ (ints_below HI.out B18) hll).mono ?_
  rintro e m19 ⟨lj, rfl, hlj, _, hb⟩
  replace UY := datOf_below UY hb
  have B19 : Below w.heap.size w m19 := below_step B18 hb
  have V19 := whole_b hb V18
  have S19 := whole_b hb S18
  have G19 := whole_b hb G18
  have UW19 := datOf_b hb UW18
  have UM19 := datOf_b hb UM18
  clear hb B18 V18 S18 G18 UW18 UM18
  go_wp2_with fail
  refine (IP.out _ _ _ (datOf_in UY) (row_ints hlj) (TB.out _ B19)).mono ?_
  rintro e m20 ⟨uh, rfl, UH20, hb⟩
  clear UY hlj
  obtain ⟨H1, h1', H2, h2', H3, h3', rfl⟩ := datIn_form (datOf_in UH20)
  have B20 : Below w.heap.size w m20 := below_step B19 hb
  have V20 := whole_b hb V19
  have S20 := whole_b hb S19
  have G20 := whole_b hb G19
  have UW20 := datOf_b hb UW19
  have UM20 := datOf_b hb UM19
  clear hb B19 V19 S19 G19 UW19 UM19
  simp only [List.map_cons, List.map_nil]
  obtain ⟨s00, s01, s02, s03, s04, s05⟩ := six_cells S20
  have zs := whole_lt S20
  obtain ⟨g00, g01, g02, g03, g04, g05⟩ := six_cells G20
  have zg := whole_lt G20
  go_wp2_with fail
  clear s00 s01 s02 s03 s04 s05 zs g00 g01 g02 g03 g04 g05 zg
  refine (eqData_same _ _ r _ (datOf_in (datOf_below UH20 (below_alloc (Below.refl _ _) _))) (datOf_in (datOf_below UW20 (below_alloc (Below.refl _ _) _)))).mono ?_
  rintro e m21 ⟨rfl, hb⟩
  have B21 : Below w.heap.size w m21 := below_step (below_alloc B20 _) hb
  have V21 := whole_b hb (whole_alloc V20 _)
  have S21 := whole_b hb (whole_alloc S20 _)
  have G21 := whole_b hb (whole_alloc G20 _)
  have UW21 := datOf_b hb (datOf_below UW20 (below_alloc (Below.refl _ _) _))
  have UM21 := datOf_b hb (datOf_below UM20 (below_alloc (Below.refl _ _) _))
  have UH21 := datOf_b hb (datOf_below UH20 (below_alloc (Below.refl _ _) _))
  clear hb B20 V20 S20 G20 UW20 UM20 UH20
  obtain ⟨g00, g01, g02, g03, g04, g05⟩ := six_cells G21
  have zg := whole_lt G21
  go_wp2_with fail
  clear g00 g01 g02 g03 g04 g05 zg
  refine (heldData_any _ r 1 _ (datOf_in UM21) RS (by omega)).mono ?_
  rintro e m22 ⟨rfl, hb⟩
  have B22 : Below w.heap.size w m22 := below_step B21 hb
  have V22 := whole_b hb V21
  have S22 := whole_b hb S21
  have G22 := whole_b hb G21
  have UW22 := datOf_b hb UW21
  have UM22 := datOf_b hb UM21
  have UH22 := datOf_b hb UH21
  clear hb B21 V21 S21 G21 UW21 UM21 UH21
  go_wp2
  go_ret
  exact ⟨rfl, B22⟩

set_option maxRecDepth 100000 in
theorem lifted (os : Os) (started : os.Started) (H : Type) (enc : TypeId × Value → H) :
    ReturnsInHanded {} Tryz.checked os 8 .any (fun w args => (Rows.fnExactApplyAllSpec.pre enc Tryz.prog Tryz.f8 [] false w args ∧ laidMetH Tryz.prog listed w) ∧ sizedMet enc Tryz.prog Tryz.f8 (OpenSpec.ofChange Rows.fnExactApplyAllSpec) false w args)
      (Rows.fnExactApplyAllSpec.post enc Tryz.prog Tryz.f8 false true false false) := by
  refine returnsInHanded_of_change_and (C := Tryz.checked) (X := fun w _ => laidMetH Tryz.prog listed w) (fun _ _ _ hh h => h.of_heap hh) own started (by kernel_rfl) Tryz.func8
    (ChangeSpec.witness_shaped (enc := enc) (C := Tryz.checked) (os := os) (X := fun w _ => laidMetH Tryz.prog listed w) false (World.laidAll Tryz.prog os listed) #[.agg #[.slice none 0 0, .slice none 0 0, .slice none 0 0, .int .i64 0, .int .i64 0, .string ByteArray.empty], .slice none 0 0] 8 (World.laidAll_os _ _ _)
      (World.shaped_of_ZipB (by kernel_rfl) (by kernel_rfl)) (by kernel_rfl) (by kernel_rfl) (by kernel_rfl)
      (by rw [MakeChecks.laidMetH_plain _ _ _ (by kernel_rfl)]; exact laidMet_laidAll _ (by kernel_rfl) (by kernel_rfl))) ?_
  intro W base args ds gs before hval0 hW _ _ hL _
  have hval : ∀ (j : Nat) t v, Tryz.f8.params[j]? = some t → args[j]? = some v → Value.okWide Tryz.prog W .any base t v := hval0
  have hW' := hW
  obtain ⟨p, q, hA0, hV0, rfl, hfz, hnd⟩ := hW
  have hA : DataW.TrodAll enc Tryz.prog W 0 (fun _ => true) true Tryz.f8.params.toList args.toList ds p := hA0
  have hV : DataW.TrodVars enc Tryz.prog W (fun _ => true) ["loop.example/g00787/impl.flags"] gs q := hV0
  rw [Tryz.params8] at hA hval
  obtain ⟨v0, vs0, d0, ds0, p0, q0, hargs, rfl, rfl, h0, r0⟩ := trodAll_cons hA
  obtain ⟨v1, vs1, d1, ds1, p1, q1, rfl, rfl, rfl, h1, r1⟩ := trodAll_cons r0
  obtain ⟨rfl, rfl, rfl⟩ := trodAll_nil r1
  obtain rfl : args = #[v0, v1] := by cases args; simp_all
  obtain ⟨g, t, cs, fuelV, dv, pv, rfl, hg, ht, hvar, hd, rfl⟩ := trodVars_one hV
  obtain rfl := Option.some.inj ((show Tryz.prog.globalNamed "loop.example/g00787/impl.flags" = some 0 by kernel_rfl).symm.trans hg)
  obtain rfl := Option.some.inj ((show (Tryz.prog.globals[0]?).map (·.type) = some 217 by kernel_rfl).symm.trans ht)
  have k0 := h0
  have lt0 : ∀ x ∈ p0, x.block < W.heap.size := by obtain ⟨m, hm⟩ := k0; exact DataW.trod_lt m _ _ _ hm
  obtain ⟨D0, w0⟩ := open_data (hval 0 25 v0 rfl rfl) h0
  have k1 := h1
  have lt1 : ∀ x ∈ p1, x.block < W.heap.size := by obtain ⟨m, hm⟩ := k1; exact DataW.trod_lt m _ _ _ hm
  obtain ⟨D1, w1⟩ := open_ints5 (hval 1 23 v1 rfl rfl) h1
  have hfact := of_laid hL
  clear hA0 hV0 hval0
  have hg0 : 0 < W.heap.size := by
    rcases Nat.lt_or_ge 0 W.heap.size with h1 | h1
    · exact h1
    · simp [World.var?, hg, h1] at hvar
  have ltv : ∀ x ∈ pv, x.block < W.heap.size := DataW.trod_lt fuelV _ _ _ hd
  refine (walk v0 D0 v1 D1 W w0 w1 hfact).mono fun e W' ⟨he, bel⟩ => ?_
  subst he
  obtain ⟨fuelW, hd'⟩ := Below.trod (v := .agg cs) laidOut (by kernel_rfl) (of_decide_eq_true (by kernel_rfl)) ⟨fuelV, hd⟩ bel ltv
  exact ⟨_, rfl, _, _, _, [], _, _, hW', trodAll_mk1 (shut_bool Tryz.underlying4 _), (trodAll_cons_mk (Below.trod laidOut (by kernel_rfl) (of_decide_eq_true (by kernel_rfl)) k0 bel lt0) (trodAll_cons_mk (Below.trod laidOut (by kernel_rfl) (of_decide_eq_true (by kernel_rfl)) k1 bel lt1) trodAll_mk0)), trodVars_mk1 hg ht (var?_below bel hg hg0 hvar) hd', bel.frame _, fun h => by cases h⟩

theorem and_intro {a b : Bool} (ha : a = true) (hb : b = true) : (a && b) = true := by rw [ha, hb]; rfl

set_option maxRecDepth 100000 in
set_option maxHeartbeats 8000000 in
theorem closed : joinedFacts Tryz.prog 8 Tryz.f8 Rows.fnExactApplyAllSpec Rows.fnExactApplyAllRow = true := by
  unfold joinedFacts
  repeat' (with_reducible refine and_intro ?_ ?_)
  all_goals as_aux_lemma => kernel_rfl

theorem over : Rows.FnExactApplyAllSaid :=
  OpenClaim.holds_of_wide 8 Tryz.f8 rfl rfl rfl rfl rfl rfl rfl ⟨rfl, rfl, rfl, rfl, rfl⟩ rfl rfl rfl rfl rfl (by kernel_rfl) Tryz.func8 closed
    (of_decide_eq_true (by kernel_rfl)) (by unfold Func.isWrapper; first | (rw [if_pos (by decide +kernel)]; kernel_rfl) | (rw [if_neg (by decide +kernel)]; exact ⟨rfl, rfl⟩))
    (fun os started H enc _ => lifted os started H enc)

/-- The statement: the tied card. -/
theorem proved : Rows.FnExactApplyAllCardSaid :=
  Claim7.holds_tied_plain_at .later [] [.data, .data, .data, .data, .data, .pinned, .pinned] true (true, "040dfef8b6dd789b16104e7e41f69202df3a530845632ec4bd72ba64af32fcb5") false
    over (fun _ h => by cases h) (by kernel_rfl) (fun _ h => by cases h) fnExactApplyAll_row_tie rfl ⟨rfl, rfl⟩ (by kernel_rfl) rfl
    (fun f fn hf hfn => by
      obtain rfl : f = 8 := Option.some.inj ((show Tryz.prog.funcNamed "loop.example/g00787/laws.FnExactApplyAll" = some 8 by kernel_rfl).symm.trans hf) |>.symm
      obtain rfl : fn = Tryz.f8 := (Option.some.inj (Tryz.func8.symm.trans hfn)).symm
      exact ⟨by kernel_rfl, fun j t ht => by
        rw [Tryz.params8] at ht
        have hm : t ∈ [25, 23] := by simpa using Array.mem_of_getElem? ht
        have hall : ([25, 23].all fun u => !Tryz.prog.wantsStandIn u) = true := by kernel_rfl
        exact (show Tryz.prog.wantsStandIn t = false by simpa using List.all_eq_true.1 hall t hm)⟩)
    (by kernel_rfl)
#print axioms proved
end Go.Proofs.YthnbaeamekolmaaGreatDoor.fnExactApplyAll
