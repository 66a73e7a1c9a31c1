/- laws.FnExactPop returns true at every argument: impl.Pop and spec.Pop give the same data, top, throw and code; impl writes into no argument, and what it hands back owns its memory. No condition. -/
import Derived.Test.YtojjknjdlipfpaaRows
import Derived.Test.YtojjknjdlipfpaaDatZ
import Derived.Test.YtojjknjdlipfpaaDatL
import Derived.Deep.RegionHeld3
import Derived.WalkKit
import Derived.ProofKit
import Derived.OpenShut
import Derived.ShutString
import Derived.ChangeOld
import Derived.Below
namespace Go.Proofs.Ytojjknjdlipfpaa.fnExactPop
open Go.ChangeShapes Go.WideShapes Go.ChangeAt Go.RowKit
open Go.ChangeMaps (open_string shut_string)
set_option linter.unusedSimpArgs false
set_option linter.unusedVariables false

theorem own : ownKnob Try.prog.godebug = none := by kernel_rfl
theorem laidOut : laidOutB Try.prog = true := by kernel_rfl

set_option maxRecDepth 100000 in
set_option maxHeartbeats 2000000 in
theorem walk (v0 : Value) (D0 : Dt) (w : World) (w0 : DatIn w v0 D0) :
    Calls Try.prog 6 #[v0] w fun e w' => e = .returned (.bool true) ∧ Below w.heap.size w w' := by
  have HD := w0
  obtain ⟨A1, k1, A2, k2, A3, k3, rfl⟩ := datIn_form w0
  clear w0
  go_enter Try.func6, Try.ntmps6
  go_wp2_with fail
  refine (szData_any _ D0 1048576 _ (datIn_below HD (below_alloc (Below.refl _ _) _)) (by omega) (by omega)).mono ?_
  rintro e m1 ⟨q, rfl, hr, hb⟩
  have B1 := below_step (below_alloc (Below.refl _ _) _) hb
  have V1 := whole_below (whole_new w _ _) hb
  clear hb
  rcases hr with rfl | ⟨h0, h1, hs⟩
  · go_wp2
    go_ret
    exact ⟨rfl, B1⟩
  have RS := dPop_small hs
  have SP : Hid (∀ v W, DatIn W v D0 → CapS v → Calls Try.prog 32 #[v] W (ResOf W (dPop D0).1 [(dPop D0).2.1, (dPop D0).2.2.1, (dPop D0).2.2.2])) := Lib.hid fun v W h hcap => sPop_any v D0 W h hs hcap
  have IP : Hid (∀ v W, DatIn W v D0 → Calls Try.prog 15 #[v] W (ResOf W (dPop D0).1 [(dPop D0).2.1, (dPop D0).2.2.1, (dPop D0).2.2.2])) := Lib.hid fun v W h => iPop_any v D0 W h hs
  generalize dPop D0 = pp at *
  obtain ⟨r, n0, n1, n2⟩ := pp
  simp only at *
  have tn0 : (n0 != n0) = false := by simp
  have tn1 : (n1 != n1) = false := by simp
  have tn2 : (n2 != n2) = false := by simp
  have hsm := hs
  have hrm := RS
  obtain ⟨hs1, hs2, hs3, _⟩ := hsm
  obtain ⟨hr1, hr2, hr3, _⟩ := hrm
  obtain ⟨v00, v01, v02, v03, v04, v05⟩ := six_cells V1
  have zv := whole_lt V1
  go_wp2_with fail
  clear v00 v01 v02 v03 v04 v05 zv
  refine (toData_any _ D0 _ (datIn_below HD B1) hs).mono ?_
  rintro e m2 ⟨u, rfl, hu, hb⟩
  have B2 : Below w.heap.size w m2 := below_step B1 hb
  have V2 := whole_b hb V1
  clear hb B1 V1
  go_wp2_with fail
  refine (SP.out _ _ (datOf_in hu) (datOf_cap hu)).mono ?_
  rintro e m3 ⟨uw, rfl, UW3, hb⟩
  clear hu
  obtain ⟨C1, j1, C2, j2, C3, j3, rfl⟩ := datIn_form (datOf_in UW3)
  have hwm : w.heap.size < m2.heap.size := whole_lt V2
  have s23 : m2.heap.size ≤ m3.heap.size := hb.size
  have B3 : Below w.heap.size w m3 := below_step B2 hb
  have V3 := whole_b hb V2
  clear hb B2 V2
  simp only [List.map_cons, List.map_nil]
  obtain ⟨v00, v01, v02, v03, v04, v05⟩ := six_cells V3
  have zv := whole_lt V3
  go_wp2_with fail
  clear v00 v01 v02 v03 v04 v05 zv
  refine (toData_any _ D0 _ (datIn_below HD (below_alloc B3 _)) hs).mono ?_
  rintro e m4 ⟨ux, rfl, UX4, hb⟩
  obtain ⟨E1, i1, E2, i2, E3, i3, rfl⟩ := datIn_form (datOf_in UX4)
  have s34 : m3.heap.size + 1 ≤ m4.heap.size := by have := hb.size; simpa using this
  replace UX4 := datOf_base (lo' := m3.heap.size + 1) UX4 (by simp)
  have B4 : Below w.heap.size w m4 := below_step (below_alloc B3 _) hb
  have V4 := whole_b hb (whole_alloc V3 _)
  have S4 := whole_b hb (whole_new m3 _ _)
  have UW4 := datOf_b hb (datOf_below UW3 (below_alloc (Below.refl _ _) _))
  clear hb B3 V3 UW3
  go_wp2_with fail
  refine (IP.out _ _ (datOf_in (datOf_below UX4 (below_alloc (Below.refl _ _) _)))).mono ?_
  rintro e m5 ⟨ug, rfl, UG5, hb⟩
  obtain ⟨G1, g1, G2, g2, G3, g3, rfl⟩ := datIn_form (datOf_in UG5)
  have s45 : m4.heap.size + 1 ≤ m5.heap.size := by have := hb.size; simpa using this
  replace UG5 := datOf_base (lo' := m4.heap.size + 1) UG5 (by simp)
  have B5 : Below w.heap.size w m5 := below_step (below_alloc B4 _) hb
  have V5 := whole_b hb (whole_alloc V4 _)
  have S5 := whole_b hb (whole_alloc S4 _)
  have X5 := whole_b hb (whole_new m4 _ _)
  have UW5 := datOf_b hb (datOf_below UW4 (below_alloc (Below.refl _ _) _))
  have UX5 := datOf_b hb (datOf_below UX4 (below_alloc (Below.refl _ _) _))
  clear hb B4 V4 S4 UW4 UX4
  simp only [List.map_cons, List.map_nil]
  obtain ⟨s00, s01, s02, s03, s04, s05⟩ := six_cells S5
  have zs := whole_lt S5
  go_wp2_with fail
  clear s00 s01 s02 s03 s04 s05 zs
  refine (eqData_same _ _ r _ (datOf_in (datOf_below UG5 (below_alloc (Below.refl _ _) _))) (datOf_in (datOf_below UW5 (below_alloc (Below.refl _ _) _)))).mono ?_
  rintro e m6 ⟨rfl, hb⟩
  have s56 : m5.heap.size + 1 ≤ m6.heap.size := by have := hb.size; simpa using this
  have B6 : Below w.heap.size w m6 := below_step (below_alloc B5 _) hb
  have V6 := whole_b hb (whole_alloc V5 _)
  have S6 := whole_b hb (whole_alloc S5 _)
  have X6 := whole_b hb (whole_alloc X5 _)
  have G6 := whole_b hb (whole_new m5 _ _)
  have UW6 := datOf_b hb (datOf_below UW5 (below_alloc (Below.refl _ _) _))
  have UX6 := datOf_b hb (datOf_below UX5 (below_alloc (Below.refl _ _) _))
  have UG6 := datOf_b hb (datOf_below UG5 (below_alloc (Below.refl _ _) _))
  clear hb B5 V5 S5 X5 UW5 UX5 UG5
  go_wp2_with fail
  go_region_held3 (fun w' => (w'.cell? ⟨w.heap.size, 0, none⟩ = some (.slice A1 D0.s.length k1) ∧ w'.cell? ⟨w.heap.size, 1, none⟩ = some (.slice A2 D0.b.length k2) ∧ w'.cell? ⟨w.heap.size, 2, none⟩ = some (.slice A3 D0.c.length k3) ∧ w'.cell? ⟨w.heap.size, 3, none⟩ = some (.int .i64 D0.h) ∧ w'.cell? ⟨w.heap.size, 4, none⟩ = some (.int .i64 D0.n) ∧ w'.cell? ⟨w.heap.size, 5, none⟩ = some (.string D0.o)) ∧ (w'.cell? ⟨m4.heap.size, 0, none⟩ = some (.slice E1 D0.s.length i1) ∧ w'.cell? ⟨m4.heap.size, 1, none⟩ = some (.slice E2 D0.b.length i2) ∧ w'.cell? ⟨m4.heap.size, 2, none⟩ = some (.slice E3 D0.c.length i3) ∧ w'.cell? ⟨m4.heap.size, 3, none⟩ = some (.int .i64 D0.h) ∧ w'.cell? ⟨m4.heap.size, 4, none⟩ = some (.int .i64 D0.n) ∧ w'.cell? ⟨m4.heap.size, 5, none⟩ = some (.string D0.o))) (exact ⟨six_cells (by assumption), six_cells (by assumption)⟩)
    (first
      | (go_at_call 28; refine (toData_any _ D0 _ (datIn_below HD (by first | exact B6 | exact B6.drew)) hs).mono ?_; rintro e m7 ⟨ut, rfl, UT7, hb⟩; have V7 := whole_b hb V6; have S7 := whole_b hb S6; have X7 := whole_b hb X6; have G7 := whole_b hb G6; have UW7 := datOf_b hb UW6; have UX7 := datOf_b hb UX6; have UG7 := datOf_b hb UG6; have B7 : Below w.heap.size w m7 := (by first | exact below_b hb B6.drew | exact below_b hb B6); have s67 : m6.heap.size ≤ m7.heap.size := hb.size; clear hb)
      | (go_at_call 29; refine (eqData_same _ _ D0 _ (datOf_in (by exact UX7)) (datOf_in (by exact UT7))).mono ?_; rintro e m8 ⟨rfl, hb⟩; have V8 := whole_b hb V7; have S8 := whole_b hb S7; have X8 := whole_b hb X7; have G8 := whole_b hb G7; have UW8 := datOf_b hb UW7; have UX8 := datOf_b hb UX7; have UG8 := datOf_b hb UG7; have B8 : Below w.heap.size w m8 := (by first | exact below_b hb B7 | exact below_b hb B7.drew); have s78 : m7.heap.size ≤ m8.heap.size := hb.size; clear hb))
  clear UT7 B6 B7 V6 V7 S6 S7 X6 X7 G6 G7 UW6 UW7 UX6 UX7 UG6 UG7
  obtain ⟨x00, x01, x02, x03, x04, x05⟩ := six_cells X8
  have zx := whole_lt X8
  go_wp2_with fail
  clear x00 x01 x02 x03 x04 x05 zx
  refine (markData_any _ D0 _ _ 1 _ UX8 hs (by omega) (by omega)).mono ?_
  rintro e m9 ⟨rfl, _, hn⟩
  have s89 : m8.heap.size ≤ m9.heap.size := hn.size
  clear UX8
  have B9 : Below w.heap.size w m9 := B8.trans ((within_below hn (by omega)).mono (by omega))
  have V9 := whole_keep V8 (hn.block _ (whole_lt V8) (by omega))
  have S9 := whole_keep S8 (hn.block _ (whole_lt S8) (by omega))
  have X9 := whole_keep X8 (hn.block _ (whole_lt X8) (by omega))
  have G9 := whole_keep G8 (hn.block _ (whole_lt G8) (by omega))
  have UW9 := datOf_within UW8 hn (by omega)
  have UG9 := datOf_within UG8 hn (by omega)
  clear hn B8 V8 S8 X8 G8 UW8 UG8
  have kp : (0 : Int) ≤ ((1 + numD D0 : Nat) : Int) := by omega
  obtain ⟨g00, g01, g02, g03, g04, g05⟩ := six_cells G9
  have zg := whole_lt G9
  obtain ⟨s00, s01, s02, s03, s04, s05⟩ := six_cells S9
  have zs := whole_lt S9
  go_wp2_with fail
  clear g00 g01 g02 g03 g04 g05 zg s00 s01 s02 s03 s04 s05 zs
  refine (eqData_same _ _ r _ (datOf_in UG9) (datOf_in UW9)).mono ?_
  rintro e m10 ⟨rfl, hb⟩
  have sa : m9.heap.size ≤ m10.heap.size := hb.size
  have B10 : Below w.heap.size w m10 := below_step B9 hb
  have V10 := whole_b hb V9
  have S10 := whole_b hb S9
  have G10 := whole_b hb G9
  have UW10 := datOf_b hb UW9
  have UG10 := datOf_b hb UG9
  clear hb B9 V9 S9 G9 UW9 UG9
  obtain ⟨g00, g01, g02, g03, g04, g05⟩ := six_cells G10
  have zg := whole_lt G10
  go_wp2_with fail
  clear g00 g01 g02 g03 g04 g05 zg
  refine (markData_any _ r _ _ 1 _ UG10 RS (by omega) (by omega)).mono ?_
  rintro e m11 ⟨rfl, UM11, hn⟩
  have sb : m10.heap.size ≤ m11.heap.size := hn.size
  clear UG10
  have B11 : Below w.heap.size w m11 := B10.trans ((within_below hn (by omega)).mono (by omega))
  have V11 := whole_keep V10 (hn.block _ (whole_lt V10) (by omega))
  have S11 := whole_keep S10 (hn.block _ (whole_lt S10) (by omega))
  have G11 := whole_keep G10 (hn.block _ (whole_lt G10) (by omega))
  have UW11 := datOf_within UW10 hn (by omega)
  clear hn B10 V10 S10 G10 UW10
  have kq : (0 : Int) ≤ ((1 + numD r : Nat) : Int) := by omega
  have kr : (((1 + numD r : Nat) : Int) != ((1 + numD r : Nat) : Int)) = false := by simp
  obtain ⟨g00, g01, g02, g03, g04, g05⟩ := six_cells G11
  have zg := whole_lt G11
  go_wp2_with fail
  clear g00 g01 g02 g03 g04 g05 zg
  refine (heldData_any _ r 1 _ (datOf_in UM11) RS (by omega)).mono ?_
  rintro e m12 ⟨rfl, hb⟩
  have B12 : Below w.heap.size w m12 := below_step B11 hb
  have V12 := whole_b hb V11
  have S12 := whole_b hb S11
  have G12 := whole_b hb G11
  have UW12 := datOf_b hb UW11
  have UM12 := datOf_b hb UM11
  clear hb B11 V11 S11 G11 UW11 UM11
  obtain ⟨v00, v01, v02, v03, v04, v05⟩ := six_cells V12
  have zv := whole_lt V12
  go_wp2_with fail
  clear v00 v01 v02 v03 v04 v05 zv
  refine (toData_any _ D0 _ (datIn_below HD B12) hs).mono ?_
  rintro e m13 ⟨uy, rfl, UY, hb⟩
  have B13 : Below w.heap.size w m13 := below_step B12 hb
  have V13 := whole_b hb V12
  have S13 := whole_b hb S12
  have G13 := whole_b hb G12
  have UW13 := datOf_b hb UW12
  have UM13 := datOf_b hb UM12
  clear hb B12 V12 S12 G12 UW12 UM12
  go_wp2_with fail
  refine (IP.out _ _ (datOf_in UY)).mono ?_
  rintro e m14 ⟨uh, rfl, UH14, hb⟩
  clear UY
  obtain ⟨H1, h1', H2, h2', H3, h3', rfl⟩ := datIn_form (datOf_in UH14)
  have B14 : Below w.heap.size w m14 := below_step B13 hb
  have V14 := whole_b hb V13
  have S14 := whole_b hb S13
  have G14 := whole_b hb G13
  have UW14 := datOf_b hb UW13
  have UM14 := datOf_b hb UM13
  clear hb B13 V13 S13 G13 UW13 UM13
  simp only [List.map_cons, List.map_nil]
  obtain ⟨s00, s01, s02, s03, s04, s05⟩ := six_cells S14
  have zs := whole_lt S14
  obtain ⟨g00, g01, g02, g03, g04, g05⟩ := six_cells G14
  have zg := whole_lt G14
  go_wp2_with fail
  clear s00 s01 s02 s03 s04 s05 zs g00 g01 g02 g03 g04 g05 zg
  refine (eqData_same _ _ r _ (datOf_in (datOf_below UH14 (below_alloc (Below.refl _ _) _))) (datOf_in (datOf_below UW14 (below_alloc (Below.refl _ _) _)))).mono ?_
  rintro e m15 ⟨rfl, hb⟩
  have B15 : Below w.heap.size w m15 := below_step (below_alloc B14 _) hb
  have V15 := whole_b hb (whole_alloc V14 _)
  have S15 := whole_b hb (whole_alloc S14 _)
  have G15 := whole_b hb (whole_alloc G14 _)
  have UW15 := datOf_b hb (datOf_below UW14 (below_alloc (Below.refl _ _) _))
  have UM15 := datOf_b hb (datOf_below UM14 (below_alloc (Below.refl _ _) _))
  have UH15 := datOf_b hb (datOf_below UH14 (below_alloc (Below.refl _ _) _))
  clear hb B14 V14 S14 G14 UW14 UM14 UH14
  obtain ⟨g00, g01, g02, g03, g04, g05⟩ := six_cells G15
  have zg := whole_lt G15
  go_wp2_with fail
  clear g00 g01 g02 g03 g04 g05 zg
  refine (heldData_any _ r 1 _ (datOf_in UM15) RS (by omega)).mono ?_
  rintro e m16 ⟨rfl, hb⟩
  have B16 : Below w.heap.size w m16 := below_step B15 hb
  have V16 := whole_b hb V15
  have S16 := whole_b hb S15
  have G16 := whole_b hb G15
  have UW16 := datOf_b hb UW15
  have UM16 := datOf_b hb UM15
  have UH16 := datOf_b hb UH15
  clear hb B15 V15 S15 G15 UW15 UM15 UH15
  go_wp2
  go_ret
  exact ⟨rfl, B16⟩

set_option maxRecDepth 100000 in
theorem lifted (os : Os) (started : os.Started) (H : Type) (enc : TypeId × Value → H) :
    ReturnsInHanded {} Try.checked os 6 .any (Rows.fnExactPopSpec.pre6 enc Try.prog Try.f6 Rows.fnExactPopRow.domain false) (Rows.fnExactPopSpec.post enc Try.prog Try.f6 false true false false) := by
  refine returnsInHanded_of_change (C := Try.checked) own started (by kernel_rfl) Try.func6
    (ChangeSpec.witness6 (enc := enc) (C := Try.checked) false ⟨#[], #[.agg #[.slice none 0 0, .slice none 0 0, .slice none 0 0, .int .i64 0, .int .i64 0, .string ByteArray.empty]], []⟩ 8 (by kernel_rfl) (by kernel_rfl) (by kernel_rfl) (by kernel_rfl)) ?_
  intro W base args ds gs before hval0 hW hcnd _
  have hval : ∀ (j : Nat) t v, Try.f6.params[j]? = some t → args[j]? = some v → Value.okWide Try.prog W .any base t v := hval0
  have hW' := hW
  obtain ⟨p, q, hA0, hV, rfl, hfz, hnd⟩ := hW
  have hA : DataW.TrodAll enc Try.prog W 0 (fun _ => true) true Try.f6.params.toList args.toList ds p := hA0
  rw [Try.params6] at hA hval
  obtain ⟨v0, vs0, d0, ds0, p0, q0, hargs, rfl, rfl, h0, r0⟩ := trodAll_cons hA
  obtain ⟨rfl, rfl, rfl⟩ := trodAll_nil r0
  obtain rfl : args = #[v0] := by cases args; simp_all
  obtain ⟨rfl, rfl⟩ := trodVars_none hV
  have k0 := h0
  have lt0 : ∀ x ∈ p0, x.block < W.heap.size := by obtain ⟨m, hm⟩ := k0; exact DataW.trod_lt m _ _ _ hm
  obtain ⟨D0, w0⟩ := open_data (hval 0 41 v0 rfl rfl) h0
  clear hA0 hval0
  refine (walk v0 D0 W w0).mono fun e W' ⟨he, bel⟩ => ?_
  subst he
  exact ⟨_, rfl, _, _, _, [], _, [], hW', trodAll_mk1 (shut_bool Try.underlying4 _), (trodAll_cons_mk (Below.trod laidOut (by kernel_rfl) (of_decide_eq_true (by kernel_rfl)) k0 bel lt0) trodAll_mk0), rfl, bel.frame _, fun h => by cases h⟩

theorem over : Rows.fnExactPopRow.holds Try.pinned (OpenSpec.ofChange Rows.fnExactPopSpec) :=
  OpenClaim.holds_of_wide 6 Try.f6 rfl rfl rfl rfl rfl rfl rfl ⟨rfl, rfl, rfl, rfl, rfl⟩ rfl rfl rfl rfl rfl (by kernel_rfl) Try.func6 (by kernel_rfl)
    (of_decide_eq_true (by kernel_rfl)) (by unfold Func.isWrapper; first | (rw [if_pos (by decide +kernel)]; kernel_rfl) | (rw [if_neg (by decide +kernel)]; exact ⟨rfl, rfl⟩))
    (fun os started H enc _ => lifted os started H enc)

/-- The statement. -/
theorem proved : Rows.FnExactPopSaid := over
#print axioms proved
end Go.Proofs.Ytojjknjdlipfpaa.fnExactPop
