/- laws.FnExactHostCall returns true at every host, every data and every number of a capability: impl.HostCall and spec.HostCall give the same host, data, throw and code; impl writes into no argument, and what it hands back owns its memory. No condition. -/
import Derived.Test.YtjlfbmplmddceaaRows
import Derived.Test.YtjlfbmplmddceaaHoL
import Derived.Test.YtjlfbmplmddceaaDatL
import Derived.Test.YtjlfbmplmddceaaPkR
import Derived.Deep.RegionHeld3
import Derived.BigRegion
import Derived.WalkKit
import Derived.ProofKit
import Derived.OpenShut
import Derived.ShutString
import Derived.ChangeOld
import Derived.Below
namespace Go.Proofs.Ytjlfbmplmddceaa.fnExactHostCall
open Go.ChangeShapes Go.WideShapes Go.ChangeAt Go.RowKit
open Go.ChangeMaps (open_string shut_string)
set_option linter.unusedSimpArgs false
set_option linter.unusedVariables false

theorem own : ownKnob Try.prog.godebug = none := by kernel_rfl
theorem laidOut : laidOutB Try.prog = true := by kernel_rfl

set_option maxRecDepth 100000 in
set_option maxHeartbeats 40000000 in
theorem walk (v0 : Value) (D0 : Ht) (v1 : Value) (D1 : Dt) (a2 : Int) (w : World) (w0 : HostIn w v0 D0) (w1 : DatIn w v1 D1) (w2 : (Lit.int .i64 a2).wf = true) :
    Calls Try.prog 3 #[v0, v1, .int .i64 a2] w fun e w' => e = .returned (.bool true) ∧ Below w.heap.size w w' := by
  have HH := Lib.hid w0
  have HX := Lib.hid w1
  obtain ⟨A1, k1, A2, k2, A3, k3, A4, k4, rfl⟩ := hostIn_form w0
  obtain ⟨E1, j1, E2, j2, E3, j3, rfl, _⟩ := datIn_form w1
  clear w0 w1 w2
  go_enter Try.func3, Try.ntmps3
  go_wp2_with fail
  refine (szHost_any _ D0 1048576 _ (hostIn_below HH.out (below_alloc (below_alloc (Below.refl _ _) _) _)) (by omega) (by omega)).mono ?_
  rintro e p1 ⟨q, rfl, hr, hb⟩
  have Bp1 := below_step (below_alloc (below_alloc (Below.refl _ _) _) _) hb
  have Vp1 := whole_b hb (whole_alloc (whole_new w _ _) _)
  have Xp1 := whole_b hb (whole_second w _ _ _)
  clear hb
  rcases hr with rfl | ⟨h0, h1, hs⟩
  · go_wp2
    go_ret
    exact ⟨rfl, Bp1⟩
  obtain ⟨v0, v1, v2, v3, v4, v5⟩ := six_cells Xp1
  have zx := whole_lt Xp1
  go_wp2_with fail
  clear v0 v1 v2 v3 v4 v5 zx
  refine (szData_any _ D1 _ _ (datIn_below HX.out Bp1) h0 h1).mono ?_
  rintro e p2 ⟨q2, rfl, hr, hb⟩
  have Bp2 : Below w.heap.size w p2 := below_step Bp1 hb
  have Vp2 := whole_b hb Vp1
  have Xp2 := whole_b hb Xp1
  clear hb Bp1 Vp1 Xp1
  rcases hr with rfl | ⟨h2, h3, hx⟩
  · go_wp2
    go_ret
    exact ⟨rfl, Bp2⟩
  have RS := hHost_small D0 D1 a2
  have SP : Hid (∀ v x W, HostIn W v D0 → DatC W x D1 → Calls Try.prog 8 #[v, x, .int .i64 a2] W (HcRes W (hHost D0 D1 a2))) := Lib.hid fun v x W h k => sHostCall_any v x D0 D1 a2 W h k
  have IP : Hid (∀ v x W, HostIn W v D0 → DatIn W x D1 → Calls Try.prog 11 #[v, x, .int .i64 a2] W (HcRes W (hHost D0 D1 a2))) := Lib.hid fun v x W h k => iHostCall_any v x D0 D1 a2 W h k
  generalize hHost D0 D1 a2 = pp at *
  obtain ⟨ZH, ZX⟩ := RS
  have tn0 : (pp.2.2.1 != pp.2.2.1) = false := by simp
  have tn1 : (pp.2.2.2 != pp.2.2.2) = false := by simp
  go_wp2_with fail
  have KQ := Lib.hid Vp2
  have KV := Lib.hid Xp2
  have KB := Lib.hid Bp2
  have zq := whole_lt Vp2
  have zv := whole_lt Xp2
  clear Vp2 Xp2 Bp2
  refine hcRegS_any D0 D1 a2 pp _ _ _ _ _ _ _ _ _ _ _ _ _ _ _ _ p2 hs hx KQ.out KV.out (Lib.hid (hostIn_below HH.out KB.out)) (Lib.hid (datIn_below HX.out KB.out)) SP _ _ _ _ _ _ _ _ _ _ _ _ _ _ _ _ _ _ _ _ _ _ _ _ _ _ _ _ _ _ _ _ _ _ _ _ _ _ _ _ _ _ _ _ _ _ _ _ _ _ _ _ _ _ _ _ _ _ _ _ _ _ _ _ _ _ _ _ _ _ _ _ _ _ _ _ _ _ _ _ _ _ _ _ _ _ _ _ _ _ _ _ _ _ _ _ _ _ _ _ _ _ _ _ _ _ _ _ _ _ _ _ _ _ _ _ _ _ _ _ _ _ _ _ _ _ _ _ _ _ _ _ _ _ _ _ _ _ _ _ _ _ _ _ _ _ _ _ _ _ _ _ _ _ _ _ _ _ _ _ _ _ _ _ _ _ _ _ _ _ _ _ _ _ _ _ _ _ _ _ _ ?_
  rintro u8 u9 u10 u11 u35 u36 u37 u38 u39 u40 u41 u42 u43 u44 u45 wc hcut
  obtain ⟨G, E, X1, m1, X2, m2, X3, m3, X4, m4, Y1, l1, Y2, l2, Y3, l3, rfl, rfl, rfl, rfl, G6, E6, UW6, UD6, dW, lG, lE, hB⟩ := hcut
  have zl : w.heap.size ≤ p2.heap.size := KB.out.size
  have B6 : Below w.heap.size w wc := below_step KB.out hB
  have V6 := whole_below KQ.out hB
  have X6 := whole_below KV.out hB
  have zG := whole_lt G6
  have zE := whole_lt E6
  have RW := Lib.hid (fun k hk => hostT_mine UW6 (g := k) hk)
  have RD := Lib.hid (fun k hk => datOf_mine UD6 (g := k) hk)
  clear hB KQ KV KB 
  obtain ⟨lV0, lV1, lV2, lV3, lV4⟩ := five_cells V6
  have lVz := whole_lt V6
  go_wp2_with fail
  clear lV0 lV1 lV2 lV3 lV4 lVz
  refine (toHost_any _ D0 _ (hostIn_below HH.out B6) hs).mono ?_
  rintro e m7 ⟨ux, rfl, UX7, hb⟩
  have B7 : Below w.heap.size w m7 := below_step B6 hb
  have s7 : wc.heap.size ≤ m7.heap.size := hb.size
  have V7 := whole_b hb (V6)
  have X7 := whole_b hb (X6)
  have G7 := whole_b hb (G6)
  have E7 := whole_b hb (E6)
  have UW7 := hostT_b hb (UW6)
  have UD7 := datOf_b hb (UD6)
  clear hb B6 V6 X6 G6 E6 UW6 UD6
  have RX := Lib.hid (fun k hk => hostOf_mine UX7 (g := k) hk)
  obtain ⟨P1, i1, P2, i2, P3, i3, P4, i4, rfl⟩ := hostIn_form (hostOf_in UX7)
  obtain ⟨lX0, lX1, lX2, lX3, lX4, lX5⟩ := six_cells X7
  have lXz := whole_lt X7
  go_wp2_with fail
  clear lX0 lX1 lX2 lX3 lX4 lX5 lXz
  refine (toData_any _ D1 _ (datIn_below HX.out (below_alloc B7 _)) hx).mono ?_
  rintro e m8 ⟨uy, rfl, UY8, hb⟩
  have B8 : Below w.heap.size w m8 := below_step (below_alloc B7 _) hb
  have s8 : m7.heap.size + 1 ≤ m8.heap.size := by have := hb.size; simpa using this
  have V8 := whole_b hb (whole_alloc (V7) _)
  have X8 := whole_b hb (whole_alloc (X7) _)
  have G8 := whole_b hb (whole_alloc (G7) _)
  have E8 := whole_b hb (whole_alloc (E7) _)
  have UW8 := hostT_b hb (hostT_below (UW7) (below_alloc (Below.refl _ _) _))
  have UD8 := datOf_b hb (datOf_below (UD7) (below_alloc (Below.refl _ _) _))
  have UX8 := hostOf_b hb (hostOf_alloc (UX7) _)
  have S8 := whole_b hb (whole_new m7 _ _)
  clear hb B7 V7 X7 G7 E7 UW7 UD7 UX7
  replace UY8 := datOf_base (lo' := m7.heap.size + 1) UY8 (by simp)
  have RY := Lib.hid (fun k hk => datOf_mine UY8 (g := k) hk)
  obtain ⟨Q1, q1, Q2, q2', Q3, q3, rfl, _⟩ := datIn_form (datOf_in UY8)
  obtain ⟨lS0, lS1, lS2, lS3, lS4⟩ := five_cells S8
  have lSz := whole_lt S8
  go_wp2_with fail
  clear lS0 lS1 lS2 lS3 lS4 lSz
  refine (IP.out _ _ _ (hostOf_in (hostOf_alloc UX8 _)) (datOf_in (datOf_below UY8 (below_alloc (Below.refl _ _) _)))).mono ?_
  rintro e m9 ⟨ug, uh, rfl, UG9, UH9, dG, hb⟩
  have B9 : Below w.heap.size w m9 := below_step (below_alloc B8 _) hb
  have s9 : m8.heap.size + 1 ≤ m9.heap.size := by have := hb.size; simpa using this
  have V9 := whole_b hb (whole_alloc (V8) _)
  have X9 := whole_b hb (whole_alloc (X8) _)
  have G9 := whole_b hb (whole_alloc (G8) _)
  have E9 := whole_b hb (whole_alloc (E8) _)
  have UW9 := hostT_b hb (hostT_below (UW8) (below_alloc (Below.refl _ _) _))
  have UD9 := datOf_b hb (datOf_below (UD8) (below_alloc (Below.refl _ _) _))
  have UX9 := hostOf_b hb (hostOf_alloc (UX8) _)
  have S9 := whole_b hb (whole_alloc (S8) _)
  have UY9 := datOf_b hb (datOf_below (UY8) (below_alloc (Below.refl _ _) _))
  have Y9 := whole_b hb (whole_new m8 _ _)
  clear hb B8 V8 X8 G8 E8 UW8 UD8 UX8 S8 UY8
  replace UG9 := hostT_base (lo' := m8.heap.size + 1) UG9 (by simp)
  replace UH9 := datOf_base (lo' := m8.heap.size + 1) UH9 (by simp)
  have RG := Lib.hid (fun k hk => hostT_mine UG9 (g := k) hk)
  have RH9 := Lib.hid (fun k hk => datOf_mine UH9 (g := k) hk)
  obtain ⟨G1, g1, G2, g2, G3, g3, G4, g4, rfl⟩ := hostIn_form (hostT_in UG9)
  obtain ⟨H1, h1', H2, h2', H3, h3', rfl, _⟩ := datIn_form (datOf_in UH9)
  obtain ⟨lG0, lG1, lG2, lG3, lG4⟩ := five_cells G9
  have lGz := whole_lt G9
  go_wp2_with fail
  clear lG0 lG1 lG2 lG3 lG4 lGz
  refine (eqHost_same _ _ pp.1 _ (hostT_in (hostT_below (hostT_below (UG9) (below_alloc (Below.refl _ _) _)) (below_alloc (Below.refl _ _) _))) (hostT_in (hostT_below (hostT_below (UW9) (below_alloc (Below.refl _ _) _)) (below_alloc (Below.refl _ _) _)))).mono ?_
  rintro e m10 ⟨rfl, hb⟩
  have B10 : Below w.heap.size w m10 := below_step (below_alloc (below_alloc B9 _) _) hb
  have s10 : m9.heap.size + 2 ≤ m10.heap.size := by have := hb.size; simpa using this
  have V10 := whole_b hb (whole_alloc (whole_alloc (V9) _) _)
  have X10 := whole_b hb (whole_alloc (whole_alloc (X9) _) _)
  have G10 := whole_b hb (whole_alloc (whole_alloc (G9) _) _)
  have E10 := whole_b hb (whole_alloc (whole_alloc (E9) _) _)
  have UW10 := hostT_b hb (hostT_below (hostT_below (UW9) (below_alloc (Below.refl _ _) _)) (below_alloc (Below.refl _ _) _))
  have UD10 := datOf_b hb (datOf_below (datOf_below (UD9) (below_alloc (Below.refl _ _) _)) (below_alloc (Below.refl _ _) _))
  have UX10 := hostOf_b hb (hostOf_alloc (hostOf_alloc (UX9) _) _)
  have S10 := whole_b hb (whole_alloc (whole_alloc (S9) _) _)
  have UY10 := datOf_b hb (datOf_below (datOf_below (UY9) (below_alloc (Below.refl _ _) _)) (below_alloc (Below.refl _ _) _))
  have Y10 := whole_b hb (whole_alloc (whole_alloc (Y9) _) _)
  have UG10 := hostT_b hb (hostT_below (hostT_below (UG9) (below_alloc (Below.refl _ _) _)) (below_alloc (Below.refl _ _) _))
  have UH10 := datOf_b hb (datOf_below (datOf_below (UH9) (below_alloc (Below.refl _ _) _)) (below_alloc (Below.refl _ _) _))
  have M10 := whole_b hb (whole_alloc (whole_new m9 _ _) _)
  have N10 := whole_b hb (whole_second m9 _ _ _)
  clear hb B9 V9 X9 G9 E9 UW9 UD9 UX9 S9 UY9 Y9 UG9 UH9
  obtain ⟨lN0, lN1, lN2, lN3, lN4, lN5⟩ := six_cells N10
  have lNz := whole_lt N10
  obtain ⟨lE0, lE1, lE2, lE3, lE4, lE5⟩ := six_cells E10
  have lEz := whole_lt E10
  go_wp2_with fail
  clear lN0 lN1 lN2 lN3 lN4 lN5 lNz lE0 lE1 lE2 lE3 lE4 lE5 lEz
  refine (eqData_same _ _ pp.2.1 _ (datOf_in UH10) (datOf_in UD10)).mono ?_
  rintro e m11 ⟨rfl, hb⟩
  have B11 : Below w.heap.size w m11 := below_step B10 hb
  have s11 : m10.heap.size ≤ m11.heap.size := hb.size
  have V11 := whole_b hb (V10)
  have X11 := whole_b hb (X10)
  have G11 := whole_b hb (G10)
  have E11 := whole_b hb (E10)
  have UW11 := hostT_b hb (UW10)
  have UD11 := datOf_b hb (UD10)
  have UX11 := hostOf_b hb (UX10)
  have S11 := whole_b hb (S10)
  have UY11 := datOf_b hb (UY10)
  have Y11 := whole_b hb (Y10)
  have UG11 := hostT_b hb (UG10)
  have UH11 := datOf_b hb (UH10)
  have M11 := whole_b hb (M10)
  have N11 := whole_b hb (N10)
  clear hb B10 V10 X10 G10 E10 UW10 UD10 UX10 S10 UY10 Y10 UG10 UH10 M10 N10
  go_wp2_with fail
  go_region_held3 (fun w' => (w'.cell? ⟨w.heap.size, 0, none⟩ = some (.slice A1 D0.g.length k1) ∧ w'.cell? ⟨w.heap.size, 1, none⟩ = some (.slice A2 D0.s.length k2) ∧ w'.cell? ⟨w.heap.size, 2, none⟩ = some (.slice A3 D0.n.length k3) ∧ w'.cell? ⟨w.heap.size, 3, none⟩ = some (.int .i64 D0.c) ∧ w'.cell? ⟨w.heap.size, 4, none⟩ = some (.slice A4 D0.d.length k4)) ∧ (w'.cell? ⟨m7.heap.size, 0, none⟩ = some (.slice P1 D0.g.length i1) ∧ w'.cell? ⟨m7.heap.size, 1, none⟩ = some (.slice P2 D0.s.length i2) ∧ w'.cell? ⟨m7.heap.size, 2, none⟩ = some (.slice P3 D0.n.length i3) ∧ w'.cell? ⟨m7.heap.size, 3, none⟩ = some (.int .i64 D0.c) ∧ w'.cell? ⟨m7.heap.size, 4, none⟩ = some (.slice P4 D0.d.length i4))) (exact ⟨five_cells (by assumption), five_cells (by assumption)⟩)
    (first
      | (go_at_call 9; refine (toHost_any _ D0 _ (hostIn_below HH.out (by first | exact B11 | exact B11.drew)) hs).mono ?_; rintro e m12 ⟨ut, rfl, UT12, hb⟩; have V12 := whole_b hb (V11); have X12 := whole_b hb (X11); have G12 := whole_b hb (G11); have E12 := whole_b hb (E11); have UW12 := hostT_b hb (UW11); have UD12 := datOf_b hb (UD11); have UX12 := hostOf_b hb (UX11); have S12 := whole_b hb (S11); have UY12 := datOf_b hb (UY11); have Y12 := whole_b hb (Y11); have UG12 := hostT_b hb (UG11); have UH12 := datOf_b hb (UH11); have M12 := whole_b hb (M11); have N12 := whole_b hb (N11); have B12 : Below w.heap.size w m12 := (by first | exact below_b hb B11.drew | exact below_b hb B11); have s12 : m11.heap.size ≤ m12.heap.size := hb.size; clear hb)
      | (go_at_call 12; refine (eqHost_same _ _ D0 _ (hostOf_in (by exact UX12)) (hostOf_in (by exact UT12))).mono ?_; rintro e m13 ⟨rfl, hb⟩; have V13 := whole_b hb (V12); have X13 := whole_b hb (X12); have G13 := whole_b hb (G12); have E13 := whole_b hb (E12); have UW13 := hostT_b hb (UW12); have UD13 := datOf_b hb (UD12); have UX13 := hostOf_b hb (UX12); have S13 := whole_b hb (S12); have UY13 := datOf_b hb (UY12); have Y13 := whole_b hb (Y12); have UG13 := hostT_b hb (UG12); have UH13 := datOf_b hb (UH12); have M13 := whole_b hb (M12); have N13 := whole_b hb (N12); have B13 : Below w.heap.size w m13 := (by first | exact below_b hb B12 | exact below_b hb B12.drew); have s13 : m12.heap.size ≤ m13.heap.size := hb.size; clear hb))
  clear UT12 B11 B12 V11 V12 X11 X12 G11 G12 E11 E12 UW11 UW12 UD11 UD12 UX11 UX12 S11 S12 UY11 UY12 Y11 Y12 UG11 UG12 UH11 UH12 M11 M12 N11 N12
  go_wp2_with fail
  go_region_held3 (fun w' => (w'.cell? ⟨w.heap.size + 1, 0, none⟩ = some (.slice E1 D1.s.length j1) ∧ w'.cell? ⟨w.heap.size + 1, 1, none⟩ = some (.slice E2 D1.b.length j2) ∧ w'.cell? ⟨w.heap.size + 1, 2, none⟩ = some (.slice E3 D1.c.length j3) ∧ w'.cell? ⟨w.heap.size + 1, 3, none⟩ = some (.int .i64 D1.h) ∧ w'.cell? ⟨w.heap.size + 1, 4, none⟩ = some (.int .i64 D1.n) ∧ w'.cell? ⟨w.heap.size + 1, 5, none⟩ = some (.string D1.o)) ∧ (w'.cell? ⟨m8.heap.size, 0, none⟩ = some (.slice Q1 D1.s.length q1) ∧ w'.cell? ⟨m8.heap.size, 1, none⟩ = some (.slice Q2 D1.b.length q2') ∧ w'.cell? ⟨m8.heap.size, 2, none⟩ = some (.slice Q3 D1.c.length q3) ∧ w'.cell? ⟨m8.heap.size, 3, none⟩ = some (.int .i64 D1.h) ∧ w'.cell? ⟨m8.heap.size, 4, none⟩ = some (.int .i64 D1.n) ∧ w'.cell? ⟨m8.heap.size, 5, none⟩ = some (.string D1.o))) (exact ⟨six_cells (by assumption), six_cells (by assumption)⟩)
    (first
      | (go_at_call 10; refine (toData_any _ D1 _ (datIn_below HX.out (by first | exact B13 | exact B13.drew)) hx).mono ?_; rintro e m14 ⟨ut, rfl, UT14, hb⟩; have V14 := whole_b hb (V13); have X14 := whole_b hb (X13); have G14 := whole_b hb (G13); have E14 := whole_b hb (E13); have UW14 := hostT_b hb (UW13); have UD14 := datOf_b hb (UD13); have UX14 := hostOf_b hb (UX13); have S14 := whole_b hb (S13); have UY14 := datOf_b hb (UY13); have Y14 := whole_b hb (Y13); have UG14 := hostT_b hb (UG13); have UH14 := datOf_b hb (UH13); have M14 := whole_b hb (M13); have N14 := whole_b hb (N13); have B14 : Below w.heap.size w m14 := (by first | exact below_b hb B13.drew | exact below_b hb B13); have s14 : m13.heap.size ≤ m14.heap.size := hb.size; clear hb)
      | (go_at_call 13; refine (eqData_same _ _ D1 _ (datOf_in (by exact UY14)) (datOf_in (by exact UT14))).mono ?_; rintro e m15 ⟨rfl, hb⟩; have V15 := whole_b hb (V14); have X15 := whole_b hb (X14); have G15 := whole_b hb (G14); have E15 := whole_b hb (E14); have UW15 := hostT_b hb (UW14); have UD15 := datOf_b hb (UD14); have UX15 := hostOf_b hb (UX14); have S15 := whole_b hb (S14); have UY15 := datOf_b hb (UY14); have Y15 := whole_b hb (Y14); have UG15 := hostT_b hb (UG14); have UH15 := datOf_b hb (UH14); have M15 := whole_b hb (M14); have N15 := whole_b hb (N14); have B15 : Below w.heap.size w m15 := (by first | exact below_b hb B14 | exact below_b hb B14.drew); have s15 : m14.heap.size ≤ m15.heap.size := hb.size; clear hb))
  clear UT14 B13 B14 V13 V14 X13 X14 G13 G14 E13 E14 UW13 UW14 UD13 UD14 UX13 UX14 S13 S14 UY13 UY14 Y13 Y14 UG13 UG14 UH13 UH14 M13 M14 N13 N14
  obtain ⟨lS0, lS1, lS2, lS3, lS4⟩ := five_cells S15
  have lSz := whole_lt S15
  go_wp2_with fail
  clear lS0 lS1 lS2 lS3 lS4 lSz
  refine (markHostT_any _ D0 _ 1 _ (hostT_of UX15) hs (by omega)).mono ?_
  rintro e m16 ⟨rfl, -, hn⟩
  have B16 : Below w.heap.size w m16 := B15.trans (only_below hn B15.size (fun k q => by have a := RX.out k q; omega))
  have s16 : m15.heap.size ≤ m16.heap.size := hn.size
  have V16 := whole_only V15 hn (fun q => by have a := RX.out _ q; omega)
  have X16 := whole_only X15 hn (fun q => by have a := RX.out _ q; omega)
  have G16 := whole_only G15 hn (fun q => by have a := RX.out _ q; omega)
  have E16 := whole_only E15 hn (fun q => by have a := RX.out _ q; omega)
  have UW16 := hostT_only UW15 hn (fun k hk q => by have a := RW.out k hk; have b := RX.out k q; omega)
  have UD16 := datOf_only UD15 hn (fun k hk q => by have a := RD.out k hk; have b := RX.out k q; omega)
  have S16 := whole_only S15 hn (fun q => by have a := RX.out _ q; omega)
  have UY16 := datOf_only UY15 hn (fun k hk q => by have a := RY.out k hk; have b := RX.out k q; omega)
  have Y16 := whole_only Y15 hn (fun q => by have a := RX.out _ q; omega)
  have UG16 := hostT_only UG15 hn (fun k hk q => by have a := RG.out k hk; have b := RX.out k q; omega)
  have UH16 := datOf_only UH15 hn (fun k hk q => by have a := RH9.out k hk; have b := RX.out k q; omega)
  have M16 := whole_only M15 hn (fun q => by have a := RX.out _ q; omega)
  have N16 := whole_only N15 hn (fun q => by have a := RX.out _ q; omega)
  clear hn B15 V15 X15 G15 E15 UW15 UD15 UX15 S15 UY15 Y15 UG15 UH15 M15 N15
  clear S16
  obtain ⟨lY0, lY1, lY2, lY3, lY4, lY5⟩ := six_cells Y16
  have lYz := whole_lt Y16
  go_wp2_with fail
  clear lY0 lY1 lY2 lY3 lY4 lY5 lYz
  refine (markData_only _ D1 _ _ (1 + numH D0) _ UY16 hx (by unfold numH; obtain ⟨z1, z2, z3, z4⟩ := hs; omega) (by omega)).mono ?_
  rintro e m17 ⟨rfl, -, hn⟩
  have B17 : Below w.heap.size w m17 := B16.trans (only_below hn B16.size (fun k q => by have a := RY.out k q; omega))
  have s17 : m16.heap.size ≤ m17.heap.size := hn.size
  have V17 := whole_only V16 hn (fun q => by have a := RY.out _ q; omega)
  have X17 := whole_only X16 hn (fun q => by have a := RY.out _ q; omega)
  have G17 := whole_only G16 hn (fun q => by have a := RY.out _ q; omega)
  have E17 := whole_only E16 hn (fun q => by have a := RY.out _ q; omega)
  have UW17 := hostT_only UW16 hn (fun k hk q => by have a := RW.out k hk; have b := RY.out k q; omega)
  have UD17 := datOf_only UD16 hn (fun k hk q => by have a := RD.out k hk; have b := RY.out k q; omega)
  have Y17 := whole_only Y16 hn (fun q => by have a := RY.out _ q; omega)
  have UG17 := hostT_only UG16 hn (fun k hk q => by have a := RG.out k hk; have b := RY.out k q; omega)
  have UH17 := datOf_only UH16 hn (fun k hk q => by have a := RH9.out k hk; have b := RY.out k q; omega)
  have M17 := whole_only M16 hn (fun q => by have a := RY.out _ q; omega)
  have N17 := whole_only N16 hn (fun q => by have a := RY.out _ q; omega)
  clear hn B16 V16 X16 G16 E16 UW16 UD16 UY16 Y16 UG16 UH16 M16 N16
  clear Y17
  have kp : (0 : Int) ≤ ((1 + numH D0 + numD D1 : Nat) : Int) := by omega
  obtain ⟨lM0, lM1, lM2, lM3, lM4⟩ := five_cells M17
  have lMz := whole_lt M17
  obtain ⟨lG0, lG1, lG2, lG3, lG4⟩ := five_cells G17
  have lGz := whole_lt G17
  go_wp2_with fail
  clear lM0 lM1 lM2 lM3 lM4 lMz lG0 lG1 lG2 lG3 lG4 lGz
  refine (eqHost_same _ _ pp.1 _ (hostT_in UG17) (hostT_in UW17)).mono ?_
  rintro e m18 ⟨rfl, hb⟩
  have B18 : Below w.heap.size w m18 := below_step B17 hb
  have s18 : m17.heap.size ≤ m18.heap.size := hb.size
  have V18 := whole_b hb (V17)
  have X18 := whole_b hb (X17)
  have G18 := whole_b hb (G17)
  have E18 := whole_b hb (E17)
  have UW18 := hostT_b hb (UW17)
  have UD18 := datOf_b hb (UD17)
  have UG18 := hostT_b hb (UG17)
  have UH18 := datOf_b hb (UH17)
  have M18 := whole_b hb (M17)
  have N18 := whole_b hb (N17)
  clear hb B17 V17 X17 G17 E17 UW17 UD17 UG17 UH17 M17 N17
  obtain ⟨lN0, lN1, lN2, lN3, lN4, lN5⟩ := six_cells N18
  have lNz := whole_lt N18
  obtain ⟨lE0, lE1, lE2, lE3, lE4, lE5⟩ := six_cells E18
  have lEz := whole_lt E18
  go_wp2_with fail
  clear lN0 lN1 lN2 lN3 lN4 lN5 lNz lE0 lE1 lE2 lE3 lE4 lE5 lEz
  refine (eqData_same _ _ pp.2.1 _ (datOf_in UH18) (datOf_in UD18)).mono ?_
  rintro e m19 ⟨rfl, hb⟩
  have B19 : Below w.heap.size w m19 := below_step B18 hb
  have s19 : m18.heap.size ≤ m19.heap.size := hb.size
  have V19 := whole_b hb (V18)
  have X19 := whole_b hb (X18)
  have G19 := whole_b hb (G18)
  have E19 := whole_b hb (E18)
  have UW19 := hostT_b hb (UW18)
  have UD19 := datOf_b hb (UD18)
  have UG19 := hostT_b hb (UG18)
  have UH19 := datOf_b hb (UH18)
  have M19 := whole_b hb (M18)
  have N19 := whole_b hb (N18)
  clear hb B18 V18 X18 G18 E18 UW18 UD18 UG18 UH18 M18 N18
  obtain ⟨lM0, lM1, lM2, lM3, lM4⟩ := five_cells M19
  have lMz := whole_lt M19
  go_wp2_with fail
  clear lM0 lM1 lM2 lM3 lM4 lMz
  refine (markHostT_any _ pp.1 _ 1 _ UG19 ZH (by omega)).mono ?_
  rintro e m20 ⟨rfl, hm, hn⟩
  have B20 : Below w.heap.size w m20 := B19.trans (only_below hn B19.size (fun k q => by have a := RG.out k q; omega))
  have s20 : m19.heap.size ≤ m20.heap.size := hn.size
  have V20 := whole_only V19 hn (fun q => by have a := RG.out _ q; omega)
  have X20 := whole_only X19 hn (fun q => by have a := RG.out _ q; omega)
  have G20 := whole_only G19 hn (fun q => by have a := RG.out _ q; omega)
  have E20 := whole_only E19 hn (fun q => by have a := RG.out _ q; omega)
  have UW20 := hostT_only UW19 hn (fun k hk q => by have a := RW.out k hk; have b := RG.out k q; omega)
  have UD20 := datOf_only UD19 hn (fun k hk q => by have a := RD.out k hk; have b := RG.out k q; omega)
  have UH20 := datOf_only UH19 hn (fun k hk q => dG k q hk)
  have M20 := whole_only M19 hn (fun q => by have a := RG.out _ q; omega)
  have N20 := whole_only N19 hn (fun q => by have a := RG.out _ q; omega)
  clear hn B19 V19 X19 G19 E19 UW19 UD19 UG19 UH19 M19 N19
  have UG20 := hm
  clear hm
  obtain ⟨lN0, lN1, lN2, lN3, lN4, lN5⟩ := six_cells N20
  have lNz := whole_lt N20
  go_wp2_with fail
  clear lN0 lN1 lN2 lN3 lN4 lN5 lNz
  refine (markData_only _ pp.2.1 _ _ (1 + numH pp.1) _ UH20 ZX (by unfold numH; obtain ⟨z1, z2, z3, z4⟩ := ZH; omega) (by omega)).mono ?_
  rintro e m21 ⟨rfl, hm, hn⟩
  have B21 : Below w.heap.size w m21 := B20.trans (only_below hn B20.size (fun k q => by have a := RH9.out k q; omega))
  have s21 : m20.heap.size ≤ m21.heap.size := hn.size
  have V21 := whole_only V20 hn (fun q => by have a := RH9.out _ q; omega)
  have X21 := whole_only X20 hn (fun q => by have a := RH9.out _ q; omega)
  have G21 := whole_only G20 hn (fun q => by have a := RH9.out _ q; omega)
  have E21 := whole_only E20 hn (fun q => by have a := RH9.out _ q; omega)
  have UW21 := hostT_only UW20 hn (fun k hk q => by have a := RW.out k hk; have b := RH9.out k q; omega)
  have UD21 := datOf_only UD20 hn (fun k hk q => by have a := RD.out k hk; have b := RH9.out k q; omega)
  have UG21 := hostT_only UG20 hn (fun k hk q => dG k hk q)
  have M21 := whole_only M20 hn (fun q => by have a := RH9.out _ q; omega)
  have N21 := whole_only N20 hn (fun q => by have a := RH9.out _ q; omega)
  clear hn B20 V20 X20 G20 E20 UW20 UD20 UG20 UH20 M20 N20
  have UH21 := hm
  clear hm
  have kq : (0 : Int) ≤ ((1 + numH pp.1 : Nat) : Int) := by omega
  have kr : (0 : Int) ≤ ((1 + numH pp.1 + numD pp.2.1 : Nat) : Int) := by omega
  have ks : (((1 + numH pp.1 + numD pp.2.1 : Nat) : Int) != ((1 + numH pp.1 + numD pp.2.1 : Nat) : Int)) = false := by simp
  obtain ⟨lM0, lM1, lM2, lM3, lM4⟩ := five_cells M21
  have lMz := whole_lt M21
  go_wp2_with fail
  clear lM0 lM1 lM2 lM3 lM4 lMz
  refine (heldHost_any _ pp.1 1 _ (hostT_in UG21) ZH (by omega)).mono ?_
  rintro e m22 ⟨rfl, hb⟩
  have B22 : Below w.heap.size w m22 := below_step B21 hb
  have s22 : m21.heap.size ≤ m22.heap.size := hb.size
  have V22 := whole_b hb (V21)
  have X22 := whole_b hb (X21)
  have G22 := whole_b hb (G21)
  have E22 := whole_b hb (E21)
  have UW22 := hostT_b hb (UW21)
  have UD22 := datOf_b hb (UD21)
  have UG22 := hostT_b hb (UG21)
  have UH22 := datOf_b hb (UH21)
  have M22 := whole_b hb (M21)
  have N22 := whole_b hb (N21)
  clear hb B21 V21 X21 G21 E21 UW21 UD21 UG21 UH21 M21 N21
  obtain ⟨lN0, lN1, lN2, lN3, lN4, lN5⟩ := six_cells N22
  have lNz := whole_lt N22
  go_wp2_with fail
  clear lN0 lN1 lN2 lN3 lN4 lN5 lNz
  refine (heldData_wide _ pp.2.1 (1 + numH pp.1) _ (datOf_in UH22) ZX (by unfold numH; obtain ⟨z1, z2, z3, z4⟩ := ZH; omega)).mono ?_
  rintro e m23 ⟨rfl, hb⟩
  have B23 : Below w.heap.size w m23 := below_step B22 hb
  have s23 : m22.heap.size ≤ m23.heap.size := hb.size
  have V23 := whole_b hb (V22)
  have X23 := whole_b hb (X22)
  have G23 := whole_b hb (G22)
  have E23 := whole_b hb (E22)
  have UW23 := hostT_b hb (UW22)
  have UD23 := datOf_b hb (UD22)
  have UG23 := hostT_b hb (UG22)
  have UH23 := datOf_b hb (UH22)
  have M23 := whole_b hb (M22)
  have N23 := whole_b hb (N22)
  clear hb B22 V22 X22 G22 E22 UW22 UD22 UG22 UH22 M22 N22
  go_wp2_with fail
  have HG := Lib.hid G23
  have HE := Lib.hid E23
  have HUW := Lib.hid UW23
  have HUD := Lib.hid UD23
  have HUG := Lib.hid UG23
  have HUH := Lib.hid UH23
  have HM := Lib.hid M23
  have HN := Lib.hid N23
  clear RW RD RX RY RG RH9 dW zl zG zE lG lE s7 s8 s9 s10 s11 s12 s13 s14 s15 s16 s17 s18 s19 s20 s21 s22 s23
  have Vm23 := V23
  have Xm23 := X23
  have Bm23 := B23
  clear B23 V23 X23 G23 E23 UW23 UD23 UG23 UH23 M23 N23
  have KQ := Lib.hid Vm23
  have KV := Lib.hid Xm23
  have KB := Lib.hid Bm23
  have zq := whole_lt Vm23
  have zv := whole_lt Xm23
  clear Vm23 Xm23 Bm23
  refine hcRegI_any D0 D1 a2 pp _ _ _ _ _ _ _ _ _ _ _ _ _ _ _ _ m23 hs hx KQ.out KV.out (Lib.hid (hostIn_below HH.out KB.out)) (Lib.hid (datIn_below HX.out KB.out)) IP _ _ _ _ _ _ _ _ _ _ _ _ _ _ _ _ _ _ _ _ _ _ _ _ _ _ _ _ _ _ _ _ _ _ _ _ _ _ _ _ _ _ _ _ _ _ _ _ _ _ _ _ _ _ _ _ _ _ _ _ _ _ _ _ _ _ _ _ _ _ _ _ _ _ _ _ _ _ _ _ _ _ _ _ _ _ _ _ _ _ _ _ _ _ _ _ _ _ _ _ _ _ _ _ _ _ _ _ _ _ _ _ _ _ _ _ _ _ _ _ _ _ _ _ _ _ _ _ _ _ _ _ _ _ _ _ _ _ _ _ _ _ _ _ _ _ _ _ _ _ _ _ _ _ _ _ _ _ _ _ _ _ _ _ _ _ _ _ _ _ _ _ _ _ _ _ _ _ _ _ _ ?_
  rintro u21 u22 u23 u24 u138 u139 u140 u141 u142 u143 u144 u145 u146 u147 u148 wc hcut
  obtain ⟨I, J, U1, a1', U2, a2', U3, a3', U4, a4', T1, b1', T2, b2', T3, b3', rfl, rfl, rfl, rfl, I60, J60, UI60, UJ60, -, lI, lJ, hB⟩ := hcut
  have zm : w.heap.size ≤ m23.heap.size := KB.out.size
  have B60 : Below w.heap.size w _ := below_step KB.out hB
  have G60 := whole_below HG.out hB
  have E60 := whole_below HE.out hB
  have UW60 := hostT_below HUW.out hB
  have UD60 := datOf_below HUD.out hB
  have UG60 := hostT_below HUG.out hB
  have UH60 := datOf_below HUH.out hB
  have M60 := whole_below HM.out hB
  have N60 := whole_below HN.out hB
  clear hB KQ KV KB
  rename World => m60
  obtain ⟨lI0, lI1, lI2, lI3, lI4⟩ := five_cells I60
  have lIz := whole_lt I60
  obtain ⟨lG0, lG1, lG2, lG3, lG4⟩ := five_cells G60
  have lGz := whole_lt G60
  go_wp2_with fail
  clear lI0 lI1 lI2 lI3 lI4 lIz lG0 lG1 lG2 lG3 lG4 lGz
  refine (eqHost_same _ _ pp.1 _ (hostT_in UI60) (hostT_in UW60)).mono ?_
  rintro e m61 ⟨rfl, hb⟩
  have B61 : Below w.heap.size w m61 := below_step B60 hb
  have s61 : m60.heap.size ≤ m61.heap.size := hb.size
  have G61 := whole_b hb (G60)
  have E61 := whole_b hb (E60)
  have UW61 := hostT_b hb (UW60)
  have UD61 := datOf_b hb (UD60)
  have UG61 := hostT_b hb (UG60)
  have UH61 := datOf_b hb (UH60)
  have M61 := whole_b hb (M60)
  have N61 := whole_b hb (N60)
  have I61 := whole_b hb (I60)
  have J61 := whole_b hb (J60)
  have UI61 := hostT_b hb (UI60)
  have UJ61 := datOf_b hb (UJ60)
  clear hb B60 G60 E60 UW60 UD60 UG60 UH60 M60 N60 I60 J60 UI60 UJ60
  obtain ⟨lJ0, lJ1, lJ2, lJ3, lJ4, lJ5⟩ := six_cells J61
  have lJz := whole_lt J61
  obtain ⟨lE0, lE1, lE2, lE3, lE4, lE5⟩ := six_cells E61
  have lEz := whole_lt E61
  go_wp2_with fail
  clear lJ0 lJ1 lJ2 lJ3 lJ4 lJ5 lJz lE0 lE1 lE2 lE3 lE4 lE5 lEz
  refine (eqData_same _ _ pp.2.1 _ (datOf_in UJ61) (datOf_in UD61)).mono ?_
  rintro e m62 ⟨rfl, hb⟩
  have B62 : Below w.heap.size w m62 := below_step B61 hb
  have s62 : m61.heap.size ≤ m62.heap.size := hb.size
  have G62 := whole_b hb (G61)
  have E62 := whole_b hb (E61)
  have UW62 := hostT_b hb (UW61)
  have UD62 := datOf_b hb (UD61)
  have UG62 := hostT_b hb (UG61)
  have UH62 := datOf_b hb (UH61)
  have M62 := whole_b hb (M61)
  have N62 := whole_b hb (N61)
  have I62 := whole_b hb (I61)
  have J62 := whole_b hb (J61)
  have UI62 := hostT_b hb (UI61)
  have UJ62 := datOf_b hb (UJ61)
  clear hb B61 G61 E61 UW61 UD61 UG61 UH61 M61 N61 I61 J61 UI61 UJ61
  obtain ⟨lM0, lM1, lM2, lM3, lM4⟩ := five_cells M62
  have lMz := whole_lt M62
  go_wp2_with fail
  clear lM0 lM1 lM2 lM3 lM4 lMz
  refine (heldHost_any _ pp.1 1 _ (hostT_in UG62) ZH (by omega)).mono ?_
  rintro e m63 ⟨rfl, hb⟩
  have B63 : Below w.heap.size w m63 := below_step B62 hb
  have s63 : m62.heap.size ≤ m63.heap.size := hb.size
  have G63 := whole_b hb (G62)
  have E63 := whole_b hb (E62)
  have UW63 := hostT_b hb (UW62)
  have UD63 := datOf_b hb (UD62)
  have UG63 := hostT_b hb (UG62)
  have UH63 := datOf_b hb (UH62)
  have M63 := whole_b hb (M62)
  have N63 := whole_b hb (N62)
  have I63 := whole_b hb (I62)
  have J63 := whole_b hb (J62)
  have UI63 := hostT_b hb (UI62)
  have UJ63 := datOf_b hb (UJ62)
  clear hb B62 G62 E62 UW62 UD62 UG62 UH62 M62 N62 I62 J62 UI62 UJ62
  obtain ⟨lN0, lN1, lN2, lN3, lN4, lN5⟩ := six_cells N63
  have lNz := whole_lt N63
  go_wp2_with fail
  clear lN0 lN1 lN2 lN3 lN4 lN5 lNz
  refine (heldData_wide _ pp.2.1 (1 + numH pp.1) _ (datOf_in UH63) ZX (by unfold numH; obtain ⟨z1, z2, z3, z4⟩ := ZH; omega)).mono ?_
  rintro e m64 ⟨rfl, hb⟩
  have B64 : Below w.heap.size w m64 := below_step B63 hb
  have s64 : m63.heap.size ≤ m64.heap.size := hb.size
  have G64 := whole_b hb (G63)
  have E64 := whole_b hb (E63)
  have UW64 := hostT_b hb (UW63)
  have UD64 := datOf_b hb (UD63)
  have UG64 := hostT_b hb (UG63)
  have UH64 := datOf_b hb (UH63)
  have M64 := whole_b hb (M63)
  have N64 := whole_b hb (N63)
  have I64 := whole_b hb (I63)
  have J64 := whole_b hb (J63)
  have UI64 := hostT_b hb (UI63)
  have UJ64 := datOf_b hb (UJ63)
  clear hb B63 G63 E63 UW63 UD63 UG63 UH63 M63 N63 I63 J63 UI63 UJ63
  go_wp2
  go_ret
  exact ⟨rfl, B64⟩

set_option maxRecDepth 100000 in
theorem lifted (os : Os) (started : os.Started) (H : Type) (enc : TypeId × Value → H) :
    ReturnsInHanded {} Try.checked os 3 .any (Rows.fnExactHostCallSpec.pre6 enc Try.prog Try.f3 Rows.fnExactHostCallRow.domain false) (Rows.fnExactHostCallSpec.post enc Try.prog Try.f3 false true false false) := by
  refine returnsInHanded_of_change (C := Try.checked) own started (by kernel_rfl) Try.func3
    (ChangeSpec.witness6 (enc := enc) (C := Try.checked) false ⟨#[], #[.agg #[.slice none 0 0, .slice none 0 0, .slice none 0 0, .int .i64 0, .slice none 0 0], .agg #[.slice none 0 0, .slice none 0 0, .slice none 0 0, .int .i64 0, .int .i64 0, .string ByteArray.empty], .int .i64 0], []⟩ 8 (by kernel_rfl) (by kernel_rfl) (by kernel_rfl) (by kernel_rfl)) ?_
  intro W base args ds gs before hval0 hW hcnd _
  have hval : ∀ (j : Nat) t v, Try.f3.params[j]? = some t → args[j]? = some v → Value.okWide Try.prog W .any base t v := hval0
  have hW' := hW
  obtain ⟨p, q, hA0, hV, rfl, hfz, hnd⟩ := hW
  have hA : DataW.TrodAll enc Try.prog W 0 (fun _ => true) true Try.f3.params.toList args.toList ds p := hA0
  rw [Try.params3] at hA hval
  obtain ⟨v0, vs0, d0, ds0, p0, q0, hargs, rfl, rfl, h0, r0⟩ := trodAll_cons hA
  obtain ⟨v1, vs1, d1, ds1, p1, q1, rfl, rfl, rfl, h1, r1⟩ := trodAll_cons r0
  obtain ⟨v2, vs2, d2, ds2, p2, q2, rfl, rfl, rfl, h2, r2⟩ := trodAll_cons r1
  obtain ⟨rfl, rfl, rfl⟩ := trodAll_nil r2
  obtain rfl : args = #[v0, v1, v2] := by cases args; simp_all
  obtain ⟨rfl, rfl⟩ := trodVars_none hV
  have k0 := h0
  have lt0 : ∀ x ∈ p0, x.block < W.heap.size := by obtain ⟨m, hm⟩ := k0; exact DataW.trod_lt m _ _ _ hm
  obtain ⟨D0, w0⟩ := open_host (hval 0 26 v0 rfl rfl) h0
  have k1 := h1
  have lt1 : ∀ x ∈ p1, x.block < W.heap.size := by obtain ⟨m, hm⟩ := k1; exact DataW.trod_lt m _ _ _ hm
  obtain ⟨D1, w1⟩ := open_data (hval 1 28 v1 rfl rfl) h1
  obtain ⟨a2, rfl, rfl, rfl, w2⟩ := open_int Try.underlying3 (hval 2 3 v2 rfl rfl) h2
  clear hA0 hval0
  refine (walk v0 D0 v1 D1 a2 W w0 w1 w2).mono fun e W' ⟨he, bel⟩ => ?_
  subst he
  exact ⟨_, rfl, _, _, _, [], _, [], hW', trodAll_mk1 (shut_bool Try.underlying4 _), (trodAll_cons_mk (Below.trod laidOut (by kernel_rfl) (of_decide_eq_true (by kernel_rfl)) k0 bel lt0) (trodAll_cons_mk (Below.trod laidOut (by kernel_rfl) (of_decide_eq_true (by kernel_rfl)) k1 bel lt1) (trodAll_cons_mk (shut_int Try.underlying3 w2) trodAll_mk0))), rfl, bel.frame _, fun h => by cases h⟩

theorem over : Rows.fnExactHostCallRow.holds Try.pinned (OpenSpec.ofChange Rows.fnExactHostCallSpec) :=
  OpenClaim.holds_of_wide 3 Try.f3 rfl rfl rfl rfl rfl rfl rfl ⟨rfl, rfl, rfl, rfl, rfl⟩ rfl rfl rfl rfl rfl (by kernel_rfl) Try.func3 (by kernel_rfl)
    (of_decide_eq_true (by kernel_rfl)) (by unfold Func.isWrapper; first | (rw [if_pos (by decide +kernel)]; kernel_rfl) | (rw [if_neg (by decide +kernel)]; exact ⟨rfl, rfl⟩))
    (fun os started H enc _ => lifted os started H enc)

/-- The statement. -/
theorem proved : Rows.FnExactHostCallSaid := over
#print axioms proved
end Go.Proofs.Ytjlfbmplmddceaa.fnExactHostCall
