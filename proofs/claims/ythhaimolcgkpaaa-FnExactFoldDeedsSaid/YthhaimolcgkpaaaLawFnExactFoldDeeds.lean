/- laws.FnExactFoldDeeds returns true at every store and every deeds: impl.FoldDeeds and spec.FoldDeeds give the same store and code; impl writes into no argument, and what it hands back owns its memory. No condition. -/
import Derived.Test.YthhaimolcgkpaaaRows
import Derived.Test.YthhaimolcgkpaaaHoL
import Derived.Test.YthhaimolcgkpaaaHiG
import Derived.Deep.RegionHeld3
import Derived.WalkKit
import Derived.ProofKit
import Derived.OpenShut
import Derived.ShutString
import Derived.ChangeOld
import Derived.Below
namespace Go.Proofs.Ythhaimolcgkpaaa.fnExactFoldDeeds
open Go.ChangeShapes Go.WideShapes Go.ChangeAt Go.RowKit
open Go.ChangeMaps (open_string shut_string)
set_option linter.unusedSimpArgs false
set_option linter.unusedVariables false

theorem own : ownKnob Try.prog.godebug = none := by kernel_rfl
theorem laidOut : laidOutB Try.prog = true := by kernel_rfl

set_option maxRecDepth 100000 in
set_option maxHeartbeats 2000000 in
theorem walk (v0 : Value) (D0 : List Int) (v1 : Value) (D1 : List Dd) (w : World) (w0 : Ints w v0 D0) (w1 : Dds w v1 D1) :
    Calls Try.prog 9 #[v0, v1] w fun e w' => e = .returned (.bool true) ∧ Below w.heap.size w w' := by
  have HI := Lib.hid w0
  have HD := Lib.hid w1
  obtain ⟨l0, A0, c0, rfl, _⟩ := w0
  obtain ⟨l1, A1, c1, rfl, _⟩ := w1
  have l0' := l0
  have l1' := l1
  unfold maxLen at l0 l1
  by_cases hbig : 1048576 < D0.length
  · have t0 : (1048576 : Int) < D0.length := by omega
    clear hbig
    go_enter Try.func9, Try.ntmps9
    go_wp2
    go_ret
    exact ⟨rfl, Below.refl _ _⟩
  have t0 : ¬ (1048576 : Int) < D0.length := by omega
  by_cases hbig1 : 1048576 < D1.length
  · have EL := Lib.hid (show leftOf 1048576 D1.length = -1 by unfold leftOf; rw [if_pos (by omega)])
    clear hbig hbig1
    go_enter Try.func9, Try.ntmps9
    go_wp2_with (go_at_call 36; refine (szDeeds_any _ _ _ _ _ l1' (by omega) (by omega)).mono ?_; rintro e w' ⟨rfl, rfl⟩; rw [EL.out])
    go_ret
    exact ⟨rfl, Below.refl _ _⟩
  have RS := hFold_small (S := D0) D1 (by omega)
  have SP : Hid (∀ u v W, Ints W u D0 → Dds W v D1 → Calls Try.prog 37 #[u, v] W (RowResOf W (hFold D0 D1))) := Lib.hid fun u v W h k => sFold_any u v D0 D1 W h k
  have IP : Hid (∀ u v W, Ints W u D0 → Dds W v D1 → Calls Try.prog 40 #[u, v] W (RowResOf W (hFold D0 D1))) := Lib.hid fun u v W h k => iFold_any u v D0 D1 W h k
  generalize hFold D0 D1 = pp at *
  obtain ⟨r, n0⟩ := pp
  simp only at *
  have tn0 : (n0 != n0) = false := by simp
  obtain ⟨lf, hlf⟩ : ∃ lf, leftOf 1048576 D1.length = lf := ⟨_, rfl⟩
  have EL := Lib.hid hlf
  have lf0 : ¬ lf < 0 := by rw [← hlf]; unfold leftOf; rw [if_neg (by omega)]; omega
  clear hlf
  go_enter Try.func9, Try.ntmps9
  go_wp2_with (first | (go_at_call 36; refine (szDeeds_any _ _ _ _ _ l1' (by omega) (by omega)).mono ?_; rintro e w' ⟨rfl, rfl⟩; rw [EL.out]) | (go_at_call 38; fail))
  refine (toInts_any _ D0 _ (ints_below HI.out (Below.refl _ _)) (by omega)).mono ?_
  rintro e m1 ⟨vP, rfl, hr, -, hb⟩
  have B1 : Hid (Below w.heap.size w m1) := Lib.hid (below_step (Below.refl _ _) hb)
  have s1 : w.heap.size ≤ m1.heap.size := hb.size
  clear hb
  have P1 := Lib.hid hr
  have LP : Hid (∀ g, (vP).ownBlock = some g → w.heap.size ≤ g ∧ g < m1.heap.size) := Lib.hid (row_lt hr)
  clear hr
  go_wp2_with fail
  refine (toDeedS_any _ D1 _ (dds_below HD.out B1.out) (by omega)).mono ?_
  rintro e m2 ⟨vQ, rfl, hr, -, hb⟩
  have B2 : Hid (Below w.heap.size w m2) := Lib.hid (below_step B1.out hb)
  have s2 : m1.heap.size ≤ m2.heap.size := hb.size
  have P2 := Lib.hid (row_below P1.out hb)
  clear hb B1 P1
  have Q2 := Lib.hid hr
  have LQ : Hid (∀ g, (vQ).ownBlock = some g → m1.heap.size ≤ g ∧ g < m2.heap.size) := Lib.hid (drow_lt hr)
  clear hr
  go_wp2_with fail
  refine (SP.out _ _ _ (row_ints P2.out) (drow_dds Q2.out)).mono ?_
  rintro e m3 ⟨vU, rfl, hr, hb⟩
  have B3 : Hid (Below w.heap.size w m3) := Lib.hid (below_step B2.out hb)
  have s3 : m2.heap.size ≤ m3.heap.size := hb.size
  have P3 := Lib.hid (row_below P2.out hb)
  have Q3 := Lib.hid (drow_below Q2.out hb)
  clear hb B2 P2 Q2
  have U3 := Lib.hid hr
  have LU : Hid (∀ g, (vU).ownBlock = some g → m2.heap.size ≤ g ∧ g < m3.heap.size) := Lib.hid (row_lt hr)
  clear hr
  clear P3
  clear Q3
  go_wp2_with fail
  refine (toInts_any _ D0 _ (ints_below HI.out B3.out) (by omega)).mono ?_
  rintro e m4 ⟨vX, rfl, hr, -, hb⟩
  have B4 : Hid (Below w.heap.size w m4) := Lib.hid (below_step B3.out hb)
  have s4 : m3.heap.size ≤ m4.heap.size := hb.size
  have U4 := Lib.hid (row_below U3.out hb)
  clear hb B3 U3
  have X4 := Lib.hid hr
  have LX : Hid (∀ g, (vX).ownBlock = some g → m3.heap.size ≤ g ∧ g < m4.heap.size) := Lib.hid (row_lt hr)
  clear hr
  go_wp2_with fail
  refine (toDeedS_any _ D1 _ (dds_below HD.out B4.out) (by omega)).mono ?_
  rintro e m5 ⟨vY, rfl, hr, -, hb⟩
  have B5 : Hid (Below w.heap.size w m5) := Lib.hid (below_step B4.out hb)
  have s5 : m4.heap.size ≤ m5.heap.size := hb.size
  have U5 := Lib.hid (row_below U4.out hb)
  have X5 := Lib.hid (row_below X4.out hb)
  clear hb B4 U4 X4
  have Y5 := Lib.hid hr
  have LY : Hid (∀ g, (vY).ownBlock = some g → m4.heap.size ≤ g ∧ g < m5.heap.size) := Lib.hid (drow_lt hr)
  clear hr
  go_wp2_with fail
  refine (IP.out _ _ _ (row_ints X5.out) (drow_dds Y5.out)).mono ?_
  rintro e m6 ⟨vG, rfl, hr, hb⟩
  have B6 : Hid (Below w.heap.size w m6) := Lib.hid (below_step B5.out hb)
  have s6 : m5.heap.size ≤ m6.heap.size := hb.size
  have U6 := Lib.hid (row_below U5.out hb)
  have X6 := Lib.hid (row_below X5.out hb)
  have Y6 := Lib.hid (drow_below Y5.out hb)
  clear hb B5 U5 X5 Y5
  have G6 := Lib.hid hr
  have LG : Hid (∀ g, (vG).ownBlock = some g → m5.heap.size ≤ g ∧ g < m6.heap.size) := Lib.hid (row_lt hr)
  clear hr
  go_wp2_with fail
  refine (eqInts_any _ _ r r _ (row_ints G6.out) (row_ints U6.out)).mono ?_
  intro e m7 hr
  obtain ⟨n7, rfl, hw⟩ := boolOf_true hr
  have hb : Below m6.heap.size m6 m7 := by rw [hw]; exact below_drewN (Below.refl _ _) _
  clear hr hw
  have B7 : Hid (Below w.heap.size w m7) := Lib.hid (below_step B6.out hb)
  have s7 : m6.heap.size ≤ m7.heap.size := hb.size
  have U7 := Lib.hid (row_below U6.out hb)
  have X7 := Lib.hid (row_below X6.out hb)
  have Y7 := Lib.hid (drow_below Y6.out hb)
  have G7 := Lib.hid (row_below G6.out hb)
  clear hb B6 U6 X6 Y6 G6
  go_wp2_with fail
  refine (toInts_any _ D0 _ (ints_below HI.out B7.out) (by omega)).mono ?_
  rintro e m8 ⟨vT, rfl, hr, -, hb⟩
  have B8 : Hid (Below w.heap.size w m8) := Lib.hid (below_step B7.out hb)
  have s8 : m7.heap.size ≤ m8.heap.size := hb.size
  have U8 := Lib.hid (row_below U7.out hb)
  have X8 := Lib.hid (row_below X7.out hb)
  have Y8 := Lib.hid (drow_below Y7.out hb)
  have G8 := Lib.hid (row_below G7.out hb)
  clear hb B7 U7 X7 Y7 G7
  have T8 := Lib.hid hr
  have LT : Hid (∀ g, (vT).ownBlock = some g → m7.heap.size ≤ g ∧ g < m8.heap.size) := Lib.hid (row_lt hr)
  clear hr
  go_wp2_with fail
  refine (eqInts_any _ _ D0 D0 _ (row_ints X8.out) (row_ints T8.out)).mono ?_
  intro e m9 hr
  obtain ⟨n9, rfl, hw⟩ := boolOf_true hr
  have hb : Below m8.heap.size m8 m9 := by rw [hw]; exact below_drewN (Below.refl _ _) _
  clear hr hw
  have B9 : Hid (Below w.heap.size w m9) := Lib.hid (below_step B8.out hb)
  have s9 : m8.heap.size ≤ m9.heap.size := hb.size
  have U9 := Lib.hid (row_below U8.out hb)
  have X9 := Lib.hid (row_below X8.out hb)
  have Y9 := Lib.hid (drow_below Y8.out hb)
  have G9 := Lib.hid (row_below G8.out hb)
  have T9 := Lib.hid (row_below T8.out hb)
  clear hb B8 U8 X8 Y8 G8 T8
  clear T9
  go_wp2_with fail
  refine (toDeedS_any _ D1 _ (dds_below HD.out B9.out) (by omega)).mono ?_
  rintro e m10 ⟨vV, rfl, hr, -, hb⟩
  have B10 : Hid (Below w.heap.size w m10) := Lib.hid (below_step B9.out hb)
  have s10 : m9.heap.size ≤ m10.heap.size := hb.size
  have U10 := Lib.hid (row_below U9.out hb)
  have X10 := Lib.hid (row_below X9.out hb)
  have Y10 := Lib.hid (drow_below Y9.out hb)
  have G10 := Lib.hid (row_below G9.out hb)
  clear hb B9 U9 X9 Y9 G9
  have V10 := Lib.hid hr
  have LV : Hid (∀ g, (vV).ownBlock = some g → m9.heap.size ≤ g ∧ g < m10.heap.size) := Lib.hid (drow_lt hr)
  clear hr
  go_wp2_with fail
  refine (eqDeedS_same _ _ D1 _ (drow_dds Y10.out) (drow_dds V10.out)).mono ?_
  rintro e m11 ⟨rfl, hb⟩
  have B11 : Hid (Below w.heap.size w m11) := Lib.hid (below_step B10.out hb)
  have s11 : m10.heap.size ≤ m11.heap.size := hb.size
  have U11 := Lib.hid (row_below U10.out hb)
  have X11 := Lib.hid (row_below X10.out hb)
  have Y11 := Lib.hid (drow_below Y10.out hb)
  have G11 := Lib.hid (row_below G10.out hb)
  have V11 := Lib.hid (drow_below V10.out hb)
  clear hb B10 U10 X10 Y10 G10 V10
  clear V11
  go_wp2_with fail
  refine (markInts_any _ _ 1 D0 _ X11.out (by omega) (by omega)).mono ?_
  rintro e m12 ⟨rfl, hr, hg⟩
  have B12 : Hid (Below w.heap.size w m12) := Lib.hid (B11.out.grown hg B11.out.size (fun g hv => by have := LX.out g hv; omega))
  have s12 : m11.heap.size ≤ m12.heap.size := hg.size
  have U12 := Lib.hid (row_keep U11.out fun g hv => hg.block g (row_lt U11.out g hv).2 (fun e => by have h1 := LU.out g hv; have h2 := LX.out g e.symm; omega))
  have Y12 := Lib.hid (drow_keep Y11.out fun g hv => hg.block g (drow_lt Y11.out g hv).2 (fun e => by have h1 := LY.out g hv; have h2 := LX.out g e.symm; omega))
  have G12 := Lib.hid (row_keep G11.out fun g hv => hg.block g (row_lt G11.out g hv).2 (fun e => by have h1 := LG.out g hv; have h2 := LX.out g e.symm; omega))
  have X12 := Lib.hid hr
  clear hr hg B11 U11 X11 Y11 G11
  go_wp2_with fail
  refine (markDeeds_any _ _ (1 + D0.length) D1 _ Y12.out (by omega) (by omega)).mono ?_
  rintro e m13 ⟨rfl, hr, hg⟩
  have B13 : Hid (Below w.heap.size w m13) := Lib.hid (B12.out.grown hg B12.out.size (fun g hv => by have := LY.out g hv; omega))
  have s13 : m12.heap.size ≤ m13.heap.size := hg.size
  have U13 := Lib.hid (row_keep U12.out fun g hv => hg.block g (row_lt U12.out g hv).2 (fun e => by have h1 := LU.out g hv; have h2 := LY.out g e.symm; omega))
  have X13 := Lib.hid (row_keep X12.out fun g hv => hg.block g (row_lt X12.out g hv).2 (fun e => by have h1 := LX.out g hv; have h2 := LY.out g e.symm; omega))
  have G13 := Lib.hid (row_keep G12.out fun g hv => hg.block g (row_lt G12.out g hv).2 (fun e => by have h1 := LG.out g hv; have h2 := LY.out g e.symm; omega))
  have Y13 := Lib.hid hr
  clear hr hg B12 U12 X12 Y12 G12
  clear X13
  clear Y13
  have kp : ¬ ((((1 + D0.length : Nat) : Int)) + 4 * (D1.length : Int)) < 0 := by omega
  go_wp2_with fail
  refine (eqInts_any _ _ r r _ (row_ints G13.out) (row_ints U13.out)).mono ?_
  intro e m14 hr
  obtain ⟨n14, rfl, hw⟩ := boolOf_true hr
  have hb : Below m13.heap.size m13 m14 := by rw [hw]; exact below_drewN (Below.refl _ _) _
  clear hr hw
  have B14 : Hid (Below w.heap.size w m14) := Lib.hid (below_step B13.out hb)
  have s14 : m13.heap.size ≤ m14.heap.size := hb.size
  have U14 := Lib.hid (row_below U13.out hb)
  have G14 := Lib.hid (row_below G13.out hb)
  clear hb B13 U13 G13
  go_wp2_with fail
  refine (markInts_any _ _ 1 r _ G14.out (by omega) (by omega)).mono ?_
  rintro e m15 ⟨rfl, hr, hg⟩
  have B15 : Hid (Below w.heap.size w m15) := Lib.hid (B14.out.grown hg B14.out.size (fun g hv => by have := LG.out g hv; omega))
  have s15 : m14.heap.size ≤ m15.heap.size := hg.size
  have U15 := Lib.hid (row_keep U14.out fun g hv => hg.block g (row_lt U14.out g hv).2 (fun e => by have h1 := LU.out g hv; have h2 := LG.out g e.symm; omega))
  have G15 := Lib.hid hr
  clear hr hg B14 U14 G14
  have kr : ((((1 : Nat) : Int) + (r.length : Int)) != (((1 : Nat) : Int) + (r.length : Int))) = false := by simp
  have kq : ¬ ((((1 : Nat) : Int) + (r.length : Int)) < 0) := by omega
  go_wp2_with fail
  refine (heldInts_any _ r.length 1 _ (row_ints G15.out) (by omega) (by omega)).mono ?_
  rintro e w' ⟨rfl, rfl⟩
  go_wp2_with fail
  refine (toInts_any _ D0 _ (ints_below HI.out B15.out) (by omega)).mono ?_
  rintro e m16 ⟨vP2, rfl, hr, -, hb⟩
  have B16 : Hid (Below w.heap.size w m16) := Lib.hid (below_step B15.out hb)
  have s16 : m15.heap.size ≤ m16.heap.size := hb.size
  have U16 := Lib.hid (row_below U15.out hb)
  have G16 := Lib.hid (row_below G15.out hb)
  clear hb B15 U15 G15
  have P216 := Lib.hid hr
  have LP2 : Hid (∀ g, (vP2).ownBlock = some g → m15.heap.size ≤ g ∧ g < m16.heap.size) := Lib.hid (row_lt hr)
  clear hr
  go_wp2_with fail
  refine (toDeedS_any _ D1 _ (dds_below HD.out B16.out) (by omega)).mono ?_
  rintro e m17 ⟨vQ2, rfl, hr, -, hb⟩
  have B17 : Hid (Below w.heap.size w m17) := Lib.hid (below_step B16.out hb)
  have s17 : m16.heap.size ≤ m17.heap.size := hb.size
  have U17 := Lib.hid (row_below U16.out hb)
  have G17 := Lib.hid (row_below G16.out hb)
  have P217 := Lib.hid (row_below P216.out hb)
  clear hb B16 U16 G16 P216
  have Q217 := Lib.hid hr
  have LQ2 : Hid (∀ g, (vQ2).ownBlock = some g → m16.heap.size ≤ g ∧ g < m17.heap.size) := Lib.hid (drow_lt hr)
  clear hr
  go_wp2_with fail
  refine (IP.out _ _ _ (row_ints P217.out) (drow_dds Q217.out)).mono ?_
  rintro e m18 ⟨vH, rfl, hr, hb⟩
  have B18 : Hid (Below w.heap.size w m18) := Lib.hid (below_step B17.out hb)
  have s18 : m17.heap.size ≤ m18.heap.size := hb.size
  have U18 := Lib.hid (row_below U17.out hb)
  have G18 := Lib.hid (row_below G17.out hb)
  have P218 := Lib.hid (row_below P217.out hb)
  have Q218 := Lib.hid (drow_below Q217.out hb)
  clear hb B17 U17 G17 P217 Q217
  have H18 := Lib.hid hr
  have LH : Hid (∀ g, (vH).ownBlock = some g → m17.heap.size ≤ g ∧ g < m18.heap.size) := Lib.hid (row_lt hr)
  clear hr
  go_wp2_with fail
  refine (eqInts_any _ _ r r _ (row_ints H18.out) (row_ints U18.out)).mono ?_
  intro e m19 hr
  obtain ⟨n19, rfl, hw⟩ := boolOf_true hr
  have hb : Below m18.heap.size m18 m19 := by rw [hw]; exact below_drewN (Below.refl _ _) _
  clear hr hw
  have B19 : Hid (Below w.heap.size w m19) := Lib.hid (below_step B18.out hb)
  have s19 : m18.heap.size ≤ m19.heap.size := hb.size
  have U19 := Lib.hid (row_below U18.out hb)
  have G19 := Lib.hid (row_below G18.out hb)
  have P219 := Lib.hid (row_below P218.out hb)
  have Q219 := Lib.hid (drow_below Q218.out hb)
  have H19 := Lib.hid (row_below H18.out hb)
  clear hb B18 U18 G18 P218 Q218 H18
  go_wp2_with fail
  refine (heldInts_any _ r.length 1 _ (row_ints G19.out) (by omega) (by omega)).mono ?_
  rintro e w' ⟨rfl, rfl⟩
  go_wp2
  go_ret
  exact ⟨rfl, B19.out⟩

set_option maxRecDepth 100000 in
theorem lifted (os : Os) (started : os.Started) (H : Type) (enc : TypeId × Value → H) :
    ReturnsInHanded {} Try.checked os 9 .any (Rows.fnExactFoldDeedsSpec.pre6 enc Try.prog Try.f9 Rows.fnExactFoldDeedsRow.domain false) (Rows.fnExactFoldDeedsSpec.post enc Try.prog Try.f9 false true false false) := by
  refine returnsInHanded_of_change (C := Try.checked) own started (by kernel_rfl) Try.func9
    (ChangeSpec.witness6 (enc := enc) (C := Try.checked) false ⟨#[], #[.slice none 0 0, .slice none 0 0], []⟩ 8 (by kernel_rfl) (by kernel_rfl) (by kernel_rfl) (by kernel_rfl)) ?_
  intro W base args ds gs before hval0 hW hcnd _
  have hval : ∀ (j : Nat) t v, Try.f9.params[j]? = some t → args[j]? = some v → Value.okWide Try.prog W .any base t v := hval0
  have hW' := hW
  obtain ⟨p, q, hA0, hV, rfl, hfz, hnd⟩ := hW
  have hA : DataW.TrodAll enc Try.prog W 0 (fun _ => true) true Try.f9.params.toList args.toList ds p := hA0
  rw [Try.params9] at hA hval
  obtain ⟨v0, vs0, d0, ds0, p0, q0, hargs, rfl, rfl, h0, r0⟩ := trodAll_cons hA
  obtain ⟨v1, vs1, d1, ds1, p1, q1, rfl, rfl, rfl, h1, r1⟩ := trodAll_cons r0
  obtain ⟨rfl, rfl, rfl⟩ := trodAll_nil r1
  obtain rfl : args = #[v0, v1] := by cases args; simp_all
  obtain ⟨rfl, rfl⟩ := trodVars_none hV
  have k0 := h0
  have lt0 : ∀ x ∈ p0, x.block < W.heap.size := by obtain ⟨m, hm⟩ := k0; exact DataW.trod_lt m _ _ _ hm
  obtain ⟨D0, w0⟩ := open_intsA (hval 0 24 v0 rfl rfl) h0
  have k1 := h1
  have lt1 : ∀ x ∈ p1, x.block < W.heap.size := by obtain ⟨m, hm⟩ := k1; exact DataW.trod_lt m _ _ _ hm
  obtain ⟨D1, w1⟩ := open_deeds (hval 1 46 v1 rfl rfl) h1
  clear hA0 hval0
  refine (walk v0 D0 v1 D1 W w0 w1).mono fun e W' ⟨he, bel⟩ => ?_
  subst he
  exact ⟨_, rfl, _, _, _, [], _, [], hW', trodAll_mk1 (shut_bool Try.underlying4 _), (trodAll_cons_mk (Below.trod laidOut (by kernel_rfl) (of_decide_eq_true (by kernel_rfl)) k0 bel lt0) (trodAll_cons_mk (Below.trod laidOut (by kernel_rfl) (of_decide_eq_true (by kernel_rfl)) k1 bel lt1) trodAll_mk0)), rfl, bel.frame _, fun h => by cases h⟩

theorem over : Rows.fnExactFoldDeedsRow.holds Try.pinned (OpenSpec.ofChange Rows.fnExactFoldDeedsSpec) :=
  OpenClaim.holds_of_wide 9 Try.f9 rfl rfl rfl rfl rfl rfl rfl ⟨rfl, rfl, rfl, rfl, rfl⟩ rfl rfl rfl rfl rfl (by kernel_rfl) Try.func9 (by kernel_rfl)
    (of_decide_eq_true (by kernel_rfl)) (by unfold Func.isWrapper; first | (rw [if_pos (by decide +kernel)]; kernel_rfl) | (rw [if_neg (by decide +kernel)]; exact ⟨rfl, rfl⟩))
    (fun os started H enc _ => lifted os started H enc)

/-- The statement. -/
theorem proved : Rows.FnExactFoldDeedsSaid := over
#print axioms proved
end Go.Proofs.Ythhaimolcgkpaaa.fnExactFoldDeeds
