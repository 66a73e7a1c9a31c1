/- laws.FnExactCompileItems returns true at every list of items and every numbers: impl.CompileItems and spec.CompileItems give the same code of cells and the same code; impl writes into no argument, and what it hands back owns its memory. No condition. -/
import Derived.Test.YtficijecpgihnaaRows
import Derived.Test.YtficijecpgihnaaItL
import Derived.Test.YtficijecpgihnaaMaC
import Derived.Test.YtficijecpgihnaaAsD
import Derived.Deep.RegionHeld3
import Derived.WalkKit
import Derived.ProofKit
import Derived.OpenShut
import Derived.ShutString
import Derived.ChangeOld
import Derived.Below
namespace Go.Proofs.Ytficijecpgihnaa.fnExactCompileItems
open Go.ChangeShapes Go.WideShapes Go.ChangeAt Go.RowKit
open Go.ChangeMaps (open_string shut_string)
set_option linter.unusedSimpArgs false
set_option linter.unusedVariables false

theorem own : ownKnob Try.prog.godebug = none := by kernel_rfl
theorem laidOut : laidOutB Try.prog = true := by kernel_rfl

set_option maxRecDepth 100000 in
set_option maxHeartbeats 2000000 in
theorem walk (v0 : Value) (D0 : List It) (a1 : Int) (a2 : Int) (w : World) (w0 : Its w v0 D0) (w1 : (Lit.int .i64 a1).wf = true) (w2 : (Lit.int .i64 a2).wf = true) :
    Calls Try.prog 7 #[v0, .int .i64 a1, .int .i64 a2] w fun e w' => e = .returned (.bool true) ∧ Below w.heap.size w w' := by
  have HI := Lib.hid w0
  obtain ⟨l0, A0, c0, rfl, _⟩ := w0
  have l0' := l0
  unfold maxLen at l0
  by_cases hbig : 1048576 < D0.length
  · have EL := Lib.hid (show leftOf 1048576 D0.length = -1 by unfold leftOf; rw [if_pos (by omega)])
    clear hbig
    go_enter Try.func7, Try.ntmps7
    go_wp2_with (go_at_call 26; refine (szItems_any _ _ _ _ _ l0' (by omega) (by omega)).mono ?_; rintro e w' ⟨rfl, rfl⟩; rw [EL.out])
    go_ret
    exact ⟨rfl, Below.refl _ _⟩
  have SP : Hid (∀ v W, Its W v D0 → Calls Try.prog 21 #[v, .int .i64 a1, .int .i64 a2] W (ListCOf W (compI D0 a1 a2))) := Lib.hid fun v W h => sComp_any v D0 a1 a2 W h w1 w2
  have IP : Hid (∀ v W (base : Nat), IRow W base v D0 → Calls Try.prog 20 #[v, .int .i64 a1, .int .i64 a2] W (ListCOf W (compI D0 a1 a2))) := Lib.hid fun v W base h => iComp_any v D0 a1 a2 W (irow_its h) w1 w2
  have RS : (compI D0 a1 a2).1.length ≤ 1000 := compI_small D0 a1 a2
  generalize compI D0 a1 a2 = pp at *
  obtain ⟨r, r1⟩ := pp
  simp only at *
  have t1 : (r1 != r1) = false := by simp
  obtain ⟨lf, hlf⟩ : ∃ lf, leftOf 1048576 D0.length = lf := ⟨_, rfl⟩
  have EL := Lib.hid hlf
  have lf0 : ¬ lf < 0 := by rw [← hlf]; unfold leftOf; rw [if_neg (by omega)]; omega
  clear hlf
  go_enter Try.func7, Try.ntmps7
  go_wp2_with (first | (go_at_call 26; refine (szItems_any _ _ _ _ _ l0' (by omega) (by omega)).mono ?_; rintro e w' ⟨rfl, rfl⟩; rw [EL.out]) | (go_at_call 27; fail))
  refine (toItemS_any _ D0 _ (its_below HI.out (Below.refl _ _)) (by omega)).mono ?_
  rintro e m1 ⟨vP, rfl, hr, -, hb⟩
  have B1 : Hid (Below w.heap.size w m1) := Lib.hid (below_step (Below.refl _ _) hb)
  have s1 : w.heap.size ≤ m1.heap.size := hb.size
  clear hb
  have P1 := Lib.hid hr
  have LP : Hid (∀ g, (vP).ownBlock = some g → w.heap.size ≤ g ∧ g < m1.heap.size) := Lib.hid (irow_lt hr)
  clear hr
  go_wp2_with fail
  refine (SP.out _ _ (irow_its P1.out)).mono ?_
  rintro e m2 ⟨vU, rfl, hr, hb⟩
  have B2 : Hid (Below w.heap.size w m2) := Lib.hid (below_step B1.out hb)
  have s2 : m1.heap.size ≤ m2.heap.size := hb.size
  have P2 := Lib.hid (irow_below P1.out hb)
  clear hb B1 P1
  have U2 := Lib.hid hr
  have LU : Hid (∀ g, (vU).ownBlock = some g → m1.heap.size ≤ g ∧ g < m2.heap.size) := Lib.hid (row_lt hr)
  clear hr
  clear P2
  go_wp2_with fail
  refine (toItemS_any _ D0 _ (its_below HI.out B2.out) (by omega)).mono ?_
  rintro e m3 ⟨vX, rfl, hr, -, hb⟩
  have B3 : Hid (Below w.heap.size w m3) := Lib.hid (below_step B2.out hb)
  have s3 : m2.heap.size ≤ m3.heap.size := hb.size
  have U3 := Lib.hid (row_below U2.out hb)
  clear hb B2 U2
  have X3 := Lib.hid hr
  have LX : Hid (∀ g, (vX).ownBlock = some g → m2.heap.size ≤ g ∧ g < m3.heap.size) := Lib.hid (irow_lt hr)
  clear hr
  go_wp2_with fail
  refine (IP.out _ _ _ X3.out).mono ?_
  rintro e m4 ⟨vG, rfl, hr, hb⟩
  have B4 : Hid (Below w.heap.size w m4) := Lib.hid (below_step B3.out hb)
  have s4 : m3.heap.size ≤ m4.heap.size := hb.size
  have U4 := Lib.hid (row_below U3.out hb)
  have X4 := Lib.hid (irow_below X3.out hb)
  clear hb B3 U3 X3
  have G4 := Lib.hid hr
  have LG : Hid (∀ g, (vG).ownBlock = some g → m3.heap.size ≤ g ∧ g < m4.heap.size) := Lib.hid (row_lt hr)
  clear hr
  go_wp2_with fail
  refine (eqInts_any _ _ r r _ (row_ints G4.out) (row_ints U4.out)).mono ?_
  intro e m5 hr
  obtain ⟨n5, rfl, hw⟩ := boolOf_true hr
  have hb : Below m4.heap.size m4 m5 := by rw [hw]; exact below_drewN (Below.refl _ _) _
  clear hr hw
  have B5 : Hid (Below w.heap.size w m5) := Lib.hid (below_step B4.out hb)
  have s5 : m4.heap.size ≤ m5.heap.size := hb.size
  have U5 := Lib.hid (row_below U4.out hb)
  have X5 := Lib.hid (irow_below X4.out hb)
  have G5 := Lib.hid (row_below G4.out hb)
  clear hb B4 U4 X4 G4
  go_wp2_with fail
  refine (toItemS_any _ D0 _ (its_below HI.out B5.out) (by omega)).mono ?_
  rintro e m6 ⟨vT, rfl, hr, -, hb⟩
  have B6 : Hid (Below w.heap.size w m6) := Lib.hid (below_step B5.out hb)
  have s6 : m5.heap.size ≤ m6.heap.size := hb.size
  have U6 := Lib.hid (row_below U5.out hb)
  have X6 := Lib.hid (irow_below X5.out hb)
  have G6 := Lib.hid (row_below G5.out hb)
  clear hb B5 U5 X5 G5
  have T6 := Lib.hid hr
  have LT : Hid (∀ g, (vT).ownBlock = some g → m5.heap.size ≤ g ∧ g < m6.heap.size) := Lib.hid (irow_lt hr)
  clear hr
  go_wp2_with fail
  refine (eqItemS_same _ _ D0 _ (irow_its X6.out) (irow_its T6.out)).mono ?_
  rintro e m7 ⟨rfl, hb⟩
  have B7 : Hid (Below w.heap.size w m7) := Lib.hid (below_step B6.out hb)
  have s7 : m6.heap.size ≤ m7.heap.size := hb.size
  have U7 := Lib.hid (row_below U6.out hb)
  have X7 := Lib.hid (irow_below X6.out hb)
  have G7 := Lib.hid (row_below G6.out hb)
  have T7 := Lib.hid (irow_below T6.out hb)
  clear hb B6 U6 X6 G6 T6
  clear T7
  go_wp2_with fail
  refine (markItems_any _ _ 1 D0 _ X7.out (by omega) (by omega)).mono ?_
  rintro e m8 ⟨rfl, hr, hg⟩
  have B8 : Hid (Below w.heap.size w m8) := Lib.hid (B7.out.grown hg B7.out.size (fun g hv => by have := LX.out g hv; omega))
  have s8 : m7.heap.size ≤ m8.heap.size := hg.size
  have U8 := Lib.hid (row_keep U7.out fun g hv => hg.block g (row_lt U7.out g hv).2 (fun e => by have h1 := LU.out g hv; have h2 := LX.out g e.symm; omega))
  have G8 := Lib.hid (row_keep G7.out fun g hv => hg.block g (row_lt G7.out g hv).2 (fun e => by have h1 := LG.out g hv; have h2 := LX.out g e.symm; omega))
  have X8 := Lib.hid hr
  clear hr hg B7 U7 X7 G7
  clear X8
  have kp : ¬ ((((1 : Nat) : Int)) + 2 * (D0.length : Int)) < 0 := by omega
  go_wp2_with fail
  refine (eqInts_any _ _ r r _ (row_ints G8.out) (row_ints U8.out)).mono ?_
  intro e m9 hr
  obtain ⟨n9, rfl, hw⟩ := boolOf_true hr
  have hb : Below m8.heap.size m8 m9 := by rw [hw]; exact below_drewN (Below.refl _ _) _
  clear hr hw
  have B9 : Hid (Below w.heap.size w m9) := Lib.hid (below_step B8.out hb)
  have s9 : m8.heap.size ≤ m9.heap.size := hb.size
  have U9 := Lib.hid (row_below U8.out hb)
  have G9 := Lib.hid (row_below G8.out hb)
  clear hb B8 U8 G8
  go_wp2_with fail
  refine (markInts_any _ _ 1 r _ G9.out (by omega) (by omega)).mono ?_
  rintro e m10 ⟨rfl, hr, hg⟩
  have B10 : Hid (Below w.heap.size w m10) := Lib.hid (B9.out.grown hg B9.out.size (fun g hv => by have := LG.out g hv; omega))
  have s10 : m9.heap.size ≤ m10.heap.size := hg.size
  have U10 := Lib.hid (row_keep U9.out fun g hv => hg.block g (row_lt U9.out g hv).2 (fun e => by have h1 := LU.out g hv; have h2 := LG.out g e.symm; omega))
  have G10 := Lib.hid hr
  clear hr hg B9 U9 G9
  have kr : ((((1 : Nat) : Int) + (r.length : Int)) != (((1 : Nat) : Int) + (r.length : Int))) = false := by simp
  have kq : ¬ ((((1 : Nat) : Int) + (r.length : Int)) < 0) := by omega
  go_wp2_with fail
  refine (heldInts_any _ r.length 1 _ (row_ints G10.out) (by omega) (by omega)).mono ?_
  rintro e w' ⟨rfl, rfl⟩
  go_wp2_with fail
  refine (toItemS_any _ D0 _ (its_below HI.out B10.out) (by omega)).mono ?_
  rintro e m11 ⟨vP2, rfl, hr, -, hb⟩
  have B11 : Hid (Below w.heap.size w m11) := Lib.hid (below_step B10.out hb)
  have s11 : m10.heap.size ≤ m11.heap.size := hb.size
  have U11 := Lib.hid (row_below U10.out hb)
  have G11 := Lib.hid (row_below G10.out hb)
  clear hb B10 U10 G10
  have P211 := Lib.hid hr
  have LP2 : Hid (∀ g, (vP2).ownBlock = some g → m10.heap.size ≤ g ∧ g < m11.heap.size) := Lib.hid (irow_lt hr)
  clear hr
  go_wp2_with fail
  refine (IP.out _ _ _ P211.out).mono ?_
  rintro e m12 ⟨vH, rfl, hr, hb⟩
  have B12 : Hid (Below w.heap.size w m12) := Lib.hid (below_step B11.out hb)
  have s12 : m11.heap.size ≤ m12.heap.size := hb.size
  have U12 := Lib.hid (row_below U11.out hb)
  have G12 := Lib.hid (row_below G11.out hb)
  have P212 := Lib.hid (irow_below P211.out hb)
  clear hb B11 U11 G11 P211
  have H12 := Lib.hid hr
  have LH : Hid (∀ g, (vH).ownBlock = some g → m11.heap.size ≤ g ∧ g < m12.heap.size) := Lib.hid (row_lt hr)
  clear hr
  go_wp2_with fail
  refine (eqInts_any _ _ r r _ (row_ints H12.out) (row_ints U12.out)).mono ?_
  intro e m13 hr
  obtain ⟨n13, rfl, hw⟩ := boolOf_true hr
  have hb : Below m12.heap.size m12 m13 := by rw [hw]; exact below_drewN (Below.refl _ _) _
  clear hr hw
  have B13 : Hid (Below w.heap.size w m13) := Lib.hid (below_step B12.out hb)
  have s13 : m12.heap.size ≤ m13.heap.size := hb.size
  have U13 := Lib.hid (row_below U12.out hb)
  have G13 := Lib.hid (row_below G12.out hb)
  have P213 := Lib.hid (irow_below P212.out hb)
  have H13 := Lib.hid (row_below H12.out hb)
  clear hb B12 U12 G12 P212 H12
  go_wp2_with fail
  refine (heldInts_any _ r.length 1 _ (row_ints G13.out) (by omega) (by omega)).mono ?_
  rintro e w' ⟨rfl, rfl⟩
  go_wp2
  go_ret
  exact ⟨rfl, B13.out⟩

set_option maxRecDepth 100000 in
theorem lifted (os : Os) (started : os.Started) (H : Type) (enc : TypeId × Value → H) :
    ReturnsInHanded {} Try.checked os 7 .any (Rows.fnExactCompileItemsSpec.pre6 enc Try.prog Try.f7 Rows.fnExactCompileItemsRow.domain false) (Rows.fnExactCompileItemsSpec.post enc Try.prog Try.f7 false true false false) := by
  refine returnsInHanded_of_change (C := Try.checked) own started (by kernel_rfl) Try.func7
    (ChangeSpec.witness6 (enc := enc) (C := Try.checked) false ⟨#[], #[.slice none 0 0, .int .i64 0, .int .i64 0], []⟩ 8 (by kernel_rfl) (by kernel_rfl) (by kernel_rfl) (by kernel_rfl)) ?_
  intro W base args ds gs before hval0 hW hcnd _
  have hval : ∀ (j : Nat) t v, Try.f7.params[j]? = some t → args[j]? = some v → Value.okWide Try.prog W .any base t v := hval0
  have hW' := hW
  obtain ⟨p, q, hA0, hV, rfl, hfz, hnd⟩ := hW
  have hA : DataW.TrodAll enc Try.prog W 0 (fun _ => true) true Try.f7.params.toList args.toList ds p := hA0
  rw [Try.params7] at hA hval
  obtain ⟨v0, vs0, d0, ds0, p0, q0, hargs, rfl, rfl, h0, r0⟩ := trodAll_cons hA
  obtain ⟨v1, vs1, d1, ds1, p1, q1, rfl, rfl, rfl, h1, r1⟩ := trodAll_cons r0
  obtain ⟨v2, vs2, d2, ds2, p2, q2, rfl, rfl, rfl, h2, r2⟩ := trodAll_cons r1
  obtain ⟨rfl, rfl, rfl⟩ := trodAll_nil r2
  obtain rfl : args = #[v0, v1, v2] := by cases args; simp_all
  obtain ⟨rfl, rfl⟩ := trodVars_none hV
  have k0 := h0
  have lt0 : ∀ x ∈ p0, x.block < W.heap.size := by obtain ⟨m, hm⟩ := k0; exact DataW.trod_lt m _ _ _ hm
  obtain ⟨D0, w0⟩ := open_items (hval 0 40 v0 rfl rfl) h0
  obtain ⟨a1, rfl, rfl, rfl, w1⟩ := open_int Try.underlying3 (hval 1 3 v1 rfl rfl) h1
  obtain ⟨a2, rfl, rfl, rfl, w2⟩ := open_int Try.underlying3 (hval 2 3 v2 rfl rfl) h2
  clear hA0 hval0
  refine (walk v0 D0 a1 a2 W w0 w1 w2).mono fun e W' ⟨he, bel⟩ => ?_
  subst he
  exact ⟨_, rfl, _, _, _, [], _, [], hW', trodAll_mk1 (shut_bool Try.underlying4 _), (trodAll_cons_mk (Below.trod laidOut (by kernel_rfl) (of_decide_eq_true (by kernel_rfl)) k0 bel lt0) (trodAll_cons_mk (shut_int Try.underlying3 w1) (trodAll_cons_mk (shut_int Try.underlying3 w2) trodAll_mk0))), rfl, bel.frame _, fun h => by cases h⟩

theorem over : Rows.fnExactCompileItemsRow.holds Try.pinned (OpenSpec.ofChange Rows.fnExactCompileItemsSpec) :=
  OpenClaim.holds_of_wide 7 Try.f7 rfl rfl rfl rfl rfl rfl rfl ⟨rfl, rfl, rfl, rfl, rfl⟩ rfl rfl rfl rfl rfl (by kernel_rfl) Try.func7 (by kernel_rfl)
    (of_decide_eq_true (by kernel_rfl)) (by unfold Func.isWrapper; first | (rw [if_pos (by decide +kernel)]; kernel_rfl) | (rw [if_neg (by decide +kernel)]; exact ⟨rfl, rfl⟩))
    (fun os started H enc _ => lifted os started H enc)

/-- The statement. -/
theorem proved : Rows.FnExactCompileItemsSaid := over
#print axioms proved
end Go.Proofs.Ytficijecpgihnaa.fnExactCompileItems
