/- laws.FnExactTreeOf returns true at every list of items: impl.TreeOf and spec.TreeOf give the same tree and code; impl writes into no argument, and the tree that it hands back owns its memory. No condition. -/
import Derived.Test.YtafhmajnkicifaaRows
import Derived.Test.YtafhmajnkicifaaTrL
import Derived.Test.YtafhmajnkicifaaItL
import Derived.Deep.RegionHeld3
import Derived.WalkKit
import Derived.ProofKit
import Derived.OpenShut
import Derived.ShutString
import Derived.ChangeOld
import Derived.Below
namespace Go.Proofs.Ytafhmajnkicifaa.fnExactTreeOf
open Go.ChangeShapes Go.WideShapes Go.ChangeAt Go.RowKit
open Go.ChangeMaps (open_string shut_string)
set_option linter.unusedSimpArgs false
set_option linter.unusedVariables false

theorem own : ownKnob Try.prog.godebug = none := by kernel_rfl
theorem laidOut : laidOutB Try.prog = true := by kernel_rfl

set_option maxRecDepth 100000 in
set_option maxHeartbeats 2000000 in
theorem walk (v0 : Value) (D0 : List It) (w : World) (w0 : Its w v0 D0) :
    Calls Try.prog 4 #[v0] w fun e w' => e = .returned (.bool true) ∧ Below w.heap.size w w' := by
  have HI := Lib.hid w0
  obtain ⟨l0, A0, c0, rfl, _⟩ := w0
  have l0' := l0
  unfold maxLen at l0
  by_cases hbig : 1048576 < D0.length
  · have EL := Lib.hid (show leftOf 1048576 D0.length = -1 by unfold leftOf; rw [if_pos (by omega)])
    clear hbig
    go_enter Try.func4, Try.ntmps4
    go_wp2_with (go_at_call 14; refine (szItems_any _ _ _ _ _ l0' (by omega) (by omega)).mono ?_; rintro e w' ⟨rfl, rfl⟩; rw [EL.out])
    go_ret
    exact ⟨rfl, Below.refl _ _⟩
  have SP : Hid (∀ v W, Its W v D0 → Calls Try.prog 9 #[v] W (TreeOfS D0 W)) := Lib.hid fun v W h => sTree_any v D0 W h
  have IP : Hid (∀ v W (base : Nat), IRow W base v D0 → 0 < W.heap.size → Calls Try.prog 8 #[v] W (TreeOfI D0 W)) := Lib.hid fun v W base h h0 => iTree_any v D0 W h h0
  unfold TreeOfS at SP
  unfold TreeOfI at IP
  have RS : szT 9 (trI D0) ≤ 60 := trI_size 9 D0
  generalize trI D0 = TR at *
  generalize (chkI D0).2 = r1 at *
  have t1 : (r1 != r1) = false := by simp
  obtain ⟨sz, hsz⟩ : ∃ sz, szT 9 TR = sz := ⟨_, rfl⟩
  rw [hsz] at RS
  have SZ := Lib.hid hsz
  clear hsz
  obtain ⟨lf, hlf⟩ : ∃ lf, leftOf 1048576 D0.length = lf := ⟨_, rfl⟩
  have EL := Lib.hid hlf
  have lf0 : ¬ lf < 0 := by rw [← hlf]; unfold leftOf; rw [if_neg (by omega)]; omega
  clear hlf
  go_enter Try.func4, Try.ntmps4
  go_wp2_with (first | (go_at_call 14; refine (szItems_any _ _ _ _ _ l0' (by omega) (by omega)).mono ?_; rintro e w' ⟨rfl, rfl⟩; rw [EL.out]) | (go_at_call 15; fail))
  refine (toItemS_any _ D0 _ (its_below HI.out (Below.refl _ _)) (by omega)).mono ?_
  rintro e m1 ⟨vP, rfl, hr, ho, hb⟩
  have B1 : Hid (Below w.heap.size w m1) := Lib.hid (below_step (Below.refl _ _) hb)
  have s1 : w.heap.size ≤ m1.heap.size := hb.size
  clear hb
  have LP : Hid (∀ g, vP.ownBlock = some g → w.heap.size ≤ g ∧ g < m1.heap.size) := Lib.hid (irow_lt hr)
  have p1 : 0 < m1.heap.size := by
    cases hq : vP.ownBlock with
    | none => exact absurd hq ho
    | some g => have := (irow_lt hr g hq).2; omega
  have P1 := Lib.hid hr
  clear hr ho
  go_wp2_with fail
  refine (SP.out _ _ (irow_its P1.out)).mono ?_
  rintro e m2 ⟨AU, nU, cU, rfl, hr, hb⟩
  have B2 : Hid (Below w.heap.size w m2) := Lib.hid (below_step B1.out hb)
  have s2 : m1.heap.size ≤ m2.heap.size := hb.size
  have P2 : Hid (IRow m2 w.heap.size vP D0) := Lib.hid (irow_below P1.out hb)
  clear hb B1 P1
  have U2 := Lib.hid (tin_of hr)
  clear hr
  clear P2
  go_wp2_with fail
  refine (toItemS_any _ D0 _ (its_below HI.out B2.out) (by omega)).mono ?_
  rintro e m3 ⟨vX, rfl, hr, ho, hb⟩
  have B3 : Hid (Below w.heap.size w m3) := Lib.hid (below_step B2.out hb)
  have s3 : m2.heap.size ≤ m3.heap.size := hb.size
  have U3 : Hid (TIn 9 m1.heap.size m2.heap.size m3 (.slice AU nU cU) TR) := Lib.hid (tin_keep U2.out fun b h1 h2 => hb.block b (by omega))
  clear hb B2 U2
  have LX : Hid (∀ g, vX.ownBlock = some g → m2.heap.size ≤ g ∧ g < m3.heap.size) := Lib.hid (irow_lt hr)
  have p3 : 0 < m3.heap.size := by
    cases hq : vX.ownBlock with
    | none => exact absurd hq ho
    | some g => have := (irow_lt hr g hq).2; omega
  have X3 := Lib.hid hr
  clear hr ho
  go_wp2_with fail
  refine (IP.out _ _ _ X3.out p3).mono ?_
  rintro e m4 ⟨AG, nG, cG, rfl, hr, hb⟩
  have B4 : Hid (Below w.heap.size w m4) := Lib.hid (below_step B3.out hb)
  have s4 : m3.heap.size ≤ m4.heap.size := hb.size
  have U4 : Hid (TIn 9 m1.heap.size m2.heap.size m4 (.slice AU nU cU) TR) := Lib.hid (tin_keep U3.out fun b h1 h2 => hb.block b (by omega))
  have X4 : Hid (IRow m4 m2.heap.size vX D0) := Lib.hid (irow_below X3.out hb)
  clear hb B3 U3 X3
  have G4 := Lib.hid hr
  clear hr
  go_wp2_with fail
  refine (eqNodeS_same 9 _ _ TR _ (town_nds 9 G4.out) (tin_nds U4.out)).mono ?_
  rintro e m5 ⟨rfl, hb⟩
  have B5 : Hid (Below w.heap.size w m5) := Lib.hid (below_step B4.out hb)
  have s5 : m4.heap.size ≤ m5.heap.size := hb.size
  have U5 : Hid (TIn 9 m1.heap.size m2.heap.size m5 (.slice AU nU cU) TR) := Lib.hid (tin_keep U4.out fun b h1 h2 => hb.block b (by omega))
  have X5 : Hid (IRow m5 m2.heap.size vX D0) := Lib.hid (irow_below X4.out hb)
  have G5 : Hid (TOwn 9 m5 m3.heap.size m4.heap.size (.slice AG nG cG) TR) := Lib.hid (town_keep 9 G4.out fun b h1 h2 => hb.block b (by omega))
  clear hb B4 U4 X4 G4
  go_wp2_with fail
  refine (toItemS_any _ D0 _ (its_below HI.out B5.out) (by omega)).mono ?_
  rintro e m6 ⟨vT, rfl, hr, ho, hb⟩
  have B6 : Hid (Below w.heap.size w m6) := Lib.hid (below_step B5.out hb)
  have s6 : m5.heap.size ≤ m6.heap.size := hb.size
  have U6 : Hid (TIn 9 m1.heap.size m2.heap.size m6 (.slice AU nU cU) TR) := Lib.hid (tin_keep U5.out fun b h1 h2 => hb.block b (by omega))
  have X6 : Hid (IRow m6 m2.heap.size vX D0) := Lib.hid (irow_below X5.out hb)
  have G6 : Hid (TOwn 9 m6 m3.heap.size m4.heap.size (.slice AG nG cG) TR) := Lib.hid (town_keep 9 G5.out fun b h1 h2 => hb.block b (by omega))
  clear hb B5 U5 X5 G5
  have LT : Hid (∀ g, vT.ownBlock = some g → m5.heap.size ≤ g ∧ g < m6.heap.size) := Lib.hid (irow_lt hr)
  have p6 : 0 < m6.heap.size := by
    cases hq : vT.ownBlock with
    | none => exact absurd hq ho
    | some g => have := (irow_lt hr g hq).2; omega
  have T6 := Lib.hid hr
  clear hr ho
  go_wp2_with fail
  refine (eqItemS_same _ _ D0 _ (irow_its X6.out) (irow_its T6.out)).mono ?_
  rintro e m7 ⟨rfl, hb⟩
  have B7 : Hid (Below w.heap.size w m7) := Lib.hid (below_step B6.out hb)
  have s7 : m6.heap.size ≤ m7.heap.size := hb.size
  have U7 : Hid (TIn 9 m1.heap.size m2.heap.size m7 (.slice AU nU cU) TR) := Lib.hid (tin_keep U6.out fun b h1 h2 => hb.block b (by omega))
  have X7 : Hid (IRow m7 m2.heap.size vX D0) := Lib.hid (irow_below X6.out hb)
  have G7 : Hid (TOwn 9 m7 m3.heap.size m4.heap.size (.slice AG nG cG) TR) := Lib.hid (town_keep 9 G6.out fun b h1 h2 => hb.block b (by omega))
  have T7 : Hid (IRow m7 m5.heap.size vT D0) := Lib.hid (irow_below T6.out hb)
  clear hb B6 U6 X6 G6 T6
  clear T7
  go_wp2_with fail
  refine (markItems_any _ _ 1 D0 _ X7.out (by omega) (by omega)).mono ?_
  rintro e m8 ⟨rfl, hr, hg⟩
  have B8 : Hid (Below w.heap.size w m8) := Lib.hid (B7.out.grown hg B7.out.size (fun g hv => by have := LX.out g hv; omega))
  have s8 : m7.heap.size ≤ m8.heap.size := hg.size
  have U8 : Hid (TIn 9 m1.heap.size m2.heap.size m8 (.slice AU nU cU) TR) := Lib.hid (tin_keep U7.out fun b h1 h2 => hg.block b (by omega) (fun e => by have := LX.out b e.symm; omega))
  have G8 : Hid (TOwn 9 m8 m3.heap.size m4.heap.size (.slice AG nG cG) TR) := Lib.hid (town_keep 9 G7.out fun b h1 h2 => hg.block b (by omega) (fun e => by have := LX.out b e.symm; omega))
  clear hr hg B7 U7 G7 X7
  have kp : ¬ ((((1 : Nat) : Int)) + 2 * (D0.length : Int)) < 0 := by omega
  go_wp2_with fail
  refine (eqNodeS_same 9 _ _ TR _ (town_nds 9 G8.out) (tin_nds U8.out)).mono ?_
  rintro e m9 ⟨rfl, hb⟩
  have B9 : Hid (Below w.heap.size w m9) := Lib.hid (below_step B8.out hb)
  have s9 : m8.heap.size ≤ m9.heap.size := hb.size
  have U9 : Hid (TIn 9 m1.heap.size m2.heap.size m9 (.slice AU nU cU) TR) := Lib.hid (tin_keep U8.out fun b h1 h2 => hb.block b (by omega))
  have G9 : Hid (TOwn 9 m9 m3.heap.size m4.heap.size (.slice AG nG cG) TR) := Lib.hid (town_keep 9 G8.out fun b h1 h2 => hb.block b (by omega))
  clear hb B8 U8 G8
  go_wp2_with fail
  refine (markNodeS_any 9 _ TR 1 _ _ _ G9.out (by omega) (by rw [SZ.out]; omega)).mono ?_
  rintro e m10 ⟨L2, rfl, hr, hm, hz, -, ho⟩
  rw [SZ.out] at hz
  rw [SZ.out]
  have B10 : Hid (Below w.heap.size w m10) := Lib.hid ⟨ho.os.trans B9.out.os, ho.tape.trans B9.out.tape, ho.output.trans B9.out.output, Nat.le_trans B9.out.size ho.size, fun q hq => (ho.block q (by omega) (by omega)).trans (B9.out.block q hq)⟩
  have s10 : m9.heap.size ≤ m10.heap.size := ho.size
  have U10 : Hid (TIn 9 m1.heap.size m2.heap.size m10 (.slice AU nU cU) TR) := Lib.hid (tin_keep U9.out fun b h1 h2 => ho.block b (by omega) (by omega))
  have G10 : Hid (TOwn 9 m10 m3.heap.size m4.heap.size (.slice AG nG cG) L2) := Lib.hid hr
  have MK := Lib.hid hm
  have HZ := Lib.hid hz
  clear hr hm hz ho B9 U9 G9
  have kr : (((1 + 2 * sz : Nat) : Int) != ((1 + 2 * sz : Nat) : Int)) = false := by simp
  have kq : ¬ (((1 + 2 * sz : Nat) : Int) < 0) := by omega
  go_wp2_with fail
  refine (heldNodeS_any 9 _ L2 1 _ (town_nds 9 G10.out) MK.out (by rw [HZ.out]; omega)).mono ?_
  rintro e m11 ⟨rfl, hb⟩
  rw [HZ.out]
  have B11 : Hid (Below w.heap.size w m11) := Lib.hid (below_step B10.out hb)
  have s11 : m10.heap.size ≤ m11.heap.size := hb.size
  have U11 : Hid (TIn 9 m1.heap.size m2.heap.size m11 (.slice AU nU cU) TR) := Lib.hid (tin_keep U10.out fun b h1 h2 => hb.block b (by omega))
  have G11 : Hid (TOwn 9 m11 m3.heap.size m4.heap.size (.slice AG nG cG) L2) := Lib.hid (town_keep 9 G10.out fun b h1 h2 => hb.block b (by omega))
  clear hb B10 U10 G10
  go_wp2_with fail
  refine (toItemS_any _ D0 _ (its_below HI.out B11.out) (by omega)).mono ?_
  rintro e m12 ⟨vQ, rfl, hr, ho, hb⟩
  have B12 : Hid (Below w.heap.size w m12) := Lib.hid (below_step B11.out hb)
  have s12 : m11.heap.size ≤ m12.heap.size := hb.size
  have U12 : Hid (TIn 9 m1.heap.size m2.heap.size m12 (.slice AU nU cU) TR) := Lib.hid (tin_keep U11.out fun b h1 h2 => hb.block b (by omega))
  have G12 : Hid (TOwn 9 m12 m3.heap.size m4.heap.size (.slice AG nG cG) L2) := Lib.hid (town_keep 9 G11.out fun b h1 h2 => hb.block b (by omega))
  clear hb B11 U11 G11
  have LQ : Hid (∀ g, vQ.ownBlock = some g → m11.heap.size ≤ g ∧ g < m12.heap.size) := Lib.hid (irow_lt hr)
  have p12 : 0 < m12.heap.size := by
    cases hq : vQ.ownBlock with
    | none => exact absurd hq ho
    | some g => have := (irow_lt hr g hq).2; omega
  have Q12 := Lib.hid hr
  clear hr ho
  go_wp2_with fail
  refine (IP.out _ _ _ Q12.out p12).mono ?_
  rintro e m13 ⟨AH, nH, cH, rfl, hr, hb⟩
  have B13 : Hid (Below w.heap.size w m13) := Lib.hid (below_step B12.out hb)
  have s13 : m12.heap.size ≤ m13.heap.size := hb.size
  have U13 : Hid (TIn 9 m1.heap.size m2.heap.size m13 (.slice AU nU cU) TR) := Lib.hid (tin_keep U12.out fun b h1 h2 => hb.block b (by omega))
  have G13 : Hid (TOwn 9 m13 m3.heap.size m4.heap.size (.slice AG nG cG) L2) := Lib.hid (town_keep 9 G12.out fun b h1 h2 => hb.block b (by omega))
  have Q13 : Hid (IRow m13 m11.heap.size vQ D0) := Lib.hid (irow_below Q12.out hb)
  clear hb B12 U12 G12 Q12
  have H13 := Lib.hid hr
  clear hr
  go_wp2_with fail
  refine (eqNodeS_same 9 _ _ TR _ (town_nds 9 H13.out) (tin_nds U13.out)).mono ?_
  rintro e m14 ⟨rfl, hb⟩
  have B14 : Hid (Below w.heap.size w m14) := Lib.hid (below_step B13.out hb)
  have s14 : m13.heap.size ≤ m14.heap.size := hb.size
  have U14 : Hid (TIn 9 m1.heap.size m2.heap.size m14 (.slice AU nU cU) TR) := Lib.hid (tin_keep U13.out fun b h1 h2 => hb.block b (by omega))
  have G14 : Hid (TOwn 9 m14 m3.heap.size m4.heap.size (.slice AG nG cG) L2) := Lib.hid (town_keep 9 G13.out fun b h1 h2 => hb.block b (by omega))
  have Q14 : Hid (IRow m14 m11.heap.size vQ D0) := Lib.hid (irow_below Q13.out hb)
  have H14 : Hid (TOwn 9 m14 m12.heap.size m13.heap.size (.slice AH nH cH) TR) := Lib.hid (town_keep 9 H13.out fun b h1 h2 => hb.block b (by omega))
  clear hb B13 U13 G13 Q13 H13
  go_wp2_with fail
  refine (heldNodeS_any 9 _ L2 1 _ (town_nds 9 G14.out) MK.out (by rw [HZ.out]; omega)).mono ?_
  rintro e m15 ⟨rfl, hb⟩
  rw [HZ.out]
  have B15 : Hid (Below w.heap.size w m15) := Lib.hid (below_step B14.out hb)
  have s15 : m14.heap.size ≤ m15.heap.size := hb.size
  have U15 : Hid (TIn 9 m1.heap.size m2.heap.size m15 (.slice AU nU cU) TR) := Lib.hid (tin_keep U14.out fun b h1 h2 => hb.block b (by omega))
  have G15 : Hid (TOwn 9 m15 m3.heap.size m4.heap.size (.slice AG nG cG) L2) := Lib.hid (town_keep 9 G14.out fun b h1 h2 => hb.block b (by omega))
  have Q15 : Hid (IRow m15 m11.heap.size vQ D0) := Lib.hid (irow_below Q14.out hb)
  have H15 : Hid (TOwn 9 m15 m12.heap.size m13.heap.size (.slice AH nH cH) TR) := Lib.hid (town_keep 9 H14.out fun b h1 h2 => hb.block b (by omega))
  clear hb B14 U14 G14 Q14 H14
  go_wp2
  go_ret
  exact ⟨rfl, B15.out⟩

set_option maxRecDepth 100000 in
theorem lifted (os : Os) (started : os.Started) (H : Type) (enc : TypeId × Value → H) :
    ReturnsInHanded {} Try.checked os 4 .any (Rows.fnExactTreeOfSpec.pre6 enc Try.prog Try.f4 Rows.fnExactTreeOfRow.domain false) (Rows.fnExactTreeOfSpec.post enc Try.prog Try.f4 false true false false) := by
  refine returnsInHanded_of_change (C := Try.checked) own started (by kernel_rfl) Try.func4
    (ChangeSpec.witness6 (enc := enc) (C := Try.checked) false ⟨#[], #[.slice none 0 0], []⟩ 8 (by kernel_rfl) (by kernel_rfl) (by kernel_rfl) (by kernel_rfl)) ?_
  intro W base args ds gs before hval0 hW hcnd _
  have hval : ∀ (j : Nat) t v, Try.f4.params[j]? = some t → args[j]? = some v → Value.okWide Try.prog W .any base t v := hval0
  have hW' := hW
  obtain ⟨p, q, hA0, hV, rfl, hfz, hnd⟩ := hW
  have hA : DataW.TrodAll enc Try.prog W 0 (fun _ => true) true Try.f4.params.toList args.toList ds p := hA0
  rw [Try.params4] at hA hval
  obtain ⟨v0, vs0, d0, ds0, p0, q0, hargs, rfl, rfl, h0, r0⟩ := trodAll_cons hA
  obtain ⟨rfl, rfl, rfl⟩ := trodAll_nil r0
  obtain rfl : args = #[v0] := by cases args; simp_all
  obtain ⟨rfl, rfl⟩ := trodVars_none hV
  have k0 := h0
  have lt0 : ∀ x ∈ p0, x.block < W.heap.size := by obtain ⟨m, hm⟩ := k0; exact DataW.trod_lt m _ _ _ hm
  obtain ⟨D0, w0⟩ := open_items (hval 0 33 v0 rfl rfl) h0
  clear hA0 hval0
  refine (walk v0 D0 W w0).mono fun e W' ⟨he, bel⟩ => ?_
  subst he
  exact ⟨_, rfl, _, _, _, [], _, [], hW', trodAll_mk1 (shut_bool Try.underlying4 _), (trodAll_cons_mk (Below.trod laidOut (by kernel_rfl) (of_decide_eq_true (by kernel_rfl)) k0 bel lt0) trodAll_mk0), rfl, bel.frame _, fun h => by cases h⟩

theorem over : Rows.fnExactTreeOfRow.holds Try.pinned (OpenSpec.ofChange Rows.fnExactTreeOfSpec) :=
  OpenClaim.holds_of_wide 4 Try.f4 rfl rfl rfl rfl rfl rfl rfl ⟨rfl, rfl, rfl, rfl, rfl⟩ rfl rfl rfl rfl rfl (by kernel_rfl) Try.func4 (by kernel_rfl)
    (of_decide_eq_true (by kernel_rfl)) (by unfold Func.isWrapper; first | (rw [if_pos (by decide +kernel)]; kernel_rfl) | (rw [if_neg (by decide +kernel)]; exact ⟨rfl, rfl⟩))
    (fun os started H enc _ => lifted os started H enc)

/-- The statement. -/
theorem proved : Rows.FnExactTreeOfSaid := over
#print axioms proved
end Go.Proofs.Ytafhmajnkicifaa.fnExactTreeOf
