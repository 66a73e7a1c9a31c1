/- laws.FnExactSameTree returns true at every two trees: impl.SameTree and spec.SameTree answer alike; impl writes into no argument. No condition. -/
import Derived.Test.YtafhmajnkicifaaRows
import Derived.Test.YtafhmajnkicifaaPkT
import Derived.Test.YtafhmajnkicifaaNdA
import Derived.Test.YtafhmajnkicifaaNdB
import Derived.Test.YtafhmajnkicifaaNdC
import Derived.Test.YtafhmajnkicifaaTrD
import Derived.Test.YtafhmajnkicifaaItL
import Derived.Deep.RegionHeld3
import Derived.WalkKit
import Derived.ProofKit
import Derived.OpenShut
import Derived.ShutString
import Derived.ChangeOld
import Derived.Below
namespace Go.Proofs.Ytafhmajnkicifaa.fnExactSameTree
open Go.ChangeShapes Go.WideShapes Go.ChangeAt Go.RowKit
open Go.ChangeMaps (open_string shut_string)
set_option linter.unusedSimpArgs false
set_option linter.unusedVariables false

theorem own : ownKnob Try.prog.godebug = none := by kernel_rfl
theorem laidOut : laidOutB Try.prog = true := by kernel_rfl

set_option maxRecDepth 100000 in
set_option maxHeartbeats 2000000 in
theorem walk (v0 : Value) (D0 : Nat × List Nd) (v1 : Value) (D1 : Nat × List Nd) (w : World) (w0 : NdsIn w v0 D0) (w1 : NdsIn w v1 D1) :
    Calls Try.prog 6 #[v0, v1] w fun e w' => e = .returned (.bool true) ∧ Below w.heap.size w w' := by
  obtain ⟨d0, L⟩ := D0
  obtain ⟨e0, M⟩ := D1
  have HI : Hid (Nds d0 w v0 L) := Lib.hid w0
  have HJ : Hid (Nds e0 w v1 M) := Lib.hid w1
  obtain ⟨l0, A0, c0, rfl⟩ := nds_form HI.out
  obtain ⟨l1, A1, c1, rfl⟩ := nds_form HJ.out
  unfold maxLen at l0 l1
  clear w0 w1
  obtain ⟨d, hd0, hd1⟩ : ∃ d, d0 ≤ d ∧ e0 ≤ d := ⟨d0 + e0, by omega, by omega⟩
  have HL : Hid (Nds d w (.slice A0 L.length c0) L) := Lib.hid (nds_mono HI.out hd0)
  have HM : Hid (Nds d w (.slice A1 M.length c1) M) := Lib.hid (nds_mono HJ.out hd1)
  clear HI HJ hd0 hd1
  by_cases hbig : szT d L ≤ 1048576
  case neg =>
    have EL := Lib.hid (show cutOf 1048576 (szT d L) = -1 by unfold cutOf; rw [if_neg hbig])
    clear hbig
    go_enter Try.func6, Try.ntmps6
    go_wp2_with fail
    refine (szNodeS_any d _ L 1048576 _ HL.out (Nat.le_refl _)).mono ?_
    rintro e w' ⟨rfl, hb⟩
    rw [EL.out]
    go_wp2
    go_ret
    exact ⟨rfl, hb⟩
  have EL := Lib.hid (show cutOf 1048576 (szT d L) = ((1048576 - szT d L : Nat) : Int) by unfold cutOf; rw [if_pos hbig])
  obtain ⟨lf, hlf⟩ : ∃ lf, 1048576 - szT d L = lf := ⟨_, rfl⟩
  rw [hlf] at EL
  have lfb : lf ≤ 1048576 := by omega
  have SL := Lib.hid hbig
  have lf0 : ¬ ((lf : Nat) : Int) < 0 := by omega
  clear hbig hlf
  by_cases hb2 : szT d M ≤ lf
  case neg =>
    have EM := Lib.hid (show cutOf lf (szT d M) = -1 by unfold cutOf; rw [if_neg hb2])
    clear hb2
    go_enter Try.func6, Try.ntmps6
    go_wp2_with fail
    refine (szNodeS_any d _ L 1048576 _ HL.out (Nat.le_refl _)).mono ?_
    rintro e m1 ⟨rfl, hb⟩
    rw [EL.out]
    have B1 := Lib.hid hb
    clear hb
    go_wp2_with fail
    refine (szNodeS_any d _ M lf _ (nds_below HM.out B1.out) lfb).mono ?_
    rintro e m2 ⟨rfl, hb⟩
    rw [EM.out]
    have B2 := Lib.hid (below_step B1.out hb)
    clear hb
    go_wp2
    go_ret
    exact ⟨rfl, B2.out⟩
  have EM := Lib.hid (show cutOf lf (szT d M) = ((lf - szT d M : Nat) : Int) by unfold cutOf; rw [if_pos hb2])
  have lg0 : ¬ ((lf - szT d M : Nat) : Int) < 0 := by omega
  have SM : Hid (szT d M ≤ 1048576) := Lib.hid (by omega)
  have SP : Hid (∀ u v W, Nds d W u L → Nds d W v M → Calls Try.prog 25 #[u, v] W (SamT (SameP d L M) W)) := Lib.hid fun u v W h k => sSameTree_any d u v L M W h k SL.out SM.out
  have IP : Hid (∀ u v W, Nds d W u L → Nds d W v M → Calls Try.prog 12 #[u, v] W (SamT (SameP d L M) W)) := Lib.hid fun u v W h k => iSameTree_any d u v L M W h k
  generalize SameP d L M = PP at *
  clear hb2
  go_enter Try.func6, Try.ntmps6
  go_wp2_with fail
  refine (szNodeS_any d _ L 1048576 _ HL.out (Nat.le_refl _)).mono ?_
  rintro e m1 ⟨rfl, hb⟩
  rw [EL.out]
  have B1 : Hid (Below w.heap.size w m1) := Lib.hid hb
  have s1 : w.heap.size ≤ m1.heap.size := hb.size
  clear hb
  go_wp2_with fail
  refine (szNodeS_any d _ M lf _ (nds_below HM.out B1.out) lfb).mono ?_
  rintro e m2 ⟨rfl, hb⟩
  rw [EM.out]
  have B2 : Hid (Below w.heap.size w m2) := Lib.hid (below_step B1.out hb)
  have s2 : m1.heap.size ≤ m2.heap.size := hb.size
  clear hb B1
  go_wp2_with fail
  refine (toNodeS_any d _ L _ (nds_below HL.out B2.out) SL.out).mono ?_
  rintro e m3 ⟨rfl, hr, hb, hz⟩
  have B3 : Hid (Below w.heap.size w m3) := Lib.hid (below_step B2.out hb)
  have s3 : m2.heap.size ≤ m3.heap.size := hb.size
  clear hb B2
  have P3 := Lib.hid hr
  clear hr hz
  go_wp2_with fail
  refine (toNodeS_any d _ M _ (nds_below HM.out B3.out) SM.out).mono ?_
  rintro e m4 ⟨rfl, hr, hb, hz⟩
  have B4 : Hid (Below w.heap.size w m4) := Lib.hid (below_step B3.out hb)
  have s4 : m3.heap.size ≤ m4.heap.size := hb.size
  have P4 : Hid (TOwn d m4 m2.heap.size m3.heap.size (.slice (some ⟨m2.heap.size, 0, none⟩) L.length L.length) L) := Lib.hid (town_keep d P3.out fun b h1 h2 => hb.block b (by omega))
  clear hb B3 P3
  have R4 := Lib.hid hr
  clear hr hz
  go_wp2_with fail
  refine (SP.out _ _ _ (town_nds d P4.out) (town_nds d R4.out)).mono ?_
  rintro e m5 ⟨ts, rfl, hts, hb⟩
  have Hts := Lib.hid hts
  clear hts
  have B5 : Hid (Below w.heap.size w m5) := Lib.hid (below_step B4.out hb)
  have s5 : m4.heap.size ≤ m5.heap.size := hb.size
  have P5 : Hid (TOwn d m5 m2.heap.size m3.heap.size (.slice (some ⟨m2.heap.size, 0, none⟩) L.length L.length) L) := Lib.hid (town_keep d P4.out fun b h1 h2 => hb.block b (by omega))
  have R5 : Hid (TOwn d m5 m3.heap.size m4.heap.size (.slice (some ⟨m3.heap.size, 0, none⟩) M.length M.length) M) := Lib.hid (town_keep d R4.out fun b h1 h2 => hb.block b (by omega))
  clear hb B4 P4 R4
  clear P5
  clear R5
  go_wp2_with fail
  refine (toNodeS_any d _ L _ (nds_below HL.out B5.out) SL.out).mono ?_
  rintro e m6 ⟨rfl, hr, hb, hz⟩
  have B6 : Hid (Below w.heap.size w m6) := Lib.hid (below_step B5.out hb)
  have s6 : m5.heap.size ≤ m6.heap.size := hb.size
  clear hb B5
  have X6 := Lib.hid hr
  clear hr hz
  go_wp2_with fail
  refine (toNodeS_any d _ M _ (nds_below HM.out B6.out) SM.out).mono ?_
  rintro e m7 ⟨rfl, hr, hb, hz⟩
  have B7 : Hid (Below w.heap.size w m7) := Lib.hid (below_step B6.out hb)
  have s7 : m6.heap.size ≤ m7.heap.size := hb.size
  have X7 : Hid (TOwn d m7 m5.heap.size m6.heap.size (.slice (some ⟨m5.heap.size, 0, none⟩) L.length L.length) L) := Lib.hid (town_keep d X6.out fun b h1 h2 => hb.block b (by omega))
  clear hb B6 X6
  have Y7 := Lib.hid hr
  clear hr hz
  go_wp2_with fail
  refine (IP.out _ _ _ (town_nds d X7.out) (town_nds d Y7.out)).mono ?_
  rintro e m8 ⟨ti, rfl, hti, hb⟩
  have Hti := Lib.hid hti
  clear hti
  have B8 : Hid (Below w.heap.size w m8) := Lib.hid (below_step B7.out hb)
  have s8 : m7.heap.size ≤ m8.heap.size := hb.size
  have X8 : Hid (TOwn d m8 m5.heap.size m6.heap.size (.slice (some ⟨m5.heap.size, 0, none⟩) L.length L.length) L) := Lib.hid (town_keep d X7.out fun b h1 h2 => hb.block b (by omega))
  have Y8 : Hid (TOwn d m8 m6.heap.size m7.heap.size (.slice (some ⟨m6.heap.size, 0, none⟩) M.length M.length) M) := Lib.hid (town_keep d Y7.out fun b h1 h2 => hb.block b (by omega))
  clear hb B7 X7 Y7
  have EE : ti = ts := by
    have q := Hti.out.trans Hts.out.symm
    cases ti <;> cases ts <;> simp at q <;> rfl
  subst EE
  have tt : (ti != ti) = false := by simp
  clear Hti Hts
  go_wp2_with fail
  refine (toNodeS_any d _ L _ (nds_below HL.out B8.out) SL.out).mono ?_
  rintro e m9 ⟨rfl, hr, hb, hz⟩
  have B9 : Hid (Below w.heap.size w m9) := Lib.hid (below_step B8.out hb)
  have s9 : m8.heap.size ≤ m9.heap.size := hb.size
  have X9 : Hid (TOwn d m9 m5.heap.size m6.heap.size (.slice (some ⟨m5.heap.size, 0, none⟩) L.length L.length) L) := Lib.hid (town_keep d X8.out fun b h1 h2 => hb.block b (by omega))
  have Y9 : Hid (TOwn d m9 m6.heap.size m7.heap.size (.slice (some ⟨m6.heap.size, 0, none⟩) M.length M.length) M) := Lib.hid (town_keep d Y8.out fun b h1 h2 => hb.block b (by omega))
  clear hb B8 X8 Y8
  have T9 := Lib.hid hr
  clear hr hz
  go_wp2_with fail
  refine (eqNodeS_same d _ _ L _ (town_nds d X9.out) (town_nds d T9.out)).mono ?_
  rintro e m10 ⟨rfl, hb⟩
  have B10 : Hid (Below w.heap.size w m10) := Lib.hid (below_step B9.out hb)
  have s10 : m9.heap.size ≤ m10.heap.size := hb.size
  have X10 : Hid (TOwn d m10 m5.heap.size m6.heap.size (.slice (some ⟨m5.heap.size, 0, none⟩) L.length L.length) L) := Lib.hid (town_keep d X9.out fun b h1 h2 => hb.block b (by omega))
  have Y10 : Hid (TOwn d m10 m6.heap.size m7.heap.size (.slice (some ⟨m6.heap.size, 0, none⟩) M.length M.length) M) := Lib.hid (town_keep d Y9.out fun b h1 h2 => hb.block b (by omega))
  have T10 : Hid (TOwn d m10 m8.heap.size m9.heap.size (.slice (some ⟨m8.heap.size, 0, none⟩) L.length L.length) L) := Lib.hid (town_keep d T9.out fun b h1 h2 => hb.block b (by omega))
  clear hb B9 X9 Y9 T9
  clear T10
  clear X10
  go_wp2_with fail
  refine (toNodeS_any d _ M _ (nds_below HM.out B10.out) SM.out).mono ?_
  rintro e m11 ⟨rfl, hr, hb, hz⟩
  have B11 : Hid (Below w.heap.size w m11) := Lib.hid (below_step B10.out hb)
  have s11 : m10.heap.size ≤ m11.heap.size := hb.size
  have Y11 : Hid (TOwn d m11 m6.heap.size m7.heap.size (.slice (some ⟨m6.heap.size, 0, none⟩) M.length M.length) M) := Lib.hid (town_keep d Y10.out fun b h1 h2 => hb.block b (by omega))
  clear hb B10 Y10
  have V11 := Lib.hid hr
  clear hr hz
  go_wp2_with fail
  refine (eqNodeS_same d _ _ M _ (town_nds d Y11.out) (town_nds d V11.out)).mono ?_
  rintro e m12 ⟨rfl, hb⟩
  have B12 : Hid (Below w.heap.size w m12) := Lib.hid (below_step B11.out hb)
  have s12 : m11.heap.size ≤ m12.heap.size := hb.size
  have Y12 : Hid (TOwn d m12 m6.heap.size m7.heap.size (.slice (some ⟨m6.heap.size, 0, none⟩) M.length M.length) M) := Lib.hid (town_keep d Y11.out fun b h1 h2 => hb.block b (by omega))
  have V12 : Hid (TOwn d m12 m10.heap.size m11.heap.size (.slice (some ⟨m10.heap.size, 0, none⟩) M.length M.length) M) := Lib.hid (town_keep d V11.out fun b h1 h2 => hb.block b (by omega))
  clear hb B11 Y11 V11
  go_wp2
  go_ret
  exact ⟨rfl, B12.out⟩

set_option maxRecDepth 100000 in
theorem lifted (os : Os) (started : os.Started) (H : Type) (enc : TypeId × Value → H) :
    ReturnsInHanded {} Try.checked os 6 .any (Rows.fnExactSameTreeSpec.pre6 enc Try.prog Try.f6 Rows.fnExactSameTreeRow.domain false) (Rows.fnExactSameTreeSpec.post enc Try.prog Try.f6 false true false false) := by
  refine returnsInHanded_of_change (C := Try.checked) own started (by kernel_rfl) Try.func6
    (ChangeSpec.witness6 (enc := enc) (C := Try.checked) false ⟨#[], #[.slice none 0 0, .slice none 0 0], []⟩ 8 (by kernel_rfl) (by kernel_rfl) (by kernel_rfl) (by kernel_rfl)) ?_
  intro W base args ds gs before hval0 hW hcnd _
  have hval : ∀ (j : Nat) t v, Try.f6.params[j]? = some t → args[j]? = some v → Value.okWide Try.prog W .any base t v := hval0
  have hW' := hW
  obtain ⟨p, q, hA0, hV, rfl, hfz, hnd⟩ := hW
  have hA : DataW.TrodAll enc Try.prog W 0 (fun _ => true) true Try.f6.params.toList args.toList ds p := hA0
  rw [Try.params6] at hA hval
  obtain ⟨v0, vs0, d0, ds0, p0, q0, hargs, rfl, rfl, h0, r0⟩ := trodAll_cons hA
  obtain ⟨v1, vs1, d1, ds1, p1, q1, rfl, rfl, rfl, h1, r1⟩ := trodAll_cons r0
  obtain ⟨rfl, rfl, rfl⟩ := trodAll_nil r1
  obtain rfl : args = #[v0, v1] := by cases args; simp_all
  obtain ⟨rfl, rfl⟩ := trodVars_none hV
  have k0 := h0
  have lt0 : ∀ x ∈ p0, x.block < W.heap.size := by obtain ⟨m, hm⟩ := k0; exact DataW.trod_lt m _ _ _ hm
  obtain ⟨D0, w0⟩ := open_nodes (hval 0 39 v0 rfl rfl) h0
  have k1 := h1
  have lt1 : ∀ x ∈ p1, x.block < W.heap.size := by obtain ⟨m, hm⟩ := k1; exact DataW.trod_lt m _ _ _ hm
  obtain ⟨D1, w1⟩ := open_nodes (hval 1 39 v1 rfl rfl) h1
  clear hA0 hval0
  refine (walk v0 D0 v1 D1 W w0 w1).mono fun e W' ⟨he, bel⟩ => ?_
  subst he
  exact ⟨_, rfl, _, _, _, [], _, [], hW', trodAll_mk1 (shut_bool Try.underlying4 _), (trodAll_cons_mk (Below.trod laidOut (by kernel_rfl) (of_decide_eq_true (by kernel_rfl)) k0 bel lt0) (trodAll_cons_mk (Below.trod laidOut (by kernel_rfl) (of_decide_eq_true (by kernel_rfl)) k1 bel lt1) trodAll_mk0)), rfl, bel.frame _, fun h => by cases h⟩

theorem over : Rows.fnExactSameTreeRow.holds Try.pinned (OpenSpec.ofChange Rows.fnExactSameTreeSpec) :=
  OpenClaim.holds_of_wide 6 Try.f6 rfl rfl rfl rfl rfl rfl rfl ⟨rfl, rfl, rfl, rfl, rfl⟩ rfl rfl rfl rfl rfl (by kernel_rfl) Try.func6 (by kernel_rfl)
    (of_decide_eq_true (by kernel_rfl)) (by unfold Func.isWrapper; first | (rw [if_pos (by decide +kernel)]; kernel_rfl) | (rw [if_neg (by decide +kernel)]; exact ⟨rfl, rfl⟩))
    (fun os started H enc _ => lifted os started H enc)

/-- The statement. -/
theorem proved : Rows.FnExactSameTreeSaid := over
#print axioms proved
end Go.Proofs.Ytafhmajnkicifaa.fnExactSameTree
