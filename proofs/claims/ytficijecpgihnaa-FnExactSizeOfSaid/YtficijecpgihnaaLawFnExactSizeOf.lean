/- laws.FnExactSizeOf returns true at every list of items: impl.SizeOf and spec.SizeOf give the same number and code; impl writes into no argument. No condition. -/
import Derived.Test.YtficijecpgihnaaRows
import Derived.Test.YtficijecpgihnaaItL
import Derived.Test.YtficijecpgihnaaCtC
import Derived.Deep.RegionHeld3
import Derived.WalkKit
import Derived.ProofKit
import Derived.OpenShut
import Derived.ShutString
import Derived.ChangeOld
import Derived.Below
namespace Go.Proofs.Ytficijecpgihnaa.fnExactSizeOf
open Go.ChangeShapes Go.WideShapes Go.ChangeAt Go.RowKit
open Go.ChangeMaps (open_string shut_string)
set_option linter.unusedSimpArgs false
set_option linter.unusedVariables false

theorem own : ownKnob Try.prog.godebug = none := by kernel_rfl
theorem laidOut : laidOutB Try.prog = true := by kernel_rfl

set_option maxRecDepth 100000 in
set_option maxHeartbeats 2000000 in
theorem walk (v0 : Value) (D0 : List It) (w : World) (w0 : Its w v0 D0) :
    Calls Try.prog 6 #[v0] w fun e w' => e = .returned (.bool true) ∧ Below w.heap.size w w' := by
  have HI := Lib.hid w0
  obtain ⟨l0, A0, c0, rfl, _⟩ := w0
  have l0' := l0
  unfold maxLen at l0
  by_cases hbig : 1048576 < D0.length
  · have EL := Lib.hid (show leftOf 1048576 D0.length = -1 by unfold leftOf; rw [if_pos (by omega)])
    clear hbig
    go_enter Try.func6, Try.ntmps6
    go_wp2_with (go_at_call 26; refine (szItems_any _ _ _ _ _ l0' (by omega) (by omega)).mono ?_; rintro e w' ⟨rfl, rfl⟩; rw [EL.out])
    go_ret
    exact ⟨rfl, Below.refl _ _⟩
  have SP : Hid (∀ v W, Its W v D0 → Calls Try.prog 19 #[v] W (TwoOf W (sizeI D0))) := Lib.hid fun v W h => sSize_any v D0 W h
  have IP : Hid (∀ v W, Its W v D0 → Calls Try.prog 18 #[v] W (TwoOf W (sizeI D0))) := Lib.hid fun v W h => iSize_any v D0 W h
  generalize sizeI D0 = pp at *
  obtain ⟨r0, r1⟩ := pp
  have t0 : (r0 != r0) = false := by simp
  have t1 : (r1 != r1) = false := by simp
  obtain ⟨lf, hlf⟩ : ∃ lf, leftOf 1048576 D0.length = lf := ⟨_, rfl⟩
  have EL := Lib.hid hlf
  have lf0 : ¬ lf < 0 := by rw [← hlf]; unfold leftOf; rw [if_neg (by omega)]; omega
  clear hlf
  go_enter Try.func6, Try.ntmps6
  go_wp2_with (first | (go_at_call 26; refine (szItems_any _ _ _ _ _ l0' (by omega) (by omega)).mono ?_; rintro e w' ⟨rfl, rfl⟩; rw [EL.out]) | (go_at_call 27; fail))
  refine (toItemS_any _ D0 _ (its_below HI.out (Below.refl _ _)) (by omega)).mono ?_
  rintro e m1 ⟨vP, rfl, hr, -, hb⟩
  have B1 : Hid (Below w.heap.size w m1) := Lib.hid (below_step (Below.refl _ _) hb)
  have s1 : w.heap.size ≤ m1.heap.size := hb.size
  clear hb
  have P1 := Lib.hid hr
  have LP : Hid (∀ g, (vP).ownBlock = some g → w.heap.size ≤ g ∧ g < m1.heap.size) := Lib.hid (irow_lt hr)
  clear hr
  go_wp2_with fail
  refine (SP.out _ _ (irow_its P1.out)).mono ?_
  rintro e m2 ⟨rfl, hb⟩
  have B2 : Hid (Below w.heap.size w m2) := Lib.hid (below_step B1.out hb)
  have s2 : m1.heap.size ≤ m2.heap.size := hb.size
  have P2 := Lib.hid (irow_below P1.out hb)
  clear hb B1 P1
  clear P2
  go_wp2_with fail
  refine (toItemS_any _ D0 _ (its_below HI.out B2.out) (by omega)).mono ?_
  rintro e m3 ⟨vX, rfl, hr, -, hb⟩
  have B3 : Hid (Below w.heap.size w m3) := Lib.hid (below_step B2.out hb)
  have s3 : m2.heap.size ≤ m3.heap.size := hb.size
  clear hb B2
  have X3 := Lib.hid hr
  have LX : Hid (∀ g, (vX).ownBlock = some g → m2.heap.size ≤ g ∧ g < m3.heap.size) := Lib.hid (irow_lt hr)
  clear hr
  go_wp2_with fail
  refine (IP.out _ _ (irow_its X3.out)).mono ?_
  rintro e m4 ⟨rfl, hb⟩
  have B4 : Hid (Below w.heap.size w m4) := Lib.hid (below_step B3.out hb)
  have s4 : m3.heap.size ≤ m4.heap.size := hb.size
  have X4 := Lib.hid (irow_below X3.out hb)
  clear hb B3 X3
  go_wp2_with fail
  refine (toItemS_any _ D0 _ (its_below HI.out B4.out) (by omega)).mono ?_
  rintro e m5 ⟨vT, rfl, hr, -, hb⟩
  have B5 : Hid (Below w.heap.size w m5) := Lib.hid (below_step B4.out hb)
  have s5 : m4.heap.size ≤ m5.heap.size := hb.size
  have X5 := Lib.hid (irow_below X4.out hb)
  clear hb B4 X4
  have T5 := Lib.hid hr
  have LT : Hid (∀ g, (vT).ownBlock = some g → m4.heap.size ≤ g ∧ g < m5.heap.size) := Lib.hid (irow_lt hr)
  clear hr
  go_wp2_with fail
  refine (eqItemS_same _ _ D0 _ (irow_its X5.out) (irow_its T5.out)).mono ?_
  rintro e m6 ⟨rfl, hb⟩
  have B6 : Hid (Below w.heap.size w m6) := Lib.hid (below_step B5.out hb)
  have s6 : m5.heap.size ≤ m6.heap.size := hb.size
  have X6 := Lib.hid (irow_below X5.out hb)
  have T6 := Lib.hid (irow_below T5.out hb)
  clear hb B5 X5 T5
  go_wp2
  go_ret
  exact ⟨rfl, B6.out⟩

set_option maxRecDepth 100000 in
theorem lifted (os : Os) (started : os.Started) (H : Type) (enc : TypeId × Value → H) :
    ReturnsInHanded {} Try.checked os 6 .any (Rows.fnExactSizeOfSpec.pre6 enc Try.prog Try.f6 Rows.fnExactSizeOfRow.domain false) (Rows.fnExactSizeOfSpec.post enc Try.prog Try.f6 false true false false) := by
  refine returnsInHanded_of_change (C := Try.checked) own started (by kernel_rfl) Try.func6
    (ChangeSpec.witness6 (enc := enc) (C := Try.checked) false ⟨#[], #[.slice none 0 0], []⟩ 8 (by kernel_rfl) (by kernel_rfl) (by kernel_rfl) (by kernel_rfl)) ?_
  intro W base args ds gs before hval0 hW hcnd _
  have hval : ∀ (j : Nat) t v, Try.f6.params[j]? = some t → args[j]? = some v → Value.okWide Try.prog W .any base t v := hval0
  have hW' := hW
  obtain ⟨p, q, hA0, hV, rfl, hfz, hnd⟩ := hW
  have hA : DataW.TrodAll enc Try.prog W 0 (fun _ => true) true Try.f6.params.toList args.toList ds p := hA0
  rw [Try.params6] at hA hval
  obtain ⟨v0, vs0, d0, ds0, p0, q0, hargs, rfl, rfl, h0, r0⟩ := trodAll_cons hA
  obtain ⟨rfl, rfl, rfl⟩ := trodAll_nil r0
  obtain rfl : args = #[v0] := by cases args; simp_all
  obtain ⟨rfl, rfl⟩ := trodVars_none hV
  have k0 := h0
  have lt0 : ∀ x ∈ p0, x.block < W.heap.size := by obtain ⟨m, hm⟩ := k0; exact DataW.trod_lt m _ _ _ hm
  obtain ⟨D0, w0⟩ := open_items (hval 0 40 v0 rfl rfl) h0
  clear hA0 hval0
  refine (walk v0 D0 W w0).mono fun e W' ⟨he, bel⟩ => ?_
  subst he
  exact ⟨_, rfl, _, _, _, [], _, [], hW', trodAll_mk1 (shut_bool Try.underlying4 _), (trodAll_cons_mk (Below.trod laidOut (by kernel_rfl) (of_decide_eq_true (by kernel_rfl)) k0 bel lt0) trodAll_mk0), rfl, bel.frame _, fun h => by cases h⟩

theorem over : Rows.fnExactSizeOfRow.holds Try.pinned (OpenSpec.ofChange Rows.fnExactSizeOfSpec) :=
  OpenClaim.holds_of_wide 6 Try.f6 rfl rfl rfl rfl rfl rfl rfl ⟨rfl, rfl, rfl, rfl, rfl⟩ rfl rfl rfl rfl rfl (by kernel_rfl) Try.func6 (by kernel_rfl)
    (of_decide_eq_true (by kernel_rfl)) (by unfold Func.isWrapper; first | (rw [if_pos (by decide +kernel)]; kernel_rfl) | (rw [if_neg (by decide +kernel)]; exact ⟨rfl, rfl⟩))
    (fun os started H enc _ => lifted os started H enc)

/-- The statement. -/
theorem proved : Rows.FnExactSizeOfSaid := over
#print axioms proved
end Go.Proofs.Ytficijecpgihnaa.fnExactSizeOf
