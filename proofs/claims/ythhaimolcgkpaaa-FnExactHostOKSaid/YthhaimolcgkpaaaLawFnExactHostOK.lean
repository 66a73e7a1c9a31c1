/- laws.FnExactHostOK returns true at every argument: impl.HostOK and spec.HostOK give the same answer, and impl.HostOK writes into no argument. No condition. -/
import Derived.Test.YthhaimolcgkpaaaRows
import Derived.Test.YthhaimolcgkpaaaHoL
import Derived.Test.YthhaimolcgkpaaaHiB
import Derived.Test.YthhaimolcgkpaaaHsH
import Derived.Deep.RegionHeld3
import Derived.WalkKit
import Derived.ProofKit
import Derived.OpenShut
import Derived.ShutString
import Derived.ChangeOld
import Derived.Below
namespace Go.Proofs.Ythhaimolcgkpaaa.fnExactHostOK
open Go.ChangeShapes Go.WideShapes Go.ChangeAt Go.RowKit
open Go.ChangeMaps (open_string shut_string)
set_option linter.unusedSimpArgs false
set_option linter.unusedVariables false

theorem own : ownKnob Try.prog.godebug = none := by kernel_rfl
theorem laidOut : laidOutB Try.prog = true := by kernel_rfl

set_option maxRecDepth 100000 in
set_option maxHeartbeats 2000000 in
theorem walk (v0 : Value) (D0 : Ht) (w : World) (w0 : HostIn w v0 D0) :
    Calls Try.prog 5 #[v0] w fun e w' => e = .returned (.bool true) ∧ Below w.heap.size w w' := by
  have HD := w0
  obtain ⟨A1, k1, A2, k2, A3, k3, A4, k4, rfl⟩ := hostIn_form w0
  clear w0
  go_enter Try.func5, Try.ntmps5
  go_wp2_with fail
  refine (szHost_any _ D0 1048576 _ (hostIn_below HD (below_alloc (Below.refl _ _) _)) (by omega) (by omega)).mono ?_
  rintro e w1 ⟨r, rfl, hr, hb⟩
  have B1 := below_step (below_alloc (Below.refl _ _) _) hb
  have V1 := whole_below (whole_new w _ _) hb
  clear hb
  rcases hr with rfl | ⟨h0, h1, hs⟩
  · go_wp2
    go_ret
    exact ⟨rfl, B1⟩
  obtain ⟨c0, c1, c2, c3, c4⟩ := five_cells V1
  go_wp2_with fail
  clear c0 c1 c2 c3 c4
  refine (toHost_any _ D0 _ (hostIn_below HD B1) hs).mono ?_
  rintro e w2 ⟨u, rfl, hu, hb⟩
  have B2 := below_step B1 hb
  have V2 := whole_below V1 hb
  clear hb V1 B1
  go_wp2_with fail
  refine (sHostOK_any _ D0 _ (hostOf_in hu)).mono ?_
  rintro e w3 ⟨rfl, hb⟩
  have B3 := below_step B2 hb
  have V3 := whole_below V2 hb
  clear hb V2 B2 hu
  obtain ⟨c0, c1, c2, c3, c4⟩ := five_cells V3
  go_wp2_with fail
  clear c0 c1 c2 c3 c4
  refine (toHost_any _ D0 _ (hostIn_below HD B3) hs).mono ?_
  rintro e w4 ⟨u', rfl, hu, hb⟩
  obtain ⟨A1', k1', A2', k2', A3', k3', A4', k4', rfl⟩ := hostIn_form (hostOf_in hu)
  have B4 := below_step B3 hb
  have V4 := whole_below V3 hb
  clear hb V3 B3
  go_wp2_with fail
  refine (iHOK_any _ D0 _ (hostOf_in (hostOf_below hu (below_alloc (Below.refl _ _) _)))).mono ?_
  rintro e w5 ⟨rfl, hb⟩
  have B5 := below_step (below_alloc B4 _) hb
  have V5 := whole_below (whole_alloc V4 _) hb
  have X5 := whole_below (whole_new w4 _ _) hb
  have U5 := hostOf_below (hostOf_below hu (below_alloc (Below.refl _ _) _)) hb
  clear hb V4 B4 hu
  have ts : (hOK D0 != hOK D0) = false := by simp
  go_wp2_with fail
  go_region_held3 (fun w' => (w'.cell? ⟨w.heap.size, 0, none⟩ = some (.slice A1 D0.g.length k1) ∧ w'.cell? ⟨w.heap.size, 1, none⟩ = some (.slice A2 D0.s.length k2) ∧ w'.cell? ⟨w.heap.size, 2, none⟩ = some (.slice A3 D0.n.length k3) ∧ w'.cell? ⟨w.heap.size, 3, none⟩ = some (.int .i64 D0.c) ∧ w'.cell? ⟨w.heap.size, 4, none⟩ = some (.slice A4 D0.d.length k4)) ∧ (w'.cell? ⟨w4.heap.size, 0, none⟩ = some (.slice A1' D0.g.length k1') ∧ w'.cell? ⟨w4.heap.size, 1, none⟩ = some (.slice A2' D0.s.length k2') ∧ w'.cell? ⟨w4.heap.size, 2, none⟩ = some (.slice A3' D0.n.length k3') ∧ w'.cell? ⟨w4.heap.size, 3, none⟩ = some (.int .i64 D0.c) ∧ w'.cell? ⟨w4.heap.size, 4, none⟩ = some (.slice A4' D0.d.length k4'))) (exact ⟨five_cells (by assumption), five_cells (by assumption)⟩)
    (first
      | (go_at_call 27; refine (toHost_any _ D0 _ (hostIn_below HD (by first | exact B5 | exact B5.drew)) hs).mono ?_; rintro e w6 ⟨u', rfl, hu, hb⟩; have V6 := whole_b hb V5; have X6 := whole_b hb X5; have U6 := hostOf_b hb U5; have B6 : Below w.heap.size w w6 := (by first | exact below_b hb B5.drew | exact below_b hb B5); clear hb)
      | (go_at_call 22; refine (eqHost_same _ _ D0 _ (hostOf_in (by exact U6)) (hostOf_in (by exact hu))).mono ?_; rintro e w7 ⟨rfl, hb⟩; have V7 := whole_b hb V6; have X7 := whole_b hb X6; have B7 : Below w.heap.size w w7 := (by first | exact below_b hb B6 | exact below_b hb B6.drew); clear hb))
  go_wp2
  go_ret
  exact ⟨rfl, B7⟩

set_option maxRecDepth 100000 in
theorem lifted (os : Os) (started : os.Started) (H : Type) (enc : TypeId × Value → H) :
    ReturnsInHanded {} Try.checked os 5 .any (Rows.fnExactHostOKSpec.pre6 enc Try.prog Try.f5 Rows.fnExactHostOKRow.domain false) (Rows.fnExactHostOKSpec.post enc Try.prog Try.f5 false true false false) := by
  refine returnsInHanded_of_change (C := Try.checked) own started (by kernel_rfl) Try.func5
    (ChangeSpec.witness6 (enc := enc) (C := Try.checked) false ⟨#[], #[.agg #[.slice none 0 0, .slice none 0 0, .slice none 0 0, .int .i64 0, .slice none 0 0]], []⟩ 8 (by kernel_rfl) (by kernel_rfl) (by kernel_rfl) (by kernel_rfl)) ?_
  intro W base args ds gs before hval0 hW hcnd _
  have hval : ∀ (j : Nat) t v, Try.f5.params[j]? = some t → args[j]? = some v → Value.okWide Try.prog W .any base t v := hval0
  have hW' := hW
  obtain ⟨p, q, hA0, hV, rfl, hfz, hnd⟩ := hW
  have hA : DataW.TrodAll enc Try.prog W 0 (fun _ => true) true Try.f5.params.toList args.toList ds p := hA0
  rw [Try.params5] at hA hval
  obtain ⟨v0, vs0, d0, ds0, p0, q0, hargs, rfl, rfl, h0, r0⟩ := trodAll_cons hA
  obtain ⟨rfl, rfl, rfl⟩ := trodAll_nil r0
  obtain rfl : args = #[v0] := by cases args; simp_all
  obtain ⟨rfl, rfl⟩ := trodVars_none hV
  have k0 := h0
  have lt0 : ∀ x ∈ p0, x.block < W.heap.size := by obtain ⟨m, hm⟩ := k0; exact DataW.trod_lt m _ _ _ hm
  obtain ⟨D0, w0⟩ := open_host (hval 0 48 v0 rfl rfl) h0
  clear hA0 hval0
  refine (walk v0 D0 W w0).mono fun e W' ⟨he, bel⟩ => ?_
  subst he
  exact ⟨_, rfl, _, _, _, [], _, [], hW', trodAll_mk1 (shut_bool Try.underlying4 _), (trodAll_cons_mk (Below.trod laidOut (by kernel_rfl) (of_decide_eq_true (by kernel_rfl)) k0 bel lt0) trodAll_mk0), rfl, bel.frame _, fun h => by cases h⟩

theorem over : Rows.fnExactHostOKRow.holds Try.pinned (OpenSpec.ofChange Rows.fnExactHostOKSpec) :=
  OpenClaim.holds_of_wide 5 Try.f5 rfl rfl rfl rfl rfl rfl rfl ⟨rfl, rfl, rfl, rfl, rfl⟩ rfl rfl rfl rfl rfl (by kernel_rfl) Try.func5 (by kernel_rfl)
    (of_decide_eq_true (by kernel_rfl)) (by unfold Func.isWrapper; first | (rw [if_pos (by decide +kernel)]; kernel_rfl) | (rw [if_neg (by decide +kernel)]; exact ⟨rfl, rfl⟩))
    (fun os started H enc _ => lifted os started H enc)

/-- The statement. -/
theorem proved : Rows.FnExactHostOKSaid := over
#print axioms proved
end Go.Proofs.Ythhaimolcgkpaaa.fnExactHostOK
