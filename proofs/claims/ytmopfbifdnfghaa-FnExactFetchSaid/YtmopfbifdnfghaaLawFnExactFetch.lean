/- laws.FnExactFetch returns true at every argument: impl.Fetch and spec.Fetch give the same cell, throw and code, and impl.Fetch writes into no argument. No condition. -/
import Derived.Test.YtmopfbifdnfghaaRows
import Derived.Test.YtmopfbifdnfghaaDatZ
import Derived.Test.YtmopfbifdnfghaaDatL
import Derived.Deep.RegionHeld3
import Derived.WalkKit
import Derived.ProofKit
import Derived.OpenShut
import Derived.ShutString
import Derived.ChangeOld
import Derived.Below
namespace Go.Proofs.Ytmopfbifdnfghaa.fnExactFetch
open Go.ChangeShapes Go.WideShapes Go.ChangeAt Go.RowKit
open Go.ChangeMaps (open_string shut_string)
set_option linter.unusedSimpArgs false
set_option linter.unusedVariables false

theorem own : ownKnob Try.prog.godebug = none := by kernel_rfl
theorem laidOut : laidOutB Try.prog = true := by kernel_rfl

theorem walk (v0 : Value) (D0 : Dt) (a1 : Int) (w : World) (w0 : DatIn w v0 D0) (w1 : (Lit.int .i64 a1).wf = true) :
    Calls Try.prog 9 #[v0, .int .i64 a1] w fun e w' => e = .returned (.bool true) ∧ Below w.heap.size w w' := by
  have HD := w0
  obtain ⟨A1, k1, A2, k2, A3, k3, rfl⟩ := datIn_form w0
  clear w0
  have hx := (bounds_i64 w1).2
  clear w1
  have SP : Hid (∀ v W, DatIn W v D0 → Calls Try.prog 39 #[v, .int .i64 a1] W (NumsOf W [(dFetch D0 a1).1, (dFetch D0 a1).2.1, (dFetch D0 a1).2.2])) := Lib.hid fun v W h => sFetch_any v D0 a1 W h
  have IP : Hid (∀ v W, DatIn W v D0 → Calls Try.prog 23 #[v, .int .i64 a1] W (NumsOf W [(dFetch D0 a1).1, (dFetch D0 a1).2.1, (dFetch D0 a1).2.2])) := Lib.hid fun v W h => iFetch_any v D0 a1 W h hx
  generalize dFetch D0 a1 = pp at *
  obtain ⟨n0, n1, n2⟩ := pp
  simp only at *
  have t0 : (n0 != n0) = false := by simp
  have t1 : (n1 != n1) = false := by simp
  have t2 : (n2 != n2) = false := by simp
  go_enter Try.func9, Try.ntmps9
  go_wp2_with fail
  refine (szData_any _ D0 1048576 _ (datIn_below HD (below_alloc (Below.refl _ _) _)) (by omega) (by omega)).mono ?_
  rintro e w1 ⟨r, rfl, hr, hb⟩
  have B1 := below_step (below_alloc (Below.refl _ _) _) hb
  have V1 := whole_below (whole_new w _ _) hb
  clear hb
  rcases hr with rfl | ⟨h0, h1, hs⟩
  · go_wp2
    go_ret
    exact ⟨rfl, B1⟩
  obtain ⟨c0, c1, c2, c3, c4, c5⟩ := six_cells V1
  go_wp2_with fail
  clear c0 c1 c2 c3 c4 c5
  refine (toData_any _ D0 _ (datIn_below HD B1) hs).mono ?_
  rintro e w2 ⟨u, rfl, hu, hb⟩
  have B2 := below_step B1 hb
  have V2 := whole_below V1 hb
  clear hb V1 B1
  go_wp2_with fail
  refine (SP.out _ _ (datOf_in hu)).mono ?_
  rintro e w3 ⟨rfl, hb⟩
  have B3 := below_step B2 hb
  have V3 := whole_below V2 hb
  clear hb V2 B2 hu
  simp only [List.map_cons, List.map_nil]
  obtain ⟨c0, c1, c2, c3, c4, c5⟩ := six_cells V3
  go_wp2_with fail
  clear c0 c1 c2 c3 c4 c5
  refine (toData_any _ D0 _ (datIn_below HD B3) hs).mono ?_
  rintro e w4 ⟨u', rfl, hu, hb⟩
  obtain ⟨A1', k1', A2', k2', A3', k3', rfl⟩ := datIn_form (datOf_in hu)
  have B4 := below_step B3 hb
  have V4 := whole_below V3 hb
  clear hb V3 B3
  go_wp2_with fail
  refine (IP.out _ _ (datOf_in (datOf_below hu (below_alloc (Below.refl _ _) _)))).mono ?_
  rintro e w5 ⟨rfl, hb⟩
  have B5 := below_step (below_alloc B4 _) hb
  have V5 := whole_below (whole_alloc V4 _) hb
  have X5 := whole_below (whole_new w4 _ _) hb
  have U5 := datOf_below (datOf_below hu (below_alloc (Below.refl _ _) _)) hb
  clear hb V4 B4 hu
  simp only [List.map_cons, List.map_nil]
  go_wp2_with fail
  go_region_held3 (fun w' => (w'.cell? ⟨w.heap.size, 0, none⟩ = some (.slice A1 D0.s.length k1) ∧ w'.cell? ⟨w.heap.size, 1, none⟩ = some (.slice A2 D0.b.length k2) ∧ w'.cell? ⟨w.heap.size, 2, none⟩ = some (.slice A3 D0.c.length k3) ∧ w'.cell? ⟨w.heap.size, 3, none⟩ = some (.int .i64 D0.h) ∧ w'.cell? ⟨w.heap.size, 4, none⟩ = some (.int .i64 D0.n) ∧ w'.cell? ⟨w.heap.size, 5, none⟩ = some (.string D0.o)) ∧ (w'.cell? ⟨w4.heap.size, 0, none⟩ = some (.slice A1' D0.s.length k1') ∧ w'.cell? ⟨w4.heap.size, 1, none⟩ = some (.slice A2' D0.b.length k2') ∧ w'.cell? ⟨w4.heap.size, 2, none⟩ = some (.slice A3' D0.c.length k3') ∧ w'.cell? ⟨w4.heap.size, 3, none⟩ = some (.int .i64 D0.h) ∧ w'.cell? ⟨w4.heap.size, 4, none⟩ = some (.int .i64 D0.n) ∧ w'.cell? ⟨w4.heap.size, 5, none⟩ = some (.string D0.o))) (exact ⟨six_cells (by assumption), six_cells (by assumption)⟩)
    (first
      | (go_at_call 36; refine (toData_any _ D0 _ (datIn_below HD (by first | exact B5 | exact B5.drew)) hs).mono ?_; rintro e w6 ⟨u', rfl, hu, hb⟩; have V6 := whole_b hb V5; have X6 := whole_b hb X5; have U6 := datOf_b hb U5; have B6 : Below w.heap.size w w6 := (by first | exact below_b hb B5.drew | exact below_b hb B5); clear hb)
      | (go_at_call 31; refine (eqData_same _ _ D0 _ (datOf_in (by exact U6)) (datOf_in (by exact hu))).mono ?_; rintro e w7 ⟨rfl, hb⟩; have V7 := whole_b hb V6; have X7 := whole_b hb X6; have B7 : Below w.heap.size w w7 := (by first | exact below_b hb B6 | exact below_b hb B6.drew); clear hb))
  go_wp2
  go_ret
  exact ⟨rfl, B7⟩

set_option maxRecDepth 100000 in
theorem lifted (os : Os) (started : os.Started) (H : Type) (enc : TypeId × Value → H) :
    ReturnsInHanded {} Try.checked os 9 .any (Rows.fnExactFetchSpec.pre6 enc Try.prog Try.f9 Rows.fnExactFetchRow.domain false) (Rows.fnExactFetchSpec.post enc Try.prog Try.f9 false true false false) := by
  refine returnsInHanded_of_change (C := Try.checked) own started (by kernel_rfl) Try.func9
    (ChangeSpec.witness6 (enc := enc) (C := Try.checked) false ⟨#[], #[.agg #[.slice none 0 0, .slice none 0 0, .slice none 0 0, .int .i64 0, .int .i64 0, .string ByteArray.empty], .int .i64 0], []⟩ 8 (by kernel_rfl) (by kernel_rfl) (by kernel_rfl) (by kernel_rfl)) ?_
  intro W base args ds gs before hval0 hW hcnd _
  have hval : ∀ (j : Nat) t v, Try.f9.params[j]? = some t → args[j]? = some v → Value.okWide Try.prog W .any base t v := hval0
  have hW' := hW
  obtain ⟨p, q, hA0, hV, rfl, hfz, hnd⟩ := hW
  have hA : DataW.TrodAll enc Try.prog W 0 (fun _ => true) true Try.f9.params.toList args.toList ds p := hA0
  rw [Try.params9] at hA hval
  obtain ⟨v0, vs0, d0, ds0, p0, q0, hargs, rfl, rfl, h0, r0⟩ := trodAll_cons hA
  obtain ⟨v1, vs1, d1, ds1, p1, q1, rfl, rfl, rfl, h1, r1⟩ := trodAll_cons r0
  obtain ⟨rfl, rfl, rfl⟩ := trodAll_nil r1
  obtain rfl : args = #[v0, v1] := by cases args; simp_all
  obtain ⟨rfl, rfl⟩ := trodVars_none hV
  have k0 := h0
  have lt0 : ∀ x ∈ p0, x.block < W.heap.size := by obtain ⟨m, hm⟩ := k0; exact DataW.trod_lt m _ _ _ hm
  obtain ⟨D0, w0⟩ := open_data (hval 0 43 v0 rfl rfl) h0
  obtain ⟨a1, rfl, rfl, rfl, w1⟩ := open_int Try.underlying3 (hval 1 3 v1 rfl rfl) h1
  clear hA0 hval0
  refine (walk v0 D0 a1 W w0 w1).mono fun e W' ⟨he, bel⟩ => ?_
  subst he
  exact ⟨_, rfl, _, _, _, [], _, [], hW', trodAll_mk1 (shut_bool Try.underlying4 _), (trodAll_cons_mk (Below.trod laidOut (by kernel_rfl) (of_decide_eq_true (by kernel_rfl)) k0 bel lt0) (trodAll_cons_mk (shut_int Try.underlying3 w1) trodAll_mk0)), rfl, bel.frame _, fun h => by cases h⟩

theorem over : Rows.fnExactFetchRow.holds Try.pinned (OpenSpec.ofChange Rows.fnExactFetchSpec) :=
  OpenClaim.holds_of_wide 9 Try.f9 rfl rfl rfl rfl rfl rfl rfl ⟨rfl, rfl, rfl, rfl, rfl⟩ rfl rfl rfl rfl rfl (by kernel_rfl) Try.func9 (by kernel_rfl)
    (of_decide_eq_true (by kernel_rfl)) (by unfold Func.isWrapper; first | (rw [if_pos (by decide +kernel)]; kernel_rfl) | (rw [if_neg (by decide +kernel)]; exact ⟨rfl, rfl⟩))
    (fun os started H enc _ => lifted os started H enc)

/-- The statement. -/
theorem proved : Rows.FnExactFetchSaid := over
#print axioms proved
end Go.Proofs.Ytmopfbifdnfghaa.fnExactFetch
