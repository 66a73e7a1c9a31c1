/- laws.FnExactSameData returns true at every two arguments: impl.SameData and spec.SameData give the same answer, and impl.SameData writes into no argument. No condition. -/
import Derived.Test.YtmopfbifdnfghaaRows
import Derived.Test.YtmopfbifdnfghaaDatJ
import Derived.Test.YtmopfbifdnfghaaDatL
import Derived.Deep.RegionHeld3
import Derived.WalkKit
import Derived.ProofKit
import Derived.OpenShut
import Derived.ShutString
import Derived.ChangeOld
import Derived.Below
namespace Go.Proofs.Ytmopfbifdnfghaa.fnExactSameData
open Go.ChangeShapes Go.WideShapes Go.ChangeAt Go.RowKit
open Go.ChangeMaps (open_string shut_string)
set_option linter.unusedSimpArgs false
set_option linter.unusedVariables false

theorem own : ownKnob Try.prog.godebug = none := by kernel_rfl
theorem laidOut : laidOutB Try.prog = true := by kernel_rfl

set_option maxRecDepth 100000 in
set_option maxHeartbeats 2000000 in
theorem walk (v0 : Value) (D0 : Dt) (v1 : Value) (D1 : Dt) (w : World) (w0 : DatIn w v0 D0) (w1 : DatIn w v1 D1) :
    Calls Try.prog 13 #[v0, v1] w fun e w' => e = .returned (.bool true) ∧ Below w.heap.size w w' := by
  have HD0 := w0
  have HD1 := w1
  obtain ⟨A1, k1, A2, k2, A3, k3, rfl⟩ := datIn_form w0
  obtain ⟨C1, j1, C2, j2, C3, j3, rfl⟩ := datIn_form w1
  clear w0 w1
  have SS : Hid (∀ u v W, DatIn W u D0 → DatIn W v D1 → Calls Try.prog 40 #[u, v] W fun e w' => e = .returned (.bool (sameV D0 D1)) ∧ Below W.heap.size W w') := Lib.hid fun u v W h k => sSameData_any u v D0 D1 W h k
  have IS : Hid (∀ u v W, DatIn W u D0 → DatIn W v D1 → Calls Try.prog 18 #[u, v] W fun e w' => e = .returned (.bool (sameV D0 D1)) ∧ Below W.heap.size W w') := Lib.hid fun u v W h k => iSameData_any u v D0 D1 W h k
  generalize sameV D0 D1 = sv at *
  have ts : (sv != sv) = false := by simp
  go_enter Try.func13, Try.ntmps13
  go_wp2_with fail
  refine (szData_any _ D0 1048576 _ (datIn_below HD0 (below_alloc (below_alloc (Below.refl _ _) _) _)) (by omega) (by omega)).mono ?_
  rintro e m1 ⟨r, rfl, hr, hb⟩
  have B := below_step (below_alloc (below_alloc (Below.refl _ _) _) _) hb
  have V := whole_b hb (whole_alloc (whole_new w _ _) _)
  have Y := whole_b hb (whole_new1 w _ _ _)
  clear hb
  rcases hr with rfl | ⟨h0, h1, hs0⟩
  · go_wp2
    go_ret
    exact ⟨rfl, B⟩
  obtain ⟨c0, c1, c2, c3, c4, c5⟩ := six_cells Y
  go_wp2_with fail
  clear c0 c1 c2 c3 c4 c5
  refine (szData_any _ D1 r _ (datIn_below HD1 B) (by omega) (by omega)).mono ?_
  rintro e m2 ⟨r', rfl, hr, hb⟩
  have B := below_b hb B
  have V := whole_b hb V
  have Y := whole_b hb Y
  clear hb
  rcases hr with rfl | ⟨h0', h1', hs1⟩
  · go_wp2
    go_ret
    exact ⟨rfl, B⟩
  go_wp2_with fail
  go_region_held3 (fun w' => (w'.cell? ⟨w.heap.size, 0, none⟩ = some (.slice A1 D0.s.length k1) ∧ w'.cell? ⟨w.heap.size, 1, none⟩ = some (.slice A2 D0.b.length k2) ∧ w'.cell? ⟨w.heap.size, 2, none⟩ = some (.slice A3 D0.c.length k3) ∧ w'.cell? ⟨w.heap.size, 3, none⟩ = some (.int .i64 D0.h) ∧ w'.cell? ⟨w.heap.size, 4, none⟩ = some (.int .i64 D0.n) ∧ w'.cell? ⟨w.heap.size, 5, none⟩ = some (.string D0.o)) ∧ (w'.cell? ⟨w.heap.size + 1, 0, none⟩ = some (.slice C1 D1.s.length j1) ∧ w'.cell? ⟨w.heap.size + 1, 1, none⟩ = some (.slice C2 D1.b.length j2) ∧ w'.cell? ⟨w.heap.size + 1, 2, none⟩ = some (.slice C3 D1.c.length j3) ∧ w'.cell? ⟨w.heap.size + 1, 3, none⟩ = some (.int .i64 D1.h) ∧ w'.cell? ⟨w.heap.size + 1, 4, none⟩ = some (.int .i64 D1.n) ∧ w'.cell? ⟨w.heap.size + 1, 5, none⟩ = some (.string D1.o))) (exact ⟨six_cells (by assumption), six_cells (by assumption)⟩)
    (first
      | (go_at_call 36
         first
           | ((with_reducible refine (toData_any (.agg #[.slice A1 D0.s.length k1, .slice A2 D0.b.length k2, .slice A3 D0.c.length k3, .int .i64 D0.h, .int .i64 D0.n, .string D0.o]) D0 _ ?_ hs0).mono ?_)
              · exact datIn_below HD0 (by first | exact B | exact B.drew)
              rintro e mA ⟨uA, rfl, UA, hb⟩
              have V := whole_b hb V
              have Y := whole_b hb Y
              (try (have UB := datOf_b hb UB))
              have B : Below w.heap.size w mA := (by first | exact below_b hb B.drew | exact below_b hb B)
              clear hb)
           | ((with_reducible refine (toData_any (.agg #[.slice C1 D1.s.length j1, .slice C2 D1.b.length j2, .slice C3 D1.c.length j3, .int .i64 D1.h, .int .i64 D1.n, .string D1.o]) D1 _ ?_ hs1).mono ?_)
              · exact datIn_below HD1 (by first | exact B | exact B.drew)
              rintro e mB ⟨uB, rfl, UB, hb⟩
              have V := whole_b hb V
              have Y := whole_b hb Y
              (try (have UA := datOf_b hb UA))
              have B : Below w.heap.size w mB := (by first | exact below_b hb B.drew | exact below_b hb B)
              clear hb))
      | (go_at_call 40
         refine (SS.out _ _ _ (datOf_in (by exact UA)) (datOf_in (by exact UB))).mono ?_
         rintro e m3 ⟨rfl, hb⟩
         have V := whole_b hb V
         have Y := whole_b hb Y
         have B : Below w.heap.size w m3 := (by first | exact below_b hb B.drew | exact below_b hb B)
         clear hb))
  all_goals
    obtain ⟨c0, c1, c2, c3, c4, c5⟩ := six_cells V
    go_wp2_with fail
    clear c0 c1 c2 c3 c4 c5
    refine (toData_any _ D0 _ (datIn_below HD0 B) hs0).mono ?_
    rintro e m4 ⟨ux, rfl, UX4, hb⟩
    obtain ⟨E1, i1, E2, i2, E3, i3, rfl⟩ := datIn_form (datOf_in UX4)
    have B4 := below_b hb B
    have V4 := whole_b hb V
    have Y4 := whole_b hb Y
    have zy := whole_lt Y4
    obtain ⟨c0, c1, c2, c3, c4, c5⟩ := six_cells Y4
    clear hb
    go_wp2_with fail
    clear c0 c1 c2 c3 c4 c5
    refine (toData_any _ D1 _ (datIn_below HD1 (below_alloc B4 _)) hs1).mono ?_
    rintro e m5 ⟨uz, rfl, UZ5, hb⟩
    obtain ⟨G1, g1, G2, g2, G3, g3, rfl⟩ := datIn_form (datOf_in UZ5)
    have B5 := below_b hb (below_alloc B4 _)
    have V5 := whole_b hb (whole_alloc V4 _)
    have Y5 := whole_b hb (whole_alloc Y4 _)
    have X5 := whole_b hb (whole_new m4 _ _)
    have UX5 := datOf_b hb (datOf_below UX4 (below_alloc (Below.refl _ _) _))
    have zx := whole_lt X5
    obtain ⟨c0, c1, c2, c3, c4, c5⟩ := six_cells X5
    clear hb V4 Y4 B4 UX4 zy
    go_wp2_with fail
    clear c0 c1 c2 c3 c4 c5
    refine (IS.out _ _ _ (datOf_in (datOf_below UX5 (below_alloc (Below.refl _ _) _))) (datOf_in (datOf_below UZ5 (below_alloc (Below.refl _ _) _)))).mono ?_
    rintro e m6 ⟨rfl, hb⟩
    have B6 := below_b hb (below_alloc B5 _)
    have V6 := whole_b hb (whole_alloc V5 _)
    have Y6 := whole_b hb (whole_alloc Y5 _)
    have X6 := whole_b hb (whole_alloc X5 _)
    have Z6 := whole_b hb (whole_new m5 _ _)
    have UX6 := datOf_b hb (datOf_below UX5 (below_alloc (Below.refl _ _) _))
    have UZ6 := datOf_b hb (datOf_below UZ5 (below_alloc (Below.refl _ _) _))
    clear hb V5 Y5 X5 B5 UX5 UZ5 zx
    go_wp2_with fail
    go_region_held3 (fun w' => (w'.cell? ⟨w.heap.size, 0, none⟩ = some (.slice A1 D0.s.length k1) ∧ w'.cell? ⟨w.heap.size, 1, none⟩ = some (.slice A2 D0.b.length k2) ∧ w'.cell? ⟨w.heap.size, 2, none⟩ = some (.slice A3 D0.c.length k3) ∧ w'.cell? ⟨w.heap.size, 3, none⟩ = some (.int .i64 D0.h) ∧ w'.cell? ⟨w.heap.size, 4, none⟩ = some (.int .i64 D0.n) ∧ w'.cell? ⟨w.heap.size, 5, none⟩ = some (.string D0.o)) ∧ (w'.cell? ⟨m4.heap.size, 0, none⟩ = some (.slice E1 D0.s.length i1) ∧ w'.cell? ⟨m4.heap.size, 1, none⟩ = some (.slice E2 D0.b.length i2) ∧ w'.cell? ⟨m4.heap.size, 2, none⟩ = some (.slice E3 D0.c.length i3) ∧ w'.cell? ⟨m4.heap.size, 3, none⟩ = some (.int .i64 D0.h) ∧ w'.cell? ⟨m4.heap.size, 4, none⟩ = some (.int .i64 D0.n) ∧ w'.cell? ⟨m4.heap.size, 5, none⟩ = some (.string D0.o))) (exact ⟨six_cells (by assumption), six_cells (by assumption)⟩)
      (first
        | (go_at_call 36; refine (toData_any _ D0 _ (datIn_below HD0 (by first | exact B6 | exact B6.drew)) hs0).mono ?_; rintro e m7 ⟨ut, rfl, UT7, hb⟩; have V7 := whole_b hb V6; have Y7 := whole_b hb Y6; have X7 := whole_b hb X6; have Z7 := whole_b hb Z6; have UX7 := datOf_b hb UX6; have UZ7 := datOf_b hb UZ6; have B7 : Below w.heap.size w m7 := (by first | exact below_b hb B6.drew | exact below_b hb B6); clear hb)
        | (go_at_call 31; refine (eqData_same _ _ D0 _ (datOf_in (by exact UX7)) (datOf_in (by exact UT7))).mono ?_; rintro e m8 ⟨rfl, hb⟩; have V8 := whole_b hb V7; have Y8 := whole_b hb Y7; have X8 := whole_b hb X7; have Z8 := whole_b hb Z7; have UZ8 := datOf_b hb UZ7; have B8 : Below w.heap.size w m8 := (by first | exact below_b hb B7 | exact below_b hb B7.drew); clear hb))
    clear UT7 UX7 UX6 UZ6 UZ7 V6 V7 Y6 Y7 X6 X7 Z6 Z7 B6 B7
    go_wp2_with fail
    go_region_held3 (fun w' => (w'.cell? ⟨w.heap.size + 1, 0, none⟩ = some (.slice C1 D1.s.length j1) ∧ w'.cell? ⟨w.heap.size + 1, 1, none⟩ = some (.slice C2 D1.b.length j2) ∧ w'.cell? ⟨w.heap.size + 1, 2, none⟩ = some (.slice C3 D1.c.length j3) ∧ w'.cell? ⟨w.heap.size + 1, 3, none⟩ = some (.int .i64 D1.h) ∧ w'.cell? ⟨w.heap.size + 1, 4, none⟩ = some (.int .i64 D1.n) ∧ w'.cell? ⟨w.heap.size + 1, 5, none⟩ = some (.string D1.o)) ∧ (w'.cell? ⟨m5.heap.size, 0, none⟩ = some (.slice G1 D1.s.length g1) ∧ w'.cell? ⟨m5.heap.size, 1, none⟩ = some (.slice G2 D1.b.length g2) ∧ w'.cell? ⟨m5.heap.size, 2, none⟩ = some (.slice G3 D1.c.length g3) ∧ w'.cell? ⟨m5.heap.size, 3, none⟩ = some (.int .i64 D1.h) ∧ w'.cell? ⟨m5.heap.size, 4, none⟩ = some (.int .i64 D1.n) ∧ w'.cell? ⟨m5.heap.size, 5, none⟩ = some (.string D1.o))) (exact ⟨six_cells (by assumption), six_cells (by assumption)⟩)
      (first
        | (go_at_call 36; refine (toData_any _ D1 _ (datIn_below HD1 (by first | exact B8 | exact B8.drew)) hs1).mono ?_; rintro e m9 ⟨ut, rfl, UT9, hb⟩; have Y9 := whole_b hb Y8; have Z9 := whole_b hb Z8; have UZ9 := datOf_b hb UZ8; have B9 : Below w.heap.size w m9 := (by first | exact below_b hb B8.drew | exact below_b hb B8); clear hb)
        | (go_at_call 31; refine (eqData_same _ _ D1 _ (datOf_in (by exact UZ9)) (datOf_in (by exact UT9))).mono ?_; rintro e m10 ⟨rfl, hb⟩; have Y10 := whole_b hb Y9; have Z10 := whole_b hb Z9; have B10 : Below w.heap.size w m10 := (by first | exact below_b hb B9 | exact below_b hb B9.drew); clear hb))
    go_wp2
    go_ret
    exact ⟨rfl, B10⟩

set_option maxRecDepth 100000 in
theorem lifted (os : Os) (started : os.Started) (H : Type) (enc : TypeId × Value → H) :
    ReturnsInHanded {} Try.checked os 13 .any (Rows.fnExactSameDataSpec.pre6 enc Try.prog Try.f13 Rows.fnExactSameDataRow.domain false) (Rows.fnExactSameDataSpec.post enc Try.prog Try.f13 false true false false) := by
  refine returnsInHanded_of_change (C := Try.checked) own started (by kernel_rfl) Try.func13
    (ChangeSpec.witness6 (enc := enc) (C := Try.checked) false ⟨#[], #[.agg #[.slice none 0 0, .slice none 0 0, .slice none 0 0, .int .i64 0, .int .i64 0, .string ByteArray.empty], .agg #[.slice none 0 0, .slice none 0 0, .slice none 0 0, .int .i64 0, .int .i64 0, .string ByteArray.empty]], []⟩ 8 (by kernel_rfl) (by kernel_rfl) (by kernel_rfl) (by kernel_rfl)) ?_
  intro W base args ds gs before hval0 hW hcnd _
  have hval : ∀ (j : Nat) t v, Try.f13.params[j]? = some t → args[j]? = some v → Value.okWide Try.prog W .any base t v := hval0
  have hW' := hW
  obtain ⟨p, q, hA0, hV, rfl, hfz, hnd⟩ := hW
  have hA : DataW.TrodAll enc Try.prog W 0 (fun _ => true) true Try.f13.params.toList args.toList ds p := hA0
  rw [Try.params13] at hA hval
  obtain ⟨v0, vs0, d0, ds0, p0, q0, hargs, rfl, rfl, h0, r0⟩ := trodAll_cons hA
  obtain ⟨v1, vs1, d1, ds1, p1, q1, rfl, rfl, rfl, h1, r1⟩ := trodAll_cons r0
  obtain ⟨rfl, rfl, rfl⟩ := trodAll_nil r1
  obtain rfl : args = #[v0, v1] := by cases args; simp_all
  obtain ⟨rfl, rfl⟩ := trodVars_none hV
  have k0 := h0
  have lt0 : ∀ x ∈ p0, x.block < W.heap.size := by obtain ⟨m, hm⟩ := k0; exact DataW.trod_lt m _ _ _ hm
  obtain ⟨D0, w0⟩ := open_data (hval 0 43 v0 rfl rfl) h0
  have k1 := h1
  have lt1 : ∀ x ∈ p1, x.block < W.heap.size := by obtain ⟨m, hm⟩ := k1; exact DataW.trod_lt m _ _ _ hm
  obtain ⟨D1, w1⟩ := open_data (hval 1 43 v1 rfl rfl) h1
  clear hA0 hval0
  refine (walk v0 D0 v1 D1 W w0 w1).mono fun e W' ⟨he, bel⟩ => ?_
  subst he
  exact ⟨_, rfl, _, _, _, [], _, [], hW', trodAll_mk1 (shut_bool Try.underlying4 _), (trodAll_cons_mk (Below.trod laidOut (by kernel_rfl) (of_decide_eq_true (by kernel_rfl)) k0 bel lt0) (trodAll_cons_mk (Below.trod laidOut (by kernel_rfl) (of_decide_eq_true (by kernel_rfl)) k1 bel lt1) trodAll_mk0)), rfl, bel.frame _, fun h => by cases h⟩

theorem over : Rows.fnExactSameDataRow.holds Try.pinned (OpenSpec.ofChange Rows.fnExactSameDataSpec) :=
  OpenClaim.holds_of_wide 13 Try.f13 rfl rfl rfl rfl rfl rfl rfl ⟨rfl, rfl, rfl, rfl, rfl⟩ rfl rfl rfl rfl rfl (by kernel_rfl) Try.func13 (by kernel_rfl)
    (of_decide_eq_true (by kernel_rfl)) (by unfold Func.isWrapper; first | (rw [if_pos (by decide +kernel)]; kernel_rfl) | (rw [if_neg (by decide +kernel)]; exact ⟨rfl, rfl⟩))
    (fun os started H enc _ => lifted os started H enc)

/-- The statement. -/
theorem proved : Rows.FnExactSameDataSaid := over
#print axioms proved
end Go.Proofs.Ytmopfbifdnfghaa.fnExactSameData
