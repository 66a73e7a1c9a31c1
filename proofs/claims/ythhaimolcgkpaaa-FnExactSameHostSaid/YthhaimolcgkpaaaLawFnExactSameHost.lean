/- laws.FnExactSameHost returns true at every two arguments: impl.SameHost and spec.SameHost give the same answer, and impl.SameHost writes into no argument. No condition. -/
import Derived.Test.YthhaimolcgkpaaaRows
import Derived.Test.YthhaimolcgkpaaaHoL
import Derived.Test.YthhaimolcgkpaaaHiH
import Derived.Deep.RegionHeld3
import Derived.WalkKit
import Derived.ProofKit
import Derived.OpenShut
import Derived.ShutString
import Derived.ChangeOld
import Derived.Below
namespace Go.Proofs.Ythhaimolcgkpaaa.fnExactSameHost
open Go.ChangeShapes Go.WideShapes Go.ChangeAt Go.RowKit
open Go.ChangeMaps (open_string shut_string)
set_option linter.unusedSimpArgs false
set_option linter.unusedVariables false

theorem own : ownKnob Try.prog.godebug = none := by kernel_rfl
theorem laidOut : laidOutB Try.prog = true := by kernel_rfl

set_option maxRecDepth 100000 in
set_option maxHeartbeats 2000000 in
theorem walk (v0 : Value) (D0 : Ht) (v1 : Value) (D1 : Ht) (w : World) (w0 : HostIn w v0 D0) (w1 : HostIn w v1 D1) :
    Calls Try.prog 10 #[v0, v1] w fun e w' => e = .returned (.bool true) ∧ Below w.heap.size w w' := by
  have HD0 := w0
  have HD1 := w1
  obtain ⟨A1, k1, A2, k2, A3, k3, A4, k4, rfl⟩ := hostIn_form w0
  obtain ⟨C1, j1, C2, j2, C3, j3, C4, j4, rfl⟩ := hostIn_form w1
  clear w0 w1
  have SS : Hid (∀ u v W, HostIn W u D0 → HostIn W v D1 → Calls Try.prog 46 #[u, v] W fun e w' => e = .returned (.bool (hSame D0 D1)) ∧ Below W.heap.size W w') := Lib.hid fun u v W h k => sSameHost_any u v D0 D1 W h k
  have IS : Hid (∀ u v W, HostIn W u D0 → HostIn W v D1 → Calls Try.prog 15 #[u, v] W fun e w' => e = .returned (.bool (hSame D0 D1)) ∧ Below W.heap.size W w') := Lib.hid fun u v W h k => iSameHost_any u v D0 D1 W h k
  generalize hSame D0 D1 = sv at *
  have ts : (sv != sv) = false := by simp
  go_enter Try.func10, Try.ntmps10
  go_wp2_with fail
  refine (szHost_any _ D0 1048576 _ (hostIn_below HD0 (below_alloc (below_alloc (Below.refl _ _) _) _)) (by omega) (by omega)).mono ?_
  rintro e m1 ⟨r, rfl, hr, hb⟩
  have B := below_step (below_alloc (below_alloc (Below.refl _ _) _) _) hb
  have V := whole_b hb (whole_alloc (whole_new w _ _) _)
  have Y := whole_b hb (whole_new1 w _ _ _)
  clear hb
  rcases hr with rfl | ⟨h0, h1, hs0⟩
  · go_wp2
    go_ret
    exact ⟨rfl, B⟩
  obtain ⟨c0, c1, c2, c3, c4⟩ := five_cells Y
  go_wp2_with fail
  clear c0 c1 c2 c3 c4
  refine (szHost_any _ D1 r _ (hostIn_below HD1 B) (by omega) (by omega)).mono ?_
  rintro e m2 ⟨r', rfl, hr, hb⟩
  have B := below_b hb B
  have V := whole_b hb V
  have Y := whole_b hb Y
  clear hb
  rcases hr with rfl | ⟨h0', h1', hs1⟩
  · go_wp2
    go_ret
    exact ⟨rfl, B⟩
  go_wp2_with fail
  go_region_held3 (fun w' => (w'.cell? ⟨w.heap.size, 0, none⟩ = some (.slice A1 D0.g.length k1) ∧ w'.cell? ⟨w.heap.size, 1, none⟩ = some (.slice A2 D0.s.length k2) ∧ w'.cell? ⟨w.heap.size, 2, none⟩ = some (.slice A3 D0.n.length k3) ∧ w'.cell? ⟨w.heap.size, 3, none⟩ = some (.int .i64 D0.c) ∧ w'.cell? ⟨w.heap.size, 4, none⟩ = some (.slice A4 D0.d.length k4)) ∧ (w'.cell? ⟨w.heap.size + 1, 0, none⟩ = some (.slice C1 D1.g.length j1) ∧ w'.cell? ⟨w.heap.size + 1, 1, none⟩ = some (.slice C2 D1.s.length j2) ∧ w'.cell? ⟨w.heap.size + 1, 2, none⟩ = some (.slice C3 D1.n.length j3) ∧ w'.cell? ⟨w.heap.size + 1, 3, none⟩ = some (.int .i64 D1.c) ∧ w'.cell? ⟨w.heap.size + 1, 4, none⟩ = some (.slice C4 D1.d.length j4))) (exact ⟨five_cells (by assumption), five_cells (by assumption)⟩)
    (first
      | (go_at_call 27
         first
           | ((with_reducible refine (toHost_any (.agg #[.slice A1 D0.g.length k1, .slice A2 D0.s.length k2, .slice A3 D0.n.length k3, .int .i64 D0.c, .slice A4 D0.d.length k4]) D0 _ ?_ hs0).mono ?_)
              · exact hostIn_below HD0 (by first | exact B | exact B.drew)
              rintro e mA ⟨uA, rfl, UA, hb⟩
              have V := whole_b hb V
              have Y := whole_b hb Y
              (try (have UB := hostOf_b hb UB))
              have B : Below w.heap.size w mA := (by first | exact below_b hb B.drew | exact below_b hb B)
              clear hb)
           | ((with_reducible refine (toHost_any (.agg #[.slice C1 D1.g.length j1, .slice C2 D1.s.length j2, .slice C3 D1.n.length j3, .int .i64 D1.c, .slice C4 D1.d.length j4]) D1 _ ?_ hs1).mono ?_)
              · exact hostIn_below HD1 (by first | exact B | exact B.drew)
              rintro e mB ⟨uB, rfl, UB, hb⟩
              have V := whole_b hb V
              have Y := whole_b hb Y
              (try (have UA := hostOf_b hb UA))
              have B : Below w.heap.size w mB := (by first | exact below_b hb B.drew | exact below_b hb B)
              clear hb))
      | (go_at_call 46
         refine (SS.out _ _ _ (hostOf_in (by exact UA)) (hostOf_in (by exact UB))).mono ?_
         rintro e m3 ⟨rfl, hb⟩
         have V := whole_b hb V
         have Y := whole_b hb Y
         have B : Below w.heap.size w m3 := (by first | exact below_b hb B.drew | exact below_b hb B)
         clear hb))
  all_goals
    obtain ⟨c0, c1, c2, c3, c4⟩ := five_cells V
    go_wp2_with fail
    clear c0 c1 c2 c3 c4
    refine (toHost_any _ D0 _ (hostIn_below HD0 B) hs0).mono ?_
    rintro e m4 ⟨ux, rfl, UX4, hb⟩
    obtain ⟨E1, i1, E2, i2, E3, i3, E4, i4, rfl⟩ := hostIn_form (hostOf_in UX4)
    have B4 := below_b hb B
    have V4 := whole_b hb V
    have Y4 := whole_b hb Y
    have zy := whole_lt Y4
    obtain ⟨c0, c1, c2, c3, c4⟩ := five_cells Y4
    clear hb
    go_wp2_with fail
    clear c0 c1 c2 c3 c4
    refine (toHost_any _ D1 _ (hostIn_below HD1 (below_alloc B4 _)) hs1).mono ?_
    rintro e m5 ⟨uz, rfl, UZ5, hb⟩
    obtain ⟨G1, g1, G2, g2, G3, g3, G4, g4, rfl⟩ := hostIn_form (hostOf_in UZ5)
    have B5 := below_b hb (below_alloc B4 _)
    have V5 := whole_b hb (whole_alloc V4 _)
    have Y5 := whole_b hb (whole_alloc Y4 _)
    have X5 := whole_b hb (whole_new m4 _ _)
    have UX5 := hostOf_b hb (hostOf_below UX4 (below_alloc (Below.refl _ _) _))
    have zx := whole_lt X5
    obtain ⟨c0, c1, c2, c3, c4⟩ := five_cells X5
    clear hb V4 Y4 B4 UX4 zy
    go_wp2_with fail
    clear c0 c1 c2 c3 c4
    refine (IS.out _ _ _ (hostOf_in (hostOf_below UX5 (below_alloc (Below.refl _ _) _))) (hostOf_in (hostOf_below UZ5 (below_alloc (Below.refl _ _) _)))).mono ?_
    rintro e m6 ⟨rfl, hb⟩
    have B6 := below_b hb (below_alloc B5 _)
    have V6 := whole_b hb (whole_alloc V5 _)
    have Y6 := whole_b hb (whole_alloc Y5 _)
    have X6 := whole_b hb (whole_alloc X5 _)
    have Z6 := whole_b hb (whole_new m5 _ _)
    have UX6 := hostOf_b hb (hostOf_below UX5 (below_alloc (Below.refl _ _) _))
    have UZ6 := hostOf_b hb (hostOf_below UZ5 (below_alloc (Below.refl _ _) _))
    clear hb V5 Y5 X5 B5 UX5 UZ5 zx
    go_wp2_with fail
    go_region_held3 (fun w' => (w'.cell? ⟨w.heap.size, 0, none⟩ = some (.slice A1 D0.g.length k1) ∧ w'.cell? ⟨w.heap.size, 1, none⟩ = some (.slice A2 D0.s.length k2) ∧ w'.cell? ⟨w.heap.size, 2, none⟩ = some (.slice A3 D0.n.length k3) ∧ w'.cell? ⟨w.heap.size, 3, none⟩ = some (.int .i64 D0.c) ∧ w'.cell? ⟨w.heap.size, 4, none⟩ = some (.slice A4 D0.d.length k4)) ∧ (w'.cell? ⟨m4.heap.size, 0, none⟩ = some (.slice E1 D0.g.length i1) ∧ w'.cell? ⟨m4.heap.size, 1, none⟩ = some (.slice E2 D0.s.length i2) ∧ w'.cell? ⟨m4.heap.size, 2, none⟩ = some (.slice E3 D0.n.length i3) ∧ w'.cell? ⟨m4.heap.size, 3, none⟩ = some (.int .i64 D0.c) ∧ w'.cell? ⟨m4.heap.size, 4, none⟩ = some (.slice E4 D0.d.length i4))) (exact ⟨five_cells (by assumption), five_cells (by assumption)⟩)
      (first
        | (go_at_call 27; refine (toHost_any _ D0 _ (hostIn_below HD0 (by first | exact B6 | exact B6.drew)) hs0).mono ?_; rintro e m7 ⟨ut, rfl, UT7, hb⟩; have V7 := whole_b hb V6; have Y7 := whole_b hb Y6; have X7 := whole_b hb X6; have Z7 := whole_b hb Z6; have UX7 := hostOf_b hb UX6; have UZ7 := hostOf_b hb UZ6; have B7 : Below w.heap.size w m7 := (by first | exact below_b hb B6.drew | exact below_b hb B6); clear hb)
        | (go_at_call 22; refine (eqHost_same _ _ D0 _ (hostOf_in (by exact UX7)) (hostOf_in (by exact UT7))).mono ?_; rintro e m8 ⟨rfl, hb⟩; have V8 := whole_b hb V7; have Y8 := whole_b hb Y7; have X8 := whole_b hb X7; have Z8 := whole_b hb Z7; have UZ8 := hostOf_b hb UZ7; have B8 : Below w.heap.size w m8 := (by first | exact below_b hb B7 | exact below_b hb B7.drew); clear hb))
    clear UT7 UX7 UX6 UZ6 UZ7 V6 V7 Y6 Y7 X6 X7 Z6 Z7 B6 B7
    go_wp2_with fail
    go_region_held3 (fun w' => (w'.cell? ⟨w.heap.size + 1, 0, none⟩ = some (.slice C1 D1.g.length j1) ∧ w'.cell? ⟨w.heap.size + 1, 1, none⟩ = some (.slice C2 D1.s.length j2) ∧ w'.cell? ⟨w.heap.size + 1, 2, none⟩ = some (.slice C3 D1.n.length j3) ∧ w'.cell? ⟨w.heap.size + 1, 3, none⟩ = some (.int .i64 D1.c) ∧ w'.cell? ⟨w.heap.size + 1, 4, none⟩ = some (.slice C4 D1.d.length j4)) ∧ (w'.cell? ⟨m5.heap.size, 0, none⟩ = some (.slice G1 D1.g.length g1) ∧ w'.cell? ⟨m5.heap.size, 1, none⟩ = some (.slice G2 D1.s.length g2) ∧ w'.cell? ⟨m5.heap.size, 2, none⟩ = some (.slice G3 D1.n.length g3) ∧ w'.cell? ⟨m5.heap.size, 3, none⟩ = some (.int .i64 D1.c) ∧ w'.cell? ⟨m5.heap.size, 4, none⟩ = some (.slice G4 D1.d.length g4))) (exact ⟨five_cells (by assumption), five_cells (by assumption)⟩)
      (first
        | (go_at_call 27; refine (toHost_any _ D1 _ (hostIn_below HD1 (by first | exact B8 | exact B8.drew)) hs1).mono ?_; rintro e m9 ⟨ut, rfl, UT9, hb⟩; have Y9 := whole_b hb Y8; have Z9 := whole_b hb Z8; have UZ9 := hostOf_b hb UZ8; have B9 : Below w.heap.size w m9 := (by first | exact below_b hb B8.drew | exact below_b hb B8); clear hb)
        | (go_at_call 22; refine (eqHost_same _ _ D1 _ (hostOf_in (by exact UZ9)) (hostOf_in (by exact UT9))).mono ?_; rintro e m10 ⟨rfl, hb⟩; have Y10 := whole_b hb Y9; have Z10 := whole_b hb Z9; have B10 : Below w.heap.size w m10 := (by first | exact below_b hb B9 | exact below_b hb B9.drew); clear hb))
    go_wp2
    go_ret
    exact ⟨rfl, B10⟩

set_option maxRecDepth 100000 in
theorem lifted (os : Os) (started : os.Started) (H : Type) (enc : TypeId × Value → H) :
    ReturnsInHanded {} Try.checked os 10 .any (Rows.fnExactSameHostSpec.pre6 enc Try.prog Try.f10 Rows.fnExactSameHostRow.domain false) (Rows.fnExactSameHostSpec.post enc Try.prog Try.f10 false true false false) := by
  refine returnsInHanded_of_change (C := Try.checked) own started (by kernel_rfl) Try.func10
    (ChangeSpec.witness6 (enc := enc) (C := Try.checked) false ⟨#[], #[.agg #[.slice none 0 0, .slice none 0 0, .slice none 0 0, .int .i64 0, .slice none 0 0], .agg #[.slice none 0 0, .slice none 0 0, .slice none 0 0, .int .i64 0, .slice none 0 0]], []⟩ 8 (by kernel_rfl) (by kernel_rfl) (by kernel_rfl) (by kernel_rfl)) ?_
  intro W base args ds gs before hval0 hW hcnd _
  have hval : ∀ (j : Nat) t v, Try.f10.params[j]? = some t → args[j]? = some v → Value.okWide Try.prog W .any base t v := hval0
  have hW' := hW
  obtain ⟨p, q, hA0, hV, rfl, hfz, hnd⟩ := hW
  have hA : DataW.TrodAll enc Try.prog W 0 (fun _ => true) true Try.f10.params.toList args.toList ds p := hA0
  rw [Try.params10] at hA hval
  obtain ⟨v0, vs0, d0, ds0, p0, q0, hargs, rfl, rfl, h0, r0⟩ := trodAll_cons hA
  obtain ⟨v1, vs1, d1, ds1, p1, q1, rfl, rfl, rfl, h1, r1⟩ := trodAll_cons r0
  obtain ⟨rfl, rfl, rfl⟩ := trodAll_nil r1
  obtain rfl : args = #[v0, v1] := by cases args; simp_all
  obtain ⟨rfl, rfl⟩ := trodVars_none hV
  have k0 := h0
  have lt0 : ∀ x ∈ p0, x.block < W.heap.size := by obtain ⟨m, hm⟩ := k0; exact DataW.trod_lt m _ _ _ hm
  obtain ⟨D0, w0⟩ := open_host (hval 0 48 v0 rfl rfl) h0
  have k1 := h1
  have lt1 : ∀ x ∈ p1, x.block < W.heap.size := by obtain ⟨m, hm⟩ := k1; exact DataW.trod_lt m _ _ _ hm
  obtain ⟨D1, w1⟩ := open_host (hval 1 48 v1 rfl rfl) h1
  clear hA0 hval0
  refine (walk v0 D0 v1 D1 W w0 w1).mono fun e W' ⟨he, bel⟩ => ?_
  subst he
  exact ⟨_, rfl, _, _, _, [], _, [], hW', trodAll_mk1 (shut_bool Try.underlying4 _), (trodAll_cons_mk (Below.trod laidOut (by kernel_rfl) (of_decide_eq_true (by kernel_rfl)) k0 bel lt0) (trodAll_cons_mk (Below.trod laidOut (by kernel_rfl) (of_decide_eq_true (by kernel_rfl)) k1 bel lt1) trodAll_mk0)), rfl, bel.frame _, fun h => by cases h⟩

theorem over : Rows.fnExactSameHostRow.holds Try.pinned (OpenSpec.ofChange Rows.fnExactSameHostSpec) :=
  OpenClaim.holds_of_wide 10 Try.f10 rfl rfl rfl rfl rfl rfl rfl ⟨rfl, rfl, rfl, rfl, rfl⟩ rfl rfl rfl rfl rfl (by kernel_rfl) Try.func10 (by kernel_rfl)
    (of_decide_eq_true (by kernel_rfl)) (by unfold Func.isWrapper; first | (rw [if_pos (by decide +kernel)]; kernel_rfl) | (rw [if_neg (by decide +kernel)]; exact ⟨rfl, rfl⟩))
    (fun os started H enc _ => lifted os started H enc)

/-- The statement. -/
theorem proved : Rows.FnExactSameHostSaid := over
#print axioms proved
end Go.Proofs.Ythhaimolcgkpaaa.fnExactSameHost
