/- Are two scripts' data the same: both sides. -/
import Derived.Test.YtojjknjdlipfpaaDatD
import Derived.Test.YtojjknjdlipfpaaDatL
namespace Go.Proofs.Ytojjknjdlipfpaa
open Go.RowKit
set_option linter.unusedVariables false
set_option linter.unusedSimpArgs false

/-- Alike in every field. -/
def SameP (p q : Dt) : Prop := p.s = q.s ∧ p.b = q.b ∧ p.c = q.c ∧ p.h = q.h ∧ p.n = q.n ∧ p.o.toList = q.o.toList
instance (p q : Dt) : Decidable (SameP p q) := by unfold SameP; infer_instance
def sameD (p q : Dt) : Bool := decide (SameP p q)
/-- Both valid, and alike. -/
def sameV (p q : Dt) : Bool := dOK p && (dOK q && sameD p q)

theorem sameD_of {p q : Dt} (h0 : p.s = q.s) (h1 : p.b = q.b) (h2 : p.c = q.c) (h3 : p.h = q.h) (h4 : p.n = q.n) (h5 : p.o.toList = q.o.toList) : sameD p q = true := decide_eq_true ⟨h0, h1, h2, h3, h4, h5⟩
theorem sameD_not {p q : Dt} (h : ¬ SameP p q) : sameD p q = false := decide_eq_false h

set_option maxRecDepth 100000 in
set_option maxHeartbeats 2000000 in
theorem iSameV_a (u v : Value) (p q : Dt) (w : World) (hu : DatIn w u p) (hv : DatIn w v q) (hp : dOK p = false) :
    Calls Try.prog 14 #[u, v] w fun e w' => e = .returned (.bool false) ∧ Below w.heap.size w w' := by
  have HU := hu
  have HV := hv
  obtain ⟨A1, k1, A2, k2, A3, k3, rfl⟩ := datIn_form hu
  obtain ⟨C1, j1, C2, j2, C3, j3, rfl⟩ := datIn_form hv
  clear hu hv
  go_enter Try.func14, Try.ntmps14
  go_wp2_with fail
  refine (dataOK_any _ p _ (datIn_below HU (below_alloc (below_alloc (Below.refl _ _) _) _))).mono ?_
  rintro e w1 ⟨rfl, hb⟩
  have B1 : Below w.heap.size w w1 := below_step (below_alloc (below_alloc (Below.refl _ _) _) _) hb
  have Y1 := whole_b hb (whole_new1 w _ _ _)
  clear hb
  go_wp2
  go_ret
  exact ⟨rfl, B1⟩

set_option maxRecDepth 100000 in
set_option maxHeartbeats 2000000 in
theorem iSameV_b (u v : Value) (p q : Dt) (w : World) (hu : DatIn w u p) (hv : DatIn w v q) (hp : dOK p = true) (hq : dOK q = false) :
    Calls Try.prog 14 #[u, v] w fun e w' => e = .returned (.bool false) ∧ Below w.heap.size w w' := by
  have HU := hu
  have HV := hv
  obtain ⟨A1, k1, A2, k2, A3, k3, rfl⟩ := datIn_form hu
  obtain ⟨C1, j1, C2, j2, C3, j3, rfl⟩ := datIn_form hv
  clear hu hv
  go_enter Try.func14, Try.ntmps14
  go_wp2_with fail
  refine (dataOK_any _ p _ (datIn_below HU (below_alloc (below_alloc (Below.refl _ _) _) _))).mono ?_
  rintro e w1 ⟨rfl, hb⟩
  have B1 : Below w.heap.size w w1 := below_step (below_alloc (below_alloc (Below.refl _ _) _) _) hb
  have Y1 := whole_b hb (whole_new1 w _ _ _)
  clear hb
  obtain ⟨c0, c1, c2, c3, c4, c5⟩ := six_cells Y1
  go_wp2_with fail
  clear c0 c1 c2 c3 c4 c5
  refine (dataOK_any _ q _ (datIn_below HV B1)).mono ?_
  rintro e w2 ⟨rfl, hb⟩
  have B2 := below_step B1 hb
  clear hb
  go_wp2
  go_ret
  exact ⟨rfl, B2⟩

set_option maxRecDepth 100000 in
set_option maxHeartbeats 2000000 in
theorem iSameD_0 (u v : Value) (p q : Dt) (w : World) (hu : DatIn w u p) (hv : DatIn w v q) (hp : dOK p = true) (hq : dOK q = true) (h0 : ¬ p.s = q.s) :
    Calls Try.prog 14 #[u, v] w fun e w' => e = .returned (.bool false) ∧ Below w.heap.size w w' := by
  have HU := hu
  have HV := hv
  obtain ⟨A1, k1, A2, k2, A3, k3, rfl⟩ := datIn_form hu
  obtain ⟨C1, j1, C2, j2, C3, j3, rfl⟩ := datIn_form hv
  clear hu hv
  have t0 : (p.s == q.s) = false := by rw [beq_eq_false_iff_ne]; exact h0
  clear h0
  go_enter Try.func14, Try.ntmps14
  go_wp2_with fail
  refine (dataOK_any _ p _ (datIn_below HU (below_alloc (below_alloc (Below.refl _ _) _) _))).mono ?_
  rintro e w1 ⟨rfl, hb⟩
  have B1 : Below w.heap.size w w1 := below_step (below_alloc (below_alloc (Below.refl _ _) _) _) hb
  have V1 := whole_b hb (whole_alloc (whole_new w _ _) _)
  have Y1 := whole_b hb (whole_new1 w _ _ _)
  clear hb
  obtain ⟨c0, c1, c2, c3, c4, c5⟩ := six_cells Y1
  go_wp2_with fail
  clear c0 c1 c2 c3 c4 c5
  refine (dataOK_any _ q _ (datIn_below HV B1)).mono ?_
  rintro e w2 ⟨rfl, hb⟩
  have B2 := below_step B1 hb
  have V2 := whole_b hb V1
  have Y2 := whole_b hb Y1
  clear hb V1 Y1 B1
  have BB : Hid (∀ n, Below w.heap.size w (w2.drewN n)) := Lib.hid fun n => below_drewN B2 n
  obtain ⟨x, y, z, he, hx, hy, hz, _⟩ := datIn_below HU B2
  simp only [Value.agg.injEq, Array.mk.injEq, List.cons.injEq, and_true, true_and] at he
  obtain ⟨rfl, rfl, rfl⟩ := he
  obtain ⟨x', y', z', he, hx', hy', hz', _⟩ := datIn_below HV B2
  simp only [Value.agg.injEq, Array.mk.injEq, List.cons.injEq, and_true, true_and] at he
  obtain ⟨rfl, rfl, rfl⟩ := he
  have HX := Lib.hid hx
  have NX : Hid (∀ m : Nat, Ints (w2.drewN m) _ p.s) := Lib.hid fun m => ints_draws hx m
  have HY := Lib.hid hy
  have NY : Hid (∀ m : Nat, Ints (w2.drewN m) _ p.b) := Lib.hid fun m => ints_draws hy m
  have HZ := Lib.hid hz
  have NZ : Hid (∀ m : Nat, Ints (w2.drewN m) _ p.c) := Lib.hid fun m => ints_draws hz m
  have HX' := Lib.hid hx'
  have NX' : Hid (∀ m : Nat, Ints (w2.drewN m) _ q.s) := Lib.hid fun m => ints_draws hx' m
  have HY' := Lib.hid hy'
  have NY' : Hid (∀ m : Nat, Ints (w2.drewN m) _ q.b) := Lib.hid fun m => ints_draws hy' m
  have HZ' := Lib.hid hz'
  have NZ' : Hid (∀ m : Nat, Ints (w2.drewN m) _ q.c) := Lib.hid fun m => ints_draws hz' m
  clear hx hy hz hx' hy' hz'
  obtain ⟨c0, c1, c2, c3, c4, c5⟩ := six_cells Y2
  obtain ⟨d0, d1, d2, d3, d4, d5⟩ := six_cells V2
  go_wp2_with (first | (go_at_call 44; (first | (with_reducible refine (slEqual_any _ _ p.s q.s _ (by first | exact HX.out | exact NX.out _) (by first | exact HX'.out | exact NX'.out _)).mono ?_) | (with_reducible refine (slEqual_any _ _ p.b q.b _ (by first | exact HY.out | exact NY.out _) (by first | exact HY'.out | exact NY'.out _)).mono ?_) | (with_reducible refine (slEqual_any _ _ p.c q.c _ (by first | exact HZ.out | exact NZ.out _) (by first | exact HZ'.out | exact NZ'.out _)).mono ?_)); rintro e w' ⟨nn, rfl, rfl⟩; (try simp only [World.drewN_drewN])))
  go_ret
  exact ⟨ret_bool (by simp [*]), by first | exact BB.out _ | exact B2⟩

set_option maxRecDepth 100000 in
set_option maxHeartbeats 2000000 in
theorem iSameD_1 (u v : Value) (p q : Dt) (w : World) (hu : DatIn w u p) (hv : DatIn w v q) (hp : dOK p = true) (hq : dOK q = true) (h0 : p.s = q.s) (h1 : ¬ p.b = q.b) :
    Calls Try.prog 14 #[u, v] w fun e w' => e = .returned (.bool false) ∧ Below w.heap.size w w' := by
  have HU := hu
  have HV := hv
  obtain ⟨A1, k1, A2, k2, A3, k3, rfl⟩ := datIn_form hu
  obtain ⟨C1, j1, C2, j2, C3, j3, rfl⟩ := datIn_form hv
  clear hu hv
  have t0 : (p.s == q.s) = true := by rw [beq_iff_eq]; exact h0
  have t1 : (p.b == q.b) = false := by rw [beq_eq_false_iff_ne]; exact h1
  clear h0
  clear h1
  go_enter Try.func14, Try.ntmps14
  go_wp2_with fail
  refine (dataOK_any _ p _ (datIn_below HU (below_alloc (below_alloc (Below.refl _ _) _) _))).mono ?_
  rintro e w1 ⟨rfl, hb⟩
  have B1 : Below w.heap.size w w1 := below_step (below_alloc (below_alloc (Below.refl _ _) _) _) hb
  have V1 := whole_b hb (whole_alloc (whole_new w _ _) _)
  have Y1 := whole_b hb (whole_new1 w _ _ _)
  clear hb
  obtain ⟨c0, c1, c2, c3, c4, c5⟩ := six_cells Y1
  go_wp2_with fail
  clear c0 c1 c2 c3 c4 c5
  refine (dataOK_any _ q _ (datIn_below HV B1)).mono ?_
  rintro e w2 ⟨rfl, hb⟩
  have B2 := below_step B1 hb
  have V2 := whole_b hb V1
  have Y2 := whole_b hb Y1
  clear hb V1 Y1 B1
  have BB : Hid (∀ n, Below w.heap.size w (w2.drewN n)) := Lib.hid fun n => below_drewN B2 n
  obtain ⟨x, y, z, he, hx, hy, hz, _⟩ := datIn_below HU B2
  simp only [Value.agg.injEq, Array.mk.injEq, List.cons.injEq, and_true, true_and] at he
  obtain ⟨rfl, rfl, rfl⟩ := he
  obtain ⟨x', y', z', he, hx', hy', hz', _⟩ := datIn_below HV B2
  simp only [Value.agg.injEq, Array.mk.injEq, List.cons.injEq, and_true, true_and] at he
  obtain ⟨rfl, rfl, rfl⟩ := he
  have HX := Lib.hid hx
  have NX : Hid (∀ m : Nat, Ints (w2.drewN m) _ p.s) := Lib.hid fun m => ints_draws hx m
  have HY := Lib.hid hy
  have NY : Hid (∀ m : Nat, Ints (w2.drewN m) _ p.b) := Lib.hid fun m => ints_draws hy m
  have HZ := Lib.hid hz
  have NZ : Hid (∀ m : Nat, Ints (w2.drewN m) _ p.c) := Lib.hid fun m => ints_draws hz m
  have HX' := Lib.hid hx'
  have NX' : Hid (∀ m : Nat, Ints (w2.drewN m) _ q.s) := Lib.hid fun m => ints_draws hx' m
  have HY' := Lib.hid hy'
  have NY' : Hid (∀ m : Nat, Ints (w2.drewN m) _ q.b) := Lib.hid fun m => ints_draws hy' m
  have HZ' := Lib.hid hz'
  have NZ' : Hid (∀ m : Nat, Ints (w2.drewN m) _ q.c) := Lib.hid fun m => ints_draws hz' m
  clear hx hy hz hx' hy' hz'
  obtain ⟨c0, c1, c2, c3, c4, c5⟩ := six_cells Y2
  obtain ⟨d0, d1, d2, d3, d4, d5⟩ := six_cells V2
  go_wp2_with (first | (go_at_call 44; (first | (with_reducible refine (slEqual_any _ _ p.s q.s _ (by first | exact HX.out | exact NX.out _) (by first | exact HX'.out | exact NX'.out _)).mono ?_) | (with_reducible refine (slEqual_any _ _ p.b q.b _ (by first | exact HY.out | exact NY.out _) (by first | exact HY'.out | exact NY'.out _)).mono ?_) | (with_reducible refine (slEqual_any _ _ p.c q.c _ (by first | exact HZ.out | exact NZ.out _) (by first | exact HZ'.out | exact NZ'.out _)).mono ?_)); rintro e w' ⟨nn, rfl, rfl⟩; (try simp only [World.drewN_drewN])))
  go_ret
  exact ⟨ret_bool (by simp [*]), by first | exact BB.out _ | exact B2⟩

set_option maxRecDepth 100000 in
set_option maxHeartbeats 2000000 in
theorem iSameD_2 (u v : Value) (p q : Dt) (w : World) (hu : DatIn w u p) (hv : DatIn w v q) (hp : dOK p = true) (hq : dOK q = true) (h0 : p.s = q.s) (h1 : p.b = q.b) (h2 : ¬ p.c = q.c) :
    Calls Try.prog 14 #[u, v] w fun e w' => e = .returned (.bool false) ∧ Below w.heap.size w w' := by
  have HU := hu
  have HV := hv
  obtain ⟨A1, k1, A2, k2, A3, k3, rfl⟩ := datIn_form hu
  obtain ⟨C1, j1, C2, j2, C3, j3, rfl⟩ := datIn_form hv
  clear hu hv
  have t0 : (p.s == q.s) = true := by rw [beq_iff_eq]; exact h0
  have t1 : (p.b == q.b) = true := by rw [beq_iff_eq]; exact h1
  have t2 : (p.c == q.c) = false := by rw [beq_eq_false_iff_ne]; exact h2
  clear h0
  clear h1
  clear h2
  go_enter Try.func14, Try.ntmps14
  go_wp2_with fail
  refine (dataOK_any _ p _ (datIn_below HU (below_alloc (below_alloc (Below.refl _ _) _) _))).mono ?_
  rintro e w1 ⟨rfl, hb⟩
  have B1 : Below w.heap.size w w1 := below_step (below_alloc (below_alloc (Below.refl _ _) _) _) hb
  have V1 := whole_b hb (whole_alloc (whole_new w _ _) _)
  have Y1 := whole_b hb (whole_new1 w _ _ _)
  clear hb
  obtain ⟨c0, c1, c2, c3, c4, c5⟩ := six_cells Y1
  go_wp2_with fail
  clear c0 c1 c2 c3 c4 c5
  refine (dataOK_any _ q _ (datIn_below HV B1)).mono ?_
  rintro e w2 ⟨rfl, hb⟩
  have B2 := below_step B1 hb
  have V2 := whole_b hb V1
  have Y2 := whole_b hb Y1
  clear hb V1 Y1 B1
  have BB : Hid (∀ n, Below w.heap.size w (w2.drewN n)) := Lib.hid fun n => below_drewN B2 n
  obtain ⟨x, y, z, he, hx, hy, hz, _⟩ := datIn_below HU B2
  simp only [Value.agg.injEq, Array.mk.injEq, List.cons.injEq, and_true, true_and] at he
  obtain ⟨rfl, rfl, rfl⟩ := he
  obtain ⟨x', y', z', he, hx', hy', hz', _⟩ := datIn_below HV B2
  simp only [Value.agg.injEq, Array.mk.injEq, List.cons.injEq, and_true, true_and] at he
  obtain ⟨rfl, rfl, rfl⟩ := he
  have HX := Lib.hid hx
  have NX : Hid (∀ m : Nat, Ints (w2.drewN m) _ p.s) := Lib.hid fun m => ints_draws hx m
  have HY := Lib.hid hy
  have NY : Hid (∀ m : Nat, Ints (w2.drewN m) _ p.b) := Lib.hid fun m => ints_draws hy m
  have HZ := Lib.hid hz
  have NZ : Hid (∀ m : Nat, Ints (w2.drewN m) _ p.c) := Lib.hid fun m => ints_draws hz m
  have HX' := Lib.hid hx'
  have NX' : Hid (∀ m : Nat, Ints (w2.drewN m) _ q.s) := Lib.hid fun m => ints_draws hx' m
  have HY' := Lib.hid hy'
  have NY' : Hid (∀ m : Nat, Ints (w2.drewN m) _ q.b) := Lib.hid fun m => ints_draws hy' m
  have HZ' := Lib.hid hz'
  have NZ' : Hid (∀ m : Nat, Ints (w2.drewN m) _ q.c) := Lib.hid fun m => ints_draws hz' m
  clear hx hy hz hx' hy' hz'
  obtain ⟨c0, c1, c2, c3, c4, c5⟩ := six_cells Y2
  obtain ⟨d0, d1, d2, d3, d4, d5⟩ := six_cells V2
  go_wp2_with (first | (go_at_call 44; (first | (with_reducible refine (slEqual_any _ _ p.s q.s _ (by first | exact HX.out | exact NX.out _) (by first | exact HX'.out | exact NX'.out _)).mono ?_) | (with_reducible refine (slEqual_any _ _ p.b q.b _ (by first | exact HY.out | exact NY.out _) (by first | exact HY'.out | exact NY'.out _)).mono ?_) | (with_reducible refine (slEqual_any _ _ p.c q.c _ (by first | exact HZ.out | exact NZ.out _) (by first | exact HZ'.out | exact NZ'.out _)).mono ?_)); rintro e w' ⟨nn, rfl, rfl⟩; (try simp only [World.drewN_drewN])))
  go_ret
  exact ⟨ret_bool (by simp [*]), by first | exact BB.out _ | exact B2⟩

set_option maxRecDepth 100000 in
set_option maxHeartbeats 2000000 in
theorem iSameD_3 (u v : Value) (p q : Dt) (w : World) (hu : DatIn w u p) (hv : DatIn w v q) (hp : dOK p = true) (hq : dOK q = true) (h0 : p.s = q.s) (h1 : p.b = q.b) (h2 : p.c = q.c) (h3 : ¬ p.h = q.h) :
    Calls Try.prog 14 #[u, v] w fun e w' => e = .returned (.bool false) ∧ Below w.heap.size w w' := by
  have HU := hu
  have HV := hv
  obtain ⟨A1, k1, A2, k2, A3, k3, rfl⟩ := datIn_form hu
  obtain ⟨C1, j1, C2, j2, C3, j3, rfl⟩ := datIn_form hv
  clear hu hv
  have t0 : (p.s == q.s) = true := by rw [beq_iff_eq]; exact h0
  have t1 : (p.b == q.b) = true := by rw [beq_iff_eq]; exact h1
  have t2 : (p.c == q.c) = true := by rw [beq_iff_eq]; exact h2
  have t3 : (p.h == q.h) = false := by rw [beq_eq_false_iff_ne]; exact h3
  clear h0
  clear h1
  clear h2
  clear h3
  go_enter Try.func14, Try.ntmps14
  go_wp2_with fail
  refine (dataOK_any _ p _ (datIn_below HU (below_alloc (below_alloc (Below.refl _ _) _) _))).mono ?_
  rintro e w1 ⟨rfl, hb⟩
  have B1 : Below w.heap.size w w1 := below_step (below_alloc (below_alloc (Below.refl _ _) _) _) hb
  have V1 := whole_b hb (whole_alloc (whole_new w _ _) _)
  have Y1 := whole_b hb (whole_new1 w _ _ _)
  clear hb
  obtain ⟨c0, c1, c2, c3, c4, c5⟩ := six_cells Y1
  go_wp2_with fail
  clear c0 c1 c2 c3 c4 c5
  refine (dataOK_any _ q _ (datIn_below HV B1)).mono ?_
  rintro e w2 ⟨rfl, hb⟩
  have B2 := below_step B1 hb
  have V2 := whole_b hb V1
  have Y2 := whole_b hb Y1
  clear hb V1 Y1 B1
  have BB : Hid (∀ n, Below w.heap.size w (w2.drewN n)) := Lib.hid fun n => below_drewN B2 n
  obtain ⟨x, y, z, he, hx, hy, hz, _⟩ := datIn_below HU B2
  simp only [Value.agg.injEq, Array.mk.injEq, List.cons.injEq, and_true, true_and] at he
  obtain ⟨rfl, rfl, rfl⟩ := he
  obtain ⟨x', y', z', he, hx', hy', hz', _⟩ := datIn_below HV B2
  simp only [Value.agg.injEq, Array.mk.injEq, List.cons.injEq, and_true, true_and] at he
  obtain ⟨rfl, rfl, rfl⟩ := he
  have HX := Lib.hid hx
  have NX : Hid (∀ m : Nat, Ints (w2.drewN m) _ p.s) := Lib.hid fun m => ints_draws hx m
  have HY := Lib.hid hy
  have NY : Hid (∀ m : Nat, Ints (w2.drewN m) _ p.b) := Lib.hid fun m => ints_draws hy m
  have HZ := Lib.hid hz
  have NZ : Hid (∀ m : Nat, Ints (w2.drewN m) _ p.c) := Lib.hid fun m => ints_draws hz m
  have HX' := Lib.hid hx'
  have NX' : Hid (∀ m : Nat, Ints (w2.drewN m) _ q.s) := Lib.hid fun m => ints_draws hx' m
  have HY' := Lib.hid hy'
  have NY' : Hid (∀ m : Nat, Ints (w2.drewN m) _ q.b) := Lib.hid fun m => ints_draws hy' m
  have HZ' := Lib.hid hz'
  have NZ' : Hid (∀ m : Nat, Ints (w2.drewN m) _ q.c) := Lib.hid fun m => ints_draws hz' m
  clear hx hy hz hx' hy' hz'
  obtain ⟨c0, c1, c2, c3, c4, c5⟩ := six_cells Y2
  obtain ⟨d0, d1, d2, d3, d4, d5⟩ := six_cells V2
  go_wp2_with (first | (go_at_call 44; (first | (with_reducible refine (slEqual_any _ _ p.s q.s _ (by first | exact HX.out | exact NX.out _) (by first | exact HX'.out | exact NX'.out _)).mono ?_) | (with_reducible refine (slEqual_any _ _ p.b q.b _ (by first | exact HY.out | exact NY.out _) (by first | exact HY'.out | exact NY'.out _)).mono ?_) | (with_reducible refine (slEqual_any _ _ p.c q.c _ (by first | exact HZ.out | exact NZ.out _) (by first | exact HZ'.out | exact NZ'.out _)).mono ?_)); rintro e w' ⟨nn, rfl, rfl⟩; (try simp only [World.drewN_drewN])))
  go_ret
  exact ⟨ret_bool (by simp [*]), by first | exact BB.out _ | exact B2⟩

set_option maxRecDepth 100000 in
set_option maxHeartbeats 2000000 in
theorem iSameD_4 (u v : Value) (p q : Dt) (w : World) (hu : DatIn w u p) (hv : DatIn w v q) (hp : dOK p = true) (hq : dOK q = true) (h0 : p.s = q.s) (h1 : p.b = q.b) (h2 : p.c = q.c) (h3 : p.h = q.h) (h4 : ¬ p.n = q.n) :
    Calls Try.prog 14 #[u, v] w fun e w' => e = .returned (.bool false) ∧ Below w.heap.size w w' := by
  have HU := hu
  have HV := hv
  obtain ⟨A1, k1, A2, k2, A3, k3, rfl⟩ := datIn_form hu
  obtain ⟨C1, j1, C2, j2, C3, j3, rfl⟩ := datIn_form hv
  clear hu hv
  have t0 : (p.s == q.s) = true := by rw [beq_iff_eq]; exact h0
  have t1 : (p.b == q.b) = true := by rw [beq_iff_eq]; exact h1
  have t2 : (p.c == q.c) = true := by rw [beq_iff_eq]; exact h2
  have t3 : (p.h == q.h) = true := by rw [beq_iff_eq]; exact h3
  have t4 : (p.n == q.n) = false := by rw [beq_eq_false_iff_ne]; exact h4
  clear h0
  clear h1
  clear h2
  clear h3
  clear h4
  go_enter Try.func14, Try.ntmps14
  go_wp2_with fail
  refine (dataOK_any _ p _ (datIn_below HU (below_alloc (below_alloc (Below.refl _ _) _) _))).mono ?_
  rintro e w1 ⟨rfl, hb⟩
  have B1 : Below w.heap.size w w1 := below_step (below_alloc (below_alloc (Below.refl _ _) _) _) hb
  have V1 := whole_b hb (whole_alloc (whole_new w _ _) _)
  have Y1 := whole_b hb (whole_new1 w _ _ _)
  clear hb
  obtain ⟨c0, c1, c2, c3, c4, c5⟩ := six_cells Y1
  go_wp2_with fail
  clear c0 c1 c2 c3 c4 c5
  refine (dataOK_any _ q _ (datIn_below HV B1)).mono ?_
  rintro e w2 ⟨rfl, hb⟩
  have B2 := below_step B1 hb
  have V2 := whole_b hb V1
  have Y2 := whole_b hb Y1
  clear hb V1 Y1 B1
  have BB : Hid (∀ n, Below w.heap.size w (w2.drewN n)) := Lib.hid fun n => below_drewN B2 n
  obtain ⟨x, y, z, he, hx, hy, hz, _⟩ := datIn_below HU B2
  simp only [Value.agg.injEq, Array.mk.injEq, List.cons.injEq, and_true, true_and] at he
  obtain ⟨rfl, rfl, rfl⟩ := he
  obtain ⟨x', y', z', he, hx', hy', hz', _⟩ := datIn_below HV B2
  simp only [Value.agg.injEq, Array.mk.injEq, List.cons.injEq, and_true, true_and] at he
  obtain ⟨rfl, rfl, rfl⟩ := he
  have HX := Lib.hid hx
  have NX : Hid (∀ m : Nat, Ints (w2.drewN m) _ p.s) := Lib.hid fun m => ints_draws hx m
  have HY := Lib.hid hy
  have NY : Hid (∀ m : Nat, Ints (w2.drewN m) _ p.b) := Lib.hid fun m => ints_draws hy m
  have HZ := Lib.hid hz
  have NZ : Hid (∀ m : Nat, Ints (w2.drewN m) _ p.c) := Lib.hid fun m => ints_draws hz m
  have HX' := Lib.hid hx'
  have NX' : Hid (∀ m : Nat, Ints (w2.drewN m) _ q.s) := Lib.hid fun m => ints_draws hx' m
  have HY' := Lib.hid hy'
  have NY' : Hid (∀ m : Nat, Ints (w2.drewN m) _ q.b) := Lib.hid fun m => ints_draws hy' m
  have HZ' := Lib.hid hz'
  have NZ' : Hid (∀ m : Nat, Ints (w2.drewN m) _ q.c) := Lib.hid fun m => ints_draws hz' m
  clear hx hy hz hx' hy' hz'
  obtain ⟨c0, c1, c2, c3, c4, c5⟩ := six_cells Y2
  obtain ⟨d0, d1, d2, d3, d4, d5⟩ := six_cells V2
  go_wp2_with (first | (go_at_call 44; (first | (with_reducible refine (slEqual_any _ _ p.s q.s _ (by first | exact HX.out | exact NX.out _) (by first | exact HX'.out | exact NX'.out _)).mono ?_) | (with_reducible refine (slEqual_any _ _ p.b q.b _ (by first | exact HY.out | exact NY.out _) (by first | exact HY'.out | exact NY'.out _)).mono ?_) | (with_reducible refine (slEqual_any _ _ p.c q.c _ (by first | exact HZ.out | exact NZ.out _) (by first | exact HZ'.out | exact NZ'.out _)).mono ?_)); rintro e w' ⟨nn, rfl, rfl⟩; (try simp only [World.drewN_drewN])))
  go_ret
  exact ⟨ret_bool (by simp [*]), by first | exact BB.out _ | exact B2⟩

set_option maxRecDepth 100000 in
set_option maxHeartbeats 2000000 in
theorem iSameD_5 (u v : Value) (p q : Dt) (w : World) (hu : DatIn w u p) (hv : DatIn w v q) (hp : dOK p = true) (hq : dOK q = true) (h0 : p.s = q.s) (h1 : p.b = q.b) (h2 : p.c = q.c) (h3 : p.h = q.h) (h4 : p.n = q.n) (h5 : ¬ p.o.toList = q.o.toList) :
    Calls Try.prog 14 #[u, v] w fun e w' => e = .returned (.bool false) ∧ Below w.heap.size w w' := by
  have HU := hu
  have HV := hv
  obtain ⟨A1, k1, A2, k2, A3, k3, rfl⟩ := datIn_form hu
  obtain ⟨C1, j1, C2, j2, C3, j3, rfl⟩ := datIn_form hv
  clear hu hv
  have t0 : (p.s == q.s) = true := by rw [beq_iff_eq]; exact h0
  have t1 : (p.b == q.b) = true := by rw [beq_iff_eq]; exact h1
  have t2 : (p.c == q.c) = true := by rw [beq_iff_eq]; exact h2
  have t3 : (p.h == q.h) = true := by rw [beq_iff_eq]; exact h3
  have t4 : (p.n == q.n) = true := by rw [beq_iff_eq]; exact h4
  have t5 : (p.o.toList == q.o.toList) = false := by rw [beq_eq_false_iff_ne]; exact h5
  clear h0
  clear h1
  clear h2
  clear h3
  clear h4
  clear h5
  go_enter Try.func14, Try.ntmps14
  go_wp2_with fail
  refine (dataOK_any _ p _ (datIn_below HU (below_alloc (below_alloc (Below.refl _ _) _) _))).mono ?_
  rintro e w1 ⟨rfl, hb⟩
  have B1 : Below w.heap.size w w1 := below_step (below_alloc (below_alloc (Below.refl _ _) _) _) hb
  have V1 := whole_b hb (whole_alloc (whole_new w _ _) _)
  have Y1 := whole_b hb (whole_new1 w _ _ _)
  clear hb
  obtain ⟨c0, c1, c2, c3, c4, c5⟩ := six_cells Y1
  go_wp2_with fail
  clear c0 c1 c2 c3 c4 c5
  refine (dataOK_any _ q _ (datIn_below HV B1)).mono ?_
  rintro e w2 ⟨rfl, hb⟩
  have B2 := below_step B1 hb
  have V2 := whole_b hb V1
  have Y2 := whole_b hb Y1
  clear hb V1 Y1 B1
  have BB : Hid (∀ n, Below w.heap.size w (w2.drewN n)) := Lib.hid fun n => below_drewN B2 n
  obtain ⟨x, y, z, he, hx, hy, hz, _⟩ := datIn_below HU B2
  simp only [Value.agg.injEq, Array.mk.injEq, List.cons.injEq, and_true, true_and] at he
  obtain ⟨rfl, rfl, rfl⟩ := he
  obtain ⟨x', y', z', he, hx', hy', hz', _⟩ := datIn_below HV B2
  simp only [Value.agg.injEq, Array.mk.injEq, List.cons.injEq, and_true, true_and] at he
  obtain ⟨rfl, rfl, rfl⟩ := he
  have HX := Lib.hid hx
  have NX : Hid (∀ m : Nat, Ints (w2.drewN m) _ p.s) := Lib.hid fun m => ints_draws hx m
  have HY := Lib.hid hy
  have NY : Hid (∀ m : Nat, Ints (w2.drewN m) _ p.b) := Lib.hid fun m => ints_draws hy m
  have HZ := Lib.hid hz
  have NZ : Hid (∀ m : Nat, Ints (w2.drewN m) _ p.c) := Lib.hid fun m => ints_draws hz m
  have HX' := Lib.hid hx'
  have NX' : Hid (∀ m : Nat, Ints (w2.drewN m) _ q.s) := Lib.hid fun m => ints_draws hx' m
  have HY' := Lib.hid hy'
  have NY' : Hid (∀ m : Nat, Ints (w2.drewN m) _ q.b) := Lib.hid fun m => ints_draws hy' m
  have HZ' := Lib.hid hz'
  have NZ' : Hid (∀ m : Nat, Ints (w2.drewN m) _ q.c) := Lib.hid fun m => ints_draws hz' m
  clear hx hy hz hx' hy' hz'
  obtain ⟨c0, c1, c2, c3, c4, c5⟩ := six_cells Y2
  obtain ⟨d0, d1, d2, d3, d4, d5⟩ := six_cells V2
  go_wp2_with (first | (go_at_call 44; (first | (with_reducible refine (slEqual_any _ _ p.s q.s _ (by first | exact HX.out | exact NX.out _) (by first | exact HX'.out | exact NX'.out _)).mono ?_) | (with_reducible refine (slEqual_any _ _ p.b q.b _ (by first | exact HY.out | exact NY.out _) (by first | exact HY'.out | exact NY'.out _)).mono ?_) | (with_reducible refine (slEqual_any _ _ p.c q.c _ (by first | exact HZ.out | exact NZ.out _) (by first | exact HZ'.out | exact NZ'.out _)).mono ?_)); rintro e w' ⟨nn, rfl, rfl⟩; (try simp only [World.drewN_drewN])))
  go_ret
  exact ⟨ret_bool (by simp [*]), by first | exact BB.out _ | exact B2⟩

set_option maxRecDepth 100000 in
set_option maxHeartbeats 2000000 in
theorem iSameD_6 (u v : Value) (p q : Dt) (w : World) (hu : DatIn w u p) (hv : DatIn w v q) (hp : dOK p = true) (hq : dOK q = true) (h0 : p.s = q.s) (h1 : p.b = q.b) (h2 : p.c = q.c) (h3 : p.h = q.h) (h4 : p.n = q.n) (h5 : p.o.toList = q.o.toList) :
    Calls Try.prog 14 #[u, v] w fun e w' => e = .returned (.bool true) ∧ Below w.heap.size w w' := by
  have HU := hu
  have HV := hv
  obtain ⟨A1, k1, A2, k2, A3, k3, rfl⟩ := datIn_form hu
  obtain ⟨C1, j1, C2, j2, C3, j3, rfl⟩ := datIn_form hv
  clear hu hv
  have t0 : (p.s == q.s) = true := by rw [beq_iff_eq]; exact h0
  have t1 : (p.b == q.b) = true := by rw [beq_iff_eq]; exact h1
  have t2 : (p.c == q.c) = true := by rw [beq_iff_eq]; exact h2
  have t3 : (p.h == q.h) = true := by rw [beq_iff_eq]; exact h3
  have t4 : (p.n == q.n) = true := by rw [beq_iff_eq]; exact h4
  have t5 : (p.o.toList == q.o.toList) = true := by rw [beq_iff_eq]; exact h5
  clear h0
  clear h1
  clear h2
  clear h3
  clear h4
  clear h5
  go_enter Try.func14, Try.ntmps14
  go_wp2_with fail
  refine (dataOK_any _ p _ (datIn_below HU (below_alloc (below_alloc (Below.refl _ _) _) _))).mono ?_
  rintro e w1 ⟨rfl, hb⟩
  have B1 : Below w.heap.size w w1 := below_step (below_alloc (below_alloc (Below.refl _ _) _) _) hb
  have V1 := whole_b hb (whole_alloc (whole_new w _ _) _)
  have Y1 := whole_b hb (whole_new1 w _ _ _)
  clear hb
  obtain ⟨c0, c1, c2, c3, c4, c5⟩ := six_cells Y1
  go_wp2_with fail
  clear c0 c1 c2 c3 c4 c5
  refine (dataOK_any _ q _ (datIn_below HV B1)).mono ?_
  rintro e w2 ⟨rfl, hb⟩
  have B2 := below_step B1 hb
  have V2 := whole_b hb V1
  have Y2 := whole_b hb Y1
  clear hb V1 Y1 B1
  have BB : Hid (∀ n, Below w.heap.size w (w2.drewN n)) := Lib.hid fun n => below_drewN B2 n
  obtain ⟨x, y, z, he, hx, hy, hz, _⟩ := datIn_below HU B2
  simp only [Value.agg.injEq, Array.mk.injEq, List.cons.injEq, and_true, true_and] at he
  obtain ⟨rfl, rfl, rfl⟩ := he
  obtain ⟨x', y', z', he, hx', hy', hz', _⟩ := datIn_below HV B2
  simp only [Value.agg.injEq, Array.mk.injEq, List.cons.injEq, and_true, true_and] at he
  obtain ⟨rfl, rfl, rfl⟩ := he
  have HX := Lib.hid hx
  have NX : Hid (∀ m : Nat, Ints (w2.drewN m) _ p.s) := Lib.hid fun m => ints_draws hx m
  have HY := Lib.hid hy
  have NY : Hid (∀ m : Nat, Ints (w2.drewN m) _ p.b) := Lib.hid fun m => ints_draws hy m
  have HZ := Lib.hid hz
  have NZ : Hid (∀ m : Nat, Ints (w2.drewN m) _ p.c) := Lib.hid fun m => ints_draws hz m
  have HX' := Lib.hid hx'
  have NX' : Hid (∀ m : Nat, Ints (w2.drewN m) _ q.s) := Lib.hid fun m => ints_draws hx' m
  have HY' := Lib.hid hy'
  have NY' : Hid (∀ m : Nat, Ints (w2.drewN m) _ q.b) := Lib.hid fun m => ints_draws hy' m
  have HZ' := Lib.hid hz'
  have NZ' : Hid (∀ m : Nat, Ints (w2.drewN m) _ q.c) := Lib.hid fun m => ints_draws hz' m
  clear hx hy hz hx' hy' hz'
  obtain ⟨c0, c1, c2, c3, c4, c5⟩ := six_cells Y2
  obtain ⟨d0, d1, d2, d3, d4, d5⟩ := six_cells V2
  go_wp2_with (first | (go_at_call 44; (first | (with_reducible refine (slEqual_any _ _ p.s q.s _ (by first | exact HX.out | exact NX.out _) (by first | exact HX'.out | exact NX'.out _)).mono ?_) | (with_reducible refine (slEqual_any _ _ p.b q.b _ (by first | exact HY.out | exact NY.out _) (by first | exact HY'.out | exact NY'.out _)).mono ?_) | (with_reducible refine (slEqual_any _ _ p.c q.c _ (by first | exact HZ.out | exact NZ.out _) (by first | exact HZ'.out | exact NZ'.out _)).mono ?_)); rintro e w' ⟨nn, rfl, rfl⟩; (try simp only [World.drewN_drewN])))
  go_ret
  exact ⟨ret_bool (by simp [*]), by first | exact BB.out _ | exact B2⟩

theorem iSameData_any (u v : Value) (p q : Dt) (w : World) (hu : DatIn w u p) (hv : DatIn w v q) :
    Calls Try.prog 14 #[u, v] w fun e w' => e = .returned (.bool (sameV p q)) ∧ Below w.heap.size w w' := by
  cases hp : dOK p
  · have e : sameV p q = false := by unfold sameV; rw [hp]; rfl
    rw [e]; exact iSameV_a u v p q w hu hv hp
  cases hq : dOK q
  · have e : sameV p q = false := by unfold sameV; rw [hp, hq]; rfl
    rw [e]; exact iSameV_b u v p q w hu hv hp hq
  have e : sameV p q = sameD p q := by unfold sameV; rw [hp, hq]; rfl
  rw [e]
  clear e
  by_cases h0 : p.s = q.s
  rotate_left
  · rw [sameD_not (fun h => h0 h.1)]; exact iSameD_0 u v p q w hu hv hp hq h0
  by_cases h1 : p.b = q.b
  rotate_left
  · rw [sameD_not (fun h => h1 h.2.1)]; exact iSameD_1 u v p q w hu hv hp hq h0 h1
  by_cases h2 : p.c = q.c
  rotate_left
  · rw [sameD_not (fun h => h2 h.2.2.1)]; exact iSameD_2 u v p q w hu hv hp hq h0 h1 h2
  by_cases h3 : p.h = q.h
  rotate_left
  · rw [sameD_not (fun h => h3 h.2.2.2.1)]; exact iSameD_3 u v p q w hu hv hp hq h0 h1 h2 h3
  by_cases h4 : p.n = q.n
  rotate_left
  · rw [sameD_not (fun h => h4 h.2.2.2.2.1)]; exact iSameD_4 u v p q w hu hv hp hq h0 h1 h2 h3 h4
  by_cases h5 : p.o.toList = q.o.toList
  rotate_left
  · rw [sameD_not (fun h => h5 h.2.2.2.2.2)]; exact iSameD_5 u v p q w hu hv hp hq h0 h1 h2 h3 h4 h5
  rw [sameD_of h0 h1 h2 h3 h4 h5]; exact iSameD_6 u v p q w hu hv hp hq h0 h1 h2 h3 h4 h5

end Go.Proofs.Ytojjknjdlipfpaa
