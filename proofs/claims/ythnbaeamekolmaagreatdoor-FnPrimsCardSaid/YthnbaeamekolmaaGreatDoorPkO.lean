/- PkO: several of my texts, laid together: SpcG. -/
import Derived.Test.YthnbaeamekolmaaGreatDoorPkM
import Derived.Test.YthnbaeamekolmaaGreatDoorPkD
import Derived.Deep.RegionHeld3
namespace Go.Proofs.YthnbaeamekolmaaGreatDoor
open Go.RowKit
set_option linter.unusedVariables false
set_option linter.unusedSimpArgs false

set_option maxRecDepth 100000 in
set_option maxHeartbeats 2000000 in
theorem sSums_27 (v : Value) (d : Dt) (b c : Int) (w : World) (hv : DatC w v d) (hd : DtFine d) (hk : 1 ≤ d.s.length) (c1 : -2147483648 ≤ c) (c2 : c ≤ 2147483647) :
    Calls Tryz.prog 137 #[v, .int .i64 27, .int .i64 b, .int .i64 c] w (ReadC w v d (dPut d 1 [-c - 1])) := by
  have HD := hv
  obtain ⟨A1, k1, A2, k2, A3, k3, rfl, _⟩ := datC_form hv
  have hs := fine_sl hd
  have i1 : inB 27 15 24 = false := by decide
  have n1 : IntKind.i64.wrap (-c) = -c := IntWalk.i64_in _ (by omega)
  have n2 : IntKind.i64.wrap (-c - 1) = -c - 1 := IntWalk.i64_in _ (by omega)
  clear hv
  go_enter Tryz.func137, Tryz.ntmps137
  go_wp2_with (first | (go_at_call 64; refine (sIn_any _ _ _ _).mono ?_; rintro e w' ⟨rfl, rfl⟩))
  refine (sPut_any _ d 1 _ [-c - 1] _ (datC_below HD (by exact (below_alloc (below_alloc (below_alloc (Below.refl _ _) _) _) _))) (by exact ints_lit2 _ _ _ [-c - 1] (by unfold maxLen; simp)) (by omega) hs (by simp)).mono ?_
  rintro e w1 ⟨u, rfl, hb, hB⟩
  have B1 : Below w.heap.size w w1 := below_step (below_alloc (below_alloc (below_alloc (Below.refl _ _) _) _) _) hb
  have T1 := whole_b hb (whole_alloc (whole_new1 w _ _ _) _)
  have hu := built_now hB (datC_below HD B1)
  have zn : w.heap.size ≤ w1.heap.size := B1.size
  clear hb
  generalize dPut d 1 [-c - 1] = r at *
  obtain ⟨r, t⟩ := r
  simp only at hB hu
  obtain ⟨C1, j1, C2, j2, C3, j3, rfl, _⟩ := datC_form hu
  have zt := whole_lt T1
  obtain ⟨r0, r1, r2, r3, r4, r5⟩ := six_cells T1
  have fr := whole_free T1
  go_wp2
  refine bodyPost_ret (v := .tuple #[.agg #[.slice C1 r.s.length j1, .slice C2 r.b.length j2, .slice C3 r.c.length j3, .int .i64 r.h, .int .i64 r.n, .string r.o], .int .i64 t]) (by simp [results, Tryz.results137, go_sem, *]) rfl ⟨_, rfl, ?_, built_up hB (by simp; try omega) (agree_six T1)⟩
  repeat (first | with_reducible exact B1 | with_reducible refine Below.setCell ?_ (by simp) _)

set_option maxRecDepth 100000 in
set_option maxHeartbeats 2000000 in
theorem sSums_30a (v : Value) (d : Dt) (b c : Int) (w : World) (hv : DatC w v d) (hd : DtFine d) (hk : 2 ≤ d.s.length) (c1 : -2147483648 ≤ c) (c2 : c ≤ 2147483647) (h : b ≤ c) :
    Calls Tryz.prog 137 #[v, .int .i64 30, .int .i64 b, .int .i64 c] w (ReadC w v d (dPut d 2 [b])) := by
  have HD := hv
  obtain ⟨A1, k1, A2, k2, A3, k3, rfl, _⟩ := datC_form hv
  have hs := fine_sl hd
  have i1 : inB 30 15 24 = false := by decide
  clear hv
  go_enter Tryz.func137, Tryz.ntmps137
  go_wp2_with (first | (go_at_call 64; refine (sIn_any _ _ _ _).mono ?_; rintro e w' ⟨rfl, rfl⟩))
  refine (sPut_any _ d 2 _ [b] _ (datC_below HD (by exact (below_alloc (below_alloc (below_alloc (Below.refl _ _) _) _) _))) (by exact ints_lit2 _ _ _ [b] (by unfold maxLen; simp)) (by omega) hs (by simp)).mono ?_
  rintro e w1 ⟨u, rfl, hb, hB⟩
  have B1 : Below w.heap.size w w1 := below_step (below_alloc (below_alloc (below_alloc (Below.refl _ _) _) _) _) hb
  have T1 := whole_b hb (whole_alloc (whole_new1 w _ _ _) _)
  have hu := built_now hB (datC_below HD B1)
  have zn : w.heap.size ≤ w1.heap.size := B1.size
  clear hb
  generalize dPut d 2 [b] = r at *
  obtain ⟨r, t⟩ := r
  simp only at hB hu
  obtain ⟨C1, j1, C2, j2, C3, j3, rfl, _⟩ := datC_form hu
  have zt := whole_lt T1
  obtain ⟨r0, r1, r2, r3, r4, r5⟩ := six_cells T1
  have fr := whole_free T1
  go_wp2
  refine bodyPost_ret (v := .tuple #[.agg #[.slice C1 r.s.length j1, .slice C2 r.b.length j2, .slice C3 r.c.length j3, .int .i64 r.h, .int .i64 r.n, .string r.o], .int .i64 t]) (by simp [results, Tryz.results137, go_sem, *]) rfl ⟨_, rfl, ?_, built_up hB (by simp; try omega) (agree_six T1)⟩
  repeat (first | with_reducible exact B1 | with_reducible refine Below.setCell ?_ (by simp) _)

set_option maxRecDepth 100000 in
set_option maxHeartbeats 2000000 in
theorem sSums_30b (v : Value) (d : Dt) (b c : Int) (w : World) (hv : DatC w v d) (hd : DtFine d) (hk : 2 ≤ d.s.length) (c1 : -2147483648 ≤ c) (c2 : c ≤ 2147483647) (h : c < b) :
    Calls Tryz.prog 137 #[v, .int .i64 30, .int .i64 b, .int .i64 c] w (ReadC w v d (dPut d 2 [c])) := by
  have HD := hv
  obtain ⟨A1, k1, A2, k2, A3, k3, rfl, _⟩ := datC_form hv
  have hs := fine_sl hd
  have i1 : inB 30 15 24 = false := by decide
  clear hv
  go_enter Tryz.func137, Tryz.ntmps137
  go_wp2_with (first | (go_at_call 64; refine (sIn_any _ _ _ _).mono ?_; rintro e w' ⟨rfl, rfl⟩))
  refine (sPut_any _ d 2 _ [c] _ (datC_below HD (by exact (below_alloc (below_alloc (below_alloc (Below.refl _ _) _) _) _))) (by exact ints_lit2 _ _ _ [c] (by unfold maxLen; simp)) (by omega) hs (by simp)).mono ?_
  rintro e w1 ⟨u, rfl, hb, hB⟩
  have B1 : Below w.heap.size w w1 := below_step (below_alloc (below_alloc (below_alloc (Below.refl _ _) _) _) _) hb
  have T1 := whole_b hb (whole_alloc (whole_new1 w _ _ _) _)
  have hu := built_now hB (datC_below HD B1)
  have zn : w.heap.size ≤ w1.heap.size := B1.size
  clear hb
  generalize dPut d 2 [c] = r at *
  obtain ⟨r, t⟩ := r
  simp only at hB hu
  obtain ⟨C1, j1, C2, j2, C3, j3, rfl, _⟩ := datC_form hu
  have zt := whole_lt T1
  obtain ⟨r0, r1, r2, r3, r4, r5⟩ := six_cells T1
  have fr := whole_free T1
  go_wp2
  refine bodyPost_ret (v := .tuple #[.agg #[.slice C1 r.s.length j1, .slice C2 r.b.length j2, .slice C3 r.c.length j3, .int .i64 r.h, .int .i64 r.n, .string r.o], .int .i64 t]) (by simp [results, Tryz.results137, go_sem, *]) rfl ⟨_, rfl, ?_, built_up hB (by simp; try omega) (agree_six T1)⟩
  repeat (first | with_reducible exact B1 | with_reducible refine Below.setCell ?_ (by simp) _)

set_option maxRecDepth 100000 in
set_option maxHeartbeats 2000000 in
theorem sSums_31a (v : Value) (d : Dt) (b c : Int) (w : World) (hv : DatC w v d) (hd : DtFine d) (hk : 2 ≤ d.s.length) (c1 : -2147483648 ≤ c) (c2 : c ≤ 2147483647) (h : c ≤ b) :
    Calls Tryz.prog 137 #[v, .int .i64 31, .int .i64 b, .int .i64 c] w (ReadC w v d (dPut d 2 [b])) := by
  have HD := hv
  obtain ⟨A1, k1, A2, k2, A3, k3, rfl, _⟩ := datC_form hv
  have hs := fine_sl hd
  have i1 : inB 31 15 24 = false := by decide
  clear hv
  go_enter Tryz.func137, Tryz.ntmps137
  go_wp2_with (first | (go_at_call 64; refine (sIn_any _ _ _ _).mono ?_; rintro e w' ⟨rfl, rfl⟩))
  refine (sPut_any _ d 2 _ [b] _ (datC_below HD (by exact (below_alloc (below_alloc (below_alloc (Below.refl _ _) _) _) _))) (by exact ints_lit2 _ _ _ [b] (by unfold maxLen; simp)) (by omega) hs (by simp)).mono ?_
  rintro e w1 ⟨u, rfl, hb, hB⟩
  have B1 : Below w.heap.size w w1 := below_step (below_alloc (below_alloc (below_alloc (Below.refl _ _) _) _) _) hb
  have T1 := whole_b hb (whole_alloc (whole_new1 w _ _ _) _)
  have hu := built_now hB (datC_below HD B1)
  have zn : w.heap.size ≤ w1.heap.size := B1.size
  clear hb
  generalize dPut d 2 [b] = r at *
  obtain ⟨r, t⟩ := r
  simp only at hB hu
  obtain ⟨C1, j1, C2, j2, C3, j3, rfl, _⟩ := datC_form hu
  have zt := whole_lt T1
  obtain ⟨r0, r1, r2, r3, r4, r5⟩ := six_cells T1
  have fr := whole_free T1
  go_wp2
  refine bodyPost_ret (v := .tuple #[.agg #[.slice C1 r.s.length j1, .slice C2 r.b.length j2, .slice C3 r.c.length j3, .int .i64 r.h, .int .i64 r.n, .string r.o], .int .i64 t]) (by simp [results, Tryz.results137, go_sem, *]) rfl ⟨_, rfl, ?_, built_up hB (by simp; try omega) (agree_six T1)⟩
  repeat (first | with_reducible exact B1 | with_reducible refine Below.setCell ?_ (by simp) _)

set_option maxRecDepth 100000 in
set_option maxHeartbeats 2000000 in
theorem sSums_31b (v : Value) (d : Dt) (b c : Int) (w : World) (hv : DatC w v d) (hd : DtFine d) (hk : 2 ≤ d.s.length) (c1 : -2147483648 ≤ c) (c2 : c ≤ 2147483647) (h : b < c) :
    Calls Tryz.prog 137 #[v, .int .i64 31, .int .i64 b, .int .i64 c] w (ReadC w v d (dPut d 2 [c])) := by
  have HD := hv
  obtain ⟨A1, k1, A2, k2, A3, k3, rfl, _⟩ := datC_form hv
  have hs := fine_sl hd
  have i1 : inB 31 15 24 = false := by decide
  clear hv
  go_enter Tryz.func137, Tryz.ntmps137
  go_wp2_with (first | (go_at_call 64; refine (sIn_any _ _ _ _).mono ?_; rintro e w' ⟨rfl, rfl⟩))
  refine (sPut_any _ d 2 _ [c] _ (datC_below HD (by exact (below_alloc (below_alloc (below_alloc (Below.refl _ _) _) _) _))) (by exact ints_lit2 _ _ _ [c] (by unfold maxLen; simp)) (by omega) hs (by simp)).mono ?_
  rintro e w1 ⟨u, rfl, hb, hB⟩
  have B1 : Below w.heap.size w w1 := below_step (below_alloc (below_alloc (below_alloc (Below.refl _ _) _) _) _) hb
  have T1 := whole_b hb (whole_alloc (whole_new1 w _ _ _) _)
  have hu := built_now hB (datC_below HD B1)
  have zn : w.heap.size ≤ w1.heap.size := B1.size
  clear hb
  generalize dPut d 2 [c] = r at *
  obtain ⟨r, t⟩ := r
  simp only at hB hu
  obtain ⟨C1, j1, C2, j2, C3, j3, rfl, _⟩ := datC_form hu
  have zt := whole_lt T1
  obtain ⟨r0, r1, r2, r3, r4, r5⟩ := six_cells T1
  have fr := whole_free T1
  go_wp2
  refine bodyPost_ret (v := .tuple #[.agg #[.slice C1 r.s.length j1, .slice C2 r.b.length j2, .slice C3 r.c.length j3, .int .i64 r.h, .int .i64 r.n, .string r.o], .int .i64 t]) (by simp [results, Tryz.results137, go_sem, *]) rfl ⟨_, rfl, ?_, built_up hB (by simp; try omega) (agree_six T1)⟩
  repeat (first | with_reducible exact B1 | with_reducible refine Below.setCell ?_ (by simp) _)

set_option maxRecDepth 100000 in
set_option maxHeartbeats 4000000 in
theorem sSums_37 (v : Value) (d : Dt) (b c : Int) (w : World) (hv : DatC w v d) (hd : DtFine d) (hk : 1 ≤ d.s.length) (c1 : -2147483648 ≤ c) (c2 : c ≤ 2147483647) :
    Calls Tryz.prog 137 #[v, .int .i64 37, .int .i64 b, .int .i64 c] w (ReadC w v d (dPut d 1 [flagI (c == 0)])) := by
  have HD := hv
  obtain ⟨A1, k1, A2, k2, A3, k3, rfl, _⟩ := datC_form hv
  have hs := fine_sl hd
  have i1 : inB 37 15 24 = false := by decide
  clear hv
  go_enter Tryz.func137, Tryz.ntmps137
  go_wp2_with (first | (go_at_call 64; refine (sIn_any _ _ _ _).mono ?_; rintro e w' ⟨rfl, rfl⟩))
  go_region_with (first
    | (go_at_call 196; refine (sFlag_any _ _).mono ?_; rintro e w' ⟨rfl, rfl⟩)
    | (go_at_call 194; refine (sPut_any _ d 1 _ [flagI (c == 0)] _ (datC_below HD (by exact (below_alloc (below_alloc (below_alloc (Below.refl _ _) _) _) _).drew)) (by exact ints_lit2 _ _ _ [flagI (c == 0)] (by unfold maxLen; simp)) (by omega) hs (by simp)).mono ?_
       rintro e w1 ⟨u, rfl, hb, hB⟩
       have B1 : Below w.heap.size w w1 := below_step ((below_alloc (below_alloc (below_alloc (Below.refl _ _) _) _) _).drew) hb
       have T1 : Whole w1 (w.heap.size + 1) 40 _ := whole_b hb (whole_alloc (whole_new1 w _ _ _) _)
       have hu := built_now hB (datC_below HD B1)
       have zn : w.heap.size + 1 + 1 ≤ w1.heap.size := by have := whole_lt T1; omega
       clear hb
       generalize dPut d 1 [flagI (c == 0)] = r at *
       obtain ⟨r, t⟩ := r
       simp only at hB hu
       obtain ⟨C1, j1, C2, j2, C3, j3, rfl, _⟩ := datC_form hu
       have zt := whole_lt T1
       obtain ⟨r0, r1, r2, r3, r4, r5⟩ := six_cells T1
       have fr := whole_free T1))
  all_goals
    go_wp2
    refine bodyPost_ret (v := .tuple #[.agg #[.slice C1 r.s.length j1, .slice C2 r.b.length j2, .slice C3 r.c.length j3, .int .i64 r.h, .int .i64 r.n, .string r.o], .int .i64 t]) (by simp [results, Tryz.results137, go_sem, *]) rfl ⟨_, rfl, ?_, built_up hB (by simp; try omega) (agree_six T1)⟩
    repeat (first | with_reducible exact B1 | with_reducible refine Below.setCell ?_ (by simp) _)

set_option maxRecDepth 100000 in
set_option maxHeartbeats 4000000 in
theorem sSums_38 (v : Value) (d : Dt) (b c : Int) (w : World) (hv : DatC w v d) (hd : DtFine d) (hk : 1 ≤ d.s.length) (c1 : -2147483648 ≤ c) (c2 : c ≤ 2147483647) :
    Calls Tryz.prog 137 #[v, .int .i64 38, .int .i64 b, .int .i64 c] w (ReadC w v d (dPut d 1 [flagI (decide (c < 0))])) := by
  have HD := hv
  obtain ⟨A1, k1, A2, k2, A3, k3, rfl, _⟩ := datC_form hv
  have hs := fine_sl hd
  have i1 : inB 38 15 24 = false := by decide
  clear hv
  go_enter Tryz.func137, Tryz.ntmps137
  go_wp2_with (first | (go_at_call 64; refine (sIn_any _ _ _ _).mono ?_; rintro e w' ⟨rfl, rfl⟩))
  go_region_with (first
    | (go_at_call 196; refine (sFlag_any _ _).mono ?_; rintro e w' ⟨rfl, rfl⟩)
    | (go_at_call 194; refine (sPut_any _ d 1 _ [flagI (decide (c < 0))] _ (datC_below HD (by exact (below_alloc (below_alloc (below_alloc (Below.refl _ _) _) _) _).drew)) (by exact ints_lit2 _ _ _ [flagI (decide (c < 0))] (by unfold maxLen; simp)) (by omega) hs (by simp)).mono ?_
       rintro e w1 ⟨u, rfl, hb, hB⟩
       have B1 : Below w.heap.size w w1 := below_step ((below_alloc (below_alloc (below_alloc (Below.refl _ _) _) _) _).drew) hb
       have T1 : Whole w1 (w.heap.size + 1) 40 _ := whole_b hb (whole_alloc (whole_new1 w _ _ _) _)
       have hu := built_now hB (datC_below HD B1)
       have zn : w.heap.size + 1 + 1 ≤ w1.heap.size := by have := whole_lt T1; omega
       clear hb
       generalize dPut d 1 [flagI (decide (c < 0))] = r at *
       obtain ⟨r, t⟩ := r
       simp only at hB hu
       obtain ⟨C1, j1, C2, j2, C3, j3, rfl, _⟩ := datC_form hu
       have zt := whole_lt T1
       obtain ⟨r0, r1, r2, r3, r4, r5⟩ := six_cells T1
       have fr := whole_free T1))
  all_goals
    go_wp2
    refine bodyPost_ret (v := .tuple #[.agg #[.slice C1 r.s.length j1, .slice C2 r.b.length j2, .slice C3 r.c.length j3, .int .i64 r.h, .int .i64 r.n, .string r.o], .int .i64 t]) (by simp [results, Tryz.results137, go_sem, *]) rfl ⟨_, rfl, ?_, built_up hB (by simp; try omega) (agree_six T1)⟩
    repeat (first | with_reducible exact B1 | with_reducible refine Below.setCell ?_ (by simp) _)

end Go.Proofs.YthnbaeamekolmaaGreatDoor
