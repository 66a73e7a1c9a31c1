/- What spec's operations on a script's data hand back. -/
import Derived.Test.YtojjknjdlipfpaaDatP
namespace Go.Proofs.Ytojjknjdlipfpaa
open Go.RowKit
set_option linter.unusedVariables false
set_option linter.unusedSimpArgs false

theorem one_i64 (n : Int) (rest : List Int) : (Value.int .i64 n :: rest.map (Value.int .i64)) = (n :: rest).map (Value.int .i64) := rfl

set_option maxRecDepth 100000 in
set_option maxHeartbeats 2000000 in
theorem sPush_bad (v : Value) (d : Dt) (n : Int) (w : World) (hv : DatIn w v d) (hs : SmallD d) (hk : dOK d = false) :
    Calls Try.prog 13 #[v, .int .i64 n] w (ResOf w noDt [0, 1]) := by
  have HD := hv
  obtain ⟨A1, k1, A2, k2, A3, k3, rfl⟩ := datIn_form hv
  clear hv
  go_enter Try.func13, Try.ntmps13
  go_wp2_with fail
  refine (sOK_any _ d _ (datIn_below HD (below_alloc (below_alloc (Below.refl _ _) _) _))).mono ?_
  rintro e w1 ⟨rfl, hb⟩
  have B1 : Below w.heap.size w w1 := below_step (below_alloc (below_alloc (Below.refl _ _) _) _) hb
  have V1 := whole_b hb (whole_alloc (whole_new w _ _) _)
  have T1 := whole_b hb (whole_new1 w _ _ _)
  clear hb
  obtain ⟨c0, c1, c2, c3, c4, c5⟩ := six_cells V1
  obtain ⟨r0, r1, r2, r3, r4, r5⟩ := six_cells T1
  have fr := whole_free T1
  go_wp2
  refine bodyPost_ret (v := .tuple #[.agg #[.slice none 0 0, .slice none 0 0, .slice none 0 0, .int .i64 0, .int .i64 0, .string ByteArray.empty], .int .i64 0, .int .i64 1]) (by simp [results, Try.results13, go_sem, *]; try rfl) rfl ⟨_, rfl, datOf_none _ _ _, ?_⟩
  repeat (first | with_reducible exact B1 | with_reducible refine Below.setCell ?_ (by simp) _)

set_option maxRecDepth 100000 in
set_option maxHeartbeats 2000000 in
theorem sPush_range (v : Value) (d : Dt) (n : Int) (w : World) (hv : DatIn w v d) (hs : SmallD d) (hk : dOK d = true) (hn : cellB n = false) :
    Calls Try.prog 13 #[v, .int .i64 n] w (ResOf w noDt [0, 4]) := by
  have HD := hv
  obtain ⟨A1, k1, A2, k2, A3, k3, rfl⟩ := datIn_form hv
  clear hv
  go_enter Try.func13, Try.ntmps13
  go_wp2_with fail
  refine (sOK_any _ d _ (datIn_below HD (below_alloc (below_alloc (Below.refl _ _) _) _))).mono ?_
  rintro e w1 ⟨rfl, hb⟩
  have B1 : Below w.heap.size w w1 := below_step (below_alloc (below_alloc (Below.refl _ _) _) _) hb
  have V1 := whole_b hb (whole_alloc (whole_new w _ _) _)
  have T1 := whole_b hb (whole_new1 w _ _ _)
  clear hb
  obtain ⟨c0, c1, c2, c3, c4, c5⟩ := six_cells V1
  obtain ⟨r0, r1, r2, r3, r4, r5⟩ := six_cells T1
  have fr := whole_free T1
  go_wp2_with (go_at_call 40; refine (sCell_any _ _).mono ?_; rintro e w' ⟨rfl, rfl⟩)
  refine bodyPost_ret (v := .tuple #[.agg #[.slice none 0 0, .slice none 0 0, .slice none 0 0, .int .i64 0, .int .i64 0, .string ByteArray.empty], .int .i64 0, .int .i64 4]) (by simp [results, Try.results13, go_sem, *]; try rfl) rfl ⟨_, rfl, datOf_none _ _ _, ?_⟩
  repeat (first | with_reducible exact B1 | with_reducible refine Below.setCell ?_ (by simp) _)

set_option maxRecDepth 100000 in
set_option maxHeartbeats 2000000 in
theorem sPush_main (v : Value) (d : Dt) (n : Int) (w : World) (hv : DatIn w v d) (hs : SmallD d) (hk : dOK d = true) (hn : cellB n = true) (r : Dt) (t0 : Int) (hr : SmallD r) (hin : Hid (∀ W, DatIn W v d → Calls Try.prog 41 #[v, .int .i64 n] W (ReadOf W r [t0]))) :
    Calls Try.prog 13 #[v, .int .i64 n] w (ResOf w r [t0, 0]) := by
  have HD := hv
  obtain ⟨A1, k1, A2, k2, A3, k3, rfl⟩ := datIn_form hv
  clear hv
  go_enter Try.func13, Try.ntmps13
  go_wp2_with fail
  refine (sOK_any _ d _ (datIn_below HD (below_alloc (below_alloc (Below.refl _ _) _) _))).mono ?_
  rintro e w1 ⟨rfl, hb⟩
  have B1 : Below w.heap.size w w1 := below_step (below_alloc (below_alloc (Below.refl _ _) _) _) hb
  have V1 := whole_b hb (whole_alloc (whole_new w _ _) _)
  have T1 := whole_b hb (whole_new1 w _ _ _)
  clear hb
  obtain ⟨c0, c1, c2, c3, c4, c5⟩ := six_cells V1
  obtain ⟨r0, r1, r2, r3, r4, r5⟩ := six_cells T1
  have fr := whole_free T1
  go_wp2_with (first | (go_at_call 40; refine (sCell_any _ _).mono ?_; rintro e w' ⟨rfl, rfl⟩) | (go_at_call 41; fail))
  refine (hin.out _ (datIn_below HD B1)).mono ?_
  rintro e w2 ⟨u, rfl, hu, hb⟩
  obtain ⟨C1, j1, C2, j2, C3, j3, rfl⟩ := datIn_form hu
  have B2 := below_b hb B1
  have T2 := whole_b hb T1
  clear hb c0 c1 c2 c3 c4 c5 r0 r1 r2 r3 r4 r5 fr V1 T1
  simp only [List.map_cons, List.map_nil]
  go_wp2_with fail
  refine (sOwn_any _ r _ (datIn_below hu (below_alloc (Below.refl _ _) _)) hr).mono ?_
  rintro e w3 ⟨u', rfl, hu', hb⟩
  obtain ⟨E1, i1, E2, i2, E3, i3, rfl⟩ := datIn_form (datOf_in hu')
  have B3 := below_b hb (below_alloc B2 _)
  have T3 := whole_b hb (whole_alloc T2 _)
  have hlt : w.heap.size + 1 < w2.heap.size := whole_lt T2
  clear hb
  obtain ⟨r0, r1, r2, r3, r4, r5⟩ := six_cells T3
  have fr := whole_free T3
  go_wp2
  refine bodyPost_ret (v := .tuple #[.agg #[.slice E1 r.s.length i1, .slice E2 r.b.length i2, .slice E3 r.c.length i3, .int .i64 r.h, .int .i64 r.n, .string r.o], .int .i64 t0, .int .i64 0]) (by simp [results, Try.results13, go_sem, *]) rfl ⟨_, rfl, ?_, ?_⟩
  · refine datOf_top (datOf_base (datOf_keep (lo := w2.heap.size + 1) (by simpa using hu') (fun g h1 h2 h3 => ?_)) (by omega)) (by simp)
    iterate 6 rw [Below.heap_setCell _ _ _ _ (by show g ≠ w.heap.size + 1; omega)]
  · repeat (first | with_reducible exact B3 | with_reducible refine Below.setCell ?_ (by simp) _)

set_option maxRecDepth 100000 in
set_option maxHeartbeats 2000000 in
theorem sStore_bad (v : Value) (d : Dt) (x : Int) (n : Int) (w : World) (hv : DatIn w v d) (hs : SmallD d) (hk : dOK d = false) :
    Calls Try.prog 18 #[v, .int .i64 x, .int .i64 n] w (ResOf w noDt [0, 1]) := by
  have HD := hv
  obtain ⟨A1, k1, A2, k2, A3, k3, rfl⟩ := datIn_form hv
  clear hv
  go_enter Try.func18, Try.ntmps18
  go_wp2_with fail
  refine (sOK_any _ d _ (datIn_below HD (below_alloc (below_alloc (Below.refl _ _) _) _))).mono ?_
  rintro e w1 ⟨rfl, hb⟩
  have B1 : Below w.heap.size w w1 := below_step (below_alloc (below_alloc (Below.refl _ _) _) _) hb
  have V1 := whole_b hb (whole_alloc (whole_new w _ _) _)
  have T1 := whole_b hb (whole_new1 w _ _ _)
  clear hb
  obtain ⟨c0, c1, c2, c3, c4, c5⟩ := six_cells V1
  obtain ⟨r0, r1, r2, r3, r4, r5⟩ := six_cells T1
  have fr := whole_free T1
  go_wp2
  refine bodyPost_ret (v := .tuple #[.agg #[.slice none 0 0, .slice none 0 0, .slice none 0 0, .int .i64 0, .int .i64 0, .string ByteArray.empty], .int .i64 0, .int .i64 1]) (by simp [results, Try.results18, go_sem, *]; try rfl) rfl ⟨_, rfl, datOf_none _ _ _, ?_⟩
  repeat (first | with_reducible exact B1 | with_reducible refine Below.setCell ?_ (by simp) _)

set_option maxRecDepth 100000 in
set_option maxHeartbeats 2000000 in
theorem sStore_range (v : Value) (d : Dt) (x : Int) (n : Int) (w : World) (hv : DatIn w v d) (hs : SmallD d) (hk : dOK d = true) (hn : cellB n = false) :
    Calls Try.prog 18 #[v, .int .i64 x, .int .i64 n] w (ResOf w noDt [0, 4]) := by
  have HD := hv
  obtain ⟨A1, k1, A2, k2, A3, k3, rfl⟩ := datIn_form hv
  clear hv
  go_enter Try.func18, Try.ntmps18
  go_wp2_with fail
  refine (sOK_any _ d _ (datIn_below HD (below_alloc (below_alloc (Below.refl _ _) _) _))).mono ?_
  rintro e w1 ⟨rfl, hb⟩
  have B1 : Below w.heap.size w w1 := below_step (below_alloc (below_alloc (Below.refl _ _) _) _) hb
  have V1 := whole_b hb (whole_alloc (whole_new w _ _) _)
  have T1 := whole_b hb (whole_new1 w _ _ _)
  clear hb
  obtain ⟨c0, c1, c2, c3, c4, c5⟩ := six_cells V1
  obtain ⟨r0, r1, r2, r3, r4, r5⟩ := six_cells T1
  have fr := whole_free T1
  go_wp2_with (go_at_call 40; refine (sCell_any _ _).mono ?_; rintro e w' ⟨rfl, rfl⟩)
  refine bodyPost_ret (v := .tuple #[.agg #[.slice none 0 0, .slice none 0 0, .slice none 0 0, .int .i64 0, .int .i64 0, .string ByteArray.empty], .int .i64 0, .int .i64 4]) (by simp [results, Try.results18, go_sem, *]; try rfl) rfl ⟨_, rfl, datOf_none _ _ _, ?_⟩
  repeat (first | with_reducible exact B1 | with_reducible refine Below.setCell ?_ (by simp) _)

set_option maxRecDepth 100000 in
set_option maxHeartbeats 2000000 in
theorem sStore_main (v : Value) (d : Dt) (x : Int) (n : Int) (w : World) (hv : DatIn w v d) (hs : SmallD d) (hk : dOK d = true) (hn : cellB n = true) (r : Dt) (t0 : Int) (hr : SmallD r) (hin : Hid (∀ W, DatIn W v d → Calls Try.prog 47 #[v, .int .i64 x, .int .i64 n] W (ReadOf W r [t0]))) :
    Calls Try.prog 18 #[v, .int .i64 x, .int .i64 n] w (ResOf w r [t0, 0]) := by
  have HD := hv
  obtain ⟨A1, k1, A2, k2, A3, k3, rfl⟩ := datIn_form hv
  clear hv
  go_enter Try.func18, Try.ntmps18
  go_wp2_with fail
  refine (sOK_any _ d _ (datIn_below HD (below_alloc (below_alloc (Below.refl _ _) _) _))).mono ?_
  rintro e w1 ⟨rfl, hb⟩
  have B1 : Below w.heap.size w w1 := below_step (below_alloc (below_alloc (Below.refl _ _) _) _) hb
  have V1 := whole_b hb (whole_alloc (whole_new w _ _) _)
  have T1 := whole_b hb (whole_new1 w _ _ _)
  clear hb
  obtain ⟨c0, c1, c2, c3, c4, c5⟩ := six_cells V1
  obtain ⟨r0, r1, r2, r3, r4, r5⟩ := six_cells T1
  have fr := whole_free T1
  go_wp2_with (first | (go_at_call 40; refine (sCell_any _ _).mono ?_; rintro e w' ⟨rfl, rfl⟩) | (go_at_call 47; fail))
  refine (hin.out _ (datIn_below HD B1)).mono ?_
  rintro e w2 ⟨u, rfl, hu, hb⟩
  obtain ⟨C1, j1, C2, j2, C3, j3, rfl⟩ := datIn_form hu
  have B2 := below_b hb B1
  have T2 := whole_b hb T1
  clear hb c0 c1 c2 c3 c4 c5 r0 r1 r2 r3 r4 r5 fr V1 T1
  simp only [List.map_cons, List.map_nil]
  go_wp2_with fail
  refine (sOwn_any _ r _ (datIn_below hu (below_alloc (Below.refl _ _) _)) hr).mono ?_
  rintro e w3 ⟨u', rfl, hu', hb⟩
  obtain ⟨E1, i1, E2, i2, E3, i3, rfl⟩ := datIn_form (datOf_in hu')
  have B3 := below_b hb (below_alloc B2 _)
  have T3 := whole_b hb (whole_alloc T2 _)
  have hlt : w.heap.size + 1 < w2.heap.size := whole_lt T2
  clear hb
  obtain ⟨r0, r1, r2, r3, r4, r5⟩ := six_cells T3
  have fr := whole_free T3
  go_wp2
  refine bodyPost_ret (v := .tuple #[.agg #[.slice E1 r.s.length i1, .slice E2 r.b.length i2, .slice E3 r.c.length i3, .int .i64 r.h, .int .i64 r.n, .string r.o], .int .i64 t0, .int .i64 0]) (by simp [results, Try.results18, go_sem, *]) rfl ⟨_, rfl, ?_, ?_⟩
  · refine datOf_top (datOf_base (datOf_keep (lo := w2.heap.size + 1) (by simpa using hu') (fun g h1 h2 h3 => ?_)) (by omega)) (by simp)
    iterate 6 rw [Below.heap_setCell _ _ _ _ (by show g ≠ w.heap.size + 1; omega)]
  · repeat (first | with_reducible exact B3 | with_reducible refine Below.setCell ?_ (by simp) _)

set_option maxRecDepth 100000 in
set_option maxHeartbeats 2000000 in
theorem sAllot_bad (v : Value) (d : Dt) (n : Int) (w : World) (hv : DatIn w v d) (hs : SmallD d) (hk : dOK d = false) :
    Calls Try.prog 21 #[v, .int .i64 n] w (ResOf w noDt [0, 1]) := by
  have HD := hv
  obtain ⟨A1, k1, A2, k2, A3, k3, rfl⟩ := datIn_form hv
  clear hv
  go_enter Try.func21, Try.ntmps21
  go_wp2_with fail
  refine (sOK_any _ d _ (datIn_below HD (below_alloc (below_alloc (Below.refl _ _) _) _))).mono ?_
  rintro e w1 ⟨rfl, hb⟩
  have B1 : Below w.heap.size w w1 := below_step (below_alloc (below_alloc (Below.refl _ _) _) _) hb
  have V1 := whole_b hb (whole_alloc (whole_new w _ _) _)
  have T1 := whole_b hb (whole_new1 w _ _ _)
  clear hb
  obtain ⟨c0, c1, c2, c3, c4, c5⟩ := six_cells V1
  obtain ⟨r0, r1, r2, r3, r4, r5⟩ := six_cells T1
  have fr := whole_free T1
  go_wp2
  refine bodyPost_ret (v := .tuple #[.agg #[.slice none 0 0, .slice none 0 0, .slice none 0 0, .int .i64 0, .int .i64 0, .string ByteArray.empty], .int .i64 0, .int .i64 1]) (by simp [results, Try.results21, go_sem, *]; try rfl) rfl ⟨_, rfl, datOf_none _ _ _, ?_⟩
  repeat (first | with_reducible exact B1 | with_reducible refine Below.setCell ?_ (by simp) _)

set_option maxRecDepth 100000 in
set_option maxHeartbeats 2000000 in
theorem sAllot_range (v : Value) (d : Dt) (n : Int) (w : World) (hv : DatIn w v d) (hs : SmallD d) (hk : dOK d = true) (hn : cellB n = false) :
    Calls Try.prog 21 #[v, .int .i64 n] w (ResOf w noDt [0, 4]) := by
  have HD := hv
  obtain ⟨A1, k1, A2, k2, A3, k3, rfl⟩ := datIn_form hv
  clear hv
  go_enter Try.func21, Try.ntmps21
  go_wp2_with fail
  refine (sOK_any _ d _ (datIn_below HD (below_alloc (below_alloc (Below.refl _ _) _) _))).mono ?_
  rintro e w1 ⟨rfl, hb⟩
  have B1 : Below w.heap.size w w1 := below_step (below_alloc (below_alloc (Below.refl _ _) _) _) hb
  have V1 := whole_b hb (whole_alloc (whole_new w _ _) _)
  have T1 := whole_b hb (whole_new1 w _ _ _)
  clear hb
  obtain ⟨c0, c1, c2, c3, c4, c5⟩ := six_cells V1
  obtain ⟨r0, r1, r2, r3, r4, r5⟩ := six_cells T1
  have fr := whole_free T1
  go_wp2_with (go_at_call 40; refine (sCell_any _ _).mono ?_; rintro e w' ⟨rfl, rfl⟩)
  refine bodyPost_ret (v := .tuple #[.agg #[.slice none 0 0, .slice none 0 0, .slice none 0 0, .int .i64 0, .int .i64 0, .string ByteArray.empty], .int .i64 0, .int .i64 4]) (by simp [results, Try.results21, go_sem, *]; try rfl) rfl ⟨_, rfl, datOf_none _ _ _, ?_⟩
  repeat (first | with_reducible exact B1 | with_reducible refine Below.setCell ?_ (by simp) _)

set_option maxRecDepth 100000 in
set_option maxHeartbeats 2000000 in
theorem sAllot_main (v : Value) (d : Dt) (n : Int) (w : World) (hv : DatIn w v d) (hs : SmallD d) (hk : dOK d = true) (hn : cellB n = true) (r : Dt) (t0 : Int) (hr : SmallD r) (hin : Hid (∀ W, DatIn W v d → Calls Try.prog 50 #[v, .int .i64 n] W (ReadOf W r [t0]))) :
    Calls Try.prog 21 #[v, .int .i64 n] w (ResOf w r [t0, 0]) := by
  have HD := hv
  obtain ⟨A1, k1, A2, k2, A3, k3, rfl⟩ := datIn_form hv
  clear hv
  go_enter Try.func21, Try.ntmps21
  go_wp2_with fail
  refine (sOK_any _ d _ (datIn_below HD (below_alloc (below_alloc (Below.refl _ _) _) _))).mono ?_
  rintro e w1 ⟨rfl, hb⟩
  have B1 : Below w.heap.size w w1 := below_step (below_alloc (below_alloc (Below.refl _ _) _) _) hb
  have V1 := whole_b hb (whole_alloc (whole_new w _ _) _)
  have T1 := whole_b hb (whole_new1 w _ _ _)
  clear hb
  obtain ⟨c0, c1, c2, c3, c4, c5⟩ := six_cells V1
  obtain ⟨r0, r1, r2, r3, r4, r5⟩ := six_cells T1
  have fr := whole_free T1
  go_wp2_with (first | (go_at_call 40; refine (sCell_any _ _).mono ?_; rintro e w' ⟨rfl, rfl⟩) | (go_at_call 50; fail))
  refine (hin.out _ (datIn_below HD B1)).mono ?_
  rintro e w2 ⟨u, rfl, hu, hb⟩
  obtain ⟨C1, j1, C2, j2, C3, j3, rfl⟩ := datIn_form hu
  have B2 := below_b hb B1
  have T2 := whole_b hb T1
  clear hb c0 c1 c2 c3 c4 c5 r0 r1 r2 r3 r4 r5 fr V1 T1
  simp only [List.map_cons, List.map_nil]
  go_wp2_with fail
  refine (sOwn_any _ r _ (datIn_below hu (below_alloc (Below.refl _ _) _)) hr).mono ?_
  rintro e w3 ⟨u', rfl, hu', hb⟩
  obtain ⟨E1, i1, E2, i2, E3, i3, rfl⟩ := datIn_form (datOf_in hu')
  have B3 := below_b hb (below_alloc B2 _)
  have T3 := whole_b hb (whole_alloc T2 _)
  have hlt : w.heap.size + 1 < w2.heap.size := whole_lt T2
  clear hb
  obtain ⟨r0, r1, r2, r3, r4, r5⟩ := six_cells T3
  have fr := whole_free T3
  go_wp2
  refine bodyPost_ret (v := .tuple #[.agg #[.slice E1 r.s.length i1, .slice E2 r.b.length i2, .slice E3 r.c.length i3, .int .i64 r.h, .int .i64 r.n, .string r.o], .int .i64 t0, .int .i64 0]) (by simp [results, Try.results21, go_sem, *]) rfl ⟨_, rfl, ?_, ?_⟩
  · refine datOf_top (datOf_base (datOf_keep (lo := w2.heap.size + 1) (by simpa using hu') (fun g h1 h2 h3 => ?_)) (by omega)) (by simp)
    iterate 6 rw [Below.heap_setCell _ _ _ _ (by show g ≠ w.heap.size + 1; omega)]
  · repeat (first | with_reducible exact B3 | with_reducible refine Below.setCell ?_ (by simp) _)

set_option maxRecDepth 100000 in
set_option maxHeartbeats 2000000 in
theorem sPop_bad (v : Value) (d : Dt) (w : World) (hv : DatIn w v d) (hs : SmallD d) (hk : dOK d = false) :
    Calls Try.prog 32 #[v] w (ResOf w noDt [0, 0, 1]) := by
  have HD := hv
  obtain ⟨A1, k1, A2, k2, A3, k3, rfl⟩ := datIn_form hv
  clear hv
  go_enter Try.func32, Try.ntmps32
  go_wp2_with fail
  refine (sOK_any _ d _ (datIn_below HD (below_alloc (below_alloc (Below.refl _ _) _) _))).mono ?_
  rintro e w1 ⟨rfl, hb⟩
  have B1 : Below w.heap.size w w1 := below_step (below_alloc (below_alloc (Below.refl _ _) _) _) hb
  have V1 := whole_b hb (whole_alloc (whole_new w _ _) _)
  have T1 := whole_b hb (whole_new1 w _ _ _)
  clear hb
  obtain ⟨c0, c1, c2, c3, c4, c5⟩ := six_cells V1
  obtain ⟨r0, r1, r2, r3, r4, r5⟩ := six_cells T1
  have fr := whole_free T1
  go_wp2
  refine bodyPost_ret (v := .tuple #[.agg #[.slice none 0 0, .slice none 0 0, .slice none 0 0, .int .i64 0, .int .i64 0, .string ByteArray.empty], .int .i64 0, .int .i64 0, .int .i64 1]) (by simp [results, Try.results32, go_sem, *]; try rfl) rfl ⟨_, rfl, datOf_none _ _ _, ?_⟩
  repeat (first | with_reducible exact B1 | with_reducible refine Below.setCell ?_ (by simp) _)

set_option maxRecDepth 100000 in
set_option maxHeartbeats 2000000 in
theorem sPop_main (v : Value) (d : Dt) (w : World) (hv : DatIn w v d) (hs : SmallD d) (hk : dOK d = true) (r : Dt) (t0 t1 : Int) (hr : SmallD r) (hin : Hid (∀ W, DatIn W v d → Calls Try.prog 60 #[v] W (ReadOf W r [t0, t1]))) :
    Calls Try.prog 32 #[v] w (ResOf w r [t0, t1, 0]) := by
  have HD := hv
  obtain ⟨A1, k1, A2, k2, A3, k3, rfl⟩ := datIn_form hv
  clear hv
  go_enter Try.func32, Try.ntmps32
  go_wp2_with fail
  refine (sOK_any _ d _ (datIn_below HD (below_alloc (below_alloc (Below.refl _ _) _) _))).mono ?_
  rintro e w1 ⟨rfl, hb⟩
  have B1 : Below w.heap.size w w1 := below_step (below_alloc (below_alloc (Below.refl _ _) _) _) hb
  have V1 := whole_b hb (whole_alloc (whole_new w _ _) _)
  have T1 := whole_b hb (whole_new1 w _ _ _)
  clear hb
  obtain ⟨c0, c1, c2, c3, c4, c5⟩ := six_cells V1
  obtain ⟨r0, r1, r2, r3, r4, r5⟩ := six_cells T1
  have fr := whole_free T1
  go_wp2_with (first | (go_at_call 60; fail))
  refine (hin.out _ (datIn_below HD B1)).mono ?_
  rintro e w2 ⟨u, rfl, hu, hb⟩
  obtain ⟨C1, j1, C2, j2, C3, j3, rfl⟩ := datIn_form hu
  have B2 := below_b hb B1
  have T2 := whole_b hb T1
  clear hb c0 c1 c2 c3 c4 c5 r0 r1 r2 r3 r4 r5 fr V1 T1
  simp only [List.map_cons, List.map_nil]
  go_wp2_with fail
  refine (sOwn_any _ r _ (datIn_below hu (below_alloc (Below.refl _ _) _)) hr).mono ?_
  rintro e w3 ⟨u', rfl, hu', hb⟩
  obtain ⟨E1, i1, E2, i2, E3, i3, rfl⟩ := datIn_form (datOf_in hu')
  have B3 := below_b hb (below_alloc B2 _)
  have T3 := whole_b hb (whole_alloc T2 _)
  have hlt : w.heap.size + 1 < w2.heap.size := whole_lt T2
  clear hb
  obtain ⟨r0, r1, r2, r3, r4, r5⟩ := six_cells T3
  have fr := whole_free T3
  go_wp2
  refine bodyPost_ret (v := .tuple #[.agg #[.slice E1 r.s.length i1, .slice E2 r.b.length i2, .slice E3 r.c.length i3, .int .i64 r.h, .int .i64 r.n, .string r.o], .int .i64 t0, .int .i64 t1, .int .i64 0]) (by simp [results, Try.results32, go_sem, *]) rfl ⟨_, rfl, ?_, ?_⟩
  · refine datOf_top (datOf_base (datOf_keep (lo := w2.heap.size + 1) (by simpa using hu') (fun g h1 h2 h3 => ?_)) (by omega)) (by simp)
    iterate 6 rw [Below.heap_setCell _ _ _ _ (by show g ≠ w.heap.size + 1; omega)]
  · repeat (first | with_reducible exact B3 | with_reducible refine Below.setCell ?_ (by simp) _)

set_option maxRecDepth 100000 in
set_option maxHeartbeats 2000000 in
theorem sSay_bad (v : Value) (d : Dt) (s : ByteArray) (w : World) (hv : DatIn w v d) (hs : SmallD d) (h0 : s.size ≤ 65536) (hk : dOK d = false) :
    Calls Try.prog 24 #[v, .string s] w (ResOf w noDt [0, 1]) := by
  have HD := hv
  obtain ⟨A1, k1, A2, k2, A3, k3, rfl⟩ := datIn_form hv
  clear hv
  go_enter Try.func24, Try.ntmps24
  go_wp2_with fail
  refine (sOK_any _ d _ (datIn_below HD (below_alloc (below_alloc (Below.refl _ _) _) _))).mono ?_
  rintro e w1 ⟨rfl, hb⟩
  have B1 : Below w.heap.size w w1 := below_step (below_alloc (below_alloc (Below.refl _ _) _) _) hb
  have V1 := whole_b hb (whole_alloc (whole_new w _ _) _)
  have T1 := whole_b hb (whole_new1 w _ _ _)
  clear hb
  obtain ⟨c0, c1, c2, c3, c4, c5⟩ := six_cells V1
  obtain ⟨r0, r1, r2, r3, r4, r5⟩ := six_cells T1
  have fr := whole_free T1
  go_wp2
  refine bodyPost_ret (v := .tuple #[.agg #[.slice none 0 0, .slice none 0 0, .slice none 0 0, .int .i64 0, .int .i64 0, .string ByteArray.empty], .int .i64 0, .int .i64 1]) (by simp [results, Try.results24, go_sem, *]; try rfl) rfl ⟨_, rfl, datOf_none _ _ _, ?_⟩
  repeat (first | with_reducible exact B1 | with_reducible refine Below.setCell ?_ (by simp) _)

set_option maxRecDepth 100000 in
set_option maxHeartbeats 2000000 in
theorem sSay_main (v : Value) (d : Dt) (s : ByteArray) (w : World) (hv : DatIn w v d) (hs : SmallD d) (h0 : s.size ≤ 65536) (hk : dOK d = true) (r : Dt) (t0 : Int) (hr : SmallD r) (hin : Hid (∀ W, DatIn W v d → Calls Try.prog 53 #[v, .string s] W (ReadOf W r [t0]))) :
    Calls Try.prog 24 #[v, .string s] w (ResOf w r [t0, 0]) := by
  have HD := hv
  obtain ⟨A1, k1, A2, k2, A3, k3, rfl⟩ := datIn_form hv
  clear hv
  go_enter Try.func24, Try.ntmps24
  go_wp2_with fail
  refine (sOK_any _ d _ (datIn_below HD (below_alloc (below_alloc (Below.refl _ _) _) _))).mono ?_
  rintro e w1 ⟨rfl, hb⟩
  have B1 : Below w.heap.size w w1 := below_step (below_alloc (below_alloc (Below.refl _ _) _) _) hb
  have V1 := whole_b hb (whole_alloc (whole_new w _ _) _)
  have T1 := whole_b hb (whole_new1 w _ _ _)
  clear hb
  obtain ⟨c0, c1, c2, c3, c4, c5⟩ := six_cells V1
  obtain ⟨r0, r1, r2, r3, r4, r5⟩ := six_cells T1
  have fr := whole_free T1
  go_wp2_with (first | (go_at_call 53; fail))
  refine (hin.out _ (datIn_below HD B1)).mono ?_
  rintro e w2 ⟨u, rfl, hu, hb⟩
  obtain ⟨C1, j1, C2, j2, C3, j3, rfl⟩ := datIn_form hu
  have B2 := below_b hb B1
  have T2 := whole_b hb T1
  clear hb c0 c1 c2 c3 c4 c5 r0 r1 r2 r3 r4 r5 fr V1 T1
  simp only [List.map_cons, List.map_nil]
  go_wp2_with fail
  refine (sOwn_any _ r _ (datIn_below hu (below_alloc (Below.refl _ _) _)) hr).mono ?_
  rintro e w3 ⟨u', rfl, hu', hb⟩
  obtain ⟨E1, i1, E2, i2, E3, i3, rfl⟩ := datIn_form (datOf_in hu')
  have B3 := below_b hb (below_alloc B2 _)
  have T3 := whole_b hb (whole_alloc T2 _)
  have hlt : w.heap.size + 1 < w2.heap.size := whole_lt T2
  clear hb
  obtain ⟨r0, r1, r2, r3, r4, r5⟩ := six_cells T3
  have fr := whole_free T3
  go_wp2
  refine bodyPost_ret (v := .tuple #[.agg #[.slice E1 r.s.length i1, .slice E2 r.b.length i2, .slice E3 r.c.length i3, .int .i64 r.h, .int .i64 r.n, .string r.o], .int .i64 t0, .int .i64 0]) (by simp [results, Try.results24, go_sem, *]) rfl ⟨_, rfl, ?_, ?_⟩
  · refine datOf_top (datOf_base (datOf_keep (lo := w2.heap.size + 1) (by simpa using hu') (fun g h1 h2 h3 => ?_)) (by omega)) (by simp)
    iterate 6 rw [Below.heap_setCell _ _ _ _ (by show g ≠ w.heap.size + 1; omega)]
  · repeat (first | with_reducible exact B3 | with_reducible refine Below.setCell ?_ (by simp) _)

end Go.Proofs.Ytojjknjdlipfpaa
