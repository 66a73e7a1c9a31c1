/- What impl's operations on a script's data hand back. -/
import Derived.Test.YtojjknjdlipfpaaDatX
namespace Go.Proofs.Ytojjknjdlipfpaa
open Go.RowKit
set_option linter.unusedVariables false
set_option linter.unusedSimpArgs false

/-- The code of data and a number. -/
def numC (d : Dt) (n : Int) : Int := if dOK d = false then 1 else if cellB n = false then 4 else 0

set_option maxRecDepth 100000 in
set_option maxHeartbeats 1000000 in
theorem numberCode_any (v : Value) (d : Dt) (n : Int) (w : World) (hv : DatIn w v d) :
    Calls Try.prog 36 #[v, .int .i64 n] w fun e w' => e = .returned (.int .i64 (numC d n)) ∧ Below w.heap.size w w' := by
  have HD := hv
  obtain ⟨A1, k1, A2, k2, A3, k3, rfl⟩ := datIn_form hv
  clear hv
  cases hk : dOK d
  all_goals cases hn : cellB n
  all_goals
    have E := Lib.hid (show numC d n = _ from rfl)
    unfold numC at E
    rw [hk, hn] at E
    go_enter Try.func36, Try.ntmps36
    go_wp2_with fail
    refine (dataOK_any _ d _ (datIn_below HD (below_alloc (Below.refl _ _) _))).mono ?_
    rintro e w1 ⟨rfl, hb⟩
    have B1 := below_step (below_alloc (Below.refl _ _) _) hb
    clear hb
    go_wp2_with (go_at_call 66; refine (cellOK_any _ _).mono ?_; rintro e w' ⟨rfl, rfl⟩)
    go_ret
    exact ⟨ret_int (by first | rfl | (unfold numC; rw [hk]; rfl) | (unfold numC; rw [hk, hn]; rfl)), B1⟩

theorem box_new {w : World} {lo hi : Nat} {x y z : Value} {d : Dt} (h : DatOf w lo hi (.agg #[x, y, z, .int .i64 d.h, .int .i64 d.n, .string d.o]) d) (hl : lo ≤ w.heap.size) :
    BoxIs (w.alloc (.cells #[x, y, z, .int .i64 d.h, .int .i64 d.n, .string d.o] 25)) lo w.heap.size d := by
  obtain ⟨x', y', z', hv, h1, h2, h3, h4, p1, p2, p3, _⟩ := h
  simp only [Value.agg.injEq, Array.mk.injEq, List.cons.injEq, and_true, true_and] at hv
  obtain ⟨rfl, rfl, rfl⟩ := hv
  exact box_of hl (whole_new w _ _) (row_alloc h1 _) (row_alloc h2 _) (row_alloc h3 _) h4 p1 p2 p3

theorem box_data {w : World} {lo g : Nat} {d : Dt} (h : BoxIs w lo g d) : ∃ A1 k1 A2 k2 A3 k3, Whole w g 25 #[.slice A1 d.s.length k1, .slice A2 d.b.length k2, .slice A3 d.c.length k3, .int .i64 d.h, .int .i64 d.n, .string d.o] ∧
    DatOf w lo w.heap.size (.agg #[.slice A1 d.s.length k1, .slice A2 d.b.length k2, .slice A3 d.c.length k3, .int .i64 d.h, .int .i64 d.n, .string d.o]) d := by
  obtain ⟨hg, A1, k1, A2, k2, A3, k3, hw, r1, r2, r3, h4, p1, p2, p3⟩ := box_parts h
  exact ⟨A1, k1, A2, k2, A3, k3, hw, datOf_rows r1 r2 r3 h4 p1 p2 p3⟩

set_option maxRecDepth 100000 in
set_option maxHeartbeats 2000000 in
theorem iPush_bad (v : Value) (d : Dt) (n : Int) (w : World) (hv : DatIn w v d) (hs : SmallD d) (hk : dOK d = false) :
    Calls Try.prog 12 #[v, .int .i64 n] w (ResOf w noDt [0, 1]) := by
  have HD := hv
  obtain ⟨A1, k1, A2, k2, A3, k3, rfl⟩ := datIn_form hv
  clear hv
  have hc : numC d n = 1 := by unfold numC; simp [*]
  go_enter Try.func12, Try.ntmps12
  go_wp2_with fail
  refine (numberCode_any _ d n _ (datIn_below HD (below_alloc (below_alloc (Below.refl _ _) _) _))).mono ?_
  rintro e w1 ⟨rfl, hb⟩
  have B1 : Below w.heap.size w w1 := below_step (below_alloc (below_alloc (Below.refl _ _) _) _) hb
  have V1 := whole_b hb (whole_alloc (whole_new w _ _) _)
  have T1 := whole_b hb (whole_new1 w _ _ _)
  clear hb
  obtain ⟨c0, c1, c2, c3, c4, c5⟩ := six_cells V1
  obtain ⟨r0, r1, r2, r3, r4, r5⟩ := six_cells T1
  have fr := whole_free T1
  go_wp2
  refine bodyPost_ret (v := .tuple #[.agg #[.slice none 0 0, .slice none 0 0, .slice none 0 0, .int .i64 0, .int .i64 0, .string ByteArray.empty], .int .i64 0, .int .i64 1]) (by simp [results, Try.results12, go_sem, *]; try rfl) rfl ⟨_, rfl, datOf_none _ _ _, ?_⟩
  repeat (first | with_reducible exact B1 | with_reducible refine Below.setCell ?_ (by simp) _)

set_option maxRecDepth 100000 in
set_option maxHeartbeats 2000000 in
theorem iPush_range (v : Value) (d : Dt) (n : Int) (w : World) (hv : DatIn w v d) (hs : SmallD d) (hk : dOK d = true) (hn : cellB n = false) :
    Calls Try.prog 12 #[v, .int .i64 n] w (ResOf w noDt [0, 4]) := by
  have HD := hv
  obtain ⟨A1, k1, A2, k2, A3, k3, rfl⟩ := datIn_form hv
  clear hv
  have hc : numC d n = 4 := by unfold numC; simp [*]
  go_enter Try.func12, Try.ntmps12
  go_wp2_with fail
  refine (numberCode_any _ d n _ (datIn_below HD (below_alloc (below_alloc (Below.refl _ _) _) _))).mono ?_
  rintro e w1 ⟨rfl, hb⟩
  have B1 : Below w.heap.size w w1 := below_step (below_alloc (below_alloc (Below.refl _ _) _) _) hb
  have V1 := whole_b hb (whole_alloc (whole_new w _ _) _)
  have T1 := whole_b hb (whole_new1 w _ _ _)
  clear hb
  obtain ⟨c0, c1, c2, c3, c4, c5⟩ := six_cells V1
  obtain ⟨r0, r1, r2, r3, r4, r5⟩ := six_cells T1
  have fr := whole_free T1
  go_wp2
  refine bodyPost_ret (v := .tuple #[.agg #[.slice none 0 0, .slice none 0 0, .slice none 0 0, .int .i64 0, .int .i64 0, .string ByteArray.empty], .int .i64 0, .int .i64 4]) (by simp [results, Try.results12, go_sem, *]; try rfl) rfl ⟨_, rfl, datOf_none _ _ _, ?_⟩
  repeat (first | with_reducible exact B1 | with_reducible refine Below.setCell ?_ (by simp) _)

set_option maxRecDepth 100000 in
set_option maxHeartbeats 2000000 in
theorem iPush_main (v : Value) (d : Dt) (n : Int) (w : World) (hv : DatIn w v d) (hs : SmallD d) (hk : dOK d = true) (hn : cellB n = true) (r : Dt) (t0 : Int) (hin : Hid (∀ W lo g, BoxIs W lo g d → Calls Try.prog 38 #[.pointer (some ⟨g, 0, none⟩), .int .i64 n] W (MethOf W lo g r (.int .i64 t0)))) :
    Calls Try.prog 12 #[v, .int .i64 n] w (ResOf w r [t0, 0]) := by
  have HD := hv
  obtain ⟨A1, k1, A2, k2, A3, k3, rfl⟩ := datIn_form hv
  clear hv
  have hc : numC d n = 0 := by unfold numC; simp [*]
  go_enter Try.func12, Try.ntmps12
  go_wp2_with fail
  refine (numberCode_any _ d n _ (datIn_below HD (below_alloc (below_alloc (Below.refl _ _) _) _))).mono ?_
  rintro e w1 ⟨rfl, hb⟩
  have B1 : Below w.heap.size w w1 := below_step (below_alloc (below_alloc (Below.refl _ _) _) _) hb
  have V1 := whole_b hb (whole_alloc (whole_new w _ _) _)
  have T1 := whole_b hb (whole_new1 w _ _ _)
  clear hb
  obtain ⟨c0, c1, c2, c3, c4, c5⟩ := six_cells V1
  obtain ⟨r0, r1, r2, r3, r4, r5⟩ := six_cells T1
  have fr := whole_free T1
  go_wp2_with fail
  have hl1 := whole_lt T1
  refine (ownData_any _ d _ (datIn_below HD B1) hs).mono ?_
  rintro e w2 ⟨u, rfl, hu, hb⟩
  obtain ⟨C1, j1, C2, j2, C3, j3, rfl⟩ := datIn_form (datOf_in hu)
  have B2 := below_b hb B1
  have T2 := whole_b hb T1
  have hsz := hb.size
  clear hb c0 c1 c2 c3 c4 c5 r0 r1 r2 r3 r4 r5 fr V1 T1
  go_wp2_with fail
  refine (hin.out _ w1.heap.size w2.heap.size (box_new hu hsz)).mono ?_
  rintro e w3 ⟨rfl, hbx, hb⟩
  have B3 : Below w.heap.size w w3 := (below_alloc B2 _).trans (hb.mono B1.size)
  have T3 := whole_keep (whole_alloc T2 _) (hb.block _ hl1)
  obtain ⟨E1, i1, E2, i2, E3, i3, X3, hd3⟩ := box_data hbx
  clear hb hbx hu T2
  obtain ⟨c0, c1, c2, c3, c4, c5⟩ := six_cells X3
  obtain ⟨r0, r1, r2, r3, r4, r5⟩ := six_cells T3
  have fr := whole_free T3
  go_wp2
  refine bodyPost_ret (v := .tuple #[.agg #[.slice E1 r.s.length i1, .slice E2 r.b.length i2, .slice E3 r.c.length i3, .int .i64 r.h, .int .i64 r.n, .string r.o], .int .i64 t0, .int .i64 0]) (by simp [results, Try.results12, go_sem, *]) rfl ⟨_, rfl, ?_, ?_⟩
  · refine datOf_top (datOf_base (datOf_keep hd3 (fun g h1 h2 h3 => ?_)) (by omega)) (by simp)
    iterate 6 rw [Below.heap_setCell _ _ _ _ (by show g ≠ w.heap.size + 1; omega)]
  · repeat (first | with_reducible exact B3 | with_reducible refine Below.setCell ?_ (by simp) _)

set_option maxRecDepth 100000 in
set_option maxHeartbeats 2000000 in
theorem iStore_bad (v : Value) (d : Dt) (x : Int) (n : Int) (w : World) (hv : DatIn w v d) (hs : SmallD d) (hk : dOK d = false) :
    Calls Try.prog 17 #[v, .int .i64 x, .int .i64 n] w (ResOf w noDt [0, 1]) := by
  have HD := hv
  obtain ⟨A1, k1, A2, k2, A3, k3, rfl⟩ := datIn_form hv
  clear hv
  have hc : numC d n = 1 := by unfold numC; simp [*]
  go_enter Try.func17, Try.ntmps17
  go_wp2_with fail
  refine (numberCode_any _ d n _ (datIn_below HD (below_alloc (below_alloc (Below.refl _ _) _) _))).mono ?_
  rintro e w1 ⟨rfl, hb⟩
  have B1 : Below w.heap.size w w1 := below_step (below_alloc (below_alloc (Below.refl _ _) _) _) hb
  have V1 := whole_b hb (whole_alloc (whole_new w _ _) _)
  have T1 := whole_b hb (whole_new1 w _ _ _)
  clear hb
  obtain ⟨c0, c1, c2, c3, c4, c5⟩ := six_cells V1
  obtain ⟨r0, r1, r2, r3, r4, r5⟩ := six_cells T1
  have fr := whole_free T1
  go_wp2
  refine bodyPost_ret (v := .tuple #[.agg #[.slice none 0 0, .slice none 0 0, .slice none 0 0, .int .i64 0, .int .i64 0, .string ByteArray.empty], .int .i64 0, .int .i64 1]) (by simp [results, Try.results17, go_sem, *]; try rfl) rfl ⟨_, rfl, datOf_none _ _ _, ?_⟩
  repeat (first | with_reducible exact B1 | with_reducible refine Below.setCell ?_ (by simp) _)

set_option maxRecDepth 100000 in
set_option maxHeartbeats 2000000 in
theorem iStore_range (v : Value) (d : Dt) (x : Int) (n : Int) (w : World) (hv : DatIn w v d) (hs : SmallD d) (hk : dOK d = true) (hn : cellB n = false) :
    Calls Try.prog 17 #[v, .int .i64 x, .int .i64 n] w (ResOf w noDt [0, 4]) := by
  have HD := hv
  obtain ⟨A1, k1, A2, k2, A3, k3, rfl⟩ := datIn_form hv
  clear hv
  have hc : numC d n = 4 := by unfold numC; simp [*]
  go_enter Try.func17, Try.ntmps17
  go_wp2_with fail
  refine (numberCode_any _ d n _ (datIn_below HD (below_alloc (below_alloc (Below.refl _ _) _) _))).mono ?_
  rintro e w1 ⟨rfl, hb⟩
  have B1 : Below w.heap.size w w1 := below_step (below_alloc (below_alloc (Below.refl _ _) _) _) hb
  have V1 := whole_b hb (whole_alloc (whole_new w _ _) _)
  have T1 := whole_b hb (whole_new1 w _ _ _)
  clear hb
  obtain ⟨c0, c1, c2, c3, c4, c5⟩ := six_cells V1
  obtain ⟨r0, r1, r2, r3, r4, r5⟩ := six_cells T1
  have fr := whole_free T1
  go_wp2
  refine bodyPost_ret (v := .tuple #[.agg #[.slice none 0 0, .slice none 0 0, .slice none 0 0, .int .i64 0, .int .i64 0, .string ByteArray.empty], .int .i64 0, .int .i64 4]) (by simp [results, Try.results17, go_sem, *]; try rfl) rfl ⟨_, rfl, datOf_none _ _ _, ?_⟩
  repeat (first | with_reducible exact B1 | with_reducible refine Below.setCell ?_ (by simp) _)

set_option maxRecDepth 100000 in
set_option maxHeartbeats 2000000 in
theorem iStore_main (v : Value) (d : Dt) (x : Int) (n : Int) (w : World) (hv : DatIn w v d) (hs : SmallD d) (hk : dOK d = true) (hn : cellB n = true) (r : Dt) (t0 : Int) (hin : Hid (∀ W lo g, BoxIs W lo g d → Calls Try.prog 46 #[.pointer (some ⟨g, 0, none⟩), .int .i64 x, .int .i64 n] W (MethOf W lo g r (.int .i64 t0)))) :
    Calls Try.prog 17 #[v, .int .i64 x, .int .i64 n] w (ResOf w r [t0, 0]) := by
  have HD := hv
  obtain ⟨A1, k1, A2, k2, A3, k3, rfl⟩ := datIn_form hv
  clear hv
  have hc : numC d n = 0 := by unfold numC; simp [*]
  go_enter Try.func17, Try.ntmps17
  go_wp2_with fail
  refine (numberCode_any _ d n _ (datIn_below HD (below_alloc (below_alloc (Below.refl _ _) _) _))).mono ?_
  rintro e w1 ⟨rfl, hb⟩
  have B1 : Below w.heap.size w w1 := below_step (below_alloc (below_alloc (Below.refl _ _) _) _) hb
  have V1 := whole_b hb (whole_alloc (whole_new w _ _) _)
  have T1 := whole_b hb (whole_new1 w _ _ _)
  clear hb
  obtain ⟨c0, c1, c2, c3, c4, c5⟩ := six_cells V1
  obtain ⟨r0, r1, r2, r3, r4, r5⟩ := six_cells T1
  have fr := whole_free T1
  go_wp2_with fail
  have hl1 := whole_lt T1
  refine (ownData_any _ d _ (datIn_below HD B1) hs).mono ?_
  rintro e w2 ⟨u, rfl, hu, hb⟩
  obtain ⟨C1, j1, C2, j2, C3, j3, rfl⟩ := datIn_form (datOf_in hu)
  have B2 := below_b hb B1
  have T2 := whole_b hb T1
  have hsz := hb.size
  clear hb c0 c1 c2 c3 c4 c5 r0 r1 r2 r3 r4 r5 fr V1 T1
  go_wp2_with fail
  refine (hin.out _ w1.heap.size w2.heap.size (box_new hu hsz)).mono ?_
  rintro e w3 ⟨rfl, hbx, hb⟩
  have B3 : Below w.heap.size w w3 := (below_alloc B2 _).trans (hb.mono B1.size)
  have T3 := whole_keep (whole_alloc T2 _) (hb.block _ hl1)
  obtain ⟨E1, i1, E2, i2, E3, i3, X3, hd3⟩ := box_data hbx
  clear hb hbx hu T2
  obtain ⟨c0, c1, c2, c3, c4, c5⟩ := six_cells X3
  obtain ⟨r0, r1, r2, r3, r4, r5⟩ := six_cells T3
  have fr := whole_free T3
  go_wp2
  refine bodyPost_ret (v := .tuple #[.agg #[.slice E1 r.s.length i1, .slice E2 r.b.length i2, .slice E3 r.c.length i3, .int .i64 r.h, .int .i64 r.n, .string r.o], .int .i64 t0, .int .i64 0]) (by simp [results, Try.results17, go_sem, *]) rfl ⟨_, rfl, ?_, ?_⟩
  · refine datOf_top (datOf_base (datOf_keep hd3 (fun g h1 h2 h3 => ?_)) (by omega)) (by simp)
    iterate 6 rw [Below.heap_setCell _ _ _ _ (by show g ≠ w.heap.size + 1; omega)]
  · repeat (first | with_reducible exact B3 | with_reducible refine Below.setCell ?_ (by simp) _)

set_option maxRecDepth 100000 in
set_option maxHeartbeats 2000000 in
theorem iAllot_bad (v : Value) (d : Dt) (n : Int) (w : World) (hv : DatIn w v d) (hs : SmallD d) (hk : dOK d = false) :
    Calls Try.prog 20 #[v, .int .i64 n] w (ResOf w noDt [0, 1]) := by
  have HD := hv
  obtain ⟨A1, k1, A2, k2, A3, k3, rfl⟩ := datIn_form hv
  clear hv
  have hc : numC d n = 1 := by unfold numC; simp [*]
  go_enter Try.func20, Try.ntmps20
  go_wp2_with fail
  refine (numberCode_any _ d n _ (datIn_below HD (below_alloc (below_alloc (Below.refl _ _) _) _))).mono ?_
  rintro e w1 ⟨rfl, hb⟩
  have B1 : Below w.heap.size w w1 := below_step (below_alloc (below_alloc (Below.refl _ _) _) _) hb
  have V1 := whole_b hb (whole_alloc (whole_new w _ _) _)
  have T1 := whole_b hb (whole_new1 w _ _ _)
  clear hb
  obtain ⟨c0, c1, c2, c3, c4, c5⟩ := six_cells V1
  obtain ⟨r0, r1, r2, r3, r4, r5⟩ := six_cells T1
  have fr := whole_free T1
  go_wp2
  refine bodyPost_ret (v := .tuple #[.agg #[.slice none 0 0, .slice none 0 0, .slice none 0 0, .int .i64 0, .int .i64 0, .string ByteArray.empty], .int .i64 0, .int .i64 1]) (by simp [results, Try.results20, go_sem, *]; try rfl) rfl ⟨_, rfl, datOf_none _ _ _, ?_⟩
  repeat (first | with_reducible exact B1 | with_reducible refine Below.setCell ?_ (by simp) _)

set_option maxRecDepth 100000 in
set_option maxHeartbeats 2000000 in
theorem iAllot_range (v : Value) (d : Dt) (n : Int) (w : World) (hv : DatIn w v d) (hs : SmallD d) (hk : dOK d = true) (hn : cellB n = false) :
    Calls Try.prog 20 #[v, .int .i64 n] w (ResOf w noDt [0, 4]) := by
  have HD := hv
  obtain ⟨A1, k1, A2, k2, A3, k3, rfl⟩ := datIn_form hv
  clear hv
  have hc : numC d n = 4 := by unfold numC; simp [*]
  go_enter Try.func20, Try.ntmps20
  go_wp2_with fail
  refine (numberCode_any _ d n _ (datIn_below HD (below_alloc (below_alloc (Below.refl _ _) _) _))).mono ?_
  rintro e w1 ⟨rfl, hb⟩
  have B1 : Below w.heap.size w w1 := below_step (below_alloc (below_alloc (Below.refl _ _) _) _) hb
  have V1 := whole_b hb (whole_alloc (whole_new w _ _) _)
  have T1 := whole_b hb (whole_new1 w _ _ _)
  clear hb
  obtain ⟨c0, c1, c2, c3, c4, c5⟩ := six_cells V1
  obtain ⟨r0, r1, r2, r3, r4, r5⟩ := six_cells T1
  have fr := whole_free T1
  go_wp2
  refine bodyPost_ret (v := .tuple #[.agg #[.slice none 0 0, .slice none 0 0, .slice none 0 0, .int .i64 0, .int .i64 0, .string ByteArray.empty], .int .i64 0, .int .i64 4]) (by simp [results, Try.results20, go_sem, *]; try rfl) rfl ⟨_, rfl, datOf_none _ _ _, ?_⟩
  repeat (first | with_reducible exact B1 | with_reducible refine Below.setCell ?_ (by simp) _)

set_option maxRecDepth 100000 in
set_option maxHeartbeats 2000000 in
theorem iAllot_main (v : Value) (d : Dt) (n : Int) (w : World) (hv : DatIn w v d) (hs : SmallD d) (hk : dOK d = true) (hn : cellB n = true) (r : Dt) (t0 : Int) (hin : Hid (∀ W lo g, BoxIs W lo g d → Calls Try.prog 49 #[.pointer (some ⟨g, 0, none⟩), .int .i64 n] W (MethOf W lo g r (.int .i64 t0)))) :
    Calls Try.prog 20 #[v, .int .i64 n] w (ResOf w r [t0, 0]) := by
  have HD := hv
  obtain ⟨A1, k1, A2, k2, A3, k3, rfl⟩ := datIn_form hv
  clear hv
  have hc : numC d n = 0 := by unfold numC; simp [*]
  go_enter Try.func20, Try.ntmps20
  go_wp2_with fail
  refine (numberCode_any _ d n _ (datIn_below HD (below_alloc (below_alloc (Below.refl _ _) _) _))).mono ?_
  rintro e w1 ⟨rfl, hb⟩
  have B1 : Below w.heap.size w w1 := below_step (below_alloc (below_alloc (Below.refl _ _) _) _) hb
  have V1 := whole_b hb (whole_alloc (whole_new w _ _) _)
  have T1 := whole_b hb (whole_new1 w _ _ _)
  clear hb
  obtain ⟨c0, c1, c2, c3, c4, c5⟩ := six_cells V1
  obtain ⟨r0, r1, r2, r3, r4, r5⟩ := six_cells T1
  have fr := whole_free T1
  go_wp2_with fail
  have hl1 := whole_lt T1
  refine (ownData_any _ d _ (datIn_below HD B1) hs).mono ?_
  rintro e w2 ⟨u, rfl, hu, hb⟩
  obtain ⟨C1, j1, C2, j2, C3, j3, rfl⟩ := datIn_form (datOf_in hu)
  have B2 := below_b hb B1
  have T2 := whole_b hb T1
  have hsz := hb.size
  clear hb c0 c1 c2 c3 c4 c5 r0 r1 r2 r3 r4 r5 fr V1 T1
  go_wp2_with fail
  refine (hin.out _ w1.heap.size w2.heap.size (box_new hu hsz)).mono ?_
  rintro e w3 ⟨rfl, hbx, hb⟩
  have B3 : Below w.heap.size w w3 := (below_alloc B2 _).trans (hb.mono B1.size)
  have T3 := whole_keep (whole_alloc T2 _) (hb.block _ hl1)
  obtain ⟨E1, i1, E2, i2, E3, i3, X3, hd3⟩ := box_data hbx
  clear hb hbx hu T2
  obtain ⟨c0, c1, c2, c3, c4, c5⟩ := six_cells X3
  obtain ⟨r0, r1, r2, r3, r4, r5⟩ := six_cells T3
  have fr := whole_free T3
  go_wp2
  refine bodyPost_ret (v := .tuple #[.agg #[.slice E1 r.s.length i1, .slice E2 r.b.length i2, .slice E3 r.c.length i3, .int .i64 r.h, .int .i64 r.n, .string r.o], .int .i64 t0, .int .i64 0]) (by simp [results, Try.results20, go_sem, *]) rfl ⟨_, rfl, ?_, ?_⟩
  · refine datOf_top (datOf_base (datOf_keep hd3 (fun g h1 h2 h3 => ?_)) (by omega)) (by simp)
    iterate 6 rw [Below.heap_setCell _ _ _ _ (by show g ≠ w.heap.size + 1; omega)]
  · repeat (first | with_reducible exact B3 | with_reducible refine Below.setCell ?_ (by simp) _)

set_option maxRecDepth 100000 in
set_option maxHeartbeats 2000000 in
theorem iPop_bad (v : Value) (d : Dt) (w : World) (hv : DatIn w v d) (hs : SmallD d) (hk : dOK d = false) :
    Calls Try.prog 15 #[v] w (ResOf w noDt [0, 0, 1]) := by
  have HD := hv
  obtain ⟨A1, k1, A2, k2, A3, k3, rfl⟩ := datIn_form hv
  clear hv
  go_enter Try.func15, Try.ntmps15
  go_wp2_with fail
  refine (dataOK_any _ d _ (datIn_below HD (below_alloc (below_alloc (Below.refl _ _) _) _))).mono ?_
  rintro e w1 ⟨rfl, hb⟩
  have B1 : Below w.heap.size w w1 := below_step (below_alloc (below_alloc (Below.refl _ _) _) _) hb
  have V1 := whole_b hb (whole_alloc (whole_new w _ _) _)
  have T1 := whole_b hb (whole_new1 w _ _ _)
  clear hb
  obtain ⟨c0, c1, c2, c3, c4, c5⟩ := six_cells V1
  obtain ⟨r0, r1, r2, r3, r4, r5⟩ := six_cells T1
  have fr := whole_free T1
  go_wp2
  refine bodyPost_ret (v := .tuple #[.agg #[.slice none 0 0, .slice none 0 0, .slice none 0 0, .int .i64 0, .int .i64 0, .string ByteArray.empty], .int .i64 0, .int .i64 0, .int .i64 1]) (by simp [results, Try.results15, go_sem, *]; try rfl) rfl ⟨_, rfl, datOf_none _ _ _, ?_⟩
  repeat (first | with_reducible exact B1 | with_reducible refine Below.setCell ?_ (by simp) _)

set_option maxRecDepth 100000 in
set_option maxHeartbeats 2000000 in
theorem iPop_main (v : Value) (d : Dt) (w : World) (hv : DatIn w v d) (hs : SmallD d) (hk : dOK d = true) (r : Dt) (t0 t1 : Int) (hin : Hid (∀ W lo g, BoxIs W lo g d → Calls Try.prog 45 #[.pointer (some ⟨g, 0, none⟩)] W (MethOf W lo g r (.tuple #[.int .i64 t0, .int .i64 t1])))) :
    Calls Try.prog 15 #[v] w (ResOf w r [t0, t1, 0]) := by
  have HD := hv
  obtain ⟨A1, k1, A2, k2, A3, k3, rfl⟩ := datIn_form hv
  clear hv
  go_enter Try.func15, Try.ntmps15
  go_wp2_with fail
  refine (dataOK_any _ d _ (datIn_below HD (below_alloc (below_alloc (Below.refl _ _) _) _))).mono ?_
  rintro e w1 ⟨rfl, hb⟩
  have B1 : Below w.heap.size w w1 := below_step (below_alloc (below_alloc (Below.refl _ _) _) _) hb
  have V1 := whole_b hb (whole_alloc (whole_new w _ _) _)
  have T1 := whole_b hb (whole_new1 w _ _ _)
  clear hb
  obtain ⟨c0, c1, c2, c3, c4, c5⟩ := six_cells V1
  obtain ⟨r0, r1, r2, r3, r4, r5⟩ := six_cells T1
  have fr := whole_free T1
  go_wp2_with fail
  have hl1 := whole_lt T1
  refine (ownData_any _ d _ (datIn_below HD B1) hs).mono ?_
  rintro e w2 ⟨u, rfl, hu, hb⟩
  obtain ⟨C1, j1, C2, j2, C3, j3, rfl⟩ := datIn_form (datOf_in hu)
  have B2 := below_b hb B1
  have T2 := whole_b hb T1
  have hsz := hb.size
  clear hb c0 c1 c2 c3 c4 c5 r0 r1 r2 r3 r4 r5 fr V1 T1
  go_wp2_with fail
  refine (hin.out _ w1.heap.size w2.heap.size (box_new hu hsz)).mono ?_
  rintro e w3 ⟨rfl, hbx, hb⟩
  have B3 : Below w.heap.size w w3 := (below_alloc B2 _).trans (hb.mono B1.size)
  have T3 := whole_keep (whole_alloc T2 _) (hb.block _ hl1)
  obtain ⟨E1, i1, E2, i2, E3, i3, X3, hd3⟩ := box_data hbx
  clear hb hbx hu T2
  obtain ⟨c0, c1, c2, c3, c4, c5⟩ := six_cells X3
  obtain ⟨r0, r1, r2, r3, r4, r5⟩ := six_cells T3
  have fr := whole_free T3
  go_wp2
  refine bodyPost_ret (v := .tuple #[.agg #[.slice E1 r.s.length i1, .slice E2 r.b.length i2, .slice E3 r.c.length i3, .int .i64 r.h, .int .i64 r.n, .string r.o], .int .i64 t0, .int .i64 t1, .int .i64 0]) (by simp [results, Try.results15, go_sem, *]) rfl ⟨_, rfl, ?_, ?_⟩
  · refine datOf_top (datOf_base (datOf_keep hd3 (fun g h1 h2 h3 => ?_)) (by omega)) (by simp)
    iterate 6 rw [Below.heap_setCell _ _ _ _ (by show g ≠ w.heap.size + 1; omega)]
  · repeat (first | with_reducible exact B3 | with_reducible refine Below.setCell ?_ (by simp) _)

set_option maxRecDepth 100000 in
set_option maxHeartbeats 2000000 in
theorem iSay_bad (v : Value) (d : Dt) (s : ByteArray) (w : World) (hv : DatIn w v d) (hs : SmallD d) (h0 : s.size ≤ 65536) (hk : dOK d = false) :
    Calls Try.prog 23 #[v, .string s] w (ResOf w noDt [0, 1]) := by
  have HD := hv
  obtain ⟨A1, k1, A2, k2, A3, k3, rfl⟩ := datIn_form hv
  clear hv
  go_enter Try.func23, Try.ntmps23
  go_wp2_with fail
  refine (dataOK_any _ d _ (datIn_below HD (below_alloc (below_alloc (Below.refl _ _) _) _))).mono ?_
  rintro e w1 ⟨rfl, hb⟩
  have B1 : Below w.heap.size w w1 := below_step (below_alloc (below_alloc (Below.refl _ _) _) _) hb
  have V1 := whole_b hb (whole_alloc (whole_new w _ _) _)
  have T1 := whole_b hb (whole_new1 w _ _ _)
  clear hb
  obtain ⟨c0, c1, c2, c3, c4, c5⟩ := six_cells V1
  obtain ⟨r0, r1, r2, r3, r4, r5⟩ := six_cells T1
  have fr := whole_free T1
  go_wp2
  refine bodyPost_ret (v := .tuple #[.agg #[.slice none 0 0, .slice none 0 0, .slice none 0 0, .int .i64 0, .int .i64 0, .string ByteArray.empty], .int .i64 0, .int .i64 1]) (by simp [results, Try.results23, go_sem, *]; try rfl) rfl ⟨_, rfl, datOf_none _ _ _, ?_⟩
  repeat (first | with_reducible exact B1 | with_reducible refine Below.setCell ?_ (by simp) _)

set_option maxRecDepth 100000 in
set_option maxHeartbeats 2000000 in
theorem iSay_main (v : Value) (d : Dt) (s : ByteArray) (w : World) (hv : DatIn w v d) (hs : SmallD d) (h0 : s.size ≤ 65536) (hk : dOK d = true) (r : Dt) (t0 : Int) (hin : Hid (∀ W lo g, BoxIs W lo g d → Calls Try.prog 52 #[.pointer (some ⟨g, 0, none⟩), .string s] W (MethOf W lo g r (.int .i64 t0)))) :
    Calls Try.prog 23 #[v, .string s] w (ResOf w r [t0, 0]) := by
  have HD := hv
  obtain ⟨A1, k1, A2, k2, A3, k3, rfl⟩ := datIn_form hv
  clear hv
  go_enter Try.func23, Try.ntmps23
  go_wp2_with fail
  refine (dataOK_any _ d _ (datIn_below HD (below_alloc (below_alloc (Below.refl _ _) _) _))).mono ?_
  rintro e w1 ⟨rfl, hb⟩
  have B1 : Below w.heap.size w w1 := below_step (below_alloc (below_alloc (Below.refl _ _) _) _) hb
  have V1 := whole_b hb (whole_alloc (whole_new w _ _) _)
  have T1 := whole_b hb (whole_new1 w _ _ _)
  clear hb
  obtain ⟨c0, c1, c2, c3, c4, c5⟩ := six_cells V1
  obtain ⟨r0, r1, r2, r3, r4, r5⟩ := six_cells T1
  have fr := whole_free T1
  go_wp2_with fail
  have hl1 := whole_lt T1
  refine (ownData_any _ d _ (datIn_below HD B1) hs).mono ?_
  rintro e w2 ⟨u, rfl, hu, hb⟩
  obtain ⟨C1, j1, C2, j2, C3, j3, rfl⟩ := datIn_form (datOf_in hu)
  have B2 := below_b hb B1
  have T2 := whole_b hb T1
  have hsz := hb.size
  clear hb c0 c1 c2 c3 c4 c5 r0 r1 r2 r3 r4 r5 fr V1 T1
  go_wp2_with fail
  refine (hin.out _ w1.heap.size w2.heap.size (box_new hu hsz)).mono ?_
  rintro e w3 ⟨rfl, hbx, hb⟩
  have B3 : Below w.heap.size w w3 := (below_alloc B2 _).trans (hb.mono B1.size)
  have T3 := whole_keep (whole_alloc T2 _) (hb.block _ hl1)
  obtain ⟨E1, i1, E2, i2, E3, i3, X3, hd3⟩ := box_data hbx
  clear hb hbx hu T2
  obtain ⟨c0, c1, c2, c3, c4, c5⟩ := six_cells X3
  obtain ⟨r0, r1, r2, r3, r4, r5⟩ := six_cells T3
  have fr := whole_free T3
  go_wp2
  refine bodyPost_ret (v := .tuple #[.agg #[.slice E1 r.s.length i1, .slice E2 r.b.length i2, .slice E3 r.c.length i3, .int .i64 r.h, .int .i64 r.n, .string r.o], .int .i64 t0, .int .i64 0]) (by simp [results, Try.results23, go_sem, *]) rfl ⟨_, rfl, ?_, ?_⟩
  · refine datOf_top (datOf_base (datOf_keep hd3 (fun g h1 h2 h3 => ?_)) (by omega)) (by simp)
    iterate 6 rw [Below.heap_setCell _ _ _ _ (by show g ≠ w.heap.size + 1; omega)]
  · repeat (first | with_reducible exact B3 | with_reducible refine Below.setCell ?_ (by simp) _)

end Go.Proofs.Ytojjknjdlipfpaa
