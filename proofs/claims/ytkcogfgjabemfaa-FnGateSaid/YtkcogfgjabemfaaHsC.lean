/- A host copied by appends: the given side. -/
import Derived.Test.YtkcogfgjabemfaaHsB
namespace Go.Proofs.Ytkcogfgjabemfaa
open Go.RowKit
set_option linter.unusedVariables false
set_option linter.unusedSimpArgs false

/-- What a copy of a host leaves. -/
def HCopyOf (w : World) (h : Ht) (e : Ending) (w' : World) : Prop := ∃ u, e = .returned u ∧ HostOf w' w.heap.size w'.heap.size u h ∧ Below w.heap.size w w'

set_option maxRecDepth 100000 in
set_option maxHeartbeats 4000000 in
theorem sHOwn_any (v : Value) (h : Ht) (w : World) (hv : HostIn w v h) (hs : SmallH h) :
    Calls Try.prog 60 #[v] w (HCopyOf w h) := by
  obtain ⟨x, y, z, q, rfl, hx, hy, hz, hq⟩ := hv
  have Hx := Lib.hid hx
  have Hy := Lib.hid hy
  have Hz := Lib.hid hz
  have Hq := Lib.hid hq
  have Hs := Lib.hid hs
  obtain ⟨_, A1, k1, rfl, _⟩ := hx
  obtain ⟨_, A2, k2, rfl, _⟩ := hy
  obtain ⟨_, A3, k3, rfl, _⟩ := hz
  obtain ⟨_, A4, k4, rfl, _⟩ := hq
  clear hs
  go_enter Try.func60, Try.ntmps60
  go_wp2_with (first
    | (at_builtin; refine wpList_append_newbo rfl _ _ rfl rfl _ rfl (by simp) (.slice A1 h.g.length k1) h.g rfl (bols_below Hx.out (below_alloc (below_alloc (Below.refl _ _) _) _)) (by have := Hs.out.1; omega) ?_; intro B1' m1 w1 hr hb
       have B1 : Below w.heap.size w w1 := (below_alloc (below_alloc (Below.refl _ _) _) _).trans (hb.mono (below_alloc (below_alloc (Below.refl _ _) _) _).size)
       have V1 := whole_b hb (whole_alloc (whole_new w _ _) _)
       have T1 := whole_b hb (whole_new1 w _ _ _)
       have R1_1 : BoRow w1 (w.heap.size + 1 + 1) (.slice B1' h.g.length m1) h.g := by simpa using hr
       have zv1 := whole_lt V1
       have zt1 := whole_lt T1
       obtain ⟨c0, c1, c2, c3, c4⟩ := five_cells V1
       have f1 := whole_free V1 0
       clear hr hb)
    | (at_builtin; refine wpList_append_new rfl _ _ rfl rfl _ rfl (by simp) (.slice A2 h.s.length k2) h.s rfl (ints_below Hy.out (B1.setCell (p := ⟨w.heap.size, 0, none⟩) (Nat.le_refl _) (.slice B1' h.g.length m1))) (by have := Hs.out.2.1; omega) ?_; clear c0 c1 c2 c3 c4 f1; intro B2' m2 w2 hr hb
       have B2 : Below w.heap.size w w2 := (B1.setCell (p := ⟨w.heap.size, 0, none⟩) (Nat.le_refl _) (.slice B1' h.g.length m1)).trans (hb.mono (B1.setCell (p := ⟨w.heap.size, 0, none⟩) (Nat.le_refl _) (.slice B1' h.g.length m1)).size)
       have V2 := whole_b hb (whole_set V1 0 (.slice B1' h.g.length m1))
       have T2 := whole_b hb (whole_far T1 (p := ⟨w.heap.size, 0, none⟩) (by simp) (.slice B1' h.g.length m1))
       have R1_2 : BoRow w2 (w.heap.size + 1 + 1) _ h.g := borow_below (borow_store (g := w.heap.size) (i := 0) (u := .slice B1' h.g.length m1) R1_1 (by omega)) hb
       have P12 := parted_lt (fun g hg => (borow_lt (borow_store (g := w.heap.size) (i := 0) (u := .slice B1' h.g.length m1) R1_1 (by omega)) g hg).2) (fun g hg => (row_lt hr g hg).1)
       have R2_2 : Row w2 (w.heap.size + 1 + 1) (.slice B2' h.s.length m2) h.s := row_base hr (by have := B1.size; have := whole_lt T1; simp; omega)
       have zv2 := whole_lt V2
       have zt2 := whole_lt T2
       obtain ⟨c0, c1, c2, c3, c4⟩ := five_cells V2
       have f2 := whole_free V2 1
       clear hr hb)
    | (at_builtin; refine wpList_append_new rfl _ _ rfl rfl _ rfl (by simp) (.slice A3 h.n.length k3) h.n rfl (ints_below Hz.out (B2.setCell (p := ⟨w.heap.size, 1, none⟩) (Nat.le_refl _) (.slice B2' h.s.length m2))) (by have := Hs.out.2.2.1; omega) ?_; clear c0 c1 c2 c3 c4 f2; intro B3' m3 w3 hr hb
       have B3 : Below w.heap.size w w3 := (B2.setCell (p := ⟨w.heap.size, 1, none⟩) (Nat.le_refl _) (.slice B2' h.s.length m2)).trans (hb.mono (B2.setCell (p := ⟨w.heap.size, 1, none⟩) (Nat.le_refl _) (.slice B2' h.s.length m2)).size)
       have V3 := whole_b hb (whole_set V2 1 (.slice B2' h.s.length m2))
       have T3 := whole_b hb (whole_far T2 (p := ⟨w.heap.size, 1, none⟩) (by simp) (.slice B2' h.s.length m2))
       have R1_3 : BoRow w3 (w.heap.size + 1 + 1) _ h.g := borow_below (borow_store (g := w.heap.size) (i := 1) (u := .slice B2' h.s.length m2) R1_2 (by omega)) hb
       have P13 := parted_lt (fun g hg => (borow_lt (borow_store (g := w.heap.size) (i := 1) (u := .slice B2' h.s.length m2) R1_2 (by omega)) g hg).2) (fun g hg => (row_lt hr g hg).1)
       have R2_3 : Row w3 (w.heap.size + 1 + 1) _ h.s := row_below (row_store (g := w.heap.size) (i := 1) (u := .slice B2' h.s.length m2) R2_2 (by omega)) hb
       have P23 := parted_lt (fun g hg => (row_lt (row_store (g := w.heap.size) (i := 1) (u := .slice B2' h.s.length m2) R2_2 (by omega)) g hg).2) (fun g hg => (row_lt hr g hg).1)
       have R3_3 : Row w3 (w.heap.size + 1 + 1) (.slice B3' h.n.length m3) h.n := row_base hr (by have := B2.size; have := whole_lt T2; simp; omega)
       have zv3 := whole_lt V3
       have zt3 := whole_lt T3
       obtain ⟨c0, c1, c2, c3, c4⟩ := five_cells V3
       have f3 := whole_free V3 2
       clear hr hb)
    | (at_builtin; refine wpList_append_newdd rfl _ _ rfl rfl _ rfl (by simp) (.slice A4 h.d.length k4) h.d rfl (dds_below Hq.out (B3.setCell (p := ⟨w.heap.size, 2, none⟩) (Nat.le_refl _) (.slice B3' h.n.length m3))) (by have := Hs.out.2.2.2; omega) ?_; clear c0 c1 c2 c3 c4 f3; intro B4' m4 w4 hr hb
       have B4 : Below w.heap.size w w4 := (B3.setCell (p := ⟨w.heap.size, 2, none⟩) (Nat.le_refl _) (.slice B3' h.n.length m3)).trans (hb.mono (B3.setCell (p := ⟨w.heap.size, 2, none⟩) (Nat.le_refl _) (.slice B3' h.n.length m3)).size)
       have V4 := whole_b hb (whole_set V3 2 (.slice B3' h.n.length m3))
       have T4 := whole_b hb (whole_far T3 (p := ⟨w.heap.size, 2, none⟩) (by simp) (.slice B3' h.n.length m3))
       have R1_4 : BoRow w4 (w.heap.size + 1 + 1) _ h.g := borow_below (borow_store (g := w.heap.size) (i := 2) (u := .slice B3' h.n.length m3) R1_3 (by omega)) hb
       have P14 := parted_lt (fun g hg => (borow_lt (borow_store (g := w.heap.size) (i := 2) (u := .slice B3' h.n.length m3) R1_3 (by omega)) g hg).2) (fun g hg => (drow_lt hr g hg).1)
       have R2_4 : Row w4 (w.heap.size + 1 + 1) _ h.s := row_below (row_store (g := w.heap.size) (i := 2) (u := .slice B3' h.n.length m3) R2_3 (by omega)) hb
       have P24 := parted_lt (fun g hg => (row_lt (row_store (g := w.heap.size) (i := 2) (u := .slice B3' h.n.length m3) R2_3 (by omega)) g hg).2) (fun g hg => (drow_lt hr g hg).1)
       have R3_4 : Row w4 (w.heap.size + 1 + 1) _ h.n := row_below (row_store (g := w.heap.size) (i := 2) (u := .slice B3' h.n.length m3) R3_3 (by omega)) hb
       have P34 := parted_lt (fun g hg => (row_lt (row_store (g := w.heap.size) (i := 2) (u := .slice B3' h.n.length m3) R3_3 (by omega)) g hg).2) (fun g hg => (drow_lt hr g hg).1)
       have R4_4 : DRow w4 (w.heap.size + 1 + 1) (.slice B4' h.d.length m4) h.d := drow_base hr (by have := B3.size; have := whole_lt T3; simp; omega)
       have zv4 := whole_lt V4
       have zt4 := whole_lt T4
       obtain ⟨c0, c1, c2, c3, c4⟩ := five_cells V4
       have f4 := whole_free V4 4
       obtain ⟨r0, r1, r2, r3, r4⟩ := five_cells T4
       have fr := whole_free T4
       clear hr hb))
  refine bodyPost_ret (v := .agg #[.slice B1' h.g.length m1, .slice B2' h.s.length m2, .slice B3' h.n.length m3, .int .i64 h.c, .slice B4' h.d.length m4]) (by simp [results, Try.results60, go_sem, *]) rfl ⟨_, rfl, hostOf_top (hostOf_base (hostOf_rows (lo := w.heap.size + 1 + 1)
    (by repeat (first | with_reducible exact R1_4 | ((with_reducible refine borow_store ?_ ?hh); case hh => omega)))
    (by repeat (first | with_reducible exact R2_4 | ((with_reducible refine row_store ?_ ?hh); case hh => omega)))
    (by repeat (first | with_reducible exact R3_4 | ((with_reducible refine row_store ?_ ?hh); case hh => omega)))
    (by repeat (first | with_reducible exact R4_4 | ((with_reducible refine drow_store ?_ ?hh); case hh => omega)))
    P12 P13 P14 P23 P24 P34) (by omega)) (Nat.le_refl _), ?_⟩
  repeat (first | with_reducible exact B4 | with_reducible refine Below.setCell ?_ (by simp; try omega) _)

end Go.Proofs.Ytkcogfgjabemfaa
