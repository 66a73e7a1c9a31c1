/- A script's data, copied: spec's l03Own, impl's ownData. -/
import Derived.Test.YthnbaeamekolmaaGreatDoorDatL
namespace Go.Proofs.YthnbaeamekolmaaGreatDoor
open Go.RowKit
set_option linter.unusedVariables false
set_option linter.unusedSimpArgs false

/-- 'append([]int{}, xs...)': a row of the call's own, of these numbers. -/
theorem wpList_append_new {W0 : World} {ops : Array Oper} {rest : List Oper} {o : Oper} {a : Act} {Q : Exit → Act → World → Prop} (hgd : o.guard = none) (s x : Operand)
    (ho : o.op = .call { callee := .builtin .append, args := #[s, x], argTypes := #[23, 23] }) (hty : o.type = 23)
    (g : Nat) (hs : a.eval s = .slice (some ⟨g, 0, none⟩) 0 0) (hgs : g = W0.heap.size) (u : Value) (zs : List Int) (hx : a.eval x = u) (hz : Ints W0 u zs) (hl : zs.length ≤ 1099511627776)
    (h : ∀ B m w', Row w' W0.heap.size (.slice B zs.length m) zs → Below W0.heap.size W0 w' → wpList Tryz.prog ops Q rest (a.put o.dst (.slice B zs.length m)) w') :
    wpList Tryz.prog ops Q (o :: rest) a (W0.alloc (.cells #[] 3)) := by
  subst hgs
  have ho0 : Row (W0.alloc (.cells #[] 3)) W0.heap.size (.slice (some ⟨W0.heap.size, 0, none⟩) 0 0) [] := World.ownsRow_made W0 #[] 0 (Nat.le_refl _) (by unfold maxLen; omega) rfl
  refine wpList_append_ints hgd s x ho hty W0.heap.size _ [] ho0 u zs (ints_below hz (below_alloc (Below.refl _ _) _)) hs hx (by simpa using hl) (by simp) ?_
  intro v' w' hr hg _
  rw [List.nil_append] at hr
  obtain ⟨_, B, m, rfl, _⟩ := row_ints hr
  refine h B m w' hr ?_
  exact (below_alloc (Below.refl _ _) _).grown hg (by simp) (fun k hk => by simp [Value.ownBlock] at hk; omega)

/-- What a copy of data leaves. -/
def CopyOf (w : World) (d : Dt) (e : Ending) (w' : World) : Prop := ∃ u, e = .returned u ∧ DatOf w' w.heap.size w'.heap.size u d ∧ Below w.heap.size w w'

set_option maxRecDepth 100000 in
set_option maxHeartbeats 2000000 in
theorem sOwn_any (v : Value) (d : Dt) (w : World) (hv : DatIn w v d) (hs : SmallD d) :
    Calls Tryz.prog 66 #[v] w (CopyOf w d) := by
  obtain ⟨x, y, z, rfl, hx, hy, hz, lo⟩ := hv
  have Hx := Lib.hid hx
  have Hy := Lib.hid hy
  have Hz := Lib.hid hz
  have Hs := Lib.hid hs
  have Hl := Lib.hid lo
  obtain ⟨_, A1, k1, rfl, _⟩ := hx
  obtain ⟨_, A2, k2, rfl, _⟩ := hy
  obtain ⟨_, A3, k3, rfl, _⟩ := hz
  clear hs lo
  go_enter Tryz.func66, Tryz.ntmps66
  go_wp2_with (first
    | (at_builtin; refine wpList_append_new rfl _ _ rfl rfl _ rfl (by simp) (.slice A1 d.s.length k1) d.s rfl (ints_below Hx.out (below_alloc (below_alloc (Below.refl _ _) _) _)) (by have := Hs.out.1; omega) ?_; intro B1' m1 w1 hr hb
       have B1 : Below w.heap.size w w1 := (below_alloc (below_alloc (Below.refl _ _) _) _).trans (hb.mono (below_alloc (below_alloc (Below.refl _ _) _) _).size)
       have V1 := whole_b hb (whole_alloc (whole_new w _ _) _)
       have T1 := whole_b hb (whole_new1 w _ _ _)
       have R11 : Row w1 (w.heap.size + 1 + 1) (.slice B1' d.s.length m1) d.s := by simpa using hr
       have zv1 := whole_lt V1
       have zt1 := whole_lt T1
       obtain ⟨c0, c1, c2, c3, c4, c5⟩ := six_cells V1
       have f1 := whole_free V1 0
       clear hr hb)
    | (at_builtin; refine wpList_append_new rfl _ _ rfl rfl _ rfl (by simp) (.slice A2 d.b.length k2) d.b rfl (ints_below Hy.out (B1.setCell (p := ⟨w.heap.size, 0, none⟩) (Nat.le_refl _) _)) (by have := Hs.out.2.1; omega) ?_; clear c0 c1 c2 c3 c4 c5 f1; intro B2' m2 w2 hr hb
       have B2 : Below w.heap.size w w2 := (B1.setCell (p := ⟨w.heap.size, 0, none⟩) (Nat.le_refl _) _).trans (hb.mono (B1.setCell (p := ⟨w.heap.size, 0, none⟩) (Nat.le_refl _) _).size)
       have V2 := whole_b hb (whole_set V1 0 (.slice B1' d.s.length m1))
       have T2 := whole_b hb (whole_far T1 (p := ⟨w.heap.size, 0, none⟩) (by simp) (.slice B1' d.s.length m1))
       have R12 : Row w2 (w.heap.size + 1 + 1) _ d.s := row_below (row_store (g := w.heap.size) (i := 0) (u := .slice B1' d.s.length m1) R11 (by omega)) hb
       have P12 := parted_later (row_store (g := w.heap.size) (i := 0) (u := .slice B1' d.s.length m1) R11 (by omega)) hr
       have R22 : Row w2 (w.heap.size + 1 + 1) (.slice B2' d.b.length m2) d.b := row_base hr (by have := B1.size; have := whole_lt T1; simp; omega)
       have zv2 := whole_lt V2
       have zt2 := whole_lt T2
       obtain ⟨c0, c1, c2, c3, c4, c5⟩ := six_cells V2
       have f2 := whole_free V2 1
       clear hr hb)
    | (at_builtin; refine wpList_append_new rfl _ _ rfl rfl _ rfl (by simp) (.slice A3 d.c.length k3) d.c rfl (ints_below Hz.out (B2.setCell (p := ⟨w.heap.size, 1, none⟩) (Nat.le_refl _) _)) (by have := Hs.out.2.2.1; omega) ?_; clear c0 c1 c2 c3 c4 c5 f2; intro B3' m3 w3 hr hb
       have B3 : Below w.heap.size w w3 := (B2.setCell (p := ⟨w.heap.size, 1, none⟩) (Nat.le_refl _) _).trans (hb.mono (B2.setCell (p := ⟨w.heap.size, 1, none⟩) (Nat.le_refl _) _).size)
       have V3 := whole_b hb (whole_set V2 1 (.slice B2' d.b.length m2))
       have T3 := whole_b hb (whole_far T2 (p := ⟨w.heap.size, 1, none⟩) (by simp) (.slice B2' d.b.length m2))
       have R13 : Row w3 (w.heap.size + 1 + 1) _ d.s := row_below (row_store (g := w.heap.size) (i := 1) (u := .slice B2' d.b.length m2) R12 (by omega)) hb
       have R23 : Row w3 (w.heap.size + 1 + 1) _ d.b := row_below (row_store (g := w.heap.size) (i := 1) (u := .slice B2' d.b.length m2) R22 (by omega)) hb
       have P13 := parted_later (row_store (g := w.heap.size) (i := 1) (u := .slice B2' d.b.length m2) R12 (by omega)) hr
       have P23 := parted_later (row_store (g := w.heap.size) (i := 1) (u := .slice B2' d.b.length m2) R22 (by omega)) hr
       have R33 : Row w3 (w.heap.size + 1 + 1) (.slice B3' d.c.length m3) d.c := row_base hr (by have := B2.size; have := whole_lt T2; simp; omega)
       have zv3 := whole_lt V3
       have zt3 := whole_lt T3
       obtain ⟨c0, c1, c2, c3, c4, c5⟩ := six_cells V3
       have f3 := whole_free V3 2
       obtain ⟨r0, r1, r2, r3, r4, r5⟩ := six_cells T3
       have fr := whole_free T3
       clear hr hb))
  refine bodyPost_ret (v := .agg #[.slice B1' d.s.length m1, .slice B2' d.b.length m2, .slice B3' d.c.length m3, .int .i64 d.h, .int .i64 d.n, .string d.o]) (by simp [results, Tryz.results66, go_sem, *]) rfl ⟨_, rfl, datOf_top (datOf_base (datOf_rows (lo := w.heap.size + 1 + 1)
    (by repeat (first | with_reducible exact R13 | ((with_reducible refine row_store ?_ ?hh); case hh => omega)))
    (by repeat (first | with_reducible exact R23 | ((with_reducible refine row_store ?_ ?hh); case hh => omega)))
    (by repeat (first | with_reducible exact R33 | ((with_reducible refine row_store ?_ ?hh); case hh => omega))) Hl.out P12 P13 P23) (by omega)) (Nat.le_refl _), ?_⟩
  repeat (first | with_reducible exact B3 | with_reducible refine Below.setCell ?_ (by simp; try omega) _)

set_option maxRecDepth 100000 in
set_option maxHeartbeats 2000000 in
theorem ownData_any (v : Value) (d : Dt) (w : World) (hv : DatIn w v d) (hs : SmallD d) :
    Calls Tryz.prog 60 #[v] w (CopyOf w d) := by
  obtain ⟨x, y, z, rfl, hx, hy, hz, lo⟩ := hv
  have Hx := Lib.hid hx
  have Hy := Lib.hid hy
  have Hz := Lib.hid hz
  have Hs := Lib.hid hs
  have Hl := Lib.hid lo
  obtain ⟨_, A1, k1, rfl, _⟩ := hx
  obtain ⟨_, A2, k2, rfl, _⟩ := hy
  obtain ⟨_, A3, k3, rfl, _⟩ := hz
  clear hs lo
  go_enter Tryz.func60, Tryz.ntmps60
  go_wp2_with fail
  refine (copyCells_any _ d.s _ (ints_below Hx.out (below_alloc (below_alloc (Below.refl _ _) _) _)) (by have := Hs.out.1; omega)).mono ?_
  rintro e w1 ⟨q, rfl, hr, -, hb⟩
  obtain ⟨_, B1', m1, rfl, _⟩ := row_ints hr
  have B1 : Below w.heap.size w w1 := (below_alloc (below_alloc (Below.refl _ _) _) _).trans (hb.mono (below_alloc (below_alloc (Below.refl _ _) _) _).size)
  have V1 := whole_b hb (whole_alloc (whole_new w _ _) _)
  have T1 := whole_b hb (whole_new1 w _ _ _)
  have R11 : Row w1 (w.heap.size + 1 + 1) (.slice B1' d.s.length m1) d.s := by simpa using hr
  have zv1 := whole_lt V1
  have zt1 := whole_lt T1
  obtain ⟨c0, c1, c2, c3, c4, c5⟩ := six_cells V1
  have f1 := whole_free V1 0
  clear hr hb
  go_wp2_with fail
  clear c0 c1 c2 c3 c4 c5 f1
  refine (copyCells_any _ d.b _ (ints_below Hy.out (B1.setCell (p := ⟨w.heap.size, 0, none⟩) (Nat.le_refl _) _)) (by have := Hs.out.2.1; omega)).mono ?_
  rintro e w2 ⟨q, rfl, hr, -, hb⟩
  obtain ⟨_, B2', m2, rfl, _⟩ := row_ints hr
  have B2 : Below w.heap.size w w2 := (B1.setCell (p := ⟨w.heap.size, 0, none⟩) (Nat.le_refl _) _).trans (hb.mono (B1.setCell (p := ⟨w.heap.size, 0, none⟩) (Nat.le_refl _) _).size)
  have V2 := whole_b hb (whole_set V1 0 (.slice B1' d.s.length m1))
  have T2 := whole_b hb (whole_far T1 (p := ⟨w.heap.size, 0, none⟩) (by simp) (.slice B1' d.s.length m1))
  have R12 : Row w2 (w.heap.size + 1 + 1) _ d.s := row_below (row_store (g := w.heap.size) (i := 0) (u := .slice B1' d.s.length m1) R11 (by omega)) hb
  have P12 := parted_later (row_store (g := w.heap.size) (i := 0) (u := .slice B1' d.s.length m1) R11 (by omega)) hr
  have R22 : Row w2 (w.heap.size + 1 + 1) (.slice B2' d.b.length m2) d.b := row_base hr (by have := B1.size; have := whole_lt T1; simp; omega)
  have zv2 := whole_lt V2
  have zt2 := whole_lt T2
  obtain ⟨c0, c1, c2, c3, c4, c5⟩ := six_cells V2
  have f2 := whole_free V2 1
  clear hr hb
  go_wp2_with fail
  clear c0 c1 c2 c3 c4 c5 f2
  refine (copyCells_any _ d.c _ (ints_below Hz.out (B2.setCell (p := ⟨w.heap.size, 1, none⟩) (Nat.le_refl _) _)) (by have := Hs.out.2.2.1; omega)).mono ?_
  rintro e w3 ⟨q, rfl, hr, -, hb⟩
  obtain ⟨_, B3', m3, rfl, _⟩ := row_ints hr
  have B3 : Below w.heap.size w w3 := (B2.setCell (p := ⟨w.heap.size, 1, none⟩) (Nat.le_refl _) _).trans (hb.mono (B2.setCell (p := ⟨w.heap.size, 1, none⟩) (Nat.le_refl _) _).size)
  have V3 := whole_b hb (whole_set V2 1 (.slice B2' d.b.length m2))
  have T3 := whole_b hb (whole_far T2 (p := ⟨w.heap.size, 1, none⟩) (by simp) (.slice B2' d.b.length m2))
  have R13 : Row w3 (w.heap.size + 1 + 1) _ d.s := row_below (row_store (g := w.heap.size) (i := 1) (u := .slice B2' d.b.length m2) R12 (by omega)) hb
  have R23 : Row w3 (w.heap.size + 1 + 1) _ d.b := row_below (row_store (g := w.heap.size) (i := 1) (u := .slice B2' d.b.length m2) R22 (by omega)) hb
  have P13 := parted_later (row_store (g := w.heap.size) (i := 1) (u := .slice B2' d.b.length m2) R12 (by omega)) hr
  have P23 := parted_later (row_store (g := w.heap.size) (i := 1) (u := .slice B2' d.b.length m2) R22 (by omega)) hr
  have R33 : Row w3 (w.heap.size + 1 + 1) (.slice B3' d.c.length m3) d.c := row_base hr (by have := B2.size; have := whole_lt T2; simp; omega)
  have zv3 := whole_lt V3
  have zt3 := whole_lt T3
  obtain ⟨c0, c1, c2, c3, c4, c5⟩ := six_cells V3
  have f3 := whole_free V3 2
  obtain ⟨r0, r1, r2, r3, r4, r5⟩ := six_cells T3
  have fr := whole_free T3
  clear hr hb
  go_wp2
  refine bodyPost_ret (v := .agg #[.slice B1' d.s.length m1, .slice B2' d.b.length m2, .slice B3' d.c.length m3, .int .i64 d.h, .int .i64 d.n, .string d.o]) (by simp [results, Tryz.results60, go_sem, *]) rfl ⟨_, rfl, datOf_top (datOf_base (datOf_rows (lo := w.heap.size + 1 + 1)
    (by repeat (first | with_reducible exact R13 | ((with_reducible refine row_store ?_ ?hh); case hh => omega)))
    (by repeat (first | with_reducible exact R23 | ((with_reducible refine row_store ?_ ?hh); case hh => omega)))
    (by repeat (first | with_reducible exact R33 | ((with_reducible refine row_store ?_ ?hh); case hh => omega))) Hl.out P12 P13 P23) (by omega)) (Nat.le_refl _), ?_⟩
  repeat (first | with_reducible exact B3 | with_reducible refine Below.setCell ?_ (by simp; try omega) _)

end Go.Proofs.YthnbaeamekolmaaGreatDoor
