/- The laws' copy of an argument's data. -/
import Derived.Test.YthnbaeamekolmaaGreatDoorDatA
namespace Go.Proofs.YthnbaeamekolmaaGreatDoor
open Go.RowKit
set_option linter.unusedVariables false
set_option linter.unusedSimpArgs false

theorem whole_new1 (w : World) (o : Obj) (t : TypeId) (cs : Array Value) : Whole ((w.alloc o).alloc (.cells cs t)) (w.heap.size + 1) t cs := by
  simpa using whole_new (w.alloc o) t cs

theorem whole_new2 (w : World) (o o' : Obj) (t : TypeId) (cs : Array Value) : Whole (((w.alloc o).alloc o').alloc (.cells cs t)) (w.heap.size + 1 + 1) t cs := by
  simpa using whole_new ((w.alloc o).alloc o') t cs

/-- A row apart from a block below its base stays when that block is written. -/
theorem row_store {w : World} {lo g i : Nat} {v u : Value} {zs : List Int} (h : Row w lo v zs) (hg : g < lo) : Row (w.setCell ⟨g, i, none⟩ u) lo v zs :=
  row_keep h fun k hk => Below.heap_setCell w _ u k (by have := row_lt h k hk; show k ≠ g; omega)

theorem below_base {a b : World} {n : Nat} (h : Below n a b) (hn : a.heap.size = n) : Below a.heap.size a b := by rw [hn]; exact h

set_option maxRecDepth 100000 in
set_option maxHeartbeats 2000000 in
theorem toData_any (v : Value) (d : Dt) (w : World) (hv : DatIn w v d) (hs : SmallD d) :
    Calls Tryz.prog 29 #[v] w fun e w' => ∃ u, e = .returned u ∧ DatOf w' w.heap.size w'.heap.size u d ∧ Below w.heap.size w w' := by
  obtain ⟨x, y, z, rfl, hx, hy, hz, lo⟩ := hv
  have Hx := Lib.hid hx
  have Hy := Lib.hid hy
  have Hz := Lib.hid hz
  have Hs := Lib.hid hs
  have Hl := Lib.hid lo
  clear hx hy hz hs lo
  go_enter Tryz.func29, Tryz.ntmps29
  go_wp2_with fail
  refine (toInts_any _ d.s _ (ints_below Hx.out (below_alloc (below_alloc (below_alloc (Below.refl _ _) _) _) _)) (by have := Hs.out.1; omega)).mono ?_
  rintro e w1 ⟨x', rfl, hr1, -, hb1⟩
  have z1 : w.heap.size + 1 + 1 + 1 ≤ w1.heap.size := by have := hb1.size; simp at this; omega
  have B1 : Hid (Below w.heap.size w w1) := Lib.hid (below_step (below_alloc (below_alloc (below_alloc (Below.refl _ _) _) _) _) hb1)
  have WA1 := Lib.hid (whole_below (whole_alloc (whole_alloc (whole_new w _ _) _) _) hb1)
  have WR1 := Lib.hid (whole_below (whole_alloc (whole_new1 w _ _ _) _) hb1)
  have WO1 := Lib.hid (whole_below (whole_new2 w _ _ _ _) hb1)
  obtain ⟨_, A1, k1, rfl, _⟩ := row_ints hr1
  have R1 : Hid (Row w1 (w.heap.size + 1 + 1 + 1) _ d.s) := Lib.hid (by simpa using hr1)
  have ca := whole_cell WA1.out 1
  have co := whole_cell WO1.out 0
  have fo := whole_free WO1.out 0
  simp only [List.getElem?_toArray, List.getElem?_cons_succ, List.getElem?_cons_zero] at ca co
  clear hr1 hb1
  go_wp2_with fail
  clear ca co fo
  have B1' := Lib.hid (B1.out.setCell (p := ⟨w.heap.size + 1 + 1, 0, none⟩) (by simp; omega) (.slice A1 d.s.length k1))
  refine (toInts_any _ d.b _ (ints_below Hy.out B1'.out) (by have := Hs.out.2.1; omega)).mono ?_
  rintro e w2 ⟨y', rfl, hr2, -, hb2⟩
  have R1' := Lib.hid (row_below (row_store R1.out (Nat.lt_succ_self _)) hb2)
  have z2 : w.heap.size + 1 + 1 + 1 ≤ w2.heap.size := by have := hb2.size; simp at this; omega
  have B2 : Hid (Below w.heap.size w w2) := Lib.hid (B1'.out.trans (hb2.mono B1'.out.size))
  have WA2 := Lib.hid (whole_below (whole_far WA1.out (p := ⟨w.heap.size + 1 + 1, 0, none⟩) (by simp; omega) (.slice A1 d.s.length k1)) hb2)
  have WR2 := Lib.hid (whole_below (whole_far WR1.out (p := ⟨w.heap.size + 1 + 1, 0, none⟩) (by simp) (.slice A1 d.s.length k1)) hb2)
  have WO2 := Lib.hid (whole_below (whole_set WO1.out 0 (.slice A1 d.s.length k1)) hb2)
  obtain ⟨_, A2, k2, rfl, _⟩ := row_ints hr2
  have P12 := Lib.hid (parted_later (row_store R1.out (Nat.lt_succ_self _)) hr2)
  have R2 : Hid (Row w2 (w.heap.size + 1 + 1 + 1) _ d.b) := Lib.hid (row_base hr2 (by simp; omega))
  have ca := whole_cell WA2.out 2
  have co := whole_cell WO2.out 1
  have fo := whole_free WO2.out 1
  clear hr2 hb2
  simp at ca co
  go_wp2_with fail
  clear ca co fo
  have B2' := Lib.hid (B2.out.setCell (p := ⟨w.heap.size + 1 + 1, 1, none⟩) (by simp; omega) (.slice A2 d.b.length k2))
  refine (toInts_any _ d.c _ (ints_below Hz.out B2'.out) (by have := Hs.out.2.2.1; omega)).mono ?_
  rintro e w3 ⟨z', rfl, hr3, -, hb3⟩
  have R1'' := Lib.hid (row_below (row_store R1'.out (Nat.lt_succ_self _)) hb3)
  have R2'' := Lib.hid (row_below (row_store R2.out (Nat.lt_succ_self _)) hb3)
  have z3 : w.heap.size + 1 + 1 + 1 ≤ w3.heap.size := by have := hb3.size; simp at this; omega
  have B3 : Hid (Below w.heap.size w w3) := Lib.hid (B2'.out.trans (hb3.mono B2'.out.size))
  have WA3 := Lib.hid (whole_below (whole_far WA2.out (p := ⟨w.heap.size + 1 + 1, 1, none⟩) (by simp; omega) (.slice A2 d.b.length k2)) hb3)
  have WR3 := Lib.hid (whole_below (whole_far WR2.out (p := ⟨w.heap.size + 1 + 1, 1, none⟩) (by simp) (.slice A2 d.b.length k2)) hb3)
  have WO3 := Lib.hid (whole_below (whole_set WO2.out 1 (.slice A2 d.b.length k2)) hb3)
  obtain ⟨_, A3, k3, rfl, _⟩ := row_ints hr3
  have P13 := Lib.hid (parted_later (row_store R1'.out (Nat.lt_succ_self _)) hr3)
  have P23 := Lib.hid (parted_later (row_store R2.out (Nat.lt_succ_self _)) hr3)
  have R3 : Hid (Row w3 (w.heap.size + 1 + 1 + 1) _ d.c) := Lib.hid (row_base hr3 (by simp; omega))
  have a3 := whole_cell WA3.out 3
  have a4 := whole_cell WA3.out 4
  have a5 := whole_cell WA3.out 5
  have o0 := whole_cell WO3.out 0
  have o1 := whole_cell WO3.out 1
  have o2 := whole_cell WO3.out 2
  have o3 := whole_cell WO3.out 3
  have o4 := whole_cell WO3.out 4
  have o5 := whole_cell WO3.out 5
  have r0 := whole_cell WR3.out 0
  have r1 := whole_cell WR3.out 1
  have r2 := whole_cell WR3.out 2
  have r3 := whole_cell WR3.out 3
  have r4 := whole_cell WR3.out 4
  have r5 := whole_cell WR3.out 5
  have fo := whole_free WO3.out
  have fr := whole_free WR3.out
  clear WA1 WR1 WO1 R1 B1 B1' WA2 WO2 WR2 R2 R1' B2 B2' hr3 hb3
  simp at a3 a4 a5 o0 o1 o2 o3 o4 o5 r0 r1 r2 r3 r4 r5
  go_wp2
  refine bodyPost_ret (v := .agg #[.slice A1 d.s.length k1, .slice A2 d.b.length k2, .slice A3 d.c.length k3, .int .i64 d.h, .int .i64 d.n, .string d.o]) (by simp [results, Tryz.results29, go_sem, *]) rfl ⟨_, rfl, datOf_top (datOf_base (datOf_rows (lo := w.heap.size + 1 + 1 + 1)
    (by repeat (first | with_reducible exact R1''.out | with_reducible refine row_store ?_ (by simp)))
    (by repeat (first | with_reducible exact R2''.out | with_reducible refine row_store ?_ (by simp)))
    (by repeat (first | with_reducible exact R3.out | with_reducible refine row_store ?_ (by simp))) Hl.out P12.out P13.out P23.out) (by omega)) (Nat.le_refl _), ?_⟩
  repeat (first | with_reducible exact B3.out | with_reducible refine Below.setCell ?_ (by simp; try omega) _)

end Go.Proofs.YthnbaeamekolmaaGreatDoor
