/- The laws' helpers on data: alike, marks laid, marks found. -/
import Derived.Test.YtkcogfgjabemfaaGreatDoorDatB
namespace Go.Proofs.YtkcogfgjabemfaaGreatDoor
open Go.RowKit
set_option linter.unusedVariables false
set_option linter.unusedSimpArgs false

theorem ints_draws {w : World} {v : Value} {zs : List Int} (h : Ints w v zs) (n : Nat) : Ints (w.drewN n) v zs := h

theorem boolOf_true {w : World} {zs : List Int} {e : Ending} {w' : World} (h : BoolOf w (zs == zs) e w') : ∃ n : Nat, e = .returned (.bool true) ∧ w' = w.drewN n := by
  obtain ⟨n, he, hw⟩ := h
  exact ⟨n, by rw [he]; simp, hw⟩

set_option maxRecDepth 100000 in
set_option maxHeartbeats 2000000 in
theorem eqData_same (u v : Value) (d : Dt) (w : World) (hu : DatIn w u d) (hv : DatIn w v d) :
    Calls Tryz.prog 30 #[u, v] w fun e w' => e = .returned (.bool true) ∧ Below w.heap.size w w' := by
  obtain ⟨x, y, z, rfl, hx, hy, hz, lo⟩ := hu
  obtain ⟨x', y', z', rfl, hx', hy', hz', lo'⟩ := hv
  have Hx := Lib.hid hx
  have Hy := Lib.hid hy
  have Hz := Lib.hid hz
  have Hx' := Lib.hid hx'
  have Hy' := Lib.hid hy'
  have Hz' := Lib.hid hz'
  have BB : Hid (∀ (o o' : Obj) (n : Nat), Below w.heap.size w (((w.alloc o).alloc o').drewN n)) := Lib.hid fun o o' n => below_drewN (below_alloc (below_alloc (Below.refl _ _) _) _) n
  have th : (d.h != d.h) = false := by simp
  have tn : (d.n != d.n) = false := by simp
  have to : (d.o.toList != d.o.toList) = false := by simp
  clear hx hy hz lo hx' hy' hz' lo'
  go_enter Tryz.func30, Tryz.ntmps30
  go_wp2_with fail
  refine (eqInts_any _ _ d.s d.s _ (ints_below Hx.out (BB.out _ _ 0)) (ints_below Hx'.out (BB.out _ _ 0))).mono ?_
  intro e w1 hr
  obtain ⟨n1, rfl, rfl⟩ := boolOf_true hr
  clear hr
  go_wp2_with fail
  refine (eqInts_any _ _ d.b d.b _ (ints_below Hy.out (BB.out _ _ _)) (ints_below Hy'.out (BB.out _ _ _))).mono ?_
  intro e w2 hr
  obtain ⟨n2, rfl, rfl⟩ := boolOf_true hr
  clear hr
  rw [World.drewN_drewN]
  go_wp2_with fail
  refine (eqInts_any _ _ d.c d.c _ (ints_below Hz.out (BB.out _ _ _)) (ints_below Hz'.out (BB.out _ _ _))).mono ?_
  intro e w3 hr
  obtain ⟨n3, rfl, rfl⟩ := boolOf_true hr
  clear hr
  rw [World.drewN_drewN]
  go_wp2
  go_ret
  exact ⟨rfl, BB.out _ _ _⟩

/-- The data with marks from K on in its rows. -/
def markD (K : Nat) (d : Dt) : Dt := ⟨marksI K d.s.length, marksI (K + d.s.length) d.b.length, marksI (K + d.s.length + d.b.length) d.c.length, d.h, d.n, d.o⟩

/-- How many numbers its rows have. -/
def numD (d : Dt) : Nat := d.s.length + d.b.length + d.c.length

theorem row_mark {w w' : World} {lo : Nat} {v u : Value} {zs : List Int} (h : Row w lo v zs) (hg : w.grownBy w' u.ownBlock) (hp : Parted v u) : Row w' lo v zs :=
  row_keep h fun g hv => hg.block g (row_lt h g hv).2 (fun e => hp g hv e.symm)

/-- What laying marks leaves. -/
def MarkDOf (w : World) (lo hi : Nat) (v : Value) (d : Dt) (K : Nat) (e : Ending) (w' : World) : Prop := e = .returned (.int .i64 ((K + numD d : Nat) : Int)) ∧ DatOf w' lo hi v (markD K d) ∧ Within lo hi w w'

end Go.Proofs.YtkcogfgjabemfaaGreatDoor
