/- The laws' helpers on data: alike, marks laid, marks found. -/
import Derived.Test.YthnbaeamekolmaaGreatDoorDatB
namespace Go.Proofs.YthnbaeamekolmaaGreatDoor
open Go.RowKit
set_option linter.unusedVariables false
set_option linter.unusedSimpArgs false

theorem ints_draws {w : World} {v : Value} {zs : List Int} (h : Ints w v zs) (n : Nat) : Ints (w.drewN n) v zs := h

theorem boolOf_true {w : World} {zs : List Int} {e : Ending} {w' : World} (h : BoolOf w (zs == zs) e w') : ∃ n : Nat, e = .returned (.bool true) ∧ w' = w.drewN n := by
  obtain ⟨n, he, hw⟩ := h
  exact ⟨n, by rw [he]; simp, hw⟩

set_option maxRecDepth 100000 in
set_option maxHeartbeats 2000000 in
theorem eqData_same (u v : Value) (d : Dt) (w : World) (hu : DatIn w u d) (hv : DatIn w v d) :
    Calls Tryz.prog 30 #[u, v] w fun e w' => e = .returned (.bool true) ∧ Below w.heap.size w w' := by
  obtain ⟨x, y, z, rfl, hx, hy, hz, lo⟩ := hu
  obtain ⟨x', y', z', rfl, hx', hy', hz', lo'⟩ := hv
  have Hx := Lib.hid hx
  have Hy := Lib.hid hy
  have Hz := Lib.hid hz
  have Hx' := Lib.hid hx'
  have Hy' := Lib.hid hy'
  have Hz' := Lib.hid hz'
  have BB : Hid (∀ (o o' : Obj) (n : Nat), Below w.heap.size w (((w.alloc o).alloc o').drewN n)) := Lib.hid fun o o' n => below_drewN (below_alloc (below_alloc (Below.refl _ _) _) _) n
  have th : (d.h != d.h) = false := by simp
  have tn : (d.n != d.n) = false := by simp
  have to : (d.o.toList != d.o.toList) = false := by simp
  clear hx hy hz lo hx' hy' hz' lo'
  go_enter Tryz.func30, Tryz.ntmps30
  go_wp2_with fail
  refine (eqInts_any _ _ d.s d.s _ (ints_below Hx.out (BB.out _ _ 0)) (ints_below Hx'.out (BB.out _ _ 0))).mono ?_
  intro e w1 hr
  obtain ⟨n1, rfl, rfl⟩ := boolOf_true hr
  clear hr
  go_wp2_with fail
  refine (eqInts_any _ _ d.b d.b _ (ints_below Hy.out (BB.out _ _ _)) (ints_below Hy'.out (BB.out _ _ _))).mono ?_
  intro e w2 hr
  obtain ⟨n2, rfl, rfl⟩ := boolOf_true hr
  clear hr
  rw [World.drewN_drewN]
  go_wp2_with fail
  refine (eqInts_any _ _ d.c d.c _ (ints_below Hz.out (BB.out _ _ _)) (ints_below Hz'.out (BB.out _ _ _))).mono ?_
  intro e w3 hr
  obtain ⟨n3, rfl, rfl⟩ := boolOf_true hr
  clear hr
  rw [World.drewN_drewN]
  go_wp2
  go_ret
  exact ⟨rfl, BB.out _ _ _⟩

/-- The data with marks from K on in its rows. -/
def markD (K : Nat) (d : Dt) : Dt := ⟨marksI K d.s.length, marksI (K + d.s.length) d.b.length, marksI (K + d.s.length + d.b.length) d.c.length, d.h, d.n, d.o⟩

/-- How many numbers its rows have. -/
def numD (d : Dt) : Nat := d.s.length + d.b.length + d.c.length

theorem row_mark {w w' : World} {lo : Nat} {v u : Value} {zs : List Int} (h : Row w lo v zs) (hg : w.grownBy w' u.ownBlock) (hp : Parted v u) : Row w' lo v zs :=
  row_keep h fun g hv => hg.block g (row_lt h g hv).2 (fun e => hp g hv e.symm)

/-- What laying marks leaves. -/
def MarkDOf (w : World) (lo hi : Nat) (v : Value) (d : Dt) (K : Nat) (e : Ending) (w' : World) : Prop := e = .returned (.int .i64 ((K + numD d : Nat) : Int)) ∧ DatOf w' lo hi v (markD K d) ∧ Within lo hi w w'

set_option maxRecDepth 100000 in
set_option maxHeartbeats 2000000 in
theorem markData_any (v : Value) (d : Dt) (lo hi K : Nat) (w : World) (hv : DatOf w lo hi v d) (hs : SmallD d) (hK : K ≤ 1048576) (hh : hi ≤ w.heap.size) :
    Calls Tryz.prog 31 #[v, .int .i64 K] w (MarkDOf w lo hi v d K) := by
  obtain ⟨x, y, z, rfl, hx, hy, hz, lo', p1, p2, p3, ph⟩ := hv
  obtain ⟨s1, s2, s3, s4⟩ := hs
  have lx := ph
  have GX : Hid (∀ g, x.ownBlock = some g → lo ≤ g ∧ g < hi) := Lib.hid fun g hg => ⟨(row_lt hx g hg).1, ph g (.inl hg)⟩
  have GY : Hid (∀ g, y.ownBlock = some g → lo ≤ g ∧ g < hi) := Lib.hid fun g hg => ⟨(row_lt hy g hg).1, ph g (.inr (.inl hg))⟩
  have GZ : Hid (∀ g, z.ownBlock = some g → lo ≤ g ∧ g < hi) := Lib.hid fun g hg => ⟨(row_lt hz g hg).1, ph g (.inr (.inr hg))⟩
  have P1 := Lib.hid p1
  have P2 := Lib.hid p2
  have P3 := Lib.hid p3
  have PH := Lib.hid ph
  have L := Lib.hid lo'
  have W0 : Hid (∀ o : Obj, Within lo hi w (w.alloc o)) := Lib.hid fun o => below_within (below_alloc (Below.refl _ _) o)
  obtain ⟨_, A1, k1, rfl, _⟩ := row_ints hx
  obtain ⟨_, A2, k2, rfl, _⟩ := row_ints hy
  obtain ⟨_, A3, k3, rfl, _⟩ := row_ints hz
  have HX := Lib.hid hx
  have HY := Lib.hid hy
  have HZ := Lib.hid hz
  clear hx hy hz lo' p1 p2 p3 ph lx
  go_enter Tryz.func31, Tryz.ntmps31
  go_wp2_with fail
  have WB := Lib.hid (whole_new w 40 #[.slice A1 d.s.length k1, .slice A2 d.b.length k2, .slice A3 d.c.length k3, .int .i64 d.h, .int .i64 d.n, .string d.o])
  refine (markInts_any _ lo K d.s _ (row_alloc HX.out _) (by omega) (by omega)).mono ?_
  rintro e w1 ⟨rfl, hr1, hg1⟩
  have hne : some w.heap.size ≠ (Value.slice A1 d.s.length k1).ownBlock := fun e => by have := GX.out _ e.symm; omega
  have WB1 := Lib.hid (whole_keep WB.out (hg1.block _ (by simp) hne))
  have N1 := Lib.hid (within_trans (W0.out _) (within_grown hg1 GX.out))
  have X1 := Lib.hid hr1
  have Y1 := Lib.hid (row_mark (row_alloc HY.out _) hg1 (parted_sym P1.out))
  have Z1 := Lib.hid (row_mark (row_alloc HZ.out _) hg1 (parted_sym P2.out))
  have b1 := whole_cell WB1.out 1
  simp at b1
  clear hr1 hg1 hne
  go_wp2_with fail
  rw [show ((K : Int) + d.s.length) = ((K + d.s.length : Nat) : Int) by omega]
  refine (markInts_any _ lo (K + d.s.length) d.b _ Y1.out (by omega) (by omega)).mono ?_
  rintro e w2 ⟨rfl, hr2, hg2⟩
  have hne : some w.heap.size ≠ (Value.slice A2 d.b.length k2).ownBlock := fun e => by have := GY.out _ e.symm; omega
  have WB2 := Lib.hid (whole_keep WB1.out (hg2.block _ (whole_lt WB1.out) hne))
  have N2 := Lib.hid (within_trans N1.out (within_grown hg2 GY.out))
  have Y2 := Lib.hid hr2
  have X2 := Lib.hid (row_keep X1.out fun g hv => hg2.block g (row_lt X1.out g hv).2 (fun e => P1.out g hv e.symm))
  have Z2 := Lib.hid (row_mark Z1.out hg2 (parted_sym P3.out))
  have b2 := whole_cell WB2.out 2
  simp at b2
  clear hr2 hg2 hne b1
  go_wp2_with fail
  rw [show ((K : Int) + d.s.length + d.b.length) = ((K + d.s.length + d.b.length : Nat) : Int) by omega]
  refine (markInts_any _ lo (K + d.s.length + d.b.length) d.c _ Z2.out (by omega) (by omega)).mono ?_
  rintro e w3 ⟨rfl, hr3, hg3⟩
  have N3 := Lib.hid (within_trans N2.out (within_grown hg3 GZ.out))
  have Z3 := Lib.hid hr3
  have X3 := Lib.hid (row_keep X2.out fun g hv => hg3.block g (row_lt X2.out g hv).2 (fun e => P2.out g hv e.symm))
  have Y3 := Lib.hid (row_keep Y2.out fun g hv => hg3.block g (row_lt Y2.out g hv).2 (fun e => P3.out g hv e.symm))
  clear hr3 hg3 b2
  go_wp2
  go_ret
  refine ⟨ret_int (by unfold numD; omega), ⟨_, _, _, rfl, X3.out, Y3.out, Z3.out, L.out, P1.out, P2.out, P3.out, PH.out⟩, N3.out⟩

set_option maxRecDepth 100000 in
set_option maxHeartbeats 2000000 in
theorem heldData_any (v : Value) (d : Dt) (K : Nat) (w : World) (hv : DatIn w v (markD K d)) (hs : SmallD d) (hK : K ≤ 1048576) :
    Calls Tryz.prog 32 #[v, .int .i64 K] w fun e w' => e = .returned (.int .i64 ((K + numD d : Nat) : Int)) ∧ Below w.heap.size w w' := by
  obtain ⟨x, y, z, rfl, hx, hy, hz, lo'⟩ := hv
  obtain ⟨s1, s2, s3, s4⟩ := hs
  have BB : Hid (∀ (o : Obj), Below w.heap.size w (w.alloc o)) := Lib.hid fun o => below_alloc (Below.refl _ _) _
  have HX : Hid (Ints w x (marksI K d.s.length)) := Lib.hid hx
  have HY : Hid (Ints w y (marksI (K + d.s.length) d.b.length)) := Lib.hid hy
  have HZ : Hid (Ints w z (marksI (K + d.s.length + d.b.length) d.c.length)) := Lib.hid hz
  have e1 : ((K : Int) + d.s.length) = ((K + d.s.length : Nat) : Int) := by omega
  have e2 : ((K : Int) + d.s.length + d.b.length) = ((K + d.s.length + d.b.length : Nat) : Int) := by omega
  have E1 := Lib.hid e1
  have E2 := Lib.hid e2
  clear hx hy hz lo' e1 e2
  go_enter Tryz.func32, Tryz.ntmps32
  go_wp2_with fail
  refine (heldInts_any _ d.s.length K _ (ints_below HX.out (BB.out _)) (by omega) (by omega)).mono ?_
  rintro e w1 ⟨rfl, rfl⟩
  go_wp2_with fail
  rw [E1.out]
  refine (heldInts_any _ d.b.length (K + d.s.length) _ (ints_below HY.out (BB.out _)) (by omega) (by omega)).mono ?_
  rintro e w1 ⟨rfl, rfl⟩
  go_wp2_with fail
  rw [E2.out]
  refine (heldInts_any _ d.c.length (K + d.s.length + d.b.length) _ (ints_below HZ.out (BB.out _)) (by omega) (by omega)).mono ?_
  rintro e w1 ⟨rfl, rfl⟩
  go_wp2
  go_ret
  exact ⟨ret_int (by unfold numD; omega), BB.out _⟩

end Go.Proofs.YthnbaeamekolmaaGreatDoor
