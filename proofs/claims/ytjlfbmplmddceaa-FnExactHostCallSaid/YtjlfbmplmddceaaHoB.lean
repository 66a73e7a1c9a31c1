/- The laws' helpers on hosts: alike, marks laid, marks found. -/
import Derived.Test.YtjlfbmplmddceaaHoA
namespace Go.Proofs.Ytjlfbmplmddceaa
open Go.RowKit
set_option linter.unusedVariables false
set_option linter.unusedSimpArgs false

theorem boolOfB_true {w : World} {zs : List Bool} {e : Ending} {w' : World} (h : BoolOf w (zs == zs) e w') : ∃ n : Nat, e = .returned (.bool true) ∧ w' = w.drewN n := by
  obtain ⟨n, he, hw⟩ := h
  exact ⟨n, by rw [he]; simp, hw⟩

set_option maxRecDepth 100000 in
set_option maxHeartbeats 2000000 in
theorem eqHost_same (u v : Value) (h : Ht) (w : World) (hu : HostIn w u h) (hv : HostIn w v h) :
    Calls Try.prog 12 #[u, v] w fun e w' => e = .returned (.bool true) ∧ Below w.heap.size w w' := by
  obtain ⟨x, y, z, q, rfl, hx, hy, hz, hq⟩ := hu
  obtain ⟨x', y', z', q', rfl, hx', hy', hz', hq'⟩ := hv
  have Hx := Lib.hid hx
  have Hy := Lib.hid hy
  have Hz := Lib.hid hz
  have Hq := Lib.hid hq
  have Hx' := Lib.hid hx'
  have Hy' := Lib.hid hy'
  have Hz' := Lib.hid hz'
  have Hq' := Lib.hid hq'
  have BB : Hid (∀ (o o' : Obj) (n : Nat), Below w.heap.size w (((w.alloc o).alloc o').drewN n)) := Lib.hid fun o o' n => below_drewN (below_alloc (below_alloc (Below.refl _ _) _) _) n
  have tc : (h.c != h.c) = false := by simp
  clear hx hy hz hq hx' hy' hz' hq'
  go_enter Try.func12, Try.ntmps12
  go_wp2_with fail
  refine (eqBools_any _ _ h.g h.g _ (bols_below Hx.out (BB.out _ _ 0)) (bols_below Hx'.out (BB.out _ _ 0))).mono ?_
  intro e w1 hr
  obtain ⟨n1, rfl, rfl⟩ := boolOfB_true hr
  clear hr
  go_wp2_with fail
  refine (eqInts_any _ _ h.s h.s _ (ints_below Hy.out (BB.out _ _ _)) (ints_below Hy'.out (BB.out _ _ _))).mono ?_
  intro e w2 hr
  obtain ⟨n2, rfl, rfl⟩ := boolOf_true hr
  clear hr
  rw [World.drewN_drewN]
  go_wp2_with fail
  refine (eqInts_any _ _ h.n h.n _ (ints_below Hz.out (BB.out _ _ _)) (ints_below Hz'.out (BB.out _ _ _))).mono ?_
  intro e w3 hr
  obtain ⟨n3, rfl, rfl⟩ := boolOf_true hr
  clear hr
  rw [World.drewN_drewN]
  go_wp2_with fail
  refine (eqDeedS_same _ _ h.d _ (dds_below Hq.out (BB.out _ _ _)) (dds_below Hq'.out (BB.out _ _ _))).mono ?_
  rintro e w4 ⟨rfl, hb4⟩
  have B4 := Lib.hid (below_step (BB.out _ _ _) hb4)
  clear hb4
  go_wp2
  go_ret
  exact ⟨rfl, B4.out⟩

/-- The host with marks from K on in its rows. -/
def markH (K : Nat) (h : Ht) : Ht := ⟨marksB K h.g.length, marksI (K + h.g.length) h.s.length, marksI (K + h.g.length + h.s.length) h.n.length, h.c, marksD (K + h.g.length + h.s.length + h.n.length) h.d.length⟩

/-- How many numbers its rows have. -/
def numH (h : Ht) : Nat := h.g.length + h.s.length + h.n.length + 4 * h.d.length

theorem borow_mark {w w' : World} {lo : Nat} {v u : Value} {zs : List Bool} (h : BoRow w lo v zs) (hg : w.grownBy w' u.ownBlock) (hp : Parted v u) : BoRow w' lo v zs :=
  borow_keep h fun g hv => hg.block g (borow_lt h g hv).2 (fun e => hp g hv e.symm)

theorem drow_mark {w w' : World} {lo : Nat} {v u : Value} {zs : List Dd} (h : DRow w lo v zs) (hg : w.grownBy w' u.ownBlock) (hp : Parted v u) : DRow w' lo v zs :=
  drow_keep h fun g hv => hg.block g (drow_lt h g hv).2 (fun e => hp g hv e.symm)

/-- What laying marks leaves. -/
def MarkHOf (w : World) (lo hi : Nat) (v : Value) (h : Ht) (K : Nat) (e : Ending) (w' : World) : Prop := e = .returned (.int .i64 ((K + numH h : Nat) : Int)) ∧ HostOf w' lo hi v (markH K h) ∧ Within lo hi w w'

set_option maxRecDepth 100000 in
set_option maxHeartbeats 4000000 in
theorem markHost_any (v : Value) (h : Ht) (lo hi K : Nat) (w : World) (hv : HostOf w lo hi v h) (hs : SmallH h) (hK : K ≤ 8388608) (hh : hi ≤ w.heap.size) :
    Calls Try.prog 14 #[v, .int .i64 K] w (MarkHOf w lo hi v h K) := by
  obtain ⟨x, y, z, q, rfl, hx, hy, hz, hq, p1, p2, p3, p4, p5, p6, ph⟩ := hv
  obtain ⟨s1, s2, s3, s4⟩ := hs
  have GX : Hid (∀ g, x.ownBlock = some g → lo ≤ g ∧ g < hi) := Lib.hid fun g hg => ⟨(borow_lt hx g hg).1, ph g (.inl hg)⟩
  have GY : Hid (∀ g, y.ownBlock = some g → lo ≤ g ∧ g < hi) := Lib.hid fun g hg => ⟨(row_lt hy g hg).1, ph g (.inr (.inl hg))⟩
  have GZ : Hid (∀ g, z.ownBlock = some g → lo ≤ g ∧ g < hi) := Lib.hid fun g hg => ⟨(row_lt hz g hg).1, ph g (.inr (.inr (.inl hg)))⟩
  have GQ : Hid (∀ g, q.ownBlock = some g → lo ≤ g ∧ g < hi) := Lib.hid fun g hg => ⟨(drow_lt hq g hg).1, ph g (.inr (.inr (.inr hg)))⟩
  have P1 := Lib.hid p1
  have P2 := Lib.hid p2
  have P3 := Lib.hid p3
  have P4 := Lib.hid p4
  have P5 := Lib.hid p5
  have P6 := Lib.hid p6
  have PH := Lib.hid ph
  have W0 : Hid (∀ o : Obj, Within lo hi w (w.alloc o)) := Lib.hid fun o => below_within (below_alloc (Below.refl _ _) o)
  obtain ⟨_, A1, k1, rfl, _⟩ := borow_bols hx
  obtain ⟨_, A2, k2, rfl, _⟩ := row_ints hy
  obtain ⟨_, A3, k3, rfl, _⟩ := row_ints hz
  obtain ⟨_, A4, k4, rfl, _⟩ := drow_dds hq
  have HX := Lib.hid hx
  have HY := Lib.hid hy
  have HZ := Lib.hid hz
  have HQ := Lib.hid hq
  clear hx hy hz hq p1 p2 p3 p4 p5 p6 ph
  go_enter Try.func14, Try.ntmps14
  go_wp2_with fail
  have WB0 := Lib.hid (whole_new w 33 #[.slice A1 h.g.length k1, .slice A2 h.s.length k2, .slice A3 h.n.length k3, .int .i64 h.c, .slice A4 h.d.length k4])
  refine (markBools_any _ lo (K) h.g _ (borow_alloc HX.out _) (by omega) (by omega)).mono ?_
  rintro e w1 ⟨rfl, hr1, hg1⟩
  have hne : some w.heap.size ≠ (Value.slice A1 h.g.length k1).ownBlock := fun e => by have := GX.out _ e.symm; omega
  have WB1 := Lib.hid (whole_keep WB0.out (hg1.block _ (by simp) hne))
  have N1 := Lib.hid (within_trans (W0.out _) (within_grown hg1 GX.out))
  have X1 := Lib.hid hr1
  have Y1 := Lib.hid (row_mark (row_alloc HY.out _) hg1 (parted_sym P1.out))
  have Z1 := Lib.hid (row_mark (row_alloc HZ.out _) hg1 (parted_sym P2.out))
  have Q1 := Lib.hid (drow_mark (drow_alloc HQ.out _) hg1 (parted_sym P3.out))
  have b1 := whole_cell WB1.out 1
  simp at b1
  clear hr1 hg1 hne
  go_wp2_with fail
  rw [show ((K : Int) + h.g.length) = ((K + h.g.length : Nat) : Int) by omega]
  refine (markInts_any _ lo (K + h.g.length) h.s _ Y1.out (by omega) (by omega)).mono ?_
  rintro e w2 ⟨rfl, hr2, hg2⟩
  have hne : some w.heap.size ≠ (Value.slice A2 h.s.length k2).ownBlock := fun e => by have := GY.out _ e.symm; omega
  have WB2 := Lib.hid (whole_keep WB1.out (hg2.block _ (whole_lt WB1.out) hne))
  have N2 := Lib.hid (within_trans N1.out (within_grown hg2 GY.out))
  have Y2 := Lib.hid hr2
  have X2 := Lib.hid (borow_keep X1.out fun g hv => hg2.block g (borow_lt X1.out g hv).2 (fun e => P1.out g hv e.symm))
  have Z2 := Lib.hid (row_mark Z1.out hg2 (parted_sym P4.out))
  have Q2 := Lib.hid (drow_mark Q1.out hg2 (parted_sym P5.out))
  have b2 := whole_cell WB2.out 2
  simp at b2
  clear hr2 hg2 hne b1
  go_wp2_with fail
  rw [show ((K : Int) + h.g.length + h.s.length) = ((K + h.g.length + h.s.length : Nat) : Int) by omega]
  refine (markInts_any _ lo (K + h.g.length + h.s.length) h.n _ Z2.out (by omega) (by omega)).mono ?_
  rintro e w3 ⟨rfl, hr3, hg3⟩
  have hne : some w.heap.size ≠ (Value.slice A3 h.n.length k3).ownBlock := fun e => by have := GZ.out _ e.symm; omega
  have WB3 := Lib.hid (whole_keep WB2.out (hg3.block _ (whole_lt WB2.out) hne))
  have N3 := Lib.hid (within_trans N2.out (within_grown hg3 GZ.out))
  have Z3 := Lib.hid hr3
  have X3 := Lib.hid (borow_keep X2.out fun g hv => hg3.block g (borow_lt X2.out g hv).2 (fun e => P2.out g hv e.symm))
  have Y3 := Lib.hid (row_keep Y2.out fun g hv => hg3.block g (row_lt Y2.out g hv).2 (fun e => P4.out g hv e.symm))
  have Q3 := Lib.hid (drow_mark Q2.out hg3 (parted_sym P6.out))
  have b3 := whole_cell WB3.out 4
  simp at b3
  clear hr3 hg3 hne b2
  go_wp2_with fail
  rw [show ((K : Int) + h.g.length + h.s.length + h.n.length) = ((K + h.g.length + h.s.length + h.n.length : Nat) : Int) by omega]
  refine (markDeeds_any _ lo (K + h.g.length + h.s.length + h.n.length) h.d _ Q3.out (by omega) (by omega)).mono ?_
  rintro e w4 ⟨rfl, hr4, hg4⟩
  have hne : some w.heap.size ≠ (Value.slice A4 h.d.length k4).ownBlock := fun e => by have := GQ.out _ e.symm; omega
  have WB4 := Lib.hid (whole_keep WB3.out (hg4.block _ (whole_lt WB3.out) hne))
  have N4 := Lib.hid (within_trans N3.out (within_grown hg4 GQ.out))
  have Q4 := Lib.hid hr4
  have X4 := Lib.hid (borow_keep X3.out fun g hv => hg4.block g (borow_lt X3.out g hv).2 (fun e => P3.out g hv e.symm))
  have Y4 := Lib.hid (row_keep Y3.out fun g hv => hg4.block g (row_lt Y3.out g hv).2 (fun e => P5.out g hv e.symm))
  have Z4 := Lib.hid (row_keep Z3.out fun g hv => hg4.block g (row_lt Z3.out g hv).2 (fun e => P6.out g hv e.symm))
  clear hr4 hg4 hne b3
  go_wp2
  go_ret
  exact ⟨ret_int (by unfold numH; omega), ⟨_, _, _, _, by simp [markH, marksB_len, marksI_len, marksD_len], X4.out, Y4.out, Z4.out, Q4.out, P1.out, P2.out, P3.out, P4.out, P5.out, P6.out, PH.out⟩, N4.out⟩

set_option maxRecDepth 100000 in
set_option maxHeartbeats 2000000 in
theorem heldHost_any (v : Value) (h : Ht) (K : Nat) (w : World) (hv : HostIn w v (markH K h)) (hs : SmallH h) (hK : K ≤ 8388608) :
    Calls Try.prog 16 #[v, .int .i64 K] w fun e w' => e = .returned (.int .i64 ((K + numH h : Nat) : Int)) ∧ Below w.heap.size w w' := by
  obtain ⟨x, y, z, q, rfl, hx, hy, hz, hq⟩ := hv
  obtain ⟨s1, s2, s3, s4⟩ := hs
  have BB : Hid (∀ (o : Obj), Below w.heap.size w (w.alloc o)) := Lib.hid fun o => below_alloc (Below.refl _ _) _
  have HX : Hid (Bols w x (marksB K h.g.length)) := Lib.hid hx
  have HY : Hid (Ints w y (marksI (K + h.g.length) h.s.length)) := Lib.hid hy
  have HZ : Hid (Ints w z (marksI (K + h.g.length + h.s.length) h.n.length)) := Lib.hid hz
  have HQ : Hid (Dds w q (marksD (K + h.g.length + h.s.length + h.n.length) h.d.length)) := Lib.hid hq
  have E1 : Hid (((K : Int) + h.g.length) = ((K + h.g.length : Nat) : Int)) := Lib.hid (by omega)
  have E2 : Hid (((K : Int) + h.g.length + h.s.length) = ((K + h.g.length + h.s.length : Nat) : Int)) := Lib.hid (by omega)
  have E3 : Hid (((K : Int) + h.g.length + h.s.length + h.n.length) = ((K + h.g.length + h.s.length + h.n.length : Nat) : Int)) := Lib.hid (by omega)
  clear hx hy hz hq
  go_enter Try.func16, Try.ntmps16
  go_wp2_with fail
  refine (heldBools_any _ h.g.length (K) _ (bols_below HX.out (BB.out _)) (by omega) (by omega)).mono ?_
  rintro e w1 ⟨rfl, rfl⟩
  go_wp2_with fail
  rw [E1.out]
  refine (heldInts_any _ h.s.length (K + h.g.length) _ (ints_below HY.out (BB.out _)) (by omega) (by omega)).mono ?_
  rintro e w1 ⟨rfl, rfl⟩
  go_wp2_with fail
  rw [E2.out]
  refine (heldInts_any _ h.n.length (K + h.g.length + h.s.length) _ (ints_below HZ.out (BB.out _)) (by omega) (by omega)).mono ?_
  rintro e w1 ⟨rfl, rfl⟩
  go_wp2_with fail
  rw [E3.out]
  refine (heldDeeds_any _ h.d.length (K + h.g.length + h.s.length + h.n.length) _ (dds_below HQ.out (BB.out _)) (by omega) (by omega)).mono ?_
  rintro e w1 ⟨rfl, rfl⟩
  go_wp2
  go_ret
  exact ⟨ret_int (by unfold numH; omega), BB.out _⟩

end Go.Proofs.Ytjlfbmplmddceaa
