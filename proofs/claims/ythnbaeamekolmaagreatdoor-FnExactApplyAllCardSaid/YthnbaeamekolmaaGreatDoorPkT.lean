/- PkT: several of my texts, laid together: ImpP, FlgA. -/
import Derived.Test.YthnbaeamekolmaaGreatDoorPkK
import Derived.Test.YthnbaeamekolmaaGreatDoorPkS
import Derived.Test.YthnbaeamekolmaaGreatDoorPkG
import Derived.Test.YthnbaeamekolmaaGreatDoorPkB
import Derived.Lib.LaidTab
import Derived.LaidMore
import Derived.OpenShut
import Derived.FnData
namespace Go.Proofs.YthnbaeamekolmaaGreatDoor
open Go.RowKit
set_option linter.unusedVariables false
set_option linter.unusedSimpArgs false

/-- What the listed variables hold, where a primitive reads them. -/
def Tb5 (w : World) : Prop := FlagsAt w ∧ Tabs w

theorem tabs5_below {w w' : World} (h : Tabs w) (hb : Below w.heap.size w w') : Tabs w' :=
  ⟨tz_below h.1 hb, var?_below hb (show Tryz.prog.globalNamed "internal/strconv.uint64pow10" = some 4 by kernel_rfl) (by
    have h2 := h.2
    unfold Lib.TabIs at h2
    have := World.var?_cell (show Tryz.prog.globalNamed "internal/strconv.uint64pow10" = some 4 by kernel_rfl) h2 0
    exact lt_cell (x := ⟨4, 0, none⟩) (this.trans (by rfl))) h.2⟩

theorem tb_stable : Stable Tb5 := fun w w' h hb => ⟨flagsAt_below h.1 hb, tabs5_below h.2 hb⟩

theorem table_any (w : World) : Calls Tryz.prog 58 #[] w fun e w' => ∃ v, e = .returned v ∧ TabOf (EffOf Tb5) w' v ∧ Below w.heap.size w w' :=
  primTable_any _ (makers Tb5 tb_stable (fun _ h => h.1) (fun _ h => h.2)) w

set_option maxHeartbeats 400000 in
theorem isPrim_any (A : Option Addr) (c : Nat) (p : Int) (w : World) :
    Calls Tryz.prog 59 #[.slice A 52 c, .int .i64 p] w fun e w' => e = .returned (.bool (inB p 1 52)) ∧ w = w' := by
  by_cases h : 1 ≤ p
  · by_cases h' : p ≤ 52
    · have e : inB p 1 52 = true := inB_of h h'
      rw [e]
      go_enter Tryz.func59, Tryz.ntmps59
      go_wp2
      go_ret
      exact ⟨rfl, rfl⟩
    · have e : inB p 1 52 = false := by unfold inB; simp [h']
      rw [e]
      go_enter Tryz.func59, Tryz.ntmps59
      go_wp2
      go_ret
      exact ⟨rfl, rfl⟩
  · have e : inB p 1 52 = false := by unfold inB; simp [h]
    rw [e]
    go_enter Tryz.func59, Tryz.ntmps59
    go_wp2
    go_ret
    exact ⟨rfl, rfl⟩

set_option maxRecDepth 100000 in
set_option maxHeartbeats 2000000 in
theorem iTakes_bad (p : Int) (w : World) (hp : inB p 1 52 = false) :
    Calls Tryz.prog 20 #[.int .i64 p] w (NumsOf w [0, 9]) := by
  go_enter Tryz.func20, Tryz.ntmps20
  go_wp2_with fail
  refine (table_any _).mono ?_
  rintro e w1 ⟨v, rfl, ⟨g, rfl, HP⟩, hb⟩
  clear HP
  go_wp2_with (go_at_call 59; refine (isPrim_any _ _ _ _).mono ?_; rintro e w' ⟨rfl, rfl⟩)
  exact bodyPost_ret (v := .tuple #[.int .i64 0, .int .i64 9]) (by simp [results, Tryz.results20, go_sem]) rfl ⟨rfl, hb⟩

set_option maxRecDepth 100000 in
set_option maxHeartbeats 2000000 in
theorem iTakes_ok (p : Int) (w : World) (hp : inB p 1 52 = true) :
    Calls Tryz.prog 20 #[.int .i64 p] w (NumsOf w [(takesP p.toNat : Int), 0]) := by
  go_enter Tryz.func20, Tryz.ntmps20
  go_wp2_with fail
  refine (table_any _).mono ?_
  rintro e w1 ⟨v, rfl, ⟨g, rfl, HP⟩, hb⟩
  obtain ⟨p1, p2⟩ := of_inB hp
  obtain ⟨fv, ⟨a0, a1, a2, a3⟩, _⟩ := HP p.toNat (by omega) (by omega)
  obtain ⟨i, hi⟩ : ∃ i, p.toNat - 1 = i := ⟨_, rfl⟩
  rw [hi] at a0
  have n1 : IntKind.i64.wrap (p - 1) = (i : Int) := by rw [IntWalk.i64_in _ (by omega)]; omega
  have n2 : (i : Int) < 52 := by omega
  clear HP a1 a2 a3
  generalize takesP p.toNat = t at *
  go_wp2_with (go_at_call 59; refine (isPrim_any _ _ _ _).mono ?_; rintro e w' ⟨rfl, rfl⟩)
  exact bodyPost_ret (v := .tuple #[.int .i64 t, .int .i64 0]) (by simp [results, Tryz.results20, go_sem]) rfl ⟨rfl, hb⟩

/-- TakesOf: the number, the code. -/
def dTakes (p : Int) : Int × Int := if inB p 1 52 = true then ((takesP p.toNat : Int), 0) else (0, 9)

theorem iTakes_any (p : Int) (w : World) :
    Calls Tryz.prog 20 #[.int .i64 p] w (NumsOf w [(dTakes p).1, (dTakes p).2]) := by
  unfold dTakes
  cases hp : inB p 1 52
  · exact iTakes_bad p w hp
  · exact iTakes_ok p w hp

set_option maxRecDepth 100000 in
set_option maxHeartbeats 2000000 in
theorem iAp_bad (v : Value) (d : Dt) (p f : Int) (w : World) (hv : DatIn w v d) (hk : dOK d = false) :
    Calls Tryz.prog 18 #[v, .int .i64 p, .int .i64 f] w (ResOf w noDt [0, 1]) := by
  have HD := hv
  obtain ⟨A1, k1, A2, k2, A3, k3, rfl⟩ := datIn_form hv
  clear hv
  go_enter Tryz.func18, Tryz.ntmps18
  go_wp2_with fail
  refine (dataOK_any _ d _ (datIn_below HD (below_alloc (below_alloc (Below.refl _ _) _) _))).mono ?_
  rintro e w1 ⟨rfl, hb⟩
  have B1 : Below w.heap.size w w1 := below_step (below_alloc (below_alloc (Below.refl _ _) _) _) hb
  have V1 := whole_b hb (whole_alloc (whole_new w _ _) _)
  have T1 := whole_b hb (whole_new1 w _ _ _)
  clear hb
  obtain ⟨c0, c1, c2, c3, c4, c5⟩ := six_cells V1
  obtain ⟨r0, r1, r2, r3, r4, r5⟩ := six_cells T1
  have fr := whole_free T1
  go_wp2
  refine bodyPost_ret (v := .tuple #[.agg #[.slice none 0 0, .slice none 0 0, .slice none 0 0, .int .i64 0, .int .i64 0, .string ByteArray.empty], .int .i64 0, .int .i64 1]) (by simp [results, Tryz.results18, go_sem, *]; try rfl) rfl ⟨_, rfl, datOf_none _ _ _, ?_⟩
  repeat (first | with_reducible exact B1 | with_reducible refine Below.setCell ?_ (by simp) _)

set_option maxRecDepth 100000 in
set_option maxHeartbeats 2000000 in
theorem iAp_kind (v : Value) (d : Dt) (p f : Int) (w : World) (hv : DatIn w v d) (hk : dOK d = true) (hp : inB p 1 52 = false) :
    Calls Tryz.prog 18 #[v, .int .i64 p, .int .i64 f] w (ResOf w noDt [0, 9]) := by
  have HD := hv
  obtain ⟨A1, k1, A2, k2, A3, k3, rfl⟩ := datIn_form hv
  clear hv
  go_enter Tryz.func18, Tryz.ntmps18
  go_wp2_with fail
  refine (dataOK_any _ d _ (datIn_below HD (below_alloc (below_alloc (Below.refl _ _) _) _))).mono ?_
  rintro e w1 ⟨rfl, hb⟩
  have B1 : Below w.heap.size w w1 := below_step (below_alloc (below_alloc (Below.refl _ _) _) _) hb
  have V1 := whole_b hb (whole_alloc (whole_new w _ _) _)
  have T1 := whole_b hb (whole_new1 w _ _ _)
  clear hb
  go_wp2_with fail
  refine (table_any _).mono ?_
  rintro e w2 ⟨v, rfl, ⟨tg, rfl, HP⟩, hb⟩
  have B2 := below_step B1 hb
  have V2 := whole_b hb V1
  have T2 := whole_b hb T1
  clear hb V1 T1 B1
  clear HP
  obtain ⟨c0, c1, c2, c3, c4, c5⟩ := six_cells V2
  obtain ⟨r0, r1, r2, r3, r4, r5⟩ := six_cells T2
  have fr := whole_free T2
  go_wp2_with (go_at_call 59; refine (isPrim_any _ _ _ _).mono ?_; rintro e w' ⟨rfl, rfl⟩)
  refine bodyPost_ret (v := .tuple #[.agg #[.slice none 0 0, .slice none 0 0, .slice none 0 0, .int .i64 0, .int .i64 0, .string ByteArray.empty], .int .i64 0, .int .i64 9]) (by simp [results, Tryz.results18, go_sem, *]; try rfl) rfl ⟨_, rfl, datOf_none _ _ _, ?_⟩
  repeat (first | with_reducible exact B2 | with_reducible refine Below.setCell ?_ (by simp) _)

set_option maxRecDepth 100000 in
set_option maxHeartbeats 2000000 in
theorem iAp_range_low (v : Value) (d : Dt) (p f : Int) (w : World) (hv : DatIn w v d) (hk : dOK d = true) (hp : inB p 1 52 = true) (f1 : f < 0) :
    Calls Tryz.prog 18 #[v, .int .i64 p, .int .i64 f] w (ResOf w noDt [0, 4]) := by
  have HD := hv
  obtain ⟨A1, k1, A2, k2, A3, k3, rfl⟩ := datIn_form hv
  clear hv
  go_enter Tryz.func18, Tryz.ntmps18
  go_wp2_with fail
  refine (dataOK_any _ d _ (datIn_below HD (below_alloc (below_alloc (Below.refl _ _) _) _))).mono ?_
  rintro e w1 ⟨rfl, hb⟩
  have B1 : Below w.heap.size w w1 := below_step (below_alloc (below_alloc (Below.refl _ _) _) _) hb
  have V1 := whole_b hb (whole_alloc (whole_new w _ _) _)
  have T1 := whole_b hb (whole_new1 w _ _ _)
  clear hb
  go_wp2_with fail
  refine (table_any _).mono ?_
  rintro e w2 ⟨v, rfl, ⟨tg, rfl, HP⟩, hb⟩
  have B2 := below_step B1 hb
  have V2 := whole_b hb V1
  have T2 := whole_b hb T1
  clear hb V1 T1 B1
  clear HP
  obtain ⟨c0, c1, c2, c3, c4, c5⟩ := six_cells V2
  obtain ⟨r0, r1, r2, r3, r4, r5⟩ := six_cells T2
  have fr := whole_free T2
  go_wp2_with (go_at_call 59; refine (isPrim_any _ _ _ _).mono ?_; rintro e w' ⟨rfl, rfl⟩)
  refine bodyPost_ret (v := .tuple #[.agg #[.slice none 0 0, .slice none 0 0, .slice none 0 0, .int .i64 0, .int .i64 0, .string ByteArray.empty], .int .i64 0, .int .i64 4]) (by simp [results, Tryz.results18, go_sem, *]; try rfl) rfl ⟨_, rfl, datOf_none _ _ _, ?_⟩
  repeat (first | with_reducible exact B2 | with_reducible refine Below.setCell ?_ (by simp) _)

set_option maxRecDepth 100000 in
set_option maxHeartbeats 2000000 in
theorem iAp_range_high (v : Value) (d : Dt) (p f : Int) (w : World) (hv : DatIn w v d) (hk : dOK d = true) (hp : inB p 1 52 = true) (f1 : ¬ f < 0) (f2 : (d.b.length : Int) < f) :
    Calls Tryz.prog 18 #[v, .int .i64 p, .int .i64 f] w (ResOf w noDt [0, 4]) := by
  have HD := hv
  obtain ⟨A1, k1, A2, k2, A3, k3, rfl⟩ := datIn_form hv
  clear hv
  go_enter Tryz.func18, Tryz.ntmps18
  go_wp2_with fail
  refine (dataOK_any _ d _ (datIn_below HD (below_alloc (below_alloc (Below.refl _ _) _) _))).mono ?_
  rintro e w1 ⟨rfl, hb⟩
  have B1 : Below w.heap.size w w1 := below_step (below_alloc (below_alloc (Below.refl _ _) _) _) hb
  have V1 := whole_b hb (whole_alloc (whole_new w _ _) _)
  have T1 := whole_b hb (whole_new1 w _ _ _)
  clear hb
  go_wp2_with fail
  refine (table_any _).mono ?_
  rintro e w2 ⟨v, rfl, ⟨tg, rfl, HP⟩, hb⟩
  have B2 := below_step B1 hb
  have V2 := whole_b hb V1
  have T2 := whole_b hb T1
  clear hb V1 T1 B1
  clear HP
  obtain ⟨c0, c1, c2, c3, c4, c5⟩ := six_cells V2
  obtain ⟨r0, r1, r2, r3, r4, r5⟩ := six_cells T2
  have fr := whole_free T2
  go_wp2_with (go_at_call 59; refine (isPrim_any _ _ _ _).mono ?_; rintro e w' ⟨rfl, rfl⟩)
  refine bodyPost_ret (v := .tuple #[.agg #[.slice none 0 0, .slice none 0 0, .slice none 0 0, .int .i64 0, .int .i64 0, .string ByteArray.empty], .int .i64 0, .int .i64 4]) (by simp [results, Tryz.results18, go_sem, *]; try rfl) rfl ⟨_, rfl, datOf_none _ _ _, ?_⟩
  repeat (first | with_reducible exact B2 | with_reducible refine Below.setCell ?_ (by simp) _)

set_option maxRecDepth 100000 in
set_option maxHeartbeats 4000000 in
theorem iAp_main (v : Value) (d : Dt) (p f : Int) (w : World) (hv : DatIn w v d) (hT : Tb5 w) (hk : dOK d = true) (hp : inB p 1 52 = true) (f0 : 0 ≤ f) (f1 : f ≤ d.b.length) :
    Calls Tryz.prog 18 #[v, .int .i64 p, .int .i64 f] w (ResOf w (dPrim d p.toNat f).1 [(dPrim d p.toNat f).2, 0]) := by
  have hd := dOK_fine hk
  have hs := fine_small hd
  have HD := hv
  obtain ⟨A1, k1, A2, k2, A3, k3, rfl⟩ := datIn_form hv
  clear hv
  go_enter Tryz.func18, Tryz.ntmps18
  go_wp2_with fail
  refine (dataOK_any _ d _ (datIn_below HD (below_alloc (below_alloc (Below.refl _ _) _) _))).mono ?_
  rintro e w1 ⟨rfl, hb⟩
  have B1 : Below w.heap.size w w1 := below_step (below_alloc (below_alloc (Below.refl _ _) _) _) hb
  have V1 := whole_b hb (whole_alloc (whole_new w _ _) _)
  have T1 := whole_b hb (whole_new1 w _ _ _)
  clear hb
  go_wp2_with fail
  refine (table_any _).mono ?_
  rintro e w2 ⟨v, rfl, ⟨tg, rfl, HP⟩, hb⟩
  have B2 := below_step B1 hb
  have V2 := whole_b hb V1
  have T2 := whole_b hb T1
  clear hb V1 T1 B1
  obtain ⟨p1, p2⟩ := of_inB hp
  obtain ⟨fv, ⟨a0, a1, a2, a3⟩, hE⟩ := HP p.toNat (by omega) (by omega)
  obtain ⟨i, hi⟩ : ∃ i, p.toNat - 1 = i := ⟨_, rfl⟩
  rw [hi] at a0 a1 a2 a3
  have n1 : IntKind.i64.wrap (p - 1) = (i : Int) := by rw [IntWalk.i64_in _ (by omega)]; omega
  have n2 : (i : Int) < 52 := by omega
  have g1 : ¬ f < 0 := by omega
  have g2 : ¬ (d.b.length : Int) < f := by omega
  have zt := World.block_lt_of_cell? w2 _ a0
  have AP : Hid (∀ W lo g, Below w2.heap.size w2 W → BoxIs W lo g d → Calls Tryz.prog 61 #[.pointer (some ⟨g, 0, none⟩), .agg #[.int .i64 (takesP p.toNat), .int .i64 (needsP p.toNat), .int .i64 (dropsP p.toNat), fv], .int .i64 f] W (AppR W lo g (dPrim d p.toNat f))) :=
    Lib.hid fun W lo g hW hb => apply_any Tb5 tb_stable W lo g p.toNat d fv f (effOf_below hE hW) hb hd (tb_stable _ _ hT (below_step B2 hW)) (by omega) (by omega) f0 f1
  clear HP hE hi
  generalize takesP p.toNat = tk at *
  generalize needsP p.toNat = tn at *
  generalize dropsP p.toNat = td at *
  generalize dPrim d p.toNat f = r at *
  obtain ⟨r, t0⟩ := r
  obtain ⟨c0, c1, c2, c3, c4, c5⟩ := six_cells V2
  obtain ⟨r0, r1, r2, r3, r4, r5⟩ := six_cells T2
  have fr := whole_free T2
  go_wp2_with (first | (go_at_call 59; refine (isPrim_any _ _ _ _).mono ?_; rintro e w' ⟨rfl, rfl⟩) | (go_at_call 60; fail))
  have hl2 := whole_lt T2
  refine (ownData_any _ d _ (datIn_below HD B2) hs).mono ?_
  rintro e w3 ⟨u, rfl, hu, hb⟩
  obtain ⟨C1, j1, C2, j2, C3, j3, rfl⟩ := datIn_form (datOf_in hu)
  have B3 := below_step B2 hb
  have T3 := whole_b hb T2
  have hsz := hb.size
  have D3 := Lib.hid hb
  have q0 := a0
  have q1 := a1
  have q2 := a2
  have q3 := a3
  rw [← hb.cell zt] at q0
  rw [← hb.cell (World.block_lt_of_cell? w2 _ a1)] at q1
  rw [← hb.cell (World.block_lt_of_cell? w2 _ a2)] at q2
  rw [← hb.cell (World.block_lt_of_cell? w2 _ a3)] at q3
  have zt3 : tg < w3.heap.size := by have : tg < w2.heap.size := zt; omega
  clear hb c0 c1 c2 c3 c4 c5 r0 r1 r2 r3 r4 r5 fr V2 T2 a0 a1 a2 a3 zt
  go_wp2_with fail
  refine (AP.out _ w2.heap.size w3.heap.size (below_alloc D3.out _) (box_new hu hsz)).mono ?_
  rintro e w4 ⟨rfl, hbx, hb⟩
  dsimp only at hbx ⊢
  have B4 : Below w.heap.size w w4 := (below_alloc B3 _).trans (hb.mono B2.size)
  have T4 := whole_keep (whole_alloc T3 _) (hb.block _ hl2)
  obtain ⟨E1, i1, E2, i2, E3, i3, X4, hd4⟩ := box_data hbx
  clear hb hbx hu T3 q0 q1 q2 q3
  obtain ⟨c0, c1, c2, c3, c4, c5⟩ := six_cells X4
  obtain ⟨r0, r1, r2, r3, r4, r5⟩ := six_cells T4
  have fr := whole_free T4
  go_wp2
  refine bodyPost_ret (v := .tuple #[.agg #[.slice E1 r.s.length i1, .slice E2 r.b.length i2, .slice E3 r.c.length i3, .int .i64 r.h, .int .i64 r.n, .string r.o], .int .i64 t0, .int .i64 0]) (by simp [results, Tryz.results18, go_sem, *]) rfl ⟨_, rfl, ?_, ?_⟩
  · refine datOf_top (datOf_base (datOf_keep hd4 (fun g h1 h2 h3 => ?_)) (by omega)) (by simp)
    iterate 6 rw [Below.heap_setCell _ _ _ _ (by show g ≠ w.heap.size + 1; omega)]
  · repeat (first | with_reducible exact B4 | with_reducible refine Below.setCell ?_ (by simp) _)

theorem iAp_any (v : Value) (d : Dt) (p f : Int) (w : World) (hv : DatIn w v d) (hT : Tb5 w) :
    Calls Tryz.prog 18 #[v, .int .i64 p, .int .i64 f] w (ResOf w (dApply d p f).1 [(dApply d p f).2.1, (dApply d p f).2.2]) := by
  cases hk : dOK d
  · have e : dApply d p f = (noDt, 0, 1) := by unfold dApply; rw [if_pos hk]
    rw [e]; exact iAp_bad v d p f w hv hk
  cases hp : inB p 1 52
  · have e : dApply d p f = (noDt, 0, 9) := by unfold dApply; rw [if_neg (by rw [hk]; decide), if_pos hp]
    rw [e]; exact iAp_kind v d p f w hv hk hp
  cases hf : inB f 0 d.b.length
  · have e : dApply d p f = (noDt, 0, 4) := by unfold dApply; rw [if_neg (by rw [hk]; decide), if_neg (by rw [hp]; decide), if_pos hf]
    rw [e]
    by_cases f0 : f < 0
    · exact iAp_range_low v d p f w hv hk hp f0
    · have := of_inB_false hf
      exact iAp_range_high v d p f w hv hk hp f0 (by omega)
  · have e : dApply d p f = ((dPrim d p.toNat f).1, (dPrim d p.toNat f).2, 0) := by unfold dApply; rw [if_neg (by rw [hk]; decide), if_neg (by rw [hp]; decide), if_neg (by rw [hf]; decide)]
    have h2 := of_inB hf
    rw [e]
    exact iAp_main v d p f w hv hT hk hp h2.1 h2.2

end Go.Proofs.YthnbaeamekolmaaGreatDoor

namespace Go.Proofs.YthnbaeamekolmaaGreatDoor
open Go.RowKit
set_option linter.unusedVariables false
set_option linter.unusedSimpArgs false

/-- What a table of numbers gives: its cells. -/
theorem tabI_of_trod {H : Type} {enc : TypeId × Value → H} {P : Program} {w : World} {base : Nat} {spare : Nat → Bool} {held : Bool} {fuel n : Nat} {t e : TypeId} {cs : List Value} {L : List Int} {q : List MemPlace}
    (ha : P.underlying t = some (.array n e)) (he : P.underlying e = some (.int .i64)) (hc : P.cellsOf e = 1)
    (h : DataW.trod enc P w base spare held fuel t cs = some (.agg (L.map fun b => .lit (.int .i64 b)), q)) : ∀ k, k < n → cs[k]? = some (.int .i64 (L.getD k 0)) := by
  intro k hk
  obtain ⟨xs, m, rfl, hx, hlen, hn, hel⟩ := DataW.trod_array ha h
  have hk' := hel k hk
  rw [hc, Nat.mul_one] at hk'
  have hkx : k < xs.length := by omega
  rw [List.getElem?_eq_getElem hkx] at hk'
  obtain ⟨s, e1, e2, _⟩ := DataW.trod_int he hk'
  simp only [Prod.mk.injEq, DataW.agg.injEq] at hx
  have hmap := congrArg (fun l => l[k]?) hx.1
  simp only [List.getElem?_map] at hmap
  rw [List.getElem?_eq_getElem hkx, e2] at hmap
  cases hL : L[k]? with
  | none => rw [hL] at hmap; simp at hmap
  | some b =>
    rw [hL] at hmap
    simp at hmap
    have h1 := congrArg (fun l => l[0]?) e1
    simp at h1
    rw [h1, List.getD_eq_getElem?_getD, hL, hmap]
    rfl

/-- The same, of a table of tables. -/
theorem tabII_of_trod {H : Type} {enc : TypeId × Value → H} {P : Program} {w : World} {base : Nat} {spare : Nat → Bool} {held : Bool} {fuel n m : Nat} {t e i : TypeId} {cs : List Value} {LL : List (List Int)} {q : List MemPlace}
    (ha : P.underlying t = some (.array n e)) (hb : P.underlying e = some (.array m i)) (hi : P.underlying i = some (.int .i64)) (hce : P.cellsOf e = m) (hci : P.cellsOf i = 1)
    (h : DataW.trod enc P w base spare held fuel t cs = some (.agg (LL.map fun L => .agg (L.map fun b => .lit (.int .i64 b))), q)) : ∀ k j, k < n → j < m → cs[k * m + j]? = some (.int .i64 ((LL.getD k []).getD j 0)) := by
  intro k j hk hj
  obtain ⟨xs, f, rfl, hx, hlen, hn, hel⟩ := DataW.trod_array ha h
  have hk' := hel k hk
  rw [hce] at hk'
  have hkx : k < xs.length := by omega
  rw [List.getElem?_eq_getElem hkx] at hk'
  simp only [Prod.mk.injEq, DataW.agg.injEq] at hx
  have hmap := congrArg (fun l => l[k]?) hx.1
  simp only [List.getElem?_map] at hmap
  rw [List.getElem?_eq_getElem hkx] at hmap
  cases hL : LL[k]? with
  | none => rw [hL] at hmap; simp at hmap
  | some L =>
    rw [hL] at hmap
    simp at hmap
    have hk2 : DataW.trod enc P w base spare held f e ((cs.drop (k * m)).take m) = some (.agg (L.map fun b => .lit (.int .i64 b)), (xs[k]).2) := by
      rw [hk', hmap]
    have h1 := tabI_of_trod hb hi hci hk2 j hj
    rw [List.getElem?_take, if_pos hj, List.getElem?_drop] at h1
    rw [h1, show LL.getD k [] = L by rw [List.getD_eq_getElem?_getD, hL]; rfl]

set_option maxRecDepth 100000 in
/-- An argument that is a slice of numbers, opened. -/
theorem open_ints5 {H : Type} {enc : TypeId × Value → H} {w : World} {base : Nat} {held : Bool} {r : Reach} {b0 : Nat} {v : Value} {d : DataW H} {p : List MemPlace} (hv : Value.okWide Tryz.prog w r b0 23 v) (h : DataW.Trod enc Tryz.prog w base (fun _ => true) held 23 v d p) :
    ∃ D : List Int, Ints w v D := by
  obtain ⟨A, n, c, rfl⟩ := WideShapes.okWide_slice Tryz.underlying23 hv
  obtain ⟨fuel, hf⟩ := h
  exact ints_of_trod hf

/-- The world's change first. -/
theorem row_b {w w' : World} {base : Nat} {v : Value} {zs : List Int} (hb : Below w.heap.size w w') (h : Row w base v zs) : Row w' base v zs := row_below h hb

/-- The flags, row by row. -/
def flagRows : List (List Int) := [[0, -1, 0], [-1, 0, -1], [-1, 0, 0], [0, 0, -1]]

theorem flags_of_head {W : World} {rest : List (String × DataW Unit)} (h : laidMet Tryz.prog (("loop.example/g00787/impl.flags", .agg (flagRows.map fun L => .agg (L.map fun b => .lit (.int .i64 b)))) :: rest) W) : FlagsAt W := by
  obtain ⟨ps, ⟨g', t', cs, fuel, p, q, hg', ht', hvar, hd, _, _⟩, _⟩ := h
  obtain rfl := Option.some.inj ((show Tryz.prog.globalNamed "loop.example/g00787/impl.flags" = some 0 by kernel_rfl).symm.trans hg')
  obtain rfl := Option.some.inj ((show (Tryz.prog.globals[0]?).map (·.type) = some 217 by kernel_rfl).symm.trans ht')
  intro t j ht hj
  have hs := tabII_of_trod Tryz.underlying217 Tryz.underlying216 Tryz.underlying3 (by kernel_rfl) (by kernel_rfl) hd t j ht hj
  rw [World.var?_cell hg' hvar, ← Array.getElem?_toList, Nat.mul_comm, hs]
  have h4 : t = 0 ∨ t = 1 ∨ t = 2 ∨ t = 3 := by omega
  have h3 : j = 0 ∨ j = 1 ∨ j = 2 := by omega
  rcases h4 with rfl | rfl | rfl | rfl <;> rcases h3 with rfl | rfl | rfl <;> rfl

end Go.Proofs.YthnbaeamekolmaaGreatDoor
