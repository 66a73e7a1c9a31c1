/- PkS: several of my texts, laid together: SpcM, SpcN, SpcN1, SpcN2, SpcN3, SpcO. -/
import Derived.Test.YthnbaeamekolmaaGreatDoorPkN
import Derived.Test.YthnbaeamekolmaaGreatDoorPkO
import Derived.Test.YthnbaeamekolmaaGreatDoorPkQ
import Derived.Test.YthnbaeamekolmaaGreatDoorPkP
import Derived.Test.YthnbaeamekolmaaGreatDoorPkR
import Derived.Test.YthnbaeamekolmaaGreatDoorPkH
import Derived.Deep.RegionHeld3
namespace Go.Proofs.YthnbaeamekolmaaGreatDoor
open Go.RowKit
set_option linter.unusedVariables false
set_option linter.unusedSimpArgs false

theorem fin_put2 (d x : Dt) (k : Nat) (L : List Int) (hs : x.s = d.s) (h : d.s.length - k + L.length ≤ 32) : finE d k 0 (x, L, 0) = dPut x k L := by
  unfold finE dPut
  rw [hs, if_neg (by simp), if_neg (by simpa using h), if_neg (by omega)]
  simp

theorem prim_put {d : Dt} {p k : Nat} {f : Int} {L : List Int} (h : takesP p ≤ d.s.length) (hf : f ≤ d.b.length) (hk : takesP p = k) (hn : needsP p = 0) (hr : dropsP p = 0) (e : eff d p = (d, L, 0)) : dPrim d p f = dPut d k L := by
  rw [prim_run h (by rw [hn]; omega), e, hk, hr, fin_put]

theorem prim_put2 {d x : Dt} {p k : Nat} {f : Int} {L : List Int} (h : takesP p ≤ d.s.length) (hf : f ≤ d.b.length) (hk : takesP p = k) (hn : needsP p = 0) (hr : dropsP p = 0) (e : eff d p = (x, L, 0)) (hs : x.s = d.s) (h2 : d.s.length - k + L.length ≤ 32) : dPrim d p f = dPut x k L := by
  rw [prim_run h (by rw [hn]; omega), e, hk, hr, fin_put2 d x k L hs h2]

theorem prim_throw {d x : Dt} {p : Nat} {f t : Int} {L : List Int} (h : takesP p ≤ d.s.length) (hf : f ≤ d.b.length) (hn : needsP p = 0) (e : eff d p = (x, L, t)) (ht : t ≠ 0) : dPrim d p f = (d, t) := by
  rw [prim_run h (by rw [hn]; omega), e, fin_throw d x _ _ L t ht]

theorem put_none (x : Dt) (h : x.s.length ≤ 32) : dPut x 0 [] = (x, 0) := by
  unfold dPut
  rw [if_neg (by simpa using h)]
  simp

theorem put_zero {d : Dt} (h : 1 ≤ d.s.length) (hs : d.s.length ≤ 32) (hc : tp d 0 = 0) : dPut d 1 [0] = (d, 0) := by
  have e := tk_at (d := d) (k := 1) (by omega) h
  have e2 : tkOf d 1 = [0] := by show [tp d 0] = [0]; rw [hc]
  rw [e2] at e
  unfold dPut
  rw [if_neg (by simp; omega), ← e, List.take_append_drop]

theorem sMoves_any (v : Value) (d : Dt) (p : Nat) (f : Int) (w : World) (hv : DatC w v d) (hd : DtFine d) (h1 : 1 ≤ p) (h2 : p ≤ 11) (hk : takesP p ≤ d.s.length) (hf : f ≤ d.b.length) :
    Calls Tryz.prog 135 #[v, .int .i64 p, .int .i64 (tp d 2), .int .i64 (tp d 1), .int .i64 (tp d 0)] w (ReadC w v d (dPrim d p f)) := by
  have h : p = 1 ∨ p = 2 ∨ p = 3 ∨ p = 4 ∨ p = 5 ∨ p = 6 ∨ p = 7 ∨ p = 8 ∨ p = 9 ∨ p = 10 ∨ p = 11 := by omega
  have hs := fine_sl hd
  rcases h with rfl | rfl | rfl | rfl | rfl | rfl | rfl | rfl | rfl | rfl | rfl
  · rw [prim_put (k := 1) (L := [tp d 0, tp d 0]) hk hf rfl rfl rfl rfl]; exact sMoves_1 v d _ _ _ w hv hd hk
  · rw [prim_put (k := 1) (L := []) hk hf rfl rfl rfl rfl]; exact sMoves_2 v d _ _ _ w hv hd hk
  · rw [prim_put (k := 2) (L := [tp d 0, tp d 1]) hk hf rfl rfl rfl rfl]; exact sMoves_3 v d _ _ _ w hv hd hk
  · rw [prim_put (k := 2) (L := [tp d 1, tp d 0, tp d 1]) hk hf rfl rfl rfl rfl]; exact sMoves_4 v d _ _ _ w hv hd hk
  · rw [prim_put (k := 3) (L := [tp d 1, tp d 0, tp d 2]) hk hf rfl rfl rfl rfl]; exact sMoves_5 v d _ _ _ w hv hd hk
  · rw [prim_put (k := 2) (L := [tp d 0]) hk hf rfl rfl rfl rfl]; exact sMoves_6 v d _ _ _ w hv hd hk
  · rw [prim_put (k := 2) (L := [tp d 0, tp d 1, tp d 0]) hk hf rfl rfl rfl rfl]; exact sMoves_7 v d _ _ _ w hv hd hk
  · by_cases hc : tp d 0 = 0
    · have e : dPrim d 8 f = (d, 0) := by
        rw [prim_put (k := 1) (L := [0]) hk hf rfl rfl rfl (by show (d, (if tp d 0 = 0 then [0] else [tp d 0, tp d 0]), (0 : Int)) = _; rw [if_pos hc])]
        exact put_zero hk hs hc
      rw [e, hc]; exact sMoves_80 v d _ _ w hv
    · rw [prim_put (k := 1) (L := [tp d 0, tp d 0]) hk hf rfl rfl rfl (by show (d, (if tp d 0 = 0 then [0] else [tp d 0, tp d 0]), (0 : Int)) = _; rw [if_neg hc])]
      exact sMoves_8 v d _ _ _ w hv hd hk hc
  · rw [prim_put (k := 2) (L := [tp d 1, tp d 0, tp d 1, tp d 0]) hk hf rfl rfl rfl rfl]; exact sMoves_9 v d _ _ _ w hv hd hk
  · rw [prim_put (k := 2) (L := []) hk hf rfl rfl rfl rfl]; exact sMoves_10 v d _ _ _ w hv hd hk
  · rw [prim_put (k := 0) (L := [(d.s.length : Int)]) hk hf rfl rfl rfl rfl]; exact sMoves_11 v d _ _ _ w hv hd

theorem sSums_any (v : Value) (d : Dt) (p : Nat) (f : Int) (w : World) (hv : DatC w v d) (hd : DtFine d) (h1 : 15 ≤ p) (h2 : p ≤ 38) (hk : takesP p ≤ d.s.length) (hf : f ≤ d.b.length) :
    Calls Tryz.prog 137 #[v, .int .i64 p, .int .i64 (tp d 1), .int .i64 (tp d 0)] w (ReadC w v d (dPrim d p f)) := by
  obtain ⟨b1, b2⟩ := tp_cell hd 1
  obtain ⟨c1, c2⟩ := tp_cell hd 0
  by_cases h24 : p ≤ 24
  · have ht := takes_op p h1 h24
    have hn : needsP p = 0 := by unfold needsP; rw [if_neg (by omega), if_neg (by omega)]
    have hr : dropsP p = 0 := by unfold dropsP; rw [if_neg (by omega), if_neg (by omega)]
    have e := eff_op d p h1 h24
    cases h : twoR ((p : Int) - 14) (tp d 0)
    · rw [prim_throw hk hf hn (L := []) (x := d) (t := -10) (by rw [e]; unfold opE; rw [h]; rfl) (by omega)]
      exact sSums_no v d _ _ _ w hv (by omega) (by omega) b1 b2 c1 c2 h
    · rw [prim_put hk hf ht hn hr (L := [twoW ((p : Int) - 14) (tp d 1) (tp d 0)]) (by rw [e]; unfold opE; rw [h]; rfl)]
      exact sSums_op v d _ _ _ w hv hd (by omega) (by omega) (by omega) b1 b2 c1 c2 h
  · have h : p = 25 ∨ p = 26 ∨ p = 27 ∨ p = 28 ∨ p = 29 ∨ p = 30 ∨ p = 31 ∨ p = 32 ∨ p = 33 ∨ p = 34 ∨ p = 35 ∨ p = 36 ∨ p = 37 ∨ p = 38 := by omega
    rcases h with rfl | rfl | rfl | rfl | rfl | rfl | rfl | rfl | rfl | rfl | rfl | rfl | rfl | rfl
    · rw [prim_put (k := 1) (L := [wrap32 (-(tp d 0))]) hk hf rfl rfl rfl rfl]; exact sSums_25 v d _ _ w hv hd hk c1 c2
    · by_cases hm : tp d 0 < -(tp d 0)
      · rw [prim_put (k := 1) (L := [wrap32 (-(tp d 0))]) hk hf rfl rfl rfl (by show (d, [wrap32 (max (tp d 0) (-(tp d 0)))], (0 : Int)) = _; rw [Int.max_eq_right (by omega)])]
        exact sSums_26a v d _ _ w hv hd hk c1 c2 hm
      · rw [prim_put (k := 1) (L := [wrap32 (tp d 0)]) hk hf rfl rfl rfl (by show (d, [wrap32 (max (tp d 0) (-(tp d 0)))], (0 : Int)) = _; rw [Int.max_eq_left (by omega)])]
        exact sSums_26b v d _ _ w hv hd hk c1 c2 (by omega)
    · rw [prim_put (k := 1) (L := [-(tp d 0) - 1]) hk hf rfl rfl rfl rfl]; exact sSums_27 v d _ _ w hv hd hk c1 c2
    · rw [prim_put (k := 1) (L := [wrap32 (tp d 0 + 1)]) hk hf rfl rfl rfl rfl]; exact sSums_28 v d _ _ w hv hd hk c1 c2
    · rw [prim_put (k := 1) (L := [wrap32 (tp d 0 - 1)]) hk hf rfl rfl rfl rfl]; exact sSums_29 v d _ _ w hv hd hk c1 c2
    · by_cases hm : tp d 1 ≤ tp d 0
      · rw [prim_put (k := 2) (L := [tp d 1]) hk hf rfl rfl rfl (by show (d, [min (tp d 1) (tp d 0)], (0 : Int)) = _; rw [Int.min_eq_left hm])]
        exact sSums_30a v d _ _ w hv hd hk c1 c2 hm
      · rw [prim_put (k := 2) (L := [tp d 0]) hk hf rfl rfl rfl (by show (d, [min (tp d 1) (tp d 0)], (0 : Int)) = _; rw [Int.min_eq_right (by omega)])]
        exact sSums_30b v d _ _ w hv hd hk c1 c2 (by omega)
    · by_cases hm : tp d 0 ≤ tp d 1
      · rw [prim_put (k := 2) (L := [tp d 1]) hk hf rfl rfl rfl (by show (d, [max (tp d 1) (tp d 0)], (0 : Int)) = _; rw [Int.max_eq_left hm])]
        exact sSums_31a v d _ _ w hv hd hk c1 c2 hm
      · rw [prim_put (k := 2) (L := [tp d 0]) hk hf rfl rfl rfl (by show (d, [max (tp d 1) (tp d 0)], (0 : Int)) = _; rw [Int.max_eq_right (by omega)])]
        exact sSums_31b v d _ _ w hv hd hk c1 c2 (by omega)
    · rw [prim_put (k := 2) (L := [flagI (tp d 1 == tp d 0)]) hk hf rfl rfl rfl rfl]; exact sSums_cmp v d _ _ _ 0 _ w rfl (by omega) (fun _ => rfl) hv hd hk b1 b2 c1 c2
    · rw [prim_put (k := 2) (L := [flagI (tp d 1 != tp d 0)]) hk hf rfl rfl rfl rfl]; exact sSums_cmp v d _ _ _ 1 _ w rfl (by omega) (fun _ => rfl) hv hd hk b1 b2 c1 c2
    · rw [prim_put (k := 2) (L := [flagI (decide (tp d 1 < tp d 0))]) hk hf rfl rfl rfl rfl]; exact sSums_cmp v d _ _ _ 2 _ w rfl (by omega) (fun _ => rfl) hv hd hk b1 b2 c1 c2
    · rw [prim_put (k := 2) (L := [flagI (decide (tp d 0 < tp d 1))]) hk hf rfl rfl rfl rfl]; exact sSums_cmp v d _ _ _ 3 _ w rfl (by omega) (fun _ => rfl) hv hd hk b1 b2 c1 c2
    · rw [prim_put (k := 2) (L := [flagI (decide (tp d 1 % 4294967296 < tp d 0 % 4294967296))]) hk hf rfl rfl rfl rfl]; exact sSums_cmp v d _ _ _ 4 _ w rfl (by omega) (fun _ => rfl) hv hd hk b1 b2 c1 c2
    · rw [prim_put (k := 1) (L := [flagI (tp d 0 == 0)]) hk hf rfl rfl rfl rfl]; exact sSums_37 v d _ _ w hv hd hk c1 c2
    · rw [prim_put (k := 1) (L := [flagI (decide (tp d 0 < 0))]) hk hf rfl rfl rfl rfl]; exact sSums_38 v d _ _ w hv hd hk c1 c2

theorem sBack_any (v : Value) (d : Dt) (p : Nat) (f : Int) (w : World) (hv : DatC w v d) (hd : DtFine d) (hp : p = 12 ∨ p = 13 ∨ p = 14 ∨ p = 51 ∨ p = 52) (hk : takesP p ≤ d.s.length) (f0 : 0 ≤ f) (hf : f ≤ d.b.length) :
    Calls Tryz.prog 136 #[v, .int .i64 p, .int .i64 f, .int .i64 (tp d 0)] w (ReadC w v d (dPrim d p f)) := by
  have hs := fine_sl hd
  have hbl := fine_bl hd
  rcases hp with rfl | rfl | rfl | rfl | rfl
  · by_cases hb : d.b.length < 32
    · rw [prim_put2 (x := { d with b := d.b ++ [tp d 0] }) (k := 1) (L := []) hk hf rfl rfl rfl (by show backE d (tp d 0) = _; unfold backE; rw [if_pos hb]) rfl (by simp; omega)]
      exact sBack_12b v d f _ w hv hd hb hk
    · rw [prim_throw (x := d) (t := -5) (L := []) hk hf rfl (by show backE d (tp d 0) = _; unfold backE; rw [if_neg hb]) (by omega)]
      exact sBack_12a v d f _ w hv (by omega)
  · by_cases hb : (d.b.length : Int) - f < 1
    · rw [prim_back (p := 13) (by show ¬ d.s.length < 0; omega) hb]; exact sBack_u v d _ f _ w hv (.inl rfl) hd f0 hf hb
    · have e : dPrim d 13 f = finE d 0 1 (d, [d.b.getLastD 0], 0) := prim_run (p := 13) hk (by show ((1 : Nat) : Int) ≤ _; omega)
      by_cases h32 : 32 ≤ d.s.length
      · have e2 : dPrim d 13 f = (d, -3) := by rw [e]; unfold finE; rw [if_neg (by simp), if_pos (by simp; omega)]
        rw [e2]; exact sBack_13a v d _ f _ w rfl hv hd f0 hf (by omega) h32
      · have e2 : dPrim d 13 f = ({ d with s := d.s ++ [d.b.getLastD 0], b := d.b.take (d.b.length - 1) }, 0) := by
          rw [e]; unfold finE; rw [if_neg (by simp), if_neg (by simp; omega)]; simp
        rw [e2]; exact sBack_13b v d _ f _ w rfl hv hd f0 hf (by omega) (by omega)
  · by_cases hb : (d.b.length : Int) - f < 1
    · rw [prim_back (p := 14) (by show ¬ d.s.length < 0; omega) hb]; exact sBack_u v d _ f _ w hv (.inr (.inl rfl)) hd f0 hf hb
    · have e : dPrim d 14 f = finE d 0 0 (d, [d.b.getLastD 0], 0) := prim_run (p := 14) hk (by show ((1 : Nat) : Int) ≤ _; omega)
      rw [e, fin_put]; exact sBack_14 v d _ f _ w (.inl rfl) hv hd f0 hf (by omega)
  · by_cases hb : (d.b.length : Int) - f < 1
    · rw [prim_back (p := 51) (by show ¬ d.s.length < 0; omega) hb]; exact sBack_u v d _ f _ w hv (.inr (.inr rfl)) hd f0 hf hb
    · have e : dPrim d 51 f = finE d 0 0 (d, [d.b.getLastD 0], 0) := prim_run (p := 51) hk (by show ((1 : Nat) : Int) ≤ _; omega)
      rw [e, fin_put]; exact sBack_14 v d _ f _ w (.inr rfl) hv hd f0 hf (by omega)
  · by_cases hb : (d.b.length : Int) - f < 2
    · rw [prim_back (p := 52) (by show ¬ d.s.length < 0; omega) hb]; exact sBack_52u v d f _ w hv hd f0 hf hb
    · have e : dPrim d 52 f = finE d 0 2 (d, [], 0) := prim_run (p := 52) hk (by show ((2 : Nat) : Int) ≤ _; omega)
      have e2 : dPrim d 52 f = ({ d with b := d.b.take (d.b.length - 2) }, 0) := by
        rw [e]; unfold finE; rw [if_neg (by simp), if_neg (by simp; omega)]; simp
      rw [e2]; exact sBack_52 v d f _ w hv hd f0 hf (by omega)

theorem sMem_any (v : Value) (d : Dt) (p : Nat) (f : Int) (w : World) (hv : DatC w v d) (hd : DtFine d) (h1 : 39 ≤ p) (h2 : p ≤ 44) (hk : takesP p ≤ d.s.length) (hf : f ≤ d.b.length) :
    Calls Tryz.prog 138 #[v, .int .i64 p, .int .i64 (tp d 1), .int .i64 (tp d 0)] w (ReadC w v d (dPrim d p f)) := by
  obtain ⟨b1, b2⟩ := tp_cell hd 1
  obtain ⟨c1, c2⟩ := tp_cell hd 0
  have hs := fine_sl hd
  have h : p = 39 ∨ p = 40 ∨ p = 41 ∨ p = 42 ∨ p = 43 ∨ p = 44 := by omega
  rcases h with rfl | rfl | rfl | rfl | rfl | rfl
  · cases hp : dPlace d (tp d 0) with
    | none =>
      rw [prim_throw (x := d) (t := -9) (L := [0]) hk hf rfl (by show fetchE d (tp d 0) = _; unfold fetchE; rw [hp]) (by omega)]
      exact sMem_39n v d _ _ w hv hd hp
    | some k =>
      rw [prim_put (k := 1) (L := [d.c.getD k 0]) hk hf rfl rfl rfl (by show fetchE d (tp d 0) = _; unfold fetchE; rw [hp])]
      exact sMem_39 v d _ _ k w hv hd hp hk
  · cases hp : dPlace d (tp d 0) with
    | none =>
      rw [prim_throw (x := d) (t := -9) (L := []) hk hf rfl (by show storeE d (tp d 1) (tp d 0) = _; unfold storeE; rw [hp]) (by omega)]
      exact sMem_40n v d _ _ w hv hd hp
    | some k =>
      rw [prim_put2 (x := { d with c := d.c.set k (tp d 1) }) (k := 2) (L := []) hk hf rfl rfl rfl (by show storeE d (tp d 1) (tp d 0) = _; unfold storeE; rw [hp]) rfl (by simp; omega)]
      exact sMem_40 v d _ _ k w hv hd hp hk b1 b2
  · cases hp : dPlace d (tp d 0) with
    | none =>
      rw [prim_throw (x := d) (t := -9) (L := []) hk hf rfl (by show addE d (tp d 1) (tp d 0) = _; unfold addE; rw [hp]) (by omega)]
      exact sMem_41n v d _ _ w hv hd hp
    | some k =>
      rw [prim_put2 (x := { d with c := d.c.set k (wrap32 (d.c.getD k 0 + tp d 1)) }) (k := 2) (L := []) hk hf rfl rfl rfl (by show addE d (tp d 1) (tp d 0) = _; unfold addE; rw [hp]) rfl (by simp; omega)]
      exact sMem_41 v d _ _ k w hv hd hp hk b1 b2
  · rw [prim_put (k := 0) (L := [4096 + 4 * d.h]) hk hf rfl rfl rfl rfl]; exact sMem_42 v d _ _ w hv hd
  · by_cases hg : goodMove d (tp d 0)
    · rw [prim_put2 (x := { d with c := zeroN d.c d.h.toNat ((tp d 0).tdiv 4).toNat, h := d.h + (tp d 0).tdiv 4 }) (k := 1) (L := []) hk hf rfl rfl rfl (by show allotE d (tp d 0) = _; unfold allotE; rw [if_pos hg]) rfl (by simp; omega)]
      exact sMem_43 v d _ _ w hv hd c1 c2 hg hk
    · rw [prim_throw (x := d) (t := -8) (L := []) hk hf rfl (by show allotE d (tp d 0) = _; unfold allotE; rw [if_neg hg]) (by omega)]
      exact sMem_43n v d _ _ w hv hd c1 c2 hg
  · by_cases hg : goodMove d 4
    · rw [prim_put2 (x := { d with c := (zeroN d.c d.h.toNat 1).set d.h.toNat (tp d 0), h := d.h + 1 }) (k := 1) (L := []) hk hf rfl rfl rfl (by show commaE d (tp d 0) = _; unfold commaE; rw [if_pos hg]) rfl (by simp; omega)]
      exact sMem_44 v d _ _ w hv hd hg hk
    · rw [prim_throw (x := d) (t := -8) (L := []) hk hf rfl (by show commaE d (tp d 0) = _; unfold commaE; rw [if_neg hg]) (by omega)]
      exact sMem_44n v d _ _ w hv hd c1 c2 hg

theorem sSays_any (v : Value) (d : Dt) (p : Nat) (f : Int) (w : World) (hv : DatC w v d) (hd : DtFine d) (h1 : 45 ≤ p) (h2 : p ≤ 50) (hk : takesP p ≤ d.s.length) (hf : f ≤ d.b.length) :
    Calls Tryz.prog 139 #[v, .int .i64 p, .int .i64 (tp d 0)] w (ReadC w v d (dPrim d p f)) := by
  obtain ⟨c1, c2⟩ := tp_cell hd 0
  have hs := fine_sl hd
  have h : p = 45 ∨ p = 46 ∨ p = 47 ∨ p = 48 ∨ p = 49 ∨ p = 50 := by omega
  rcases h with rfl | rfl | rfl | rfl | rfl | rfl
  · by_cases ho : 300 < d.o.size + (byteT (tp d 0)).size
    · rw [prim_throw (x := d) (t := -17) (L := []) hk hf rfl (by show sayE d (byteT (tp d 0)) = _; unfold sayE; rw [if_pos ho]) (by omega)]
      exact sSay_45n v d _ w hv hd ho c1 c2
    · rw [prim_put2 (x := { d with o := d.o ++ byteT (tp d 0) }) (k := 1) (L := []) hk hf rfl rfl rfl (by show sayE d (byteT (tp d 0)) = _; unfold sayE; rw [if_neg ho]) rfl (by simp; omega)]
      exact sSay_45 v d _ w hv hd hk (by omega) c1 c2
  · by_cases ho : 300 < d.o.size + (cellT d (tp d 0)).size
    · rw [prim_throw (x := d) (t := -17) (L := []) hk hf rfl (by show sayE d (cellT d (tp d 0)) = _; unfold sayE; rw [if_pos ho]) (by omega)]
      exact sSay_46n v d _ w hv hd ho c1 c2
    · rw [prim_put2 (x := { d with o := d.o ++ cellT d (tp d 0) }) (k := 1) (L := []) hk hf rfl rfl rfl (by show sayE d (cellT d (tp d 0)) = _; unfold sayE; rw [if_neg ho]) rfl (by simp; omega)]
      exact sSay_46 v d _ w hv hd hk (by omega) c1 c2
  · by_cases ho : 300 < d.o.size + (⟨#[10]⟩ : ByteArray).size
    · rw [prim_throw (x := d) (t := -17) (L := []) hk hf rfl (by show sayE d ⟨#[10]⟩ = _; unfold sayE; rw [if_pos ho]) (by omega)]
      exact sSay_47n v d _ w hv hd ho
    · rw [prim_put2 (x := { d with o := d.o ++ (⟨#[10]⟩ : ByteArray) }) (k := 0) (L := []) hk hf rfl rfl rfl (by show sayE d ⟨#[10]⟩ = _; unfold sayE; rw [if_neg ho]) rfl (by simp; omega)]
      exact sSay_47 v d _ w hv hd (by omega)
  · by_cases ho : 300 < d.o.size + (⟨#[32]⟩ : ByteArray).size
    · rw [prim_throw (x := d) (t := -17) (L := []) hk hf rfl (by show sayE d ⟨#[32]⟩ = _; unfold sayE; rw [if_pos ho]) (by omega)]
      exact sSay_48n v d _ w hv hd ho
    · rw [prim_put2 (x := { d with o := d.o ++ (⟨#[32]⟩ : ByteArray) }) (k := 0) (L := []) hk hf rfl rfl rfl (by show sayE d ⟨#[32]⟩ = _; unfold sayE; rw [if_neg ho]) rfl (by simp; omega)]
      exact sSay_48 v d _ w hv hd (by omega)
  · rw [prim_put2 (x := { d with n := 10 }) (k := 0) (L := []) hk hf rfl rfl rfl rfl rfl (by simp; omega), put_none { d with n := 10 } hs]
    exact sSay_49 v d _ w hv hd
  · rw [prim_put2 (x := { d with n := 16 }) (k := 0) (L := []) hk hf rfl rfl rfl rfl rfl (by simp; omega), put_none { d with n := 16 } hs]
    exact sSay_50 v d _ w hv hd

end Go.Proofs.YthnbaeamekolmaaGreatDoor

namespace Go.Proofs.YthnbaeamekolmaaGreatDoor
open Go.RowKit
set_option linter.unusedVariables false
set_option linter.unusedSimpArgs false

theorem takes_cell (w : World) (i : Nat) (h : i < 52) : (w.alloc (.cells #[.int .i64 1, .int .i64 1, .int .i64 2, .int .i64 2, .int .i64 3, .int .i64 2, .int .i64 2, .int .i64 1, .int .i64 2, .int .i64 2, .int .i64 0, .int .i64 1, .int .i64 0, .int .i64 0, .int .i64 2, .int .i64 2, .int .i64 2, .int .i64 2, .int .i64 2, .int .i64 2, .int .i64 2, .int .i64 2, .int .i64 2, .int .i64 2, .int .i64 1, .int .i64 1, .int .i64 1, .int .i64 1, .int .i64 1, .int .i64 2, .int .i64 2, .int .i64 2, .int .i64 2, .int .i64 2, .int .i64 2, .int .i64 2, .int .i64 1, .int .i64 1, .int .i64 1, .int .i64 2, .int .i64 2, .int .i64 0, .int .i64 1, .int .i64 1, .int .i64 1, .int .i64 1, .int .i64 0, .int .i64 0, .int .i64 0, .int .i64 0, .int .i64 0, .int .i64 0] 3)).cell? ⟨w.heap.size, i, none⟩ = some (.int .i64 (takesL.getD i 0 : Nat)) := by
  have e : (#[.int .i64 1, .int .i64 1, .int .i64 2, .int .i64 2, .int .i64 3, .int .i64 2, .int .i64 2, .int .i64 1, .int .i64 2, .int .i64 2, .int .i64 0, .int .i64 1, .int .i64 0, .int .i64 0, .int .i64 2, .int .i64 2, .int .i64 2, .int .i64 2, .int .i64 2, .int .i64 2, .int .i64 2, .int .i64 2, .int .i64 2, .int .i64 2, .int .i64 1, .int .i64 1, .int .i64 1, .int .i64 1, .int .i64 1, .int .i64 2, .int .i64 2, .int .i64 2, .int .i64 2, .int .i64 2, .int .i64 2, .int .i64 2, .int .i64 1, .int .i64 1, .int .i64 1, .int .i64 2, .int .i64 2, .int .i64 0, .int .i64 1, .int .i64 1, .int .i64 1, .int .i64 1, .int .i64 0, .int .i64 0, .int .i64 0, .int .i64 0, .int .i64 0, .int .i64 0] : Array Value) = (takesL.map fun n : Nat => Value.int .i64 n).toArray := rfl
  have hl : i < takesL.length := h
  have c := whole_cell (whole_new w 3 #[.int .i64 1, .int .i64 1, .int .i64 2, .int .i64 2, .int .i64 3, .int .i64 2, .int .i64 2, .int .i64 1, .int .i64 2, .int .i64 2, .int .i64 0, .int .i64 1, .int .i64 0, .int .i64 0, .int .i64 2, .int .i64 2, .int .i64 2, .int .i64 2, .int .i64 2, .int .i64 2, .int .i64 2, .int .i64 2, .int .i64 2, .int .i64 2, .int .i64 1, .int .i64 1, .int .i64 1, .int .i64 1, .int .i64 1, .int .i64 2, .int .i64 2, .int .i64 2, .int .i64 2, .int .i64 2, .int .i64 2, .int .i64 2, .int .i64 1, .int .i64 1, .int .i64 1, .int .i64 2, .int .i64 2, .int .i64 0, .int .i64 1, .int .i64 1, .int .i64 1, .int .i64 1, .int .i64 0, .int .i64 0, .int .i64 0, .int .i64 0, .int .i64 0, .int .i64 0]) i
  rw [c, e]
  simp only [List.getElem?_toArray, List.getElem?_map, List.getD_eq_getElem?_getD, List.getElem?_eq_getElem hl, Option.map_some, Option.getD_some]

set_option maxRecDepth 100000 in
set_option maxHeartbeats 2000000 in
theorem sTakes_any (p : Nat) (w : World) (h1 : 1 ≤ p) (h2 : p ≤ 52) :
    Calls Tryz.prog 134 #[.int .i64 p] w fun e w' => e = .returned (.int .i64 (takesP p)) ∧ Below w.heap.size w w' := by
  obtain ⟨i, hi⟩ : ∃ i, i = p - 1 := ⟨_, rfl⟩
  have n1 : IntKind.i64.wrap ((p : Int) - 1) = (i : Int) := by rw [IntWalk.i64_in _ (by omega)]; omega
  have n2 : (i : Int) < 52 := by omega
  have hc := takes_cell w i (by omega)
  have hp : takesP p = takesL.getD i 0 := by unfold takesP; rw [hi]
  rw [hp]
  generalize takesL.getD i 0 = t at *
  clear hp hi h1 h2
  go_enter Tryz.func134, Tryz.ntmps134
  go_wp2
  go_ret
  exact ⟨rfl, below_alloc (Below.refl _ _) _⟩

/-- The three cells that the top is copied to, behind k rounds. -/
def topV (d : Dt) (k : Nat) : Array Value := #[.int .i64 (if 2 < k then tp d 2 else 0), .int .i64 (if 1 < k then tp d 1 else 0), .int .i64 (if 0 < k then tp d 0 else 0)]

theorem topV_end (d : Dt) {k : Nat} (h : k = 3 ∨ k = d.s.length) : topV d k = #[.int .i64 (tp d 2), .int .i64 (tp d 1), .int .i64 (tp d 0)] := by
  have e : ∀ i, i < 3 → (if i < k then tp d i else 0) = tp d i := fun i h3 => by
    split
    · rfl
    · rename_i hi
      rcases h with rfl | rfl
      · omega
      · rw [tp_out (by omega)]
  unfold topV
  rw [e 2 (by omega), e 1 (by omega), e 0 (by omega)]

theorem topV_set (d : Dt) {k : Nat} (h : k < 3) : (topV d k).setIfInBounds (2 - k) (.int .i64 (tp d k)) = topV d (k + 1) := by
  have : k = 0 ∨ k = 1 ∨ k = 2 := by omega
  rcases this with rfl | rfl | rfl <;> rfl

theorem datC_first {w : World} {A1 A2 A3 : Option Addr} {k1 k2 k3 : Nat} {d : Dt} (h : DatC w (.agg #[.slice A1 d.s.length k1, .slice A2 d.b.length k2, .slice A3 d.c.length k3, .int .i64 d.h, .int .i64 d.n, .string d.o]) d) : Ints w (.slice A1 d.s.length k1) d.s := by
  obtain ⟨x0, y0, z0, hv, h1, _⟩ := h.1
  simp only [Value.agg.injEq, Array.mk.injEq, List.cons.injEq, and_true, true_and] at hv
  obtain ⟨rfl, rfl, rfl⟩ := hv
  exact h1

set_option maxRecDepth 100000 in
set_option maxHeartbeats 2000000 in
theorem sApply_under (v : Value) (d : Dt) (p : Nat) (f : Int) (w : World) (hv : DatC w v d) (hd : DtFine d) (h1 : 1 ≤ p) (h2 : p ≤ 52) (hk : d.s.length < takesP p) :
    Calls Tryz.prog 65 #[v, .int .i64 p, .int .i64 f] w (ReadC w v d (d, -4)) := by
  have HD := hv
  obtain ⟨A1, k1, A2, k2, A3, k3, rfl, _⟩ := datC_form hv
  have hs := fine_sl hd
  have t1 : (d.s.length : Int) < (takesP p : Int) := by omega
  have TK : Hid (∀ W, Calls Tryz.prog 134 #[.int .i64 p] W fun e w' => e = .returned (.int .i64 (takesP p)) ∧ Below W.heap.size W w') := Lib.hid fun W => sTakes_any p W h1 h2
  clear hv h1 h2 hk
  generalize takesP p = t at *
  go_enter Tryz.func65, Tryz.ntmps65
  go_wp2_with fail
  refine (TK.out _).mono ?_
  rintro e w1 ⟨rfl, hb⟩
  have B1 : Below w.heap.size w w1 := below_step (below_alloc (below_alloc (Below.refl _ _) _) _) hb
  have V1 := whole_b hb (whole_alloc (whole_new w _ _) _)
  have T1 := whole_b hb (whole_new1 w _ _ _)
  clear hb
  obtain ⟨c0, c1, c2, c3, c4, c5⟩ := six_cells V1
  obtain ⟨r0, r1, r2, r3, r4, r5⟩ := six_cells T1
  have fr := whole_free T1
  go_wp2
  refine bodyPost_ret (v := .tuple #[.agg #[.slice A1 d.s.length k1, .slice A2 d.b.length k2, .slice A3 d.c.length k3, .int .i64 d.h, .int .i64 d.n, .string d.o], .int .i64 (-4)]) (by simp [results, Tryz.results65, go_sem, *]) rfl ⟨_, rfl, below_six B1 (by omega) _ _ _ _ _ _, built_self _ _ _ _⟩

end Go.Proofs.YthnbaeamekolmaaGreatDoor

namespace Go.Proofs.YthnbaeamekolmaaGreatDoor
open Go.RowKit
set_option linter.unusedVariables false
set_option linter.unusedSimpArgs false

set_option maxRecDepth 100000 in
set_option maxHeartbeats 8000000 in
theorem sApply_moves (v : Value) (d : Dt) (p : Nat) (f : Int) (w : World) (r : Dt × Int) (hv : DatC w v d) (hd : DtFine d) (h1 : 1 ≤ p) (h2 : p ≤ 52) (hk : takesP p ≤ d.s.length) (cc : p ≤ 11)
    (M : Hid (∀ W u, DatC W u d → Calls Tryz.prog 135 #[u, .int .i64 p, .int .i64 (tp d 2), .int .i64 (tp d 1), .int .i64 (tp d 0)] W (ReadC W u d r))) :
    Calls Tryz.prog 65 #[v, .int .i64 p, .int .i64 f] w (ReadC w v d r) := by
  have HD := hv
  obtain ⟨A1, k1, A2, k2, A3, k3, rfl, _⟩ := datC_form hv
  have hs := fine_sl hd
  obtain ⟨r, t⟩ := r
  have t1 : ¬ (d.s.length : Int) < (takesP p : Int) := by omega
  have TK : Hid (∀ W, Calls Tryz.prog 134 #[.int .i64 p] W fun e w' => e = .returned (.int .i64 (takesP p)) ∧ Below W.heap.size W w') := Lib.hid fun W => sTakes_any p W h1 h2
  have HF := Lib.hid (datC_first hv)
  clear hv
  generalize takesP p = tk at *
  go_enter Tryz.func65, Tryz.ntmps65
  go_wp2_with fail
  refine (TK.out _).mono ?_
  rintro e w1 ⟨rfl, hb⟩
  have B1 : Below w.heap.size w w1 := below_step (below_alloc (below_alloc (Below.refl _ _) _) _) hb
  have V1 := whole_b hb (whole_alloc (whole_new w _ _) _)
  have T1 := whole_b hb (whole_new1 w _ _ _)
  clear hb TK
  go_wp2_with fail
  have zv := whole_lt V1
  have zt := whole_lt T1
  have VB : Hid (∀ W, Below w1.heap.size w1 W → Whole W w.heap.size 40 #[.slice A1 d.s.length k1, .slice A2 d.b.length k2, .slice A3 d.c.length k3, .int .i64 d.h, .int .i64 d.n, .string d.o] ∧ Whole W (w.heap.size + 1) 40 #[.slice none 0 0, .slice none 0 0, .slice none 0 0, .int .i64 0, .int .i64 0, .string ⟨#[]⟩] ∧ Below w.heap.size w W) := Lib.hid fun W h => ⟨whole_below V1 h, whole_below T1 h, below_step B1 h⟩
  clear V1 T1 B1
  go_loopw [10] (fun i wr => ∃ k : Nat, k ≤ 3 ∧ k ≤ d.s.length ∧ i = .int .i64 k ∧ Whole wr w1.heap.size 3 (topV d k) ∧ Below w1.heap.size w1 wr) (fun i _ => 3 - (intOf i).toNat)
  case atStart => exact ⟨0, by omega, Nat.zero_le _, rfl, whole_new w1 _ _, below_alloc (Below.refl _ _) _⟩
  case round =>
    obtain ⟨k, hk3, hkn, rfl, HT, hb⟩ := hrel
    have HB := Lib.hid hb
    obtain ⟨hV, hT, hB⟩ := VB.out _ hb
    have zz := hb.size
    clear hb
    by_cases hlt : k < 3 ∧ k < d.s.length
    · obtain ⟨l3, ln⟩ := hlt
      have q1 : (k : Int) < 3 := by omega
      have q2 : (k : Int) < d.s.length := by omega
      obtain ⟨v0, v1, v2, v3, v4, v5⟩ := six_cells hV
      obtain ⟨_, A', c', hv', hc⟩ := HF.out
      simp only [Value.slice.injEq, true_and] at hv'
      obtain ⟨rfl, rfl⟩ := hv'
      obtain ⟨ad, rfl, hc'⟩ := hc (by omega)
      have cm := hc' (d.s.length - 1 - k) (by omega)
      have cx : wr.cell? (ad.add (d.s.length - 1 - k)) = some (.int .i64 (tp d k)) := by rw [hB.cell (World.block_lt_of_cell? w _ cm), cm, tp_at ln]
      obtain ⟨j, hj⟩ : ∃ j, d.s.length - 1 - k = j := ⟨_, rfl⟩
      rw [hj] at cx
      have n1 : IntKind.i64.wrap ((d.s.length : Int) - 1) = (d.s.length : Int) - 1 := IntWalk.i64_in _ (by omega)
      have n2 : IntKind.i64.wrap ((d.s.length : Int) - 1 - k) = (j : Int) := by rw [IntWalk.i64_in _ (by omega)]; omega
      have q3 : (j : Int) < d.s.length := by omega
      obtain ⟨i2, hi2⟩ : ∃ i2, 2 - k = i2 := ⟨_, rfl⟩
      have n3 : IntKind.i64.wrap (2 - (k : Int)) = (i2 : Int) := by rw [IntWalk.i64_in _ (by omega)]; omega
      have q4 : (i2 : Int) < 3 := by omega
      have S0 := whole_set HT (2 - k) (.int .i64 (tp d k))
      rw [topV_set d l3, hi2] at S0
      have HS := Lib.hid S0
      have fT := whole_free HT i2
      obtain ⟨old, ho⟩ : ∃ o, wr.cell? ⟨w1.heap.size, i2, none⟩ = some (.int .i64 o) := by
        rw [whole_cell HT i2]
        have : i2 = 0 ∨ i2 = 1 ∨ i2 = 2 := by omega
        rcases this with rfl | rfl | rfl <;> exact ⟨_, rfl⟩
      generalize hy : tp d k = y at *
      clear hy S0 HT hT hB hj hi2 cm hc hc'
      go_wp2
      go_roundw
      case rel => exact ⟨k + 1, l3, ln, by go_num, HS.out, HB.out.setCell (p := ⟨w1.heap.size, _, none⟩) (Nat.le_refl _) _⟩
      case measure => simp [intOf]; omega
    · have e3 : k = 3 ∨ k = d.s.length := by omega
      rw [topV_end d e3] at HT
      have x0 := whole_cell HT 0
      have x1 := whole_cell HT 1
      have x2 := whole_cell HT 2
      simp at x0 x1 x2
      obtain ⟨v0, v1, v2, v3, v4, v5⟩ := six_cells hV
      have VC : Hid (∀ W, Below wr.heap.size wr W → Whole W w.heap.size 40 #[.slice A1 d.s.length k1, .slice A2 d.b.length k2, .slice A3 d.c.length k3, .int .i64 d.h, .int .i64 d.n, .string d.o] ∧ Whole W w1.heap.size 3 #[.int .i64 (tp d 2), .int .i64 (tp d 1), .int .i64 (tp d 0)] ∧ Whole W (w.heap.size + 1) 40 #[.slice none 0 0, .slice none 0 0, .slice none 0 0, .int .i64 0, .int .i64 0, .string ⟨#[]⟩] ∧ Below w.heap.size w W) := Lib.hid fun W h => ⟨whole_below hV h, whole_below HT h, whole_below hT h, below_step hB h⟩
      have fr := whole_free hT
      clear HF hV HT hT VB HB
      generalize tp d 2 = ta at *
      generalize tp d 1 = tb at *
      generalize tp d 0 = tc at *
      have e4 : k = 3 ∨ k = d.s.length ∧ d.s.length < 3 ∧ (d.s.length : Int) < 3 := by omega
      clear e3 hB
      have g1 : (p : Int) ≤ 11 := by omega
      obtain ⟨⟨v0, v1, v2, v3, v4, v5⟩, x0, x1, x2⟩ : (fun w' => (w'.cell? ⟨w.heap.size, 0, none⟩ = some (.slice A1 d.s.length k1) ∧ w'.cell? ⟨w.heap.size, 1, none⟩ = some (.slice A2 d.b.length k2) ∧ w'.cell? ⟨w.heap.size, 2, none⟩ = some (.slice A3 d.c.length k3) ∧ w'.cell? ⟨w.heap.size, 3, none⟩ = some (.int .i64 d.h) ∧ w'.cell? ⟨w.heap.size, 4, none⟩ = some (.int .i64 d.n) ∧ w'.cell? ⟨w.heap.size, 5, none⟩ = some (.string d.o)) ∧ w'.cell? ⟨w1.heap.size, 0, none⟩ = some (.int .i64 ta) ∧ w'.cell? ⟨w1.heap.size, 1, none⟩ = some (.int .i64 tb) ∧ w'.cell? ⟨w1.heap.size, 2, none⟩ = some (.int .i64 tc)) wr := ⟨six_cells (VC.out _ (Below.refl _ _)).1, whole_cell (VC.out _ (Below.refl _ _)).2.1 0, whole_cell (VC.out _ (Below.refl _ _)).2.1 1, whole_cell (VC.out _ (Below.refl _ _)).2.1 2⟩
      rcases e4 with rfl | ⟨rfl, q4, q5⟩
      all_goals
        go_upto_region 10 with fail
        refine wp_region_held_drew (S := fun w' => (w'.cell? ⟨w.heap.size, 0, none⟩ = some (.slice A1 d.s.length k1) ∧ w'.cell? ⟨w.heap.size, 1, none⟩ = some (.slice A2 d.b.length k2) ∧ w'.cell? ⟨w.heap.size, 2, none⟩ = some (.slice A3 d.c.length k3) ∧ w'.cell? ⟨w.heap.size, 3, none⟩ = some (.int .i64 d.h) ∧ w'.cell? ⟨w.heap.size, 4, none⟩ = some (.int .i64 d.n) ∧ w'.cell? ⟨w.heap.size, 5, none⟩ = some (.string d.o)) ∧ w'.cell? ⟨w1.heap.size, 0, none⟩ = some (.int .i64 ta) ∧ w'.cell? ⟨w1.heap.size, 1, none⟩ = some (.int .i64 tb) ∧ w'.cell? ⟨w1.heap.size, 2, none⟩ = some (.int .i64 tc)) (by kernel_rfl) ?_ (fun hHeld => ?_)
        · exact ⟨six_cells (VC.out _ (Below.refl _ _)).1, whole_cell (VC.out _ (Below.refl _ _)).2.1 0, whole_cell (VC.out _ (Below.refl _ _)).2.1 1, whole_cell (VC.out _ (Below.refl _ _)).2.1 2⟩
        refine wpAnyH_take (i := 0) (oi := { dst := some _, op := _, type := _, pos := _, after := _, guard := _ }) (v := ?_) rfl (by kernel_rfl) (by kernel_rfl) (by kernel_rfl) (fun _ _ _ h => h) (Or.inl ⟨by rfl, ?_⟩) (by assumption) ?_
        rotate_left 1
        · intro w hSw; (try dsimp only at hSw); go_simp; try with_reducible rfl
        try simp only [Act.put, List.setIfInBounds_toArray, List.set_cons_zero, List.set_cons_succ]
        refine wpAnyH_take (i := 1) (oi := { dst := some _, op := _, type := _, pos := _, after := _, guard := _ }) (v := ?_) rfl (by kernel_rfl) (by kernel_rfl) (by kernel_rfl) (fun _ _ _ h => h) (Or.inl ⟨by rfl, ?_⟩) (by assumption) ?_
        rotate_left 1
        · intro w hSw; (try dsimp only at hSw); go_simp; try with_reducible rfl
        try simp only [Act.put, List.setIfInBounds_toArray, List.set_cons_zero, List.set_cons_succ]
        refine wpAnyH_take (i := 2) (oi := { dst := some _, op := _, type := _, pos := _, after := _, guard := _ }) (v := ?_) rfl (by kernel_rfl) (by kernel_rfl) (by kernel_rfl) (fun _ _ _ h => h) (Or.inl ⟨by rfl, ?_⟩) (by assumption) ?_
        rotate_left 1
        · intro w hSw; (try dsimp only at hSw); go_simp; try with_reducible rfl
        try simp only [Act.put, List.setIfInBounds_toArray, List.set_cons_zero, List.set_cons_succ]
        refine wpAnyH_take (i := 3) (oi := { dst := some _, op := _, type := _, pos := _, after := _, guard := _ }) (v := ?_) rfl (by kernel_rfl) (by kernel_rfl) (by kernel_rfl) (fun _ _ _ h => h) (Or.inl ⟨by rfl, ?_⟩) (by assumption) ?_
        rotate_left 1
        · intro w hSw; (try dsimp only at hSw); go_simp; try with_reducible rfl
        try simp only [Act.put, List.setIfInBounds_toArray, List.set_cons_zero, List.set_cons_succ]
        refine wpAnyH_take (i := 4) (oi := { dst := some _, op := _, type := _, pos := _, after := _, guard := _ }) (v := ?_) rfl (by kernel_rfl) (by kernel_rfl) (by kernel_rfl) (fun _ _ _ h => h) (Or.inl ⟨by rfl, ?_⟩) (by assumption) ?_
        rotate_left 1
        · intro w hSw; (try dsimp only at hSw); go_simp; try with_reducible rfl
        try simp only [Act.put, List.setIfInBounds_toArray, List.set_cons_zero, List.set_cons_succ]
        refine wpAnyH_take (i := 5) (oi := { dst := some _, op := _, type := _, pos := _, after := _, guard := _ }) (v := ?_) rfl (by kernel_rfl) (by kernel_rfl) (by kernel_rfl) (fun _ _ _ h => h) (Or.inl ⟨by rfl, ?_⟩) (by assumption) ?_
        rotate_left 1
        · intro w hSw; (try dsimp only at hSw); go_simp; try with_reducible rfl
        try simp only [Act.put, List.setIfInBounds_toArray, List.set_cons_zero, List.set_cons_succ]
        refine wpAnyH_take (i := 6) (oi := { dst := some _, op := _, type := _, pos := _, after := _, guard := _ }) (v := ?_) rfl (by kernel_rfl) (by kernel_rfl) (by kernel_rfl) (fun _ _ _ h => h) (Or.inl ⟨by rfl, ?_⟩) (by assumption) ?_
        rotate_left 1
        · intro w hSw; (try dsimp only at hSw); go_simp; try with_reducible rfl
        try simp only [Act.put, List.setIfInBounds_toArray, List.set_cons_zero, List.set_cons_succ]
        refine wpAnyH_take (i := 7) (oi := { dst := some _, op := _, type := _, pos := _, after := _, guard := _ }) (v := ?_) rfl (by kernel_rfl) (by kernel_rfl) (by kernel_rfl) (fun _ _ _ h => h) (Or.inl ⟨by rfl, ?_⟩) (by assumption) ?_
        rotate_left 1
        · intro w hSw; (try dsimp only at hSw); go_simp; try with_reducible rfl
        try simp only [Act.put, List.setIfInBounds_toArray, List.set_cons_zero, List.set_cons_succ]
        refine wpAnyH_take (i := 8) (oi := { dst := some _, op := _, type := _, pos := _, after := _, guard := _ }) (v := ?_) rfl (by kernel_rfl) (by kernel_rfl) (by kernel_rfl) (fun _ _ _ h => h) (Or.inl ⟨by rfl, ?_⟩) (by assumption) ?_
        rotate_left 1
        · intro w hSw; (try dsimp only at hSw); go_simp; try with_reducible rfl
        try simp only [Act.put, List.setIfInBounds_toArray, List.set_cons_zero, List.set_cons_succ]
        refine wpAnyH_take (i := 9) (oi := { dst := some _, op := _, type := _, pos := _, after := _, guard := _ }) (v := ?_) rfl (by kernel_rfl) (by kernel_rfl) (by kernel_rfl) (fun _ _ _ h => h) (Or.inl ⟨by rfl, ?_⟩) (by assumption) ?_
        rotate_left 1
        · intro w hSw; (try dsimp only at hSw); go_simp; try with_reducible rfl
        try simp only [Act.put, List.setIfInBounds_toArray, List.set_cons_zero, List.set_cons_succ]
        refine wpAnyH_take (i := 10) (oi := { dst := some _, op := _, type := _, pos := _, after := _, guard := _ }) (v := ?_) rfl (by kernel_rfl) (by kernel_rfl) (by kernel_rfl) (fun _ _ _ h => h) (Or.inl ⟨by rfl, ?_⟩) (by assumption) ?_
        rotate_left 1
        · intro w hSw; (try dsimp only at hSw); go_simp; try with_reducible rfl
        try simp only [Act.put, List.setIfInBounds_toArray, List.set_cons_zero, List.set_cons_succ]
        refine wpAnyH_ready (rs := [11]) (by kernel_rfl) (by simp) ?_
        refine AllReadyH.cons (o := { dst := some _, op := _, type := _, pos := _, after := _, guard := _ }) rfl (fun K hK => ?_) AllReadyH.nil
        go_simp
        refine (M.out _ _ (datC_below HD (VC.out _ (Below.refl _ _).drew).2.2.2)).mono ?_
        rintro e w2 ⟨u, rfl, hb, hB⟩
        have D2 : Below wr.heap.size wr w2 := below_step (Below.refl _ _).drew hb
        clear hb
        dsimp only at hB ⊢
        have hu := built_now hB (datC_below HD (VC.out _ D2).2.2.2)
        have T2 := (VC.out _ D2).2.2.1
        have zx := D2.size
        obtain ⟨C1, j1, C2, j2, C3, j3, rfl, _⟩ := datC_form hu
        obtain ⟨r0, r1, r2, r3, r4, r5⟩ := six_cells T2
        have fr2 := whole_free T2
        refine hK.out _ _ ?_ (fun hHeld => ?_)
        · try dsimp only
          exact ⟨six_cells (VC.out _ D2).1, whole_cell (VC.out _ D2).2.1 0, whole_cell (VC.out _ D2).2.1 1, whole_cell (VC.out _ D2).2.1 2⟩
        clear hK K
        try simp only [Act.put, List.setIfInBounds_toArray, List.set_cons_zero, List.set_cons_succ]
        refine wpAnyH_take (i := 12) (oi := { dst := some _, op := _, type := _, pos := _, after := _, guard := _ }) (v := ?_) rfl (by kernel_rfl) (by kernel_rfl) (by kernel_rfl) (fun _ _ _ h => h) (Or.inl ⟨by rfl, ?_⟩) (by assumption) ?_
        rotate_left 1
        · intro w hSw; (try dsimp only at hSw); go_simp; try with_reducible rfl
        try simp only [Act.put, List.setIfInBounds_toArray, List.set_cons_zero, List.set_cons_succ]
        refine wpAnyH_take (i := 13) (oi := { dst := some _, op := _, type := _, pos := _, after := _, guard := _ }) (v := ?_) rfl (by kernel_rfl) (by kernel_rfl) (by kernel_rfl) (fun _ _ _ h => h) (Or.inl ⟨by rfl, ?_⟩) (by assumption) ?_
        rotate_left 1
        · intro w hSw; (try dsimp only at hSw); go_simp; try with_reducible rfl
        try simp only [Act.put, List.setIfInBounds_toArray, List.set_cons_zero, List.set_cons_succ]
        refine wpAnyH_ready (rs := [14]) (by kernel_rfl) (by simp) ?_
        refine AllReadyH.cons (o := { dst := none, op := _, type := _, pos := _, after := _, guard := _ }) rfl (fun K hK => ?_) AllReadyH.nil
        go_simp
        refine hK.out _ _ ?_ (fun hHeld => ?_)
        · try dsimp only
          exact ⟨six_cells (whole_six (VC.out _ D2).1 (by omega) _ _ _ _ _ _), whole_cell (whole_six (VC.out _ D2).2.1 (by omega) _ _ _ _ _ _) 0, whole_cell (whole_six (VC.out _ D2).2.1 (by omega) _ _ _ _ _ _) 1, whole_cell (whole_six (VC.out _ D2).2.1 (by omega) _ _ _ _ _ _) 2⟩
        clear hK K
        try simp only [Act.put, List.setIfInBounds_toArray, List.set_cons_zero, List.set_cons_succ]
        refine wpAnyH_take (i := 15) (oi := { dst := some _, op := _, type := _, pos := _, after := _, guard := _ }) (v := ?_) rfl (by kernel_rfl) (by kernel_rfl) (by kernel_rfl) (fun _ _ _ h => h) (Or.inl ⟨by rfl, ?_⟩) (by assumption) ?_
        rotate_left 1
        · intro w hSw; (try dsimp only at hSw); go_simp; try with_reducible rfl
        try simp only [Act.put, List.setIfInBounds_toArray, List.set_cons_zero, List.set_cons_succ]
        refine wpAnyH_done (by kernel_rfl) ?_ _
        go_wp2
        refine bodyPost_ret (v := .tuple #[.agg #[.slice C1 r.s.length j1, .slice C2 r.b.length j2, .slice C3 r.c.length j3, .int .i64 r.h, .int .i64 r.n, .string r.o], .int .i64 t]) (by simp [results, Tryz.results65, go_sem, *]) rfl ⟨_, rfl, below_six (VC.out _ D2).2.2.2 (by omega) _ _ _ _ _ _, built_up hB (by simp; try omega) (agree_six T2)⟩

set_option maxRecDepth 100000 in
set_option maxHeartbeats 8000000 in
theorem sApply_back (v : Value) (d : Dt) (p : Nat) (f : Int) (w : World) (r : Dt × Int) (hv : DatC w v d) (hd : DtFine d) (h1 : 1 ≤ p) (h2 : p ≤ 52) (hk : takesP p ≤ d.s.length) (cc : 12 ≤ p ∧ p ≤ 14)
    (M : Hid (∀ W u, DatC W u d → Calls Tryz.prog 136 #[u, .int .i64 p, .int .i64 f, .int .i64 (tp d 0)] W (ReadC W u d r))) :
    Calls Tryz.prog 65 #[v, .int .i64 p, .int .i64 f] w (ReadC w v d r) := by
  have HD := hv
  obtain ⟨A1, k1, A2, k2, A3, k3, rfl, _⟩ := datC_form hv
  have hs := fine_sl hd
  obtain ⟨r, t⟩ := r
  have t1 : ¬ (d.s.length : Int) < (takesP p : Int) := by omega
  have TK : Hid (∀ W, Calls Tryz.prog 134 #[.int .i64 p] W fun e w' => e = .returned (.int .i64 (takesP p)) ∧ Below W.heap.size W w') := Lib.hid fun W => sTakes_any p W h1 h2
  have HF := Lib.hid (datC_first hv)
  clear hv
  generalize takesP p = tk at *
  go_enter Tryz.func65, Tryz.ntmps65
  go_wp2_with fail
  refine (TK.out _).mono ?_
  rintro e w1 ⟨rfl, hb⟩
  have B1 : Below w.heap.size w w1 := below_step (below_alloc (below_alloc (Below.refl _ _) _) _) hb
  have V1 := whole_b hb (whole_alloc (whole_new w _ _) _)
  have T1 := whole_b hb (whole_new1 w _ _ _)
  clear hb TK
  go_wp2_with fail
  have zv := whole_lt V1
  have zt := whole_lt T1
  have VB : Hid (∀ W, Below w1.heap.size w1 W → Whole W w.heap.size 40 #[.slice A1 d.s.length k1, .slice A2 d.b.length k2, .slice A3 d.c.length k3, .int .i64 d.h, .int .i64 d.n, .string d.o] ∧ Whole W (w.heap.size + 1) 40 #[.slice none 0 0, .slice none 0 0, .slice none 0 0, .int .i64 0, .int .i64 0, .string ⟨#[]⟩] ∧ Below w.heap.size w W) := Lib.hid fun W h => ⟨whole_below V1 h, whole_below T1 h, below_step B1 h⟩
  clear V1 T1 B1
  go_loopw [10] (fun i wr => ∃ k : Nat, k ≤ 3 ∧ k ≤ d.s.length ∧ i = .int .i64 k ∧ Whole wr w1.heap.size 3 (topV d k) ∧ Below w1.heap.size w1 wr) (fun i _ => 3 - (intOf i).toNat)
  case atStart => exact ⟨0, by omega, Nat.zero_le _, rfl, whole_new w1 _ _, below_alloc (Below.refl _ _) _⟩
  case round =>
    obtain ⟨k, hk3, hkn, rfl, HT, hb⟩ := hrel
    have HB := Lib.hid hb
    obtain ⟨hV, hT, hB⟩ := VB.out _ hb
    have zz := hb.size
    clear hb
    by_cases hlt : k < 3 ∧ k < d.s.length
    · obtain ⟨l3, ln⟩ := hlt
      have q1 : (k : Int) < 3 := by omega
      have q2 : (k : Int) < d.s.length := by omega
      obtain ⟨v0, v1, v2, v3, v4, v5⟩ := six_cells hV
      obtain ⟨_, A', c', hv', hc⟩ := HF.out
      simp only [Value.slice.injEq, true_and] at hv'
      obtain ⟨rfl, rfl⟩ := hv'
      obtain ⟨ad, rfl, hc'⟩ := hc (by omega)
      have cm := hc' (d.s.length - 1 - k) (by omega)
      have cx : wr.cell? (ad.add (d.s.length - 1 - k)) = some (.int .i64 (tp d k)) := by rw [hB.cell (World.block_lt_of_cell? w _ cm), cm, tp_at ln]
      obtain ⟨j, hj⟩ : ∃ j, d.s.length - 1 - k = j := ⟨_, rfl⟩
      rw [hj] at cx
      have n1 : IntKind.i64.wrap ((d.s.length : Int) - 1) = (d.s.length : Int) - 1 := IntWalk.i64_in _ (by omega)
      have n2 : IntKind.i64.wrap ((d.s.length : Int) - 1 - k) = (j : Int) := by rw [IntWalk.i64_in _ (by omega)]; omega
      have q3 : (j : Int) < d.s.length := by omega
      obtain ⟨i2, hi2⟩ : ∃ i2, 2 - k = i2 := ⟨_, rfl⟩
      have n3 : IntKind.i64.wrap (2 - (k : Int)) = (i2 : Int) := by rw [IntWalk.i64_in _ (by omega)]; omega
      have q4 : (i2 : Int) < 3 := by omega
      have S0 := whole_set HT (2 - k) (.int .i64 (tp d k))
      rw [topV_set d l3, hi2] at S0
      have HS := Lib.hid S0
      have fT := whole_free HT i2
      obtain ⟨old, ho⟩ : ∃ o, wr.cell? ⟨w1.heap.size, i2, none⟩ = some (.int .i64 o) := by
        rw [whole_cell HT i2]
        have : i2 = 0 ∨ i2 = 1 ∨ i2 = 2 := by omega
        rcases this with rfl | rfl | rfl <;> exact ⟨_, rfl⟩
      generalize hy : tp d k = y at *
      clear hy S0 HT hT hB hj hi2 cm hc hc'
      go_wp2
      go_roundw
      case rel => exact ⟨k + 1, l3, ln, by go_num, HS.out, HB.out.setCell (p := ⟨w1.heap.size, _, none⟩) (Nat.le_refl _) _⟩
      case measure => simp [intOf]; omega
    · have e3 : k = 3 ∨ k = d.s.length := by omega
      rw [topV_end d e3] at HT
      have x0 := whole_cell HT 0
      have x1 := whole_cell HT 1
      have x2 := whole_cell HT 2
      simp at x0 x1 x2
      obtain ⟨v0, v1, v2, v3, v4, v5⟩ := six_cells hV
      have VC : Hid (∀ W, Below wr.heap.size wr W → Whole W w.heap.size 40 #[.slice A1 d.s.length k1, .slice A2 d.b.length k2, .slice A3 d.c.length k3, .int .i64 d.h, .int .i64 d.n, .string d.o] ∧ Whole W w1.heap.size 3 #[.int .i64 (tp d 2), .int .i64 (tp d 1), .int .i64 (tp d 0)] ∧ Whole W (w.heap.size + 1) 40 #[.slice none 0 0, .slice none 0 0, .slice none 0 0, .int .i64 0, .int .i64 0, .string ⟨#[]⟩] ∧ Below w.heap.size w W) := Lib.hid fun W h => ⟨whole_below hV h, whole_below HT h, whole_below hT h, below_step hB h⟩
      have fr := whole_free hT
      clear HF hV HT hT VB HB
      generalize tp d 2 = ta at *
      generalize tp d 1 = tb at *
      generalize tp d 0 = tc at *
      have e4 : k = 3 ∨ k = d.s.length ∧ d.s.length < 3 ∧ (d.s.length : Int) < 3 := by omega
      clear e3 hB
      have g0 : ¬ p ≤ 11 := by omega
      have g1 : ¬ (p : Int) ≤ 11 := by omega
      have g2 : (p : Int) ≤ 14 := by omega
      have g3 : p ≤ 14 := by omega
      obtain ⟨⟨v0, v1, v2, v3, v4, v5⟩, x0, x1, x2⟩ : (fun w' => (w'.cell? ⟨w.heap.size, 0, none⟩ = some (.slice A1 d.s.length k1) ∧ w'.cell? ⟨w.heap.size, 1, none⟩ = some (.slice A2 d.b.length k2) ∧ w'.cell? ⟨w.heap.size, 2, none⟩ = some (.slice A3 d.c.length k3) ∧ w'.cell? ⟨w.heap.size, 3, none⟩ = some (.int .i64 d.h) ∧ w'.cell? ⟨w.heap.size, 4, none⟩ = some (.int .i64 d.n) ∧ w'.cell? ⟨w.heap.size, 5, none⟩ = some (.string d.o)) ∧ w'.cell? ⟨w1.heap.size, 0, none⟩ = some (.int .i64 ta) ∧ w'.cell? ⟨w1.heap.size, 1, none⟩ = some (.int .i64 tb) ∧ w'.cell? ⟨w1.heap.size, 2, none⟩ = some (.int .i64 tc)) wr := ⟨six_cells (VC.out _ (Below.refl _ _)).1, whole_cell (VC.out _ (Below.refl _ _)).2.1 0, whole_cell (VC.out _ (Below.refl _ _)).2.1 1, whole_cell (VC.out _ (Below.refl _ _)).2.1 2⟩
      rcases e4 with rfl | ⟨rfl, q4, q5⟩
      all_goals
        go_upto_region 12 with fail
        refine wp_region_held_drew (S := fun w' => (w'.cell? ⟨w.heap.size, 0, none⟩ = some (.slice A1 d.s.length k1) ∧ w'.cell? ⟨w.heap.size, 1, none⟩ = some (.slice A2 d.b.length k2) ∧ w'.cell? ⟨w.heap.size, 2, none⟩ = some (.slice A3 d.c.length k3) ∧ w'.cell? ⟨w.heap.size, 3, none⟩ = some (.int .i64 d.h) ∧ w'.cell? ⟨w.heap.size, 4, none⟩ = some (.int .i64 d.n) ∧ w'.cell? ⟨w.heap.size, 5, none⟩ = some (.string d.o)) ∧ w'.cell? ⟨w1.heap.size, 0, none⟩ = some (.int .i64 ta) ∧ w'.cell? ⟨w1.heap.size, 1, none⟩ = some (.int .i64 tb) ∧ w'.cell? ⟨w1.heap.size, 2, none⟩ = some (.int .i64 tc)) (by kernel_rfl) ?_ (fun hHeld => ?_)
        · exact ⟨six_cells (VC.out _ (Below.refl _ _)).1, whole_cell (VC.out _ (Below.refl _ _)).2.1 0, whole_cell (VC.out _ (Below.refl _ _)).2.1 1, whole_cell (VC.out _ (Below.refl _ _)).2.1 2⟩
        refine wpAnyH_take (i := 0) (oi := { dst := some _, op := _, type := _, pos := _, after := _, guard := _ }) (v := ?_) rfl (by kernel_rfl) (by kernel_rfl) (by kernel_rfl) (fun _ _ _ h => h) (Or.inl ⟨by rfl, ?_⟩) (by assumption) ?_
        rotate_left 1
        · intro w hSw; (try dsimp only at hSw); go_simp; try with_reducible rfl
        try simp only [Act.put, List.setIfInBounds_toArray, List.set_cons_zero, List.set_cons_succ]
        refine wpAnyH_take (i := 1) (oi := { dst := some _, op := _, type := _, pos := _, after := _, guard := _ }) (v := ?_) rfl (by kernel_rfl) (by kernel_rfl) (by kernel_rfl) (fun _ _ _ h => h) (Or.inl ⟨by rfl, ?_⟩) (by assumption) ?_
        rotate_left 1
        · intro w hSw; (try dsimp only at hSw); go_simp; try with_reducible rfl
        try simp only [Act.put, List.setIfInBounds_toArray, List.set_cons_zero, List.set_cons_succ]
        refine wpAnyH_take (i := 2) (oi := { dst := some _, op := _, type := _, pos := _, after := _, guard := _ }) (v := ?_) rfl (by kernel_rfl) (by kernel_rfl) (by kernel_rfl) (fun _ _ _ h => h) (Or.inl ⟨by rfl, ?_⟩) (by assumption) ?_
        rotate_left 1
        · intro w hSw; (try dsimp only at hSw); go_simp; try with_reducible rfl
        try simp only [Act.put, List.setIfInBounds_toArray, List.set_cons_zero, List.set_cons_succ]
        refine wpAnyH_take (i := 3) (oi := { dst := some _, op := _, type := _, pos := _, after := _, guard := _ }) (v := ?_) rfl (by kernel_rfl) (by kernel_rfl) (by kernel_rfl) (fun _ _ _ h => h) (Or.inl ⟨by rfl, ?_⟩) (by assumption) ?_
        rotate_left 1
        · intro w hSw; (try dsimp only at hSw); go_simp; try with_reducible rfl
        try simp only [Act.put, List.setIfInBounds_toArray, List.set_cons_zero, List.set_cons_succ]
        refine wpAnyH_take (i := 4) (oi := { dst := some _, op := _, type := _, pos := _, after := _, guard := _ }) (v := ?_) rfl (by kernel_rfl) (by kernel_rfl) (by kernel_rfl) (fun _ _ _ h => h) (Or.inl ⟨by rfl, ?_⟩) (by assumption) ?_
        rotate_left 1
        · intro w hSw; (try dsimp only at hSw); go_simp; try with_reducible rfl
        try simp only [Act.put, List.setIfInBounds_toArray, List.set_cons_zero, List.set_cons_succ]
        refine wpAnyH_take (i := 5) (oi := { dst := some _, op := _, type := _, pos := _, after := _, guard := _ }) (v := ?_) rfl (by kernel_rfl) (by kernel_rfl) (by kernel_rfl) (fun _ _ _ h => h) (Or.inl ⟨by rfl, ?_⟩) (by assumption) ?_
        rotate_left 1
        · intro w hSw; (try dsimp only at hSw); go_simp; try with_reducible rfl
        try simp only [Act.put, List.setIfInBounds_toArray, List.set_cons_zero, List.set_cons_succ]
        refine wpAnyH_ready (rs := [6]) (by kernel_rfl) (by simp) ?_
        refine AllReadyH.cons (o := { dst := some _, op := _, type := _, pos := _, after := _, guard := _ }) rfl (fun K hK => ?_) AllReadyH.nil
        go_simp
        refine (M.out _ _ (datC_below HD (VC.out _ (Below.refl _ _).drew).2.2.2)).mono ?_
        rintro e w2 ⟨u, rfl, hb, hB⟩
        have D2 : Below wr.heap.size wr w2 := below_step (Below.refl _ _).drew hb
        clear hb
        dsimp only at hB ⊢
        have hu := built_now hB (datC_below HD (VC.out _ D2).2.2.2)
        have T2 := (VC.out _ D2).2.2.1
        have zx := D2.size
        obtain ⟨C1, j1, C2, j2, C3, j3, rfl, _⟩ := datC_form hu
        obtain ⟨r0, r1, r2, r3, r4, r5⟩ := six_cells T2
        have fr2 := whole_free T2
        refine hK.out _ _ ?_ (fun hHeld => ?_)
        · try dsimp only
          exact ⟨six_cells (VC.out _ D2).1, whole_cell (VC.out _ D2).2.1 0, whole_cell (VC.out _ D2).2.1 1, whole_cell (VC.out _ D2).2.1 2⟩
        clear hK K
        try simp only [Act.put, List.setIfInBounds_toArray, List.set_cons_zero, List.set_cons_succ]
        refine wpAnyH_take (i := 7) (oi := { dst := some _, op := _, type := _, pos := _, after := _, guard := _ }) (v := ?_) rfl (by kernel_rfl) (by kernel_rfl) (by kernel_rfl) (fun _ _ _ h => h) (Or.inl ⟨by rfl, ?_⟩) (by assumption) ?_
        rotate_left 1
        · intro w hSw; (try dsimp only at hSw); go_simp; try with_reducible rfl
        try simp only [Act.put, List.setIfInBounds_toArray, List.set_cons_zero, List.set_cons_succ]
        refine wpAnyH_take (i := 8) (oi := { dst := some _, op := _, type := _, pos := _, after := _, guard := _ }) (v := ?_) rfl (by kernel_rfl) (by kernel_rfl) (by kernel_rfl) (fun _ _ _ h => h) (Or.inl ⟨by rfl, ?_⟩) (by assumption) ?_
        rotate_left 1
        · intro w hSw; (try dsimp only at hSw); go_simp; try with_reducible rfl
        try simp only [Act.put, List.setIfInBounds_toArray, List.set_cons_zero, List.set_cons_succ]
        refine wpAnyH_ready (rs := [9]) (by kernel_rfl) (by simp) ?_
        refine AllReadyH.cons (o := { dst := none, op := _, type := _, pos := _, after := _, guard := _ }) rfl (fun K hK => ?_) AllReadyH.nil
        go_simp
        refine hK.out _ _ ?_ (fun hHeld => ?_)
        · try dsimp only
          exact ⟨six_cells (whole_six (VC.out _ D2).1 (by omega) _ _ _ _ _ _), whole_cell (whole_six (VC.out _ D2).2.1 (by omega) _ _ _ _ _ _) 0, whole_cell (whole_six (VC.out _ D2).2.1 (by omega) _ _ _ _ _ _) 1, whole_cell (whole_six (VC.out _ D2).2.1 (by omega) _ _ _ _ _ _) 2⟩
        clear hK K
        try simp only [Act.put, List.setIfInBounds_toArray, List.set_cons_zero, List.set_cons_succ]
        refine wpAnyH_take (i := 10) (oi := { dst := some _, op := _, type := _, pos := _, after := _, guard := _ }) (v := ?_) rfl (by kernel_rfl) (by kernel_rfl) (by kernel_rfl) (fun _ _ _ h => h) (Or.inl ⟨by rfl, ?_⟩) (by assumption) ?_
        rotate_left 1
        · intro w hSw; (try dsimp only at hSw); go_simp; try with_reducible rfl
        try simp only [Act.put, List.setIfInBounds_toArray, List.set_cons_zero, List.set_cons_succ]
        refine wpAnyH_done (by kernel_rfl) ?_ _
        go_wp2
        refine bodyPost_ret (v := .tuple #[.agg #[.slice C1 r.s.length j1, .slice C2 r.b.length j2, .slice C3 r.c.length j3, .int .i64 r.h, .int .i64 r.n, .string r.o], .int .i64 t]) (by simp [results, Tryz.results65, go_sem, *]) rfl ⟨_, rfl, below_six (VC.out _ D2).2.2.2 (by omega) _ _ _ _ _ _, built_up hB (by simp; try omega) (agree_six T2)⟩

end Go.Proofs.YthnbaeamekolmaaGreatDoor

namespace Go.Proofs.YthnbaeamekolmaaGreatDoor
open Go.RowKit
set_option linter.unusedVariables false
set_option linter.unusedSimpArgs false

set_option maxRecDepth 100000 in
set_option maxHeartbeats 8000000 in
theorem sApply_back2 (v : Value) (d : Dt) (p : Nat) (f : Int) (w : World) (r : Dt × Int) (hv : DatC w v d) (hd : DtFine d) (h1 : 1 ≤ p) (h2 : p ≤ 52) (hk : takesP p ≤ d.s.length) (cc : 51 ≤ p)
    (M : Hid (∀ W u, DatC W u d → Calls Tryz.prog 136 #[u, .int .i64 p, .int .i64 f, .int .i64 (tp d 0)] W (ReadC W u d r))) :
    Calls Tryz.prog 65 #[v, .int .i64 p, .int .i64 f] w (ReadC w v d r) := by
  have HD := hv
  obtain ⟨A1, k1, A2, k2, A3, k3, rfl, _⟩ := datC_form hv
  have hs := fine_sl hd
  obtain ⟨r, t⟩ := r
  have t1 : ¬ (d.s.length : Int) < (takesP p : Int) := by omega
  have TK : Hid (∀ W, Calls Tryz.prog 134 #[.int .i64 p] W fun e w' => e = .returned (.int .i64 (takesP p)) ∧ Below W.heap.size W w') := Lib.hid fun W => sTakes_any p W h1 h2
  have HF := Lib.hid (datC_first hv)
  clear hv
  generalize takesP p = tk at *
  go_enter Tryz.func65, Tryz.ntmps65
  go_wp2_with fail
  refine (TK.out _).mono ?_
  rintro e w1 ⟨rfl, hb⟩
  have B1 : Below w.heap.size w w1 := below_step (below_alloc (below_alloc (Below.refl _ _) _) _) hb
  have V1 := whole_b hb (whole_alloc (whole_new w _ _) _)
  have T1 := whole_b hb (whole_new1 w _ _ _)
  clear hb TK
  go_wp2_with fail
  have zv := whole_lt V1
  have zt := whole_lt T1
  have VB : Hid (∀ W, Below w1.heap.size w1 W → Whole W w.heap.size 40 #[.slice A1 d.s.length k1, .slice A2 d.b.length k2, .slice A3 d.c.length k3, .int .i64 d.h, .int .i64 d.n, .string d.o] ∧ Whole W (w.heap.size + 1) 40 #[.slice none 0 0, .slice none 0 0, .slice none 0 0, .int .i64 0, .int .i64 0, .string ⟨#[]⟩] ∧ Below w.heap.size w W) := Lib.hid fun W h => ⟨whole_below V1 h, whole_below T1 h, below_step B1 h⟩
  clear V1 T1 B1
  go_loopw [10] (fun i wr => ∃ k : Nat, k ≤ 3 ∧ k ≤ d.s.length ∧ i = .int .i64 k ∧ Whole wr w1.heap.size 3 (topV d k) ∧ Below w1.heap.size w1 wr) (fun i _ => 3 - (intOf i).toNat)
  case atStart => exact ⟨0, by omega, Nat.zero_le _, rfl, whole_new w1 _ _, below_alloc (Below.refl _ _) _⟩
  case round =>
    obtain ⟨k, hk3, hkn, rfl, HT, hb⟩ := hrel
    have HB := Lib.hid hb
    obtain ⟨hV, hT, hB⟩ := VB.out _ hb
    have zz := hb.size
    clear hb
    by_cases hlt : k < 3 ∧ k < d.s.length
    · obtain ⟨l3, ln⟩ := hlt
      have q1 : (k : Int) < 3 := by omega
      have q2 : (k : Int) < d.s.length := by omega
      obtain ⟨v0, v1, v2, v3, v4, v5⟩ := six_cells hV
      obtain ⟨_, A', c', hv', hc⟩ := HF.out
      simp only [Value.slice.injEq, true_and] at hv'
      obtain ⟨rfl, rfl⟩ := hv'
      obtain ⟨ad, rfl, hc'⟩ := hc (by omega)
      have cm := hc' (d.s.length - 1 - k) (by omega)
      have cx : wr.cell? (ad.add (d.s.length - 1 - k)) = some (.int .i64 (tp d k)) := by rw [hB.cell (World.block_lt_of_cell? w _ cm), cm, tp_at ln]
      obtain ⟨j, hj⟩ : ∃ j, d.s.length - 1 - k = j := ⟨_, rfl⟩
      rw [hj] at cx
      have n1 : IntKind.i64.wrap ((d.s.length : Int) - 1) = (d.s.length : Int) - 1 := IntWalk.i64_in _ (by omega)
      have n2 : IntKind.i64.wrap ((d.s.length : Int) - 1 - k) = (j : Int) := by rw [IntWalk.i64_in _ (by omega)]; omega
      have q3 : (j : Int) < d.s.length := by omega
      obtain ⟨i2, hi2⟩ : ∃ i2, 2 - k = i2 := ⟨_, rfl⟩
      have n3 : IntKind.i64.wrap (2 - (k : Int)) = (i2 : Int) := by rw [IntWalk.i64_in _ (by omega)]; omega
      have q4 : (i2 : Int) < 3 := by omega
      have S0 := whole_set HT (2 - k) (.int .i64 (tp d k))
      rw [topV_set d l3, hi2] at S0
      have HS := Lib.hid S0
      have fT := whole_free HT i2
      obtain ⟨old, ho⟩ : ∃ o, wr.cell? ⟨w1.heap.size, i2, none⟩ = some (.int .i64 o) := by
        rw [whole_cell HT i2]
        have : i2 = 0 ∨ i2 = 1 ∨ i2 = 2 := by omega
        rcases this with rfl | rfl | rfl <;> exact ⟨_, rfl⟩
      generalize hy : tp d k = y at *
      clear hy S0 HT hT hB hj hi2 cm hc hc'
      go_wp2
      go_roundw
      case rel => exact ⟨k + 1, l3, ln, by go_num, HS.out, HB.out.setCell (p := ⟨w1.heap.size, _, none⟩) (Nat.le_refl _) _⟩
      case measure => simp [intOf]; omega
    · have e3 : k = 3 ∨ k = d.s.length := by omega
      rw [topV_end d e3] at HT
      have x0 := whole_cell HT 0
      have x1 := whole_cell HT 1
      have x2 := whole_cell HT 2
      simp at x0 x1 x2
      obtain ⟨v0, v1, v2, v3, v4, v5⟩ := six_cells hV
      have VC : Hid (∀ W, Below wr.heap.size wr W → Whole W w.heap.size 40 #[.slice A1 d.s.length k1, .slice A2 d.b.length k2, .slice A3 d.c.length k3, .int .i64 d.h, .int .i64 d.n, .string d.o] ∧ Whole W w1.heap.size 3 #[.int .i64 (tp d 2), .int .i64 (tp d 1), .int .i64 (tp d 0)] ∧ Whole W (w.heap.size + 1) 40 #[.slice none 0 0, .slice none 0 0, .slice none 0 0, .int .i64 0, .int .i64 0, .string ⟨#[]⟩] ∧ Below w.heap.size w W) := Lib.hid fun W h => ⟨whole_below hV h, whole_below HT h, whole_below hT h, below_step hB h⟩
      have fr := whole_free hT
      clear HF hV HT hT VB HB
      generalize tp d 2 = ta at *
      generalize tp d 1 = tb at *
      generalize tp d 0 = tc at *
      have e4 : k = 3 ∨ k = d.s.length ∧ d.s.length < 3 ∧ (d.s.length : Int) < 3 := by omega
      clear e3 hB
      have g0 : ¬ p ≤ 11 := by omega
      have g1 : ¬ (p : Int) ≤ 11 := by omega
      have g2 : ¬ (p : Int) ≤ 14 := by omega
      have g3 : ¬ p ≤ 14 := by omega
      have g4 : (51 : Int) ≤ (p : Int) := by omega
      obtain ⟨⟨v0, v1, v2, v3, v4, v5⟩, x0, x1, x2⟩ : (fun w' => (w'.cell? ⟨w.heap.size, 0, none⟩ = some (.slice A1 d.s.length k1) ∧ w'.cell? ⟨w.heap.size, 1, none⟩ = some (.slice A2 d.b.length k2) ∧ w'.cell? ⟨w.heap.size, 2, none⟩ = some (.slice A3 d.c.length k3) ∧ w'.cell? ⟨w.heap.size, 3, none⟩ = some (.int .i64 d.h) ∧ w'.cell? ⟨w.heap.size, 4, none⟩ = some (.int .i64 d.n) ∧ w'.cell? ⟨w.heap.size, 5, none⟩ = some (.string d.o)) ∧ w'.cell? ⟨w1.heap.size, 0, none⟩ = some (.int .i64 ta) ∧ w'.cell? ⟨w1.heap.size, 1, none⟩ = some (.int .i64 tb) ∧ w'.cell? ⟨w1.heap.size, 2, none⟩ = some (.int .i64 tc)) wr := ⟨six_cells (VC.out _ (Below.refl _ _)).1, whole_cell (VC.out _ (Below.refl _ _)).2.1 0, whole_cell (VC.out _ (Below.refl _ _)).2.1 1, whole_cell (VC.out _ (Below.refl _ _)).2.1 2⟩
      rcases e4 with rfl | ⟨rfl, q4, q5⟩
      all_goals
        go_upto_region 12 with fail
        refine wp_region_held_drew (S := fun w' => (w'.cell? ⟨w.heap.size, 0, none⟩ = some (.slice A1 d.s.length k1) ∧ w'.cell? ⟨w.heap.size, 1, none⟩ = some (.slice A2 d.b.length k2) ∧ w'.cell? ⟨w.heap.size, 2, none⟩ = some (.slice A3 d.c.length k3) ∧ w'.cell? ⟨w.heap.size, 3, none⟩ = some (.int .i64 d.h) ∧ w'.cell? ⟨w.heap.size, 4, none⟩ = some (.int .i64 d.n) ∧ w'.cell? ⟨w.heap.size, 5, none⟩ = some (.string d.o)) ∧ w'.cell? ⟨w1.heap.size, 0, none⟩ = some (.int .i64 ta) ∧ w'.cell? ⟨w1.heap.size, 1, none⟩ = some (.int .i64 tb) ∧ w'.cell? ⟨w1.heap.size, 2, none⟩ = some (.int .i64 tc)) (by kernel_rfl) ?_ (fun hHeld => ?_)
        · exact ⟨six_cells (VC.out _ (Below.refl _ _)).1, whole_cell (VC.out _ (Below.refl _ _)).2.1 0, whole_cell (VC.out _ (Below.refl _ _)).2.1 1, whole_cell (VC.out _ (Below.refl _ _)).2.1 2⟩
        refine wpAnyH_take (i := 0) (oi := { dst := some _, op := _, type := _, pos := _, after := _, guard := _ }) (v := ?_) rfl (by kernel_rfl) (by kernel_rfl) (by kernel_rfl) (fun _ _ _ h => h) (Or.inl ⟨by rfl, ?_⟩) (by assumption) ?_
        rotate_left 1
        · intro w hSw; (try dsimp only at hSw); go_simp; try with_reducible rfl
        try simp only [Act.put, List.setIfInBounds_toArray, List.set_cons_zero, List.set_cons_succ]
        refine wpAnyH_take (i := 1) (oi := { dst := some _, op := _, type := _, pos := _, after := _, guard := _ }) (v := ?_) rfl (by kernel_rfl) (by kernel_rfl) (by kernel_rfl) (fun _ _ _ h => h) (Or.inl ⟨by rfl, ?_⟩) (by assumption) ?_
        rotate_left 1
        · intro w hSw; (try dsimp only at hSw); go_simp; try with_reducible rfl
        try simp only [Act.put, List.setIfInBounds_toArray, List.set_cons_zero, List.set_cons_succ]
        refine wpAnyH_take (i := 2) (oi := { dst := some _, op := _, type := _, pos := _, after := _, guard := _ }) (v := ?_) rfl (by kernel_rfl) (by kernel_rfl) (by kernel_rfl) (fun _ _ _ h => h) (Or.inl ⟨by rfl, ?_⟩) (by assumption) ?_
        rotate_left 1
        · intro w hSw; (try dsimp only at hSw); go_simp; try with_reducible rfl
        try simp only [Act.put, List.setIfInBounds_toArray, List.set_cons_zero, List.set_cons_succ]
        refine wpAnyH_take (i := 3) (oi := { dst := some _, op := _, type := _, pos := _, after := _, guard := _ }) (v := ?_) rfl (by kernel_rfl) (by kernel_rfl) (by kernel_rfl) (fun _ _ _ h => h) (Or.inl ⟨by rfl, ?_⟩) (by assumption) ?_
        rotate_left 1
        · intro w hSw; (try dsimp only at hSw); go_simp; try with_reducible rfl
        try simp only [Act.put, List.setIfInBounds_toArray, List.set_cons_zero, List.set_cons_succ]
        refine wpAnyH_take (i := 4) (oi := { dst := some _, op := _, type := _, pos := _, after := _, guard := _ }) (v := ?_) rfl (by kernel_rfl) (by kernel_rfl) (by kernel_rfl) (fun _ _ _ h => h) (Or.inl ⟨by rfl, ?_⟩) (by assumption) ?_
        rotate_left 1
        · intro w hSw; (try dsimp only at hSw); go_simp; try with_reducible rfl
        try simp only [Act.put, List.setIfInBounds_toArray, List.set_cons_zero, List.set_cons_succ]
        refine wpAnyH_take (i := 5) (oi := { dst := some _, op := _, type := _, pos := _, after := _, guard := _ }) (v := ?_) rfl (by kernel_rfl) (by kernel_rfl) (by kernel_rfl) (fun _ _ _ h => h) (Or.inl ⟨by rfl, ?_⟩) (by assumption) ?_
        rotate_left 1
        · intro w hSw; (try dsimp only at hSw); go_simp; try with_reducible rfl
        try simp only [Act.put, List.setIfInBounds_toArray, List.set_cons_zero, List.set_cons_succ]
        refine wpAnyH_ready (rs := [6]) (by kernel_rfl) (by simp) ?_
        refine AllReadyH.cons (o := { dst := some _, op := _, type := _, pos := _, after := _, guard := _ }) rfl (fun K hK => ?_) AllReadyH.nil
        go_simp
        refine (M.out _ _ (datC_below HD (VC.out _ (Below.refl _ _).drew).2.2.2)).mono ?_
        rintro e w2 ⟨u, rfl, hb, hB⟩
        have D2 : Below wr.heap.size wr w2 := below_step (Below.refl _ _).drew hb
        clear hb
        dsimp only at hB ⊢
        have hu := built_now hB (datC_below HD (VC.out _ D2).2.2.2)
        have T2 := (VC.out _ D2).2.2.1
        have zx := D2.size
        obtain ⟨C1, j1, C2, j2, C3, j3, rfl, _⟩ := datC_form hu
        obtain ⟨r0, r1, r2, r3, r4, r5⟩ := six_cells T2
        have fr2 := whole_free T2
        refine hK.out _ _ ?_ (fun hHeld => ?_)
        · try dsimp only
          exact ⟨six_cells (VC.out _ D2).1, whole_cell (VC.out _ D2).2.1 0, whole_cell (VC.out _ D2).2.1 1, whole_cell (VC.out _ D2).2.1 2⟩
        clear hK K
        try simp only [Act.put, List.setIfInBounds_toArray, List.set_cons_zero, List.set_cons_succ]
        refine wpAnyH_take (i := 7) (oi := { dst := some _, op := _, type := _, pos := _, after := _, guard := _ }) (v := ?_) rfl (by kernel_rfl) (by kernel_rfl) (by kernel_rfl) (fun _ _ _ h => h) (Or.inl ⟨by rfl, ?_⟩) (by assumption) ?_
        rotate_left 1
        · intro w hSw; (try dsimp only at hSw); go_simp; try with_reducible rfl
        try simp only [Act.put, List.setIfInBounds_toArray, List.set_cons_zero, List.set_cons_succ]
        refine wpAnyH_take (i := 8) (oi := { dst := some _, op := _, type := _, pos := _, after := _, guard := _ }) (v := ?_) rfl (by kernel_rfl) (by kernel_rfl) (by kernel_rfl) (fun _ _ _ h => h) (Or.inl ⟨by rfl, ?_⟩) (by assumption) ?_
        rotate_left 1
        · intro w hSw; (try dsimp only at hSw); go_simp; try with_reducible rfl
        try simp only [Act.put, List.setIfInBounds_toArray, List.set_cons_zero, List.set_cons_succ]
        refine wpAnyH_ready (rs := [9]) (by kernel_rfl) (by simp) ?_
        refine AllReadyH.cons (o := { dst := none, op := _, type := _, pos := _, after := _, guard := _ }) rfl (fun K hK => ?_) AllReadyH.nil
        go_simp
        refine hK.out _ _ ?_ (fun hHeld => ?_)
        · try dsimp only
          exact ⟨six_cells (whole_six (VC.out _ D2).1 (by omega) _ _ _ _ _ _), whole_cell (whole_six (VC.out _ D2).2.1 (by omega) _ _ _ _ _ _) 0, whole_cell (whole_six (VC.out _ D2).2.1 (by omega) _ _ _ _ _ _) 1, whole_cell (whole_six (VC.out _ D2).2.1 (by omega) _ _ _ _ _ _) 2⟩
        clear hK K
        try simp only [Act.put, List.setIfInBounds_toArray, List.set_cons_zero, List.set_cons_succ]
        refine wpAnyH_take (i := 10) (oi := { dst := some _, op := _, type := _, pos := _, after := _, guard := _ }) (v := ?_) rfl (by kernel_rfl) (by kernel_rfl) (by kernel_rfl) (fun _ _ _ h => h) (Or.inl ⟨by rfl, ?_⟩) (by assumption) ?_
        rotate_left 1
        · intro w hSw; (try dsimp only at hSw); go_simp; try with_reducible rfl
        try simp only [Act.put, List.setIfInBounds_toArray, List.set_cons_zero, List.set_cons_succ]
        refine wpAnyH_done (by kernel_rfl) ?_ _
        go_wp2
        refine bodyPost_ret (v := .tuple #[.agg #[.slice C1 r.s.length j1, .slice C2 r.b.length j2, .slice C3 r.c.length j3, .int .i64 r.h, .int .i64 r.n, .string r.o], .int .i64 t]) (by simp [results, Tryz.results65, go_sem, *]) rfl ⟨_, rfl, below_six (VC.out _ D2).2.2.2 (by omega) _ _ _ _ _ _, built_up hB (by simp; try omega) (agree_six T2)⟩

set_option maxRecDepth 100000 in
set_option maxHeartbeats 8000000 in
theorem sApply_sums (v : Value) (d : Dt) (p : Nat) (f : Int) (w : World) (r : Dt × Int) (hv : DatC w v d) (hd : DtFine d) (h1 : 1 ≤ p) (h2 : p ≤ 52) (hk : takesP p ≤ d.s.length) (cc : 15 ≤ p ∧ p ≤ 38)
    (M : Hid (∀ W u, DatC W u d → Calls Tryz.prog 137 #[u, .int .i64 p, .int .i64 (tp d 1), .int .i64 (tp d 0)] W (ReadC W u d r))) :
    Calls Tryz.prog 65 #[v, .int .i64 p, .int .i64 f] w (ReadC w v d r) := by
  have HD := hv
  obtain ⟨A1, k1, A2, k2, A3, k3, rfl, _⟩ := datC_form hv
  have hs := fine_sl hd
  obtain ⟨r, t⟩ := r
  have t1 : ¬ (d.s.length : Int) < (takesP p : Int) := by omega
  have TK : Hid (∀ W, Calls Tryz.prog 134 #[.int .i64 p] W fun e w' => e = .returned (.int .i64 (takesP p)) ∧ Below W.heap.size W w') := Lib.hid fun W => sTakes_any p W h1 h2
  have HF := Lib.hid (datC_first hv)
  clear hv
  generalize takesP p = tk at *
  go_enter Tryz.func65, Tryz.ntmps65
  go_wp2_with fail
  refine (TK.out _).mono ?_
  rintro e w1 ⟨rfl, hb⟩
  have B1 : Below w.heap.size w w1 := below_step (below_alloc (below_alloc (Below.refl _ _) _) _) hb
  have V1 := whole_b hb (whole_alloc (whole_new w _ _) _)
  have T1 := whole_b hb (whole_new1 w _ _ _)
  clear hb TK
  go_wp2_with fail
  have zv := whole_lt V1
  have zt := whole_lt T1
  have VB : Hid (∀ W, Below w1.heap.size w1 W → Whole W w.heap.size 40 #[.slice A1 d.s.length k1, .slice A2 d.b.length k2, .slice A3 d.c.length k3, .int .i64 d.h, .int .i64 d.n, .string d.o] ∧ Whole W (w.heap.size + 1) 40 #[.slice none 0 0, .slice none 0 0, .slice none 0 0, .int .i64 0, .int .i64 0, .string ⟨#[]⟩] ∧ Below w.heap.size w W) := Lib.hid fun W h => ⟨whole_below V1 h, whole_below T1 h, below_step B1 h⟩
  clear V1 T1 B1
  go_loopw [10] (fun i wr => ∃ k : Nat, k ≤ 3 ∧ k ≤ d.s.length ∧ i = .int .i64 k ∧ Whole wr w1.heap.size 3 (topV d k) ∧ Below w1.heap.size w1 wr) (fun i _ => 3 - (intOf i).toNat)
  case atStart => exact ⟨0, by omega, Nat.zero_le _, rfl, whole_new w1 _ _, below_alloc (Below.refl _ _) _⟩
  case round =>
    obtain ⟨k, hk3, hkn, rfl, HT, hb⟩ := hrel
    have HB := Lib.hid hb
    obtain ⟨hV, hT, hB⟩ := VB.out _ hb
    have zz := hb.size
    clear hb
    by_cases hlt : k < 3 ∧ k < d.s.length
    · obtain ⟨l3, ln⟩ := hlt
      have q1 : (k : Int) < 3 := by omega
      have q2 : (k : Int) < d.s.length := by omega
      obtain ⟨v0, v1, v2, v3, v4, v5⟩ := six_cells hV
      obtain ⟨_, A', c', hv', hc⟩ := HF.out
      simp only [Value.slice.injEq, true_and] at hv'
      obtain ⟨rfl, rfl⟩ := hv'
      obtain ⟨ad, rfl, hc'⟩ := hc (by omega)
      have cm := hc' (d.s.length - 1 - k) (by omega)
      have cx : wr.cell? (ad.add (d.s.length - 1 - k)) = some (.int .i64 (tp d k)) := by rw [hB.cell (World.block_lt_of_cell? w _ cm), cm, tp_at ln]
      obtain ⟨j, hj⟩ : ∃ j, d.s.length - 1 - k = j := ⟨_, rfl⟩
      rw [hj] at cx
      have n1 : IntKind.i64.wrap ((d.s.length : Int) - 1) = (d.s.length : Int) - 1 := IntWalk.i64_in _ (by omega)
      have n2 : IntKind.i64.wrap ((d.s.length : Int) - 1 - k) = (j : Int) := by rw [IntWalk.i64_in _ (by omega)]; omega
      have q3 : (j : Int) < d.s.length := by omega
      obtain ⟨i2, hi2⟩ : ∃ i2, 2 - k = i2 := ⟨_, rfl⟩
      have n3 : IntKind.i64.wrap (2 - (k : Int)) = (i2 : Int) := by rw [IntWalk.i64_in _ (by omega)]; omega
      have q4 : (i2 : Int) < 3 := by omega
      have S0 := whole_set HT (2 - k) (.int .i64 (tp d k))
      rw [topV_set d l3, hi2] at S0
      have HS := Lib.hid S0
      have fT := whole_free HT i2
      obtain ⟨old, ho⟩ : ∃ o, wr.cell? ⟨w1.heap.size, i2, none⟩ = some (.int .i64 o) := by
        rw [whole_cell HT i2]
        have : i2 = 0 ∨ i2 = 1 ∨ i2 = 2 := by omega
        rcases this with rfl | rfl | rfl <;> exact ⟨_, rfl⟩
      generalize hy : tp d k = y at *
      clear hy S0 HT hT hB hj hi2 cm hc hc'
      go_wp2
      go_roundw
      case rel => exact ⟨k + 1, l3, ln, by go_num, HS.out, HB.out.setCell (p := ⟨w1.heap.size, _, none⟩) (Nat.le_refl _) _⟩
      case measure => simp [intOf]; omega
    · have e3 : k = 3 ∨ k = d.s.length := by omega
      rw [topV_end d e3] at HT
      have x0 := whole_cell HT 0
      have x1 := whole_cell HT 1
      have x2 := whole_cell HT 2
      simp at x0 x1 x2
      obtain ⟨v0, v1, v2, v3, v4, v5⟩ := six_cells hV
      have VC : Hid (∀ W, Below wr.heap.size wr W → Whole W w.heap.size 40 #[.slice A1 d.s.length k1, .slice A2 d.b.length k2, .slice A3 d.c.length k3, .int .i64 d.h, .int .i64 d.n, .string d.o] ∧ Whole W w1.heap.size 3 #[.int .i64 (tp d 2), .int .i64 (tp d 1), .int .i64 (tp d 0)] ∧ Whole W (w.heap.size + 1) 40 #[.slice none 0 0, .slice none 0 0, .slice none 0 0, .int .i64 0, .int .i64 0, .string ⟨#[]⟩] ∧ Below w.heap.size w W) := Lib.hid fun W h => ⟨whole_below hV h, whole_below HT h, whole_below hT h, below_step hB h⟩
      have fr := whole_free hT
      clear HF hV HT hT VB HB
      generalize tp d 2 = ta at *
      generalize tp d 1 = tb at *
      generalize tp d 0 = tc at *
      have e4 : k = 3 ∨ k = d.s.length ∧ d.s.length < 3 ∧ (d.s.length : Int) < 3 := by omega
      clear e3 hB
      have g0 : ¬ p ≤ 11 := by omega
      have g1 : ¬ (p : Int) ≤ 11 := by omega
      have g2 : ¬ (p : Int) ≤ 14 := by omega
      have g3 : ¬ p ≤ 14 := by omega
      have g4 : ¬ (51 : Int) ≤ (p : Int) := by omega
      have g5 : ¬ 51 ≤ p := by omega
      have g6 : (p : Int) ≤ 38 := by omega
      have g7 : p ≤ 38 := by omega
      obtain ⟨⟨v0, v1, v2, v3, v4, v5⟩, x0, x1, x2⟩ : (fun w' => (w'.cell? ⟨w.heap.size, 0, none⟩ = some (.slice A1 d.s.length k1) ∧ w'.cell? ⟨w.heap.size, 1, none⟩ = some (.slice A2 d.b.length k2) ∧ w'.cell? ⟨w.heap.size, 2, none⟩ = some (.slice A3 d.c.length k3) ∧ w'.cell? ⟨w.heap.size, 3, none⟩ = some (.int .i64 d.h) ∧ w'.cell? ⟨w.heap.size, 4, none⟩ = some (.int .i64 d.n) ∧ w'.cell? ⟨w.heap.size, 5, none⟩ = some (.string d.o)) ∧ w'.cell? ⟨w1.heap.size, 0, none⟩ = some (.int .i64 ta) ∧ w'.cell? ⟨w1.heap.size, 1, none⟩ = some (.int .i64 tb) ∧ w'.cell? ⟨w1.heap.size, 2, none⟩ = some (.int .i64 tc)) wr := ⟨six_cells (VC.out _ (Below.refl _ _)).1, whole_cell (VC.out _ (Below.refl _ _)).2.1 0, whole_cell (VC.out _ (Below.refl _ _)).2.1 1, whole_cell (VC.out _ (Below.refl _ _)).2.1 2⟩
      rcases e4 with rfl | ⟨rfl, q4, q5⟩
      all_goals
        go_upto_region 14 with fail
        refine wp_region_held_drew (S := fun w' => (w'.cell? ⟨w.heap.size, 0, none⟩ = some (.slice A1 d.s.length k1) ∧ w'.cell? ⟨w.heap.size, 1, none⟩ = some (.slice A2 d.b.length k2) ∧ w'.cell? ⟨w.heap.size, 2, none⟩ = some (.slice A3 d.c.length k3) ∧ w'.cell? ⟨w.heap.size, 3, none⟩ = some (.int .i64 d.h) ∧ w'.cell? ⟨w.heap.size, 4, none⟩ = some (.int .i64 d.n) ∧ w'.cell? ⟨w.heap.size, 5, none⟩ = some (.string d.o)) ∧ w'.cell? ⟨w1.heap.size, 0, none⟩ = some (.int .i64 ta) ∧ w'.cell? ⟨w1.heap.size, 1, none⟩ = some (.int .i64 tb) ∧ w'.cell? ⟨w1.heap.size, 2, none⟩ = some (.int .i64 tc)) (by kernel_rfl) ?_ (fun hHeld => ?_)
        · exact ⟨six_cells (VC.out _ (Below.refl _ _)).1, whole_cell (VC.out _ (Below.refl _ _)).2.1 0, whole_cell (VC.out _ (Below.refl _ _)).2.1 1, whole_cell (VC.out _ (Below.refl _ _)).2.1 2⟩
        refine wpAnyH_take (i := 0) (oi := { dst := some _, op := _, type := _, pos := _, after := _, guard := _ }) (v := ?_) rfl (by kernel_rfl) (by kernel_rfl) (by kernel_rfl) (fun _ _ _ h => h) (Or.inl ⟨by rfl, ?_⟩) (by assumption) ?_
        rotate_left 1
        · intro w hSw; (try dsimp only at hSw); go_simp; try with_reducible rfl
        try simp only [Act.put, List.setIfInBounds_toArray, List.set_cons_zero, List.set_cons_succ]
        refine wpAnyH_take (i := 1) (oi := { dst := some _, op := _, type := _, pos := _, after := _, guard := _ }) (v := ?_) rfl (by kernel_rfl) (by kernel_rfl) (by kernel_rfl) (fun _ _ _ h => h) (Or.inl ⟨by rfl, ?_⟩) (by assumption) ?_
        rotate_left 1
        · intro w hSw; (try dsimp only at hSw); go_simp; try with_reducible rfl
        try simp only [Act.put, List.setIfInBounds_toArray, List.set_cons_zero, List.set_cons_succ]
        refine wpAnyH_take (i := 2) (oi := { dst := some _, op := _, type := _, pos := _, after := _, guard := _ }) (v := ?_) rfl (by kernel_rfl) (by kernel_rfl) (by kernel_rfl) (fun _ _ _ h => h) (Or.inl ⟨by rfl, ?_⟩) (by assumption) ?_
        rotate_left 1
        · intro w hSw; (try dsimp only at hSw); go_simp; try with_reducible rfl
        try simp only [Act.put, List.setIfInBounds_toArray, List.set_cons_zero, List.set_cons_succ]
        refine wpAnyH_take (i := 3) (oi := { dst := some _, op := _, type := _, pos := _, after := _, guard := _ }) (v := ?_) rfl (by kernel_rfl) (by kernel_rfl) (by kernel_rfl) (fun _ _ _ h => h) (Or.inl ⟨by rfl, ?_⟩) (by assumption) ?_
        rotate_left 1
        · intro w hSw; (try dsimp only at hSw); go_simp; try with_reducible rfl
        try simp only [Act.put, List.setIfInBounds_toArray, List.set_cons_zero, List.set_cons_succ]
        refine wpAnyH_take (i := 4) (oi := { dst := some _, op := _, type := _, pos := _, after := _, guard := _ }) (v := ?_) rfl (by kernel_rfl) (by kernel_rfl) (by kernel_rfl) (fun _ _ _ h => h) (Or.inl ⟨by rfl, ?_⟩) (by assumption) ?_
        rotate_left 1
        · intro w hSw; (try dsimp only at hSw); go_simp; try with_reducible rfl
        try simp only [Act.put, List.setIfInBounds_toArray, List.set_cons_zero, List.set_cons_succ]
        refine wpAnyH_take (i := 5) (oi := { dst := some _, op := _, type := _, pos := _, after := _, guard := _ }) (v := ?_) rfl (by kernel_rfl) (by kernel_rfl) (by kernel_rfl) (fun _ _ _ h => h) (Or.inl ⟨by rfl, ?_⟩) (by assumption) ?_
        rotate_left 1
        · intro w hSw; (try dsimp only at hSw); go_simp; try with_reducible rfl
        try simp only [Act.put, List.setIfInBounds_toArray, List.set_cons_zero, List.set_cons_succ]
        refine wpAnyH_take (i := 6) (oi := { dst := some _, op := _, type := _, pos := _, after := _, guard := _ }) (v := ?_) rfl (by kernel_rfl) (by kernel_rfl) (by kernel_rfl) (fun _ _ _ h => h) (Or.inl ⟨by rfl, ?_⟩) (by assumption) ?_
        rotate_left 1
        · intro w hSw; (try dsimp only at hSw); go_simp; try with_reducible rfl
        try simp only [Act.put, List.setIfInBounds_toArray, List.set_cons_zero, List.set_cons_succ]
        refine wpAnyH_take (i := 7) (oi := { dst := some _, op := _, type := _, pos := _, after := _, guard := _ }) (v := ?_) rfl (by kernel_rfl) (by kernel_rfl) (by kernel_rfl) (fun _ _ _ h => h) (Or.inl ⟨by rfl, ?_⟩) (by assumption) ?_
        rotate_left 1
        · intro w hSw; (try dsimp only at hSw); go_simp; try with_reducible rfl
        try simp only [Act.put, List.setIfInBounds_toArray, List.set_cons_zero, List.set_cons_succ]
        refine wpAnyH_ready (rs := [8]) (by kernel_rfl) (by simp) ?_
        refine AllReadyH.cons (o := { dst := some _, op := _, type := _, pos := _, after := _, guard := _ }) rfl (fun K hK => ?_) AllReadyH.nil
        go_simp
        refine (M.out _ _ (datC_below HD (VC.out _ (Below.refl _ _).drew).2.2.2)).mono ?_
        rintro e w2 ⟨u, rfl, hb, hB⟩
        have D2 : Below wr.heap.size wr w2 := below_step (Below.refl _ _).drew hb
        clear hb
        dsimp only at hB ⊢
        have hu := built_now hB (datC_below HD (VC.out _ D2).2.2.2)
        have T2 := (VC.out _ D2).2.2.1
        have zx := D2.size
        obtain ⟨C1, j1, C2, j2, C3, j3, rfl, _⟩ := datC_form hu
        obtain ⟨r0, r1, r2, r3, r4, r5⟩ := six_cells T2
        have fr2 := whole_free T2
        refine hK.out _ _ ?_ (fun hHeld => ?_)
        · try dsimp only
          exact ⟨six_cells (VC.out _ D2).1, whole_cell (VC.out _ D2).2.1 0, whole_cell (VC.out _ D2).2.1 1, whole_cell (VC.out _ D2).2.1 2⟩
        clear hK K
        try simp only [Act.put, List.setIfInBounds_toArray, List.set_cons_zero, List.set_cons_succ]
        refine wpAnyH_take (i := 9) (oi := { dst := some _, op := _, type := _, pos := _, after := _, guard := _ }) (v := ?_) rfl (by kernel_rfl) (by kernel_rfl) (by kernel_rfl) (fun _ _ _ h => h) (Or.inl ⟨by rfl, ?_⟩) (by assumption) ?_
        rotate_left 1
        · intro w hSw; (try dsimp only at hSw); go_simp; try with_reducible rfl
        try simp only [Act.put, List.setIfInBounds_toArray, List.set_cons_zero, List.set_cons_succ]
        refine wpAnyH_take (i := 10) (oi := { dst := some _, op := _, type := _, pos := _, after := _, guard := _ }) (v := ?_) rfl (by kernel_rfl) (by kernel_rfl) (by kernel_rfl) (fun _ _ _ h => h) (Or.inl ⟨by rfl, ?_⟩) (by assumption) ?_
        rotate_left 1
        · intro w hSw; (try dsimp only at hSw); go_simp; try with_reducible rfl
        try simp only [Act.put, List.setIfInBounds_toArray, List.set_cons_zero, List.set_cons_succ]
        refine wpAnyH_ready (rs := [11]) (by kernel_rfl) (by simp) ?_
        refine AllReadyH.cons (o := { dst := none, op := _, type := _, pos := _, after := _, guard := _ }) rfl (fun K hK => ?_) AllReadyH.nil
        go_simp
        refine hK.out _ _ ?_ (fun hHeld => ?_)
        · try dsimp only
          exact ⟨six_cells (whole_six (VC.out _ D2).1 (by omega) _ _ _ _ _ _), whole_cell (whole_six (VC.out _ D2).2.1 (by omega) _ _ _ _ _ _) 0, whole_cell (whole_six (VC.out _ D2).2.1 (by omega) _ _ _ _ _ _) 1, whole_cell (whole_six (VC.out _ D2).2.1 (by omega) _ _ _ _ _ _) 2⟩
        clear hK K
        try simp only [Act.put, List.setIfInBounds_toArray, List.set_cons_zero, List.set_cons_succ]
        refine wpAnyH_take (i := 12) (oi := { dst := some _, op := _, type := _, pos := _, after := _, guard := _ }) (v := ?_) rfl (by kernel_rfl) (by kernel_rfl) (by kernel_rfl) (fun _ _ _ h => h) (Or.inl ⟨by rfl, ?_⟩) (by assumption) ?_
        rotate_left 1
        · intro w hSw; (try dsimp only at hSw); go_simp; try with_reducible rfl
        try simp only [Act.put, List.setIfInBounds_toArray, List.set_cons_zero, List.set_cons_succ]
        refine wpAnyH_done (by kernel_rfl) ?_ _
        go_wp2
        refine bodyPost_ret (v := .tuple #[.agg #[.slice C1 r.s.length j1, .slice C2 r.b.length j2, .slice C3 r.c.length j3, .int .i64 r.h, .int .i64 r.n, .string r.o], .int .i64 t]) (by simp [results, Tryz.results65, go_sem, *]) rfl ⟨_, rfl, below_six (VC.out _ D2).2.2.2 (by omega) _ _ _ _ _ _, built_up hB (by simp; try omega) (agree_six T2)⟩

end Go.Proofs.YthnbaeamekolmaaGreatDoor

namespace Go.Proofs.YthnbaeamekolmaaGreatDoor
open Go.RowKit
set_option linter.unusedVariables false
set_option linter.unusedSimpArgs false

set_option maxRecDepth 100000 in
set_option maxHeartbeats 8000000 in
theorem sApply_mem (v : Value) (d : Dt) (p : Nat) (f : Int) (w : World) (r : Dt × Int) (hv : DatC w v d) (hd : DtFine d) (h1 : 1 ≤ p) (h2 : p ≤ 52) (hk : takesP p ≤ d.s.length) (cc : 39 ≤ p ∧ p ≤ 44)
    (M : Hid (∀ W u, DatC W u d → Calls Tryz.prog 138 #[u, .int .i64 p, .int .i64 (tp d 1), .int .i64 (tp d 0)] W (ReadC W u d r))) :
    Calls Tryz.prog 65 #[v, .int .i64 p, .int .i64 f] w (ReadC w v d r) := by
  have HD := hv
  obtain ⟨A1, k1, A2, k2, A3, k3, rfl, _⟩ := datC_form hv
  have hs := fine_sl hd
  obtain ⟨r, t⟩ := r
  have t1 : ¬ (d.s.length : Int) < (takesP p : Int) := by omega
  have TK : Hid (∀ W, Calls Tryz.prog 134 #[.int .i64 p] W fun e w' => e = .returned (.int .i64 (takesP p)) ∧ Below W.heap.size W w') := Lib.hid fun W => sTakes_any p W h1 h2
  have HF := Lib.hid (datC_first hv)
  clear hv
  generalize takesP p = tk at *
  go_enter Tryz.func65, Tryz.ntmps65
  go_wp2_with fail
  refine (TK.out _).mono ?_
  rintro e w1 ⟨rfl, hb⟩
  have B1 : Below w.heap.size w w1 := below_step (below_alloc (below_alloc (Below.refl _ _) _) _) hb
  have V1 := whole_b hb (whole_alloc (whole_new w _ _) _)
  have T1 := whole_b hb (whole_new1 w _ _ _)
  clear hb TK
  go_wp2_with fail
  have zv := whole_lt V1
  have zt := whole_lt T1
  have VB : Hid (∀ W, Below w1.heap.size w1 W → Whole W w.heap.size 40 #[.slice A1 d.s.length k1, .slice A2 d.b.length k2, .slice A3 d.c.length k3, .int .i64 d.h, .int .i64 d.n, .string d.o] ∧ Whole W (w.heap.size + 1) 40 #[.slice none 0 0, .slice none 0 0, .slice none 0 0, .int .i64 0, .int .i64 0, .string ⟨#[]⟩] ∧ Below w.heap.size w W) := Lib.hid fun W h => ⟨whole_below V1 h, whole_below T1 h, below_step B1 h⟩
  clear V1 T1 B1
  go_loopw [10] (fun i wr => ∃ k : Nat, k ≤ 3 ∧ k ≤ d.s.length ∧ i = .int .i64 k ∧ Whole wr w1.heap.size 3 (topV d k) ∧ Below w1.heap.size w1 wr) (fun i _ => 3 - (intOf i).toNat)
  case atStart => exact ⟨0, by omega, Nat.zero_le _, rfl, whole_new w1 _ _, below_alloc (Below.refl _ _) _⟩
  case round =>
    obtain ⟨k, hk3, hkn, rfl, HT, hb⟩ := hrel
    have HB := Lib.hid hb
    obtain ⟨hV, hT, hB⟩ := VB.out _ hb
    have zz := hb.size
    clear hb
    by_cases hlt : k < 3 ∧ k < d.s.length
    · obtain ⟨l3, ln⟩ := hlt
      have q1 : (k : Int) < 3 := by omega
      have q2 : (k : Int) < d.s.length := by omega
      obtain ⟨v0, v1, v2, v3, v4, v5⟩ := six_cells hV
      obtain ⟨_, A', c', hv', hc⟩ := HF.out
      simp only [Value.slice.injEq, true_and] at hv'
      obtain ⟨rfl, rfl⟩ := hv'
      obtain ⟨ad, rfl, hc'⟩ := hc (by omega)
      have cm := hc' (d.s.length - 1 - k) (by omega)
      have cx : wr.cell? (ad.add (d.s.length - 1 - k)) = some (.int .i64 (tp d k)) := by rw [hB.cell (World.block_lt_of_cell? w _ cm), cm, tp_at ln]
      obtain ⟨j, hj⟩ : ∃ j, d.s.length - 1 - k = j := ⟨_, rfl⟩
      rw [hj] at cx
      have n1 : IntKind.i64.wrap ((d.s.length : Int) - 1) = (d.s.length : Int) - 1 := IntWalk.i64_in _ (by omega)
      have n2 : IntKind.i64.wrap ((d.s.length : Int) - 1 - k) = (j : Int) := by rw [IntWalk.i64_in _ (by omega)]; omega
      have q3 : (j : Int) < d.s.length := by omega
      obtain ⟨i2, hi2⟩ : ∃ i2, 2 - k = i2 := ⟨_, rfl⟩
      have n3 : IntKind.i64.wrap (2 - (k : Int)) = (i2 : Int) := by rw [IntWalk.i64_in _ (by omega)]; omega
      have q4 : (i2 : Int) < 3 := by omega
      have S0 := whole_set HT (2 - k) (.int .i64 (tp d k))
      rw [topV_set d l3, hi2] at S0
      have HS := Lib.hid S0
      have fT := whole_free HT i2
      obtain ⟨old, ho⟩ : ∃ o, wr.cell? ⟨w1.heap.size, i2, none⟩ = some (.int .i64 o) := by
        rw [whole_cell HT i2]
        have : i2 = 0 ∨ i2 = 1 ∨ i2 = 2 := by omega
        rcases this with rfl | rfl | rfl <;> exact ⟨_, rfl⟩
      generalize hy : tp d k = y at *
      clear hy S0 HT hT hB hj hi2 cm hc hc'
      go_wp2
      go_roundw
      case rel => exact ⟨k + 1, l3, ln, by go_num, HS.out, HB.out.setCell (p := ⟨w1.heap.size, _, none⟩) (Nat.le_refl _) _⟩
      case measure => simp [intOf]; omega
    · have e3 : k = 3 ∨ k = d.s.length := by omega
      rw [topV_end d e3] at HT
      have x0 := whole_cell HT 0
      have x1 := whole_cell HT 1
      have x2 := whole_cell HT 2
      simp at x0 x1 x2
      obtain ⟨v0, v1, v2, v3, v4, v5⟩ := six_cells hV
      have VC : Hid (∀ W, Below wr.heap.size wr W → Whole W w.heap.size 40 #[.slice A1 d.s.length k1, .slice A2 d.b.length k2, .slice A3 d.c.length k3, .int .i64 d.h, .int .i64 d.n, .string d.o] ∧ Whole W w1.heap.size 3 #[.int .i64 (tp d 2), .int .i64 (tp d 1), .int .i64 (tp d 0)] ∧ Whole W (w.heap.size + 1) 40 #[.slice none 0 0, .slice none 0 0, .slice none 0 0, .int .i64 0, .int .i64 0, .string ⟨#[]⟩] ∧ Below w.heap.size w W) := Lib.hid fun W h => ⟨whole_below hV h, whole_below HT h, whole_below hT h, below_step hB h⟩
      have fr := whole_free hT
      clear HF hV HT hT VB HB
      generalize tp d 2 = ta at *
      generalize tp d 1 = tb at *
      generalize tp d 0 = tc at *
      have e4 : k = 3 ∨ k = d.s.length ∧ d.s.length < 3 ∧ (d.s.length : Int) < 3 := by omega
      clear e3 hB
      have g0 : ¬ p ≤ 11 := by omega
      have g1 : ¬ (p : Int) ≤ 11 := by omega
      have g2 : ¬ (p : Int) ≤ 14 := by omega
      have g3 : ¬ p ≤ 14 := by omega
      have g4 : ¬ (51 : Int) ≤ (p : Int) := by omega
      have g5 : ¬ 51 ≤ p := by omega
      have g6 : ¬ (p : Int) ≤ 38 := by omega
      have g7 : ¬ p ≤ 38 := by omega
      have g8 : (p : Int) ≤ 44 := by omega
      have g9 : p ≤ 44 := by omega
      obtain ⟨⟨v0, v1, v2, v3, v4, v5⟩, x0, x1, x2⟩ : (fun w' => (w'.cell? ⟨w.heap.size, 0, none⟩ = some (.slice A1 d.s.length k1) ∧ w'.cell? ⟨w.heap.size, 1, none⟩ = some (.slice A2 d.b.length k2) ∧ w'.cell? ⟨w.heap.size, 2, none⟩ = some (.slice A3 d.c.length k3) ∧ w'.cell? ⟨w.heap.size, 3, none⟩ = some (.int .i64 d.h) ∧ w'.cell? ⟨w.heap.size, 4, none⟩ = some (.int .i64 d.n) ∧ w'.cell? ⟨w.heap.size, 5, none⟩ = some (.string d.o)) ∧ w'.cell? ⟨w1.heap.size, 0, none⟩ = some (.int .i64 ta) ∧ w'.cell? ⟨w1.heap.size, 1, none⟩ = some (.int .i64 tb) ∧ w'.cell? ⟨w1.heap.size, 2, none⟩ = some (.int .i64 tc)) wr := ⟨six_cells (VC.out _ (Below.refl _ _)).1, whole_cell (VC.out _ (Below.refl _ _)).2.1 0, whole_cell (VC.out _ (Below.refl _ _)).2.1 1, whole_cell (VC.out _ (Below.refl _ _)).2.1 2⟩
      rcases e4 with rfl | ⟨rfl, q4, q5⟩
      all_goals
        go_upto_region 16 with fail
        refine wp_region_held_drew (S := fun w' => (w'.cell? ⟨w.heap.size, 0, none⟩ = some (.slice A1 d.s.length k1) ∧ w'.cell? ⟨w.heap.size, 1, none⟩ = some (.slice A2 d.b.length k2) ∧ w'.cell? ⟨w.heap.size, 2, none⟩ = some (.slice A3 d.c.length k3) ∧ w'.cell? ⟨w.heap.size, 3, none⟩ = some (.int .i64 d.h) ∧ w'.cell? ⟨w.heap.size, 4, none⟩ = some (.int .i64 d.n) ∧ w'.cell? ⟨w.heap.size, 5, none⟩ = some (.string d.o)) ∧ w'.cell? ⟨w1.heap.size, 0, none⟩ = some (.int .i64 ta) ∧ w'.cell? ⟨w1.heap.size, 1, none⟩ = some (.int .i64 tb) ∧ w'.cell? ⟨w1.heap.size, 2, none⟩ = some (.int .i64 tc)) (by kernel_rfl) ?_ (fun hHeld => ?_)
        · exact ⟨six_cells (VC.out _ (Below.refl _ _)).1, whole_cell (VC.out _ (Below.refl _ _)).2.1 0, whole_cell (VC.out _ (Below.refl _ _)).2.1 1, whole_cell (VC.out _ (Below.refl _ _)).2.1 2⟩
        refine wpAnyH_take (i := 0) (oi := { dst := some _, op := _, type := _, pos := _, after := _, guard := _ }) (v := ?_) rfl (by kernel_rfl) (by kernel_rfl) (by kernel_rfl) (fun _ _ _ h => h) (Or.inl ⟨by rfl, ?_⟩) (by assumption) ?_
        rotate_left 1
        · intro w hSw; (try dsimp only at hSw); go_simp; try with_reducible rfl
        try simp only [Act.put, List.setIfInBounds_toArray, List.set_cons_zero, List.set_cons_succ]
        refine wpAnyH_take (i := 1) (oi := { dst := some _, op := _, type := _, pos := _, after := _, guard := _ }) (v := ?_) rfl (by kernel_rfl) (by kernel_rfl) (by kernel_rfl) (fun _ _ _ h => h) (Or.inl ⟨by rfl, ?_⟩) (by assumption) ?_
        rotate_left 1
        · intro w hSw; (try dsimp only at hSw); go_simp; try with_reducible rfl
        try simp only [Act.put, List.setIfInBounds_toArray, List.set_cons_zero, List.set_cons_succ]
        refine wpAnyH_take (i := 2) (oi := { dst := some _, op := _, type := _, pos := _, after := _, guard := _ }) (v := ?_) rfl (by kernel_rfl) (by kernel_rfl) (by kernel_rfl) (fun _ _ _ h => h) (Or.inl ⟨by rfl, ?_⟩) (by assumption) ?_
        rotate_left 1
        · intro w hSw; (try dsimp only at hSw); go_simp; try with_reducible rfl
        try simp only [Act.put, List.setIfInBounds_toArray, List.set_cons_zero, List.set_cons_succ]
        refine wpAnyH_take (i := 3) (oi := { dst := some _, op := _, type := _, pos := _, after := _, guard := _ }) (v := ?_) rfl (by kernel_rfl) (by kernel_rfl) (by kernel_rfl) (fun _ _ _ h => h) (Or.inl ⟨by rfl, ?_⟩) (by assumption) ?_
        rotate_left 1
        · intro w hSw; (try dsimp only at hSw); go_simp; try with_reducible rfl
        try simp only [Act.put, List.setIfInBounds_toArray, List.set_cons_zero, List.set_cons_succ]
        refine wpAnyH_take (i := 4) (oi := { dst := some _, op := _, type := _, pos := _, after := _, guard := _ }) (v := ?_) rfl (by kernel_rfl) (by kernel_rfl) (by kernel_rfl) (fun _ _ _ h => h) (Or.inl ⟨by rfl, ?_⟩) (by assumption) ?_
        rotate_left 1
        · intro w hSw; (try dsimp only at hSw); go_simp; try with_reducible rfl
        try simp only [Act.put, List.setIfInBounds_toArray, List.set_cons_zero, List.set_cons_succ]
        refine wpAnyH_take (i := 5) (oi := { dst := some _, op := _, type := _, pos := _, after := _, guard := _ }) (v := ?_) rfl (by kernel_rfl) (by kernel_rfl) (by kernel_rfl) (fun _ _ _ h => h) (Or.inl ⟨by rfl, ?_⟩) (by assumption) ?_
        rotate_left 1
        · intro w hSw; (try dsimp only at hSw); go_simp; try with_reducible rfl
        try simp only [Act.put, List.setIfInBounds_toArray, List.set_cons_zero, List.set_cons_succ]
        refine wpAnyH_take (i := 6) (oi := { dst := some _, op := _, type := _, pos := _, after := _, guard := _ }) (v := ?_) rfl (by kernel_rfl) (by kernel_rfl) (by kernel_rfl) (fun _ _ _ h => h) (Or.inl ⟨by rfl, ?_⟩) (by assumption) ?_
        rotate_left 1
        · intro w hSw; (try dsimp only at hSw); go_simp; try with_reducible rfl
        try simp only [Act.put, List.setIfInBounds_toArray, List.set_cons_zero, List.set_cons_succ]
        refine wpAnyH_take (i := 7) (oi := { dst := some _, op := _, type := _, pos := _, after := _, guard := _ }) (v := ?_) rfl (by kernel_rfl) (by kernel_rfl) (by kernel_rfl) (fun _ _ _ h => h) (Or.inl ⟨by rfl, ?_⟩) (by assumption) ?_
        rotate_left 1
        · intro w hSw; (try dsimp only at hSw); go_simp; try with_reducible rfl
        try simp only [Act.put, List.setIfInBounds_toArray, List.set_cons_zero, List.set_cons_succ]
        refine wpAnyH_ready (rs := [8]) (by kernel_rfl) (by simp) ?_
        refine AllReadyH.cons (o := { dst := some _, op := _, type := _, pos := _, after := _, guard := _ }) rfl (fun K hK => ?_) AllReadyH.nil
        go_simp
        refine (M.out _ _ (datC_below HD (VC.out _ (Below.refl _ _).drew).2.2.2)).mono ?_
        rintro e w2 ⟨u, rfl, hb, hB⟩
        have D2 : Below wr.heap.size wr w2 := below_step (Below.refl _ _).drew hb
        clear hb
        dsimp only at hB ⊢
        have hu := built_now hB (datC_below HD (VC.out _ D2).2.2.2)
        have T2 := (VC.out _ D2).2.2.1
        have zx := D2.size
        obtain ⟨C1, j1, C2, j2, C3, j3, rfl, _⟩ := datC_form hu
        obtain ⟨r0, r1, r2, r3, r4, r5⟩ := six_cells T2
        have fr2 := whole_free T2
        refine hK.out _ _ ?_ (fun hHeld => ?_)
        · try dsimp only
          exact ⟨six_cells (VC.out _ D2).1, whole_cell (VC.out _ D2).2.1 0, whole_cell (VC.out _ D2).2.1 1, whole_cell (VC.out _ D2).2.1 2⟩
        clear hK K
        try simp only [Act.put, List.setIfInBounds_toArray, List.set_cons_zero, List.set_cons_succ]
        refine wpAnyH_take (i := 9) (oi := { dst := some _, op := _, type := _, pos := _, after := _, guard := _ }) (v := ?_) rfl (by kernel_rfl) (by kernel_rfl) (by kernel_rfl) (fun _ _ _ h => h) (Or.inl ⟨by rfl, ?_⟩) (by assumption) ?_
        rotate_left 1
        · intro w hSw; (try dsimp only at hSw); go_simp; try with_reducible rfl
        try simp only [Act.put, List.setIfInBounds_toArray, List.set_cons_zero, List.set_cons_succ]
        refine wpAnyH_take (i := 10) (oi := { dst := some _, op := _, type := _, pos := _, after := _, guard := _ }) (v := ?_) rfl (by kernel_rfl) (by kernel_rfl) (by kernel_rfl) (fun _ _ _ h => h) (Or.inl ⟨by rfl, ?_⟩) (by assumption) ?_
        rotate_left 1
        · intro w hSw; (try dsimp only at hSw); go_simp; try with_reducible rfl
        try simp only [Act.put, List.setIfInBounds_toArray, List.set_cons_zero, List.set_cons_succ]
        refine wpAnyH_ready (rs := [11]) (by kernel_rfl) (by simp) ?_
        refine AllReadyH.cons (o := { dst := none, op := _, type := _, pos := _, after := _, guard := _ }) rfl (fun K hK => ?_) AllReadyH.nil
        go_simp
        refine hK.out _ _ ?_ (fun hHeld => ?_)
        · try dsimp only
          exact ⟨six_cells (whole_six (VC.out _ D2).1 (by omega) _ _ _ _ _ _), whole_cell (whole_six (VC.out _ D2).2.1 (by omega) _ _ _ _ _ _) 0, whole_cell (whole_six (VC.out _ D2).2.1 (by omega) _ _ _ _ _ _) 1, whole_cell (whole_six (VC.out _ D2).2.1 (by omega) _ _ _ _ _ _) 2⟩
        clear hK K
        try simp only [Act.put, List.setIfInBounds_toArray, List.set_cons_zero, List.set_cons_succ]
        refine wpAnyH_take (i := 12) (oi := { dst := some _, op := _, type := _, pos := _, after := _, guard := _ }) (v := ?_) rfl (by kernel_rfl) (by kernel_rfl) (by kernel_rfl) (fun _ _ _ h => h) (Or.inl ⟨by rfl, ?_⟩) (by assumption) ?_
        rotate_left 1
        · intro w hSw; (try dsimp only at hSw); go_simp; try with_reducible rfl
        try simp only [Act.put, List.setIfInBounds_toArray, List.set_cons_zero, List.set_cons_succ]
        refine wpAnyH_done (by kernel_rfl) ?_ _
        go_wp2
        refine bodyPost_ret (v := .tuple #[.agg #[.slice C1 r.s.length j1, .slice C2 r.b.length j2, .slice C3 r.c.length j3, .int .i64 r.h, .int .i64 r.n, .string r.o], .int .i64 t]) (by simp [results, Tryz.results65, go_sem, *]) rfl ⟨_, rfl, below_six (VC.out _ D2).2.2.2 (by omega) _ _ _ _ _ _, built_up hB (by simp; try omega) (agree_six T2)⟩

set_option maxRecDepth 100000 in
set_option maxHeartbeats 8000000 in
theorem sApply_say (v : Value) (d : Dt) (p : Nat) (f : Int) (w : World) (r : Dt × Int) (hv : DatC w v d) (hd : DtFine d) (h1 : 1 ≤ p) (h2 : p ≤ 52) (hk : takesP p ≤ d.s.length) (cc : 45 ≤ p ∧ p ≤ 50)
    (M : Hid (∀ W u, DatC W u d → Calls Tryz.prog 139 #[u, .int .i64 p, .int .i64 (tp d 0)] W (ReadC W u d r))) :
    Calls Tryz.prog 65 #[v, .int .i64 p, .int .i64 f] w (ReadC w v d r) := by
  have HD := hv
  obtain ⟨A1, k1, A2, k2, A3, k3, rfl, _⟩ := datC_form hv
  have hs := fine_sl hd
  obtain ⟨r, t⟩ := r
  have t1 : ¬ (d.s.length : Int) < (takesP p : Int) := by omega
  have TK : Hid (∀ W, Calls Tryz.prog 134 #[.int .i64 p] W fun e w' => e = .returned (.int .i64 (takesP p)) ∧ Below W.heap.size W w') := Lib.hid fun W => sTakes_any p W h1 h2
  have HF := Lib.hid (datC_first hv)
  clear hv
  generalize takesP p = tk at *
  go_enter Tryz.func65, Tryz.ntmps65
  go_wp2_with fail
  refine (TK.out _).mono ?_
  rintro e w1 ⟨rfl, hb⟩
  have B1 : Below w.heap.size w w1 := below_step (below_alloc (below_alloc (Below.refl _ _) _) _) hb
  have V1 := whole_b hb (whole_alloc (whole_new w _ _) _)
  have T1 := whole_b hb (whole_new1 w _ _ _)
  clear hb TK
  go_wp2_with fail
  have zv := whole_lt V1
  have zt := whole_lt T1
  have VB : Hid (∀ W, Below w1.heap.size w1 W → Whole W w.heap.size 40 #[.slice A1 d.s.length k1, .slice A2 d.b.length k2, .slice A3 d.c.length k3, .int .i64 d.h, .int .i64 d.n, .string d.o] ∧ Whole W (w.heap.size + 1) 40 #[.slice none 0 0, .slice none 0 0, .slice none 0 0, .int .i64 0, .int .i64 0, .string ⟨#[]⟩] ∧ Below w.heap.size w W) := Lib.hid fun W h => ⟨whole_below V1 h, whole_below T1 h, below_step B1 h⟩
  clear V1 T1 B1
  go_loopw [10] (fun i wr => ∃ k : Nat, k ≤ 3 ∧ k ≤ d.s.length ∧ i = .int .i64 k ∧ Whole wr w1.heap.size 3 (topV d k) ∧ Below w1.heap.size w1 wr) (fun i _ => 3 - (intOf i).toNat)
  case atStart => exact ⟨0, by omega, Nat.zero_le _, rfl, whole_new w1 _ _, below_alloc (Below.refl _ _) _⟩
  case round =>
    obtain ⟨k, hk3, hkn, rfl, HT, hb⟩ := hrel
    have HB := Lib.hid hb
    obtain ⟨hV, hT, hB⟩ := VB.out _ hb
    have zz := hb.size
    clear hb
    by_cases hlt : k < 3 ∧ k < d.s.length
    · obtain ⟨l3, ln⟩ := hlt
      have q1 : (k : Int) < 3 := by omega
      have q2 : (k : Int) < d.s.length := by omega
      obtain ⟨v0, v1, v2, v3, v4, v5⟩ := six_cells hV
      obtain ⟨_, A', c', hv', hc⟩ := HF.out
      simp only [Value.slice.injEq, true_and] at hv'
      obtain ⟨rfl, rfl⟩ := hv'
      obtain ⟨ad, rfl, hc'⟩ := hc (by omega)
      have cm := hc' (d.s.length - 1 - k) (by omega)
      have cx : wr.cell? (ad.add (d.s.length - 1 - k)) = some (.int .i64 (tp d k)) := by rw [hB.cell (World.block_lt_of_cell? w _ cm), cm, tp_at ln]
      obtain ⟨j, hj⟩ : ∃ j, d.s.length - 1 - k = j := ⟨_, rfl⟩
      rw [hj] at cx
      have n1 : IntKind.i64.wrap ((d.s.length : Int) - 1) = (d.s.length : Int) - 1 := IntWalk.i64_in _ (by omega)
      have n2 : IntKind.i64.wrap ((d.s.length : Int) - 1 - k) = (j : Int) := by rw [IntWalk.i64_in _ (by omega)]; omega
      have q3 : (j : Int) < d.s.length := by omega
      obtain ⟨i2, hi2⟩ : ∃ i2, 2 - k = i2 := ⟨_, rfl⟩
      have n3 : IntKind.i64.wrap (2 - (k : Int)) = (i2 : Int) := by rw [IntWalk.i64_in _ (by omega)]; omega
      have q4 : (i2 : Int) < 3 := by omega
      have S0 := whole_set HT (2 - k) (.int .i64 (tp d k))
      rw [topV_set d l3, hi2] at S0
      have HS := Lib.hid S0
      have fT := whole_free HT i2
      obtain ⟨old, ho⟩ : ∃ o, wr.cell? ⟨w1.heap.size, i2, none⟩ = some (.int .i64 o) := by
        rw [whole_cell HT i2]
        have : i2 = 0 ∨ i2 = 1 ∨ i2 = 2 := by omega
        rcases this with rfl | rfl | rfl <;> exact ⟨_, rfl⟩
      generalize hy : tp d k = y at *
      clear hy S0 HT hT hB hj hi2 cm hc hc'
      go_wp2
      go_roundw
      case rel => exact ⟨k + 1, l3, ln, by go_num, HS.out, HB.out.setCell (p := ⟨w1.heap.size, _, none⟩) (Nat.le_refl _) _⟩
      case measure => simp [intOf]; omega
    · have e3 : k = 3 ∨ k = d.s.length := by omega
      rw [topV_end d e3] at HT
      have x0 := whole_cell HT 0
      have x1 := whole_cell HT 1
      have x2 := whole_cell HT 2
      simp at x0 x1 x2
      obtain ⟨v0, v1, v2, v3, v4, v5⟩ := six_cells hV
      have VC : Hid (∀ W, Below wr.heap.size wr W → Whole W w.heap.size 40 #[.slice A1 d.s.length k1, .slice A2 d.b.length k2, .slice A3 d.c.length k3, .int .i64 d.h, .int .i64 d.n, .string d.o] ∧ Whole W w1.heap.size 3 #[.int .i64 (tp d 2), .int .i64 (tp d 1), .int .i64 (tp d 0)] ∧ Whole W (w.heap.size + 1) 40 #[.slice none 0 0, .slice none 0 0, .slice none 0 0, .int .i64 0, .int .i64 0, .string ⟨#[]⟩] ∧ Below w.heap.size w W) := Lib.hid fun W h => ⟨whole_below hV h, whole_below HT h, whole_below hT h, below_step hB h⟩
      have fr := whole_free hT
      clear HF hV HT hT VB HB
      generalize tp d 2 = ta at *
      generalize tp d 1 = tb at *
      generalize tp d 0 = tc at *
      have e4 : k = 3 ∨ k = d.s.length ∧ d.s.length < 3 ∧ (d.s.length : Int) < 3 := by omega
      clear e3 hB
      have g0 : ¬ p ≤ 11 := by omega
      have g1 : ¬ (p : Int) ≤ 11 := by omega
      have g2 : ¬ (p : Int) ≤ 14 := by omega
      have g3 : ¬ p ≤ 14 := by omega
      have g4 : ¬ (51 : Int) ≤ (p : Int) := by omega
      have g5 : ¬ 51 ≤ p := by omega
      have g6 : ¬ (p : Int) ≤ 38 := by omega
      have g7 : ¬ p ≤ 38 := by omega
      have g8 : ¬ (p : Int) ≤ 44 := by omega
      have g9 : ¬ p ≤ 44 := by omega
      obtain ⟨⟨v0, v1, v2, v3, v4, v5⟩, x0, x1, x2⟩ : (fun w' => (w'.cell? ⟨w.heap.size, 0, none⟩ = some (.slice A1 d.s.length k1) ∧ w'.cell? ⟨w.heap.size, 1, none⟩ = some (.slice A2 d.b.length k2) ∧ w'.cell? ⟨w.heap.size, 2, none⟩ = some (.slice A3 d.c.length k3) ∧ w'.cell? ⟨w.heap.size, 3, none⟩ = some (.int .i64 d.h) ∧ w'.cell? ⟨w.heap.size, 4, none⟩ = some (.int .i64 d.n) ∧ w'.cell? ⟨w.heap.size, 5, none⟩ = some (.string d.o)) ∧ w'.cell? ⟨w1.heap.size, 0, none⟩ = some (.int .i64 ta) ∧ w'.cell? ⟨w1.heap.size, 1, none⟩ = some (.int .i64 tb) ∧ w'.cell? ⟨w1.heap.size, 2, none⟩ = some (.int .i64 tc)) wr := ⟨six_cells (VC.out _ (Below.refl _ _)).1, whole_cell (VC.out _ (Below.refl _ _)).2.1 0, whole_cell (VC.out _ (Below.refl _ _)).2.1 1, whole_cell (VC.out _ (Below.refl _ _)).2.1 2⟩
      rcases e4 with rfl | ⟨rfl, q4, q5⟩
      all_goals
        go_upto_region 17 with fail
        refine wp_region_held_drew (S := fun w' => (w'.cell? ⟨w.heap.size, 0, none⟩ = some (.slice A1 d.s.length k1) ∧ w'.cell? ⟨w.heap.size, 1, none⟩ = some (.slice A2 d.b.length k2) ∧ w'.cell? ⟨w.heap.size, 2, none⟩ = some (.slice A3 d.c.length k3) ∧ w'.cell? ⟨w.heap.size, 3, none⟩ = some (.int .i64 d.h) ∧ w'.cell? ⟨w.heap.size, 4, none⟩ = some (.int .i64 d.n) ∧ w'.cell? ⟨w.heap.size, 5, none⟩ = some (.string d.o)) ∧ w'.cell? ⟨w1.heap.size, 0, none⟩ = some (.int .i64 ta) ∧ w'.cell? ⟨w1.heap.size, 1, none⟩ = some (.int .i64 tb) ∧ w'.cell? ⟨w1.heap.size, 2, none⟩ = some (.int .i64 tc)) (by kernel_rfl) ?_ (fun hHeld => ?_)
        · exact ⟨six_cells (VC.out _ (Below.refl _ _)).1, whole_cell (VC.out _ (Below.refl _ _)).2.1 0, whole_cell (VC.out _ (Below.refl _ _)).2.1 1, whole_cell (VC.out _ (Below.refl _ _)).2.1 2⟩
        refine wpAnyH_take (i := 0) (oi := { dst := some _, op := _, type := _, pos := _, after := _, guard := _ }) (v := ?_) rfl (by kernel_rfl) (by kernel_rfl) (by kernel_rfl) (fun _ _ _ h => h) (Or.inl ⟨by rfl, ?_⟩) (by assumption) ?_
        rotate_left 1
        · intro w hSw; (try dsimp only at hSw); go_simp; try with_reducible rfl
        try simp only [Act.put, List.setIfInBounds_toArray, List.set_cons_zero, List.set_cons_succ]
        refine wpAnyH_take (i := 1) (oi := { dst := some _, op := _, type := _, pos := _, after := _, guard := _ }) (v := ?_) rfl (by kernel_rfl) (by kernel_rfl) (by kernel_rfl) (fun _ _ _ h => h) (Or.inl ⟨by rfl, ?_⟩) (by assumption) ?_
        rotate_left 1
        · intro w hSw; (try dsimp only at hSw); go_simp; try with_reducible rfl
        try simp only [Act.put, List.setIfInBounds_toArray, List.set_cons_zero, List.set_cons_succ]
        refine wpAnyH_take (i := 2) (oi := { dst := some _, op := _, type := _, pos := _, after := _, guard := _ }) (v := ?_) rfl (by kernel_rfl) (by kernel_rfl) (by kernel_rfl) (fun _ _ _ h => h) (Or.inl ⟨by rfl, ?_⟩) (by assumption) ?_
        rotate_left 1
        · intro w hSw; (try dsimp only at hSw); go_simp; try with_reducible rfl
        try simp only [Act.put, List.setIfInBounds_toArray, List.set_cons_zero, List.set_cons_succ]
        refine wpAnyH_take (i := 3) (oi := { dst := some _, op := _, type := _, pos := _, after := _, guard := _ }) (v := ?_) rfl (by kernel_rfl) (by kernel_rfl) (by kernel_rfl) (fun _ _ _ h => h) (Or.inl ⟨by rfl, ?_⟩) (by assumption) ?_
        rotate_left 1
        · intro w hSw; (try dsimp only at hSw); go_simp; try with_reducible rfl
        try simp only [Act.put, List.setIfInBounds_toArray, List.set_cons_zero, List.set_cons_succ]
        refine wpAnyH_take (i := 4) (oi := { dst := some _, op := _, type := _, pos := _, after := _, guard := _ }) (v := ?_) rfl (by kernel_rfl) (by kernel_rfl) (by kernel_rfl) (fun _ _ _ h => h) (Or.inl ⟨by rfl, ?_⟩) (by assumption) ?_
        rotate_left 1
        · intro w hSw; (try dsimp only at hSw); go_simp; try with_reducible rfl
        try simp only [Act.put, List.setIfInBounds_toArray, List.set_cons_zero, List.set_cons_succ]
        refine wpAnyH_ready (rs := [5]) (by kernel_rfl) (by simp) ?_
        refine AllReadyH.cons (o := { dst := some _, op := _, type := _, pos := _, after := _, guard := _ }) rfl (fun K hK => ?_) AllReadyH.nil
        go_simp
        refine (M.out _ _ (datC_below HD (VC.out _ (Below.refl _ _).drew).2.2.2)).mono ?_
        rintro e w2 ⟨u, rfl, hb, hB⟩
        have D2 : Below wr.heap.size wr w2 := below_step (Below.refl _ _).drew hb
        clear hb
        dsimp only at hB ⊢
        have hu := built_now hB (datC_below HD (VC.out _ D2).2.2.2)
        have T2 := (VC.out _ D2).2.2.1
        have zx := D2.size
        obtain ⟨C1, j1, C2, j2, C3, j3, rfl, _⟩ := datC_form hu
        obtain ⟨r0, r1, r2, r3, r4, r5⟩ := six_cells T2
        have fr2 := whole_free T2
        refine hK.out _ _ ?_ (fun hHeld => ?_)
        · try dsimp only
          exact ⟨six_cells (VC.out _ D2).1, whole_cell (VC.out _ D2).2.1 0, whole_cell (VC.out _ D2).2.1 1, whole_cell (VC.out _ D2).2.1 2⟩
        clear hK K
        try simp only [Act.put, List.setIfInBounds_toArray, List.set_cons_zero, List.set_cons_succ]
        refine wpAnyH_take (i := 6) (oi := { dst := some _, op := _, type := _, pos := _, after := _, guard := _ }) (v := ?_) rfl (by kernel_rfl) (by kernel_rfl) (by kernel_rfl) (fun _ _ _ h => h) (Or.inl ⟨by rfl, ?_⟩) (by assumption) ?_
        rotate_left 1
        · intro w hSw; (try dsimp only at hSw); go_simp; try with_reducible rfl
        try simp only [Act.put, List.setIfInBounds_toArray, List.set_cons_zero, List.set_cons_succ]
        refine wpAnyH_take (i := 7) (oi := { dst := some _, op := _, type := _, pos := _, after := _, guard := _ }) (v := ?_) rfl (by kernel_rfl) (by kernel_rfl) (by kernel_rfl) (fun _ _ _ h => h) (Or.inl ⟨by rfl, ?_⟩) (by assumption) ?_
        rotate_left 1
        · intro w hSw; (try dsimp only at hSw); go_simp; try with_reducible rfl
        try simp only [Act.put, List.setIfInBounds_toArray, List.set_cons_zero, List.set_cons_succ]
        refine wpAnyH_ready (rs := [8]) (by kernel_rfl) (by simp) ?_
        refine AllReadyH.cons (o := { dst := none, op := _, type := _, pos := _, after := _, guard := _ }) rfl (fun K hK => ?_) AllReadyH.nil
        go_simp
        refine hK.out _ _ ?_ (fun hHeld => ?_)
        · try dsimp only
          exact ⟨six_cells (whole_six (VC.out _ D2).1 (by omega) _ _ _ _ _ _), whole_cell (whole_six (VC.out _ D2).2.1 (by omega) _ _ _ _ _ _) 0, whole_cell (whole_six (VC.out _ D2).2.1 (by omega) _ _ _ _ _ _) 1, whole_cell (whole_six (VC.out _ D2).2.1 (by omega) _ _ _ _ _ _) 2⟩
        clear hK K
        try simp only [Act.put, List.setIfInBounds_toArray, List.set_cons_zero, List.set_cons_succ]
        refine wpAnyH_take (i := 9) (oi := { dst := some _, op := _, type := _, pos := _, after := _, guard := _ }) (v := ?_) rfl (by kernel_rfl) (by kernel_rfl) (by kernel_rfl) (fun _ _ _ h => h) (Or.inl ⟨by rfl, ?_⟩) (by assumption) ?_
        rotate_left 1
        · intro w hSw; (try dsimp only at hSw); go_simp; try with_reducible rfl
        try simp only [Act.put, List.setIfInBounds_toArray, List.set_cons_zero, List.set_cons_succ]
        refine wpAnyH_done (by kernel_rfl) ?_ _
        go_wp2
        refine bodyPost_ret (v := .tuple #[.agg #[.slice C1 r.s.length j1, .slice C2 r.b.length j2, .slice C3 r.c.length j3, .int .i64 r.h, .int .i64 r.n, .string r.o], .int .i64 t]) (by simp [results, Tryz.results65, go_sem, *]) rfl ⟨_, rfl, below_six (VC.out _ D2).2.2.2 (by omega) _ _ _ _ _ _, built_up hB (by simp; try omega) (agree_six T2)⟩

end Go.Proofs.YthnbaeamekolmaaGreatDoor

namespace Go.Proofs.YthnbaeamekolmaaGreatDoor
open Go.RowKit
set_option linter.unusedVariables false
set_option linter.unusedSimpArgs false

/-- ApplyPrim: the data, the throw, the code. -/
def dApply (d : Dt) (p f : Int) : Dt × Int × Int :=
  if dOK d = false then (noDt, 0, 1) else if inB p 1 52 = false then (noDt, 0, 9) else if inB f 0 d.b.length = false then (noDt, 0, 4) else ((dPrim d p.toNat f).1, (dPrim d p.toNat f).2, 0)

theorem dApply_small {d : Dt} (hs : SmallD d) (p f : Int) : SmallD (dApply d p f).1 := by
  unfold dApply
  split
  · exact small_noDt
  split
  · exact small_noDt
  split
  · exact small_noDt
  · rename_i h1 h2 h3
    have h4 := of_inB (show inB p 1 52 = true by simpa using h2)
    exact fine_small (prim_fine (dOK_fine (by simpa using h1)) _ _ (by omega) (by omega))

theorem sPrim_any (p : Int) (w : World) :
    Calls Tryz.prog 63 #[.int .i64 p] w fun e w' => e = .returned (.bool (inB p 1 52)) ∧ w = w' := by
  go_enter Tryz.func63, Tryz.ntmps63
  go_wp2_with (go_at_call 64; refine (sIn_any _ _ _ _).mono ?_; rintro e w' ⟨rfl, rfl⟩)
  go_ret
  exact ⟨rfl, rfl⟩

theorem sApply_any (v : Value) (d : Dt) (p : Nat) (f : Int) (w : World) (hv : DatC w v d) (hd : DtFine d) (h1 : 1 ≤ p) (h2 : p ≤ 52) (f0 : 0 ≤ f) (hf : f ≤ d.b.length) :
    Calls Tryz.prog 65 #[v, .int .i64 p, .int .i64 f] w (ReadC w v d (dPrim d p f)) := by
  by_cases hk : d.s.length < takesP p
  · rw [prim_under hk]; exact sApply_under v d p f w hv hd h1 h2 hk
  · have hk' : takesP p ≤ d.s.length := by omega
    have cls : p ≤ 11 ∨ (12 ≤ p ∧ p ≤ 14) ∨ 51 ≤ p ∨ (15 ≤ p ∧ p ≤ 38) ∨ (39 ≤ p ∧ p ≤ 44) ∨ (45 ≤ p ∧ p ≤ 50) := by omega
    rcases cls with h | h | h | h | h | h
    · exact sApply_moves v d p f w _ hv hd h1 h2 hk' h (Lib.hid fun W u hu => sMoves_any u d p f W hu hd h1 h hk' hf)
    · exact sApply_back v d p f w _ hv hd h1 h2 hk' h (Lib.hid fun W u hu => sBack_any u d p f W hu hd (by omega) hk' f0 hf)
    · exact sApply_back2 v d p f w _ hv hd h1 h2 hk' h (Lib.hid fun W u hu => sBack_any u d p f W hu hd (by omega) hk' f0 hf)
    · exact sApply_sums v d p f w _ hv hd h1 h2 hk' h (Lib.hid fun W u hu => sSums_any u d p f W hu hd h.1 h.2 hk' hf)
    · exact sApply_mem v d p f w _ hv hd h1 h2 hk' h (Lib.hid fun W u hu => sMem_any u d p f W hu hd h.1 h.2 hk' hf)
    · exact sApply_say v d p f w _ hv hd h1 h2 hk' h (Lib.hid fun W u hu => sSays_any u d p f W hu hd h.1 h.2 hk' hf)

set_option maxRecDepth 100000 in
set_option maxHeartbeats 2000000 in
theorem sAp_bad (v : Value) (d : Dt) (p f : Int) (w : World) (hv : DatC w v d) (hk : dOK d = false) :
    Calls Tryz.prog 19 #[v, .int .i64 p, .int .i64 f] w (ResOf w noDt [0, 1]) := by
  have HD := hv
  obtain ⟨A1, k1, A2, k2, A3, k3, rfl, _⟩ := datC_form hv
  clear hv
  go_enter Tryz.func19, Tryz.ntmps19
  go_wp2_with fail
  refine (sOK_any _ d _ (datIn_below HD.1 (below_alloc (below_alloc (Below.refl _ _) _) _))).mono ?_
  rintro e w1 ⟨rfl, hb⟩
  have B1 : Below w.heap.size w w1 := below_step (below_alloc (below_alloc (Below.refl _ _) _) _) hb
  have V1 := whole_b hb (whole_alloc (whole_new w _ _) _)
  have T1 := whole_b hb (whole_new1 w _ _ _)
  clear hb
  obtain ⟨c0, c1, c2, c3, c4, c5⟩ := six_cells V1
  obtain ⟨r0, r1, r2, r3, r4, r5⟩ := six_cells T1
  have fr := whole_free T1
  go_wp2_with (first | (go_at_call 63; refine (sPrim_any _ _).mono ?_; rintro e w' ⟨rfl, rfl⟩) | (go_at_call 64; refine (sIn_any _ _ _ _).mono ?_; rintro e w' ⟨rfl, rfl⟩) | (go_at_call 65; fail))
  refine bodyPost_ret (v := .tuple #[.agg #[.slice none 0 0, .slice none 0 0, .slice none 0 0, .int .i64 0, .int .i64 0, .string ByteArray.empty], .int .i64 0, .int .i64 1]) (by simp [results, Tryz.results19, go_sem, *]; try rfl) rfl ⟨_, rfl, datOf_none _ _ _, ?_⟩
  repeat (first | with_reducible exact B1 | with_reducible refine Below.setCell ?_ (by simp) _)

set_option maxRecDepth 100000 in
set_option maxHeartbeats 2000000 in
theorem sAp_kind (v : Value) (d : Dt) (p f : Int) (w : World) (hv : DatC w v d) (hk : dOK d = true) (hp : inB p 1 52 = false) :
    Calls Tryz.prog 19 #[v, .int .i64 p, .int .i64 f] w (ResOf w noDt [0, 9]) := by
  have HD := hv
  obtain ⟨A1, k1, A2, k2, A3, k3, rfl, _⟩ := datC_form hv
  clear hv
  go_enter Tryz.func19, Tryz.ntmps19
  go_wp2_with fail
  refine (sOK_any _ d _ (datIn_below HD.1 (below_alloc (below_alloc (Below.refl _ _) _) _))).mono ?_
  rintro e w1 ⟨rfl, hb⟩
  have B1 : Below w.heap.size w w1 := below_step (below_alloc (below_alloc (Below.refl _ _) _) _) hb
  have V1 := whole_b hb (whole_alloc (whole_new w _ _) _)
  have T1 := whole_b hb (whole_new1 w _ _ _)
  clear hb
  obtain ⟨c0, c1, c2, c3, c4, c5⟩ := six_cells V1
  obtain ⟨r0, r1, r2, r3, r4, r5⟩ := six_cells T1
  have fr := whole_free T1
  go_wp2_with (first | (go_at_call 63; refine (sPrim_any _ _).mono ?_; rintro e w' ⟨rfl, rfl⟩) | (go_at_call 64; refine (sIn_any _ _ _ _).mono ?_; rintro e w' ⟨rfl, rfl⟩) | (go_at_call 65; fail))
  refine bodyPost_ret (v := .tuple #[.agg #[.slice none 0 0, .slice none 0 0, .slice none 0 0, .int .i64 0, .int .i64 0, .string ByteArray.empty], .int .i64 0, .int .i64 9]) (by simp [results, Tryz.results19, go_sem, *]; try rfl) rfl ⟨_, rfl, datOf_none _ _ _, ?_⟩
  repeat (first | with_reducible exact B1 | with_reducible refine Below.setCell ?_ (by simp) _)

set_option maxRecDepth 100000 in
set_option maxHeartbeats 2000000 in
theorem sAp_range (v : Value) (d : Dt) (p f : Int) (w : World) (hv : DatC w v d) (hk : dOK d = true) (hp : inB p 1 52 = true) (hf : inB f 0 d.b.length = false) :
    Calls Tryz.prog 19 #[v, .int .i64 p, .int .i64 f] w (ResOf w noDt [0, 4]) := by
  have HD := hv
  obtain ⟨A1, k1, A2, k2, A3, k3, rfl, _⟩ := datC_form hv
  clear hv
  go_enter Tryz.func19, Tryz.ntmps19
  go_wp2_with fail
  refine (sOK_any _ d _ (datIn_below HD.1 (below_alloc (below_alloc (Below.refl _ _) _) _))).mono ?_
  rintro e w1 ⟨rfl, hb⟩
  have B1 : Below w.heap.size w w1 := below_step (below_alloc (below_alloc (Below.refl _ _) _) _) hb
  have V1 := whole_b hb (whole_alloc (whole_new w _ _) _)
  have T1 := whole_b hb (whole_new1 w _ _ _)
  clear hb
  obtain ⟨c0, c1, c2, c3, c4, c5⟩ := six_cells V1
  obtain ⟨r0, r1, r2, r3, r4, r5⟩ := six_cells T1
  have fr := whole_free T1
  go_wp2_with (first | (go_at_call 63; refine (sPrim_any _ _).mono ?_; rintro e w' ⟨rfl, rfl⟩) | (go_at_call 64; refine (sIn_any _ _ _ _).mono ?_; rintro e w' ⟨rfl, rfl⟩) | (go_at_call 65; fail))
  refine bodyPost_ret (v := .tuple #[.agg #[.slice none 0 0, .slice none 0 0, .slice none 0 0, .int .i64 0, .int .i64 0, .string ByteArray.empty], .int .i64 0, .int .i64 4]) (by simp [results, Tryz.results19, go_sem, *]; try rfl) rfl ⟨_, rfl, datOf_none _ _ _, ?_⟩
  repeat (first | with_reducible exact B1 | with_reducible refine Below.setCell ?_ (by simp) _)

set_option maxRecDepth 100000 in
set_option maxHeartbeats 2000000 in
theorem sAp_main (v : Value) (d : Dt) (p f : Int) (w : World) (hv : DatC w v d) (hk : dOK d = true) (hp : inB p 1 52 = true) (hf : inB f 0 d.b.length = true) (r : Dt) (t0 : Int) (hr : SmallD r)
    (AP : Hid (∀ W, DatC W v d → Calls Tryz.prog 65 #[v, .int .i64 p, .int .i64 f] W (ReadC W v d (r, t0)))) :
    Calls Tryz.prog 19 #[v, .int .i64 p, .int .i64 f] w (ResOf w r [t0, 0]) := by
  have HD := hv
  obtain ⟨A1, k1, A2, k2, A3, k3, rfl, _⟩ := datC_form hv
  clear hv
  go_enter Tryz.func19, Tryz.ntmps19
  go_wp2_with fail
  refine (sOK_any _ d _ (datIn_below HD.1 (below_alloc (below_alloc (Below.refl _ _) _) _))).mono ?_
  rintro e w1 ⟨rfl, hb⟩
  have B1 : Below w.heap.size w w1 := below_step (below_alloc (below_alloc (Below.refl _ _) _) _) hb
  have V1 := whole_b hb (whole_alloc (whole_new w _ _) _)
  have T1 := whole_b hb (whole_new1 w _ _ _)
  clear hb
  obtain ⟨c0, c1, c2, c3, c4, c5⟩ := six_cells V1
  obtain ⟨r0, r1, r2, r3, r4, r5⟩ := six_cells T1
  have fr := whole_free T1
  go_wp2_with (first | (go_at_call 63; refine (sPrim_any _ _).mono ?_; rintro e w' ⟨rfl, rfl⟩) | (go_at_call 64; refine (sIn_any _ _ _ _).mono ?_; rintro e w' ⟨rfl, rfl⟩) | (go_at_call 65; fail))
  refine (AP.out _ (datC_below HD B1)).mono ?_
  rintro e w2 ⟨u, rfl, hb, hB⟩
  dsimp only at hB ⊢
  have B2 := below_step B1 hb
  have T2 := whole_b hb T1
  have hu := built_now hB (datC_below HD B2)
  obtain ⟨C1, j1, C2, j2, C3, j3, rfl, _⟩ := datC_form hu
  clear hb hB c0 c1 c2 c3 c4 c5 r0 r1 r2 r3 r4 r5 fr V1 T1
  go_wp2_with fail
  refine (sOwn_any _ r _ (datIn_below hu.1 (below_alloc (Below.refl _ _) _)) hr).mono ?_
  rintro e w3 ⟨u', rfl, hu', hb⟩
  obtain ⟨E1, i1, E2, i2, E3, i3, rfl⟩ := datIn_form (datOf_in hu')
  have B3 := below_b hb (below_alloc B2 _)
  have T3 := whole_b hb (whole_alloc T2 _)
  have hlt : w.heap.size + 1 < w2.heap.size := whole_lt T2
  clear hb
  obtain ⟨r0, r1, r2, r3, r4, r5⟩ := six_cells T3
  have fr := whole_free T3
  go_wp2
  refine bodyPost_ret (v := .tuple #[.agg #[.slice E1 r.s.length i1, .slice E2 r.b.length i2, .slice E3 r.c.length i3, .int .i64 r.h, .int .i64 r.n, .string r.o], .int .i64 t0, .int .i64 0]) (by simp [results, Tryz.results19, go_sem, *]) rfl ⟨_, rfl, ?_, ?_⟩
  · refine datOf_top (datOf_base (datOf_keep (lo := w2.heap.size + 1) (by simpa using hu') (fun g h1 h2 h3 => ?_)) (by omega)) (by simp)
    iterate 6 rw [Below.heap_setCell _ _ _ _ (by show g ≠ w.heap.size + 1; omega)]
  · repeat (first | with_reducible exact B3 | with_reducible refine Below.setCell ?_ (by simp) _)

theorem sAp_any (v : Value) (d : Dt) (p f : Int) (w : World) (hv : DatC w v d) :
    Calls Tryz.prog 19 #[v, .int .i64 p, .int .i64 f] w (ResOf w (dApply d p f).1 [(dApply d p f).2.1, (dApply d p f).2.2]) := by
  cases hk : dOK d
  · have e : dApply d p f = (noDt, 0, 1) := by unfold dApply; rw [if_pos hk]
    rw [e]; exact sAp_bad v d p f w hv hk
  cases hp : inB p 1 52
  · have e : dApply d p f = (noDt, 0, 9) := by unfold dApply; rw [if_neg (by rw [hk]; decide), if_pos hp]
    rw [e]; exact sAp_kind v d p f w hv hk hp
  cases hf : inB f 0 d.b.length
  · have e : dApply d p f = (noDt, 0, 4) := by unfold dApply; rw [if_neg (by rw [hk]; decide), if_neg (by rw [hp]; decide), if_pos hf]
    rw [e]; exact sAp_range v d p f w hv hk hp hf
  · have e : dApply d p f = ((dPrim d p.toNat f).1, (dPrim d p.toNat f).2, 0) := by unfold dApply; rw [if_neg (by rw [hk]; decide), if_neg (by rw [hp]; decide), if_neg (by rw [hf]; decide)]
    have hd := dOK_fine hk
    have h1 := of_inB hp
    have h2 := of_inB hf
    have hpn : ((p.toNat : Nat) : Int) = p := by omega
    rw [e]
    exact sAp_main v d p f w hv hk hp hf _ _ (fine_small (prim_fine hd _ _ (by omega) (by omega))) (Lib.hid fun W hW => by
      have h := sApply_any v d p.toNat f W hW hd (by omega) (by omega) h2.1 h2.2
      rw [hpn] at h
      exact h)

end Go.Proofs.YthnbaeamekolmaaGreatDoor
