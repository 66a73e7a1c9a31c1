/- PkU: several of my texts, laid together: AllA, SpcQ, ImpQ. -/
import Derived.Test.YthnbaeamekolmaaGreatDoorPkS
import Derived.Deep.RegionHeld3
import Derived.Test.YthnbaeamekolmaaGreatDoorPkT
namespace Go.Proofs.YthnbaeamekolmaaGreatDoor
open Go.RowKit
set_option linter.unusedVariables false
set_option linter.unusedSimpArgs false

/-- The primitives one by one, up to the first throw: the data, how many were done, the throw. -/
def runAll : Dt → List Int → Nat → Dt × Nat × Int
  | d, [], k => (d, k, 0)
  | d, p :: l, k => if (dPrim d p.toNat 0).2 = 0 then runAll (dPrim d p.toNat 0).1 l (k + 1) else (d, k, (dPrim d p.toNat 0).2)

/-- Are all of them primitives? -/
def allP (l : List Int) : Bool := l.all fun p => inB p 1 52

/-- ApplyAll: the data, how many were done, the throw, the code. -/
def dAll (d : Dt) (l : List Int) : Dt × Int × Int × Int :=
  if 4096 < l.length then (noDt, 0, 0, 2) else if dOK d = false then (noDt, 0, 0, 1) else if allP l = false then (noDt, 0, 0, 9) else ((runAll d l 0).1, ((runAll d l 0).2.1 : Int), (runAll d l 0).2.2, 0)

theorem allP_at {l : List Int} (h : allP l = true) {k : Nat} (hk : k < l.length) : inB l[k] 1 52 = true := by
  unfold allP at h
  exact List.all_eq_true.1 h _ (List.getElem_mem hk)

theorem allP_of {l : List Int} (h : ∀ k (hk : k < l.length), inB l[k] 1 52 = true) : allP l = true := by
  unfold allP
  refine List.all_eq_true.2 fun p hp => ?_
  obtain ⟨k, hk, rfl⟩ := List.mem_iff_getElem.1 hp
  exact h k hk

theorem allP_not {l : List Int} {k : Nat} (hk : k < l.length) (h : inB l[k] 1 52 = false) : allP l = false := by
  cases ha : allP l
  · rfl
  · rw [allP_at ha hk] at h; cases h

/-- A throw leaves the data as they were. -/
theorem prim_same (d : Dt) (p : Nat) (f : Int) (h : (dPrim d p f).2 ≠ 0) : (dPrim d p f).1 = d := by
  unfold dPrim at h ⊢
  split
  · rfl
  split
  · rfl
  rename_i h1 h2
  rw [if_neg h1, if_neg h2] at h
  unfold finE at h ⊢
  split
  · rfl
  split
  · rfl
  · rename_i h3 h4
    rw [if_neg h3, if_neg h4] at h
    exact absurd rfl h

theorem run_next {c : Dt} {l : List Int} {k : Nat} (hk : k < l.length) (h : (dPrim c l[k].toNat 0).2 = 0) : runAll c (l.drop k) k = runAll (dPrim c l[k].toNat 0).1 (l.drop (k + 1)) (k + 1) := by
  rw [List.drop_eq_getElem_cons hk, runAll, if_pos h]

theorem run_throw {c : Dt} {l : List Int} {k : Nat} (hk : k < l.length) (h : (dPrim c l[k].toNat 0).2 ≠ 0) : runAll c (l.drop k) k = (c, k, (dPrim c l[k].toNat 0).2) := by
  rw [List.drop_eq_getElem_cons hk, runAll, if_neg h]

theorem run_end (c : Dt) (l : List Int) : runAll c (l.drop l.length) l.length = (c, l.length, 0) := by
  rw [List.drop_length, runAll]

theorem run_fine : ∀ (l : List Int) {d : Dt} (k : Nat), DtFine d → allP l = true → DtFine (runAll d l k).1
  | [], _, _, h, _ => h
  | p :: l, d, k, h, ha => by
    have hp := of_inB (allP_at ha (k := 0) (by simp))
    simp only [List.getElem_cons_zero] at hp
    have hl : allP l = true := allP_of fun i hi => by
      have := allP_at ha (k := i + 1) (by simpa using hi)
      simpa using this
    rw [runAll]
    split
    · exact run_fine l (k + 1) (prim_fine h _ _ (by omega) (by omega)) hl
    · exact h

theorem dAll_small {d : Dt} (hs : SmallD d) (l : List Int) : SmallD (dAll d l).1 := by
  unfold dAll
  split
  · exact small_noDt
  split
  · exact small_noDt
  split
  · exact small_noDt
  · rename_i h1 h2 h3
    exact fine_small (run_fine l 0 (dOK_fine (by simpa using h2)) (by simpa using h3))

theorem dAll_num (d : Dt) (l : List Int) : 0 ≤ (dAll d l).2.1 := by
  unfold dAll
  split
  · simp
  split
  · simp
  split
  · simp
  · simp

end Go.Proofs.YthnbaeamekolmaaGreatDoor

namespace Go.Proofs.YthnbaeamekolmaaGreatDoor
open Go.RowKit
set_option linter.unusedVariables false
set_option linter.unusedSimpArgs false

set_option maxRecDepth 100000 in
set_option maxHeartbeats 2000000 in
theorem sAll_long (v sv : Value) (d : Dt) (l : List Int) (w : World) (hv : DatC w v d) (hl : Ints w sv l) (hb : 4096 < l.length) :
    Calls Tryz.prog 27 #[v, sv] w (ResOf w noDt [0, 0, 2]) := by
  have HD := hv
  obtain ⟨A1, k1, A2, k2, A3, k3, rfl, _⟩ := datC_form hv
  obtain ⟨_, LA, lc, rfl, hlc⟩ := id hl
  have HL := Lib.hid hl
  clear hv hl
  have hb' : (4096 : Int) < l.length := by omega
  clear hlc
  go_enter Tryz.func27, Tryz.ntmps27
  go_wp2
  refine bodyPost_ret (v := .tuple #[.agg #[.slice none 0 0, .slice none 0 0, .slice none 0 0, .int .i64 0, .int .i64 0, .string ByteArray.empty], .int .i64 0, .int .i64 0, .int .i64 2]) (by simp [results, Tryz.results27, go_sem, *]; try rfl) rfl ⟨_, rfl, datOf_none _ _ _, ?_⟩
  repeat (first | with_reducible exact Below.refl _ _ | with_reducible refine below_alloc ?_ _ | with_reducible exact Below.refl _ _ | with_reducible refine Below.setCell ?_ (by simp) _)

set_option maxRecDepth 100000 in
set_option maxHeartbeats 2000000 in
theorem sAll_bad (v sv : Value) (d : Dt) (l : List Int) (w : World) (hv : DatC w v d) (hl : Ints w sv l) (hb : l.length ≤ 4096) (hk : dOK d = false) :
    Calls Tryz.prog 27 #[v, sv] w (ResOf w noDt [0, 0, 1]) := by
  have HD := hv
  obtain ⟨A1, k1, A2, k2, A3, k3, rfl, _⟩ := datC_form hv
  obtain ⟨_, LA, lc, rfl, hlc⟩ := id hl
  have HL := Lib.hid hl
  clear hv hl
  clear hlc
  have hb' : ¬ (4096 : Int) < l.length := by omega
  go_enter Tryz.func27, Tryz.ntmps27
  go_wp2_with fail
  refine (sOK_any _ d _ (datIn_below HD.1 (below_alloc (below_alloc (Below.refl _ _) _) _))).mono ?_
  rintro e w1 ⟨rfl, hb⟩
  have B1 : Below w.heap.size w w1 := below_step (below_alloc (below_alloc (Below.refl _ _) _) _) hb
  have V1 := whole_b hb (whole_alloc (whole_new w _ _) _)
  have T1 := whole_b hb (whole_new1 w _ _ _)
  clear hb
  obtain ⟨c0, c1, c2, c3, c4, c5⟩ := six_cells V1
  obtain ⟨r0, r1, r2, r3, r4, r5⟩ := six_cells T1
  have fr := whole_free T1
  go_wp2
  refine bodyPost_ret (v := .tuple #[.agg #[.slice none 0 0, .slice none 0 0, .slice none 0 0, .int .i64 0, .int .i64 0, .string ByteArray.empty], .int .i64 0, .int .i64 0, .int .i64 1]) (by simp [results, Tryz.results27, go_sem, *]; try rfl) rfl ⟨_, rfl, datOf_none _ _ _, ?_⟩
  repeat (first | with_reducible exact Below.refl _ _ | with_reducible refine below_alloc ?_ _ | with_reducible exact B1 | with_reducible refine Below.setCell ?_ (by simp) _)

/-- How spec's loop stands: k primitives are done, the data are c. -/
def AllAt (w : World) (v : Value) (d : Dt) (l : List Int) (k : Nat) (c : Dt) (wr : World) : Prop :=
  ∃ C1 j1 C2 j2 C3 j3, DtFine c ∧ runAll d l 0 = runAll c (l.drop k) k ∧ Whole wr w.heap.size 40 #[.slice C1 c.s.length j1, .slice C2 c.b.length j2, .slice C3 c.c.length j3, .int .i64 c.h, .int .i64 c.n, .string c.o] ∧ Built w.heap.size wr v d (.agg #[.slice C1 c.s.length j1, .slice C2 c.b.length j2, .slice C3 c.c.length j3, .int .i64 c.h, .int .i64 c.n, .string c.o]) c ∧ Whole wr (w.heap.size + 1) 40 #[.slice none 0 0, .slice none 0 0, .slice none 0 0, .int .i64 0, .int .i64 0, .string ⟨#[]⟩] ∧ Below w.heap.size w wr

/-- Behind a primitive: its data in a block of their own. -/
def AllCut (w : World) (v : Value) (d : Dt) (cs : Array Value) (c r : Dt) (t : Int) (s10 s11 : Value) (wx : World) : Prop :=
  Built w.heap.size wx v d (.agg cs) c ∧ ∃ g G1 i1 G2 i2 G3 i3, s10 = .pointer (some ⟨g, 0, none⟩) ∧ s11 = .int .i64 t ∧ w.heap.size + 1 < g ∧ Whole wx g 40 #[.slice G1 r.s.length i1, .slice G2 r.b.length i2, .slice G3 r.c.length i3, .int .i64 r.h, .int .i64 r.n, .string r.o] ∧ Whole wx w.heap.size 40 cs ∧ Whole wx (w.heap.size + 1) 40 #[.slice none 0 0, .slice none 0 0, .slice none 0 0, .int .i64 0, .int .i64 0, .string ⟨#[]⟩] ∧ Below w.heap.size w wx ∧ Built w.heap.size wx v d (.agg #[.slice G1 r.s.length i1, .slice G2 r.b.length i2, .slice G3 r.c.length i3, .int .i64 r.h, .int .i64 r.n, .string r.o]) r

set_option maxRecDepth 100000 in
set_option maxHeartbeats 8000000 in
theorem sAll_main (v sv : Value) (d : Dt) (l : List Int) (w : World) (hv : DatC w v d) (hl : Ints w sv l) (hb : l.length ≤ 4096) (hk : dOK d = true) :
    Calls Tryz.prog 27 #[v, sv] w (ResOf w (dAll d l).1 [(dAll d l).2.1, (dAll d l).2.2.1, (dAll d l).2.2.2]) := by
  have HD := hv
  obtain ⟨A1, k1, A2, k2, A3, k3, rfl, _⟩ := datC_form hv
  obtain ⟨_, LA, lc, rfl, hlc⟩ := id hl
  have HL := Lib.hid hl
  clear hv hl
  have hd := dOK_fine hk
  have HLC := Lib.hid hlc
  have EB : Hid (allP l = false → dAll d l = (noDt, 0, 0, 9)) := Lib.hid fun h => by unfold dAll; rw [if_neg (by omega), if_neg (by rw [hk]; decide), if_pos h]
  have EG : Hid (allP l = true → dAll d l = ((runAll d l 0).1, ((runAll d l 0).2.1 : Int), (runAll d l 0).2.2, 0)) := Lib.hid fun h => by unfold dAll; rw [if_neg (by omega), if_neg (by rw [hk]; decide), if_neg (by rw [h]; decide)]
  have HF := Lib.hid hd
  clear hlc hd
  generalize dAll d l = R at *
  have hb' : ¬ (4096 : Int) < l.length := by omega
  go_enter Tryz.func27, Tryz.ntmps27
  go_wp2_with fail
  refine (sOK_any _ d _ (datIn_below HD.1 (below_alloc (below_alloc (Below.refl _ _) _) _))).mono ?_
  rintro e w1 ⟨rfl, hb⟩
  have B1 : Below w.heap.size w w1 := below_step (below_alloc (below_alloc (Below.refl _ _) _) _) hb
  have V1 := whole_b hb (whole_alloc (whole_new w _ _) _)
  have T1 := whole_b hb (whole_new1 w _ _ _)
  clear hb
  have B1' := Lib.hid B1
  have V1' := Lib.hid V1
  have T1' := Lib.hid T1
  have zt := whole_lt T1
  clear V1 T1 B1
  go_wp2_with fail
  go_loopw [8] (fun i wr => ∃ k : Nat, k ≤ l.length ∧ i = .int .i64 k ∧ (∀ j (h : j < l.length), j < k → inB l[j] 1 52 = true) ∧ w1 = wr) (fun i _ => l.length - (intOf i).toNat)
  case atStart => exact ⟨0, Nat.zero_le _, rfl, fun j h h0 => absurd h0 (Nat.not_lt_zero j), rfl⟩
  case round =>
    obtain ⟨k, hkl, rfl, hall, rfl⟩ := hrel
    have HA := Lib.hid hall
    clear hall
    by_cases hlt : k < l.length
    · obtain ⟨la, rfl, hlc⟩ := HLC.out (by omega)
      have cm := hlc k hlt
      have cx : w1.cell? (la.add k) = some (.int .i64 l[k]) := by rw [B1'.out.cell (World.block_lt_of_cell? w _ cm)]; exact cm
      clear hlc cm
      cases hin : inB l[k] 1 52
      · have hbad := allP_not hlt hin
        have e := EB.out hbad
        subst e
        obtain ⟨r0, r1, r2, r3, r4, r5⟩ := six_cells T1'.out
        have fr := whole_free T1'.out
        have B1 := B1'.out
        go_wp2_with (go_at_call 63; refine (sPrim_any _ _).mono ?_; rintro e w' ⟨rfl, rfl⟩)
        refine bodyPost_ret (v := .tuple #[.agg #[.slice none 0 0, .slice none 0 0, .slice none 0 0, .int .i64 0, .int .i64 0, .string ByteArray.empty], .int .i64 0, .int .i64 0, .int .i64 9]) (by simp [results, Tryz.results27, go_sem, *]; try rfl) rfl ⟨_, rfl, datOf_none _ _ _, ?_⟩
        repeat (first | with_reducible exact B1 | with_reducible refine Below.setCell ?_ (by simp) _)
      · have HN : Hid (∀ j (h : j < l.length), j < k + 1 → inB l[j] 1 52 = true) := Lib.hid fun j h hj => by
          rcases Nat.lt_or_ge j k with h2 | h2
          · exact HA.out j h h2
          · obtain rfl : j = k := by omega
            exact hin
        go_wp2_with (go_at_call 63; refine (sPrim_any _ _).mono ?_; rintro e w' ⟨rfl, rfl⟩)
        go_roundw
        case rel => exact ⟨k + 1, hlt, by go_num, HN.out, trivial⟩
        case measure => simp [intOf]; omega
    · obtain rfl : k = l.length := by omega
      have hgood : allP l = true := allP_of fun j hj => HA.out j hj hj
      have e := EG.out hgood
      have HG := Lib.hid hgood
      clear HA EB EG hgood
      subst e
      go_wp2_with fail
      go_loopw [9] (fun i wr => ∃ (k : Nat) (c : Dt), k ≤ l.length ∧ i = .int .i64 k ∧ AllAt w (.agg #[.slice A1 d.s.length k1, .slice A2 d.b.length k2, .slice A3 d.c.length k3, .int .i64 d.h, .int .i64 d.n, .string d.o]) d l k c wr) (fun i _ => l.length - (intOf i).toNat)
      case atStart => exact ⟨0, d, Nat.zero_le _, rfl, _, _, _, _, _, _, HF.out, by rw [List.drop_zero], V1'.out, built_self _ _ _ _, T1'.out, B1'.out⟩
      case round =>
        obtain ⟨k, c, hkl, rfl, C1, j1, C2, j2, C3, j3, hcf, hrun, VW, BU, TW, BW⟩ := hrel
        by_cases hlt : k < l.length
        · obtain ⟨la, rfl, hlc⟩ := HLC.out (by omega)
          have cm := hlc k hlt
          have cx : wr.cell? (la.add k) = some (.int .i64 l[k]) := by rw [BW.cell (World.block_lt_of_cell? w _ cm)]; exact cm
          obtain ⟨v0, v1, v2, v3, v4, v5⟩ := six_cells VW
          have hin := of_inB (allP_at HG.out hlt)
          have hcur := built_now BU (datC_below HD BW)
          have hp := prim_fine hcf l[k].toNat 0 (by omega) (by omega)
          have HNX := Lib.hid (fun h => (run_next (c := c) hlt h))
          have HTH := Lib.hid (fun h => (run_throw (c := c) hlt h))
          have HRUN := Lib.hid hrun
          have AP : Hid (∀ W, DatC W (.agg #[.slice C1 c.s.length j1, .slice C2 c.b.length j2, .slice C3 c.c.length j3, .int .i64 c.h, .int .i64 c.n, .string c.o]) c → Calls Tryz.prog 65 #[.agg #[.slice C1 c.s.length j1, .slice C2 c.b.length j2, .slice C3 c.c.length j3, .int .i64 c.h, .int .i64 c.n, .string c.o], .int .i64 l[k], .int .i64 0] W (ReadC W (.agg #[.slice C1 c.s.length j1, .slice C2 c.b.length j2, .slice C3 c.c.length j3, .int .i64 c.h, .int .i64 c.n, .string c.o]) c (dPrim c l[k].toNat 0))) := Lib.hid fun W hW => by
            have h := sApply_any (.agg #[.slice C1 c.s.length j1, .slice C2 c.b.length j2, .slice C3 c.c.length j3, .int .i64 c.h, .int .i64 c.n, .string c.o]) c l[k].toNat 0 W hW hcf (by omega) (by omega) (by omega) (by omega)
            rw [show ((l[k].toNat : Nat) : Int) = l[k] by omega] at h
            exact h
          have HPF := Lib.hid hp
          have VB : Hid (∀ W, Below wr.heap.size wr W → Whole W w.heap.size 40 #[.slice C1 c.s.length j1, .slice C2 c.b.length j2, .slice C3 c.c.length j3, .int .i64 c.h, .int .i64 c.n, .string c.o] ∧ Whole W (w.heap.size + 1) 40 #[.slice none 0 0, .slice none 0 0, .slice none 0 0, .int .i64 0, .int .i64 0, .string ⟨#[]⟩] ∧ Below w.heap.size w W ∧ W.cell? (la.add k) = some (.int .i64 l[k])) := Lib.hid fun W h => ⟨whole_below VW h, whole_below TW h, below_step BW h, by rw [h.cell (World.block_lt_of_cell? wr _ cx)]; exact cx⟩
          have HBU := Lib.hid BU
          have HCUR := Lib.hid hcur
          have zw := whole_lt TW
          have hcs := Lib.hid (fine_small hcf)
          have HCF := Lib.hid hcf
          clear hin hp hrun BU hcur hcf cm hlc VW TW BW
          generalize hrr : dPrim c l[k].toNat 0 = rr at *
          obtain ⟨r, t⟩ := rr
          clear hrr
          dsimp only at HNX HTH HPF
          generalize l[k] = q at *
          go_upto_region 13 with fail
          go_cut [10, 11] from 33 to 54 (fun s10 s11 wx => AllCut w (.agg #[.slice A1 d.s.length k1, .slice A2 d.b.length k2, .slice A3 d.c.length k3, .int .i64 d.h, .int .i64 d.n, .string d.o]) d #[.slice C1 c.s.length j1, .slice C2 c.b.length j2, .slice C3 c.c.length j3, .int .i64 c.h, .int .i64 c.n, .string c.o] c r t s10 s11 wx)
          case first =>
            go_region_held3 (fun w' => (w'.cell? ⟨w.heap.size, 0, none⟩ = some (.slice C1 c.s.length j1) ∧ w'.cell? ⟨w.heap.size, 1, none⟩ = some (.slice C2 c.b.length j2) ∧ w'.cell? ⟨w.heap.size, 2, none⟩ = some (.slice C3 c.c.length j3) ∧ w'.cell? ⟨w.heap.size, 3, none⟩ = some (.int .i64 c.h) ∧ w'.cell? ⟨w.heap.size, 4, none⟩ = some (.int .i64 c.n) ∧ w'.cell? ⟨w.heap.size, 5, none⟩ = some (.string c.o)) ∧ w'.cell? (la.add k) = some (.int .i64 q))
              (exact ⟨six_cells (VB.out _ (by repeat (first | with_reducible exact D3 | with_reducible exact Below.refl _ _ | with_reducible refine below_alloc ?_ _ | with_reducible refine Below.drew ?_ | with_reducible refine Below.setCell ?_ (by simp; try omega) _))).1, (VB.out _ (by repeat (first | with_reducible exact D3 | with_reducible exact Below.refl _ _ | with_reducible refine below_alloc ?_ _ | with_reducible refine Below.drew ?_ | with_reducible refine Below.setCell ?_ (by simp; try omega) _))).2.2.2⟩)
              (first
                | (go_at_call 65; with_reducible show Calls _ _ _ (World.drew (World.alloc _ _)) _
                   refine (AP.out _ (datC_below HCUR.out (by repeat (first | with_reducible exact D3 | with_reducible exact Below.refl _ _ | with_reducible refine below_alloc ?_ _ | with_reducible refine Below.drew ?_ | with_reducible refine Below.setCell ?_ (by simp; try omega) _)))).mono ?_
                   rintro e w3 ⟨u, rfl, hb, hB⟩
                   have D3 : Below wr.heap.size wr w3 := below_step (by repeat (first | with_reducible exact D3 | with_reducible exact Below.refl _ _ | with_reducible refine below_alloc ?_ _ | with_reducible refine Below.drew ?_ | with_reducible refine Below.setCell ?_ (by simp; try omega) _)) hb
                   have X3 : Whole w3 wr.heap.size 40 #[.slice none 0 0, .slice none 0 0, .slice none 0 0, .int .i64 0, .int .i64 0, .string ⟨#[]⟩] := whole_b hb (whole_new wr _ _)
                   clear hb
                   dsimp only at hB ⊢
                   have hu := built_now hB (datC_below HCUR.out D3)
                   have zx := whole_lt X3
                   obtain ⟨G1, i1, G2, i2, G3, i3, rfl, _⟩ := datC_form hu
                   obtain ⟨x0, x1, x2, x3, x4, x5⟩ := six_cells X3
                   have fx := whole_free X3)
                | (go_at_call 65; with_reducible show Calls _ _ _ (World.drew _) _
                   refine (AP.out _ (datC_below HCUR.out (by repeat (first | with_reducible exact D3 | with_reducible exact Below.refl _ _ | with_reducible refine below_alloc ?_ _ | with_reducible refine Below.drew ?_ | with_reducible refine Below.setCell ?_ (by simp; try omega) _)))).mono ?_
                   rintro e w3 ⟨u, rfl, hb, hB⟩
                   have D3 : Below wr.heap.size wr w3 := below_step (by repeat (first | with_reducible exact D3 | with_reducible exact Below.refl _ _ | with_reducible refine below_alloc ?_ _ | with_reducible refine Below.drew ?_ | with_reducible refine Below.setCell ?_ (by simp; try omega) _)) hb
                   clear hb
                   dsimp only at hB ⊢
                   have hu := built_now hB (datC_below HCUR.out D3)
                   have zx := D3.size
                   obtain ⟨G1, i1, G2, i2, G3, i3, rfl, _⟩ := datC_form hu))
            all_goals (go_wp2_with fail; go_meet)
            · have D4 := below_alloc D3 (.cells #[.slice G1 r.s.length i1, .slice G2 r.b.length i2, .slice G3 r.c.length i3, .int .i64 r.h, .int .i64 r.n, .string r.o] 40)
              exact ⟨built_up HBU.out (Nat.le_refl _) (agree_below D4), _, _, _, _, _, _, _, rfl, rfl, by omega, whole_new w3 _ _, (VB.out _ D4).1, (VB.out _ D4).2.1, (VB.out _ D4).2.2.1, built_up (built_comp HBU.out hB (Nat.le_refl _) (by simp; try omega) (agree_below D3)) (Nat.le_refl _) (agree_below (below_alloc (Below.refl _ _) _))⟩
            · have D4 := below_six D3 (Nat.le_refl wr.heap.size) (.slice G1 r.s.length i1) (.slice G2 r.b.length i2) (.slice G3 r.c.length i3) (.int .i64 r.h) (.int .i64 r.n) (.string r.o)
              exact ⟨built_up HBU.out (Nat.le_refl _) (agree_trans (agree_below D3) (agree_six X3)), _, _, _, _, _, _, _, rfl, rfl, by omega, six_whole X3 _ _ _ _ _ _, (VB.out _ D4).1, (VB.out _ D4).2.1, (VB.out _ D4).2.2.1, built_up (built_comp HBU.out hB (Nat.le_refl _) (by simp; try omega) (agree_below D3)) (Nat.le_refl _) (agree_six X3)⟩
          case rest =>
            clear VB AP HBU HCUR v0 v1 v2 v3 v4 v5 cx zw
            obtain ⟨BC, g, G1, i1, G2, i2, G3, i3, rfl, rfl, hg, XG, VW, TW, BW, BU⟩ := hcut
            by_cases ht : t = 0
            · have HN := Lib.hid (HRUN.out.trans (HNX.out ht))
              subst ht
              obtain ⟨x0, x1, x2, x3, x4, x5⟩ := six_cells XG
              obtain ⟨v0, v1, v2, v3, v4, v5⟩ := six_cells VW
              have fv := whole_free VW
              have zt2 := whole_lt TW
              have REL : Hid (AllAt w (.agg #[.slice A1 d.s.length k1, .slice A2 d.b.length k2, .slice A3 d.c.length k3, .int .i64 d.h, .int .i64 d.n, .string d.o]) d l (k + 1) r ((((((wc.setCell ⟨w.heap.size, 0, none⟩ (.slice G1 r.s.length i1)).setCell ⟨w.heap.size, 1, none⟩ (.slice G2 r.b.length i2)).setCell ⟨w.heap.size, 2, none⟩ (.slice G3 r.c.length i3)).setCell ⟨w.heap.size, 3, none⟩ (.int .i64 r.h)).setCell ⟨w.heap.size, 4, none⟩ (.int .i64 r.n)).setCell ⟨w.heap.size, 5, none⟩ (.string r.o))) :=
                Lib.hid ⟨_, _, _, _, _, _, HPF.out, HN.out, six_whole VW _ _ _ _ _ _, built_up BU (Nat.le_refl _) (agree_six VW), whole_six TW (by omega) _ _ _ _ _ _, below_six BW (Nat.le_refl _) _ _ _ _ _ _⟩
              clear XG VW TW BW BU BC
              go_wp2
              go_roundw
              case rel => exact ⟨k + 1, r, hlt, by go_num, REL.out⟩
              case measure => simp [intOf]; omega
            · have HE := Lib.hid (HRUN.out.trans (HTH.out ht))
              have t0 : (t == 0) = false := by simpa using ht
              have t1 : (t != 0) = true := by simpa using ht
              clear XG BU
              have HS := Lib.hid (fine_small HCF.out)
              obtain ⟨v0, v1, v2, v3, v4, v5⟩ := six_cells VW
              have hlt4 : w.heap.size + 1 < wc.heap.size := whole_lt TW
              have HDC := Lib.hid (built_now BC (datC_below HD BW)).1
              go_wp2_with fail
              refine (sOwn_any _ c _ HDC.out HS.out).mono ?_
              rintro e w4 ⟨u', rfl, hu', hb⟩
              obtain ⟨E1, e1, E2, e2, E3, e3, rfl⟩ := datIn_form (datOf_in hu')
              have B4 := below_b hb BW
              have T4 := whole_b hb TW
              clear hb
              obtain ⟨r0, r1, r2, r3, r4, r5⟩ := six_cells T4
              have fr := whole_free T4
              go_wp2
              refine bodyPost_ret (v := .tuple #[.agg #[.slice E1 c.s.length e1, .slice E2 c.b.length e2, .slice E3 c.c.length e3, .int .i64 c.h, .int .i64 c.n, .string c.o], .int .i64 k, .int .i64 t, .int .i64 0]) (by simp [results, Tryz.results27, go_sem, *]) rfl ?_
              rw [HE.out]
              refine ⟨_, rfl, ?_, below_six B4 (by omega) _ _ _ _ _ _⟩
              refine datOf_top (datOf_base (datOf_keep hu' (fun g h1 h2 h3 => ?_)) (by omega)) (by simp)
              iterate 6 rw [Below.heap_setCell _ _ _ _ (by show g ≠ w.heap.size + 1; omega)]
        · obtain rfl : k = l.length := by omega
          have HE := Lib.hid (hrun.trans (run_end c l))
          have HCF := Lib.hid hcf
          clear hrun hcf
          have HS := Lib.hid (fine_small HCF.out)
          obtain ⟨v0, v1, v2, v3, v4, v5⟩ := six_cells VW
          have hlt4 : w.heap.size + 1 < wr.heap.size := whole_lt TW
          have HDC := Lib.hid (built_now BU (datC_below HD BW)).1
          go_wp2_with fail
          refine (sOwn_any _ c _ HDC.out HS.out).mono ?_
          rintro e w4 ⟨u', rfl, hu', hb⟩
          obtain ⟨E1, e1, E2, e2, E3, e3, rfl⟩ := datIn_form (datOf_in hu')
          have B4 := below_b hb BW
          have T4 := whole_b hb TW
          clear hb
          obtain ⟨r0, r1, r2, r3, r4, r5⟩ := six_cells T4
          have fr := whole_free T4
          go_wp2
          refine bodyPost_ret (v := .tuple #[.agg #[.slice E1 c.s.length e1, .slice E2 c.b.length e2, .slice E3 c.c.length e3, .int .i64 c.h, .int .i64 c.n, .string c.o], .int .i64 l.length, .int .i64 0, .int .i64 0]) (by simp [results, Tryz.results27, go_sem, *]) rfl ?_
          rw [HE.out]
          refine ⟨_, rfl, ?_, below_six B4 (by omega) _ _ _ _ _ _⟩
          refine datOf_top (datOf_base (datOf_keep hu' (fun g h1 h2 h3 => ?_)) (by omega)) (by simp)
          iterate 6 rw [Below.heap_setCell _ _ _ _ (by show g ≠ w.heap.size + 1; omega)]

theorem sAll_any (v sv : Value) (d : Dt) (l : List Int) (w : World) (hv : DatC w v d) (hl : Ints w sv l) :
    Calls Tryz.prog 27 #[v, sv] w (ResOf w (dAll d l).1 [(dAll d l).2.1, (dAll d l).2.2.1, (dAll d l).2.2.2]) := by
  by_cases hb : 4096 < l.length
  · have e : dAll d l = (noDt, 0, 0, 2) := by unfold dAll; rw [if_pos hb]
    rw [e]; exact sAll_long v sv d l w hv hl hb
  cases hk : dOK d
  · have e : dAll d l = (noDt, 0, 0, 1) := by unfold dAll; rw [if_neg hb, if_pos hk]
    rw [e]; exact sAll_bad v sv d l w hv hl (by omega) hk
  · exact sAll_main v sv d l w hv hl (by omega) hk

end Go.Proofs.YthnbaeamekolmaaGreatDoor

namespace Go.Proofs.YthnbaeamekolmaaGreatDoor
open Go.RowKit
set_option linter.unusedVariables false
set_option linter.unusedSimpArgs false

set_option maxRecDepth 100000 in
set_option maxHeartbeats 2000000 in
theorem iAll_long (v sv : Value) (d : Dt) (l : List Int) (w : World) (hv : DatIn w v d) (hl : Ints w sv l) (hb : 4096 < l.length) :
    Calls Tryz.prog 26 #[v, sv] w (ResOf w noDt [0, 0, 2]) := by
  have HD := hv
  obtain ⟨A1, k1, A2, k2, A3, k3, rfl⟩ := datIn_form hv
  obtain ⟨_, LA, lc, rfl, hlc⟩ := id hl
  clear hv hl
  have hb' : (4096 : Int) < l.length := by omega
  clear hlc
  go_enter Tryz.func26, Tryz.ntmps26
  go_wp2
  refine bodyPost_ret (v := .tuple #[.agg #[.slice none 0 0, .slice none 0 0, .slice none 0 0, .int .i64 0, .int .i64 0, .string ByteArray.empty], .int .i64 0, .int .i64 0, .int .i64 2]) (by simp [results, Tryz.results26, go_sem, *]; try rfl) rfl ⟨_, rfl, datOf_none _ _ _, ?_⟩
  repeat (first | with_reducible exact Below.refl _ _ | with_reducible refine below_alloc ?_ _ | with_reducible exact Below.refl _ _ | with_reducible refine Below.setCell ?_ (by simp) _)

set_option maxRecDepth 100000 in
set_option maxHeartbeats 2000000 in
theorem iAll_bad (v sv : Value) (d : Dt) (l : List Int) (w : World) (hv : DatIn w v d) (hl : Ints w sv l) (hb : l.length ≤ 4096) (hk : dOK d = false) :
    Calls Tryz.prog 26 #[v, sv] w (ResOf w noDt [0, 0, 1]) := by
  have HD := hv
  obtain ⟨A1, k1, A2, k2, A3, k3, rfl⟩ := datIn_form hv
  obtain ⟨_, LA, lc, rfl, hlc⟩ := id hl
  clear hv hl
  clear hlc
  have hb' : ¬ (4096 : Int) < l.length := by omega
  go_enter Tryz.func26, Tryz.ntmps26
  go_wp2_with fail
  refine (dataOK_any _ d _ (datIn_below HD (below_alloc (below_alloc (Below.refl _ _) _) _))).mono ?_
  rintro e w1 ⟨rfl, hb⟩
  have B1 : Below w.heap.size w w1 := below_step (below_alloc (below_alloc (Below.refl _ _) _) _) hb
  have V1 := whole_b hb (whole_alloc (whole_new w _ _) _)
  have T1 := whole_b hb (whole_new1 w _ _ _)
  clear hb
  obtain ⟨c0, c1, c2, c3, c4, c5⟩ := six_cells V1
  obtain ⟨r0, r1, r2, r3, r4, r5⟩ := six_cells T1
  have fr := whole_free T1
  go_wp2
  refine bodyPost_ret (v := .tuple #[.agg #[.slice none 0 0, .slice none 0 0, .slice none 0 0, .int .i64 0, .int .i64 0, .string ByteArray.empty], .int .i64 0, .int .i64 0, .int .i64 1]) (by simp [results, Tryz.results26, go_sem, *]; try rfl) rfl ⟨_, rfl, datOf_none _ _ _, ?_⟩
  repeat (first | with_reducible exact Below.refl _ _ | with_reducible refine below_alloc ?_ _ | with_reducible exact B1 | with_reducible refine Below.setCell ?_ (by simp) _)

set_option maxRecDepth 100000 in
set_option maxHeartbeats 8000000 in
theorem iAll_main (v sv : Value) (d : Dt) (l : List Int) (w : World) (hv : DatIn w v d) (hl : Ints w sv l) (hT : Tb5 w) (hb : l.length ≤ 4096) (hk : dOK d = true) :
    Calls Tryz.prog 26 #[v, sv] w (ResOf w (dAll d l).1 [(dAll d l).2.1, (dAll d l).2.2.1, (dAll d l).2.2.2]) := by
  have HD := hv
  obtain ⟨A1, k1, A2, k2, A3, k3, rfl⟩ := datIn_form hv
  obtain ⟨_, LA, lc, rfl, hlc⟩ := id hl
  clear hv hl
  have hd := dOK_fine hk
  have hs := fine_small hd
  have HLC := Lib.hid hlc
  have EB : Hid (allP l = false → dAll d l = (noDt, 0, 0, 9)) := Lib.hid fun h => by unfold dAll; rw [if_neg (by omega), if_neg (by rw [hk]; decide), if_pos h]
  have EG : Hid (allP l = true → dAll d l = ((runAll d l 0).1, ((runAll d l 0).2.1 : Int), (runAll d l 0).2.2, 0)) := Lib.hid fun h => by unfold dAll; rw [if_neg (by omega), if_neg (by rw [hk]; decide), if_neg (by rw [h]; decide)]
  have HF := Lib.hid hd
  have HS := Lib.hid hs
  have HT := Lib.hid hT
  clear hlc hd hs hT
  generalize dAll d l = R at *
  have hb' : ¬ (4096 : Int) < l.length := by omega
  go_enter Tryz.func26, Tryz.ntmps26
  go_wp2_with fail
  refine (dataOK_any _ d _ (datIn_below HD (below_alloc (below_alloc (Below.refl _ _) _) _))).mono ?_
  rintro e w1 ⟨rfl, hb⟩
  have B1 : Below w.heap.size w w1 := below_step (below_alloc (below_alloc (Below.refl _ _) _) _) hb
  have V1 := whole_b hb (whole_alloc (whole_new w _ _) _)
  have T1 := whole_b hb (whole_new1 w _ _ _)
  clear hb
  go_wp2_with fail
  refine (table_any _).mono ?_
  rintro e w2 ⟨v, rfl, ⟨tg, rfl, HP0⟩, hb⟩
  have HP := Lib.hid HP0
  have B2 := Lib.hid (below_step B1 hb)
  have V2 := Lib.hid (whole_b hb V1)
  have T2 := Lib.hid (whole_b hb T1)
  have hl2 := whole_lt T2.out
  clear hb V1 T1 B1 HP0
  go_wp2_with fail
  go_loopw [26] (fun i wr => ∃ k : Nat, k ≤ l.length ∧ i = .int .i64 k ∧ (∀ j (h : j < l.length), j < k → inB l[j] 1 52 = true) ∧ w2 = wr) (fun i _ => l.length - (intOf i).toNat)
  case atStart => exact ⟨0, Nat.zero_le _, rfl, fun j h h0 => absurd h0 (Nat.not_lt_zero j), rfl⟩
  case round =>
    obtain ⟨k, hkl, rfl, hall, rfl⟩ := hrel
    have HA := Lib.hid hall
    clear hall
    by_cases hlt : k < l.length
    · obtain ⟨la, rfl, hlc⟩ := HLC.out (by omega)
      have cm := hlc k hlt
      have cx : w2.cell? (la.add k) = some (.int .i64 l[k]) := by rw [B2.out.cell (World.block_lt_of_cell? w _ cm)]; exact cm
      clear hlc cm
      cases hin : inB l[k] 1 52
      · have hbad := allP_not hlt hin
        have e := EB.out hbad
        subst e
        obtain ⟨r0, r1, r2, r3, r4, r5⟩ := six_cells T2.out
        have fr := whole_free T2.out
        have B1 := B2.out
        go_wp2_with (go_at_call 59; refine (isPrim_any _ _ _ _).mono ?_; rintro e w' ⟨rfl, rfl⟩)
        refine bodyPost_ret (v := .tuple #[.agg #[.slice none 0 0, .slice none 0 0, .slice none 0 0, .int .i64 0, .int .i64 0, .string ByteArray.empty], .int .i64 0, .int .i64 0, .int .i64 9]) (by simp [results, Tryz.results26, go_sem, *]; try rfl) rfl ⟨_, rfl, datOf_none _ _ _, ?_⟩
        repeat (first | with_reducible exact B1 | with_reducible refine Below.setCell ?_ (by simp) _)
      · have HN : Hid (∀ j (h : j < l.length), j < k + 1 → inB l[j] 1 52 = true) := Lib.hid fun j h hj => by
          rcases Nat.lt_or_ge j k with h2 | h2
          · exact HA.out j h h2
          · obtain rfl : j = k := by omega
            exact hin
        go_wp2_with (go_at_call 59; refine (isPrim_any _ _ _ _).mono ?_; rintro e w' ⟨rfl, rfl⟩)
        go_roundw
        case rel => exact ⟨k + 1, hlt, by go_num, HN.out, trivial⟩
        case measure => simp [intOf]; omega
    · obtain rfl : k = l.length := by omega
      have hgood : allP l = true := allP_of fun j hj => HA.out j hj hj
      have e := EG.out hgood
      have HG := Lib.hid hgood
      clear HA EB EG hgood
      subst e
      obtain ⟨c0, c1, c2, c3, c4, c5⟩ := six_cells V2.out
      go_wp2_with fail
      clear c0 c1 c2 c3 c4 c5
      refine (ownData_any _ d _ (datIn_below HD B2.out) HS.out).mono ?_
      rintro e w3 ⟨u, rfl, hu, hb⟩
      obtain ⟨C1, j1, C2, j2, C3, j3, rfl⟩ := datIn_form (datOf_in hu)
      have HBX := Lib.hid (box_new hu hb.size)
      have B3 := Lib.hid (below_alloc hb (.cells #[.slice C1 d.s.length j1, .slice C2 d.b.length j2, .slice C3 d.c.length j3, .int .i64 d.h, .int .i64 d.n, .string d.o] 40))
      have z3 := hb.size
      clear hb hu
      go_wp2_with fail
      go_loopw [40] (fun i wr => ∃ (k : Nat) (c : Dt), k ≤ l.length ∧ i = .int .i64 k ∧ DtFine c ∧ runAll d l 0 = runAll c (l.drop k) k ∧ BoxIs wr w2.heap.size w3.heap.size c ∧ Below w2.heap.size w2 wr) (fun i _ => l.length - (intOf i).toNat)
      case atStart => exact ⟨0, d, Nat.zero_le _, rfl, HF.out, by rw [List.drop_zero], HBX.out, B3.out⟩
      case round =>
        obtain ⟨k, c, hkl, rfl, hcf, hrun, hbx, hbw⟩ := hrel
        have TT := whole_below T2.out hbw
        have BT := below_step B2.out hbw
        clear HBX B3
        have HBX := Lib.hid hbx
        by_cases hlt : k < l.length
        · obtain ⟨la, rfl, hlc⟩ := HLC.out (by omega)
          have cm := hlc k hlt
          have cx : wr.cell? (la.add k) = some (.int .i64 l[k]) := by rw [BT.cell (World.block_lt_of_cell? w _ cm)]; exact cm
          have hin := of_inB (allP_at HG.out hlt)
          obtain ⟨fv, ⟨a0, a1, a2, a3⟩, hE⟩ := HP.out l[k].toNat (by omega) (by omega)
          rw [← hbw.cell (World.block_lt_of_cell? w2 _ a0)] at a0
          rw [← hbw.cell (World.block_lt_of_cell? w2 _ a1)] at a1
          rw [← hbw.cell (World.block_lt_of_cell? w2 _ a2)] at a2
          rw [← hbw.cell (World.block_lt_of_cell? w2 _ a3)] at a3
          obtain ⟨i, hi⟩ : ∃ i, l[k].toNat - 1 = i := ⟨_, rfl⟩
          rw [hi] at a0 a1 a2 a3
          have n1 : IntKind.i64.wrap (l[k] - 1) = (i : Int) := by rw [IntWalk.i64_in _ (by omega)]; omega
          have n2 : (i : Int) < 52 := by omega
          have AP := Lib.hid (apply_any Tb5 tb_stable wr w2.heap.size w3.heap.size l[k].toNat c fv 0 (effOf_below hE hbw) hbx hcf (tb_stable _ _ HT.out BT) (by omega) (by omega) (by omega) (by omega))
          have HPF := Lib.hid (prim_fine hcf l[k].toNat 0 (by omega) (by omega))
          have HNX := Lib.hid (fun h => hrun.trans (run_next (c := c) hlt h))
          have HTH := Lib.hid (fun h => hrun.trans (run_throw (c := c) hlt h))
          have HSM := Lib.hid (prim_same c l[k].toNat 0)
          have HTT := Lib.hid TT
          have HBT := Lib.hid BT
          have HBW := Lib.hid hbw
          clear hin hE hi hrun hcf hbx cm hlc TT BT HBX hbw
          generalize takesP l[k].toNat = tk at *
          generalize needsP l[k].toNat = tn at *
          generalize dropsP l[k].toNat = td at *
          generalize hrr : dPrim c l[k].toNat 0 = rr at *
          obtain ⟨r, t⟩ := rr
          clear hrr
          dsimp only at HNX HTH HPF HSM
          generalize l[k] = q at *
          go_wp2_with fail
          refine AP.out.mono ?_
          rintro e w4 ⟨rfl, hbx, hb⟩
          dsimp only at hbx ⊢
          have HBX := Lib.hid hbx
          have TT := whole_keep HTT.out (hb.block _ hl2)
          have hbw : Below w2.heap.size w2 w4 := HBW.out.trans hb
          have BT := below_step B2.out hbw
          clear hb hbx cx a0 a1 a2 a3 AP
          by_cases ht : t = 0
          · have HN := Lib.hid (HNX.out ht)
            subst ht
            have HW := Lib.hid hbw
            clear hbw TT BT
            go_wp2
            go_roundw
            case rel => exact ⟨k + 1, r, hlt, by go_num, HPF.out, HN.out, HBX.out, HW.out⟩
            case measure => simp [intOf]; omega
          · have HE := Lib.hid (HTH.out ht)
            have hsm := HSM.out ht
            have t0 : (t == 0) = false := by simpa using ht
            have t1 : (t != 0) = true := by simpa using ht
            subst hsm
            clear hbw
            obtain ⟨E1, e1, E2, e2, E3, e3, XE, hde⟩ := box_data HBX.out
            obtain ⟨c0, c1, c2, c3, c4, c5⟩ := six_cells XE
            obtain ⟨r0, r1, r2, r3, r4, r5⟩ := six_cells TT
            have fr := whole_free TT
            have zg := whole_lt XE
            go_wp2
            refine bodyPost_ret (v := .tuple #[.agg #[.slice E1 r.s.length e1, .slice E2 r.b.length e2, .slice E3 r.c.length e3, .int .i64 r.h, .int .i64 r.n, .string r.o], .int .i64 k, .int .i64 t, .int .i64 0]) (by simp [results, Tryz.results26, go_sem, *]) rfl ?_
            rw [HE.out]
            refine ⟨_, rfl, ?_, below_six BT (by omega) _ _ _ _ _ _⟩
            refine datOf_top (datOf_base (datOf_keep hde (fun g h1 h2 h3 => ?_)) (by omega)) (by simp)
            iterate 6 rw [Below.heap_setCell _ _ _ _ (by show g ≠ w.heap.size + 1; omega)]
        · obtain rfl : k = l.length := by omega
          have HE := Lib.hid (hrun.trans (run_end c l))
          clear hrun hcf hbx
          obtain ⟨E1, e1, E2, e2, E3, e3, XE, hde⟩ := box_data HBX.out
          obtain ⟨c0, c1, c2, c3, c4, c5⟩ := six_cells XE
          obtain ⟨r0, r1, r2, r3, r4, r5⟩ := six_cells TT
          have fr := whole_free TT
          have zg := whole_lt XE
          go_wp2
          refine bodyPost_ret (v := .tuple #[.agg #[.slice E1 c.s.length e1, .slice E2 c.b.length e2, .slice E3 c.c.length e3, .int .i64 c.h, .int .i64 c.n, .string c.o], .int .i64 l.length, .int .i64 0, .int .i64 0]) (by simp [results, Tryz.results26, go_sem, *]) rfl ?_
          rw [HE.out]
          refine ⟨_, rfl, ?_, below_six BT (by omega) _ _ _ _ _ _⟩
          refine datOf_top (datOf_base (datOf_keep hde (fun g h1 h2 h3 => ?_)) (by omega)) (by simp)
          iterate 6 rw [Below.heap_setCell _ _ _ _ (by show g ≠ w.heap.size + 1; omega)]

theorem iAll_any (v sv : Value) (d : Dt) (l : List Int) (w : World) (hv : DatIn w v d) (hl : Ints w sv l) (hT : Tb5 w) :
    Calls Tryz.prog 26 #[v, sv] w (ResOf w (dAll d l).1 [(dAll d l).2.1, (dAll d l).2.2.1, (dAll d l).2.2.2]) := by
  by_cases hb : 4096 < l.length
  · have e : dAll d l = (noDt, 0, 0, 2) := by unfold dAll; rw [if_pos hb]
    rw [e]; exact iAll_long v sv d l w hv hl hb
  cases hk : dOK d
  · have e : dAll d l = (noDt, 0, 0, 1) := by unfold dAll; rw [if_neg hb, if_pos hk]
    rw [e]; exact iAll_bad v sv d l w hv hl (by omega) hk
  · exact iAll_main v sv d l w hv hl hT (by omega) hk

end Go.Proofs.YthnbaeamekolmaaGreatDoor
