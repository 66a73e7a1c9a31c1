/- PkR: several of my texts, laid together: SpcK, SpcL. -/
import Derived.Test.YthnbaeamekolmaaGreatDoorPkM
import Derived.Test.YthnbaeamekolmaaGreatDoorPkP
import Derived.Deep.RegionHeld3
import Derived.Test.YthnbaeamekolmaaGreatDoorPkD
import Derived.Test.YthnbaeamekolmaaGreatDoorPkH
import Derived.Test.YthnbaeamekolmaaGreatDoorPkG
namespace Go.Proofs.YthnbaeamekolmaaGreatDoor
open Go.RowKit
set_option linter.unusedVariables false
set_option linter.unusedSimpArgs false

set_option maxRecDepth 100000 in
set_option maxHeartbeats 4000000 in
theorem sMem_39n (v : Value) (d : Dt) (b c : Int) (w : World) (hv : DatC w v d) (hd : DtFine d) (hk : dPlace d c = none) :
    Calls Tryz.prog 138 #[v, .int .i64 39, .int .i64 b, .int .i64 c] w (ReadC w v d (d, -9)) := by
  have HD := hv
  obtain ⟨A1, k1, A2, k2, A3, k3, rfl, _⟩ := datC_form hv
  have hs := fine_sl hd
  have HF := Lib.hid hd
  clear hv
  go_enter Tryz.func138, Tryz.ntmps138
  go_wp2_with fail
  have V2 := whole_alloc (whole_new w 40 #[.slice A1 d.s.length k1, .slice A2 d.b.length k2, .slice A3 d.c.length k3, .int .i64 d.h, .int .i64 d.n, .string d.o]) (.cells #[.slice none 0 0, .slice none 0 0, .slice none 0 0, .int .i64 0, .int .i64 0, .string ⟨#[]⟩] 40)
  have T2 := whole_new1 w (.cells #[.slice A1 d.s.length k1, .slice A2 d.b.length k2, .slice A3 d.c.length k3, .int .i64 d.h, .int .i64 d.n, .string d.o] 40) 40 #[.slice none 0 0, .slice none 0 0, .slice none 0 0, .int .i64 0, .int .i64 0, .string ⟨#[]⟩]
  have B2 : Below w.heap.size w ((w.alloc (.cells #[.slice A1 d.s.length k1, .slice A2 d.b.length k2, .slice A3 d.c.length k3, .int .i64 d.h, .int .i64 d.n, .string d.o] 40)).alloc (.cells #[.slice none 0 0, .slice none 0 0, .slice none 0 0, .int .i64 0, .int .i64 0, .string ⟨#[]⟩] 40)) := below_alloc (below_alloc (Below.refl _ _) _) _
  have zw2 := whole_lt T2
  have zq2 : ((w.alloc (.cells #[.slice A1 d.s.length k1, .slice A2 d.b.length k2, .slice A3 d.c.length k3, .int .i64 d.h, .int .i64 d.n, .string d.o] 40)).alloc (.cells #[.slice none 0 0, .slice none 0 0, .slice none 0 0, .int .i64 0, .int .i64 0, .string ⟨#[]⟩] 40)).heap.size = w.heap.size + 1 + 1 := by simp
  generalize (w.alloc (.cells #[.slice A1 d.s.length k1, .slice A2 d.b.length k2, .slice A3 d.c.length k3, .int .i64 d.h, .int .i64 d.n, .string d.o] 40)).alloc (.cells #[.slice none 0 0, .slice none 0 0, .slice none 0 0, .int .i64 0, .int .i64 0, .string ⟨#[]⟩] 40) = w2 at *
  have zq := Lib.hid zq2
  clear zq2
  refine (sAt_none _ d c _ (datC_below HD B2).1 hd hk).mono ?_
  rintro e w3 ⟨rfl, hb⟩
  have B3 := below_step B2 hb
  have V3 := whole_b hb V2
  have T3 := whole_b hb T2
  have zv := whole_lt V3
  have zt := whole_lt T3
  clear hb V2 T2 B2
  obtain ⟨v0, v1, v2, v3, v4, v5⟩ := six_cells V3
  obtain ⟨r0, r1, r2, r3, r4, r5⟩ := six_cells T3
  have fr := whole_free T3
  go_wp2
  refine bodyPost_ret (v := .tuple #[.agg #[.slice A1 d.s.length k1, .slice A2 d.b.length k2, .slice A3 d.c.length k3, .int .i64 d.h, .int .i64 d.n, .string d.o], .int .i64 (-9)]) (by simp [results, Tryz.results138, go_sem, *]) rfl ⟨_, rfl, below_six B3 (by omega) _ _ _ _ _ _, built_self _ _ _ _⟩

set_option maxRecDepth 100000 in
set_option maxHeartbeats 4000000 in
theorem sMem_40n (v : Value) (d : Dt) (b c : Int) (w : World) (hv : DatC w v d) (hd : DtFine d) (hk : dPlace d c = none) :
    Calls Tryz.prog 138 #[v, .int .i64 40, .int .i64 b, .int .i64 c] w (ReadC w v d (d, -9)) := by
  have HD := hv
  obtain ⟨A1, k1, A2, k2, A3, k3, rfl, _⟩ := datC_form hv
  have hs := fine_sl hd
  have HF := Lib.hid hd
  clear hv
  go_enter Tryz.func138, Tryz.ntmps138
  go_wp2_with fail
  have V2 := whole_alloc (whole_new w 40 #[.slice A1 d.s.length k1, .slice A2 d.b.length k2, .slice A3 d.c.length k3, .int .i64 d.h, .int .i64 d.n, .string d.o]) (.cells #[.slice none 0 0, .slice none 0 0, .slice none 0 0, .int .i64 0, .int .i64 0, .string ⟨#[]⟩] 40)
  have T2 := whole_new1 w (.cells #[.slice A1 d.s.length k1, .slice A2 d.b.length k2, .slice A3 d.c.length k3, .int .i64 d.h, .int .i64 d.n, .string d.o] 40) 40 #[.slice none 0 0, .slice none 0 0, .slice none 0 0, .int .i64 0, .int .i64 0, .string ⟨#[]⟩]
  have B2 : Below w.heap.size w ((w.alloc (.cells #[.slice A1 d.s.length k1, .slice A2 d.b.length k2, .slice A3 d.c.length k3, .int .i64 d.h, .int .i64 d.n, .string d.o] 40)).alloc (.cells #[.slice none 0 0, .slice none 0 0, .slice none 0 0, .int .i64 0, .int .i64 0, .string ⟨#[]⟩] 40)) := below_alloc (below_alloc (Below.refl _ _) _) _
  have zw2 := whole_lt T2
  have zq2 : ((w.alloc (.cells #[.slice A1 d.s.length k1, .slice A2 d.b.length k2, .slice A3 d.c.length k3, .int .i64 d.h, .int .i64 d.n, .string d.o] 40)).alloc (.cells #[.slice none 0 0, .slice none 0 0, .slice none 0 0, .int .i64 0, .int .i64 0, .string ⟨#[]⟩] 40)).heap.size = w.heap.size + 1 + 1 := by simp
  generalize (w.alloc (.cells #[.slice A1 d.s.length k1, .slice A2 d.b.length k2, .slice A3 d.c.length k3, .int .i64 d.h, .int .i64 d.n, .string d.o] 40)).alloc (.cells #[.slice none 0 0, .slice none 0 0, .slice none 0 0, .int .i64 0, .int .i64 0, .string ⟨#[]⟩] 40) = w2 at *
  have zq := Lib.hid zq2
  clear zq2
  refine (sAt_none _ d c _ (datC_below HD B2).1 hd hk).mono ?_
  rintro e w3 ⟨rfl, hb⟩
  have B3 := below_step B2 hb
  have V3 := whole_b hb V2
  have T3 := whole_b hb T2
  have zv := whole_lt V3
  have zt := whole_lt T3
  clear hb V2 T2 B2
  obtain ⟨v0, v1, v2, v3, v4, v5⟩ := six_cells V3
  obtain ⟨r0, r1, r2, r3, r4, r5⟩ := six_cells T3
  have fr := whole_free T3
  go_wp2
  refine bodyPost_ret (v := .tuple #[.agg #[.slice A1 d.s.length k1, .slice A2 d.b.length k2, .slice A3 d.c.length k3, .int .i64 d.h, .int .i64 d.n, .string d.o], .int .i64 (-9)]) (by simp [results, Tryz.results138, go_sem, *]) rfl ⟨_, rfl, below_six B3 (by omega) _ _ _ _ _ _, built_self _ _ _ _⟩

set_option maxRecDepth 100000 in
set_option maxHeartbeats 4000000 in
theorem sMem_41n (v : Value) (d : Dt) (b c : Int) (w : World) (hv : DatC w v d) (hd : DtFine d) (hk : dPlace d c = none) :
    Calls Tryz.prog 138 #[v, .int .i64 41, .int .i64 b, .int .i64 c] w (ReadC w v d (d, -9)) := by
  have HD := hv
  obtain ⟨A1, k1, A2, k2, A3, k3, rfl, _⟩ := datC_form hv
  have hs := fine_sl hd
  have HF := Lib.hid hd
  clear hv
  go_enter Tryz.func138, Tryz.ntmps138
  go_wp2_with fail
  have V2 := whole_alloc (whole_new w 40 #[.slice A1 d.s.length k1, .slice A2 d.b.length k2, .slice A3 d.c.length k3, .int .i64 d.h, .int .i64 d.n, .string d.o]) (.cells #[.slice none 0 0, .slice none 0 0, .slice none 0 0, .int .i64 0, .int .i64 0, .string ⟨#[]⟩] 40)
  have T2 := whole_new1 w (.cells #[.slice A1 d.s.length k1, .slice A2 d.b.length k2, .slice A3 d.c.length k3, .int .i64 d.h, .int .i64 d.n, .string d.o] 40) 40 #[.slice none 0 0, .slice none 0 0, .slice none 0 0, .int .i64 0, .int .i64 0, .string ⟨#[]⟩]
  have B2 : Below w.heap.size w ((w.alloc (.cells #[.slice A1 d.s.length k1, .slice A2 d.b.length k2, .slice A3 d.c.length k3, .int .i64 d.h, .int .i64 d.n, .string d.o] 40)).alloc (.cells #[.slice none 0 0, .slice none 0 0, .slice none 0 0, .int .i64 0, .int .i64 0, .string ⟨#[]⟩] 40)) := below_alloc (below_alloc (Below.refl _ _) _) _
  have zw2 := whole_lt T2
  have zq2 : ((w.alloc (.cells #[.slice A1 d.s.length k1, .slice A2 d.b.length k2, .slice A3 d.c.length k3, .int .i64 d.h, .int .i64 d.n, .string d.o] 40)).alloc (.cells #[.slice none 0 0, .slice none 0 0, .slice none 0 0, .int .i64 0, .int .i64 0, .string ⟨#[]⟩] 40)).heap.size = w.heap.size + 1 + 1 := by simp
  generalize (w.alloc (.cells #[.slice A1 d.s.length k1, .slice A2 d.b.length k2, .slice A3 d.c.length k3, .int .i64 d.h, .int .i64 d.n, .string d.o] 40)).alloc (.cells #[.slice none 0 0, .slice none 0 0, .slice none 0 0, .int .i64 0, .int .i64 0, .string ⟨#[]⟩] 40) = w2 at *
  have zq := Lib.hid zq2
  clear zq2
  refine (sAt_none _ d c _ (datC_below HD B2).1 hd hk).mono ?_
  rintro e w3 ⟨rfl, hb⟩
  have B3 := below_step B2 hb
  have V3 := whole_b hb V2
  have T3 := whole_b hb T2
  have zv := whole_lt V3
  have zt := whole_lt T3
  clear hb V2 T2 B2
  obtain ⟨v0, v1, v2, v3, v4, v5⟩ := six_cells V3
  obtain ⟨r0, r1, r2, r3, r4, r5⟩ := six_cells T3
  have fr := whole_free T3
  go_wp2
  refine bodyPost_ret (v := .tuple #[.agg #[.slice A1 d.s.length k1, .slice A2 d.b.length k2, .slice A3 d.c.length k3, .int .i64 d.h, .int .i64 d.n, .string d.o], .int .i64 (-9)]) (by simp [results, Tryz.results138, go_sem, *]) rfl ⟨_, rfl, below_six B3 (by omega) _ _ _ _ _ _, built_self _ _ _ _⟩

set_option maxRecDepth 100000 in
set_option maxHeartbeats 4000000 in
theorem sMem_39 (v : Value) (d : Dt) (b c : Int) (k : Nat) (w : World) (hv : DatC w v d) (hd : DtFine d) (hk : dPlace d c = some k) (h1 : 1 ≤ d.s.length) :
    Calls Tryz.prog 138 #[v, .int .i64 39, .int .i64 b, .int .i64 c] w (ReadC w v d (dPut d 1 [d.c.getD k 0])) := by
  have HD := hv
  obtain ⟨A1, k1, A2, k2, A3, k3, rfl, _⟩ := datC_form hv
  have hs := fine_sl hd
  have HF := Lib.hid hd
  obtain ⟨hk1, hk2⟩ := place_lt hk hd
  obtain ⟨_, A', c', hv', hc⟩ := datIn_third hv.1
  simp only [Value.slice.injEq, true_and] at hv'
  obtain ⟨rfl, rfl⟩ := hv'
  obtain ⟨ad, rfl, hc'⟩ := hc (by omega)
  have cm := hc' k hk2
  have LA : d.c.getD k 0 = d.c[k] := by simp [hk2]
  rw [LA]
  have CM : Hid (∀ W, Below w.heap.size w W → W.cell? (ad.add k) = some (.int .i64 d.c[k])) := Lib.hid fun W hW => by
    rw [hW.cell (World.block_lt_of_cell? w _ cm)]; exact cm
  have s4 : (k : Int) < d.c.length := by omega
  have kn : ¬ ((k : Int) < 0) := by omega
  have cb := cellB_true.1 (cellsB_at (fine_cc hd) (List.getElem_mem hk2))
  clear hc hc' cm LA
  generalize d.c[k] = x at *
  have PUT : Hid (∀ W lv, Ints W lv [x] → DatC W (.agg #[.slice A1 d.s.length k1, .slice A2 d.b.length k2, .slice (some ad) d.c.length k3, .int .i64 d.h, .int .i64 d.n, .string d.o]) d → Calls Tryz.prog 194 #[.agg #[.slice A1 d.s.length k1, .slice A2 d.b.length k2, .slice (some ad) d.c.length k3, .int .i64 d.h, .int .i64 d.n, .string d.o], .int .i64 1, lv] W (ReadC W (.agg #[.slice A1 d.s.length k1, .slice A2 d.b.length k2, .slice (some ad) d.c.length k3, .int .i64 d.h, .int .i64 d.n, .string d.o]) d (dPut d 1 [x]))) := Lib.hid fun W lv hi h => sPut_any _ d 1 lv _ W h hi (by omega) hs (by simp)
  generalize dPut d 1 [x] = rt at *
  obtain ⟨r, t⟩ := rt
  clear hv
  go_enter Tryz.func138, Tryz.ntmps138
  go_wp2_with fail
  have V2 := whole_alloc (whole_new w 40 #[.slice A1 d.s.length k1, .slice A2 d.b.length k2, .slice (some ad) d.c.length k3, .int .i64 d.h, .int .i64 d.n, .string d.o]) (.cells #[.slice none 0 0, .slice none 0 0, .slice none 0 0, .int .i64 0, .int .i64 0, .string ⟨#[]⟩] 40)
  have T2 := whole_new1 w (.cells #[.slice A1 d.s.length k1, .slice A2 d.b.length k2, .slice (some ad) d.c.length k3, .int .i64 d.h, .int .i64 d.n, .string d.o] 40) 40 #[.slice none 0 0, .slice none 0 0, .slice none 0 0, .int .i64 0, .int .i64 0, .string ⟨#[]⟩]
  have B2 : Below w.heap.size w ((w.alloc (.cells #[.slice A1 d.s.length k1, .slice A2 d.b.length k2, .slice (some ad) d.c.length k3, .int .i64 d.h, .int .i64 d.n, .string d.o] 40)).alloc (.cells #[.slice none 0 0, .slice none 0 0, .slice none 0 0, .int .i64 0, .int .i64 0, .string ⟨#[]⟩] 40)) := below_alloc (below_alloc (Below.refl _ _) _) _
  have zw2 := whole_lt T2
  have zq2 : ((w.alloc (.cells #[.slice A1 d.s.length k1, .slice A2 d.b.length k2, .slice (some ad) d.c.length k3, .int .i64 d.h, .int .i64 d.n, .string d.o] 40)).alloc (.cells #[.slice none 0 0, .slice none 0 0, .slice none 0 0, .int .i64 0, .int .i64 0, .string ⟨#[]⟩] 40)).heap.size = w.heap.size + 1 + 1 := by simp
  generalize (w.alloc (.cells #[.slice A1 d.s.length k1, .slice A2 d.b.length k2, .slice (some ad) d.c.length k3, .int .i64 d.h, .int .i64 d.n, .string d.o] 40)).alloc (.cells #[.slice none 0 0, .slice none 0 0, .slice none 0 0, .int .i64 0, .int .i64 0, .string ⟨#[]⟩] 40) = w2 at *
  have zq := Lib.hid zq2
  clear zq2
  refine (sAt_some _ d c k _ (datC_below HD B2).1 hd hk).mono ?_
  rintro e w3 ⟨rfl, hb⟩
  have B3 := below_step B2 hb
  have V3 := whole_b hb V2
  have T3 := whole_b hb T2
  have zv := whole_lt V3
  have zt := whole_lt T3
  clear hb V2 T2 B2
  obtain ⟨v0, v1, v2, v3, v4, v5⟩ := six_cells V3
  have VB : Hid (∀ W, Below w3.heap.size w3 W → Whole W w.heap.size 40 #[.slice A1 d.s.length k1, .slice A2 d.b.length k2, .slice (some ad) d.c.length k3, .int .i64 d.h, .int .i64 d.n, .string d.o] ∧ Whole W (w.heap.size + 1) 40 #[.slice none 0 0, .slice none 0 0, .slice none 0 0, .int .i64 0, .int .i64 0, .string ⟨#[]⟩] ∧ Below w.heap.size w W) := Lib.hid fun W h => ⟨whole_below V3 h, whole_below T3 h, below_step B3 h⟩
  have cx := CM.out _ B3
  go_wp2_with fail
  go_region_held3 (fun w' => (w'.cell? ⟨w.heap.size, 0, none⟩ = some (.slice A1 d.s.length k1) ∧ w'.cell? ⟨w.heap.size, 1, none⟩ = some (.slice A2 d.b.length k2) ∧ w'.cell? ⟨w.heap.size, 2, none⟩ = some (.slice (some ad) d.c.length k3) ∧ w'.cell? ⟨w.heap.size, 3, none⟩ = some (.int .i64 d.h) ∧ w'.cell? ⟨w.heap.size, 4, none⟩ = some (.int .i64 d.n) ∧ w'.cell? ⟨w.heap.size, 5, none⟩ = some (.string d.o)) ∧ w'.cell? (ad.add k) = some (.int .i64 x))
    (first
      | with_reducible exact ⟨six_cells (VB.out _ D4).1, CM.out _ (VB.out _ D4).2.2⟩
      | with_reducible exact ⟨six_cells (whole_six (VB.out _ D4).1 (by omega) _ _ _ _ _ _), CM.out _ (below_six (VB.out _ D4).2.2 (by omega) _ _ _ _ _ _)⟩
      | exact ⟨six_cells (VB.out _ (by repeat (first | with_reducible exact D4 | with_reducible exact Below.refl _ _ | with_reducible refine below_alloc ?_ _ | with_reducible refine Below.drew ?_))).1, CM.out _ (VB.out _ (by repeat (first | with_reducible exact D4 | with_reducible exact Below.refl _ _ | with_reducible refine below_alloc ?_ _ | with_reducible refine Below.drew ?_))).2.2⟩)
    (first
      | (go_at_call 194
         refine (PUT.out _ _ (by exact ints_draws (ints_at w3 x) 1) (datC_below HD (VB.out _ (by repeat (first | with_reducible exact D4 | with_reducible exact Below.refl _ _ | with_reducible refine below_alloc ?_ _ | with_reducible refine Below.drew ?_))).2.2)).mono ?_
         rintro e w4 ⟨u, rfl, hb, hB⟩
         have D4 : Below w3.heap.size w3 w4 := below_step (by repeat (first | with_reducible exact D4 | with_reducible exact Below.refl _ _ | with_reducible refine below_alloc ?_ _ | with_reducible refine Below.drew ?_)) hb
         clear hb
         have hu := built_now hB (datC_below HD (VB.out _ D4).2.2)
         have T4 := (VB.out _ D4).2.1
         have zx := D4.size
         obtain ⟨C1, j1, C2, j2, C3, j3, rfl, _⟩ := datC_form hu
         obtain ⟨r0, r1, r2, r3, r4, r5⟩ := six_cells T4
         have fr := whole_free T4))
  all_goals
    go_wp2
    refine bodyPost_ret (v := .tuple #[.agg #[.slice C1 r.s.length j1, .slice C2 r.b.length j2, .slice C3 r.c.length j3, .int .i64 r.h, .int .i64 r.n, .string r.o], .int .i64 t]) (by simp [results, Tryz.results138, go_sem, *]) rfl ⟨_, rfl, below_six (VB.out _ D4).2.2 (by omega) _ _ _ _ _ _, built_up hB (by simp; try omega) (agree_six T4)⟩

set_option maxRecDepth 100000 in
set_option maxHeartbeats 4000000 in
theorem sMem_40 (v : Value) (d : Dt) (b c : Int) (k : Nat) (w : World) (hv : DatC w v d) (hd : DtFine d) (hk : dPlace d c = some k) (h1 : 2 ≤ d.s.length) (b1 : -2147483648 ≤ b) (b2 : b ≤ 2147483647) :
    Calls Tryz.prog 138 #[v, .int .i64 40, .int .i64 b, .int .i64 c] w (ReadC w v d (dPut { d with c := d.c.set k (b) } 2 [])) := by
  have HD := hv
  obtain ⟨A1, k1, A2, k2, A3, k3, rfl, _⟩ := datC_form hv
  have hs := fine_sl hd
  have HF := Lib.hid hd
  obtain ⟨hk1, hk2⟩ := place_lt hk hd
  obtain ⟨_, A', c', hv', hc⟩ := datIn_third hv.1
  simp only [Value.slice.injEq, true_and] at hv'
  obtain ⟨rfl, rfl⟩ := hv'
  obtain ⟨ad, rfl, hc'⟩ := hc (by omega)
  have cm := hc' k hk2
  have LA : d.c.getD k 0 = d.c[k] := by simp [hk2]
  have CM : Hid (∀ W, Below w.heap.size w W → W.cell? (ad.add k) = some (.int .i64 d.c[k])) := Lib.hid fun W hW => by
    rw [hW.cell (World.block_lt_of_cell? w _ cm)]; exact cm
  have s4 : (k : Int) < d.c.length := by omega
  have kn : ¬ ((k : Int) < 0) := by omega
  have cb := cellB_true.1 (cellsB_at (fine_cc hd) (List.getElem_mem hk2))
  clear hc hc' cm LA
  generalize d.c[k] = x at *
  obtain ⟨r1, hr1⟩ : ∃ r1, r1 = { d with c := d.c.set k (b) } := ⟨_, rfl⟩
  have e1 : r1.s = d.s := by rw [hr1]
  have ST : Hid (∀ W u, DatC W u d → Calls Tryz.prog 199 #[u, .int .i64 c, .int .i64 (b)] W (ReadC W u d (r1, 0))) := Lib.hid fun W u h => by rw [hr1]; exact sStore_bld u d c _ k W h hd hk
  rw [← hr1]
  have PUT : Hid (∀ W u, DatC W u r1 → Calls Tryz.prog 194 #[u, .int .i64 2, .slice none 0 0] W (ReadC W u r1 (dPut r1 2 []))) := Lib.hid fun W u h => sPut_any u r1 2 _ [] W h (ints_nil W) (by rw [e1]; omega) (by rw [e1]; exact hs) (by simp)
  generalize dPut r1 2 [] = rt at *
  obtain ⟨r, t⟩ := rt
  clear e1 hr1
  clear hv
  go_enter Tryz.func138, Tryz.ntmps138
  go_wp2_with fail
  have V2 := whole_alloc (whole_new w 40 #[.slice A1 d.s.length k1, .slice A2 d.b.length k2, .slice (some ad) d.c.length k3, .int .i64 d.h, .int .i64 d.n, .string d.o]) (.cells #[.slice none 0 0, .slice none 0 0, .slice none 0 0, .int .i64 0, .int .i64 0, .string ⟨#[]⟩] 40)
  have T2 := whole_new1 w (.cells #[.slice A1 d.s.length k1, .slice A2 d.b.length k2, .slice (some ad) d.c.length k3, .int .i64 d.h, .int .i64 d.n, .string d.o] 40) 40 #[.slice none 0 0, .slice none 0 0, .slice none 0 0, .int .i64 0, .int .i64 0, .string ⟨#[]⟩]
  have B2 : Below w.heap.size w ((w.alloc (.cells #[.slice A1 d.s.length k1, .slice A2 d.b.length k2, .slice (some ad) d.c.length k3, .int .i64 d.h, .int .i64 d.n, .string d.o] 40)).alloc (.cells #[.slice none 0 0, .slice none 0 0, .slice none 0 0, .int .i64 0, .int .i64 0, .string ⟨#[]⟩] 40)) := below_alloc (below_alloc (Below.refl _ _) _) _
  have zw2 := whole_lt T2
  have zq2 : ((w.alloc (.cells #[.slice A1 d.s.length k1, .slice A2 d.b.length k2, .slice (some ad) d.c.length k3, .int .i64 d.h, .int .i64 d.n, .string d.o] 40)).alloc (.cells #[.slice none 0 0, .slice none 0 0, .slice none 0 0, .int .i64 0, .int .i64 0, .string ⟨#[]⟩] 40)).heap.size = w.heap.size + 1 + 1 := by simp
  generalize (w.alloc (.cells #[.slice A1 d.s.length k1, .slice A2 d.b.length k2, .slice (some ad) d.c.length k3, .int .i64 d.h, .int .i64 d.n, .string d.o] 40)).alloc (.cells #[.slice none 0 0, .slice none 0 0, .slice none 0 0, .int .i64 0, .int .i64 0, .string ⟨#[]⟩] 40) = w2 at *
  have zq := Lib.hid zq2
  clear zq2
  refine (sAt_some _ d c k _ (datC_below HD B2).1 hd hk).mono ?_
  rintro e w3 ⟨rfl, hb⟩
  have B3 := below_step B2 hb
  have V3 := whole_b hb V2
  have T3 := whole_b hb T2
  have zv := whole_lt V3
  have zt := whole_lt T3
  clear hb V2 T2 B2
  obtain ⟨v0, v1, v2, v3, v4, v5⟩ := six_cells V3
  have cx := CM.out _ B3
  go_wp2_with (first | (go_at_call 141; refine (sWrap_any _ _).mono ?_; rintro e w' ⟨rfl, rfl⟩) | (go_at_call 199; fail))
  clear v0 v1 v2 v3 v4 v5 cx
  refine (ST.out _ _ (datC_below HD B3)).mono ?_
  rintro e w4 ⟨u1, rfl, hb, hB4⟩
  dsimp only at hB4 ⊢
  have B4 := below_step B3 hb
  have V4 := whole_b hb V3
  have T4 := whole_b hb T3
  have zv4 := whole_lt V4
  have zt4 := whole_lt T4
  clear hb
  have hu4 := built_now hB4 (datC_below HD B4)
  obtain ⟨C1, j1, C2, j2, C3, j3, rfl, _⟩ := datC_form hu4
  go_wp2_with fail
  refine (PUT.out _ _ (datC_below hu4 (below_alloc (Below.refl _ _) _))).mono ?_
  rintro e w5 ⟨u2, rfl, hb, hBz⟩
  have D5 : Below w4.heap.size w4 w5 := below_step (below_alloc (Below.refl _ _) _) hb
  have B5 := below_step B4 D5
  have T5 := whole_b hb (whole_alloc T4 _)
  have zt5 := whole_lt T5
  have hs5 := D5.size
  clear hb
  have hB := built_comp (n := w.heap.size) hB4 hBz (by first | omega | (simp; omega)) (by first | omega | (simp; omega)) (agree_below D5)
  have huz := built_now hB (datC_below HD B5)
  obtain ⟨F1, i1, F2, i2, F3, i3, rfl, _⟩ := datC_form huz
  obtain ⟨r0, r1, r2, r3, r4, r5⟩ := six_cells T5
  have fr := whole_free T5
  go_wp2
  refine bodyPost_ret (v := .tuple #[.agg #[.slice F1 r.s.length i1, .slice F2 r.b.length i2, .slice F3 r.c.length i3, .int .i64 r.h, .int .i64 r.n, .string r.o], .int .i64 t]) (by simp [results, Tryz.results138, go_sem, *]) rfl ⟨_, rfl, below_six B5 (by omega) _ _ _ _ _ _, built_up hB (Nat.le_refl _) (agree_six T5)⟩

set_option maxRecDepth 100000 in
set_option maxHeartbeats 4000000 in
theorem sMem_41 (v : Value) (d : Dt) (b c : Int) (k : Nat) (w : World) (hv : DatC w v d) (hd : DtFine d) (hk : dPlace d c = some k) (h1 : 2 ≤ d.s.length) (b1 : -2147483648 ≤ b) (b2 : b ≤ 2147483647) :
    Calls Tryz.prog 138 #[v, .int .i64 41, .int .i64 b, .int .i64 c] w (ReadC w v d (dPut { d with c := d.c.set k (wrap32 (d.c.getD k 0 + b)) } 2 [])) := by
  have HD := hv
  obtain ⟨A1, k1, A2, k2, A3, k3, rfl, _⟩ := datC_form hv
  have hs := fine_sl hd
  have HF := Lib.hid hd
  obtain ⟨hk1, hk2⟩ := place_lt hk hd
  obtain ⟨_, A', c', hv', hc⟩ := datIn_third hv.1
  simp only [Value.slice.injEq, true_and] at hv'
  obtain ⟨rfl, rfl⟩ := hv'
  obtain ⟨ad, rfl, hc'⟩ := hc (by omega)
  have cm := hc' k hk2
  have LA : d.c.getD k 0 = d.c[k] := by simp [hk2]
  rw [LA]
  have CM : Hid (∀ W, Below w.heap.size w W → W.cell? (ad.add k) = some (.int .i64 d.c[k])) := Lib.hid fun W hW => by
    rw [hW.cell (World.block_lt_of_cell? w _ cm)]; exact cm
  have s4 : (k : Int) < d.c.length := by omega
  have kn : ¬ ((k : Int) < 0) := by omega
  have cb := cellB_true.1 (cellsB_at (fine_cc hd) (List.getElem_mem hk2))
  clear hc hc' cm LA
  generalize d.c[k] = x at *
  obtain ⟨r1, hr1⟩ : ∃ r1, r1 = { d with c := d.c.set k (wrap32 (x + b)) } := ⟨_, rfl⟩
  have e1 : r1.s = d.s := by rw [hr1]
  have ST : Hid (∀ W u, DatC W u d → Calls Tryz.prog 199 #[u, .int .i64 c, .int .i64 (wrap32 (x + b))] W (ReadC W u d (r1, 0))) := Lib.hid fun W u h => by rw [hr1]; exact sStore_bld u d c _ k W h hd hk
  rw [← hr1]
  have PUT : Hid (∀ W u, DatC W u r1 → Calls Tryz.prog 194 #[u, .int .i64 2, .slice none 0 0] W (ReadC W u r1 (dPut r1 2 []))) := Lib.hid fun W u h => sPut_any u r1 2 _ [] W h (ints_nil W) (by rw [e1]; omega) (by rw [e1]; exact hs) (by simp)
  generalize dPut r1 2 [] = rt at *
  obtain ⟨r, t⟩ := rt
  clear e1 hr1
  have n1 : IntKind.i64.wrap (x + b) = x + b := IntWalk.i64_in _ (by omega)
  clear hv
  go_enter Tryz.func138, Tryz.ntmps138
  go_wp2_with fail
  have V2 := whole_alloc (whole_new w 40 #[.slice A1 d.s.length k1, .slice A2 d.b.length k2, .slice (some ad) d.c.length k3, .int .i64 d.h, .int .i64 d.n, .string d.o]) (.cells #[.slice none 0 0, .slice none 0 0, .slice none 0 0, .int .i64 0, .int .i64 0, .string ⟨#[]⟩] 40)
  have T2 := whole_new1 w (.cells #[.slice A1 d.s.length k1, .slice A2 d.b.length k2, .slice (some ad) d.c.length k3, .int .i64 d.h, .int .i64 d.n, .string d.o] 40) 40 #[.slice none 0 0, .slice none 0 0, .slice none 0 0, .int .i64 0, .int .i64 0, .string ⟨#[]⟩]
  have B2 : Below w.heap.size w ((w.alloc (.cells #[.slice A1 d.s.length k1, .slice A2 d.b.length k2, .slice (some ad) d.c.length k3, .int .i64 d.h, .int .i64 d.n, .string d.o] 40)).alloc (.cells #[.slice none 0 0, .slice none 0 0, .slice none 0 0, .int .i64 0, .int .i64 0, .string ⟨#[]⟩] 40)) := below_alloc (below_alloc (Below.refl _ _) _) _
  have zw2 := whole_lt T2
  have zq2 : ((w.alloc (.cells #[.slice A1 d.s.length k1, .slice A2 d.b.length k2, .slice (some ad) d.c.length k3, .int .i64 d.h, .int .i64 d.n, .string d.o] 40)).alloc (.cells #[.slice none 0 0, .slice none 0 0, .slice none 0 0, .int .i64 0, .int .i64 0, .string ⟨#[]⟩] 40)).heap.size = w.heap.size + 1 + 1 := by simp
  generalize (w.alloc (.cells #[.slice A1 d.s.length k1, .slice A2 d.b.length k2, .slice (some ad) d.c.length k3, .int .i64 d.h, .int .i64 d.n, .string d.o] 40)).alloc (.cells #[.slice none 0 0, .slice none 0 0, .slice none 0 0, .int .i64 0, .int .i64 0, .string ⟨#[]⟩] 40) = w2 at *
  have zq := Lib.hid zq2
  clear zq2
  refine (sAt_some _ d c k _ (datC_below HD B2).1 hd hk).mono ?_
  rintro e w3 ⟨rfl, hb⟩
  have B3 := below_step B2 hb
  have V3 := whole_b hb V2
  have T3 := whole_b hb T2
  have zv := whole_lt V3
  have zt := whole_lt T3
  clear hb V2 T2 B2
  obtain ⟨v0, v1, v2, v3, v4, v5⟩ := six_cells V3
  have cx := CM.out _ B3
  go_wp2_with (first | (go_at_call 141; refine (sWrap_any _ _).mono ?_; rintro e w' ⟨rfl, rfl⟩) | (go_at_call 199; fail))
  clear v0 v1 v2 v3 v4 v5 cx
  refine (ST.out _ _ (datC_below HD B3)).mono ?_
  rintro e w4 ⟨u1, rfl, hb, hB4⟩
  dsimp only at hB4 ⊢
  have B4 := below_step B3 hb
  have V4 := whole_b hb V3
  have T4 := whole_b hb T3
  have zv4 := whole_lt V4
  have zt4 := whole_lt T4
  clear hb
  have hu4 := built_now hB4 (datC_below HD B4)
  obtain ⟨C1, j1, C2, j2, C3, j3, rfl, _⟩ := datC_form hu4
  go_wp2_with fail
  refine (PUT.out _ _ (datC_below hu4 (below_alloc (Below.refl _ _) _))).mono ?_
  rintro e w5 ⟨u2, rfl, hb, hBz⟩
  have D5 : Below w4.heap.size w4 w5 := below_step (below_alloc (Below.refl _ _) _) hb
  have B5 := below_step B4 D5
  have T5 := whole_b hb (whole_alloc T4 _)
  have zt5 := whole_lt T5
  have hs5 := D5.size
  clear hb
  have hB := built_comp (n := w.heap.size) hB4 hBz (by first | omega | (simp; omega)) (by first | omega | (simp; omega)) (agree_below D5)
  have huz := built_now hB (datC_below HD B5)
  obtain ⟨F1, i1, F2, i2, F3, i3, rfl, _⟩ := datC_form huz
  obtain ⟨r0, r1, r2, r3, r4, r5⟩ := six_cells T5
  have fr := whole_free T5
  go_wp2
  refine bodyPost_ret (v := .tuple #[.agg #[.slice F1 r.s.length i1, .slice F2 r.b.length i2, .slice F3 r.c.length i3, .int .i64 r.h, .int .i64 r.n, .string r.o], .int .i64 t]) (by simp [results, Tryz.results138, go_sem, *]) rfl ⟨_, rfl, below_six B5 (by omega) _ _ _ _ _ _, built_up hB (Nat.le_refl _) (agree_six T5)⟩

set_option maxRecDepth 100000 in
set_option maxHeartbeats 4000000 in
theorem sMem_42 (v : Value) (d : Dt) (b c : Int) (w : World) (hv : DatC w v d) (hd : DtFine d) :
    Calls Tryz.prog 138 #[v, .int .i64 42, .int .i64 b, .int .i64 c] w (ReadC w v d (dPut d 0 [4096 + 4 * d.h])) := by
  have HD := hv
  obtain ⟨A1, k1, A2, k2, A3, k3, rfl, _⟩ := datC_form hv
  have hs := fine_sl hd
  have h0 := fine_h0 hd
  have h1 := fine_h1 hd
  have n1 : IntKind.i64.wrap (4 * d.h) = 4 * d.h := IntWalk.i64_in _ (by omega)
  have n2 : IntKind.i64.wrap (4096 + 4 * d.h) = 4096 + 4 * d.h := IntWalk.i64_in _ (by omega)
  have PUT : Hid (∀ W lv, Ints W lv [4096 + 4 * d.h] → DatC W (.agg #[.slice A1 d.s.length k1, .slice A2 d.b.length k2, .slice A3 d.c.length k3, .int .i64 d.h, .int .i64 d.n, .string d.o]) d → Calls Tryz.prog 194 #[.agg #[.slice A1 d.s.length k1, .slice A2 d.b.length k2, .slice A3 d.c.length k3, .int .i64 d.h, .int .i64 d.n, .string d.o], .int .i64 0, lv] W (ReadC W (.agg #[.slice A1 d.s.length k1, .slice A2 d.b.length k2, .slice A3 d.c.length k3, .int .i64 d.h, .int .i64 d.n, .string d.o]) d (dPut d 0 [4096 + 4 * d.h]))) := Lib.hid fun W lv hi h => sPut_any _ d 0 lv _ W h hi (by omega) hs (by simp)
  generalize dPut d 0 [4096 + 4 * d.h] = rt at *
  obtain ⟨r, t⟩ := rt
  clear hv
  go_enter Tryz.func138, Tryz.ntmps138
  go_wp2_with fail
  have T2 := whole_new1 w (.cells #[.slice A1 d.s.length k1, .slice A2 d.b.length k2, .slice A3 d.c.length k3, .int .i64 d.h, .int .i64 d.n, .string d.o] 40) 40 #[.slice none 0 0, .slice none 0 0, .slice none 0 0, .int .i64 0, .int .i64 0, .string ⟨#[]⟩]
  have B2 : Below w.heap.size w ((w.alloc (.cells #[.slice A1 d.s.length k1, .slice A2 d.b.length k2, .slice A3 d.c.length k3, .int .i64 d.h, .int .i64 d.n, .string d.o] 40)).alloc (.cells #[.slice none 0 0, .slice none 0 0, .slice none 0 0, .int .i64 0, .int .i64 0, .string ⟨#[]⟩] 40)) := below_alloc (below_alloc (Below.refl _ _) _) _
  have zq2 : ((w.alloc (.cells #[.slice A1 d.s.length k1, .slice A2 d.b.length k2, .slice A3 d.c.length k3, .int .i64 d.h, .int .i64 d.n, .string d.o] 40)).alloc (.cells #[.slice none 0 0, .slice none 0 0, .slice none 0 0, .int .i64 0, .int .i64 0, .string ⟨#[]⟩] 40)).heap.size = w.heap.size + 1 + 1 := by simp
  generalize (w.alloc (.cells #[.slice A1 d.s.length k1, .slice A2 d.b.length k2, .slice A3 d.c.length k3, .int .i64 d.h, .int .i64 d.n, .string d.o] 40)).alloc (.cells #[.slice none 0 0, .slice none 0 0, .slice none 0 0, .int .i64 0, .int .i64 0, .string ⟨#[]⟩] 40) = w2 at *
  have zq := Lib.hid zq2
  clear zq2
  refine (PUT.out _ _ (by rw [← zq.out]; exact ints_at w2 _) (datC_below HD (below_step B2 (below_alloc (Below.refl _ _) _)))).mono ?_
  rintro e w3 ⟨u, rfl, hb, hB⟩
  have B3 := below_step (below_alloc B2 _) hb
  have T3 := whole_b hb (whole_alloc T2 _)
  have zt := whole_lt T3
  have z2 := whole_lt T2
  clear hb
  have hu := built_now hB (datC_below HD B3)
  obtain ⟨F1, i1, F2, i2, F3, i3, rfl, _⟩ := datC_form hu
  obtain ⟨r0, r1, r2, r3, r4, r5⟩ := six_cells T3
  have fr := whole_free T3
  go_wp2
  refine bodyPost_ret (v := .tuple #[.agg #[.slice F1 r.s.length i1, .slice F2 r.b.length i2, .slice F3 r.c.length i3, .int .i64 r.h, .int .i64 r.n, .string r.o], .int .i64 t]) (by simp [results, Tryz.results138, go_sem, *]) rfl ⟨_, rfl, below_six B3 (by omega) _ _ _ _ _ _, built_up hB (by simp; try omega) (agree_six T3)⟩

set_option maxRecDepth 100000 in
set_option maxHeartbeats 4000000 in
theorem sMem_43n (v : Value) (d : Dt) (b c : Int) (w : World) (hv : DatC w v d) (hd : DtFine d) (c1 : -2147483648 ≤ c) (c2 : c ≤ 2147483647) (hg : ¬ goodMove d c) :
    Calls Tryz.prog 138 #[v, .int .i64 43, .int .i64 b, .int .i64 c] w (ReadC w v d (d, -8)) := by
  have HD := hv
  obtain ⟨A1, k1, A2, k2, A3, k3, rfl, _⟩ := datC_form hv
  have hs := fine_sl hd
  have HF := Lib.hid hd
  have NC : cellB c = true := cellB_true.2 ⟨c1, c2⟩
  clear hv
  go_enter Tryz.func138, Tryz.ntmps138
  go_wp2_with fail
  have V2 := whole_alloc (whole_new w 40 #[.slice A1 d.s.length k1, .slice A2 d.b.length k2, .slice A3 d.c.length k3, .int .i64 d.h, .int .i64 d.n, .string d.o]) (.cells #[.slice none 0 0, .slice none 0 0, .slice none 0 0, .int .i64 0, .int .i64 0, .string ⟨#[]⟩] 40)
  have T2 := whole_new1 w (.cells #[.slice A1 d.s.length k1, .slice A2 d.b.length k2, .slice A3 d.c.length k3, .int .i64 d.h, .int .i64 d.n, .string d.o] 40) 40 #[.slice none 0 0, .slice none 0 0, .slice none 0 0, .int .i64 0, .int .i64 0, .string ⟨#[]⟩]
  have B2 : Below w.heap.size w ((w.alloc (.cells #[.slice A1 d.s.length k1, .slice A2 d.b.length k2, .slice A3 d.c.length k3, .int .i64 d.h, .int .i64 d.n, .string d.o] 40)).alloc (.cells #[.slice none 0 0, .slice none 0 0, .slice none 0 0, .int .i64 0, .int .i64 0, .string ⟨#[]⟩] 40)) := below_alloc (below_alloc (Below.refl _ _) _) _
  have zw2 := whole_lt T2
  have zq2 : ((w.alloc (.cells #[.slice A1 d.s.length k1, .slice A2 d.b.length k2, .slice A3 d.c.length k3, .int .i64 d.h, .int .i64 d.n, .string d.o] 40)).alloc (.cells #[.slice none 0 0, .slice none 0 0, .slice none 0 0, .int .i64 0, .int .i64 0, .string ⟨#[]⟩] 40)).heap.size = w.heap.size + 1 + 1 := by simp
  generalize (w.alloc (.cells #[.slice A1 d.s.length k1, .slice A2 d.b.length k2, .slice A3 d.c.length k3, .int .i64 d.h, .int .i64 d.n, .string d.o] 40)).alloc (.cells #[.slice none 0 0, .slice none 0 0, .slice none 0 0, .int .i64 0, .int .i64 0, .string ⟨#[]⟩] 40) = w2 at *
  have zq := Lib.hid zq2
  clear zq2
  refine (sAllot_stay _ d c _ (datC_below HD B2) hd NC hg).mono ?_
  rintro e w3 ⟨u1, rfl, hb, hB3⟩
  dsimp only at hB3 ⊢
  have B3 := below_step B2 hb
  have V3 := whole_b hb V2
  have T3 := whole_b hb T2
  have zv3 := whole_lt V3
  have zt3 := whole_lt T3
  clear hb
  have hu3 := built_now hB3 (datC_below HD B3)
  obtain ⟨C1, j1, C2, j2, C3, j3, rfl, _⟩ := datC_form hu3
  obtain ⟨v0, v1, v2, v3, v4, v5⟩ := six_cells V3
  obtain ⟨r0, r1, r2, r3, r4, r5⟩ := six_cells T3
  have fr := whole_free T3
  go_wp2
  refine bodyPost_ret (v := .tuple #[.agg #[.slice A1 d.s.length k1, .slice A2 d.b.length k2, .slice A3 d.c.length k3, .int .i64 d.h, .int .i64 d.n, .string d.o], .int .i64 (-8)]) (by simp [results, Tryz.results138, go_sem, *]) rfl ⟨_, rfl, below_alloc (below_six B3 (by omega) _ _ _ _ _ _) _, built_self _ _ _ _⟩

set_option maxRecDepth 100000 in
set_option maxHeartbeats 4000000 in
theorem sMem_44n (v : Value) (d : Dt) (b c : Int) (w : World) (hv : DatC w v d) (hd : DtFine d) (c1 : -2147483648 ≤ c) (c2 : c ≤ 2147483647) (hg : ¬ goodMove d 4) :
    Calls Tryz.prog 138 #[v, .int .i64 44, .int .i64 b, .int .i64 c] w (ReadC w v d (d, -8)) := by
  have HD := hv
  obtain ⟨A1, k1, A2, k2, A3, k3, rfl, _⟩ := datC_form hv
  have hs := fine_sl hd
  have HF := Lib.hid hd
  have NC : cellB 4 = true := rfl
  clear hv
  go_enter Tryz.func138, Tryz.ntmps138
  go_wp2_with fail
  have V2 := whole_alloc (whole_new w 40 #[.slice A1 d.s.length k1, .slice A2 d.b.length k2, .slice A3 d.c.length k3, .int .i64 d.h, .int .i64 d.n, .string d.o]) (.cells #[.slice none 0 0, .slice none 0 0, .slice none 0 0, .int .i64 0, .int .i64 0, .string ⟨#[]⟩] 40)
  have T2 := whole_new1 w (.cells #[.slice A1 d.s.length k1, .slice A2 d.b.length k2, .slice A3 d.c.length k3, .int .i64 d.h, .int .i64 d.n, .string d.o] 40) 40 #[.slice none 0 0, .slice none 0 0, .slice none 0 0, .int .i64 0, .int .i64 0, .string ⟨#[]⟩]
  have B2 : Below w.heap.size w ((w.alloc (.cells #[.slice A1 d.s.length k1, .slice A2 d.b.length k2, .slice A3 d.c.length k3, .int .i64 d.h, .int .i64 d.n, .string d.o] 40)).alloc (.cells #[.slice none 0 0, .slice none 0 0, .slice none 0 0, .int .i64 0, .int .i64 0, .string ⟨#[]⟩] 40)) := below_alloc (below_alloc (Below.refl _ _) _) _
  have zw2 := whole_lt T2
  have zq2 : ((w.alloc (.cells #[.slice A1 d.s.length k1, .slice A2 d.b.length k2, .slice A3 d.c.length k3, .int .i64 d.h, .int .i64 d.n, .string d.o] 40)).alloc (.cells #[.slice none 0 0, .slice none 0 0, .slice none 0 0, .int .i64 0, .int .i64 0, .string ⟨#[]⟩] 40)).heap.size = w.heap.size + 1 + 1 := by simp
  generalize (w.alloc (.cells #[.slice A1 d.s.length k1, .slice A2 d.b.length k2, .slice A3 d.c.length k3, .int .i64 d.h, .int .i64 d.n, .string d.o] 40)).alloc (.cells #[.slice none 0 0, .slice none 0 0, .slice none 0 0, .int .i64 0, .int .i64 0, .string ⟨#[]⟩] 40) = w2 at *
  have zq := Lib.hid zq2
  clear zq2
  refine (sAllot_stay _ d 4 _ (datC_below HD B2) hd NC hg).mono ?_
  rintro e w3 ⟨u1, rfl, hb, hB3⟩
  dsimp only at hB3 ⊢
  have B3 := below_step B2 hb
  have V3 := whole_b hb V2
  have T3 := whole_b hb T2
  have zv3 := whole_lt V3
  have zt3 := whole_lt T3
  clear hb
  have hu3 := built_now hB3 (datC_below HD B3)
  obtain ⟨C1, j1, C2, j2, C3, j3, rfl, _⟩ := datC_form hu3
  obtain ⟨v0, v1, v2, v3, v4, v5⟩ := six_cells V3
  obtain ⟨r0, r1, r2, r3, r4, r5⟩ := six_cells T3
  have fr := whole_free T3
  go_wp2
  refine bodyPost_ret (v := .tuple #[.agg #[.slice A1 d.s.length k1, .slice A2 d.b.length k2, .slice A3 d.c.length k3, .int .i64 d.h, .int .i64 d.n, .string d.o], .int .i64 (-8)]) (by simp [results, Tryz.results138, go_sem, *]) rfl ⟨_, rfl, below_alloc (below_six B3 (by omega) _ _ _ _ _ _) _, built_self _ _ _ _⟩

set_option maxRecDepth 100000 in
set_option maxHeartbeats 4000000 in
theorem sMem_43 (v : Value) (d : Dt) (b c : Int) (w : World) (hv : DatC w v d) (hd : DtFine d) (c1 : -2147483648 ≤ c) (c2 : c ≤ 2147483647) (hg : goodMove d c) (h1 : 1 ≤ d.s.length) :
    Calls Tryz.prog 138 #[v, .int .i64 43, .int .i64 b, .int .i64 c] w (ReadC w v d (dPut { d with c := zeroN d.c d.h.toNat ((c : Int).tdiv 4).toNat, h := d.h + (c : Int).tdiv 4 } 1 [])) := by
  have HD := hv
  obtain ⟨A1, k1, A2, k2, A3, k3, rfl, _⟩ := datC_form hv
  have hs := fine_sl hd
  have HF := Lib.hid hd
  have NC : cellB c = true := cellB_true.2 ⟨c1, c2⟩
  obtain ⟨r1, hr1⟩ : ∃ r1, r1 = { d with c := zeroN d.c d.h.toNat ((c : Int).tdiv 4).toNat, h := d.h + (c : Int).tdiv 4 } := ⟨_, rfl⟩
  have e1 : r1.s = d.s := by rw [hr1]
  have AL : Hid (∀ W u, DatC W u d → Calls Tryz.prog 200 #[u, .int .i64 c] W (ReadC W u d (r1, 0))) := Lib.hid fun W u h => by rw [hr1]; exact sAllot_bld u d c W h hd NC hg
  rw [← hr1]
  have PUT : Hid (∀ W u, DatC W u r1 → Calls Tryz.prog 194 #[u, .int .i64 1, .slice none 0 0] W (ReadC W u r1 (dPut r1 1 []))) := Lib.hid fun W u h => sPut_any u r1 1 _ [] W h (ints_nil W) (by rw [e1]; omega) (by rw [e1]; exact hs) (by simp)
  generalize dPut r1 1 [] = rt at *
  obtain ⟨r, t⟩ := rt
  clear e1 hr1
  clear hv
  go_enter Tryz.func138, Tryz.ntmps138
  go_wp2_with fail
  have V2 := whole_alloc (whole_new w 40 #[.slice A1 d.s.length k1, .slice A2 d.b.length k2, .slice A3 d.c.length k3, .int .i64 d.h, .int .i64 d.n, .string d.o]) (.cells #[.slice none 0 0, .slice none 0 0, .slice none 0 0, .int .i64 0, .int .i64 0, .string ⟨#[]⟩] 40)
  have T2 := whole_new1 w (.cells #[.slice A1 d.s.length k1, .slice A2 d.b.length k2, .slice A3 d.c.length k3, .int .i64 d.h, .int .i64 d.n, .string d.o] 40) 40 #[.slice none 0 0, .slice none 0 0, .slice none 0 0, .int .i64 0, .int .i64 0, .string ⟨#[]⟩]
  have B2 : Below w.heap.size w ((w.alloc (.cells #[.slice A1 d.s.length k1, .slice A2 d.b.length k2, .slice A3 d.c.length k3, .int .i64 d.h, .int .i64 d.n, .string d.o] 40)).alloc (.cells #[.slice none 0 0, .slice none 0 0, .slice none 0 0, .int .i64 0, .int .i64 0, .string ⟨#[]⟩] 40)) := below_alloc (below_alloc (Below.refl _ _) _) _
  have zw2 := whole_lt T2
  have zq2 : ((w.alloc (.cells #[.slice A1 d.s.length k1, .slice A2 d.b.length k2, .slice A3 d.c.length k3, .int .i64 d.h, .int .i64 d.n, .string d.o] 40)).alloc (.cells #[.slice none 0 0, .slice none 0 0, .slice none 0 0, .int .i64 0, .int .i64 0, .string ⟨#[]⟩] 40)).heap.size = w.heap.size + 1 + 1 := by simp
  generalize (w.alloc (.cells #[.slice A1 d.s.length k1, .slice A2 d.b.length k2, .slice A3 d.c.length k3, .int .i64 d.h, .int .i64 d.n, .string d.o] 40)).alloc (.cells #[.slice none 0 0, .slice none 0 0, .slice none 0 0, .int .i64 0, .int .i64 0, .string ⟨#[]⟩] 40) = w2 at *
  have zq := Lib.hid zq2
  clear zq2
  refine (AL.out _ _ (datC_below HD B2)).mono ?_
  rintro e w3 ⟨u1, rfl, hb, hB3⟩
  dsimp only at hB3 ⊢
  have B3 := below_step B2 hb
  have V3 := whole_b hb V2
  have T3 := whole_b hb T2
  have zv3 := whole_lt V3
  have zt3 := whole_lt T3
  clear hb
  have hu3 := built_now hB3 (datC_below HD B3)
  obtain ⟨C1, j1, C2, j2, C3, j3, rfl, _⟩ := datC_form hu3
  go_wp2_with fail
  refine (PUT.out _ _ (datC_below hu3 (below_alloc (Below.refl _ _) _))).mono ?_
  rintro e w4 ⟨u2, rfl, hb, hBz⟩
  have D4 : Below w3.heap.size w3 w4 := below_step (below_alloc (Below.refl _ _) _) hb
  have B4 := below_step B3 D4
  have T4 := whole_b hb (whole_alloc T3 _)
  have zt4 := whole_lt T4
  have hs4 := D4.size
  clear hb
  have hB := built_comp (n := w.heap.size) hB3 hBz (by first | omega | (simp; omega)) (by first | omega | (simp; omega)) (agree_below D4)
  have huz := built_now hB (datC_below HD B4)
  obtain ⟨F1, i1, F2, i2, F3, i3, rfl, _⟩ := datC_form huz
  obtain ⟨r0, r1, r2, r3, r4, r5⟩ := six_cells T4
  have fr := whole_free T4
  go_wp2
  refine bodyPost_ret (v := .tuple #[.agg #[.slice F1 r.s.length i1, .slice F2 r.b.length i2, .slice F3 r.c.length i3, .int .i64 r.h, .int .i64 r.n, .string r.o], .int .i64 t]) (by simp [results, Tryz.results138, go_sem, *]) rfl ⟨_, rfl, below_six B4 (by omega) _ _ _ _ _ _, built_up hB (Nat.le_refl _) (agree_six T4)⟩

set_option maxRecDepth 100000 in
set_option maxHeartbeats 4000000 in
theorem sMem_44 (v : Value) (d : Dt) (b c : Int) (w : World) (hv : DatC w v d) (hd : DtFine d) (hg : goodMove d 4) (h1 : 1 ≤ d.s.length) :
    Calls Tryz.prog 138 #[v, .int .i64 44, .int .i64 b, .int .i64 c] w (ReadC w v d (dPut { d with c := (zeroN d.c d.h.toNat 1).set d.h.toNat c, h := d.h + 1 } 1 [])) := by
  have HD := hv
  obtain ⟨A1, k1, A2, k2, A3, k3, rfl, _⟩ := datC_form hv
  have hs := fine_sl hd
  have HF := Lib.hid hd
  obtain ⟨r1, hr1⟩ : ∃ r1, r1 = { d with c := zeroN d.c d.h.toNat ((4 : Int).tdiv 4).toNat, h := d.h + (4 : Int).tdiv 4 } := ⟨_, rfl⟩
  have AL : Hid (∀ W u, DatC W u d → Calls Tryz.prog 200 #[u, .int .i64 4] W (ReadC W u d (r1, 0))) := Lib.hid fun W u h => by rw [hr1]; exact sAllot_bld u d 4 W h hd rfl hg
  have h0 := fine_h0 hd
  have g3 : d.h + 1 ≤ 32 := hg.2.2
  have n1 : IntKind.i64.wrap (4 * d.h) = 4 * d.h := IntWalk.i64_in _ (by omega)
  have n2 : IntKind.i64.wrap (4096 + 4 * d.h) = 4096 + 4 * d.h := IntWalk.i64_in _ (by omega)
  have F1 : DtFine r1 := by
    have h := (fine_allot hd 4).data
    unfold allotE at h
    rw [if_pos hg] at h
    rw [hr1]; exact h
  have rh : r1.h = d.h + 1 := by rw [hr1]; rfl
  have PL : dPlace r1 (4096 + 4 * d.h) = some d.h.toNat := by
    unfold dPlace
    rw [if_pos ⟨by omega, by omega, by omega⟩]
    congr 1; omega
  obtain ⟨r2, hr2⟩ : ∃ r2, r2 = { r1 with c := r1.c.set d.h.toNat c } := ⟨_, rfl⟩
  have ST : Hid (∀ W u, DatC W u r1 → Calls Tryz.prog 199 #[u, .int .i64 (4096 + 4 * d.h), .int .i64 c] W (ReadC W u r1 (r2, 0))) := Lib.hid fun W u h => by rw [hr2]; exact sStore_bld u r1 _ c _ W h F1 PL
  have e1 : r2.s = d.s := by rw [hr2, hr1]
  rw [show ({ d with c := (zeroN d.c d.h.toNat 1).set d.h.toNat c, h := d.h + 1 } : Dt) = r2 by rw [hr2, hr1]; rfl]
  have PUT : Hid (∀ W u, DatC W u r2 → Calls Tryz.prog 194 #[u, .int .i64 1, .slice none 0 0] W (ReadC W u r2 (dPut r2 1 []))) := Lib.hid fun W u h => sPut_any u r2 1 _ [] W h (ints_nil W) (by rw [e1]; omega) (by rw [e1]; exact hs) (by simp)
  generalize dPut r2 1 [] = rt at *
  obtain ⟨r, t⟩ := rt
  clear e1 hr1 hr2 rh PL F1
  clear hv
  go_enter Tryz.func138, Tryz.ntmps138
  go_wp2_with fail
  have V2 := whole_alloc (whole_new w 40 #[.slice A1 d.s.length k1, .slice A2 d.b.length k2, .slice A3 d.c.length k3, .int .i64 d.h, .int .i64 d.n, .string d.o]) (.cells #[.slice none 0 0, .slice none 0 0, .slice none 0 0, .int .i64 0, .int .i64 0, .string ⟨#[]⟩] 40)
  have T2 := whole_new1 w (.cells #[.slice A1 d.s.length k1, .slice A2 d.b.length k2, .slice A3 d.c.length k3, .int .i64 d.h, .int .i64 d.n, .string d.o] 40) 40 #[.slice none 0 0, .slice none 0 0, .slice none 0 0, .int .i64 0, .int .i64 0, .string ⟨#[]⟩]
  have B2 : Below w.heap.size w ((w.alloc (.cells #[.slice A1 d.s.length k1, .slice A2 d.b.length k2, .slice A3 d.c.length k3, .int .i64 d.h, .int .i64 d.n, .string d.o] 40)).alloc (.cells #[.slice none 0 0, .slice none 0 0, .slice none 0 0, .int .i64 0, .int .i64 0, .string ⟨#[]⟩] 40)) := below_alloc (below_alloc (Below.refl _ _) _) _
  have zw2 := whole_lt T2
  have zq2 : ((w.alloc (.cells #[.slice A1 d.s.length k1, .slice A2 d.b.length k2, .slice A3 d.c.length k3, .int .i64 d.h, .int .i64 d.n, .string d.o] 40)).alloc (.cells #[.slice none 0 0, .slice none 0 0, .slice none 0 0, .int .i64 0, .int .i64 0, .string ⟨#[]⟩] 40)).heap.size = w.heap.size + 1 + 1 := by simp
  generalize (w.alloc (.cells #[.slice A1 d.s.length k1, .slice A2 d.b.length k2, .slice A3 d.c.length k3, .int .i64 d.h, .int .i64 d.n, .string d.o] 40)).alloc (.cells #[.slice none 0 0, .slice none 0 0, .slice none 0 0, .int .i64 0, .int .i64 0, .string ⟨#[]⟩] 40) = w2 at *
  have zq := Lib.hid zq2
  clear zq2
  refine (AL.out _ _ (datC_below HD B2)).mono ?_
  rintro e w3 ⟨u1, rfl, hb, hB3⟩
  dsimp only at hB3 ⊢
  have B3 := below_step B2 hb
  have V3 := whole_b hb V2
  have T3 := whole_b hb T2
  have zv3 := whole_lt V3
  have zt3 := whole_lt T3
  clear hb
  have hu3 := built_now hB3 (datC_below HD B3)
  obtain ⟨C1, j1, C2, j2, C3, j3, rfl, _⟩ := datC_form hu3
  obtain ⟨v0, v1, v2, v3, v4, v5⟩ := six_cells V3
  go_wp2_with fail
  clear v0 v1 v2 v3 v4 v5
  have V3x := whole_alloc V3 (.cells #[.slice C1 r1.s.length j1, .slice C2 r1.b.length j2, .slice C3 r1.c.length j3, .int .i64 r1.h, .int .i64 r1.n, .string r1.o] 40)
  have T3x := whole_alloc T3 (.cells #[.slice C1 r1.s.length j1, .slice C2 r1.b.length j2, .slice C3 r1.c.length j3, .int .i64 r1.h, .int .i64 r1.n, .string r1.o] 40)
  have X3x := whole_new w3 40 #[.slice C1 r1.s.length j1, .slice C2 r1.b.length j2, .slice C3 r1.c.length j3, .int .i64 r1.h, .int .i64 r1.n, .string r1.o]
  have D3x : Below w3.heap.size w3 (w3.alloc (.cells #[.slice C1 r1.s.length j1, .slice C2 r1.b.length j2, .slice C3 r1.c.length j3, .int .i64 r1.h, .int .i64 r1.n, .string r1.o] 40)) := below_alloc (Below.refl _ _) _
  refine (ST.out _ _ (datC_below hu3 D3x)).mono ?_
  rintro e w4 ⟨u2, rfl, hb, hB4⟩
  dsimp only at hB4 ⊢
  have D4 : Below w3.heap.size w3 w4 := below_step D3x hb
  have B4 := below_step B3 D4
  have T4 := whole_b hb T3x
  have X4 := whole_b hb X3x
  have zt4 := whole_lt T4
  have zx4 := whole_lt X4
  have zs4 := D4.size
  have zs5 := hb.size
  clear hb V3x T3x X3x D3x
  have hC4 := built_comp (n := w.heap.size) hB3 hB4 (by first | omega | (simp; omega)) (by first | omega | (simp; omega)) (agree_below D4)
  have hu4 := built_now hC4 (datC_below HD B4)
  obtain ⟨G1, g1, G2, g2, G3, g3, rfl, _⟩ := datC_form hu4
  obtain ⟨x0, x1, x2, x3, x4, x5⟩ := six_cells X4
  have fx := whole_free X4
  go_wp2_with fail
  clear x0 x1 x2 x3 x4 x5 fx
  have B5 := below_six B4 (show w.heap.size ≤ w3.heap.size by omega) (.slice G1 r2.s.length g1) (.slice G2 r2.b.length g2) (.slice G3 r2.c.length g3) (.int .i64 r2.h) (.int .i64 r2.n) (.string r2.o)
  have T5 := whole_six T4 (show w.heap.size + 1 ≠ w3.heap.size by omega) (.slice G1 r2.s.length g1) (.slice G2 r2.b.length g2) (.slice G3 r2.c.length g3) (.int .i64 r2.h) (.int .i64 r2.n) (.string r2.o)
  have hB5 := built_up hC4 (Nat.le_refl _) (agree_six (n := w.heap.size) X4 (u0 := .slice G1 r2.s.length g1) (u1 := .slice G2 r2.b.length g2) (u2 := .slice G3 r2.c.length g3) (u3 := .int .i64 r2.h) (u4 := .int .i64 r2.n) (u5 := .string r2.o))
  generalize ((((((w4.setCell ⟨w3.heap.size, 0, none⟩ (.slice G1 r2.s.length g1)).setCell ⟨w3.heap.size, 1, none⟩ (.slice G2 r2.b.length g2)).setCell ⟨w3.heap.size, 2, none⟩ (.slice G3 r2.c.length g3)).setCell ⟨w3.heap.size, 3, none⟩ (.int .i64 r2.h)).setCell ⟨w3.heap.size, 4, none⟩ (.int .i64 r2.n)).setCell ⟨w3.heap.size, 5, none⟩ (.string r2.o)) = w5 at *
  have hu5 := built_now hB5 (datC_below HD B5)
  have zw5 := B5.size
  refine (PUT.out _ _ (datC_below hu5 (Below.refl _ _))).mono ?_
  rintro e w6 ⟨u2, rfl, hb, hBz⟩
  have D6 : Below w5.heap.size w5 w6 := below_step (Below.refl _ _) hb
  have B6 := below_step B5 D6
  have T6 := whole_b hb T5
  have zt6 := whole_lt T6
  have hs6 := D6.size
  clear hb
  have hB := built_comp (n := w.heap.size) hB5 hBz (by first | omega | (simp; omega)) (by first | omega | (simp; omega)) (agree_below D6)
  have huz := built_now hB (datC_below HD B6)
  obtain ⟨F1, i1, F2, i2, F3, i3, rfl, _⟩ := datC_form huz
  obtain ⟨r0, r1, r2, r3, r4, r5⟩ := six_cells T6
  have fr := whole_free T6
  go_wp2
  refine bodyPost_ret (v := .tuple #[.agg #[.slice F1 r.s.length i1, .slice F2 r.b.length i2, .slice F3 r.c.length i3, .int .i64 r.h, .int .i64 r.n, .string r.o], .int .i64 t]) (by simp [results, Tryz.results138, go_sem, *]) rfl ⟨_, rfl, below_six B6 (by omega) _ _ _ _ _ _, built_up hB (Nat.le_refl _) (agree_six T6)⟩

end Go.Proofs.YthnbaeamekolmaaGreatDoor

namespace Go.Proofs.YthnbaeamekolmaaGreatDoor
open Go.RowKit
set_option linter.unusedVariables false
set_option linter.unusedSimpArgs false

theorem byteT_size (c : Int) : (byteT c).size ≤ 65536 := by unfold byteT; show (1 : Nat) ≤ _; omega

theorem and_255 (c : Int) : bits .and .i64 c 255 = c % 256 := by
  have e : bits .and .i64 c 255 = IntKind.i64.wrap (((BitVec.ofInt 64 c) &&& (BitVec.ofInt 64 255)).toNat : Int) := rfl
  have e2 : (BitVec.ofInt 64 255).toNat = 2 ^ 8 - 1 := by decide
  rw [e, BitVec.toNat_and, e2, Nat.and_two_pow_sub_one_eq_mod, BitVec.toNat_ofInt]
  rw [IntWalk.i64_in _ (by omega)]
  omega

theorem datC_base {w : World} {A1 A2 A3 : Option Addr} {k1 k2 k3 : Nat} {d : Dt} (h : DatC w (.agg #[.slice A1 d.s.length k1, .slice A2 d.b.length k2, .slice A3 d.c.length k3, .int .i64 d.h, .int .i64 d.n, .string d.o]) d) (n : Int) :
    DatC w (.agg #[.slice A1 d.s.length k1, .slice A2 d.b.length k2, .slice A3 d.c.length k3, .int .i64 d.h, .int .i64 n, .string d.o]) { d with n := n } := by
  obtain ⟨h1, h2⟩ := h
  refine ⟨?_, caps_third h2 _ _ _ _⟩
  obtain ⟨x0, y0, z0, hv, a1, a2, a3, a4⟩ := h1
  simp only [Value.agg.injEq, Array.mk.injEq, List.cons.injEq, and_true, true_and] at hv
  obtain ⟨rfl, rfl, rfl⟩ := hv
  exact ⟨_, _, _, rfl, a1, a2, a3, a4⟩

set_option maxRecDepth 100000 in
set_option maxHeartbeats 4000000 in
theorem sSay_45n (v : Value) (d : Dt) (c : Int) (w : World) (hv : DatC w v d) (hd : DtFine d) (hf : 300 < d.o.size + (byteT c).size) (c1 : -2147483648 ≤ c) (c2 : c ≤ 2147483647) :
    Calls Tryz.prog 139 #[v, .int .i64 45, .int .i64 c] w (ReadC w v d (d, -17)) := by
  have HD := hv
  obtain ⟨A1, k1, A2, k2, A3, k3, rfl, _⟩ := datC_form hv
  have hs := fine_sl hd
  have HF := Lib.hid hd
  have SZ : (byteT c).size ≤ 65536 := byteT_size c
  have SY : Hid (∀ W u, DatC W u d → Calls Tryz.prog 202 #[u, .string (byteT c)] W (ReadC W u d (d, -17))) := Lib.hid fun W u h => sSay_stay u d _ W h (fine_small hd) SZ hf
  have hcv := conv_one ((w.alloc (.cells #[.slice A1 d.s.length k1, .slice A2 d.b.length k2, .slice A3 d.c.length k3, .int .i64 d.h, .int .i64 d.n, .string d.o] 40)).alloc (.cells #[.slice none 0 0, .slice none 0 0, .slice none 0 0, .int .i64 0, .int .i64 0, .string ⟨#[]⟩] 40)) (UInt8.ofNat (c % 256).toNat)
  rw [byte_nat, show (⟨#[UInt8.ofNat (c % 256).toNat]⟩ : ByteArray) = byteT c from rfl, show ((w.alloc (.cells #[.slice A1 d.s.length k1, .slice A2 d.b.length k2, .slice A3 d.c.length k3, .int .i64 d.h, .int .i64 d.n, .string d.o] 40)).alloc (.cells #[.slice none 0 0, .slice none 0 0, .slice none 0 0, .int .i64 0, .int .i64 0, .string ⟨#[]⟩] 40)).heap.size = w.heap.size + 1 + 1 by simp] at hcv
  have e255 := and_255 c
  have e256 : c % 256 % 256 = c % 256 := by omega
  generalize byteT c = T at *
  clear hv SZ hf
  go_enter Tryz.func139, Tryz.ntmps139
  go_wp2_with fail
  have V2 := whole_alloc (whole_new w 40 #[.slice A1 d.s.length k1, .slice A2 d.b.length k2, .slice A3 d.c.length k3, .int .i64 d.h, .int .i64 d.n, .string d.o]) (.cells #[.slice none 0 0, .slice none 0 0, .slice none 0 0, .int .i64 0, .int .i64 0, .string ⟨#[]⟩] 40)
  have T2 := whole_new1 w (.cells #[.slice A1 d.s.length k1, .slice A2 d.b.length k2, .slice A3 d.c.length k3, .int .i64 d.h, .int .i64 d.n, .string d.o] 40) 40 #[.slice none 0 0, .slice none 0 0, .slice none 0 0, .int .i64 0, .int .i64 0, .string ⟨#[]⟩]
  have B2 : Below w.heap.size w ((w.alloc (.cells #[.slice A1 d.s.length k1, .slice A2 d.b.length k2, .slice A3 d.c.length k3, .int .i64 d.h, .int .i64 d.n, .string d.o] 40)).alloc (.cells #[.slice none 0 0, .slice none 0 0, .slice none 0 0, .int .i64 0, .int .i64 0, .string ⟨#[]⟩] 40)) := below_alloc (below_alloc (Below.refl _ _) _) _
  have zw2 := whole_lt T2
  have zq2 : ((w.alloc (.cells #[.slice A1 d.s.length k1, .slice A2 d.b.length k2, .slice A3 d.c.length k3, .int .i64 d.h, .int .i64 d.n, .string d.o] 40)).alloc (.cells #[.slice none 0 0, .slice none 0 0, .slice none 0 0, .int .i64 0, .int .i64 0, .string ⟨#[]⟩] 40)).heap.size = w.heap.size + 1 + 1 := by simp
  generalize (w.alloc (.cells #[.slice A1 d.s.length k1, .slice A2 d.b.length k2, .slice A3 d.c.length k3, .int .i64 d.h, .int .i64 d.n, .string d.o] 40)).alloc (.cells #[.slice none 0 0, .slice none 0 0, .slice none 0 0, .int .i64 0, .int .i64 0, .string ⟨#[]⟩] 40) = w2 at *
  have zq := Lib.hid zq2
  clear zq2
  have B3 := below_alloc B2 (.cells #[.int .u8 (c % 256)] 5)
  have V3 := whole_alloc V2 (.cells #[.int .u8 (c % 256)] 5)
  have T3 := whole_alloc T2 (.cells #[.int .u8 (c % 256)] 5)
  have zv3 := whole_lt V3
  have zt3 := whole_lt T3
  clear hcv V2 T2 B2 e255 e256
  generalize w2.alloc (.cells #[.int .u8 (c % 256)] 5) = w3 at *
  refine (SY.out _ _ (datC_below HD B3)).mono ?_
  rintro e w4 ⟨u1, rfl, hb, hB4⟩
  dsimp only at hB4 ⊢
  have B4 := below_step B3 hb
  have V4 := whole_b hb V3
  have T4 := whole_b hb T3
  have zv4 := whole_lt V4
  have zt4 := whole_lt T4
  clear hb
  have hu4 := built_now hB4 (datC_below HD B4)
  obtain ⟨C1, j1, C2, j2, C3, j3, rfl, _⟩ := datC_form hu4
  obtain ⟨v0, v1, v2, v3, v4, v5⟩ := six_cells V4
  obtain ⟨r0, r1, r2, r3, r4, r5⟩ := six_cells T4
  have fr := whole_free T4
  go_wp2
  refine bodyPost_ret (v := .tuple #[.agg #[.slice A1 d.s.length k1, .slice A2 d.b.length k2, .slice A3 d.c.length k3, .int .i64 d.h, .int .i64 d.n, .string d.o], .int .i64 (-17)]) (by simp [results, Tryz.results139, go_sem, *]) rfl ⟨_, rfl, below_alloc (below_six B4 (by omega) _ _ _ _ _ _) _, built_self _ _ _ _⟩

set_option maxRecDepth 100000 in
set_option maxHeartbeats 4000000 in
theorem sSay_45 (v : Value) (d : Dt) (c : Int) (w : World) (hv : DatC w v d) (hd : DtFine d) (h1 : 1 ≤ d.s.length) (hf : d.o.size + (byteT c).size ≤ 300) (c1 : -2147483648 ≤ c) (c2 : c ≤ 2147483647) :
    Calls Tryz.prog 139 #[v, .int .i64 45, .int .i64 c] w (ReadC w v d (dPut { d with o := d.o ++ byteT c } 1 [])) := by
  have HD := hv
  obtain ⟨A1, k1, A2, k2, A3, k3, rfl, _⟩ := datC_form hv
  have hs := fine_sl hd
  have HF := Lib.hid hd
  have SZ : (byteT c).size ≤ 65536 := byteT_size c
  obtain ⟨r1, hr1⟩ : ∃ r1, r1 = { d with o := d.o ++ byteT c } := ⟨_, rfl⟩
  have e1 : r1.s = d.s := by rw [hr1]
  have SY : Hid (∀ W u, DatC W u d → Calls Tryz.prog 202 #[u, .string (byteT c)] W (ReadC W u d (r1, 0))) := Lib.hid fun W u h => by rw [hr1]; exact sSay_bld u d _ W h (fine_small hd) SZ hf
  rw [← hr1]
  have PUT : Hid (∀ W u, DatC W u r1 → Calls Tryz.prog 194 #[u, .int .i64 1, .slice none 0 0] W (ReadC W u r1 (dPut r1 1 []))) := Lib.hid fun W u h => sPut_any u r1 1 _ [] W h (ints_nil W) (by rw [e1]; omega) (by rw [e1]; exact hs) (by simp)
  generalize dPut r1 1 [] = rt at *
  obtain ⟨r, t⟩ := rt
  clear e1 hr1
  have hcv := conv_one ((w.alloc (.cells #[.slice A1 d.s.length k1, .slice A2 d.b.length k2, .slice A3 d.c.length k3, .int .i64 d.h, .int .i64 d.n, .string d.o] 40)).alloc (.cells #[.slice none 0 0, .slice none 0 0, .slice none 0 0, .int .i64 0, .int .i64 0, .string ⟨#[]⟩] 40)) (UInt8.ofNat (c % 256).toNat)
  rw [byte_nat, show (⟨#[UInt8.ofNat (c % 256).toNat]⟩ : ByteArray) = byteT c from rfl, show ((w.alloc (.cells #[.slice A1 d.s.length k1, .slice A2 d.b.length k2, .slice A3 d.c.length k3, .int .i64 d.h, .int .i64 d.n, .string d.o] 40)).alloc (.cells #[.slice none 0 0, .slice none 0 0, .slice none 0 0, .int .i64 0, .int .i64 0, .string ⟨#[]⟩] 40)).heap.size = w.heap.size + 1 + 1 by simp] at hcv
  have e255 := and_255 c
  have e256 : c % 256 % 256 = c % 256 := by omega
  generalize byteT c = T at *
  clear hv SZ hf
  go_enter Tryz.func139, Tryz.ntmps139
  go_wp2_with fail
  have V2 := whole_alloc (whole_new w 40 #[.slice A1 d.s.length k1, .slice A2 d.b.length k2, .slice A3 d.c.length k3, .int .i64 d.h, .int .i64 d.n, .string d.o]) (.cells #[.slice none 0 0, .slice none 0 0, .slice none 0 0, .int .i64 0, .int .i64 0, .string ⟨#[]⟩] 40)
  have T2 := whole_new1 w (.cells #[.slice A1 d.s.length k1, .slice A2 d.b.length k2, .slice A3 d.c.length k3, .int .i64 d.h, .int .i64 d.n, .string d.o] 40) 40 #[.slice none 0 0, .slice none 0 0, .slice none 0 0, .int .i64 0, .int .i64 0, .string ⟨#[]⟩]
  have B2 : Below w.heap.size w ((w.alloc (.cells #[.slice A1 d.s.length k1, .slice A2 d.b.length k2, .slice A3 d.c.length k3, .int .i64 d.h, .int .i64 d.n, .string d.o] 40)).alloc (.cells #[.slice none 0 0, .slice none 0 0, .slice none 0 0, .int .i64 0, .int .i64 0, .string ⟨#[]⟩] 40)) := below_alloc (below_alloc (Below.refl _ _) _) _
  have zw2 := whole_lt T2
  have zq2 : ((w.alloc (.cells #[.slice A1 d.s.length k1, .slice A2 d.b.length k2, .slice A3 d.c.length k3, .int .i64 d.h, .int .i64 d.n, .string d.o] 40)).alloc (.cells #[.slice none 0 0, .slice none 0 0, .slice none 0 0, .int .i64 0, .int .i64 0, .string ⟨#[]⟩] 40)).heap.size = w.heap.size + 1 + 1 := by simp
  generalize (w.alloc (.cells #[.slice A1 d.s.length k1, .slice A2 d.b.length k2, .slice A3 d.c.length k3, .int .i64 d.h, .int .i64 d.n, .string d.o] 40)).alloc (.cells #[.slice none 0 0, .slice none 0 0, .slice none 0 0, .int .i64 0, .int .i64 0, .string ⟨#[]⟩] 40) = w2 at *
  have zq := Lib.hid zq2
  clear zq2
  have B3 := below_alloc B2 (.cells #[.int .u8 (c % 256)] 5)
  have V3 := whole_alloc V2 (.cells #[.int .u8 (c % 256)] 5)
  have T3 := whole_alloc T2 (.cells #[.int .u8 (c % 256)] 5)
  have zv3 := whole_lt V3
  have zt3 := whole_lt T3
  clear hcv V2 T2 B2 e255 e256
  generalize w2.alloc (.cells #[.int .u8 (c % 256)] 5) = w3 at *
  refine (SY.out _ _ (datC_below HD B3)).mono ?_
  rintro e w4 ⟨u1, rfl, hb, hB4⟩
  dsimp only at hB4 ⊢
  have B4 := below_step B3 hb
  have V4 := whole_b hb V3
  have T4 := whole_b hb T3
  have zv4 := whole_lt V4
  have zt4 := whole_lt T4
  clear hb
  have hu4 := built_now hB4 (datC_below HD B4)
  obtain ⟨C1, j1, C2, j2, C3, j3, rfl, _⟩ := datC_form hu4
  go_wp2_with fail
  refine (PUT.out _ _ (datC_below hu4 (below_alloc (Below.refl _ _) _))).mono ?_
  rintro e w5 ⟨u2, rfl, hb, hBz⟩
  have D5 : Below w4.heap.size w4 w5 := below_step (below_alloc (Below.refl _ _) _) hb
  have B5 := below_step B4 D5
  have T5 := whole_b hb (whole_alloc T4 _)
  have zt5 := whole_lt T5
  have hs5 := D5.size
  clear hb
  have hB := built_comp (n := w.heap.size) hB4 hBz (by first | omega | (simp; omega)) (by first | omega | (simp; omega)) (agree_below D5)
  have huz := built_now hB (datC_below HD B5)
  obtain ⟨F1, i1, F2, i2, F3, i3, rfl, _⟩ := datC_form huz
  obtain ⟨r0, r1, r2, r3, r4, r5⟩ := six_cells T5
  have fr := whole_free T5
  go_wp2
  refine bodyPost_ret (v := .tuple #[.agg #[.slice F1 r.s.length i1, .slice F2 r.b.length i2, .slice F3 r.c.length i3, .int .i64 r.h, .int .i64 r.n, .string r.o], .int .i64 t]) (by simp [results, Tryz.results139, go_sem, *]) rfl ⟨_, rfl, below_six B5 (by omega) _ _ _ _ _ _, built_up hB (Nat.le_refl _) (agree_six T5)⟩

set_option maxRecDepth 100000 in
set_option maxHeartbeats 4000000 in
theorem sSay_46n (v : Value) (d : Dt) (c : Int) (w : World) (hv : DatC w v d) (hd : DtFine d) (hf : 300 < d.o.size + (cellT d c).size) (c1 : -2147483648 ≤ c) (c2 : c ≤ 2147483647) :
    Calls Tryz.prog 139 #[v, .int .i64 46, .int .i64 c] w (ReadC w v d (d, -17)) := by
  have HD := hv
  obtain ⟨A1, k1, A2, k2, A3, k3, rfl, _⟩ := datC_form hv
  have hs := fine_sl hd
  have HF := Lib.hid hd
  have SZ : (cellT d c).size ≤ 65536 := cellT_size d c (fine_n hd) (cellB_true.2 ⟨c1, c2⟩)
  have SY : Hid (∀ W u, DatC W u d → Calls Tryz.prog 202 #[u, .string (cellT d c)] W (ReadC W u d (d, -17))) := Lib.hid fun W u h => sSay_stay u d _ W h (fine_small hd) SZ hf
  have nb := of_inB (show inB d.n 2 16 = true from fine_n hd)
  have nn : ((d.n.toNat : Nat) : Int) = d.n := by omega
  have TX : Hid (∀ W, Calls Tryz.prog 201 #[.int .i64 c, .int .i64 d.n] W fun e w' => e = .returned (.string ⟨(textL upD d.n.toNat c).toArray⟩) ∧ Below W.heap.size W w') := Lib.hid fun W => by
    have h := text_any c d.n.toNat W (by omega) (by omega) c1 c2
    rw [nn] at h
    exact h
  have AP := Lib.hid (show (⟨(textL upD d.n.toNat c).toArray⟩ ++ ⟨#[32]⟩ : ByteArray) = cellT d c by rw [app_one]; rfl)
  have SZ0 : (⟨(textL upD d.n.toNat c).toArray⟩ : ByteArray).size ≤ 65536 := by
    have h1 := SZ
    rw [← AP.out, ByteArray.size_append] at h1
    omega
  generalize cellT d c = T at *
  generalize (⟨(textL upD d.n.toNat c).toArray⟩ : ByteArray) = s0 at *
  clear nn nb
  clear hv SZ hf
  go_enter Tryz.func139, Tryz.ntmps139
  go_wp2_with fail
  have V2 := whole_alloc (whole_new w 40 #[.slice A1 d.s.length k1, .slice A2 d.b.length k2, .slice A3 d.c.length k3, .int .i64 d.h, .int .i64 d.n, .string d.o]) (.cells #[.slice none 0 0, .slice none 0 0, .slice none 0 0, .int .i64 0, .int .i64 0, .string ⟨#[]⟩] 40)
  have T2 := whole_new1 w (.cells #[.slice A1 d.s.length k1, .slice A2 d.b.length k2, .slice A3 d.c.length k3, .int .i64 d.h, .int .i64 d.n, .string d.o] 40) 40 #[.slice none 0 0, .slice none 0 0, .slice none 0 0, .int .i64 0, .int .i64 0, .string ⟨#[]⟩]
  have B2 : Below w.heap.size w ((w.alloc (.cells #[.slice A1 d.s.length k1, .slice A2 d.b.length k2, .slice A3 d.c.length k3, .int .i64 d.h, .int .i64 d.n, .string d.o] 40)).alloc (.cells #[.slice none 0 0, .slice none 0 0, .slice none 0 0, .int .i64 0, .int .i64 0, .string ⟨#[]⟩] 40)) := below_alloc (below_alloc (Below.refl _ _) _) _
  have zw2 := whole_lt T2
  have zq2 : ((w.alloc (.cells #[.slice A1 d.s.length k1, .slice A2 d.b.length k2, .slice A3 d.c.length k3, .int .i64 d.h, .int .i64 d.n, .string d.o] 40)).alloc (.cells #[.slice none 0 0, .slice none 0 0, .slice none 0 0, .int .i64 0, .int .i64 0, .string ⟨#[]⟩] 40)).heap.size = w.heap.size + 1 + 1 := by simp
  generalize (w.alloc (.cells #[.slice A1 d.s.length k1, .slice A2 d.b.length k2, .slice A3 d.c.length k3, .int .i64 d.h, .int .i64 d.n, .string d.o] 40)).alloc (.cells #[.slice none 0 0, .slice none 0 0, .slice none 0 0, .int .i64 0, .int .i64 0, .string ⟨#[]⟩] 40) = w2 at *
  have zq := Lib.hid zq2
  clear zq2
  refine (TX.out _).mono ?_
  rintro e w3 ⟨rfl, hb⟩
  have B3 := below_step B2 hb
  have V3 := whole_b hb V2
  have T3 := whole_b hb T2
  have zv3 := whole_lt V3
  have zt3 := whole_lt T3
  clear hb V2 T2 B2
  obtain ⟨v0, v1, v2, v3, v4, v5⟩ := six_cells V3
  go_wp2_with fail
  rw [AP.out]
  clear v0 v1 v2 v3 v4 v5
  refine (SY.out _ _ (datC_below HD B3)).mono ?_
  rintro e w4 ⟨u1, rfl, hb, hB4⟩
  dsimp only at hB4 ⊢
  have B4 := below_step B3 hb
  have V4 := whole_b hb V3
  have T4 := whole_b hb T3
  have zv4 := whole_lt V4
  have zt4 := whole_lt T4
  clear hb
  have hu4 := built_now hB4 (datC_below HD B4)
  obtain ⟨C1, j1, C2, j2, C3, j3, rfl, _⟩ := datC_form hu4
  obtain ⟨v0, v1, v2, v3, v4, v5⟩ := six_cells V4
  obtain ⟨r0, r1, r2, r3, r4, r5⟩ := six_cells T4
  have fr := whole_free T4
  go_wp2
  refine bodyPost_ret (v := .tuple #[.agg #[.slice A1 d.s.length k1, .slice A2 d.b.length k2, .slice A3 d.c.length k3, .int .i64 d.h, .int .i64 d.n, .string d.o], .int .i64 (-17)]) (by simp [results, Tryz.results139, go_sem, *]) rfl ⟨_, rfl, below_alloc (below_six B4 (by omega) _ _ _ _ _ _) _, built_self _ _ _ _⟩

set_option maxRecDepth 100000 in
set_option maxHeartbeats 4000000 in
theorem sSay_46 (v : Value) (d : Dt) (c : Int) (w : World) (hv : DatC w v d) (hd : DtFine d) (h1 : 1 ≤ d.s.length) (hf : d.o.size + (cellT d c).size ≤ 300) (c1 : -2147483648 ≤ c) (c2 : c ≤ 2147483647) :
    Calls Tryz.prog 139 #[v, .int .i64 46, .int .i64 c] w (ReadC w v d (dPut { d with o := d.o ++ cellT d c } 1 [])) := by
  have HD := hv
  obtain ⟨A1, k1, A2, k2, A3, k3, rfl, _⟩ := datC_form hv
  have hs := fine_sl hd
  have HF := Lib.hid hd
  have SZ : (cellT d c).size ≤ 65536 := cellT_size d c (fine_n hd) (cellB_true.2 ⟨c1, c2⟩)
  obtain ⟨r1, hr1⟩ : ∃ r1, r1 = { d with o := d.o ++ cellT d c } := ⟨_, rfl⟩
  have e1 : r1.s = d.s := by rw [hr1]
  have SY : Hid (∀ W u, DatC W u d → Calls Tryz.prog 202 #[u, .string (cellT d c)] W (ReadC W u d (r1, 0))) := Lib.hid fun W u h => by rw [hr1]; exact sSay_bld u d _ W h (fine_small hd) SZ hf
  rw [← hr1]
  have PUT : Hid (∀ W u, DatC W u r1 → Calls Tryz.prog 194 #[u, .int .i64 1, .slice none 0 0] W (ReadC W u r1 (dPut r1 1 []))) := Lib.hid fun W u h => sPut_any u r1 1 _ [] W h (ints_nil W) (by rw [e1]; omega) (by rw [e1]; exact hs) (by simp)
  generalize dPut r1 1 [] = rt at *
  obtain ⟨r, t⟩ := rt
  clear e1 hr1
  have nb := of_inB (show inB d.n 2 16 = true from fine_n hd)
  have nn : ((d.n.toNat : Nat) : Int) = d.n := by omega
  have TX : Hid (∀ W, Calls Tryz.prog 201 #[.int .i64 c, .int .i64 d.n] W fun e w' => e = .returned (.string ⟨(textL upD d.n.toNat c).toArray⟩) ∧ Below W.heap.size W w') := Lib.hid fun W => by
    have h := text_any c d.n.toNat W (by omega) (by omega) c1 c2
    rw [nn] at h
    exact h
  have AP := Lib.hid (show (⟨(textL upD d.n.toNat c).toArray⟩ ++ ⟨#[32]⟩ : ByteArray) = cellT d c by rw [app_one]; rfl)
  have SZ0 : (⟨(textL upD d.n.toNat c).toArray⟩ : ByteArray).size ≤ 65536 := by
    have h1 := SZ
    rw [← AP.out, ByteArray.size_append] at h1
    omega
  generalize cellT d c = T at *
  generalize (⟨(textL upD d.n.toNat c).toArray⟩ : ByteArray) = s0 at *
  clear nn nb
  clear hv SZ hf
  go_enter Tryz.func139, Tryz.ntmps139
  go_wp2_with fail
  have V2 := whole_alloc (whole_new w 40 #[.slice A1 d.s.length k1, .slice A2 d.b.length k2, .slice A3 d.c.length k3, .int .i64 d.h, .int .i64 d.n, .string d.o]) (.cells #[.slice none 0 0, .slice none 0 0, .slice none 0 0, .int .i64 0, .int .i64 0, .string ⟨#[]⟩] 40)
  have T2 := whole_new1 w (.cells #[.slice A1 d.s.length k1, .slice A2 d.b.length k2, .slice A3 d.c.length k3, .int .i64 d.h, .int .i64 d.n, .string d.o] 40) 40 #[.slice none 0 0, .slice none 0 0, .slice none 0 0, .int .i64 0, .int .i64 0, .string ⟨#[]⟩]
  have B2 : Below w.heap.size w ((w.alloc (.cells #[.slice A1 d.s.length k1, .slice A2 d.b.length k2, .slice A3 d.c.length k3, .int .i64 d.h, .int .i64 d.n, .string d.o] 40)).alloc (.cells #[.slice none 0 0, .slice none 0 0, .slice none 0 0, .int .i64 0, .int .i64 0, .string ⟨#[]⟩] 40)) := below_alloc (below_alloc (Below.refl _ _) _) _
  have zw2 := whole_lt T2
  have zq2 : ((w.alloc (.cells #[.slice A1 d.s.length k1, .slice A2 d.b.length k2, .slice A3 d.c.length k3, .int .i64 d.h, .int .i64 d.n, .string d.o] 40)).alloc (.cells #[.slice none 0 0, .slice none 0 0, .slice none 0 0, .int .i64 0, .int .i64 0, .string ⟨#[]⟩] 40)).heap.size = w.heap.size + 1 + 1 := by simp
  generalize (w.alloc (.cells #[.slice A1 d.s.length k1, .slice A2 d.b.length k2, .slice A3 d.c.length k3, .int .i64 d.h, .int .i64 d.n, .string d.o] 40)).alloc (.cells #[.slice none 0 0, .slice none 0 0, .slice none 0 0, .int .i64 0, .int .i64 0, .string ⟨#[]⟩] 40) = w2 at *
  have zq := Lib.hid zq2
  clear zq2
  refine (TX.out _).mono ?_
  rintro e w3 ⟨rfl, hb⟩
  have B3 := below_step B2 hb
  have V3 := whole_b hb V2
  have T3 := whole_b hb T2
  have zv3 := whole_lt V3
  have zt3 := whole_lt T3
  clear hb V2 T2 B2
  obtain ⟨v0, v1, v2, v3, v4, v5⟩ := six_cells V3
  go_wp2_with fail
  rw [AP.out]
  clear v0 v1 v2 v3 v4 v5
  refine (SY.out _ _ (datC_below HD B3)).mono ?_
  rintro e w4 ⟨u1, rfl, hb, hB4⟩
  dsimp only at hB4 ⊢
  have B4 := below_step B3 hb
  have V4 := whole_b hb V3
  have T4 := whole_b hb T3
  have zv4 := whole_lt V4
  have zt4 := whole_lt T4
  clear hb
  have hu4 := built_now hB4 (datC_below HD B4)
  obtain ⟨C1, j1, C2, j2, C3, j3, rfl, _⟩ := datC_form hu4
  go_wp2_with fail
  refine (PUT.out _ _ (datC_below hu4 (below_alloc (Below.refl _ _) _))).mono ?_
  rintro e w5 ⟨u2, rfl, hb, hBz⟩
  have D5 : Below w4.heap.size w4 w5 := below_step (below_alloc (Below.refl _ _) _) hb
  have B5 := below_step B4 D5
  have T5 := whole_b hb (whole_alloc T4 _)
  have zt5 := whole_lt T5
  have hs5 := D5.size
  clear hb
  have hB := built_comp (n := w.heap.size) hB4 hBz (by first | omega | (simp; omega)) (by first | omega | (simp; omega)) (agree_below D5)
  have huz := built_now hB (datC_below HD B5)
  obtain ⟨F1, i1, F2, i2, F3, i3, rfl, _⟩ := datC_form huz
  obtain ⟨r0, r1, r2, r3, r4, r5⟩ := six_cells T5
  have fr := whole_free T5
  go_wp2
  refine bodyPost_ret (v := .tuple #[.agg #[.slice F1 r.s.length i1, .slice F2 r.b.length i2, .slice F3 r.c.length i3, .int .i64 r.h, .int .i64 r.n, .string r.o], .int .i64 t]) (by simp [results, Tryz.results139, go_sem, *]) rfl ⟨_, rfl, below_six B5 (by omega) _ _ _ _ _ _, built_up hB (Nat.le_refl _) (agree_six T5)⟩

set_option maxRecDepth 100000 in
set_option maxHeartbeats 4000000 in
theorem sSay_47n (v : Value) (d : Dt) (c : Int) (w : World) (hv : DatC w v d) (hd : DtFine d) (hf : 300 < d.o.size + ((⟨#[10]⟩ : ByteArray)).size) :
    Calls Tryz.prog 139 #[v, .int .i64 47, .int .i64 c] w (ReadC w v d (d, -17)) := by
  have HD := hv
  obtain ⟨A1, k1, A2, k2, A3, k3, rfl, _⟩ := datC_form hv
  have hs := fine_sl hd
  have HF := Lib.hid hd
  have SZ : ((⟨#[10]⟩ : ByteArray)).size ≤ 65536 := by decide
  have SY : Hid (∀ W u, DatC W u d → Calls Tryz.prog 202 #[u, .string ((⟨#[10]⟩ : ByteArray))] W (ReadC W u d (d, -17))) := Lib.hid fun W u h => sSay_stay u d _ W h (fine_small hd) SZ hf
  clear hv SZ hf
  go_enter Tryz.func139, Tryz.ntmps139
  go_wp2_with fail
  have V2 := whole_alloc (whole_new w 40 #[.slice A1 d.s.length k1, .slice A2 d.b.length k2, .slice A3 d.c.length k3, .int .i64 d.h, .int .i64 d.n, .string d.o]) (.cells #[.slice none 0 0, .slice none 0 0, .slice none 0 0, .int .i64 0, .int .i64 0, .string ⟨#[]⟩] 40)
  have T2 := whole_new1 w (.cells #[.slice A1 d.s.length k1, .slice A2 d.b.length k2, .slice A3 d.c.length k3, .int .i64 d.h, .int .i64 d.n, .string d.o] 40) 40 #[.slice none 0 0, .slice none 0 0, .slice none 0 0, .int .i64 0, .int .i64 0, .string ⟨#[]⟩]
  have B2 : Below w.heap.size w ((w.alloc (.cells #[.slice A1 d.s.length k1, .slice A2 d.b.length k2, .slice A3 d.c.length k3, .int .i64 d.h, .int .i64 d.n, .string d.o] 40)).alloc (.cells #[.slice none 0 0, .slice none 0 0, .slice none 0 0, .int .i64 0, .int .i64 0, .string ⟨#[]⟩] 40)) := below_alloc (below_alloc (Below.refl _ _) _) _
  have zw2 := whole_lt T2
  have zq2 : ((w.alloc (.cells #[.slice A1 d.s.length k1, .slice A2 d.b.length k2, .slice A3 d.c.length k3, .int .i64 d.h, .int .i64 d.n, .string d.o] 40)).alloc (.cells #[.slice none 0 0, .slice none 0 0, .slice none 0 0, .int .i64 0, .int .i64 0, .string ⟨#[]⟩] 40)).heap.size = w.heap.size + 1 + 1 := by simp
  generalize (w.alloc (.cells #[.slice A1 d.s.length k1, .slice A2 d.b.length k2, .slice A3 d.c.length k3, .int .i64 d.h, .int .i64 d.n, .string d.o] 40)).alloc (.cells #[.slice none 0 0, .slice none 0 0, .slice none 0 0, .int .i64 0, .int .i64 0, .string ⟨#[]⟩] 40) = w2 at *
  have zq := Lib.hid zq2
  clear zq2
  refine (SY.out _ _ (datC_below HD B2)).mono ?_
  rintro e w3 ⟨u1, rfl, hb, hB3⟩
  dsimp only at hB3 ⊢
  have B3 := below_step B2 hb
  have V3 := whole_b hb V2
  have T3 := whole_b hb T2
  have zv3 := whole_lt V3
  have zt3 := whole_lt T3
  clear hb
  have hu3 := built_now hB3 (datC_below HD B3)
  obtain ⟨C1, j1, C2, j2, C3, j3, rfl, _⟩ := datC_form hu3
  obtain ⟨v0, v1, v2, v3, v4, v5⟩ := six_cells V3
  obtain ⟨r0, r1, r2, r3, r4, r5⟩ := six_cells T3
  have fr := whole_free T3
  go_wp2
  refine bodyPost_ret (v := .tuple #[.agg #[.slice A1 d.s.length k1, .slice A2 d.b.length k2, .slice A3 d.c.length k3, .int .i64 d.h, .int .i64 d.n, .string d.o], .int .i64 (-17)]) (by simp [results, Tryz.results139, go_sem, *]) rfl ⟨_, rfl, below_alloc (below_six B3 (by omega) _ _ _ _ _ _) _, built_self _ _ _ _⟩

set_option maxRecDepth 100000 in
set_option maxHeartbeats 4000000 in
theorem sSay_47 (v : Value) (d : Dt) (c : Int) (w : World) (hv : DatC w v d) (hd : DtFine d) (hf : d.o.size + ((⟨#[10]⟩ : ByteArray)).size ≤ 300) :
    Calls Tryz.prog 139 #[v, .int .i64 47, .int .i64 c] w (ReadC w v d (dPut { d with o := d.o ++ (⟨#[10]⟩ : ByteArray) } 0 [])) := by
  have HD := hv
  obtain ⟨A1, k1, A2, k2, A3, k3, rfl, _⟩ := datC_form hv
  have hs := fine_sl hd
  have HF := Lib.hid hd
  have SZ : ((⟨#[10]⟩ : ByteArray)).size ≤ 65536 := by decide
  obtain ⟨r1, hr1⟩ : ∃ r1, r1 = { d with o := d.o ++ (⟨#[10]⟩ : ByteArray) } := ⟨_, rfl⟩
  have e1 : r1.s = d.s := by rw [hr1]
  have SY : Hid (∀ W u, DatC W u d → Calls Tryz.prog 202 #[u, .string ((⟨#[10]⟩ : ByteArray))] W (ReadC W u d (r1, 0))) := Lib.hid fun W u h => by rw [hr1]; exact sSay_bld u d _ W h (fine_small hd) SZ hf
  rw [← hr1]
  have PUT : Hid (∀ W u, DatC W u r1 → Calls Tryz.prog 194 #[u, .int .i64 0, .slice none 0 0] W (ReadC W u r1 (dPut r1 0 []))) := Lib.hid fun W u h => sPut_any u r1 0 _ [] W h (ints_nil W) (by rw [e1]; omega) (by rw [e1]; exact hs) (by simp)
  generalize dPut r1 0 [] = rt at *
  obtain ⟨r, t⟩ := rt
  clear e1 hr1
  clear hv SZ hf
  go_enter Tryz.func139, Tryz.ntmps139
  go_wp2_with fail
  have V2 := whole_alloc (whole_new w 40 #[.slice A1 d.s.length k1, .slice A2 d.b.length k2, .slice A3 d.c.length k3, .int .i64 d.h, .int .i64 d.n, .string d.o]) (.cells #[.slice none 0 0, .slice none 0 0, .slice none 0 0, .int .i64 0, .int .i64 0, .string ⟨#[]⟩] 40)
  have T2 := whole_new1 w (.cells #[.slice A1 d.s.length k1, .slice A2 d.b.length k2, .slice A3 d.c.length k3, .int .i64 d.h, .int .i64 d.n, .string d.o] 40) 40 #[.slice none 0 0, .slice none 0 0, .slice none 0 0, .int .i64 0, .int .i64 0, .string ⟨#[]⟩]
  have B2 : Below w.heap.size w ((w.alloc (.cells #[.slice A1 d.s.length k1, .slice A2 d.b.length k2, .slice A3 d.c.length k3, .int .i64 d.h, .int .i64 d.n, .string d.o] 40)).alloc (.cells #[.slice none 0 0, .slice none 0 0, .slice none 0 0, .int .i64 0, .int .i64 0, .string ⟨#[]⟩] 40)) := below_alloc (below_alloc (Below.refl _ _) _) _
  have zw2 := whole_lt T2
  have zq2 : ((w.alloc (.cells #[.slice A1 d.s.length k1, .slice A2 d.b.length k2, .slice A3 d.c.length k3, .int .i64 d.h, .int .i64 d.n, .string d.o] 40)).alloc (.cells #[.slice none 0 0, .slice none 0 0, .slice none 0 0, .int .i64 0, .int .i64 0, .string ⟨#[]⟩] 40)).heap.size = w.heap.size + 1 + 1 := by simp
  generalize (w.alloc (.cells #[.slice A1 d.s.length k1, .slice A2 d.b.length k2, .slice A3 d.c.length k3, .int .i64 d.h, .int .i64 d.n, .string d.o] 40)).alloc (.cells #[.slice none 0 0, .slice none 0 0, .slice none 0 0, .int .i64 0, .int .i64 0, .string ⟨#[]⟩] 40) = w2 at *
  have zq := Lib.hid zq2
  clear zq2
  refine (SY.out _ _ (datC_below HD B2)).mono ?_
  rintro e w3 ⟨u1, rfl, hb, hB3⟩
  dsimp only at hB3 ⊢
  have B3 := below_step B2 hb
  have V3 := whole_b hb V2
  have T3 := whole_b hb T2
  have zv3 := whole_lt V3
  have zt3 := whole_lt T3
  clear hb
  have hu3 := built_now hB3 (datC_below HD B3)
  obtain ⟨C1, j1, C2, j2, C3, j3, rfl, _⟩ := datC_form hu3
  go_wp2_with fail
  refine (PUT.out _ _ (datC_below hu3 (below_alloc (Below.refl _ _) _))).mono ?_
  rintro e w4 ⟨u2, rfl, hb, hBz⟩
  have D4 : Below w3.heap.size w3 w4 := below_step (below_alloc (Below.refl _ _) _) hb
  have B4 := below_step B3 D4
  have T4 := whole_b hb (whole_alloc T3 _)
  have zt4 := whole_lt T4
  have hs4 := D4.size
  clear hb
  have hB := built_comp (n := w.heap.size) hB3 hBz (by first | omega | (simp; omega)) (by first | omega | (simp; omega)) (agree_below D4)
  have huz := built_now hB (datC_below HD B4)
  obtain ⟨F1, i1, F2, i2, F3, i3, rfl, _⟩ := datC_form huz
  obtain ⟨r0, r1, r2, r3, r4, r5⟩ := six_cells T4
  have fr := whole_free T4
  go_wp2
  refine bodyPost_ret (v := .tuple #[.agg #[.slice F1 r.s.length i1, .slice F2 r.b.length i2, .slice F3 r.c.length i3, .int .i64 r.h, .int .i64 r.n, .string r.o], .int .i64 t]) (by simp [results, Tryz.results139, go_sem, *]) rfl ⟨_, rfl, below_six B4 (by omega) _ _ _ _ _ _, built_up hB (Nat.le_refl _) (agree_six T4)⟩

set_option maxRecDepth 100000 in
set_option maxHeartbeats 4000000 in
theorem sSay_48n (v : Value) (d : Dt) (c : Int) (w : World) (hv : DatC w v d) (hd : DtFine d) (hf : 300 < d.o.size + ((⟨#[32]⟩ : ByteArray)).size) :
    Calls Tryz.prog 139 #[v, .int .i64 48, .int .i64 c] w (ReadC w v d (d, -17)) := by
  have HD := hv
  obtain ⟨A1, k1, A2, k2, A3, k3, rfl, _⟩ := datC_form hv
  have hs := fine_sl hd
  have HF := Lib.hid hd
  have SZ : ((⟨#[32]⟩ : ByteArray)).size ≤ 65536 := by decide
  have SY : Hid (∀ W u, DatC W u d → Calls Tryz.prog 202 #[u, .string ((⟨#[32]⟩ : ByteArray))] W (ReadC W u d (d, -17))) := Lib.hid fun W u h => sSay_stay u d _ W h (fine_small hd) SZ hf
  clear hv SZ hf
  go_enter Tryz.func139, Tryz.ntmps139
  go_wp2_with fail
  have V2 := whole_alloc (whole_new w 40 #[.slice A1 d.s.length k1, .slice A2 d.b.length k2, .slice A3 d.c.length k3, .int .i64 d.h, .int .i64 d.n, .string d.o]) (.cells #[.slice none 0 0, .slice none 0 0, .slice none 0 0, .int .i64 0, .int .i64 0, .string ⟨#[]⟩] 40)
  have T2 := whole_new1 w (.cells #[.slice A1 d.s.length k1, .slice A2 d.b.length k2, .slice A3 d.c.length k3, .int .i64 d.h, .int .i64 d.n, .string d.o] 40) 40 #[.slice none 0 0, .slice none 0 0, .slice none 0 0, .int .i64 0, .int .i64 0, .string ⟨#[]⟩]
  have B2 : Below w.heap.size w ((w.alloc (.cells #[.slice A1 d.s.length k1, .slice A2 d.b.length k2, .slice A3 d.c.length k3, .int .i64 d.h, .int .i64 d.n, .string d.o] 40)).alloc (.cells #[.slice none 0 0, .slice none 0 0, .slice none 0 0, .int .i64 0, .int .i64 0, .string ⟨#[]⟩] 40)) := below_alloc (below_alloc (Below.refl _ _) _) _
  have zw2 := whole_lt T2
  have zq2 : ((w.alloc (.cells #[.slice A1 d.s.length k1, .slice A2 d.b.length k2, .slice A3 d.c.length k3, .int .i64 d.h, .int .i64 d.n, .string d.o] 40)).alloc (.cells #[.slice none 0 0, .slice none 0 0, .slice none 0 0, .int .i64 0, .int .i64 0, .string ⟨#[]⟩] 40)).heap.size = w.heap.size + 1 + 1 := by simp
  generalize (w.alloc (.cells #[.slice A1 d.s.length k1, .slice A2 d.b.length k2, .slice A3 d.c.length k3, .int .i64 d.h, .int .i64 d.n, .string d.o] 40)).alloc (.cells #[.slice none 0 0, .slice none 0 0, .slice none 0 0, .int .i64 0, .int .i64 0, .string ⟨#[]⟩] 40) = w2 at *
  have zq := Lib.hid zq2
  clear zq2
  refine (SY.out _ _ (datC_below HD B2)).mono ?_
  rintro e w3 ⟨u1, rfl, hb, hB3⟩
  dsimp only at hB3 ⊢
  have B3 := below_step B2 hb
  have V3 := whole_b hb V2
  have T3 := whole_b hb T2
  have zv3 := whole_lt V3
  have zt3 := whole_lt T3
  clear hb
  have hu3 := built_now hB3 (datC_below HD B3)
  obtain ⟨C1, j1, C2, j2, C3, j3, rfl, _⟩ := datC_form hu3
  obtain ⟨v0, v1, v2, v3, v4, v5⟩ := six_cells V3
  obtain ⟨r0, r1, r2, r3, r4, r5⟩ := six_cells T3
  have fr := whole_free T3
  go_wp2
  refine bodyPost_ret (v := .tuple #[.agg #[.slice A1 d.s.length k1, .slice A2 d.b.length k2, .slice A3 d.c.length k3, .int .i64 d.h, .int .i64 d.n, .string d.o], .int .i64 (-17)]) (by simp [results, Tryz.results139, go_sem, *]) rfl ⟨_, rfl, below_alloc (below_six B3 (by omega) _ _ _ _ _ _) _, built_self _ _ _ _⟩

set_option maxRecDepth 100000 in
set_option maxHeartbeats 4000000 in
theorem sSay_48 (v : Value) (d : Dt) (c : Int) (w : World) (hv : DatC w v d) (hd : DtFine d) (hf : d.o.size + ((⟨#[32]⟩ : ByteArray)).size ≤ 300) :
    Calls Tryz.prog 139 #[v, .int .i64 48, .int .i64 c] w (ReadC w v d (dPut { d with o := d.o ++ (⟨#[32]⟩ : ByteArray) } 0 [])) := by
  have HD := hv
  obtain ⟨A1, k1, A2, k2, A3, k3, rfl, _⟩ := datC_form hv
  have hs := fine_sl hd
  have HF := Lib.hid hd
  have SZ : ((⟨#[32]⟩ : ByteArray)).size ≤ 65536 := by decide
  obtain ⟨r1, hr1⟩ : ∃ r1, r1 = { d with o := d.o ++ (⟨#[32]⟩ : ByteArray) } := ⟨_, rfl⟩
  have e1 : r1.s = d.s := by rw [hr1]
  have SY : Hid (∀ W u, DatC W u d → Calls Tryz.prog 202 #[u, .string ((⟨#[32]⟩ : ByteArray))] W (ReadC W u d (r1, 0))) := Lib.hid fun W u h => by rw [hr1]; exact sSay_bld u d _ W h (fine_small hd) SZ hf
  rw [← hr1]
  have PUT : Hid (∀ W u, DatC W u r1 → Calls Tryz.prog 194 #[u, .int .i64 0, .slice none 0 0] W (ReadC W u r1 (dPut r1 0 []))) := Lib.hid fun W u h => sPut_any u r1 0 _ [] W h (ints_nil W) (by rw [e1]; omega) (by rw [e1]; exact hs) (by simp)
  generalize dPut r1 0 [] = rt at *
  obtain ⟨r, t⟩ := rt
  clear e1 hr1
  clear hv SZ hf
  go_enter Tryz.func139, Tryz.ntmps139
  go_wp2_with fail
  have V2 := whole_alloc (whole_new w 40 #[.slice A1 d.s.length k1, .slice A2 d.b.length k2, .slice A3 d.c.length k3, .int .i64 d.h, .int .i64 d.n, .string d.o]) (.cells #[.slice none 0 0, .slice none 0 0, .slice none 0 0, .int .i64 0, .int .i64 0, .string ⟨#[]⟩] 40)
  have T2 := whole_new1 w (.cells #[.slice A1 d.s.length k1, .slice A2 d.b.length k2, .slice A3 d.c.length k3, .int .i64 d.h, .int .i64 d.n, .string d.o] 40) 40 #[.slice none 0 0, .slice none 0 0, .slice none 0 0, .int .i64 0, .int .i64 0, .string ⟨#[]⟩]
  have B2 : Below w.heap.size w ((w.alloc (.cells #[.slice A1 d.s.length k1, .slice A2 d.b.length k2, .slice A3 d.c.length k3, .int .i64 d.h, .int .i64 d.n, .string d.o] 40)).alloc (.cells #[.slice none 0 0, .slice none 0 0, .slice none 0 0, .int .i64 0, .int .i64 0, .string ⟨#[]⟩] 40)) := below_alloc (below_alloc (Below.refl _ _) _) _
  have zw2 := whole_lt T2
  have zq2 : ((w.alloc (.cells #[.slice A1 d.s.length k1, .slice A2 d.b.length k2, .slice A3 d.c.length k3, .int .i64 d.h, .int .i64 d.n, .string d.o] 40)).alloc (.cells #[.slice none 0 0, .slice none 0 0, .slice none 0 0, .int .i64 0, .int .i64 0, .string ⟨#[]⟩] 40)).heap.size = w.heap.size + 1 + 1 := by simp
  generalize (w.alloc (.cells #[.slice A1 d.s.length k1, .slice A2 d.b.length k2, .slice A3 d.c.length k3, .int .i64 d.h, .int .i64 d.n, .string d.o] 40)).alloc (.cells #[.slice none 0 0, .slice none 0 0, .slice none 0 0, .int .i64 0, .int .i64 0, .string ⟨#[]⟩] 40) = w2 at *
  have zq := Lib.hid zq2
  clear zq2
  refine (SY.out _ _ (datC_below HD B2)).mono ?_
  rintro e w3 ⟨u1, rfl, hb, hB3⟩
  dsimp only at hB3 ⊢
  have B3 := below_step B2 hb
  have V3 := whole_b hb V2
  have T3 := whole_b hb T2
  have zv3 := whole_lt V3
  have zt3 := whole_lt T3
  clear hb
  have hu3 := built_now hB3 (datC_below HD B3)
  obtain ⟨C1, j1, C2, j2, C3, j3, rfl, _⟩ := datC_form hu3
  go_wp2_with fail
  refine (PUT.out _ _ (datC_below hu3 (below_alloc (Below.refl _ _) _))).mono ?_
  rintro e w4 ⟨u2, rfl, hb, hBz⟩
  have D4 : Below w3.heap.size w3 w4 := below_step (below_alloc (Below.refl _ _) _) hb
  have B4 := below_step B3 D4
  have T4 := whole_b hb (whole_alloc T3 _)
  have zt4 := whole_lt T4
  have hs4 := D4.size
  clear hb
  have hB := built_comp (n := w.heap.size) hB3 hBz (by first | omega | (simp; omega)) (by first | omega | (simp; omega)) (agree_below D4)
  have huz := built_now hB (datC_below HD B4)
  obtain ⟨F1, i1, F2, i2, F3, i3, rfl, _⟩ := datC_form huz
  obtain ⟨r0, r1, r2, r3, r4, r5⟩ := six_cells T4
  have fr := whole_free T4
  go_wp2
  refine bodyPost_ret (v := .tuple #[.agg #[.slice F1 r.s.length i1, .slice F2 r.b.length i2, .slice F3 r.c.length i3, .int .i64 r.h, .int .i64 r.n, .string r.o], .int .i64 t]) (by simp [results, Tryz.results139, go_sem, *]) rfl ⟨_, rfl, below_six B4 (by omega) _ _ _ _ _ _, built_up hB (Nat.le_refl _) (agree_six T4)⟩

set_option maxRecDepth 100000 in
set_option maxHeartbeats 4000000 in
theorem sSay_49 (v : Value) (d : Dt) (c : Int) (w : World) (hv : DatC w v d) (hd : DtFine d) :
    Calls Tryz.prog 139 #[v, .int .i64 49, .int .i64 c] w (ReadC w v d ({ d with n := 10 }, 0)) := by
  have HD := hv
  obtain ⟨A1, k1, A2, k2, A3, k3, rfl, _⟩ := datC_form hv
  have hs := fine_sl hd
  have HF := Lib.hid hd
  clear hv
  go_enter Tryz.func139, Tryz.ntmps139
  go_wp2
  refine bodyPost_ret (v := .tuple #[.agg #[.slice A1 d.s.length k1, .slice A2 d.b.length k2, .slice A3 d.c.length k3, .int .i64 d.h, .int .i64 10, .string d.o], .int .i64 0]) (by simp [results, Tryz.results139, go_sem, *]) rfl ⟨_, rfl, ?_, fun W' hW hA => datC_base hW _⟩
  repeat (first | with_reducible exact Below.refl _ _ | with_reducible refine below_alloc ?_ _ | with_reducible refine Below.setCell ?_ (by simp) _)

set_option maxRecDepth 100000 in
set_option maxHeartbeats 4000000 in
theorem sSay_50 (v : Value) (d : Dt) (c : Int) (w : World) (hv : DatC w v d) (hd : DtFine d) :
    Calls Tryz.prog 139 #[v, .int .i64 50, .int .i64 c] w (ReadC w v d ({ d with n := 16 }, 0)) := by
  have HD := hv
  obtain ⟨A1, k1, A2, k2, A3, k3, rfl, _⟩ := datC_form hv
  have hs := fine_sl hd
  have HF := Lib.hid hd
  clear hv
  go_enter Tryz.func139, Tryz.ntmps139
  go_wp2
  refine bodyPost_ret (v := .tuple #[.agg #[.slice A1 d.s.length k1, .slice A2 d.b.length k2, .slice A3 d.c.length k3, .int .i64 d.h, .int .i64 16, .string d.o], .int .i64 0]) (by simp [results, Tryz.results139, go_sem, *]) rfl ⟨_, rfl, ?_, fun W' hW hA => datC_base hW _⟩
  repeat (first | with_reducible exact Below.refl _ _ | with_reducible refine below_alloc ?_ _ | with_reducible refine Below.setCell ?_ (by simp) _)

end Go.Proofs.YthnbaeamekolmaaGreatDoor
