/- PkC: several of my texts, laid together: HsL0, HsL1, HsL2, HsM. -/
import Derived.Test.YtkcogfgjabemfaaPkB
import Derived.Deep.RegionHeld3
namespace Go.Proofs.Ytkcogfgjabemfaa
open Go.RowKit
set_option linter.unusedVariables false
set_option linter.unusedSimpArgs false

set_option maxRecDepth 100000 in
set_option maxHeartbeats 4000000 in
theorem sCall_G0 (vh vd : Value) (h : Ht) (d : Dt) (c : Nat) (q : Ht) (v th : Int) (w : World) (hh : HostIn w vh h) (hd : DatC w vd d) (hf : HtFine h) (df : DtFine d) (hc : c < 4) (hg : h.g.getD c false = true) (hq : ¬ h.d.length = 40) (hu1 : ¬ d.s.length < capTakes c) (ho : ¬ (c = 3 ∧ d.s.length = 32)) (hn0 : d.s.length = 0) (hdo : hDo h c (tp d 1) (tp d 0) = (q, v, th)) (hth : th = 0) (hc1 : ¬ c = 1) :
    Calls Try.prog 59 #[vh, vd, .int .i64 c] w (HMidOf w (q, (dPut d (capTakes c) [v]).1, 0)) := by
  have HH := Lib.hid hh
  have HD := Lib.hid hd
  obtain ⟨E1, l1, E2, l2, E3, l3, E4, l4, rfl⟩ := hostIn_form hh
  obtain ⟨A1, k1, A2, k2, A3, k3, rfl, _⟩ := datC_form hd
  have h4 := fineH_g hf
  have cl : c < h.g.length := by omega
  obtain ⟨ad, rfl, cg⟩ := bols_at (hostIn_firstRow hh) cl
  clear h4
  have HF := Lib.hid hf
  have DF := Lib.hid df
  have sl := fine_sl df
  have e1 : tp d 1 = 0 := tp_out (by omega)
  have e0 : tp d 0 = 0 := tp_out (by omega)
  rw [e1, e0] at hdo
  rw [show h.g[c] = true by rw [← hg]; simp [List.getD, cl]] at cg
  clear hg
  have u0 : ((h.d.length : Int) == 40) = false := by rw [beq_eq_false_iff_ne]; omega
  clear hq
  obtain ⟨n, hn⟩ : ∃ n, d.s.length = n := ⟨_, rfl⟩
  have HN := Lib.hid hn
  have n32 : n ≤ 32 := by omega
  rw [hn] at HD ⊢
  obtain ⟨tk, ht⟩ : ∃ tk, capTakes c = tk := ⟨_, rfl⟩
  have TKS : Hid (∀ W, Calls Try.prog 109 #[.int .i64 c] W fun e w' => e = .returned (.int .i64 (tk : Nat)) ∧ Below W.heap.size W w') := Lib.hid fun W => by rw [← ht]; exact sHTakes_any c W hc
  have u1 : ¬ n < tk := by omega
  have tk2 : tk ≤ 2 := by rw [← ht]; have : c = 0 ∨ c = 1 ∨ c = 2 ∨ c = 3 := by omega
                          rcases this with rfl | rfl | rfl | rfl <;> decide
  have HTK := Lib.hid ht
  obtain rfl : n = 0 := by omega
  have HDO : Hid (∀ W u, HostIn W u h → Calls Try.prog 110 #[u, .int .i64 c, .int .i64 0, .int .i64 0] W (HDoOf W (q, v, th))) := Lib.hid fun W u hu => by rw [← hdo]; exact sDo_any u h c 0 0 W hu HF.out hc
  subst hth
  have u6 : ((c : Int) == 1) = false := by rw [beq_eq_false_iff_ne]; omega
  have sq : d.s.length = 0 := by omega
  have PUT : Hid (∀ W u lv, Ints W lv [v] → DatC W u d → Calls Try.prog 111 #[u, .int .i64 (tk : Nat), lv] W (ReadC W u d (dPut d tk [v]))) := Lib.hid fun W u lv hl hu => sPut_any u d tk lv [v] W hu hl (by omega) (by omega) (by simp)
  rw [ht]
  clear hn hu1 hn0 hdo ht sl sq hc1
  generalize dPut d tk [v] = pr at *
  obtain ⟨r, rt⟩ := pr
  have CG : ∀ o1 o2 o3 o4 : Obj, ((((w.alloc o1).alloc o2).alloc o3).alloc o4).cell? (ad.add c) = some (.bool true) := fun o1 o2 o3 o4 => cell_kept (below_alloc (below_alloc (below_alloc (below_alloc (Below.refl _ _) _) _) _) _) _ _ cg
  clear cg hh hd hf df
  have OO : (((c : Int) == 3) = true ∧ ((0 : Int) == 32) = false) ∨ ((c : Int) == 3) = false := by
    by_cases q3 : c = 3
    · exact .inl ⟨by rw [beq_iff_eq]; omega, by rw [beq_eq_false_iff_ne]; intro q4; exact ho ⟨q3, by have := HN.out; omega⟩⟩
    · exact .inr (by rw [beq_eq_false_iff_ne]; omega)
  clear ho
  go_enter Try.func59, Try.ntmps59
  rcases OO with ⟨u3, u4⟩ | u3
  · go_wp2_with (first
      | (go_at_call 109; refine (TKS.out _).mono ?_; rintro e w1 ⟨rfl, hb⟩
         have V1 := whole_b hb (whole_alloc (whole_alloc (whole_alloc (whole_new w _ _) _) _) _)
         have D1 := whole_b hb (whole_alloc (whole_alloc (whole_new1 w _ _ _) _) _)
         have T1 := whole_b hb (whole_alloc (whole_new2 w _ _ _ _) _)
         have Y1 := whole_b hb (whole_new3 w _ _ _ _ _)
         have B1 : Hid (Below w.heap.size w w1) := Lib.hid (below_step (below_alloc (below_alloc (below_alloc (below_alloc (Below.refl _ _) _) _) _) _) hb)
         have zy := whole_lt Y1
         obtain ⟨c0, c1, c2, c3, c4⟩ := five_cells V1
         obtain ⟨d0, d1, d2, d3, d4, d5⟩ := six_cells D1
         obtain ⟨r0, r1, r2, r3, r4⟩ := five_cells T1
         obtain ⟨y0, y1, y2, y3, y4, y5⟩ := six_cells Y1
         have fd := whole_free D1
         have fr := whole_free T1
         have fy := whole_free Y1
         have VV1 := Lib.hid V1
         have DD1 := Lib.hid D1
         have TT1 := Lib.hid T1
         have YY1 := Lib.hid Y1
         clear hb V1 D1 T1 Y1)
      | (go_at_call 110; refine (HDO.out _ _ (hostIn_below HH.out B1.out)).mono ?_; rintro e w2 ⟨u2, rfl, hst, hb⟩
         clear c0 c1 c2 c3 c4 d0 d1 d2 d3 d4 d5 r0 r1 r2 r3 r4 y0 y1 y2 y3 y4 y5 fd fr fy
         have B2 : Hid (Below w.heap.size w w2) := Lib.hid (below_step B1.out hb)
         have V2 := whole_b hb VV1.out
         have D2 := whole_b hb DD1.out
         have T2 := whole_b hb TT1.out
         have Y2 := whole_b hb YY1.out
         have z2 := hb.size
         have b0 : w.heap.size < w2.heap.size := by omega
         have b1 : w.heap.size + 1 < w2.heap.size := by omega
         have b2 : w.heap.size + 1 + 1 < w2.heap.size := by omega
         have b3 : w.heap.size + 1 + 1 + 1 < w2.heap.size := by omega
         obtain ⟨U1, p1, U2, p2, U3, p3, U4, p4, rfl⟩ := hostIn_form (hostSt_now hst)
         have HST := Lib.hid hst
         obtain ⟨c0, c1, c2, c3, c4⟩ := five_cells V2
         obtain ⟨d0, d1, d2, d3, d4, d5⟩ := six_cells D2
         obtain ⟨r0, r1, r2, r3, r4⟩ := five_cells T2
         obtain ⟨y0, y1, y2, y3, y4, y5⟩ := six_cells Y2
         have fd := whole_free D2
         have fr := whole_free T2
         have fy := whole_free Y2
         have DD2 := Lib.hid D2
         have TT2 := Lib.hid T2
         have YY2 := Lib.hid Y2
         clear hb hst V2 D2 T2 Y2))
    have KD := Lib.hid (whole_alloc DD2.out (.cells #[.slice U1 q.g.length p1, .slice U2 q.s.length p2, .slice U3 q.n.length p3, .int .i64 q.c, .slice U4 q.d.length p4] 27))
    have KT := Lib.hid (whole_alloc TT2.out (.cells #[.slice U1 q.g.length p1, .slice U2 q.s.length p2, .slice U3 q.n.length p3, .int .i64 q.c, .slice U4 q.d.length p4] 27))
    have KY := Lib.hid (whole_alloc YY2.out (.cells #[.slice U1 q.g.length p1, .slice U2 q.s.length p2, .slice U3 q.n.length p3, .int .i64 q.c, .slice U4 q.d.length p4] 27))
    have KX := Lib.hid (whole_new w2 27 #[.slice U1 q.g.length p1, .slice U2 q.s.length p2, .slice U3 q.n.length p3, .int .i64 q.c, .slice U4 q.d.length p4])
    have KH := Lib.hid (hostSt_alloc HST.out (.cells #[.slice U1 q.g.length p1, .slice U2 q.s.length p2, .slice U3 q.n.length p3, .int .i64 q.c, .slice U4 q.d.length p4] 27))
    have KB := Lib.hid (below_alloc B2.out (.cells #[.slice U1 q.g.length p1, .slice U2 q.s.length p2, .slice U3 q.n.length p3, .int .i64 q.c, .slice U4 q.d.length p4] 27))
    generalize w2.alloc (.cells #[.slice U1 q.g.length p1, .slice U2 q.s.length p2, .slice U3 q.n.length p3, .int .i64 q.c, .slice U4 q.d.length p4] 27) = wa at *
    have zk := whole_lt KX.out
    clear d0 d1 d2 d3 d4 d5 c0 c1 c2 c3 c4 r0 r1 r2 r3 r4 y0 y1 y2 y3 y4 y5 fd fr fy
    obtain ⟨d0, d1, d2, d3, d4, d5⟩ := six_cells KD.out
    have bd : w.heap.size + 1 < wa.heap.size := by omega
    refine wp_region_held_drew (S := fun _ => True) (by kernel_rfl) trivial (fun hHeld => ?_)
    clear hHeld
    refine wpAnyH_take (i := 1) (oi := { dst := some _, op := _, type := _, pos := _, after := _, guard := _ }) (v := ?_) rfl (by kernel_rfl) (by kernel_rfl) (by kernel_rfl) (fun _ _ _ h => h) (Or.inl ⟨by rfl, ?_⟩) trivial ?_
    rotate_left 1
    · intro w hSw; go_simp; try with_reducible rfl
    try simp only [Act.put, List.setIfInBounds_toArray, List.set_cons_zero, List.set_cons_succ]
    refine wpAnyH_take (i := 3) (oi := { dst := some _, op := _, type := _, pos := _, after := _, guard := _ }) (v := ?_) rfl (by kernel_rfl) (by kernel_rfl) (by kernel_rfl) (fun _ _ _ h => h) (Or.inl ⟨by rfl, ?_⟩) trivial ?_
    rotate_left 1
    · intro w hSw; go_simp; try with_reducible rfl
    try simp only [Act.put, List.setIfInBounds_toArray, List.set_cons_zero, List.set_cons_succ]
    refine wpAnyH_ready (rs := [0, 2, 4]) (by kernel_rfl) (by simp) ?_
    refine AllReadyH.cons (o := { dst := some _, op := _, type := _, pos := _, after := _, guard := _ }) rfl (fun K hK => ?_) ?_
    · go_simp
      refine hK.out _ _ trivial (fun hHeld => ?_)
      clear hK K hHeld
      try simp only [Act.put, List.setIfInBounds_toArray, List.set_cons_zero, List.set_cons_succ]
      refine wpAnyH_ready (rs := [2, 4]) (by kernel_rfl) (by simp) ?_
      refine AllReadyH.cons (o := { dst := some _, op := _, type := _, pos := _, after := _, guard := _ }) rfl (fun K hK => ?_) ?_
      · go_simp
        refine (TKS.out _).mono ?_
        rintro e w5 ⟨rfl, hb5⟩
        have K5 : Hid (Below wa.heap.size wa w5) := Lib.hid (below_step (by repeat (first | with_reducible exact Below.refl _ _ | with_reducible refine below_alloc ?_ _ | with_reducible refine Below.drew ?_)) hb5)
        have zw := K5.out.size
        have D5 := whole_b K5.out KD.out
        obtain ⟨e0, e1, e2, e3, e4, e5⟩ := six_cells D5
        have be : w.heap.size + 1 < w5.heap.size := by omega
        clear hb5 D5
        refine hK.out _ _ trivial (fun hHeld => ?_)
        clear hK K hHeld
        try simp only [Act.put, List.setIfInBounds_toArray, List.set_cons_zero, List.set_cons_succ]
        refine wpAnyH_ready (rs := [4]) (by kernel_rfl) (by simp) ?_
        refine AllReadyH.cons (o := { dst := some _, op := _, type := _, pos := _, after := _, guard := _ }) rfl (fun K hK => ?_) AllReadyH.nil
        go_simp
        refine hK.out _ _ trivial (fun hHeld => ?_)
        clear hK K hHeld
        try simp only [Act.put, List.setIfInBounds_toArray, List.set_cons_zero, List.set_cons_succ]
        refine wpAnyH_ready (rs := [5]) (by kernel_rfl) (by simp) ?_
        refine AllReadyH.cons (o := { dst := some _, op := _, type := _, pos := _, after := _, guard := _ }) rfl (fun K hK => ?_) AllReadyH.nil
        go_simp
        refine (PUT.out _ _ _ (by exact ints_oneAt _ _ rfl) (datC_below HD.out (below_step KB.out (below_alloc K5.out _)))).mono ?_
        rintro e w3 ⟨ux, rfl, hb3, hB3⟩
        have K3 : Hid (Below wa.heap.size wa w3) := Lib.hid (below_step (below_alloc K5.out _) hb3)
        have NP : Hid (wa.heap.size ≤ w5.heap.size + 1) := Lib.hid (by omega)
        have B3 : Hid (Below w.heap.size w w3) := Lib.hid (below_step KB.out K3.out)
        have HST3 := Lib.hid (hostSt_below KH.out K3.out)
        have D3 := whole_b K3.out KD.out
        have T3 := whole_b K3.out KT.out
        have Y3 := whole_b K3.out KY.out
        have X3 := whole_b K3.out KX.out
        have z3 := whole_lt X3
        have hu3 := built_now hB3 (datC_below HD.out B3.out)
        simp only at hu3
        obtain ⟨R1, m1, R2, m2, R3, m3, rfl, _⟩ := datC_form hu3
        have HB3 := Lib.hid hB3
        obtain ⟨d0, d1, d2, d3, d4, d5⟩ := six_cells D3
        obtain ⟨r0, r1, r2, r3, r4⟩ := five_cells T3
        obtain ⟨y0, y1, y2, y3, y4, y5⟩ := six_cells Y3
        obtain ⟨x0_, x1_, x2_, x3_, x4_⟩ := five_cells X3
        have fd := whole_free D3
        have fr := whole_free T3
        have fy := whole_free Y3
        clear hb3 hB3 hu3 D3 T3 Y3 X3
        refine hK.out _ _ trivial (fun hHeld => ?_)
        clear hK K hHeld
        try simp only [Act.put, List.setIfInBounds_toArray, List.set_cons_zero, List.set_cons_succ]
        refine wpAnyH_take (i := 6) (oi := { dst := some _, op := _, type := _, pos := _, after := _, guard := _ }) (v := ?_) rfl (by kernel_rfl) (by kernel_rfl) (by kernel_rfl) (fun _ _ _ h => h) (Or.inl ⟨by rfl, ?_⟩) trivial ?_
        rotate_left 1
        · intro w hSw; go_simp; try with_reducible rfl
        try simp only [Act.put, List.setIfInBounds_toArray, List.set_cons_zero, List.set_cons_succ]
        refine wpAnyH_take (i := 7) (oi := { dst := some _, op := _, type := _, pos := _, after := _, guard := _ }) (v := ?_) rfl (by kernel_rfl) (by kernel_rfl) (by kernel_rfl) (fun _ _ _ h => h) (Or.inl ⟨by rfl, ?_⟩) trivial ?_
        rotate_left 1
        · intro w hSw; go_simp; try with_reducible rfl
        try simp only [Act.put, List.setIfInBounds_toArray, List.set_cons_zero, List.set_cons_succ]
        refine wpAnyH_take (i := 8) (oi := { dst := some _, op := _, type := _, pos := _, after := _, guard := _ }) (v := ?_) rfl (by kernel_rfl) (by kernel_rfl) (by kernel_rfl) (fun _ _ _ h => h) (Or.inl ⟨by rfl, ?_⟩) trivial ?_
        rotate_left 1
        · intro w hSw; go_simp; try with_reducible rfl
        try simp only [Act.put, List.setIfInBounds_toArray, List.set_cons_zero, List.set_cons_succ]
        refine wpAnyH_ready (rs := [9]) (by kernel_rfl) (by simp) ?_
        refine AllReadyH.cons (o := { dst := none, op := _, type := _, pos := _, after := _, guard := _ }) rfl (fun K hK => ?_) AllReadyH.nil
        go_simp
        refine hK.out _ _ trivial (fun hHeld => ?_)
        clear hK K hHeld
        try simp only [Act.put, List.setIfInBounds_toArray, List.set_cons_zero, List.set_cons_succ]
        refine wpAnyH_done (by kernel_rfl) ?_ _
        go_wp2
        go_region
        all_goals
          go_wp2
          refine bodyPost_ret (v := .tuple #[.agg #[.slice U1 q.g.length p1, .slice U2 q.s.length p2, .slice U3 q.n.length p3, .int .i64 q.c, .slice U4 q.d.length p4], .agg #[.slice R1 r.s.length m1, .slice R2 r.b.length m2, .slice R3 r.c.length m3, .int .i64 r.h, .int .i64 r.n, .string r.o], .int .i64 0]) (by simp [results, Try.results59, go_sem, *]) rfl ⟨_, _, rfl, ?_, HB3.out _ (datC_below HD.out ?_) ?_, ?_⟩
          · refine hostSt_now (lo := w1.heap.size) ?_
            have hq := HST3.out
            repeat (first | with_reducible exact hq | ((with_reducible refine hostSt_store ?_ ?hh); case hh => omega) | with_reducible refine hostSt_drew ?_)
          · repeat (first | with_reducible exact B3.out | with_reducible refine Below.setCell ?_ (by simp <;> omega) _ | with_reducible refine Below.drew ?_)
          · repeat (first | with_reducible exact agree_refl _ _ | ((with_reducible refine agree_old ?_ ?hh _); case hh => (have := NP.out; simp <;> omega)) | with_reducible refine agree_drew ?_)
          · repeat (first | with_reducible exact B3.out | with_reducible refine Below.setCell ?_ (by simp <;> omega) _ | with_reducible refine Below.drew ?_)
      refine AllReadyH.cons (o := { dst := some _, op := _, type := _, pos := _, after := _, guard := _ }) rfl (fun K hK => ?_) AllReadyH.nil
      go_simp
      refine hK.out _ _ trivial (fun hHeld => ?_)
      clear hK K hHeld
      try simp only [Act.put, List.setIfInBounds_toArray, List.set_cons_zero, List.set_cons_succ]
      refine wpAnyH_ready (rs := [2]) (by kernel_rfl) (by simp) ?_
      refine AllReadyH.cons (o := { dst := some _, op := _, type := _, pos := _, after := _, guard := _ }) rfl (fun K hK => ?_) AllReadyH.nil
      go_simp
      refine (TKS.out _).mono ?_
      rintro e w5 ⟨rfl, hb5⟩
      have K5 : Hid (Below wa.heap.size wa w5) := Lib.hid (below_step (by repeat (first | with_reducible exact Below.refl _ _ | with_reducible refine below_alloc ?_ _ | with_reducible refine Below.drew ?_)) hb5)
      have zw := K5.out.size
      have LI := Lib.hid (ints_below (w := World.drew _) (show Ints (World.drew (wa.alloc (.cells #[.int .i64 v] 3))) (.slice (some ⟨wa.heap.size, 0, none⟩) 1 1) [v] from ints_oneAt wa v rfl) hb5)
      have D5 := whole_b K5.out KD.out
      obtain ⟨e0, e1, e2, e3, e4, e5⟩ := six_cells D5
      have be : w.heap.size + 1 < w5.heap.size := by omega
      clear hb5 D5
      refine hK.out _ _ trivial (fun hHeld => ?_)
      clear hK K hHeld
      try simp only [Act.put, List.setIfInBounds_toArray, List.set_cons_zero, List.set_cons_succ]
      refine wpAnyH_ready (rs := [5]) (by kernel_rfl) (by simp) ?_
      refine AllReadyH.cons (o := { dst := some _, op := _, type := _, pos := _, after := _, guard := _ }) rfl (fun K hK => ?_) AllReadyH.nil
      go_simp
      refine (PUT.out _ _ _ LI.out (datC_below HD.out (below_step KB.out K5.out))).mono ?_
      rintro e w3 ⟨ux, rfl, hb3, hB3⟩
      have K3 : Hid (Below wa.heap.size wa w3) := Lib.hid (below_step K5.out hb3)
      have NP : Hid (wa.heap.size ≤ w5.heap.size) := Lib.hid (by omega)
      have B3 : Hid (Below w.heap.size w w3) := Lib.hid (below_step KB.out K3.out)
      have HST3 := Lib.hid (hostSt_below KH.out K3.out)
      have D3 := whole_b K3.out KD.out
      have T3 := whole_b K3.out KT.out
      have Y3 := whole_b K3.out KY.out
      have X3 := whole_b K3.out KX.out
      have z3 := whole_lt X3
      have hu3 := built_now hB3 (datC_below HD.out B3.out)
      simp only at hu3
      obtain ⟨R1, m1, R2, m2, R3, m3, rfl, _⟩ := datC_form hu3
      have HB3 := Lib.hid hB3
      obtain ⟨d0, d1, d2, d3, d4, d5⟩ := six_cells D3
      obtain ⟨r0, r1, r2, r3, r4⟩ := five_cells T3
      obtain ⟨y0, y1, y2, y3, y4, y5⟩ := six_cells Y3
      obtain ⟨x0_, x1_, x2_, x3_, x4_⟩ := five_cells X3
      have fd := whole_free D3
      have fr := whole_free T3
      have fy := whole_free Y3
      clear hb3 hB3 hu3 D3 T3 Y3 X3
      refine hK.out _ _ trivial (fun hHeld => ?_)
      clear hK K hHeld
      try simp only [Act.put, List.setIfInBounds_toArray, List.set_cons_zero, List.set_cons_succ]
      refine wpAnyH_take (i := 6) (oi := { dst := some _, op := _, type := _, pos := _, after := _, guard := _ }) (v := ?_) rfl (by kernel_rfl) (by kernel_rfl) (by kernel_rfl) (fun _ _ _ h => h) (Or.inl ⟨by rfl, ?_⟩) trivial ?_
      rotate_left 1
      · intro w hSw; go_simp; try with_reducible rfl
      try simp only [Act.put, List.setIfInBounds_toArray, List.set_cons_zero, List.set_cons_succ]
      refine wpAnyH_take (i := 7) (oi := { dst := some _, op := _, type := _, pos := _, after := _, guard := _ }) (v := ?_) rfl (by kernel_rfl) (by kernel_rfl) (by kernel_rfl) (fun _ _ _ h => h) (Or.inl ⟨by rfl, ?_⟩) trivial ?_
      rotate_left 1
      · intro w hSw; go_simp; try with_reducible rfl
      try simp only [Act.put, List.setIfInBounds_toArray, List.set_cons_zero, List.set_cons_succ]
      refine wpAnyH_take (i := 8) (oi := { dst := some _, op := _, type := _, pos := _, after := _, guard := _ }) (v := ?_) rfl (by kernel_rfl) (by kernel_rfl) (by kernel_rfl) (fun _ _ _ h => h) (Or.inl ⟨by rfl, ?_⟩) trivial ?_
      rotate_left 1
      · intro w hSw; go_simp; try with_reducible rfl
      try simp only [Act.put, List.setIfInBounds_toArray, List.set_cons_zero, List.set_cons_succ]
      refine wpAnyH_ready (rs := [9]) (by kernel_rfl) (by simp) ?_
      refine AllReadyH.cons (o := { dst := none, op := _, type := _, pos := _, after := _, guard := _ }) rfl (fun K hK => ?_) AllReadyH.nil
      go_simp
      refine hK.out _ _ trivial (fun hHeld => ?_)
      clear hK K hHeld
      try simp only [Act.put, List.setIfInBounds_toArray, List.set_cons_zero, List.set_cons_succ]
      refine wpAnyH_done (by kernel_rfl) ?_ _
      go_wp2
      go_region
      all_goals
        go_wp2
        refine bodyPost_ret (v := .tuple #[.agg #[.slice U1 q.g.length p1, .slice U2 q.s.length p2, .slice U3 q.n.length p3, .int .i64 q.c, .slice U4 q.d.length p4], .agg #[.slice R1 r.s.length m1, .slice R2 r.b.length m2, .slice R3 r.c.length m3, .int .i64 r.h, .int .i64 r.n, .string r.o], .int .i64 0]) (by simp [results, Try.results59, go_sem, *]) rfl ⟨_, _, rfl, ?_, HB3.out _ (datC_below HD.out ?_) ?_, ?_⟩
        · refine hostSt_now (lo := w1.heap.size) ?_
          have hq := HST3.out
          repeat (first | with_reducible exact hq | ((with_reducible refine hostSt_store ?_ ?hh); case hh => omega) | with_reducible refine hostSt_drew ?_)
        · repeat (first | with_reducible exact B3.out | with_reducible refine Below.setCell ?_ (by simp <;> omega) _ | with_reducible refine Below.drew ?_)
        · repeat (first | with_reducible exact agree_refl _ _ | ((with_reducible refine agree_old ?_ ?hh _); case hh => (have := NP.out; simp <;> omega)) | with_reducible refine agree_drew ?_)
        · repeat (first | with_reducible exact B3.out | with_reducible refine Below.setCell ?_ (by simp <;> omega) _ | with_reducible refine Below.drew ?_)
    refine AllReadyH.cons (o := { dst := some _, op := _, type := _, pos := _, after := _, guard := _ }) rfl (fun K hK => ?_) ?_
    · go_simp
      refine (TKS.out _).mono ?_
      rintro e w5 ⟨rfl, hb5⟩
      have K5 : Hid (Below wa.heap.size wa w5) := Lib.hid (below_step (by repeat (first | with_reducible exact Below.refl _ _ | with_reducible refine below_alloc ?_ _ | with_reducible refine Below.drew ?_)) hb5)
      have zw := K5.out.size
      have D5 := whole_b K5.out KD.out
      obtain ⟨e0, e1, e2, e3, e4, e5⟩ := six_cells D5
      have be : w.heap.size + 1 < w5.heap.size := by omega
      clear hb5 D5
      refine hK.out _ _ trivial (fun hHeld => ?_)
      clear hK K hHeld
      try simp only [Act.put, List.setIfInBounds_toArray, List.set_cons_zero, List.set_cons_succ]
      refine wpAnyH_ready (rs := [0, 4]) (by kernel_rfl) (by simp) ?_
      refine AllReadyH.cons (o := { dst := some _, op := _, type := _, pos := _, after := _, guard := _ }) rfl (fun K hK => ?_) ?_
      · go_simp
        refine hK.out _ _ trivial (fun hHeld => ?_)
        clear hK K hHeld
        try simp only [Act.put, List.setIfInBounds_toArray, List.set_cons_zero, List.set_cons_succ]
        refine wpAnyH_ready (rs := [4]) (by kernel_rfl) (by simp) ?_
        refine AllReadyH.cons (o := { dst := some _, op := _, type := _, pos := _, after := _, guard := _ }) rfl (fun K hK => ?_) AllReadyH.nil
        go_simp
        refine hK.out _ _ trivial (fun hHeld => ?_)
        clear hK K hHeld
        try simp only [Act.put, List.setIfInBounds_toArray, List.set_cons_zero, List.set_cons_succ]
        refine wpAnyH_ready (rs := [5]) (by kernel_rfl) (by simp) ?_
        refine AllReadyH.cons (o := { dst := some _, op := _, type := _, pos := _, after := _, guard := _ }) rfl (fun K hK => ?_) AllReadyH.nil
        go_simp
        refine (PUT.out _ _ _ (by exact ints_oneAt _ _ rfl) (datC_below HD.out (below_step KB.out (below_alloc K5.out _)))).mono ?_
        rintro e w3 ⟨ux, rfl, hb3, hB3⟩
        have K3 : Hid (Below wa.heap.size wa w3) := Lib.hid (below_step (below_alloc K5.out _) hb3)
        have NP : Hid (wa.heap.size ≤ w5.heap.size + 1) := Lib.hid (by omega)
        have B3 : Hid (Below w.heap.size w w3) := Lib.hid (below_step KB.out K3.out)
        have HST3 := Lib.hid (hostSt_below KH.out K3.out)
        have D3 := whole_b K3.out KD.out
        have T3 := whole_b K3.out KT.out
        have Y3 := whole_b K3.out KY.out
        have X3 := whole_b K3.out KX.out
        have z3 := whole_lt X3
        have hu3 := built_now hB3 (datC_below HD.out B3.out)
        simp only at hu3
        obtain ⟨R1, m1, R2, m2, R3, m3, rfl, _⟩ := datC_form hu3
        have HB3 := Lib.hid hB3
        obtain ⟨d0, d1, d2, d3, d4, d5⟩ := six_cells D3
        obtain ⟨r0, r1, r2, r3, r4⟩ := five_cells T3
        obtain ⟨y0, y1, y2, y3, y4, y5⟩ := six_cells Y3
        obtain ⟨x0_, x1_, x2_, x3_, x4_⟩ := five_cells X3
        have fd := whole_free D3
        have fr := whole_free T3
        have fy := whole_free Y3
        clear hb3 hB3 hu3 D3 T3 Y3 X3
        refine hK.out _ _ trivial (fun hHeld => ?_)
        clear hK K hHeld
        try simp only [Act.put, List.setIfInBounds_toArray, List.set_cons_zero, List.set_cons_succ]
        refine wpAnyH_take (i := 6) (oi := { dst := some _, op := _, type := _, pos := _, after := _, guard := _ }) (v := ?_) rfl (by kernel_rfl) (by kernel_rfl) (by kernel_rfl) (fun _ _ _ h => h) (Or.inl ⟨by rfl, ?_⟩) trivial ?_
        rotate_left 1
        · intro w hSw; go_simp; try with_reducible rfl
        try simp only [Act.put, List.setIfInBounds_toArray, List.set_cons_zero, List.set_cons_succ]
        refine wpAnyH_take (i := 7) (oi := { dst := some _, op := _, type := _, pos := _, after := _, guard := _ }) (v := ?_) rfl (by kernel_rfl) (by kernel_rfl) (by kernel_rfl) (fun _ _ _ h => h) (Or.inl ⟨by rfl, ?_⟩) trivial ?_
        rotate_left 1
        · intro w hSw; go_simp; try with_reducible rfl
        try simp only [Act.put, List.setIfInBounds_toArray, List.set_cons_zero, List.set_cons_succ]
        refine wpAnyH_take (i := 8) (oi := { dst := some _, op := _, type := _, pos := _, after := _, guard := _ }) (v := ?_) rfl (by kernel_rfl) (by kernel_rfl) (by kernel_rfl) (fun _ _ _ h => h) (Or.inl ⟨by rfl, ?_⟩) trivial ?_
        rotate_left 1
        · intro w hSw; go_simp; try with_reducible rfl
        try simp only [Act.put, List.setIfInBounds_toArray, List.set_cons_zero, List.set_cons_succ]
        refine wpAnyH_ready (rs := [9]) (by kernel_rfl) (by simp) ?_
        refine AllReadyH.cons (o := { dst := none, op := _, type := _, pos := _, after := _, guard := _ }) rfl (fun K hK => ?_) AllReadyH.nil
        go_simp
        refine hK.out _ _ trivial (fun hHeld => ?_)
        clear hK K hHeld
        try simp only [Act.put, List.setIfInBounds_toArray, List.set_cons_zero, List.set_cons_succ]
        refine wpAnyH_done (by kernel_rfl) ?_ _
        go_wp2
        go_region
        all_goals
          go_wp2
          refine bodyPost_ret (v := .tuple #[.agg #[.slice U1 q.g.length p1, .slice U2 q.s.length p2, .slice U3 q.n.length p3, .int .i64 q.c, .slice U4 q.d.length p4], .agg #[.slice R1 r.s.length m1, .slice R2 r.b.length m2, .slice R3 r.c.length m3, .int .i64 r.h, .int .i64 r.n, .string r.o], .int .i64 0]) (by simp [results, Try.results59, go_sem, *]) rfl ⟨_, _, rfl, ?_, HB3.out _ (datC_below HD.out ?_) ?_, ?_⟩
          · refine hostSt_now (lo := w1.heap.size) ?_
            have hq := HST3.out
            repeat (first | with_reducible exact hq | ((with_reducible refine hostSt_store ?_ ?hh); case hh => omega) | with_reducible refine hostSt_drew ?_)
          · repeat (first | with_reducible exact B3.out | with_reducible refine Below.setCell ?_ (by simp <;> omega) _ | with_reducible refine Below.drew ?_)
          · repeat (first | with_reducible exact agree_refl _ _ | ((with_reducible refine agree_old ?_ ?hh _); case hh => (have := NP.out; simp <;> omega)) | with_reducible refine agree_drew ?_)
          · repeat (first | with_reducible exact B3.out | with_reducible refine Below.setCell ?_ (by simp <;> omega) _ | with_reducible refine Below.drew ?_)
      refine AllReadyH.cons (o := { dst := some _, op := _, type := _, pos := _, after := _, guard := _ }) rfl (fun K hK => ?_) AllReadyH.nil
      go_simp
      refine hK.out _ _ trivial (fun hHeld => ?_)
      clear hK K hHeld
      try simp only [Act.put, List.setIfInBounds_toArray, List.set_cons_zero, List.set_cons_succ]
      refine wpAnyH_ready (rs := [0]) (by kernel_rfl) (by simp) ?_
      refine AllReadyH.cons (o := { dst := some _, op := _, type := _, pos := _, after := _, guard := _ }) rfl (fun K hK => ?_) AllReadyH.nil
      go_simp
      refine hK.out _ _ trivial (fun hHeld => ?_)
      clear hK K hHeld
      try simp only [Act.put, List.setIfInBounds_toArray, List.set_cons_zero, List.set_cons_succ]
      refine wpAnyH_ready (rs := [5]) (by kernel_rfl) (by simp) ?_
      refine AllReadyH.cons (o := { dst := some _, op := _, type := _, pos := _, after := _, guard := _ }) rfl (fun K hK => ?_) AllReadyH.nil
      go_simp
      refine (PUT.out _ _ _ (by exact ints_oneAt _ _ rfl) (datC_below HD.out (below_step KB.out (below_alloc K5.out _)))).mono ?_
      rintro e w3 ⟨ux, rfl, hb3, hB3⟩
      have K3 : Hid (Below wa.heap.size wa w3) := Lib.hid (below_step (below_alloc K5.out _) hb3)
      have NP : Hid (wa.heap.size ≤ w5.heap.size + 1) := Lib.hid (by omega)
      have B3 : Hid (Below w.heap.size w w3) := Lib.hid (below_step KB.out K3.out)
      have HST3 := Lib.hid (hostSt_below KH.out K3.out)
      have D3 := whole_b K3.out KD.out
      have T3 := whole_b K3.out KT.out
      have Y3 := whole_b K3.out KY.out
      have X3 := whole_b K3.out KX.out
      have z3 := whole_lt X3
      have hu3 := built_now hB3 (datC_below HD.out B3.out)
      simp only at hu3
      obtain ⟨R1, m1, R2, m2, R3, m3, rfl, _⟩ := datC_form hu3
      have HB3 := Lib.hid hB3
      obtain ⟨d0, d1, d2, d3, d4, d5⟩ := six_cells D3
      obtain ⟨r0, r1, r2, r3, r4⟩ := five_cells T3
      obtain ⟨y0, y1, y2, y3, y4, y5⟩ := six_cells Y3
      obtain ⟨x0_, x1_, x2_, x3_, x4_⟩ := five_cells X3
      have fd := whole_free D3
      have fr := whole_free T3
      have fy := whole_free Y3
      clear hb3 hB3 hu3 D3 T3 Y3 X3
      refine hK.out _ _ trivial (fun hHeld => ?_)
      clear hK K hHeld
      try simp only [Act.put, List.setIfInBounds_toArray, List.set_cons_zero, List.set_cons_succ]
      refine wpAnyH_take (i := 6) (oi := { dst := some _, op := _, type := _, pos := _, after := _, guard := _ }) (v := ?_) rfl (by kernel_rfl) (by kernel_rfl) (by kernel_rfl) (fun _ _ _ h => h) (Or.inl ⟨by rfl, ?_⟩) trivial ?_
      rotate_left 1
      · intro w hSw; go_simp; try with_reducible rfl
      try simp only [Act.put, List.setIfInBounds_toArray, List.set_cons_zero, List.set_cons_succ]
      refine wpAnyH_take (i := 7) (oi := { dst := some _, op := _, type := _, pos := _, after := _, guard := _ }) (v := ?_) rfl (by kernel_rfl) (by kernel_rfl) (by kernel_rfl) (fun _ _ _ h => h) (Or.inl ⟨by rfl, ?_⟩) trivial ?_
      rotate_left 1
      · intro w hSw; go_simp; try with_reducible rfl
      try simp only [Act.put, List.setIfInBounds_toArray, List.set_cons_zero, List.set_cons_succ]
      refine wpAnyH_take (i := 8) (oi := { dst := some _, op := _, type := _, pos := _, after := _, guard := _ }) (v := ?_) rfl (by kernel_rfl) (by kernel_rfl) (by kernel_rfl) (fun _ _ _ h => h) (Or.inl ⟨by rfl, ?_⟩) trivial ?_
      rotate_left 1
      · intro w hSw; go_simp; try with_reducible rfl
      try simp only [Act.put, List.setIfInBounds_toArray, List.set_cons_zero, List.set_cons_succ]
      refine wpAnyH_ready (rs := [9]) (by kernel_rfl) (by simp) ?_
      refine AllReadyH.cons (o := { dst := none, op := _, type := _, pos := _, after := _, guard := _ }) rfl (fun K hK => ?_) AllReadyH.nil
      go_simp
      refine hK.out _ _ trivial (fun hHeld => ?_)
      clear hK K hHeld
      try simp only [Act.put, List.setIfInBounds_toArray, List.set_cons_zero, List.set_cons_succ]
      refine wpAnyH_done (by kernel_rfl) ?_ _
      go_wp2
      go_region
      all_goals
        go_wp2
        refine bodyPost_ret (v := .tuple #[.agg #[.slice U1 q.g.length p1, .slice U2 q.s.length p2, .slice U3 q.n.length p3, .int .i64 q.c, .slice U4 q.d.length p4], .agg #[.slice R1 r.s.length m1, .slice R2 r.b.length m2, .slice R3 r.c.length m3, .int .i64 r.h, .int .i64 r.n, .string r.o], .int .i64 0]) (by simp [results, Try.results59, go_sem, *]) rfl ⟨_, _, rfl, ?_, HB3.out _ (datC_below HD.out ?_) ?_, ?_⟩
        · refine hostSt_now (lo := w1.heap.size) ?_
          have hq := HST3.out
          repeat (first | with_reducible exact hq | ((with_reducible refine hostSt_store ?_ ?hh); case hh => omega) | with_reducible refine hostSt_drew ?_)
        · repeat (first | with_reducible exact B3.out | with_reducible refine Below.setCell ?_ (by simp <;> omega) _ | with_reducible refine Below.drew ?_)
        · repeat (first | with_reducible exact agree_refl _ _ | ((with_reducible refine agree_old ?_ ?hh _); case hh => (have := NP.out; simp <;> omega)) | with_reducible refine agree_drew ?_)
        · repeat (first | with_reducible exact B3.out | with_reducible refine Below.setCell ?_ (by simp <;> omega) _ | with_reducible refine Below.drew ?_)
    refine AllReadyH.cons (o := { dst := some _, op := _, type := _, pos := _, after := _, guard := _ }) rfl (fun K hK => ?_) AllReadyH.nil
    go_simp
    refine hK.out _ _ trivial (fun hHeld => ?_)
    clear hK K hHeld
    try simp only [Act.put, List.setIfInBounds_toArray, List.set_cons_zero, List.set_cons_succ]
    refine wpAnyH_ready (rs := [0, 2]) (by kernel_rfl) (by simp) ?_
    refine AllReadyH.cons (o := { dst := some _, op := _, type := _, pos := _, after := _, guard := _ }) rfl (fun K hK => ?_) ?_
    · go_simp
      refine hK.out _ _ trivial (fun hHeld => ?_)
      clear hK K hHeld
      try simp only [Act.put, List.setIfInBounds_toArray, List.set_cons_zero, List.set_cons_succ]
      refine wpAnyH_ready (rs := [2]) (by kernel_rfl) (by simp) ?_
      refine AllReadyH.cons (o := { dst := some _, op := _, type := _, pos := _, after := _, guard := _ }) rfl (fun K hK => ?_) AllReadyH.nil
      go_simp
      refine (TKS.out _).mono ?_
      rintro e w5 ⟨rfl, hb5⟩
      have K5 : Hid (Below wa.heap.size wa w5) := Lib.hid (below_step (by repeat (first | with_reducible exact Below.refl _ _ | with_reducible refine below_alloc ?_ _ | with_reducible refine Below.drew ?_)) hb5)
      have zw := K5.out.size
      have LI := Lib.hid (ints_below (w := World.drew _) (show Ints (World.drew (wa.alloc (.cells #[.int .i64 v] 3))) (.slice (some ⟨wa.heap.size, 0, none⟩) 1 1) [v] from ints_oneAt wa v rfl) hb5)
      have D5 := whole_b K5.out KD.out
      obtain ⟨e0, e1, e2, e3, e4, e5⟩ := six_cells D5
      have be : w.heap.size + 1 < w5.heap.size := by omega
      clear hb5 D5
      refine hK.out _ _ trivial (fun hHeld => ?_)
      clear hK K hHeld
      try simp only [Act.put, List.setIfInBounds_toArray, List.set_cons_zero, List.set_cons_succ]
      refine wpAnyH_ready (rs := [5]) (by kernel_rfl) (by simp) ?_
      refine AllReadyH.cons (o := { dst := some _, op := _, type := _, pos := _, after := _, guard := _ }) rfl (fun K hK => ?_) AllReadyH.nil
      go_simp
      refine (PUT.out _ _ _ LI.out (datC_below HD.out (below_step KB.out K5.out))).mono ?_
      rintro e w3 ⟨ux, rfl, hb3, hB3⟩
      have K3 : Hid (Below wa.heap.size wa w3) := Lib.hid (below_step K5.out hb3)
      have NP : Hid (wa.heap.size ≤ w5.heap.size) := Lib.hid (by omega)
      have B3 : Hid (Below w.heap.size w w3) := Lib.hid (below_step KB.out K3.out)
      have HST3 := Lib.hid (hostSt_below KH.out K3.out)
      have D3 := whole_b K3.out KD.out
      have T3 := whole_b K3.out KT.out
      have Y3 := whole_b K3.out KY.out
      have X3 := whole_b K3.out KX.out
      have z3 := whole_lt X3
      have hu3 := built_now hB3 (datC_below HD.out B3.out)
      simp only at hu3
      obtain ⟨R1, m1, R2, m2, R3, m3, rfl, _⟩ := datC_form hu3
      have HB3 := Lib.hid hB3
      obtain ⟨d0, d1, d2, d3, d4, d5⟩ := six_cells D3
      obtain ⟨r0, r1, r2, r3, r4⟩ := five_cells T3
      obtain ⟨y0, y1, y2, y3, y4, y5⟩ := six_cells Y3
      obtain ⟨x0_, x1_, x2_, x3_, x4_⟩ := five_cells X3
      have fd := whole_free D3
      have fr := whole_free T3
      have fy := whole_free Y3
      clear hb3 hB3 hu3 D3 T3 Y3 X3
      refine hK.out _ _ trivial (fun hHeld => ?_)
      clear hK K hHeld
      try simp only [Act.put, List.setIfInBounds_toArray, List.set_cons_zero, List.set_cons_succ]
      refine wpAnyH_take (i := 6) (oi := { dst := some _, op := _, type := _, pos := _, after := _, guard := _ }) (v := ?_) rfl (by kernel_rfl) (by kernel_rfl) (by kernel_rfl) (fun _ _ _ h => h) (Or.inl ⟨by rfl, ?_⟩) trivial ?_
      rotate_left 1
      · intro w hSw; go_simp; try with_reducible rfl
      try simp only [Act.put, List.setIfInBounds_toArray, List.set_cons_zero, List.set_cons_succ]
      refine wpAnyH_take (i := 7) (oi := { dst := some _, op := _, type := _, pos := _, after := _, guard := _ }) (v := ?_) rfl (by kernel_rfl) (by kernel_rfl) (by kernel_rfl) (fun _ _ _ h => h) (Or.inl ⟨by rfl, ?_⟩) trivial ?_
      rotate_left 1
      · intro w hSw; go_simp; try with_reducible rfl
      try simp only [Act.put, List.setIfInBounds_toArray, List.set_cons_zero, List.set_cons_succ]
      refine wpAnyH_take (i := 8) (oi := { dst := some _, op := _, type := _, pos := _, after := _, guard := _ }) (v := ?_) rfl (by kernel_rfl) (by kernel_rfl) (by kernel_rfl) (fun _ _ _ h => h) (Or.inl ⟨by rfl, ?_⟩) trivial ?_
      rotate_left 1
      · intro w hSw; go_simp; try with_reducible rfl
      try simp only [Act.put, List.setIfInBounds_toArray, List.set_cons_zero, List.set_cons_succ]
      refine wpAnyH_ready (rs := [9]) (by kernel_rfl) (by simp) ?_
      refine AllReadyH.cons (o := { dst := none, op := _, type := _, pos := _, after := _, guard := _ }) rfl (fun K hK => ?_) AllReadyH.nil
      go_simp
      refine hK.out _ _ trivial (fun hHeld => ?_)
      clear hK K hHeld
      try simp only [Act.put, List.setIfInBounds_toArray, List.set_cons_zero, List.set_cons_succ]
      refine wpAnyH_done (by kernel_rfl) ?_ _
      go_wp2
      go_region
      all_goals
        go_wp2
        refine bodyPost_ret (v := .tuple #[.agg #[.slice U1 q.g.length p1, .slice U2 q.s.length p2, .slice U3 q.n.length p3, .int .i64 q.c, .slice U4 q.d.length p4], .agg #[.slice R1 r.s.length m1, .slice R2 r.b.length m2, .slice R3 r.c.length m3, .int .i64 r.h, .int .i64 r.n, .string r.o], .int .i64 0]) (by simp [results, Try.results59, go_sem, *]) rfl ⟨_, _, rfl, ?_, HB3.out _ (datC_below HD.out ?_) ?_, ?_⟩
        · refine hostSt_now (lo := w1.heap.size) ?_
          have hq := HST3.out
          repeat (first | with_reducible exact hq | ((with_reducible refine hostSt_store ?_ ?hh); case hh => omega) | with_reducible refine hostSt_drew ?_)
        · repeat (first | with_reducible exact B3.out | with_reducible refine Below.setCell ?_ (by simp <;> omega) _ | with_reducible refine Below.drew ?_)
        · repeat (first | with_reducible exact agree_refl _ _ | ((with_reducible refine agree_old ?_ ?hh _); case hh => (have := NP.out; simp <;> omega)) | with_reducible refine agree_drew ?_)
        · repeat (first | with_reducible exact B3.out | with_reducible refine Below.setCell ?_ (by simp <;> omega) _ | with_reducible refine Below.drew ?_)
    refine AllReadyH.cons (o := { dst := some _, op := _, type := _, pos := _, after := _, guard := _ }) rfl (fun K hK => ?_) AllReadyH.nil
    go_simp
    refine (TKS.out _).mono ?_
    rintro e w5 ⟨rfl, hb5⟩
    have K5 : Hid (Below wa.heap.size wa w5) := Lib.hid (below_step (by repeat (first | with_reducible exact Below.refl _ _ | with_reducible refine below_alloc ?_ _ | with_reducible refine Below.drew ?_)) hb5)
    have zw := K5.out.size
    have LI := Lib.hid (ints_below (w := World.drew _) (show Ints (World.drew (wa.alloc (.cells #[.int .i64 v] 3))) (.slice (some ⟨wa.heap.size, 0, none⟩) 1 1) [v] from ints_oneAt wa v rfl) hb5)
    have D5 := whole_b K5.out KD.out
    obtain ⟨e0, e1, e2, e3, e4, e5⟩ := six_cells D5
    have be : w.heap.size + 1 < w5.heap.size := by omega
    clear hb5 D5
    refine hK.out _ _ trivial (fun hHeld => ?_)
    clear hK K hHeld
    try simp only [Act.put, List.setIfInBounds_toArray, List.set_cons_zero, List.set_cons_succ]
    refine wpAnyH_ready (rs := [0]) (by kernel_rfl) (by simp) ?_
    refine AllReadyH.cons (o := { dst := some _, op := _, type := _, pos := _, after := _, guard := _ }) rfl (fun K hK => ?_) AllReadyH.nil
    go_simp
    refine hK.out _ _ trivial (fun hHeld => ?_)
    clear hK K hHeld
    try simp only [Act.put, List.setIfInBounds_toArray, List.set_cons_zero, List.set_cons_succ]
    refine wpAnyH_ready (rs := [5]) (by kernel_rfl) (by simp) ?_
    refine AllReadyH.cons (o := { dst := some _, op := _, type := _, pos := _, after := _, guard := _ }) rfl (fun K hK => ?_) AllReadyH.nil
    go_simp
    refine (PUT.out _ _ _ LI.out (datC_below HD.out (below_step KB.out K5.out))).mono ?_
    rintro e w3 ⟨ux, rfl, hb3, hB3⟩
    have K3 : Hid (Below wa.heap.size wa w3) := Lib.hid (below_step K5.out hb3)
    have NP : Hid (wa.heap.size ≤ w5.heap.size) := Lib.hid (by omega)
    have B3 : Hid (Below w.heap.size w w3) := Lib.hid (below_step KB.out K3.out)
    have HST3 := Lib.hid (hostSt_below KH.out K3.out)
    have D3 := whole_b K3.out KD.out
    have T3 := whole_b K3.out KT.out
    have Y3 := whole_b K3.out KY.out
    have X3 := whole_b K3.out KX.out
    have z3 := whole_lt X3
    have hu3 := built_now hB3 (datC_below HD.out B3.out)
    simp only at hu3
    obtain ⟨R1, m1, R2, m2, R3, m3, rfl, _⟩ := datC_form hu3
    have HB3 := Lib.hid hB3
    obtain ⟨d0, d1, d2, d3, d4, d5⟩ := six_cells D3
    obtain ⟨r0, r1, r2, r3, r4⟩ := five_cells T3
    obtain ⟨y0, y1, y2, y3, y4, y5⟩ := six_cells Y3
    obtain ⟨x0_, x1_, x2_, x3_, x4_⟩ := five_cells X3
    have fd := whole_free D3
    have fr := whole_free T3
    have fy := whole_free Y3
    clear hb3 hB3 hu3 D3 T3 Y3 X3
    refine hK.out _ _ trivial (fun hHeld => ?_)
    clear hK K hHeld
    try simp only [Act.put, List.setIfInBounds_toArray, List.set_cons_zero, List.set_cons_succ]
    refine wpAnyH_take (i := 6) (oi := { dst := some _, op := _, type := _, pos := _, after := _, guard := _ }) (v := ?_) rfl (by kernel_rfl) (by kernel_rfl) (by kernel_rfl) (fun _ _ _ h => h) (Or.inl ⟨by rfl, ?_⟩) trivial ?_
    rotate_left 1
    · intro w hSw; go_simp; try with_reducible rfl
    try simp only [Act.put, List.setIfInBounds_toArray, List.set_cons_zero, List.set_cons_succ]
    refine wpAnyH_take (i := 7) (oi := { dst := some _, op := _, type := _, pos := _, after := _, guard := _ }) (v := ?_) rfl (by kernel_rfl) (by kernel_rfl) (by kernel_rfl) (fun _ _ _ h => h) (Or.inl ⟨by rfl, ?_⟩) trivial ?_
    rotate_left 1
    · intro w hSw; go_simp; try with_reducible rfl
    try simp only [Act.put, List.setIfInBounds_toArray, List.set_cons_zero, List.set_cons_succ]
    refine wpAnyH_take (i := 8) (oi := { dst := some _, op := _, type := _, pos := _, after := _, guard := _ }) (v := ?_) rfl (by kernel_rfl) (by kernel_rfl) (by kernel_rfl) (fun _ _ _ h => h) (Or.inl ⟨by rfl, ?_⟩) trivial ?_
    rotate_left 1
    · intro w hSw; go_simp; try with_reducible rfl
    try simp only [Act.put, List.setIfInBounds_toArray, List.set_cons_zero, List.set_cons_succ]
    refine wpAnyH_ready (rs := [9]) (by kernel_rfl) (by simp) ?_
    refine AllReadyH.cons (o := { dst := none, op := _, type := _, pos := _, after := _, guard := _ }) rfl (fun K hK => ?_) AllReadyH.nil
    go_simp
    refine hK.out _ _ trivial (fun hHeld => ?_)
    clear hK K hHeld
    try simp only [Act.put, List.setIfInBounds_toArray, List.set_cons_zero, List.set_cons_succ]
    refine wpAnyH_done (by kernel_rfl) ?_ _
    go_wp2
    go_region
    all_goals
      go_wp2
      refine bodyPost_ret (v := .tuple #[.agg #[.slice U1 q.g.length p1, .slice U2 q.s.length p2, .slice U3 q.n.length p3, .int .i64 q.c, .slice U4 q.d.length p4], .agg #[.slice R1 r.s.length m1, .slice R2 r.b.length m2, .slice R3 r.c.length m3, .int .i64 r.h, .int .i64 r.n, .string r.o], .int .i64 0]) (by simp [results, Try.results59, go_sem, *]) rfl ⟨_, _, rfl, ?_, HB3.out _ (datC_below HD.out ?_) ?_, ?_⟩
      · refine hostSt_now (lo := w1.heap.size) ?_
        have hq := HST3.out
        repeat (first | with_reducible exact hq | ((with_reducible refine hostSt_store ?_ ?hh); case hh => omega) | with_reducible refine hostSt_drew ?_)
      · repeat (first | with_reducible exact B3.out | with_reducible refine Below.setCell ?_ (by simp <;> omega) _ | with_reducible refine Below.drew ?_)
      · repeat (first | with_reducible exact agree_refl _ _ | ((with_reducible refine agree_old ?_ ?hh _); case hh => (have := NP.out; simp <;> omega)) | with_reducible refine agree_drew ?_)
      · repeat (first | with_reducible exact B3.out | with_reducible refine Below.setCell ?_ (by simp <;> omega) _ | with_reducible refine Below.drew ?_)
  · go_wp2_with (first
      | (go_at_call 109; refine (TKS.out _).mono ?_; rintro e w1 ⟨rfl, hb⟩
         have V1 := whole_b hb (whole_alloc (whole_alloc (whole_alloc (whole_new w _ _) _) _) _)
         have D1 := whole_b hb (whole_alloc (whole_alloc (whole_new1 w _ _ _) _) _)
         have T1 := whole_b hb (whole_alloc (whole_new2 w _ _ _ _) _)
         have Y1 := whole_b hb (whole_new3 w _ _ _ _ _)
         have B1 : Hid (Below w.heap.size w w1) := Lib.hid (below_step (below_alloc (below_alloc (below_alloc (below_alloc (Below.refl _ _) _) _) _) _) hb)
         have zy := whole_lt Y1
         obtain ⟨c0, c1, c2, c3, c4⟩ := five_cells V1
         obtain ⟨d0, d1, d2, d3, d4, d5⟩ := six_cells D1
         obtain ⟨r0, r1, r2, r3, r4⟩ := five_cells T1
         obtain ⟨y0, y1, y2, y3, y4, y5⟩ := six_cells Y1
         have fd := whole_free D1
         have fr := whole_free T1
         have fy := whole_free Y1
         have VV1 := Lib.hid V1
         have DD1 := Lib.hid D1
         have TT1 := Lib.hid T1
         have YY1 := Lib.hid Y1
         clear hb V1 D1 T1 Y1)
      | (go_at_call 110; refine (HDO.out _ _ (hostIn_below HH.out B1.out)).mono ?_; rintro e w2 ⟨u2, rfl, hst, hb⟩
         clear c0 c1 c2 c3 c4 d0 d1 d2 d3 d4 d5 r0 r1 r2 r3 r4 y0 y1 y2 y3 y4 y5 fd fr fy
         have B2 : Hid (Below w.heap.size w w2) := Lib.hid (below_step B1.out hb)
         have V2 := whole_b hb VV1.out
         have D2 := whole_b hb DD1.out
         have T2 := whole_b hb TT1.out
         have Y2 := whole_b hb YY1.out
         have z2 := hb.size
         have b0 : w.heap.size < w2.heap.size := by omega
         have b1 : w.heap.size + 1 < w2.heap.size := by omega
         have b2 : w.heap.size + 1 + 1 < w2.heap.size := by omega
         have b3 : w.heap.size + 1 + 1 + 1 < w2.heap.size := by omega
         obtain ⟨U1, p1, U2, p2, U3, p3, U4, p4, rfl⟩ := hostIn_form (hostSt_now hst)
         have HST := Lib.hid hst
         obtain ⟨c0, c1, c2, c3, c4⟩ := five_cells V2
         obtain ⟨d0, d1, d2, d3, d4, d5⟩ := six_cells D2
         obtain ⟨r0, r1, r2, r3, r4⟩ := five_cells T2
         obtain ⟨y0, y1, y2, y3, y4, y5⟩ := six_cells Y2
         have fd := whole_free D2
         have fr := whole_free T2
         have fy := whole_free Y2
         have DD2 := Lib.hid D2
         have TT2 := Lib.hid T2
         have YY2 := Lib.hid Y2
         clear hb hst V2 D2 T2 Y2))
    have KD := Lib.hid (whole_alloc DD2.out (.cells #[.slice U1 q.g.length p1, .slice U2 q.s.length p2, .slice U3 q.n.length p3, .int .i64 q.c, .slice U4 q.d.length p4] 27))
    have KT := Lib.hid (whole_alloc TT2.out (.cells #[.slice U1 q.g.length p1, .slice U2 q.s.length p2, .slice U3 q.n.length p3, .int .i64 q.c, .slice U4 q.d.length p4] 27))
    have KY := Lib.hid (whole_alloc YY2.out (.cells #[.slice U1 q.g.length p1, .slice U2 q.s.length p2, .slice U3 q.n.length p3, .int .i64 q.c, .slice U4 q.d.length p4] 27))
    have KX := Lib.hid (whole_new w2 27 #[.slice U1 q.g.length p1, .slice U2 q.s.length p2, .slice U3 q.n.length p3, .int .i64 q.c, .slice U4 q.d.length p4])
    have KH := Lib.hid (hostSt_alloc HST.out (.cells #[.slice U1 q.g.length p1, .slice U2 q.s.length p2, .slice U3 q.n.length p3, .int .i64 q.c, .slice U4 q.d.length p4] 27))
    have KB := Lib.hid (below_alloc B2.out (.cells #[.slice U1 q.g.length p1, .slice U2 q.s.length p2, .slice U3 q.n.length p3, .int .i64 q.c, .slice U4 q.d.length p4] 27))
    generalize w2.alloc (.cells #[.slice U1 q.g.length p1, .slice U2 q.s.length p2, .slice U3 q.n.length p3, .int .i64 q.c, .slice U4 q.d.length p4] 27) = wa at *
    have zk := whole_lt KX.out
    clear d0 d1 d2 d3 d4 d5 c0 c1 c2 c3 c4 r0 r1 r2 r3 r4 y0 y1 y2 y3 y4 y5 fd fr fy
    obtain ⟨d0, d1, d2, d3, d4, d5⟩ := six_cells KD.out
    have bd : w.heap.size + 1 < wa.heap.size := by omega
    refine wp_region_held_drew (S := fun _ => True) (by kernel_rfl) trivial (fun hHeld => ?_)
    clear hHeld
    refine wpAnyH_take (i := 1) (oi := { dst := some _, op := _, type := _, pos := _, after := _, guard := _ }) (v := ?_) rfl (by kernel_rfl) (by kernel_rfl) (by kernel_rfl) (fun _ _ _ h => h) (Or.inl ⟨by rfl, ?_⟩) trivial ?_
    rotate_left 1
    · intro w hSw; go_simp; try with_reducible rfl
    try simp only [Act.put, List.setIfInBounds_toArray, List.set_cons_zero, List.set_cons_succ]
    refine wpAnyH_take (i := 3) (oi := { dst := some _, op := _, type := _, pos := _, after := _, guard := _ }) (v := ?_) rfl (by kernel_rfl) (by kernel_rfl) (by kernel_rfl) (fun _ _ _ h => h) (Or.inl ⟨by rfl, ?_⟩) trivial ?_
    rotate_left 1
    · intro w hSw; go_simp; try with_reducible rfl
    try simp only [Act.put, List.setIfInBounds_toArray, List.set_cons_zero, List.set_cons_succ]
    refine wpAnyH_ready (rs := [0, 2, 4]) (by kernel_rfl) (by simp) ?_
    refine AllReadyH.cons (o := { dst := some _, op := _, type := _, pos := _, after := _, guard := _ }) rfl (fun K hK => ?_) ?_
    · go_simp
      refine hK.out _ _ trivial (fun hHeld => ?_)
      clear hK K hHeld
      try simp only [Act.put, List.setIfInBounds_toArray, List.set_cons_zero, List.set_cons_succ]
      refine wpAnyH_ready (rs := [2, 4]) (by kernel_rfl) (by simp) ?_
      refine AllReadyH.cons (o := { dst := some _, op := _, type := _, pos := _, after := _, guard := _ }) rfl (fun K hK => ?_) ?_
      · go_simp
        refine (TKS.out _).mono ?_
        rintro e w5 ⟨rfl, hb5⟩
        have K5 : Hid (Below wa.heap.size wa w5) := Lib.hid (below_step (by repeat (first | with_reducible exact Below.refl _ _ | with_reducible refine below_alloc ?_ _ | with_reducible refine Below.drew ?_)) hb5)
        have zw := K5.out.size
        have D5 := whole_b K5.out KD.out
        obtain ⟨e0, e1, e2, e3, e4, e5⟩ := six_cells D5
        have be : w.heap.size + 1 < w5.heap.size := by omega
        clear hb5 D5
        refine hK.out _ _ trivial (fun hHeld => ?_)
        clear hK K hHeld
        try simp only [Act.put, List.setIfInBounds_toArray, List.set_cons_zero, List.set_cons_succ]
        refine wpAnyH_ready (rs := [4]) (by kernel_rfl) (by simp) ?_
        refine AllReadyH.cons (o := { dst := some _, op := _, type := _, pos := _, after := _, guard := _ }) rfl (fun K hK => ?_) AllReadyH.nil
        go_simp
        refine hK.out _ _ trivial (fun hHeld => ?_)
        clear hK K hHeld
        try simp only [Act.put, List.setIfInBounds_toArray, List.set_cons_zero, List.set_cons_succ]
        refine wpAnyH_ready (rs := [5]) (by kernel_rfl) (by simp) ?_
        refine AllReadyH.cons (o := { dst := some _, op := _, type := _, pos := _, after := _, guard := _ }) rfl (fun K hK => ?_) AllReadyH.nil
        go_simp
        refine (PUT.out _ _ _ (by exact ints_oneAt _ _ rfl) (datC_below HD.out (below_step KB.out (below_alloc K5.out _)))).mono ?_
        rintro e w3 ⟨ux, rfl, hb3, hB3⟩
        have K3 : Hid (Below wa.heap.size wa w3) := Lib.hid (below_step (below_alloc K5.out _) hb3)
        have NP : Hid (wa.heap.size ≤ w5.heap.size + 1) := Lib.hid (by omega)
        have B3 : Hid (Below w.heap.size w w3) := Lib.hid (below_step KB.out K3.out)
        have HST3 := Lib.hid (hostSt_below KH.out K3.out)
        have D3 := whole_b K3.out KD.out
        have T3 := whole_b K3.out KT.out
        have Y3 := whole_b K3.out KY.out
        have X3 := whole_b K3.out KX.out
        have z3 := whole_lt X3
        have hu3 := built_now hB3 (datC_below HD.out B3.out)
        simp only at hu3
        obtain ⟨R1, m1, R2, m2, R3, m3, rfl, _⟩ := datC_form hu3
        have HB3 := Lib.hid hB3
        obtain ⟨d0, d1, d2, d3, d4, d5⟩ := six_cells D3
        obtain ⟨r0, r1, r2, r3, r4⟩ := five_cells T3
        obtain ⟨y0, y1, y2, y3, y4, y5⟩ := six_cells Y3
        obtain ⟨x0_, x1_, x2_, x3_, x4_⟩ := five_cells X3
        have fd := whole_free D3
        have fr := whole_free T3
        have fy := whole_free Y3
        clear hb3 hB3 hu3 D3 T3 Y3 X3
        refine hK.out _ _ trivial (fun hHeld => ?_)
        clear hK K hHeld
        try simp only [Act.put, List.setIfInBounds_toArray, List.set_cons_zero, List.set_cons_succ]
        refine wpAnyH_take (i := 6) (oi := { dst := some _, op := _, type := _, pos := _, after := _, guard := _ }) (v := ?_) rfl (by kernel_rfl) (by kernel_rfl) (by kernel_rfl) (fun _ _ _ h => h) (Or.inl ⟨by rfl, ?_⟩) trivial ?_
        rotate_left 1
        · intro w hSw; go_simp; try with_reducible rfl
        try simp only [Act.put, List.setIfInBounds_toArray, List.set_cons_zero, List.set_cons_succ]
        refine wpAnyH_take (i := 7) (oi := { dst := some _, op := _, type := _, pos := _, after := _, guard := _ }) (v := ?_) rfl (by kernel_rfl) (by kernel_rfl) (by kernel_rfl) (fun _ _ _ h => h) (Or.inl ⟨by rfl, ?_⟩) trivial ?_
        rotate_left 1
        · intro w hSw; go_simp; try with_reducible rfl
        try simp only [Act.put, List.setIfInBounds_toArray, List.set_cons_zero, List.set_cons_succ]
        refine wpAnyH_take (i := 8) (oi := { dst := some _, op := _, type := _, pos := _, after := _, guard := _ }) (v := ?_) rfl (by kernel_rfl) (by kernel_rfl) (by kernel_rfl) (fun _ _ _ h => h) (Or.inl ⟨by rfl, ?_⟩) trivial ?_
        rotate_left 1
        · intro w hSw; go_simp; try with_reducible rfl
        try simp only [Act.put, List.setIfInBounds_toArray, List.set_cons_zero, List.set_cons_succ]
        refine wpAnyH_ready (rs := [9]) (by kernel_rfl) (by simp) ?_
        refine AllReadyH.cons (o := { dst := none, op := _, type := _, pos := _, after := _, guard := _ }) rfl (fun K hK => ?_) AllReadyH.nil
        go_simp
        refine hK.out _ _ trivial (fun hHeld => ?_)
        clear hK K hHeld
        try simp only [Act.put, List.setIfInBounds_toArray, List.set_cons_zero, List.set_cons_succ]
        refine wpAnyH_done (by kernel_rfl) ?_ _
        go_wp2
        go_region
        all_goals
          go_wp2
          refine bodyPost_ret (v := .tuple #[.agg #[.slice U1 q.g.length p1, .slice U2 q.s.length p2, .slice U3 q.n.length p3, .int .i64 q.c, .slice U4 q.d.length p4], .agg #[.slice R1 r.s.length m1, .slice R2 r.b.length m2, .slice R3 r.c.length m3, .int .i64 r.h, .int .i64 r.n, .string r.o], .int .i64 0]) (by simp [results, Try.results59, go_sem, *]) rfl ⟨_, _, rfl, ?_, HB3.out _ (datC_below HD.out ?_) ?_, ?_⟩
          · refine hostSt_now (lo := w1.heap.size) ?_
            have hq := HST3.out
            repeat (first | with_reducible exact hq | ((with_reducible refine hostSt_store ?_ ?hh); case hh => omega) | with_reducible refine hostSt_drew ?_)
          · repeat (first | with_reducible exact B3.out | with_reducible refine Below.setCell ?_ (by simp <;> omega) _ | with_reducible refine Below.drew ?_)
          · repeat (first | with_reducible exact agree_refl _ _ | ((with_reducible refine agree_old ?_ ?hh _); case hh => (have := NP.out; simp <;> omega)) | with_reducible refine agree_drew ?_)
          · repeat (first | with_reducible exact B3.out | with_reducible refine Below.setCell ?_ (by simp <;> omega) _ | with_reducible refine Below.drew ?_)
      refine AllReadyH.cons (o := { dst := some _, op := _, type := _, pos := _, after := _, guard := _ }) rfl (fun K hK => ?_) AllReadyH.nil
      go_simp
      refine hK.out _ _ trivial (fun hHeld => ?_)
      clear hK K hHeld
      try simp only [Act.put, List.setIfInBounds_toArray, List.set_cons_zero, List.set_cons_succ]
      refine wpAnyH_ready (rs := [2]) (by kernel_rfl) (by simp) ?_
      refine AllReadyH.cons (o := { dst := some _, op := _, type := _, pos := _, after := _, guard := _ }) rfl (fun K hK => ?_) AllReadyH.nil
      go_simp
      refine (TKS.out _).mono ?_
      rintro e w5 ⟨rfl, hb5⟩
      have K5 : Hid (Below wa.heap.size wa w5) := Lib.hid (below_step (by repeat (first | with_reducible exact Below.refl _ _ | with_reducible refine below_alloc ?_ _ | with_reducible refine Below.drew ?_)) hb5)
      have zw := K5.out.size
      have LI := Lib.hid (ints_below (w := World.drew _) (show Ints (World.drew (wa.alloc (.cells #[.int .i64 v] 3))) (.slice (some ⟨wa.heap.size, 0, none⟩) 1 1) [v] from ints_oneAt wa v rfl) hb5)
      have D5 := whole_b K5.out KD.out
      obtain ⟨e0, e1, e2, e3, e4, e5⟩ := six_cells D5
      have be : w.heap.size + 1 < w5.heap.size := by omega
      clear hb5 D5
      refine hK.out _ _ trivial (fun hHeld => ?_)
      clear hK K hHeld
      try simp only [Act.put, List.setIfInBounds_toArray, List.set_cons_zero, List.set_cons_succ]
      refine wpAnyH_ready (rs := [5]) (by kernel_rfl) (by simp) ?_
      refine AllReadyH.cons (o := { dst := some _, op := _, type := _, pos := _, after := _, guard := _ }) rfl (fun K hK => ?_) AllReadyH.nil
      go_simp
      refine (PUT.out _ _ _ LI.out (datC_below HD.out (below_step KB.out K5.out))).mono ?_
      rintro e w3 ⟨ux, rfl, hb3, hB3⟩
      have K3 : Hid (Below wa.heap.size wa w3) := Lib.hid (below_step K5.out hb3)
      have NP : Hid (wa.heap.size ≤ w5.heap.size) := Lib.hid (by omega)
      have B3 : Hid (Below w.heap.size w w3) := Lib.hid (below_step KB.out K3.out)
      have HST3 := Lib.hid (hostSt_below KH.out K3.out)
      have D3 := whole_b K3.out KD.out
      have T3 := whole_b K3.out KT.out
      have Y3 := whole_b K3.out KY.out
      have X3 := whole_b K3.out KX.out
      have z3 := whole_lt X3
      have hu3 := built_now hB3 (datC_below HD.out B3.out)
      simp only at hu3
      obtain ⟨R1, m1, R2, m2, R3, m3, rfl, _⟩ := datC_form hu3
      have HB3 := Lib.hid hB3
      obtain ⟨d0, d1, d2, d3, d4, d5⟩ := six_cells D3
      obtain ⟨r0, r1, r2, r3, r4⟩ := five_cells T3
      obtain ⟨y0, y1, y2, y3, y4, y5⟩ := six_cells Y3
      obtain ⟨x0_, x1_, x2_, x3_, x4_⟩ := five_cells X3
      have fd := whole_free D3
      have fr := whole_free T3
      have fy := whole_free Y3
      clear hb3 hB3 hu3 D3 T3 Y3 X3
      refine hK.out _ _ trivial (fun hHeld => ?_)
      clear hK K hHeld
      try simp only [Act.put, List.setIfInBounds_toArray, List.set_cons_zero, List.set_cons_succ]
      refine wpAnyH_take (i := 6) (oi := { dst := some _, op := _, type := _, pos := _, after := _, guard := _ }) (v := ?_) rfl (by kernel_rfl) (by kernel_rfl) (by kernel_rfl) (fun _ _ _ h => h) (Or.inl ⟨by rfl, ?_⟩) trivial ?_
      rotate_left 1
      · intro w hSw; go_simp; try with_reducible rfl
      try simp only [Act.put, List.setIfInBounds_toArray, List.set_cons_zero, List.set_cons_succ]
      refine wpAnyH_take (i := 7) (oi := { dst := some _, op := _, type := _, pos := _, after := _, guard := _ }) (v := ?_) rfl (by kernel_rfl) (by kernel_rfl) (by kernel_rfl) (fun _ _ _ h => h) (Or.inl ⟨by rfl, ?_⟩) trivial ?_
      rotate_left 1
      · intro w hSw; go_simp; try with_reducible rfl
      try simp only [Act.put, List.setIfInBounds_toArray, List.set_cons_zero, List.set_cons_succ]
      refine wpAnyH_take (i := 8) (oi := { dst := some _, op := _, type := _, pos := _, after := _, guard := _ }) (v := ?_) rfl (by kernel_rfl) (by kernel_rfl) (by kernel_rfl) (fun _ _ _ h => h) (Or.inl ⟨by rfl, ?_⟩) trivial ?_
      rotate_left 1
      · intro w hSw; go_simp; try with_reducible rfl
      try simp only [Act.put, List.setIfInBounds_toArray, List.set_cons_zero, List.set_cons_succ]
      refine wpAnyH_ready (rs := [9]) (by kernel_rfl) (by simp) ?_
      refine AllReadyH.cons (o := { dst := none, op := _, type := _, pos := _, after := _, guard := _ }) rfl (fun K hK => ?_) AllReadyH.nil
      go_simp
      refine hK.out _ _ trivial (fun hHeld => ?_)
      clear hK K hHeld
      try simp only [Act.put, List.setIfInBounds_toArray, List.set_cons_zero, List.set_cons_succ]
      refine wpAnyH_done (by kernel_rfl) ?_ _
      go_wp2
      go_region
      all_goals
        go_wp2
        refine bodyPost_ret (v := .tuple #[.agg #[.slice U1 q.g.length p1, .slice U2 q.s.length p2, .slice U3 q.n.length p3, .int .i64 q.c, .slice U4 q.d.length p4], .agg #[.slice R1 r.s.length m1, .slice R2 r.b.length m2, .slice R3 r.c.length m3, .int .i64 r.h, .int .i64 r.n, .string r.o], .int .i64 0]) (by simp [results, Try.results59, go_sem, *]) rfl ⟨_, _, rfl, ?_, HB3.out _ (datC_below HD.out ?_) ?_, ?_⟩
        · refine hostSt_now (lo := w1.heap.size) ?_
          have hq := HST3.out
          repeat (first | with_reducible exact hq | ((with_reducible refine hostSt_store ?_ ?hh); case hh => omega) | with_reducible refine hostSt_drew ?_)
        · repeat (first | with_reducible exact B3.out | with_reducible refine Below.setCell ?_ (by simp <;> omega) _ | with_reducible refine Below.drew ?_)
        · repeat (first | with_reducible exact agree_refl _ _ | ((with_reducible refine agree_old ?_ ?hh _); case hh => (have := NP.out; simp <;> omega)) | with_reducible refine agree_drew ?_)
        · repeat (first | with_reducible exact B3.out | with_reducible refine Below.setCell ?_ (by simp <;> omega) _ | with_reducible refine Below.drew ?_)
    refine AllReadyH.cons (o := { dst := some _, op := _, type := _, pos := _, after := _, guard := _ }) rfl (fun K hK => ?_) ?_
    · go_simp
      refine (TKS.out _).mono ?_
      rintro e w5 ⟨rfl, hb5⟩
      have K5 : Hid (Below wa.heap.size wa w5) := Lib.hid (below_step (by repeat (first | with_reducible exact Below.refl _ _ | with_reducible refine below_alloc ?_ _ | with_reducible refine Below.drew ?_)) hb5)
      have zw := K5.out.size
      have D5 := whole_b K5.out KD.out
      obtain ⟨e0, e1, e2, e3, e4, e5⟩ := six_cells D5
      have be : w.heap.size + 1 < w5.heap.size := by omega
      clear hb5 D5
      refine hK.out _ _ trivial (fun hHeld => ?_)
      clear hK K hHeld
      try simp only [Act.put, List.setIfInBounds_toArray, List.set_cons_zero, List.set_cons_succ]
      refine wpAnyH_ready (rs := [0, 4]) (by kernel_rfl) (by simp) ?_
      refine AllReadyH.cons (o := { dst := some _, op := _, type := _, pos := _, after := _, guard := _ }) rfl (fun K hK => ?_) ?_
      · go_simp
        refine hK.out _ _ trivial (fun hHeld => ?_)
        clear hK K hHeld
        try simp only [Act.put, List.setIfInBounds_toArray, List.set_cons_zero, List.set_cons_succ]
        refine wpAnyH_ready (rs := [4]) (by kernel_rfl) (by simp) ?_
        refine AllReadyH.cons (o := { dst := some _, op := _, type := _, pos := _, after := _, guard := _ }) rfl (fun K hK => ?_) AllReadyH.nil
        go_simp
        refine hK.out _ _ trivial (fun hHeld => ?_)
        clear hK K hHeld
        try simp only [Act.put, List.setIfInBounds_toArray, List.set_cons_zero, List.set_cons_succ]
        refine wpAnyH_ready (rs := [5]) (by kernel_rfl) (by simp) ?_
        refine AllReadyH.cons (o := { dst := some _, op := _, type := _, pos := _, after := _, guard := _ }) rfl (fun K hK => ?_) AllReadyH.nil
        go_simp
        refine (PUT.out _ _ _ (by exact ints_oneAt _ _ rfl) (datC_below HD.out (below_step KB.out (below_alloc K5.out _)))).mono ?_
        rintro e w3 ⟨ux, rfl, hb3, hB3⟩
        have K3 : Hid (Below wa.heap.size wa w3) := Lib.hid (below_step (below_alloc K5.out _) hb3)
        have NP : Hid (wa.heap.size ≤ w5.heap.size + 1) := Lib.hid (by omega)
        have B3 : Hid (Below w.heap.size w w3) := Lib.hid (below_step KB.out K3.out)
        have HST3 := Lib.hid (hostSt_below KH.out K3.out)
        have D3 := whole_b K3.out KD.out
        have T3 := whole_b K3.out KT.out
        have Y3 := whole_b K3.out KY.out
        have X3 := whole_b K3.out KX.out
        have z3 := whole_lt X3
        have hu3 := built_now hB3 (datC_below HD.out B3.out)
        simp only at hu3
        obtain ⟨R1, m1, R2, m2, R3, m3, rfl, _⟩ := datC_form hu3
        have HB3 := Lib.hid hB3
        obtain ⟨d0, d1, d2, d3, d4, d5⟩ := six_cells D3
        obtain ⟨r0, r1, r2, r3, r4⟩ := five_cells T3
        obtain ⟨y0, y1, y2, y3, y4, y5⟩ := six_cells Y3
        obtain ⟨x0_, x1_, x2_, x3_, x4_⟩ := five_cells X3
        have fd := whole_free D3
        have fr := whole_free T3
        have fy := whole_free Y3
        clear hb3 hB3 hu3 D3 T3 Y3 X3
        refine hK.out _ _ trivial (fun hHeld => ?_)
        clear hK K hHeld
        try simp only [Act.put, List.setIfInBounds_toArray, List.set_cons_zero, List.set_cons_succ]
        refine wpAnyH_take (i := 6) (oi := { dst := some _, op := _, type := _, pos := _, after := _, guard := _ }) (v := ?_) rfl (by kernel_rfl) (by kernel_rfl) (by kernel_rfl) (fun _ _ _ h => h) (Or.inl ⟨by rfl, ?_⟩) trivial ?_
        rotate_left 1
        · intro w hSw; go_simp; try with_reducible rfl
        try simp only [Act.put, List.setIfInBounds_toArray, List.set_cons_zero, List.set_cons_succ]
        refine wpAnyH_take (i := 7) (oi := { dst := some _, op := _, type := _, pos := _, after := _, guard := _ }) (v := ?_) rfl (by kernel_rfl) (by kernel_rfl) (by kernel_rfl) (fun _ _ _ h => h) (Or.inl ⟨by rfl, ?_⟩) trivial ?_
        rotate_left 1
        · intro w hSw; go_simp; try with_reducible rfl
        try simp only [Act.put, List.setIfInBounds_toArray, List.set_cons_zero, List.set_cons_succ]
        refine wpAnyH_take (i := 8) (oi := { dst := some _, op := _, type := _, pos := _, after := _, guard := _ }) (v := ?_) rfl (by kernel_rfl) (by kernel_rfl) (by kernel_rfl) (fun _ _ _ h => h) (Or.inl ⟨by rfl, ?_⟩) trivial ?_
        rotate_left 1
        · intro w hSw; go_simp; try with_reducible rfl
        try simp only [Act.put, List.setIfInBounds_toArray, List.set_cons_zero, List.set_cons_succ]
        refine wpAnyH_ready (rs := [9]) (by kernel_rfl) (by simp) ?_
        refine AllReadyH.cons (o := { dst := none, op := _, type := _, pos := _, after := _, guard := _ }) rfl (fun K hK => ?_) AllReadyH.nil
        go_simp
        refine hK.out _ _ trivial (fun hHeld => ?_)
        clear hK K hHeld
        try simp only [Act.put, List.setIfInBounds_toArray, List.set_cons_zero, List.set_cons_succ]
        refine wpAnyH_done (by kernel_rfl) ?_ _
        go_wp2
        go_region
        all_goals
          go_wp2
          refine bodyPost_ret (v := .tuple #[.agg #[.slice U1 q.g.length p1, .slice U2 q.s.length p2, .slice U3 q.n.length p3, .int .i64 q.c, .slice U4 q.d.length p4], .agg #[.slice R1 r.s.length m1, .slice R2 r.b.length m2, .slice R3 r.c.length m3, .int .i64 r.h, .int .i64 r.n, .string r.o], .int .i64 0]) (by simp [results, Try.results59, go_sem, *]) rfl ⟨_, _, rfl, ?_, HB3.out _ (datC_below HD.out ?_) ?_, ?_⟩
          · refine hostSt_now (lo := w1.heap.size) ?_
            have hq := HST3.out
            repeat (first | with_reducible exact hq | ((with_reducible refine hostSt_store ?_ ?hh); case hh => omega) | with_reducible refine hostSt_drew ?_)
          · repeat (first | with_reducible exact B3.out | with_reducible refine Below.setCell ?_ (by simp <;> omega) _ | with_reducible refine Below.drew ?_)
          · repeat (first | with_reducible exact agree_refl _ _ | ((with_reducible refine agree_old ?_ ?hh _); case hh => (have := NP.out; simp <;> omega)) | with_reducible refine agree_drew ?_)
          · repeat (first | with_reducible exact B3.out | with_reducible refine Below.setCell ?_ (by simp <;> omega) _ | with_reducible refine Below.drew ?_)
      refine AllReadyH.cons (o := { dst := some _, op := _, type := _, pos := _, after := _, guard := _ }) rfl (fun K hK => ?_) AllReadyH.nil
      go_simp
      refine hK.out _ _ trivial (fun hHeld => ?_)
      clear hK K hHeld
      try simp only [Act.put, List.setIfInBounds_toArray, List.set_cons_zero, List.set_cons_succ]
      refine wpAnyH_ready (rs := [0]) (by kernel_rfl) (by simp) ?_
      refine AllReadyH.cons (o := { dst := some _, op := _, type := _, pos := _, after := _, guard := _ }) rfl (fun K hK => ?_) AllReadyH.nil
      go_simp
      refine hK.out _ _ trivial (fun hHeld => ?_)
      clear hK K hHeld
      try simp only [Act.put, List.setIfInBounds_toArray, List.set_cons_zero, List.set_cons_succ]
      refine wpAnyH_ready (rs := [5]) (by kernel_rfl) (by simp) ?_
      refine AllReadyH.cons (o := { dst := some _, op := _, type := _, pos := _, after := _, guard := _ }) rfl (fun K hK => ?_) AllReadyH.nil
      go_simp
      refine (PUT.out _ _ _ (by exact ints_oneAt _ _ rfl) (datC_below HD.out (below_step KB.out (below_alloc K5.out _)))).mono ?_
      rintro e w3 ⟨ux, rfl, hb3, hB3⟩
      have K3 : Hid (Below wa.heap.size wa w3) := Lib.hid (below_step (below_alloc K5.out _) hb3)
      have NP : Hid (wa.heap.size ≤ w5.heap.size + 1) := Lib.hid (by omega)
      have B3 : Hid (Below w.heap.size w w3) := Lib.hid (below_step KB.out K3.out)
      have HST3 := Lib.hid (hostSt_below KH.out K3.out)
      have D3 := whole_b K3.out KD.out
      have T3 := whole_b K3.out KT.out
      have Y3 := whole_b K3.out KY.out
      have X3 := whole_b K3.out KX.out
      have z3 := whole_lt X3
      have hu3 := built_now hB3 (datC_below HD.out B3.out)
      simp only at hu3
      obtain ⟨R1, m1, R2, m2, R3, m3, rfl, _⟩ := datC_form hu3
      have HB3 := Lib.hid hB3
      obtain ⟨d0, d1, d2, d3, d4, d5⟩ := six_cells D3
      obtain ⟨r0, r1, r2, r3, r4⟩ := five_cells T3
      obtain ⟨y0, y1, y2, y3, y4, y5⟩ := six_cells Y3
      obtain ⟨x0_, x1_, x2_, x3_, x4_⟩ := five_cells X3
      have fd := whole_free D3
      have fr := whole_free T3
      have fy := whole_free Y3
      clear hb3 hB3 hu3 D3 T3 Y3 X3
      refine hK.out _ _ trivial (fun hHeld => ?_)
      clear hK K hHeld
      try simp only [Act.put, List.setIfInBounds_toArray, List.set_cons_zero, List.set_cons_succ]
      refine wpAnyH_take (i := 6) (oi := { dst := some _, op := _, type := _, pos := _, after := _, guard := _ }) (v := ?_) rfl (by kernel_rfl) (by kernel_rfl) (by kernel_rfl) (fun _ _ _ h => h) (Or.inl ⟨by rfl, ?_⟩) trivial ?_
      rotate_left 1
      · intro w hSw; go_simp; try with_reducible rfl
      try simp only [Act.put, List.setIfInBounds_toArray, List.set_cons_zero, List.set_cons_succ]
      refine wpAnyH_take (i := 7) (oi := { dst := some _, op := _, type := _, pos := _, after := _, guard := _ }) (v := ?_) rfl (by kernel_rfl) (by kernel_rfl) (by kernel_rfl) (fun _ _ _ h => h) (Or.inl ⟨by rfl, ?_⟩) trivial ?_
      rotate_left 1
      · intro w hSw; go_simp; try with_reducible rfl
      try simp only [Act.put, List.setIfInBounds_toArray, List.set_cons_zero, List.set_cons_succ]
      refine wpAnyH_take (i := 8) (oi := { dst := some _, op := _, type := _, pos := _, after := _, guard := _ }) (v := ?_) rfl (by kernel_rfl) (by kernel_rfl) (by kernel_rfl) (fun _ _ _ h => h) (Or.inl ⟨by rfl, ?_⟩) trivial ?_
      rotate_left 1
      · intro w hSw; go_simp; try with_reducible rfl
      try simp only [Act.put, List.setIfInBounds_toArray, List.set_cons_zero, List.set_cons_succ]
      refine wpAnyH_ready (rs := [9]) (by kernel_rfl) (by simp) ?_
      refine AllReadyH.cons (o := { dst := none, op := _, type := _, pos := _, after := _, guard := _ }) rfl (fun K hK => ?_) AllReadyH.nil
      go_simp
      refine hK.out _ _ trivial (fun hHeld => ?_)
      clear hK K hHeld
      try simp only [Act.put, List.setIfInBounds_toArray, List.set_cons_zero, List.set_cons_succ]
      refine wpAnyH_done (by kernel_rfl) ?_ _
      go_wp2
      go_region
      all_goals
        go_wp2
        refine bodyPost_ret (v := .tuple #[.agg #[.slice U1 q.g.length p1, .slice U2 q.s.length p2, .slice U3 q.n.length p3, .int .i64 q.c, .slice U4 q.d.length p4], .agg #[.slice R1 r.s.length m1, .slice R2 r.b.length m2, .slice R3 r.c.length m3, .int .i64 r.h, .int .i64 r.n, .string r.o], .int .i64 0]) (by simp [results, Try.results59, go_sem, *]) rfl ⟨_, _, rfl, ?_, HB3.out _ (datC_below HD.out ?_) ?_, ?_⟩
        · refine hostSt_now (lo := w1.heap.size) ?_
          have hq := HST3.out
          repeat (first | with_reducible exact hq | ((with_reducible refine hostSt_store ?_ ?hh); case hh => omega) | with_reducible refine hostSt_drew ?_)
        · repeat (first | with_reducible exact B3.out | with_reducible refine Below.setCell ?_ (by simp <;> omega) _ | with_reducible refine Below.drew ?_)
        · repeat (first | with_reducible exact agree_refl _ _ | ((with_reducible refine agree_old ?_ ?hh _); case hh => (have := NP.out; simp <;> omega)) | with_reducible refine agree_drew ?_)
        · repeat (first | with_reducible exact B3.out | with_reducible refine Below.setCell ?_ (by simp <;> omega) _ | with_reducible refine Below.drew ?_)
    refine AllReadyH.cons (o := { dst := some _, op := _, type := _, pos := _, after := _, guard := _ }) rfl (fun K hK => ?_) AllReadyH.nil
    go_simp
    refine hK.out _ _ trivial (fun hHeld => ?_)
    clear hK K hHeld
    try simp only [Act.put, List.setIfInBounds_toArray, List.set_cons_zero, List.set_cons_succ]
    refine wpAnyH_ready (rs := [0, 2]) (by kernel_rfl) (by simp) ?_
    refine AllReadyH.cons (o := { dst := some _, op := _, type := _, pos := _, after := _, guard := _ }) rfl (fun K hK => ?_) ?_
    · go_simp
      refine hK.out _ _ trivial (fun hHeld => ?_)
      clear hK K hHeld
      try simp only [Act.put, List.setIfInBounds_toArray, List.set_cons_zero, List.set_cons_succ]
      refine wpAnyH_ready (rs := [2]) (by kernel_rfl) (by simp) ?_
      refine AllReadyH.cons (o := { dst := some _, op := _, type := _, pos := _, after := _, guard := _ }) rfl (fun K hK => ?_) AllReadyH.nil
      go_simp
      refine (TKS.out _).mono ?_
      rintro e w5 ⟨rfl, hb5⟩
      have K5 : Hid (Below wa.heap.size wa w5) := Lib.hid (below_step (by repeat (first | with_reducible exact Below.refl _ _ | with_reducible refine below_alloc ?_ _ | with_reducible refine Below.drew ?_)) hb5)
      have zw := K5.out.size
      have LI := Lib.hid (ints_below (w := World.drew _) (show Ints (World.drew (wa.alloc (.cells #[.int .i64 v] 3))) (.slice (some ⟨wa.heap.size, 0, none⟩) 1 1) [v] from ints_oneAt wa v rfl) hb5)
      have D5 := whole_b K5.out KD.out
      obtain ⟨e0, e1, e2, e3, e4, e5⟩ := six_cells D5
      have be : w.heap.size + 1 < w5.heap.size := by omega
      clear hb5 D5
      refine hK.out _ _ trivial (fun hHeld => ?_)
      clear hK K hHeld
      try simp only [Act.put, List.setIfInBounds_toArray, List.set_cons_zero, List.set_cons_succ]
      refine wpAnyH_ready (rs := [5]) (by kernel_rfl) (by simp) ?_
      refine AllReadyH.cons (o := { dst := some _, op := _, type := _, pos := _, after := _, guard := _ }) rfl (fun K hK => ?_) AllReadyH.nil
      go_simp
      refine (PUT.out _ _ _ LI.out (datC_below HD.out (below_step KB.out K5.out))).mono ?_
      rintro e w3 ⟨ux, rfl, hb3, hB3⟩
      have K3 : Hid (Below wa.heap.size wa w3) := Lib.hid (below_step K5.out hb3)
      have NP : Hid (wa.heap.size ≤ w5.heap.size) := Lib.hid (by omega)
      have B3 : Hid (Below w.heap.size w w3) := Lib.hid (below_step KB.out K3.out)
      have HST3 := Lib.hid (hostSt_below KH.out K3.out)
      have D3 := whole_b K3.out KD.out
      have T3 := whole_b K3.out KT.out
      have Y3 := whole_b K3.out KY.out
      have X3 := whole_b K3.out KX.out
      have z3 := whole_lt X3
      have hu3 := built_now hB3 (datC_below HD.out B3.out)
      simp only at hu3
      obtain ⟨R1, m1, R2, m2, R3, m3, rfl, _⟩ := datC_form hu3
      have HB3 := Lib.hid hB3
      obtain ⟨d0, d1, d2, d3, d4, d5⟩ := six_cells D3
      obtain ⟨r0, r1, r2, r3, r4⟩ := five_cells T3
      obtain ⟨y0, y1, y2, y3, y4, y5⟩ := six_cells Y3
      obtain ⟨x0_, x1_, x2_, x3_, x4_⟩ := five_cells X3
      have fd := whole_free D3
      have fr := whole_free T3
      have fy := whole_free Y3
      clear hb3 hB3 hu3 D3 T3 Y3 X3
      refine hK.out _ _ trivial (fun hHeld => ?_)
      clear hK K hHeld
      try simp only [Act.put, List.setIfInBounds_toArray, List.set_cons_zero, List.set_cons_succ]
      refine wpAnyH_take (i := 6) (oi := { dst := some _, op := _, type := _, pos := _, after := _, guard := _ }) (v := ?_) rfl (by kernel_rfl) (by kernel_rfl) (by kernel_rfl) (fun _ _ _ h => h) (Or.inl ⟨by rfl, ?_⟩) trivial ?_
      rotate_left 1
      · intro w hSw; go_simp; try with_reducible rfl
      try simp only [Act.put, List.setIfInBounds_toArray, List.set_cons_zero, List.set_cons_succ]
      refine wpAnyH_take (i := 7) (oi := { dst := some _, op := _, type := _, pos := _, after := _, guard := _ }) (v := ?_) rfl (by kernel_rfl) (by kernel_rfl) (by kernel_rfl) (fun _ _ _ h => h) (Or.inl ⟨by rfl, ?_⟩) trivial ?_
      rotate_left 1
      · intro w hSw; go_simp; try with_reducible rfl
      try simp only [Act.put, List.setIfInBounds_toArray, List.set_cons_zero, List.set_cons_succ]
      refine wpAnyH_take (i := 8) (oi := { dst := some _, op := _, type := _, pos := _, after := _, guard := _ }) (v := ?_) rfl (by kernel_rfl) (by kernel_rfl) (by kernel_rfl) (fun _ _ _ h => h) (Or.inl ⟨by rfl, ?_⟩) trivial ?_
      rotate_left 1
      · intro w hSw; go_simp; try with_reducible rfl
      try simp only [Act.put, List.setIfInBounds_toArray, List.set_cons_zero, List.set_cons_succ]
      refine wpAnyH_ready (rs := [9]) (by kernel_rfl) (by simp) ?_
      refine AllReadyH.cons (o := { dst := none, op := _, type := _, pos := _, after := _, guard := _ }) rfl (fun K hK => ?_) AllReadyH.nil
      go_simp
      refine hK.out _ _ trivial (fun hHeld => ?_)
      clear hK K hHeld
      try simp only [Act.put, List.setIfInBounds_toArray, List.set_cons_zero, List.set_cons_succ]
      refine wpAnyH_done (by kernel_rfl) ?_ _
      go_wp2
      go_region
      all_goals
        go_wp2
        refine bodyPost_ret (v := .tuple #[.agg #[.slice U1 q.g.length p1, .slice U2 q.s.length p2, .slice U3 q.n.length p3, .int .i64 q.c, .slice U4 q.d.length p4], .agg #[.slice R1 r.s.length m1, .slice R2 r.b.length m2, .slice R3 r.c.length m3, .int .i64 r.h, .int .i64 r.n, .string r.o], .int .i64 0]) (by simp [results, Try.results59, go_sem, *]) rfl ⟨_, _, rfl, ?_, HB3.out _ (datC_below HD.out ?_) ?_, ?_⟩
        · refine hostSt_now (lo := w1.heap.size) ?_
          have hq := HST3.out
          repeat (first | with_reducible exact hq | ((with_reducible refine hostSt_store ?_ ?hh); case hh => omega) | with_reducible refine hostSt_drew ?_)
        · repeat (first | with_reducible exact B3.out | with_reducible refine Below.setCell ?_ (by simp <;> omega) _ | with_reducible refine Below.drew ?_)
        · repeat (first | with_reducible exact agree_refl _ _ | ((with_reducible refine agree_old ?_ ?hh _); case hh => (have := NP.out; simp <;> omega)) | with_reducible refine agree_drew ?_)
        · repeat (first | with_reducible exact B3.out | with_reducible refine Below.setCell ?_ (by simp <;> omega) _ | with_reducible refine Below.drew ?_)
    refine AllReadyH.cons (o := { dst := some _, op := _, type := _, pos := _, after := _, guard := _ }) rfl (fun K hK => ?_) AllReadyH.nil
    go_simp
    refine (TKS.out _).mono ?_
    rintro e w5 ⟨rfl, hb5⟩
    have K5 : Hid (Below wa.heap.size wa w5) := Lib.hid (below_step (by repeat (first | with_reducible exact Below.refl _ _ | with_reducible refine below_alloc ?_ _ | with_reducible refine Below.drew ?_)) hb5)
    have zw := K5.out.size
    have LI := Lib.hid (ints_below (w := World.drew _) (show Ints (World.drew (wa.alloc (.cells #[.int .i64 v] 3))) (.slice (some ⟨wa.heap.size, 0, none⟩) 1 1) [v] from ints_oneAt wa v rfl) hb5)
    have D5 := whole_b K5.out KD.out
    obtain ⟨e0, e1, e2, e3, e4, e5⟩ := six_cells D5
    have be : w.heap.size + 1 < w5.heap.size := by omega
    clear hb5 D5
    refine hK.out _ _ trivial (fun hHeld => ?_)
    clear hK K hHeld
    try simp only [Act.put, List.setIfInBounds_toArray, List.set_cons_zero, List.set_cons_succ]
    refine wpAnyH_ready (rs := [0]) (by kernel_rfl) (by simp) ?_
    refine AllReadyH.cons (o := { dst := some _, op := _, type := _, pos := _, after := _, guard := _ }) rfl (fun K hK => ?_) AllReadyH.nil
    go_simp
    refine hK.out _ _ trivial (fun hHeld => ?_)
    clear hK K hHeld
    try simp only [Act.put, List.setIfInBounds_toArray, List.set_cons_zero, List.set_cons_succ]
    refine wpAnyH_ready (rs := [5]) (by kernel_rfl) (by simp) ?_
    refine AllReadyH.cons (o := { dst := some _, op := _, type := _, pos := _, after := _, guard := _ }) rfl (fun K hK => ?_) AllReadyH.nil
    go_simp
    refine (PUT.out _ _ _ LI.out (datC_below HD.out (below_step KB.out K5.out))).mono ?_
    rintro e w3 ⟨ux, rfl, hb3, hB3⟩
    have K3 : Hid (Below wa.heap.size wa w3) := Lib.hid (below_step K5.out hb3)
    have NP : Hid (wa.heap.size ≤ w5.heap.size) := Lib.hid (by omega)
    have B3 : Hid (Below w.heap.size w w3) := Lib.hid (below_step KB.out K3.out)
    have HST3 := Lib.hid (hostSt_below KH.out K3.out)
    have D3 := whole_b K3.out KD.out
    have T3 := whole_b K3.out KT.out
    have Y3 := whole_b K3.out KY.out
    have X3 := whole_b K3.out KX.out
    have z3 := whole_lt X3
    have hu3 := built_now hB3 (datC_below HD.out B3.out)
    simp only at hu3
    obtain ⟨R1, m1, R2, m2, R3, m3, rfl, _⟩ := datC_form hu3
    have HB3 := Lib.hid hB3
    obtain ⟨d0, d1, d2, d3, d4, d5⟩ := six_cells D3
    obtain ⟨r0, r1, r2, r3, r4⟩ := five_cells T3
    obtain ⟨y0, y1, y2, y3, y4, y5⟩ := six_cells Y3
    obtain ⟨x0_, x1_, x2_, x3_, x4_⟩ := five_cells X3
    have fd := whole_free D3
    have fr := whole_free T3
    have fy := whole_free Y3
    clear hb3 hB3 hu3 D3 T3 Y3 X3
    refine hK.out _ _ trivial (fun hHeld => ?_)
    clear hK K hHeld
    try simp only [Act.put, List.setIfInBounds_toArray, List.set_cons_zero, List.set_cons_succ]
    refine wpAnyH_take (i := 6) (oi := { dst := some _, op := _, type := _, pos := _, after := _, guard := _ }) (v := ?_) rfl (by kernel_rfl) (by kernel_rfl) (by kernel_rfl) (fun _ _ _ h => h) (Or.inl ⟨by rfl, ?_⟩) trivial ?_
    rotate_left 1
    · intro w hSw; go_simp; try with_reducible rfl
    try simp only [Act.put, List.setIfInBounds_toArray, List.set_cons_zero, List.set_cons_succ]
    refine wpAnyH_take (i := 7) (oi := { dst := some _, op := _, type := _, pos := _, after := _, guard := _ }) (v := ?_) rfl (by kernel_rfl) (by kernel_rfl) (by kernel_rfl) (fun _ _ _ h => h) (Or.inl ⟨by rfl, ?_⟩) trivial ?_
    rotate_left 1
    · intro w hSw; go_simp; try with_reducible rfl
    try simp only [Act.put, List.setIfInBounds_toArray, List.set_cons_zero, List.set_cons_succ]
    refine wpAnyH_take (i := 8) (oi := { dst := some _, op := _, type := _, pos := _, after := _, guard := _ }) (v := ?_) rfl (by kernel_rfl) (by kernel_rfl) (by kernel_rfl) (fun _ _ _ h => h) (Or.inl ⟨by rfl, ?_⟩) trivial ?_
    rotate_left 1
    · intro w hSw; go_simp; try with_reducible rfl
    try simp only [Act.put, List.setIfInBounds_toArray, List.set_cons_zero, List.set_cons_succ]
    refine wpAnyH_ready (rs := [9]) (by kernel_rfl) (by simp) ?_
    refine AllReadyH.cons (o := { dst := none, op := _, type := _, pos := _, after := _, guard := _ }) rfl (fun K hK => ?_) AllReadyH.nil
    go_simp
    refine hK.out _ _ trivial (fun hHeld => ?_)
    clear hK K hHeld
    try simp only [Act.put, List.setIfInBounds_toArray, List.set_cons_zero, List.set_cons_succ]
    refine wpAnyH_done (by kernel_rfl) ?_ _
    go_wp2
    go_region
    all_goals
      go_wp2
      refine bodyPost_ret (v := .tuple #[.agg #[.slice U1 q.g.length p1, .slice U2 q.s.length p2, .slice U3 q.n.length p3, .int .i64 q.c, .slice U4 q.d.length p4], .agg #[.slice R1 r.s.length m1, .slice R2 r.b.length m2, .slice R3 r.c.length m3, .int .i64 r.h, .int .i64 r.n, .string r.o], .int .i64 0]) (by simp [results, Try.results59, go_sem, *]) rfl ⟨_, _, rfl, ?_, HB3.out _ (datC_below HD.out ?_) ?_, ?_⟩
      · refine hostSt_now (lo := w1.heap.size) ?_
        have hq := HST3.out
        repeat (first | with_reducible exact hq | ((with_reducible refine hostSt_store ?_ ?hh); case hh => omega) | with_reducible refine hostSt_drew ?_)
      · repeat (first | with_reducible exact B3.out | with_reducible refine Below.setCell ?_ (by simp <;> omega) _ | with_reducible refine Below.drew ?_)
      · repeat (first | with_reducible exact agree_refl _ _ | ((with_reducible refine agree_old ?_ ?hh _); case hh => (have := NP.out; simp <;> omega)) | with_reducible refine agree_drew ?_)
      · repeat (first | with_reducible exact B3.out | with_reducible refine Below.setCell ?_ (by simp <;> omega) _ | with_reducible refine Below.drew ?_)

end Go.Proofs.Ytkcogfgjabemfaa

namespace Go.Proofs.Ytkcogfgjabemfaa
open Go.RowKit
set_option linter.unusedVariables false
set_option linter.unusedSimpArgs false

set_option maxRecDepth 100000 in
set_option maxHeartbeats 4000000 in
theorem sCall_G1 (vh vd : Value) (h : Ht) (d : Dt) (c : Nat) (q : Ht) (v th : Int) (w : World) (hh : HostIn w vh h) (hd : DatC w vd d) (hf : HtFine h) (df : DtFine d) (hc : c < 4) (hg : h.g.getD c false = true) (hq : ¬ h.d.length = 40) (hu1 : ¬ d.s.length < capTakes c) (ho : ¬ (c = 3 ∧ d.s.length = 32)) (hn0 : d.s.length = 1) (hdo : hDo h c (tp d 1) (tp d 0) = (q, v, th)) (hth : th = 0) (hc1 : ¬ c = 1) :
    Calls Try.prog 59 #[vh, vd, .int .i64 c] w (HMidOf w (q, (dPut d (capTakes c) [v]).1, 0)) := by
  have HH := Lib.hid hh
  have HD := Lib.hid hd
  obtain ⟨E1, l1, E2, l2, E3, l3, E4, l4, rfl⟩ := hostIn_form hh
  obtain ⟨A1, k1, A2, k2, A3, k3, rfl, _⟩ := datC_form hd
  have h4 := fineH_g hf
  have cl : c < h.g.length := by omega
  obtain ⟨ad, rfl, cg⟩ := bols_at (hostIn_firstRow hh) cl
  clear h4
  have HF := Lib.hid hf
  have DF := Lib.hid df
  have sl := fine_sl df
  have e1 : tp d 1 = 0 := tp_out (by omega)
  rw [e1] at hdo
  obtain ⟨ad2, rfl, CB⟩ := datIn_top hd.1 (i := 0) (by omega)
  generalize tp d 0 = x0 at *
  rw [show h.g[c] = true by rw [← hg]; simp [List.getD, cl]] at cg
  clear hg
  have u0 : ((h.d.length : Int) == 40) = false := by rw [beq_eq_false_iff_ne]; omega
  clear hq
  obtain ⟨n, hn⟩ : ∃ n, d.s.length = n := ⟨_, rfl⟩
  have HN := Lib.hid hn
  have n32 : n ≤ 32 := by omega
  rw [hn] at HD ⊢
  obtain ⟨tk, ht⟩ : ∃ tk, capTakes c = tk := ⟨_, rfl⟩
  have TKS : Hid (∀ W, Calls Try.prog 109 #[.int .i64 c] W fun e w' => e = .returned (.int .i64 (tk : Nat)) ∧ Below W.heap.size W w') := Lib.hid fun W => by rw [← ht]; exact sHTakes_any c W hc
  have u1 : ¬ n < tk := by omega
  have tk2 : tk ≤ 2 := by rw [← ht]; have : c = 0 ∨ c = 1 ∨ c = 2 ∨ c = 3 := by omega
                          rcases this with rfl | rfl | rfl | rfl <;> decide
  have HTK := Lib.hid ht
  obtain ⟨j0, hj0⟩ : ∃ j0, n = j0 + 1 := ⟨n - 1, by omega⟩
  have s0 : IntKind.i64.wrap ((n : Int) - 1) = (j0 : Int) := by rw [IntWalk.i64_in _ (by omega)]; omega
  have s0' : (j0 : Int) < n := by omega
  have p0 : (0 : Int) < n := by omega
  rw [show d.s.length - 1 - 0 = j0 by omega] at CB
  have p1' : ¬ (1 : Int) < n := by omega
  have HDO : Hid (∀ W u, HostIn W u h → Calls Try.prog 110 #[u, .int .i64 c, .int .i64 0, .int .i64 x0] W (HDoOf W (q, v, th))) := Lib.hid fun W u hu => by rw [← hdo]; exact sDo_any u h c 0 x0 W hu HF.out hc
  subst hth
  have u6 : ((c : Int) == 1) = false := by rw [beq_eq_false_iff_ne]; omega
  have sq : d.s.length = n := by omega
  have PUT : Hid (∀ W u lv, Ints W lv [v] → DatC W u d → Calls Try.prog 111 #[u, .int .i64 (tk : Nat), lv] W (ReadC W u d (dPut d tk [v]))) := Lib.hid fun W u lv hl hu => sPut_any u d tk lv [v] W hu hl (by omega) (by omega) (by simp)
  rw [ht]
  clear hn hu1 hn0 hdo ht sl hj0 sq hc1
  generalize dPut d tk [v] = pr at *
  obtain ⟨r, rt⟩ := pr
  have CG : ∀ o1 o2 o3 o4 : Obj, ((((w.alloc o1).alloc o2).alloc o3).alloc o4).cell? (ad.add c) = some (.bool true) := fun o1 o2 o3 o4 => cell_kept (below_alloc (below_alloc (below_alloc (below_alloc (Below.refl _ _) _) _) _) _) _ _ cg
  clear cg hh hd hf df
  have OO : (((c : Int) == 3) = true ∧ ((n : Int) == 32) = false) ∨ ((c : Int) == 3) = false := by
    by_cases q3 : c = 3
    · exact .inl ⟨by rw [beq_iff_eq]; omega, by rw [beq_eq_false_iff_ne]; intro q4; exact ho ⟨q3, by have := HN.out; omega⟩⟩
    · exact .inr (by rw [beq_eq_false_iff_ne]; omega)
  clear ho
  go_enter Try.func59, Try.ntmps59
  rcases OO with ⟨u3, u4⟩ | u3
  · go_wp2_with (first
      | (go_at_call 109; refine (TKS.out _).mono ?_; rintro e w1 ⟨rfl, hb⟩
         have V1 := whole_b hb (whole_alloc (whole_alloc (whole_alloc (whole_new w _ _) _) _) _)
         have D1 := whole_b hb (whole_alloc (whole_alloc (whole_new1 w _ _ _) _) _)
         have T1 := whole_b hb (whole_alloc (whole_new2 w _ _ _ _) _)
         have Y1 := whole_b hb (whole_new3 w _ _ _ _ _)
         have B1 : Hid (Below w.heap.size w w1) := Lib.hid (below_step (below_alloc (below_alloc (below_alloc (below_alloc (Below.refl _ _) _) _) _) _) hb)
         have zy := whole_lt Y1
         obtain ⟨c0, c1, c2, c3, c4⟩ := five_cells V1
         obtain ⟨d0, d1, d2, d3, d4, d5⟩ := six_cells D1
         obtain ⟨r0, r1, r2, r3, r4⟩ := five_cells T1
         obtain ⟨y0, y1, y2, y3, y4, y5⟩ := six_cells Y1
         have fd := whole_free D1
         have fr := whole_free T1
         have fy := whole_free Y1
         have cb := cell_kept B1.out _ _ CB
         have VV1 := Lib.hid V1
         have DD1 := Lib.hid D1
         have TT1 := Lib.hid T1
         have YY1 := Lib.hid Y1
         clear hb V1 D1 T1 Y1)
      | (go_at_call 110; refine (HDO.out _ _ (hostIn_below HH.out B1.out)).mono ?_; rintro e w2 ⟨u2, rfl, hst, hb⟩
         clear c0 c1 c2 c3 c4 d0 d1 d2 d3 d4 d5 r0 r1 r2 r3 r4 y0 y1 y2 y3 y4 y5 fd fr fy cb
         have B2 : Hid (Below w.heap.size w w2) := Lib.hid (below_step B1.out hb)
         have V2 := whole_b hb VV1.out
         have D2 := whole_b hb DD1.out
         have T2 := whole_b hb TT1.out
         have Y2 := whole_b hb YY1.out
         have z2 := hb.size
         have b0 : w.heap.size < w2.heap.size := by omega
         have b1 : w.heap.size + 1 < w2.heap.size := by omega
         have b2 : w.heap.size + 1 + 1 < w2.heap.size := by omega
         have b3 : w.heap.size + 1 + 1 + 1 < w2.heap.size := by omega
         obtain ⟨U1, p1, U2, p2, U3, p3, U4, p4, rfl⟩ := hostIn_form (hostSt_now hst)
         have HST := Lib.hid hst
         obtain ⟨c0, c1, c2, c3, c4⟩ := five_cells V2
         obtain ⟨d0, d1, d2, d3, d4, d5⟩ := six_cells D2
         obtain ⟨r0, r1, r2, r3, r4⟩ := five_cells T2
         obtain ⟨y0, y1, y2, y3, y4, y5⟩ := six_cells Y2
         have fd := whole_free D2
         have fr := whole_free T2
         have fy := whole_free Y2
         have DD2 := Lib.hid D2
         have TT2 := Lib.hid T2
         have YY2 := Lib.hid Y2
         clear hb hst V2 D2 T2 Y2))
    have KD := Lib.hid (whole_alloc DD2.out (.cells #[.slice U1 q.g.length p1, .slice U2 q.s.length p2, .slice U3 q.n.length p3, .int .i64 q.c, .slice U4 q.d.length p4] 27))
    have KT := Lib.hid (whole_alloc TT2.out (.cells #[.slice U1 q.g.length p1, .slice U2 q.s.length p2, .slice U3 q.n.length p3, .int .i64 q.c, .slice U4 q.d.length p4] 27))
    have KY := Lib.hid (whole_alloc YY2.out (.cells #[.slice U1 q.g.length p1, .slice U2 q.s.length p2, .slice U3 q.n.length p3, .int .i64 q.c, .slice U4 q.d.length p4] 27))
    have KX := Lib.hid (whole_new w2 27 #[.slice U1 q.g.length p1, .slice U2 q.s.length p2, .slice U3 q.n.length p3, .int .i64 q.c, .slice U4 q.d.length p4])
    have KH := Lib.hid (hostSt_alloc HST.out (.cells #[.slice U1 q.g.length p1, .slice U2 q.s.length p2, .slice U3 q.n.length p3, .int .i64 q.c, .slice U4 q.d.length p4] 27))
    have KB := Lib.hid (below_alloc B2.out (.cells #[.slice U1 q.g.length p1, .slice U2 q.s.length p2, .slice U3 q.n.length p3, .int .i64 q.c, .slice U4 q.d.length p4] 27))
    generalize w2.alloc (.cells #[.slice U1 q.g.length p1, .slice U2 q.s.length p2, .slice U3 q.n.length p3, .int .i64 q.c, .slice U4 q.d.length p4] 27) = wa at *
    have zk := whole_lt KX.out
    clear d0 d1 d2 d3 d4 d5 c0 c1 c2 c3 c4 r0 r1 r2 r3 r4 y0 y1 y2 y3 y4 y5 fd fr fy
    obtain ⟨d0, d1, d2, d3, d4, d5⟩ := six_cells KD.out
    have bd : w.heap.size + 1 < wa.heap.size := by omega
    refine wp_region_held_drew (S := fun _ => True) (by kernel_rfl) trivial (fun hHeld => ?_)
    clear hHeld
    refine wpAnyH_take (i := 1) (oi := { dst := some _, op := _, type := _, pos := _, after := _, guard := _ }) (v := ?_) rfl (by kernel_rfl) (by kernel_rfl) (by kernel_rfl) (fun _ _ _ h => h) (Or.inl ⟨by rfl, ?_⟩) trivial ?_
    rotate_left 1
    · intro w hSw; go_simp; try with_reducible rfl
    try simp only [Act.put, List.setIfInBounds_toArray, List.set_cons_zero, List.set_cons_succ]
    refine wpAnyH_take (i := 3) (oi := { dst := some _, op := _, type := _, pos := _, after := _, guard := _ }) (v := ?_) rfl (by kernel_rfl) (by kernel_rfl) (by kernel_rfl) (fun _ _ _ h => h) (Or.inl ⟨by rfl, ?_⟩) trivial ?_
    rotate_left 1
    · intro w hSw; go_simp; try with_reducible rfl
    try simp only [Act.put, List.setIfInBounds_toArray, List.set_cons_zero, List.set_cons_succ]
    refine wpAnyH_ready (rs := [0, 2, 4]) (by kernel_rfl) (by simp) ?_
    refine AllReadyH.cons (o := { dst := some _, op := _, type := _, pos := _, after := _, guard := _ }) rfl (fun K hK => ?_) ?_
    · go_simp
      refine hK.out _ _ trivial (fun hHeld => ?_)
      clear hK K hHeld
      try simp only [Act.put, List.setIfInBounds_toArray, List.set_cons_zero, List.set_cons_succ]
      refine wpAnyH_ready (rs := [2, 4]) (by kernel_rfl) (by simp) ?_
      refine AllReadyH.cons (o := { dst := some _, op := _, type := _, pos := _, after := _, guard := _ }) rfl (fun K hK => ?_) ?_
      · go_simp
        refine (TKS.out _).mono ?_
        rintro e w5 ⟨rfl, hb5⟩
        have K5 : Hid (Below wa.heap.size wa w5) := Lib.hid (below_step (by repeat (first | with_reducible exact Below.refl _ _ | with_reducible refine below_alloc ?_ _ | with_reducible refine Below.drew ?_)) hb5)
        have zw := K5.out.size
        have D5 := whole_b K5.out KD.out
        obtain ⟨e0, e1, e2, e3, e4, e5⟩ := six_cells D5
        have be : w.heap.size + 1 < w5.heap.size := by omega
        clear hb5 D5
        refine hK.out _ _ trivial (fun hHeld => ?_)
        clear hK K hHeld
        try simp only [Act.put, List.setIfInBounds_toArray, List.set_cons_zero, List.set_cons_succ]
        refine wpAnyH_ready (rs := [4]) (by kernel_rfl) (by simp) ?_
        refine AllReadyH.cons (o := { dst := some _, op := _, type := _, pos := _, after := _, guard := _ }) rfl (fun K hK => ?_) AllReadyH.nil
        go_simp
        refine hK.out _ _ trivial (fun hHeld => ?_)
        clear hK K hHeld
        try simp only [Act.put, List.setIfInBounds_toArray, List.set_cons_zero, List.set_cons_succ]
        refine wpAnyH_ready (rs := [5]) (by kernel_rfl) (by simp) ?_
        refine AllReadyH.cons (o := { dst := some _, op := _, type := _, pos := _, after := _, guard := _ }) rfl (fun K hK => ?_) AllReadyH.nil
        go_simp
        refine (PUT.out _ _ _ (by exact ints_oneAt _ _ rfl) (datC_below HD.out (below_step KB.out (below_alloc K5.out _)))).mono ?_
        rintro e w3 ⟨ux, rfl, hb3, hB3⟩
        have K3 : Hid (Below wa.heap.size wa w3) := Lib.hid (below_step (below_alloc K5.out _) hb3)
        have NP : Hid (wa.heap.size ≤ w5.heap.size + 1) := Lib.hid (by omega)
        have B3 : Hid (Below w.heap.size w w3) := Lib.hid (below_step KB.out K3.out)
        have HST3 := Lib.hid (hostSt_below KH.out K3.out)
        have D3 := whole_b K3.out KD.out
        have T3 := whole_b K3.out KT.out
        have Y3 := whole_b K3.out KY.out
        have X3 := whole_b K3.out KX.out
        have z3 := whole_lt X3
        have hu3 := built_now hB3 (datC_below HD.out B3.out)
        simp only at hu3
        obtain ⟨R1, m1, R2, m2, R3, m3, rfl, _⟩ := datC_form hu3
        have HB3 := Lib.hid hB3
        obtain ⟨d0, d1, d2, d3, d4, d5⟩ := six_cells D3
        obtain ⟨r0, r1, r2, r3, r4⟩ := five_cells T3
        obtain ⟨y0, y1, y2, y3, y4, y5⟩ := six_cells Y3
        obtain ⟨x0_, x1_, x2_, x3_, x4_⟩ := five_cells X3
        have fd := whole_free D3
        have fr := whole_free T3
        have fy := whole_free Y3
        clear hb3 hB3 hu3 D3 T3 Y3 X3
        refine hK.out _ _ trivial (fun hHeld => ?_)
        clear hK K hHeld
        try simp only [Act.put, List.setIfInBounds_toArray, List.set_cons_zero, List.set_cons_succ]
        refine wpAnyH_take (i := 6) (oi := { dst := some _, op := _, type := _, pos := _, after := _, guard := _ }) (v := ?_) rfl (by kernel_rfl) (by kernel_rfl) (by kernel_rfl) (fun _ _ _ h => h) (Or.inl ⟨by rfl, ?_⟩) trivial ?_
        rotate_left 1
        · intro w hSw; go_simp; try with_reducible rfl
        try simp only [Act.put, List.setIfInBounds_toArray, List.set_cons_zero, List.set_cons_succ]
        refine wpAnyH_take (i := 7) (oi := { dst := some _, op := _, type := _, pos := _, after := _, guard := _ }) (v := ?_) rfl (by kernel_rfl) (by kernel_rfl) (by kernel_rfl) (fun _ _ _ h => h) (Or.inl ⟨by rfl, ?_⟩) trivial ?_
        rotate_left 1
        · intro w hSw; go_simp; try with_reducible rfl
        try simp only [Act.put, List.setIfInBounds_toArray, List.set_cons_zero, List.set_cons_succ]
        refine wpAnyH_take (i := 8) (oi := { dst := some _, op := _, type := _, pos := _, after := _, guard := _ }) (v := ?_) rfl (by kernel_rfl) (by kernel_rfl) (by kernel_rfl) (fun _ _ _ h => h) (Or.inl ⟨by rfl, ?_⟩) trivial ?_
        rotate_left 1
        · intro w hSw; go_simp; try with_reducible rfl
        try simp only [Act.put, List.setIfInBounds_toArray, List.set_cons_zero, List.set_cons_succ]
        refine wpAnyH_ready (rs := [9]) (by kernel_rfl) (by simp) ?_
        refine AllReadyH.cons (o := { dst := none, op := _, type := _, pos := _, after := _, guard := _ }) rfl (fun K hK => ?_) AllReadyH.nil
        go_simp
        refine hK.out _ _ trivial (fun hHeld => ?_)
        clear hK K hHeld
        try simp only [Act.put, List.setIfInBounds_toArray, List.set_cons_zero, List.set_cons_succ]
        refine wpAnyH_done (by kernel_rfl) ?_ _
        go_wp2
        go_region
        all_goals
          go_wp2
          refine bodyPost_ret (v := .tuple #[.agg #[.slice U1 q.g.length p1, .slice U2 q.s.length p2, .slice U3 q.n.length p3, .int .i64 q.c, .slice U4 q.d.length p4], .agg #[.slice R1 r.s.length m1, .slice R2 r.b.length m2, .slice R3 r.c.length m3, .int .i64 r.h, .int .i64 r.n, .string r.o], .int .i64 0]) (by simp [results, Try.results59, go_sem, *]) rfl ⟨_, _, rfl, ?_, HB3.out _ (datC_below HD.out ?_) ?_, ?_⟩
          · refine hostSt_now (lo := w1.heap.size) ?_
            have hq := HST3.out
            repeat (first | with_reducible exact hq | ((with_reducible refine hostSt_store ?_ ?hh); case hh => omega) | with_reducible refine hostSt_drew ?_)
          · repeat (first | with_reducible exact B3.out | with_reducible refine Below.setCell ?_ (by simp <;> omega) _ | with_reducible refine Below.drew ?_)
          · repeat (first | with_reducible exact agree_refl _ _ | ((with_reducible refine agree_old ?_ ?hh _); case hh => (have := NP.out; simp <;> omega)) | with_reducible refine agree_drew ?_)
          · repeat (first | with_reducible exact B3.out | with_reducible refine Below.setCell ?_ (by simp <;> omega) _ | with_reducible refine Below.drew ?_)
      refine AllReadyH.cons (o := { dst := some _, op := _, type := _, pos := _, after := _, guard := _ }) rfl (fun K hK => ?_) AllReadyH.nil
      go_simp
      refine hK.out _ _ trivial (fun hHeld => ?_)
      clear hK K hHeld
      try simp only [Act.put, List.setIfInBounds_toArray, List.set_cons_zero, List.set_cons_succ]
      refine wpAnyH_ready (rs := [2]) (by kernel_rfl) (by simp) ?_
      refine AllReadyH.cons (o := { dst := some _, op := _, type := _, pos := _, after := _, guard := _ }) rfl (fun K hK => ?_) AllReadyH.nil
      go_simp
      refine (TKS.out _).mono ?_
      rintro e w5 ⟨rfl, hb5⟩
      have K5 : Hid (Below wa.heap.size wa w5) := Lib.hid (below_step (by repeat (first | with_reducible exact Below.refl _ _ | with_reducible refine below_alloc ?_ _ | with_reducible refine Below.drew ?_)) hb5)
      have zw := K5.out.size
      have LI := Lib.hid (ints_below (w := World.drew _) (show Ints (World.drew (wa.alloc (.cells #[.int .i64 v] 3))) (.slice (some ⟨wa.heap.size, 0, none⟩) 1 1) [v] from ints_oneAt wa v rfl) hb5)
      have D5 := whole_b K5.out KD.out
      obtain ⟨e0, e1, e2, e3, e4, e5⟩ := six_cells D5
      have be : w.heap.size + 1 < w5.heap.size := by omega
      clear hb5 D5
      refine hK.out _ _ trivial (fun hHeld => ?_)
      clear hK K hHeld
      try simp only [Act.put, List.setIfInBounds_toArray, List.set_cons_zero, List.set_cons_succ]
      refine wpAnyH_ready (rs := [5]) (by kernel_rfl) (by simp) ?_
      refine AllReadyH.cons (o := { dst := some _, op := _, type := _, pos := _, after := _, guard := _ }) rfl (fun K hK => ?_) AllReadyH.nil
      go_simp
      refine (PUT.out _ _ _ LI.out (datC_below HD.out (below_step KB.out K5.out))).mono ?_
      rintro e w3 ⟨ux, rfl, hb3, hB3⟩
      have K3 : Hid (Below wa.heap.size wa w3) := Lib.hid (below_step K5.out hb3)
      have NP : Hid (wa.heap.size ≤ w5.heap.size) := Lib.hid (by omega)
      have B3 : Hid (Below w.heap.size w w3) := Lib.hid (below_step KB.out K3.out)
      have HST3 := Lib.hid (hostSt_below KH.out K3.out)
      have D3 := whole_b K3.out KD.out
      have T3 := whole_b K3.out KT.out
      have Y3 := whole_b K3.out KY.out
      have X3 := whole_b K3.out KX.out
      have z3 := whole_lt X3
      have hu3 := built_now hB3 (datC_below HD.out B3.out)
      simp only at hu3
      obtain ⟨R1, m1, R2, m2, R3, m3, rfl, _⟩ := datC_form hu3
      have HB3 := Lib.hid hB3
      obtain ⟨d0, d1, d2, d3, d4, d5⟩ := six_cells D3
      obtain ⟨r0, r1, r2, r3, r4⟩ := five_cells T3
      obtain ⟨y0, y1, y2, y3, y4, y5⟩ := six_cells Y3
      obtain ⟨x0_, x1_, x2_, x3_, x4_⟩ := five_cells X3
      have fd := whole_free D3
      have fr := whole_free T3
      have fy := whole_free Y3
      clear hb3 hB3 hu3 D3 T3 Y3 X3
      refine hK.out _ _ trivial (fun hHeld => ?_)
      clear hK K hHeld
      try simp only [Act.put, List.setIfInBounds_toArray, List.set_cons_zero, List.set_cons_succ]
      refine wpAnyH_take (i := 6) (oi := { dst := some _, op := _, type := _, pos := _, after := _, guard := _ }) (v := ?_) rfl (by kernel_rfl) (by kernel_rfl) (by kernel_rfl) (fun _ _ _ h => h) (Or.inl ⟨by rfl, ?_⟩) trivial ?_
      rotate_left 1
      · intro w hSw; go_simp; try with_reducible rfl
      try simp only [Act.put, List.setIfInBounds_toArray, List.set_cons_zero, List.set_cons_succ]
      refine wpAnyH_take (i := 7) (oi := { dst := some _, op := _, type := _, pos := _, after := _, guard := _ }) (v := ?_) rfl (by kernel_rfl) (by kernel_rfl) (by kernel_rfl) (fun _ _ _ h => h) (Or.inl ⟨by rfl, ?_⟩) trivial ?_
      rotate_left 1
      · intro w hSw; go_simp; try with_reducible rfl
      try simp only [Act.put, List.setIfInBounds_toArray, List.set_cons_zero, List.set_cons_succ]
      refine wpAnyH_take (i := 8) (oi := { dst := some _, op := _, type := _, pos := _, after := _, guard := _ }) (v := ?_) rfl (by kernel_rfl) (by kernel_rfl) (by kernel_rfl) (fun _ _ _ h => h) (Or.inl ⟨by rfl, ?_⟩) trivial ?_
      rotate_left 1
      · intro w hSw; go_simp; try with_reducible rfl
      try simp only [Act.put, List.setIfInBounds_toArray, List.set_cons_zero, List.set_cons_succ]
      refine wpAnyH_ready (rs := [9]) (by kernel_rfl) (by simp) ?_
      refine AllReadyH.cons (o := { dst := none, op := _, type := _, pos := _, after := _, guard := _ }) rfl (fun K hK => ?_) AllReadyH.nil
      go_simp
      refine hK.out _ _ trivial (fun hHeld => ?_)
      clear hK K hHeld
      try simp only [Act.put, List.setIfInBounds_toArray, List.set_cons_zero, List.set_cons_succ]
      refine wpAnyH_done (by kernel_rfl) ?_ _
      go_wp2
      go_region
      all_goals
        go_wp2
        refine bodyPost_ret (v := .tuple #[.agg #[.slice U1 q.g.length p1, .slice U2 q.s.length p2, .slice U3 q.n.length p3, .int .i64 q.c, .slice U4 q.d.length p4], .agg #[.slice R1 r.s.length m1, .slice R2 r.b.length m2, .slice R3 r.c.length m3, .int .i64 r.h, .int .i64 r.n, .string r.o], .int .i64 0]) (by simp [results, Try.results59, go_sem, *]) rfl ⟨_, _, rfl, ?_, HB3.out _ (datC_below HD.out ?_) ?_, ?_⟩
        · refine hostSt_now (lo := w1.heap.size) ?_
          have hq := HST3.out
          repeat (first | with_reducible exact hq | ((with_reducible refine hostSt_store ?_ ?hh); case hh => omega) | with_reducible refine hostSt_drew ?_)
        · repeat (first | with_reducible exact B3.out | with_reducible refine Below.setCell ?_ (by simp <;> omega) _ | with_reducible refine Below.drew ?_)
        · repeat (first | with_reducible exact agree_refl _ _ | ((with_reducible refine agree_old ?_ ?hh _); case hh => (have := NP.out; simp <;> omega)) | with_reducible refine agree_drew ?_)
        · repeat (first | with_reducible exact B3.out | with_reducible refine Below.setCell ?_ (by simp <;> omega) _ | with_reducible refine Below.drew ?_)
    refine AllReadyH.cons (o := { dst := some _, op := _, type := _, pos := _, after := _, guard := _ }) rfl (fun K hK => ?_) ?_
    · go_simp
      refine (TKS.out _).mono ?_
      rintro e w5 ⟨rfl, hb5⟩
      have K5 : Hid (Below wa.heap.size wa w5) := Lib.hid (below_step (by repeat (first | with_reducible exact Below.refl _ _ | with_reducible refine below_alloc ?_ _ | with_reducible refine Below.drew ?_)) hb5)
      have zw := K5.out.size
      have D5 := whole_b K5.out KD.out
      obtain ⟨e0, e1, e2, e3, e4, e5⟩ := six_cells D5
      have be : w.heap.size + 1 < w5.heap.size := by omega
      clear hb5 D5
      refine hK.out _ _ trivial (fun hHeld => ?_)
      clear hK K hHeld
      try simp only [Act.put, List.setIfInBounds_toArray, List.set_cons_zero, List.set_cons_succ]
      refine wpAnyH_ready (rs := [0, 4]) (by kernel_rfl) (by simp) ?_
      refine AllReadyH.cons (o := { dst := some _, op := _, type := _, pos := _, after := _, guard := _ }) rfl (fun K hK => ?_) ?_
      · go_simp
        refine hK.out _ _ trivial (fun hHeld => ?_)
        clear hK K hHeld
        try simp only [Act.put, List.setIfInBounds_toArray, List.set_cons_zero, List.set_cons_succ]
        refine wpAnyH_ready (rs := [4]) (by kernel_rfl) (by simp) ?_
        refine AllReadyH.cons (o := { dst := some _, op := _, type := _, pos := _, after := _, guard := _ }) rfl (fun K hK => ?_) AllReadyH.nil
        go_simp
        refine hK.out _ _ trivial (fun hHeld => ?_)
        clear hK K hHeld
        try simp only [Act.put, List.setIfInBounds_toArray, List.set_cons_zero, List.set_cons_succ]
        refine wpAnyH_ready (rs := [5]) (by kernel_rfl) (by simp) ?_
        refine AllReadyH.cons (o := { dst := some _, op := _, type := _, pos := _, after := _, guard := _ }) rfl (fun K hK => ?_) AllReadyH.nil
        go_simp
        refine (PUT.out _ _ _ (by exact ints_oneAt _ _ rfl) (datC_below HD.out (below_step KB.out (below_alloc K5.out _)))).mono ?_
        rintro e w3 ⟨ux, rfl, hb3, hB3⟩
        have K3 : Hid (Below wa.heap.size wa w3) := Lib.hid (below_step (below_alloc K5.out _) hb3)
        have NP : Hid (wa.heap.size ≤ w5.heap.size + 1) := Lib.hid (by omega)
        have B3 : Hid (Below w.heap.size w w3) := Lib.hid (below_step KB.out K3.out)
        have HST3 := Lib.hid (hostSt_below KH.out K3.out)
        have D3 := whole_b K3.out KD.out
        have T3 := whole_b K3.out KT.out
        have Y3 := whole_b K3.out KY.out
        have X3 := whole_b K3.out KX.out
        have z3 := whole_lt X3
        have hu3 := built_now hB3 (datC_below HD.out B3.out)
        simp only at hu3
        obtain ⟨R1, m1, R2, m2, R3, m3, rfl, _⟩ := datC_form hu3
        have HB3 := Lib.hid hB3
        obtain ⟨d0, d1, d2, d3, d4, d5⟩ := six_cells D3
        obtain ⟨r0, r1, r2, r3, r4⟩ := five_cells T3
        obtain ⟨y0, y1, y2, y3, y4, y5⟩ := six_cells Y3
        obtain ⟨x0_, x1_, x2_, x3_, x4_⟩ := five_cells X3
        have fd := whole_free D3
        have fr := whole_free T3
        have fy := whole_free Y3
        clear hb3 hB3 hu3 D3 T3 Y3 X3
        refine hK.out _ _ trivial (fun hHeld => ?_)
        clear hK K hHeld
        try simp only [Act.put, List.setIfInBounds_toArray, List.set_cons_zero, List.set_cons_succ]
        refine wpAnyH_take (i := 6) (oi := { dst := some _, op := _, type := _, pos := _, after := _, guard := _ }) (v := ?_) rfl (by kernel_rfl) (by kernel_rfl) (by kernel_rfl) (fun _ _ _ h => h) (Or.inl ⟨by rfl, ?_⟩) trivial ?_
        rotate_left 1
        · intro w hSw; go_simp; try with_reducible rfl
        try simp only [Act.put, List.setIfInBounds_toArray, List.set_cons_zero, List.set_cons_succ]
        refine wpAnyH_take (i := 7) (oi := { dst := some _, op := _, type := _, pos := _, after := _, guard := _ }) (v := ?_) rfl (by kernel_rfl) (by kernel_rfl) (by kernel_rfl) (fun _ _ _ h => h) (Or.inl ⟨by rfl, ?_⟩) trivial ?_
        rotate_left 1
        · intro w hSw; go_simp; try with_reducible rfl
        try simp only [Act.put, List.setIfInBounds_toArray, List.set_cons_zero, List.set_cons_succ]
        refine wpAnyH_take (i := 8) (oi := { dst := some _, op := _, type := _, pos := _, after := _, guard := _ }) (v := ?_) rfl (by kernel_rfl) (by kernel_rfl) (by kernel_rfl) (fun _ _ _ h => h) (Or.inl ⟨by rfl, ?_⟩) trivial ?_
        rotate_left 1
        · intro w hSw; go_simp; try with_reducible rfl
        try simp only [Act.put, List.setIfInBounds_toArray, List.set_cons_zero, List.set_cons_succ]
        refine wpAnyH_ready (rs := [9]) (by kernel_rfl) (by simp) ?_
        refine AllReadyH.cons (o := { dst := none, op := _, type := _, pos := _, after := _, guard := _ }) rfl (fun K hK => ?_) AllReadyH.nil
        go_simp
        refine hK.out _ _ trivial (fun hHeld => ?_)
        clear hK K hHeld
        try simp only [Act.put, List.setIfInBounds_toArray, List.set_cons_zero, List.set_cons_succ]
        refine wpAnyH_done (by kernel_rfl) ?_ _
        go_wp2
        go_region
        all_goals
          go_wp2
          refine bodyPost_ret (v := .tuple #[.agg #[.slice U1 q.g.length p1, .slice U2 q.s.length p2, .slice U3 q.n.length p3, .int .i64 q.c, .slice U4 q.d.length p4], .agg #[.slice R1 r.s.length m1, .slice R2 r.b.length m2, .slice R3 r.c.length m3, .int .i64 r.h, .int .i64 r.n, .string r.o], .int .i64 0]) (by simp [results, Try.results59, go_sem, *]) rfl ⟨_, _, rfl, ?_, HB3.out _ (datC_below HD.out ?_) ?_, ?_⟩
          · refine hostSt_now (lo := w1.heap.size) ?_
            have hq := HST3.out
            repeat (first | with_reducible exact hq | ((with_reducible refine hostSt_store ?_ ?hh); case hh => omega) | with_reducible refine hostSt_drew ?_)
          · repeat (first | with_reducible exact B3.out | with_reducible refine Below.setCell ?_ (by simp <;> omega) _ | with_reducible refine Below.drew ?_)
          · repeat (first | with_reducible exact agree_refl _ _ | ((with_reducible refine agree_old ?_ ?hh _); case hh => (have := NP.out; simp <;> omega)) | with_reducible refine agree_drew ?_)
          · repeat (first | with_reducible exact B3.out | with_reducible refine Below.setCell ?_ (by simp <;> omega) _ | with_reducible refine Below.drew ?_)
      refine AllReadyH.cons (o := { dst := some _, op := _, type := _, pos := _, after := _, guard := _ }) rfl (fun K hK => ?_) AllReadyH.nil
      go_simp
      refine hK.out _ _ trivial (fun hHeld => ?_)
      clear hK K hHeld
      try simp only [Act.put, List.setIfInBounds_toArray, List.set_cons_zero, List.set_cons_succ]
      refine wpAnyH_ready (rs := [0]) (by kernel_rfl) (by simp) ?_
      refine AllReadyH.cons (o := { dst := some _, op := _, type := _, pos := _, after := _, guard := _ }) rfl (fun K hK => ?_) AllReadyH.nil
      go_simp
      refine hK.out _ _ trivial (fun hHeld => ?_)
      clear hK K hHeld
      try simp only [Act.put, List.setIfInBounds_toArray, List.set_cons_zero, List.set_cons_succ]
      refine wpAnyH_ready (rs := [5]) (by kernel_rfl) (by simp) ?_
      refine AllReadyH.cons (o := { dst := some _, op := _, type := _, pos := _, after := _, guard := _ }) rfl (fun K hK => ?_) AllReadyH.nil
      go_simp
      refine (PUT.out _ _ _ (by exact ints_oneAt _ _ rfl) (datC_below HD.out (below_step KB.out (below_alloc K5.out _)))).mono ?_
      rintro e w3 ⟨ux, rfl, hb3, hB3⟩
      have K3 : Hid (Below wa.heap.size wa w3) := Lib.hid (below_step (below_alloc K5.out _) hb3)
      have NP : Hid (wa.heap.size ≤ w5.heap.size + 1) := Lib.hid (by omega)
      have B3 : Hid (Below w.heap.size w w3) := Lib.hid (below_step KB.out K3.out)
      have HST3 := Lib.hid (hostSt_below KH.out K3.out)
      have D3 := whole_b K3.out KD.out
      have T3 := whole_b K3.out KT.out
      have Y3 := whole_b K3.out KY.out
      have X3 := whole_b K3.out KX.out
      have z3 := whole_lt X3
      have hu3 := built_now hB3 (datC_below HD.out B3.out)
      simp only at hu3
      obtain ⟨R1, m1, R2, m2, R3, m3, rfl, _⟩ := datC_form hu3
      have HB3 := Lib.hid hB3
      obtain ⟨d0, d1, d2, d3, d4, d5⟩ := six_cells D3
      obtain ⟨r0, r1, r2, r3, r4⟩ := five_cells T3
      obtain ⟨y0, y1, y2, y3, y4, y5⟩ := six_cells Y3
      obtain ⟨x0_, x1_, x2_, x3_, x4_⟩ := five_cells X3
      have fd := whole_free D3
      have fr := whole_free T3
      have fy := whole_free Y3
      clear hb3 hB3 hu3 D3 T3 Y3 X3
      refine hK.out _ _ trivial (fun hHeld => ?_)
      clear hK K hHeld
      try simp only [Act.put, List.setIfInBounds_toArray, List.set_cons_zero, List.set_cons_succ]
      refine wpAnyH_take (i := 6) (oi := { dst := some _, op := _, type := _, pos := _, after := _, guard := _ }) (v := ?_) rfl (by kernel_rfl) (by kernel_rfl) (by kernel_rfl) (fun _ _ _ h => h) (Or.inl ⟨by rfl, ?_⟩) trivial ?_
      rotate_left 1
      · intro w hSw; go_simp; try with_reducible rfl
      try simp only [Act.put, List.setIfInBounds_toArray, List.set_cons_zero, List.set_cons_succ]
      refine wpAnyH_take (i := 7) (oi := { dst := some _, op := _, type := _, pos := _, after := _, guard := _ }) (v := ?_) rfl (by kernel_rfl) (by kernel_rfl) (by kernel_rfl) (fun _ _ _ h => h) (Or.inl ⟨by rfl, ?_⟩) trivial ?_
      rotate_left 1
      · intro w hSw; go_simp; try with_reducible rfl
      try simp only [Act.put, List.setIfInBounds_toArray, List.set_cons_zero, List.set_cons_succ]
      refine wpAnyH_take (i := 8) (oi := { dst := some _, op := _, type := _, pos := _, after := _, guard := _ }) (v := ?_) rfl (by kernel_rfl) (by kernel_rfl) (by kernel_rfl) (fun _ _ _ h => h) (Or.inl ⟨by rfl, ?_⟩) trivial ?_
      rotate_left 1
      · intro w hSw; go_simp; try with_reducible rfl
      try simp only [Act.put, List.setIfInBounds_toArray, List.set_cons_zero, List.set_cons_succ]
      refine wpAnyH_ready (rs := [9]) (by kernel_rfl) (by simp) ?_
      refine AllReadyH.cons (o := { dst := none, op := _, type := _, pos := _, after := _, guard := _ }) rfl (fun K hK => ?_) AllReadyH.nil
      go_simp
      refine hK.out _ _ trivial (fun hHeld => ?_)
      clear hK K hHeld
      try simp only [Act.put, List.setIfInBounds_toArray, List.set_cons_zero, List.set_cons_succ]
      refine wpAnyH_done (by kernel_rfl) ?_ _
      go_wp2
      go_region
      all_goals
        go_wp2
        refine bodyPost_ret (v := .tuple #[.agg #[.slice U1 q.g.length p1, .slice U2 q.s.length p2, .slice U3 q.n.length p3, .int .i64 q.c, .slice U4 q.d.length p4], .agg #[.slice R1 r.s.length m1, .slice R2 r.b.length m2, .slice R3 r.c.length m3, .int .i64 r.h, .int .i64 r.n, .string r.o], .int .i64 0]) (by simp [results, Try.results59, go_sem, *]) rfl ⟨_, _, rfl, ?_, HB3.out _ (datC_below HD.out ?_) ?_, ?_⟩
        · refine hostSt_now (lo := w1.heap.size) ?_
          have hq := HST3.out
          repeat (first | with_reducible exact hq | ((with_reducible refine hostSt_store ?_ ?hh); case hh => omega) | with_reducible refine hostSt_drew ?_)
        · repeat (first | with_reducible exact B3.out | with_reducible refine Below.setCell ?_ (by simp <;> omega) _ | with_reducible refine Below.drew ?_)
        · repeat (first | with_reducible exact agree_refl _ _ | ((with_reducible refine agree_old ?_ ?hh _); case hh => (have := NP.out; simp <;> omega)) | with_reducible refine agree_drew ?_)
        · repeat (first | with_reducible exact B3.out | with_reducible refine Below.setCell ?_ (by simp <;> omega) _ | with_reducible refine Below.drew ?_)
    refine AllReadyH.cons (o := { dst := some _, op := _, type := _, pos := _, after := _, guard := _ }) rfl (fun K hK => ?_) AllReadyH.nil
    go_simp
    refine hK.out _ _ trivial (fun hHeld => ?_)
    clear hK K hHeld
    try simp only [Act.put, List.setIfInBounds_toArray, List.set_cons_zero, List.set_cons_succ]
    refine wpAnyH_ready (rs := [0, 2]) (by kernel_rfl) (by simp) ?_
    refine AllReadyH.cons (o := { dst := some _, op := _, type := _, pos := _, after := _, guard := _ }) rfl (fun K hK => ?_) ?_
    · go_simp
      refine hK.out _ _ trivial (fun hHeld => ?_)
      clear hK K hHeld
      try simp only [Act.put, List.setIfInBounds_toArray, List.set_cons_zero, List.set_cons_succ]
      refine wpAnyH_ready (rs := [2]) (by kernel_rfl) (by simp) ?_
      refine AllReadyH.cons (o := { dst := some _, op := _, type := _, pos := _, after := _, guard := _ }) rfl (fun K hK => ?_) AllReadyH.nil
      go_simp
      refine (TKS.out _).mono ?_
      rintro e w5 ⟨rfl, hb5⟩
      have K5 : Hid (Below wa.heap.size wa w5) := Lib.hid (below_step (by repeat (first | with_reducible exact Below.refl _ _ | with_reducible refine below_alloc ?_ _ | with_reducible refine Below.drew ?_)) hb5)
      have zw := K5.out.size
      have LI := Lib.hid (ints_below (w := World.drew _) (show Ints (World.drew (wa.alloc (.cells #[.int .i64 v] 3))) (.slice (some ⟨wa.heap.size, 0, none⟩) 1 1) [v] from ints_oneAt wa v rfl) hb5)
      have D5 := whole_b K5.out KD.out
      obtain ⟨e0, e1, e2, e3, e4, e5⟩ := six_cells D5
      have be : w.heap.size + 1 < w5.heap.size := by omega
      clear hb5 D5
      refine hK.out _ _ trivial (fun hHeld => ?_)
      clear hK K hHeld
      try simp only [Act.put, List.setIfInBounds_toArray, List.set_cons_zero, List.set_cons_succ]
      refine wpAnyH_ready (rs := [5]) (by kernel_rfl) (by simp) ?_
      refine AllReadyH.cons (o := { dst := some _, op := _, type := _, pos := _, after := _, guard := _ }) rfl (fun K hK => ?_) AllReadyH.nil
      go_simp
      refine (PUT.out _ _ _ LI.out (datC_below HD.out (below_step KB.out K5.out))).mono ?_
      rintro e w3 ⟨ux, rfl, hb3, hB3⟩
      have K3 : Hid (Below wa.heap.size wa w3) := Lib.hid (below_step K5.out hb3)
      have NP : Hid (wa.heap.size ≤ w5.heap.size) := Lib.hid (by omega)
      have B3 : Hid (Below w.heap.size w w3) := Lib.hid (below_step KB.out K3.out)
      have HST3 := Lib.hid (hostSt_below KH.out K3.out)
      have D3 := whole_b K3.out KD.out
      have T3 := whole_b K3.out KT.out
      have Y3 := whole_b K3.out KY.out
      have X3 := whole_b K3.out KX.out
      have z3 := whole_lt X3
      have hu3 := built_now hB3 (datC_below HD.out B3.out)
      simp only at hu3
      obtain ⟨R1, m1, R2, m2, R3, m3, rfl, _⟩ := datC_form hu3
      have HB3 := Lib.hid hB3
      obtain ⟨d0, d1, d2, d3, d4, d5⟩ := six_cells D3
      obtain ⟨r0, r1, r2, r3, r4⟩ := five_cells T3
      obtain ⟨y0, y1, y2, y3, y4, y5⟩ := six_cells Y3
      obtain ⟨x0_, x1_, x2_, x3_, x4_⟩ := five_cells X3
      have fd := whole_free D3
      have fr := whole_free T3
      have fy := whole_free Y3
      clear hb3 hB3 hu3 D3 T3 Y3 X3
      refine hK.out _ _ trivial (fun hHeld => ?_)
      clear hK K hHeld
      try simp only [Act.put, List.setIfInBounds_toArray, List.set_cons_zero, List.set_cons_succ]
      refine wpAnyH_take (i := 6) (oi := { dst := some _, op := _, type := _, pos := _, after := _, guard := _ }) (v := ?_) rfl (by kernel_rfl) (by kernel_rfl) (by kernel_rfl) (fun _ _ _ h => h) (Or.inl ⟨by rfl, ?_⟩) trivial ?_
      rotate_left 1
      · intro w hSw; go_simp; try with_reducible rfl
      try simp only [Act.put, List.setIfInBounds_toArray, List.set_cons_zero, List.set_cons_succ]
      refine wpAnyH_take (i := 7) (oi := { dst := some _, op := _, type := _, pos := _, after := _, guard := _ }) (v := ?_) rfl (by kernel_rfl) (by kernel_rfl) (by kernel_rfl) (fun _ _ _ h => h) (Or.inl ⟨by rfl, ?_⟩) trivial ?_
      rotate_left 1
      · intro w hSw; go_simp; try with_reducible rfl
      try simp only [Act.put, List.setIfInBounds_toArray, List.set_cons_zero, List.set_cons_succ]
      refine wpAnyH_take (i := 8) (oi := { dst := some _, op := _, type := _, pos := _, after := _, guard := _ }) (v := ?_) rfl (by kernel_rfl) (by kernel_rfl) (by kernel_rfl) (fun _ _ _ h => h) (Or.inl ⟨by rfl, ?_⟩) trivial ?_
      rotate_left 1
      · intro w hSw; go_simp; try with_reducible rfl
      try simp only [Act.put, List.setIfInBounds_toArray, List.set_cons_zero, List.set_cons_succ]
      refine wpAnyH_ready (rs := [9]) (by kernel_rfl) (by simp) ?_
      refine AllReadyH.cons (o := { dst := none, op := _, type := _, pos := _, after := _, guard := _ }) rfl (fun K hK => ?_) AllReadyH.nil
      go_simp
      refine hK.out _ _ trivial (fun hHeld => ?_)
      clear hK K hHeld
      try simp only [Act.put, List.setIfInBounds_toArray, List.set_cons_zero, List.set_cons_succ]
      refine wpAnyH_done (by kernel_rfl) ?_ _
      go_wp2
      go_region
      all_goals
        go_wp2
        refine bodyPost_ret (v := .tuple #[.agg #[.slice U1 q.g.length p1, .slice U2 q.s.length p2, .slice U3 q.n.length p3, .int .i64 q.c, .slice U4 q.d.length p4], .agg #[.slice R1 r.s.length m1, .slice R2 r.b.length m2, .slice R3 r.c.length m3, .int .i64 r.h, .int .i64 r.n, .string r.o], .int .i64 0]) (by simp [results, Try.results59, go_sem, *]) rfl ⟨_, _, rfl, ?_, HB3.out _ (datC_below HD.out ?_) ?_, ?_⟩
        · refine hostSt_now (lo := w1.heap.size) ?_
          have hq := HST3.out
          repeat (first | with_reducible exact hq | ((with_reducible refine hostSt_store ?_ ?hh); case hh => omega) | with_reducible refine hostSt_drew ?_)
        · repeat (first | with_reducible exact B3.out | with_reducible refine Below.setCell ?_ (by simp <;> omega) _ | with_reducible refine Below.drew ?_)
        · repeat (first | with_reducible exact agree_refl _ _ | ((with_reducible refine agree_old ?_ ?hh _); case hh => (have := NP.out; simp <;> omega)) | with_reducible refine agree_drew ?_)
        · repeat (first | with_reducible exact B3.out | with_reducible refine Below.setCell ?_ (by simp <;> omega) _ | with_reducible refine Below.drew ?_)
    refine AllReadyH.cons (o := { dst := some _, op := _, type := _, pos := _, after := _, guard := _ }) rfl (fun K hK => ?_) AllReadyH.nil
    go_simp
    refine (TKS.out _).mono ?_
    rintro e w5 ⟨rfl, hb5⟩
    have K5 : Hid (Below wa.heap.size wa w5) := Lib.hid (below_step (by repeat (first | with_reducible exact Below.refl _ _ | with_reducible refine below_alloc ?_ _ | with_reducible refine Below.drew ?_)) hb5)
    have zw := K5.out.size
    have LI := Lib.hid (ints_below (w := World.drew _) (show Ints (World.drew (wa.alloc (.cells #[.int .i64 v] 3))) (.slice (some ⟨wa.heap.size, 0, none⟩) 1 1) [v] from ints_oneAt wa v rfl) hb5)
    have D5 := whole_b K5.out KD.out
    obtain ⟨e0, e1, e2, e3, e4, e5⟩ := six_cells D5
    have be : w.heap.size + 1 < w5.heap.size := by omega
    clear hb5 D5
    refine hK.out _ _ trivial (fun hHeld => ?_)
    clear hK K hHeld
    try simp only [Act.put, List.setIfInBounds_toArray, List.set_cons_zero, List.set_cons_succ]
    refine wpAnyH_ready (rs := [0]) (by kernel_rfl) (by simp) ?_
    refine AllReadyH.cons (o := { dst := some _, op := _, type := _, pos := _, after := _, guard := _ }) rfl (fun K hK => ?_) AllReadyH.nil
    go_simp
    refine hK.out _ _ trivial (fun hHeld => ?_)
    clear hK K hHeld
    try simp only [Act.put, List.setIfInBounds_toArray, List.set_cons_zero, List.set_cons_succ]
    refine wpAnyH_ready (rs := [5]) (by kernel_rfl) (by simp) ?_
    refine AllReadyH.cons (o := { dst := some _, op := _, type := _, pos := _, after := _, guard := _ }) rfl (fun K hK => ?_) AllReadyH.nil
    go_simp
    refine (PUT.out _ _ _ LI.out (datC_below HD.out (below_step KB.out K5.out))).mono ?_
    rintro e w3 ⟨ux, rfl, hb3, hB3⟩
    have K3 : Hid (Below wa.heap.size wa w3) := Lib.hid (below_step K5.out hb3)
    have NP : Hid (wa.heap.size ≤ w5.heap.size) := Lib.hid (by omega)
    have B3 : Hid (Below w.heap.size w w3) := Lib.hid (below_step KB.out K3.out)
    have HST3 := Lib.hid (hostSt_below KH.out K3.out)
    have D3 := whole_b K3.out KD.out
    have T3 := whole_b K3.out KT.out
    have Y3 := whole_b K3.out KY.out
    have X3 := whole_b K3.out KX.out
    have z3 := whole_lt X3
    have hu3 := built_now hB3 (datC_below HD.out B3.out)
    simp only at hu3
    obtain ⟨R1, m1, R2, m2, R3, m3, rfl, _⟩ := datC_form hu3
    have HB3 := Lib.hid hB3
    obtain ⟨d0, d1, d2, d3, d4, d5⟩ := six_cells D3
    obtain ⟨r0, r1, r2, r3, r4⟩ := five_cells T3
    obtain ⟨y0, y1, y2, y3, y4, y5⟩ := six_cells Y3
    obtain ⟨x0_, x1_, x2_, x3_, x4_⟩ := five_cells X3
    have fd := whole_free D3
    have fr := whole_free T3
    have fy := whole_free Y3
    clear hb3 hB3 hu3 D3 T3 Y3 X3
    refine hK.out _ _ trivial (fun hHeld => ?_)
    clear hK K hHeld
    try simp only [Act.put, List.setIfInBounds_toArray, List.set_cons_zero, List.set_cons_succ]
    refine wpAnyH_take (i := 6) (oi := { dst := some _, op := _, type := _, pos := _, after := _, guard := _ }) (v := ?_) rfl (by kernel_rfl) (by kernel_rfl) (by kernel_rfl) (fun _ _ _ h => h) (Or.inl ⟨by rfl, ?_⟩) trivial ?_
    rotate_left 1
    · intro w hSw; go_simp; try with_reducible rfl
    try simp only [Act.put, List.setIfInBounds_toArray, List.set_cons_zero, List.set_cons_succ]
    refine wpAnyH_take (i := 7) (oi := { dst := some _, op := _, type := _, pos := _, after := _, guard := _ }) (v := ?_) rfl (by kernel_rfl) (by kernel_rfl) (by kernel_rfl) (fun _ _ _ h => h) (Or.inl ⟨by rfl, ?_⟩) trivial ?_
    rotate_left 1
    · intro w hSw; go_simp; try with_reducible rfl
    try simp only [Act.put, List.setIfInBounds_toArray, List.set_cons_zero, List.set_cons_succ]
    refine wpAnyH_take (i := 8) (oi := { dst := some _, op := _, type := _, pos := _, after := _, guard := _ }) (v := ?_) rfl (by kernel_rfl) (by kernel_rfl) (by kernel_rfl) (fun _ _ _ h => h) (Or.inl ⟨by rfl, ?_⟩) trivial ?_
    rotate_left 1
    · intro w hSw; go_simp; try with_reducible rfl
    try simp only [Act.put, List.setIfInBounds_toArray, List.set_cons_zero, List.set_cons_succ]
    refine wpAnyH_ready (rs := [9]) (by kernel_rfl) (by simp) ?_
    refine AllReadyH.cons (o := { dst := none, op := _, type := _, pos := _, after := _, guard := _ }) rfl (fun K hK => ?_) AllReadyH.nil
    go_simp
    refine hK.out _ _ trivial (fun hHeld => ?_)
    clear hK K hHeld
    try simp only [Act.put, List.setIfInBounds_toArray, List.set_cons_zero, List.set_cons_succ]
    refine wpAnyH_done (by kernel_rfl) ?_ _
    go_wp2
    go_region
    all_goals
      go_wp2
      refine bodyPost_ret (v := .tuple #[.agg #[.slice U1 q.g.length p1, .slice U2 q.s.length p2, .slice U3 q.n.length p3, .int .i64 q.c, .slice U4 q.d.length p4], .agg #[.slice R1 r.s.length m1, .slice R2 r.b.length m2, .slice R3 r.c.length m3, .int .i64 r.h, .int .i64 r.n, .string r.o], .int .i64 0]) (by simp [results, Try.results59, go_sem, *]) rfl ⟨_, _, rfl, ?_, HB3.out _ (datC_below HD.out ?_) ?_, ?_⟩
      · refine hostSt_now (lo := w1.heap.size) ?_
        have hq := HST3.out
        repeat (first | with_reducible exact hq | ((with_reducible refine hostSt_store ?_ ?hh); case hh => omega) | with_reducible refine hostSt_drew ?_)
      · repeat (first | with_reducible exact B3.out | with_reducible refine Below.setCell ?_ (by simp <;> omega) _ | with_reducible refine Below.drew ?_)
      · repeat (first | with_reducible exact agree_refl _ _ | ((with_reducible refine agree_old ?_ ?hh _); case hh => (have := NP.out; simp <;> omega)) | with_reducible refine agree_drew ?_)
      · repeat (first | with_reducible exact B3.out | with_reducible refine Below.setCell ?_ (by simp <;> omega) _ | with_reducible refine Below.drew ?_)
  · go_wp2_with (first
      | (go_at_call 109; refine (TKS.out _).mono ?_; rintro e w1 ⟨rfl, hb⟩
         have V1 := whole_b hb (whole_alloc (whole_alloc (whole_alloc (whole_new w _ _) _) _) _)
         have D1 := whole_b hb (whole_alloc (whole_alloc (whole_new1 w _ _ _) _) _)
         have T1 := whole_b hb (whole_alloc (whole_new2 w _ _ _ _) _)
         have Y1 := whole_b hb (whole_new3 w _ _ _ _ _)
         have B1 : Hid (Below w.heap.size w w1) := Lib.hid (below_step (below_alloc (below_alloc (below_alloc (below_alloc (Below.refl _ _) _) _) _) _) hb)
         have zy := whole_lt Y1
         obtain ⟨c0, c1, c2, c3, c4⟩ := five_cells V1
         obtain ⟨d0, d1, d2, d3, d4, d5⟩ := six_cells D1
         obtain ⟨r0, r1, r2, r3, r4⟩ := five_cells T1
         obtain ⟨y0, y1, y2, y3, y4, y5⟩ := six_cells Y1
         have fd := whole_free D1
         have fr := whole_free T1
         have fy := whole_free Y1
         have cb := cell_kept B1.out _ _ CB
         have VV1 := Lib.hid V1
         have DD1 := Lib.hid D1
         have TT1 := Lib.hid T1
         have YY1 := Lib.hid Y1
         clear hb V1 D1 T1 Y1)
      | (go_at_call 110; refine (HDO.out _ _ (hostIn_below HH.out B1.out)).mono ?_; rintro e w2 ⟨u2, rfl, hst, hb⟩
         clear c0 c1 c2 c3 c4 d0 d1 d2 d3 d4 d5 r0 r1 r2 r3 r4 y0 y1 y2 y3 y4 y5 fd fr fy cb
         have B2 : Hid (Below w.heap.size w w2) := Lib.hid (below_step B1.out hb)
         have V2 := whole_b hb VV1.out
         have D2 := whole_b hb DD1.out
         have T2 := whole_b hb TT1.out
         have Y2 := whole_b hb YY1.out
         have z2 := hb.size
         have b0 : w.heap.size < w2.heap.size := by omega
         have b1 : w.heap.size + 1 < w2.heap.size := by omega
         have b2 : w.heap.size + 1 + 1 < w2.heap.size := by omega
         have b3 : w.heap.size + 1 + 1 + 1 < w2.heap.size := by omega
         obtain ⟨U1, p1, U2, p2, U3, p3, U4, p4, rfl⟩ := hostIn_form (hostSt_now hst)
         have HST := Lib.hid hst
         obtain ⟨c0, c1, c2, c3, c4⟩ := five_cells V2
         obtain ⟨d0, d1, d2, d3, d4, d5⟩ := six_cells D2
         obtain ⟨r0, r1, r2, r3, r4⟩ := five_cells T2
         obtain ⟨y0, y1, y2, y3, y4, y5⟩ := six_cells Y2
         have fd := whole_free D2
         have fr := whole_free T2
         have fy := whole_free Y2
         have DD2 := Lib.hid D2
         have TT2 := Lib.hid T2
         have YY2 := Lib.hid Y2
         clear hb hst V2 D2 T2 Y2))
    have KD := Lib.hid (whole_alloc DD2.out (.cells #[.slice U1 q.g.length p1, .slice U2 q.s.length p2, .slice U3 q.n.length p3, .int .i64 q.c, .slice U4 q.d.length p4] 27))
    have KT := Lib.hid (whole_alloc TT2.out (.cells #[.slice U1 q.g.length p1, .slice U2 q.s.length p2, .slice U3 q.n.length p3, .int .i64 q.c, .slice U4 q.d.length p4] 27))
    have KY := Lib.hid (whole_alloc YY2.out (.cells #[.slice U1 q.g.length p1, .slice U2 q.s.length p2, .slice U3 q.n.length p3, .int .i64 q.c, .slice U4 q.d.length p4] 27))
    have KX := Lib.hid (whole_new w2 27 #[.slice U1 q.g.length p1, .slice U2 q.s.length p2, .slice U3 q.n.length p3, .int .i64 q.c, .slice U4 q.d.length p4])
    have KH := Lib.hid (hostSt_alloc HST.out (.cells #[.slice U1 q.g.length p1, .slice U2 q.s.length p2, .slice U3 q.n.length p3, .int .i64 q.c, .slice U4 q.d.length p4] 27))
    have KB := Lib.hid (below_alloc B2.out (.cells #[.slice U1 q.g.length p1, .slice U2 q.s.length p2, .slice U3 q.n.length p3, .int .i64 q.c, .slice U4 q.d.length p4] 27))
    generalize w2.alloc (.cells #[.slice U1 q.g.length p1, .slice U2 q.s.length p2, .slice U3 q.n.length p3, .int .i64 q.c, .slice U4 q.d.length p4] 27) = wa at *
    have zk := whole_lt KX.out
    clear d0 d1 d2 d3 d4 d5 c0 c1 c2 c3 c4 r0 r1 r2 r3 r4 y0 y1 y2 y3 y4 y5 fd fr fy
    obtain ⟨d0, d1, d2, d3, d4, d5⟩ := six_cells KD.out
    have bd : w.heap.size + 1 < wa.heap.size := by omega
    refine wp_region_held_drew (S := fun _ => True) (by kernel_rfl) trivial (fun hHeld => ?_)
    clear hHeld
    refine wpAnyH_take (i := 1) (oi := { dst := some _, op := _, type := _, pos := _, after := _, guard := _ }) (v := ?_) rfl (by kernel_rfl) (by kernel_rfl) (by kernel_rfl) (fun _ _ _ h => h) (Or.inl ⟨by rfl, ?_⟩) trivial ?_
    rotate_left 1
    · intro w hSw; go_simp; try with_reducible rfl
    try simp only [Act.put, List.setIfInBounds_toArray, List.set_cons_zero, List.set_cons_succ]
    refine wpAnyH_take (i := 3) (oi := { dst := some _, op := _, type := _, pos := _, after := _, guard := _ }) (v := ?_) rfl (by kernel_rfl) (by kernel_rfl) (by kernel_rfl) (fun _ _ _ h => h) (Or.inl ⟨by rfl, ?_⟩) trivial ?_
    rotate_left 1
    · intro w hSw; go_simp; try with_reducible rfl
    try simp only [Act.put, List.setIfInBounds_toArray, List.set_cons_zero, List.set_cons_succ]
    refine wpAnyH_ready (rs := [0, 2, 4]) (by kernel_rfl) (by simp) ?_
    refine AllReadyH.cons (o := { dst := some _, op := _, type := _, pos := _, after := _, guard := _ }) rfl (fun K hK => ?_) ?_
    · go_simp
      refine hK.out _ _ trivial (fun hHeld => ?_)
      clear hK K hHeld
      try simp only [Act.put, List.setIfInBounds_toArray, List.set_cons_zero, List.set_cons_succ]
      refine wpAnyH_ready (rs := [2, 4]) (by kernel_rfl) (by simp) ?_
      refine AllReadyH.cons (o := { dst := some _, op := _, type := _, pos := _, after := _, guard := _ }) rfl (fun K hK => ?_) ?_
      · go_simp
        refine (TKS.out _).mono ?_
        rintro e w5 ⟨rfl, hb5⟩
        have K5 : Hid (Below wa.heap.size wa w5) := Lib.hid (below_step (by repeat (first | with_reducible exact Below.refl _ _ | with_reducible refine below_alloc ?_ _ | with_reducible refine Below.drew ?_)) hb5)
        have zw := K5.out.size
        have D5 := whole_b K5.out KD.out
        obtain ⟨e0, e1, e2, e3, e4, e5⟩ := six_cells D5
        have be : w.heap.size + 1 < w5.heap.size := by omega
        clear hb5 D5
        refine hK.out _ _ trivial (fun hHeld => ?_)
        clear hK K hHeld
        try simp only [Act.put, List.setIfInBounds_toArray, List.set_cons_zero, List.set_cons_succ]
        refine wpAnyH_ready (rs := [4]) (by kernel_rfl) (by simp) ?_
        refine AllReadyH.cons (o := { dst := some _, op := _, type := _, pos := _, after := _, guard := _ }) rfl (fun K hK => ?_) AllReadyH.nil
        go_simp
        refine hK.out _ _ trivial (fun hHeld => ?_)
        clear hK K hHeld
        try simp only [Act.put, List.setIfInBounds_toArray, List.set_cons_zero, List.set_cons_succ]
        refine wpAnyH_ready (rs := [5]) (by kernel_rfl) (by simp) ?_
        refine AllReadyH.cons (o := { dst := some _, op := _, type := _, pos := _, after := _, guard := _ }) rfl (fun K hK => ?_) AllReadyH.nil
        go_simp
        refine (PUT.out _ _ _ (by exact ints_oneAt _ _ rfl) (datC_below HD.out (below_step KB.out (below_alloc K5.out _)))).mono ?_
        rintro e w3 ⟨ux, rfl, hb3, hB3⟩
        have K3 : Hid (Below wa.heap.size wa w3) := Lib.hid (below_step (below_alloc K5.out _) hb3)
        have NP : Hid (wa.heap.size ≤ w5.heap.size + 1) := Lib.hid (by omega)
        have B3 : Hid (Below w.heap.size w w3) := Lib.hid (below_step KB.out K3.out)
        have HST3 := Lib.hid (hostSt_below KH.out K3.out)
        have D3 := whole_b K3.out KD.out
        have T3 := whole_b K3.out KT.out
        have Y3 := whole_b K3.out KY.out
        have X3 := whole_b K3.out KX.out
        have z3 := whole_lt X3
        have hu3 := built_now hB3 (datC_below HD.out B3.out)
        simp only at hu3
        obtain ⟨R1, m1, R2, m2, R3, m3, rfl, _⟩ := datC_form hu3
        have HB3 := Lib.hid hB3
        obtain ⟨d0, d1, d2, d3, d4, d5⟩ := six_cells D3
        obtain ⟨r0, r1, r2, r3, r4⟩ := five_cells T3
        obtain ⟨y0, y1, y2, y3, y4, y5⟩ := six_cells Y3
        obtain ⟨x0_, x1_, x2_, x3_, x4_⟩ := five_cells X3
        have fd := whole_free D3
        have fr := whole_free T3
        have fy := whole_free Y3
        clear hb3 hB3 hu3 D3 T3 Y3 X3
        refine hK.out _ _ trivial (fun hHeld => ?_)
        clear hK K hHeld
        try simp only [Act.put, List.setIfInBounds_toArray, List.set_cons_zero, List.set_cons_succ]
        refine wpAnyH_take (i := 6) (oi := { dst := some _, op := _, type := _, pos := _, after := _, guard := _ }) (v := ?_) rfl (by kernel_rfl) (by kernel_rfl) (by kernel_rfl) (fun _ _ _ h => h) (Or.inl ⟨by rfl, ?_⟩) trivial ?_
        rotate_left 1
        · intro w hSw; go_simp; try with_reducible rfl
        try simp only [Act.put, List.setIfInBounds_toArray, List.set_cons_zero, List.set_cons_succ]
        refine wpAnyH_take (i := 7) (oi := { dst := some _, op := _, type := _, pos := _, after := _, guard := _ }) (v := ?_) rfl (by kernel_rfl) (by kernel_rfl) (by kernel_rfl) (fun _ _ _ h => h) (Or.inl ⟨by rfl, ?_⟩) trivial ?_
        rotate_left 1
        · intro w hSw; go_simp; try with_reducible rfl
        try simp only [Act.put, List.setIfInBounds_toArray, List.set_cons_zero, List.set_cons_succ]
        refine wpAnyH_take (i := 8) (oi := { dst := some _, op := _, type := _, pos := _, after := _, guard := _ }) (v := ?_) rfl (by kernel_rfl) (by kernel_rfl) (by kernel_rfl) (fun _ _ _ h => h) (Or.inl ⟨by rfl, ?_⟩) trivial ?_
        rotate_left 1
        · intro w hSw; go_simp; try with_reducible rfl
        try simp only [Act.put, List.setIfInBounds_toArray, List.set_cons_zero, List.set_cons_succ]
        refine wpAnyH_ready (rs := [9]) (by kernel_rfl) (by simp) ?_
        refine AllReadyH.cons (o := { dst := none, op := _, type := _, pos := _, after := _, guard := _ }) rfl (fun K hK => ?_) AllReadyH.nil
        go_simp
        refine hK.out _ _ trivial (fun hHeld => ?_)
        clear hK K hHeld
        try simp only [Act.put, List.setIfInBounds_toArray, List.set_cons_zero, List.set_cons_succ]
        refine wpAnyH_done (by kernel_rfl) ?_ _
        go_wp2
        go_region
        all_goals
          go_wp2
          refine bodyPost_ret (v := .tuple #[.agg #[.slice U1 q.g.length p1, .slice U2 q.s.length p2, .slice U3 q.n.length p3, .int .i64 q.c, .slice U4 q.d.length p4], .agg #[.slice R1 r.s.length m1, .slice R2 r.b.length m2, .slice R3 r.c.length m3, .int .i64 r.h, .int .i64 r.n, .string r.o], .int .i64 0]) (by simp [results, Try.results59, go_sem, *]) rfl ⟨_, _, rfl, ?_, HB3.out _ (datC_below HD.out ?_) ?_, ?_⟩
          · refine hostSt_now (lo := w1.heap.size) ?_
            have hq := HST3.out
            repeat (first | with_reducible exact hq | ((with_reducible refine hostSt_store ?_ ?hh); case hh => omega) | with_reducible refine hostSt_drew ?_)
          · repeat (first | with_reducible exact B3.out | with_reducible refine Below.setCell ?_ (by simp <;> omega) _ | with_reducible refine Below.drew ?_)
          · repeat (first | with_reducible exact agree_refl _ _ | ((with_reducible refine agree_old ?_ ?hh _); case hh => (have := NP.out; simp <;> omega)) | with_reducible refine agree_drew ?_)
          · repeat (first | with_reducible exact B3.out | with_reducible refine Below.setCell ?_ (by simp <;> omega) _ | with_reducible refine Below.drew ?_)
      refine AllReadyH.cons (o := { dst := some _, op := _, type := _, pos := _, after := _, guard := _ }) rfl (fun K hK => ?_) AllReadyH.nil
      go_simp
      refine hK.out _ _ trivial (fun hHeld => ?_)
      clear hK K hHeld
      try simp only [Act.put, List.setIfInBounds_toArray, List.set_cons_zero, List.set_cons_succ]
      refine wpAnyH_ready (rs := [2]) (by kernel_rfl) (by simp) ?_
      refine AllReadyH.cons (o := { dst := some _, op := _, type := _, pos := _, after := _, guard := _ }) rfl (fun K hK => ?_) AllReadyH.nil
      go_simp
      refine (TKS.out _).mono ?_
      rintro e w5 ⟨rfl, hb5⟩
      have K5 : Hid (Below wa.heap.size wa w5) := Lib.hid (below_step (by repeat (first | with_reducible exact Below.refl _ _ | with_reducible refine below_alloc ?_ _ | with_reducible refine Below.drew ?_)) hb5)
      have zw := K5.out.size
      have LI := Lib.hid (ints_below (w := World.drew _) (show Ints (World.drew (wa.alloc (.cells #[.int .i64 v] 3))) (.slice (some ⟨wa.heap.size, 0, none⟩) 1 1) [v] from ints_oneAt wa v rfl) hb5)
      have D5 := whole_b K5.out KD.out
      obtain ⟨e0, e1, e2, e3, e4, e5⟩ := six_cells D5
      have be : w.heap.size + 1 < w5.heap.size := by omega
      clear hb5 D5
      refine hK.out _ _ trivial (fun hHeld => ?_)
      clear hK K hHeld
      try simp only [Act.put, List.setIfInBounds_toArray, List.set_cons_zero, List.set_cons_succ]
      refine wpAnyH_ready (rs := [5]) (by kernel_rfl) (by simp) ?_
      refine AllReadyH.cons (o := { dst := some _, op := _, type := _, pos := _, after := _, guard := _ }) rfl (fun K hK => ?_) AllReadyH.nil
      go_simp
      refine (PUT.out _ _ _ LI.out (datC_below HD.out (below_step KB.out K5.out))).mono ?_
      rintro e w3 ⟨ux, rfl, hb3, hB3⟩
      have K3 : Hid (Below wa.heap.size wa w3) := Lib.hid (below_step K5.out hb3)
      have NP : Hid (wa.heap.size ≤ w5.heap.size) := Lib.hid (by omega)
      have B3 : Hid (Below w.heap.size w w3) := Lib.hid (below_step KB.out K3.out)
      have HST3 := Lib.hid (hostSt_below KH.out K3.out)
      have D3 := whole_b K3.out KD.out
      have T3 := whole_b K3.out KT.out
      have Y3 := whole_b K3.out KY.out
      have X3 := whole_b K3.out KX.out
      have z3 := whole_lt X3
      have hu3 := built_now hB3 (datC_below HD.out B3.out)
      simp only at hu3
      obtain ⟨R1, m1, R2, m2, R3, m3, rfl, _⟩ := datC_form hu3
      have HB3 := Lib.hid hB3
      obtain ⟨d0, d1, d2, d3, d4, d5⟩ := six_cells D3
      obtain ⟨r0, r1, r2, r3, r4⟩ := five_cells T3
      obtain ⟨y0, y1, y2, y3, y4, y5⟩ := six_cells Y3
      obtain ⟨x0_, x1_, x2_, x3_, x4_⟩ := five_cells X3
      have fd := whole_free D3
      have fr := whole_free T3
      have fy := whole_free Y3
      clear hb3 hB3 hu3 D3 T3 Y3 X3
      refine hK.out _ _ trivial (fun hHeld => ?_)
      clear hK K hHeld
      try simp only [Act.put, List.setIfInBounds_toArray, List.set_cons_zero, List.set_cons_succ]
      refine wpAnyH_take (i := 6) (oi := { dst := some _, op := _, type := _, pos := _, after := _, guard := _ }) (v := ?_) rfl (by kernel_rfl) (by kernel_rfl) (by kernel_rfl) (fun _ _ _ h => h) (Or.inl ⟨by rfl, ?_⟩) trivial ?_
      rotate_left 1
      · intro w hSw; go_simp; try with_reducible rfl
      try simp only [Act.put, List.setIfInBounds_toArray, List.set_cons_zero, List.set_cons_succ]
      refine wpAnyH_take (i := 7) (oi := { dst := some _, op := _, type := _, pos := _, after := _, guard := _ }) (v := ?_) rfl (by kernel_rfl) (by kernel_rfl) (by kernel_rfl) (fun _ _ _ h => h) (Or.inl ⟨by rfl, ?_⟩) trivial ?_
      rotate_left 1
      · intro w hSw; go_simp; try with_reducible rfl
      try simp only [Act.put, List.setIfInBounds_toArray, List.set_cons_zero, List.set_cons_succ]
      refine wpAnyH_take (i := 8) (oi := { dst := some _, op := _, type := _, pos := _, after := _, guard := _ }) (v := ?_) rfl (by kernel_rfl) (by kernel_rfl) (by kernel_rfl) (fun _ _ _ h => h) (Or.inl ⟨by rfl, ?_⟩) trivial ?_
      rotate_left 1
      · intro w hSw; go_simp; try with_reducible rfl
      try simp only [Act.put, List.setIfInBounds_toArray, List.set_cons_zero, List.set_cons_succ]
      refine wpAnyH_ready (rs := [9]) (by kernel_rfl) (by simp) ?_
      refine AllReadyH.cons (o := { dst := none, op := _, type := _, pos := _, after := _, guard := _ }) rfl (fun K hK => ?_) AllReadyH.nil
      go_simp
      refine hK.out _ _ trivial (fun hHeld => ?_)
      clear hK K hHeld
      try simp only [Act.put, List.setIfInBounds_toArray, List.set_cons_zero, List.set_cons_succ]
      refine wpAnyH_done (by kernel_rfl) ?_ _
      go_wp2
      go_region
      all_goals
        go_wp2
        refine bodyPost_ret (v := .tuple #[.agg #[.slice U1 q.g.length p1, .slice U2 q.s.length p2, .slice U3 q.n.length p3, .int .i64 q.c, .slice U4 q.d.length p4], .agg #[.slice R1 r.s.length m1, .slice R2 r.b.length m2, .slice R3 r.c.length m3, .int .i64 r.h, .int .i64 r.n, .string r.o], .int .i64 0]) (by simp [results, Try.results59, go_sem, *]) rfl ⟨_, _, rfl, ?_, HB3.out _ (datC_below HD.out ?_) ?_, ?_⟩
        · refine hostSt_now (lo := w1.heap.size) ?_
          have hq := HST3.out
          repeat (first | with_reducible exact hq | ((with_reducible refine hostSt_store ?_ ?hh); case hh => omega) | with_reducible refine hostSt_drew ?_)
        · repeat (first | with_reducible exact B3.out | with_reducible refine Below.setCell ?_ (by simp <;> omega) _ | with_reducible refine Below.drew ?_)
        · repeat (first | with_reducible exact agree_refl _ _ | ((with_reducible refine agree_old ?_ ?hh _); case hh => (have := NP.out; simp <;> omega)) | with_reducible refine agree_drew ?_)
        · repeat (first | with_reducible exact B3.out | with_reducible refine Below.setCell ?_ (by simp <;> omega) _ | with_reducible refine Below.drew ?_)
    refine AllReadyH.cons (o := { dst := some _, op := _, type := _, pos := _, after := _, guard := _ }) rfl (fun K hK => ?_) ?_
    · go_simp
      refine (TKS.out _).mono ?_
      rintro e w5 ⟨rfl, hb5⟩
      have K5 : Hid (Below wa.heap.size wa w5) := Lib.hid (below_step (by repeat (first | with_reducible exact Below.refl _ _ | with_reducible refine below_alloc ?_ _ | with_reducible refine Below.drew ?_)) hb5)
      have zw := K5.out.size
      have D5 := whole_b K5.out KD.out
      obtain ⟨e0, e1, e2, e3, e4, e5⟩ := six_cells D5
      have be : w.heap.size + 1 < w5.heap.size := by omega
      clear hb5 D5
      refine hK.out _ _ trivial (fun hHeld => ?_)
      clear hK K hHeld
      try simp only [Act.put, List.setIfInBounds_toArray, List.set_cons_zero, List.set_cons_succ]
      refine wpAnyH_ready (rs := [0, 4]) (by kernel_rfl) (by simp) ?_
      refine AllReadyH.cons (o := { dst := some _, op := _, type := _, pos := _, after := _, guard := _ }) rfl (fun K hK => ?_) ?_
      · go_simp
        refine hK.out _ _ trivial (fun hHeld => ?_)
        clear hK K hHeld
        try simp only [Act.put, List.setIfInBounds_toArray, List.set_cons_zero, List.set_cons_succ]
        refine wpAnyH_ready (rs := [4]) (by kernel_rfl) (by simp) ?_
        refine AllReadyH.cons (o := { dst := some _, op := _, type := _, pos := _, after := _, guard := _ }) rfl (fun K hK => ?_) AllReadyH.nil
        go_simp
        refine hK.out _ _ trivial (fun hHeld => ?_)
        clear hK K hHeld
        try simp only [Act.put, List.setIfInBounds_toArray, List.set_cons_zero, List.set_cons_succ]
        refine wpAnyH_ready (rs := [5]) (by kernel_rfl) (by simp) ?_
        refine AllReadyH.cons (o := { dst := some _, op := _, type := _, pos := _, after := _, guard := _ }) rfl (fun K hK => ?_) AllReadyH.nil
        go_simp
        refine (PUT.out _ _ _ (by exact ints_oneAt _ _ rfl) (datC_below HD.out (below_step KB.out (below_alloc K5.out _)))).mono ?_
        rintro e w3 ⟨ux, rfl, hb3, hB3⟩
        have K3 : Hid (Below wa.heap.size wa w3) := Lib.hid (below_step (below_alloc K5.out _) hb3)
        have NP : Hid (wa.heap.size ≤ w5.heap.size + 1) := Lib.hid (by omega)
        have B3 : Hid (Below w.heap.size w w3) := Lib.hid (below_step KB.out K3.out)
        have HST3 := Lib.hid (hostSt_below KH.out K3.out)
        have D3 := whole_b K3.out KD.out
        have T3 := whole_b K3.out KT.out
        have Y3 := whole_b K3.out KY.out
        have X3 := whole_b K3.out KX.out
        have z3 := whole_lt X3
        have hu3 := built_now hB3 (datC_below HD.out B3.out)
        simp only at hu3
        obtain ⟨R1, m1, R2, m2, R3, m3, rfl, _⟩ := datC_form hu3
        have HB3 := Lib.hid hB3
        obtain ⟨d0, d1, d2, d3, d4, d5⟩ := six_cells D3
        obtain ⟨r0, r1, r2, r3, r4⟩ := five_cells T3
        obtain ⟨y0, y1, y2, y3, y4, y5⟩ := six_cells Y3
        obtain ⟨x0_, x1_, x2_, x3_, x4_⟩ := five_cells X3
        have fd := whole_free D3
        have fr := whole_free T3
        have fy := whole_free Y3
        clear hb3 hB3 hu3 D3 T3 Y3 X3
        refine hK.out _ _ trivial (fun hHeld => ?_)
        clear hK K hHeld
        try simp only [Act.put, List.setIfInBounds_toArray, List.set_cons_zero, List.set_cons_succ]
        refine wpAnyH_take (i := 6) (oi := { dst := some _, op := _, type := _, pos := _, after := _, guard := _ }) (v := ?_) rfl (by kernel_rfl) (by kernel_rfl) (by kernel_rfl) (fun _ _ _ h => h) (Or.inl ⟨by rfl, ?_⟩) trivial ?_
        rotate_left 1
        · intro w hSw; go_simp; try with_reducible rfl
        try simp only [Act.put, List.setIfInBounds_toArray, List.set_cons_zero, List.set_cons_succ]
        refine wpAnyH_take (i := 7) (oi := { dst := some _, op := _, type := _, pos := _, after := _, guard := _ }) (v := ?_) rfl (by kernel_rfl) (by kernel_rfl) (by kernel_rfl) (fun _ _ _ h => h) (Or.inl ⟨by rfl, ?_⟩) trivial ?_
        rotate_left 1
        · intro w hSw; go_simp; try with_reducible rfl
        try simp only [Act.put, List.setIfInBounds_toArray, List.set_cons_zero, List.set_cons_succ]
        refine wpAnyH_take (i := 8) (oi := { dst := some _, op := _, type := _, pos := _, after := _, guard := _ }) (v := ?_) rfl (by kernel_rfl) (by kernel_rfl) (by kernel_rfl) (fun _ _ _ h => h) (Or.inl ⟨by rfl, ?_⟩) trivial ?_
        rotate_left 1
        · intro w hSw; go_simp; try with_reducible rfl
        try simp only [Act.put, List.setIfInBounds_toArray, List.set_cons_zero, List.set_cons_succ]
        refine wpAnyH_ready (rs := [9]) (by kernel_rfl) (by simp) ?_
        refine AllReadyH.cons (o := { dst := none, op := _, type := _, pos := _, after := _, guard := _ }) rfl (fun K hK => ?_) AllReadyH.nil
        go_simp
        refine hK.out _ _ trivial (fun hHeld => ?_)
        clear hK K hHeld
        try simp only [Act.put, List.setIfInBounds_toArray, List.set_cons_zero, List.set_cons_succ]
        refine wpAnyH_done (by kernel_rfl) ?_ _
        go_wp2
        go_region
        all_goals
          go_wp2
          refine bodyPost_ret (v := .tuple #[.agg #[.slice U1 q.g.length p1, .slice U2 q.s.length p2, .slice U3 q.n.length p3, .int .i64 q.c, .slice U4 q.d.length p4], .agg #[.slice R1 r.s.length m1, .slice R2 r.b.length m2, .slice R3 r.c.length m3, .int .i64 r.h, .int .i64 r.n, .string r.o], .int .i64 0]) (by simp [results, Try.results59, go_sem, *]) rfl ⟨_, _, rfl, ?_, HB3.out _ (datC_below HD.out ?_) ?_, ?_⟩
          · refine hostSt_now (lo := w1.heap.size) ?_
            have hq := HST3.out
            repeat (first | with_reducible exact hq | ((with_reducible refine hostSt_store ?_ ?hh); case hh => omega) | with_reducible refine hostSt_drew ?_)
          · repeat (first | with_reducible exact B3.out | with_reducible refine Below.setCell ?_ (by simp <;> omega) _ | with_reducible refine Below.drew ?_)
          · repeat (first | with_reducible exact agree_refl _ _ | ((with_reducible refine agree_old ?_ ?hh _); case hh => (have := NP.out; simp <;> omega)) | with_reducible refine agree_drew ?_)
          · repeat (first | with_reducible exact B3.out | with_reducible refine Below.setCell ?_ (by simp <;> omega) _ | with_reducible refine Below.drew ?_)
      refine AllReadyH.cons (o := { dst := some _, op := _, type := _, pos := _, after := _, guard := _ }) rfl (fun K hK => ?_) AllReadyH.nil
      go_simp
      refine hK.out _ _ trivial (fun hHeld => ?_)
      clear hK K hHeld
      try simp only [Act.put, List.setIfInBounds_toArray, List.set_cons_zero, List.set_cons_succ]
      refine wpAnyH_ready (rs := [0]) (by kernel_rfl) (by simp) ?_
      refine AllReadyH.cons (o := { dst := some _, op := _, type := _, pos := _, after := _, guard := _ }) rfl (fun K hK => ?_) AllReadyH.nil
      go_simp
      refine hK.out _ _ trivial (fun hHeld => ?_)
      clear hK K hHeld
      try simp only [Act.put, List.setIfInBounds_toArray, List.set_cons_zero, List.set_cons_succ]
      refine wpAnyH_ready (rs := [5]) (by kernel_rfl) (by simp) ?_
      refine AllReadyH.cons (o := { dst := some _, op := _, type := _, pos := _, after := _, guard := _ }) rfl (fun K hK => ?_) AllReadyH.nil
      go_simp
      refine (PUT.out _ _ _ (by exact ints_oneAt _ _ rfl) (datC_below HD.out (below_step KB.out (below_alloc K5.out _)))).mono ?_
      rintro e w3 ⟨ux, rfl, hb3, hB3⟩
      have K3 : Hid (Below wa.heap.size wa w3) := Lib.hid (below_step (below_alloc K5.out _) hb3)
      have NP : Hid (wa.heap.size ≤ w5.heap.size + 1) := Lib.hid (by omega)
      have B3 : Hid (Below w.heap.size w w3) := Lib.hid (below_step KB.out K3.out)
      have HST3 := Lib.hid (hostSt_below KH.out K3.out)
      have D3 := whole_b K3.out KD.out
      have T3 := whole_b K3.out KT.out
      have Y3 := whole_b K3.out KY.out
      have X3 := whole_b K3.out KX.out
      have z3 := whole_lt X3
      have hu3 := built_now hB3 (datC_below HD.out B3.out)
      simp only at hu3
      obtain ⟨R1, m1, R2, m2, R3, m3, rfl, _⟩ := datC_form hu3
      have HB3 := Lib.hid hB3
      obtain ⟨d0, d1, d2, d3, d4, d5⟩ := six_cells D3
      obtain ⟨r0, r1, r2, r3, r4⟩ := five_cells T3
      obtain ⟨y0, y1, y2, y3, y4, y5⟩ := six_cells Y3
      obtain ⟨x0_, x1_, x2_, x3_, x4_⟩ := five_cells X3
      have fd := whole_free D3
      have fr := whole_free T3
      have fy := whole_free Y3
      clear hb3 hB3 hu3 D3 T3 Y3 X3
      refine hK.out _ _ trivial (fun hHeld => ?_)
      clear hK K hHeld
      try simp only [Act.put, List.setIfInBounds_toArray, List.set_cons_zero, List.set_cons_succ]
      refine wpAnyH_take (i := 6) (oi := { dst := some _, op := _, type := _, pos := _, after := _, guard := _ }) (v := ?_) rfl (by kernel_rfl) (by kernel_rfl) (by kernel_rfl) (fun _ _ _ h => h) (Or.inl ⟨by rfl, ?_⟩) trivial ?_
      rotate_left 1
      · intro w hSw; go_simp; try with_reducible rfl
      try simp only [Act.put, List.setIfInBounds_toArray, List.set_cons_zero, List.set_cons_succ]
      refine wpAnyH_take (i := 7) (oi := { dst := some _, op := _, type := _, pos := _, after := _, guard := _ }) (v := ?_) rfl (by kernel_rfl) (by kernel_rfl) (by kernel_rfl) (fun _ _ _ h => h) (Or.inl ⟨by rfl, ?_⟩) trivial ?_
      rotate_left 1
      · intro w hSw; go_simp; try with_reducible rfl
      try simp only [Act.put, List.setIfInBounds_toArray, List.set_cons_zero, List.set_cons_succ]
      refine wpAnyH_take (i := 8) (oi := { dst := some _, op := _, type := _, pos := _, after := _, guard := _ }) (v := ?_) rfl (by kernel_rfl) (by kernel_rfl) (by kernel_rfl) (fun _ _ _ h => h) (Or.inl ⟨by rfl, ?_⟩) trivial ?_
      rotate_left 1
      · intro w hSw; go_simp; try with_reducible rfl
      try simp only [Act.put, List.setIfInBounds_toArray, List.set_cons_zero, List.set_cons_succ]
      refine wpAnyH_ready (rs := [9]) (by kernel_rfl) (by simp) ?_
      refine AllReadyH.cons (o := { dst := none, op := _, type := _, pos := _, after := _, guard := _ }) rfl (fun K hK => ?_) AllReadyH.nil
      go_simp
      refine hK.out _ _ trivial (fun hHeld => ?_)
      clear hK K hHeld
      try simp only [Act.put, List.setIfInBounds_toArray, List.set_cons_zero, List.set_cons_succ]
      refine wpAnyH_done (by kernel_rfl) ?_ _
      go_wp2
      go_region
      all_goals
        go_wp2
        refine bodyPost_ret (v := .tuple #[.agg #[.slice U1 q.g.length p1, .slice U2 q.s.length p2, .slice U3 q.n.length p3, .int .i64 q.c, .slice U4 q.d.length p4], .agg #[.slice R1 r.s.length m1, .slice R2 r.b.length m2, .slice R3 r.c.length m3, .int .i64 r.h, .int .i64 r.n, .string r.o], .int .i64 0]) (by simp [results, Try.results59, go_sem, *]) rfl ⟨_, _, rfl, ?_, HB3.out _ (datC_below HD.out ?_) ?_, ?_⟩
        · refine hostSt_now (lo := w1.heap.size) ?_
          have hq := HST3.out
          repeat (first | with_reducible exact hq | ((with_reducible refine hostSt_store ?_ ?hh); case hh => omega) | with_reducible refine hostSt_drew ?_)
        · repeat (first | with_reducible exact B3.out | with_reducible refine Below.setCell ?_ (by simp <;> omega) _ | with_reducible refine Below.drew ?_)
        · repeat (first | with_reducible exact agree_refl _ _ | ((with_reducible refine agree_old ?_ ?hh _); case hh => (have := NP.out; simp <;> omega)) | with_reducible refine agree_drew ?_)
        · repeat (first | with_reducible exact B3.out | with_reducible refine Below.setCell ?_ (by simp <;> omega) _ | with_reducible refine Below.drew ?_)
    refine AllReadyH.cons (o := { dst := some _, op := _, type := _, pos := _, after := _, guard := _ }) rfl (fun K hK => ?_) AllReadyH.nil
    go_simp
    refine hK.out _ _ trivial (fun hHeld => ?_)
    clear hK K hHeld
    try simp only [Act.put, List.setIfInBounds_toArray, List.set_cons_zero, List.set_cons_succ]
    refine wpAnyH_ready (rs := [0, 2]) (by kernel_rfl) (by simp) ?_
    refine AllReadyH.cons (o := { dst := some _, op := _, type := _, pos := _, after := _, guard := _ }) rfl (fun K hK => ?_) ?_
    · go_simp
      refine hK.out _ _ trivial (fun hHeld => ?_)
      clear hK K hHeld
      try simp only [Act.put, List.setIfInBounds_toArray, List.set_cons_zero, List.set_cons_succ]
      refine wpAnyH_ready (rs := [2]) (by kernel_rfl) (by simp) ?_
      refine AllReadyH.cons (o := { dst := some _, op := _, type := _, pos := _, after := _, guard := _ }) rfl (fun K hK => ?_) AllReadyH.nil
      go_simp
      refine (TKS.out _).mono ?_
      rintro e w5 ⟨rfl, hb5⟩
      have K5 : Hid (Below wa.heap.size wa w5) := Lib.hid (below_step (by repeat (first | with_reducible exact Below.refl _ _ | with_reducible refine below_alloc ?_ _ | with_reducible refine Below.drew ?_)) hb5)
      have zw := K5.out.size
      have LI := Lib.hid (ints_below (w := World.drew _) (show Ints (World.drew (wa.alloc (.cells #[.int .i64 v] 3))) (.slice (some ⟨wa.heap.size, 0, none⟩) 1 1) [v] from ints_oneAt wa v rfl) hb5)
      have D5 := whole_b K5.out KD.out
      obtain ⟨e0, e1, e2, e3, e4, e5⟩ := six_cells D5
      have be : w.heap.size + 1 < w5.heap.size := by omega
      clear hb5 D5
      refine hK.out _ _ trivial (fun hHeld => ?_)
      clear hK K hHeld
      try simp only [Act.put, List.setIfInBounds_toArray, List.set_cons_zero, List.set_cons_succ]
      refine wpAnyH_ready (rs := [5]) (by kernel_rfl) (by simp) ?_
      refine AllReadyH.cons (o := { dst := some _, op := _, type := _, pos := _, after := _, guard := _ }) rfl (fun K hK => ?_) AllReadyH.nil
      go_simp
      refine (PUT.out _ _ _ LI.out (datC_below HD.out (below_step KB.out K5.out))).mono ?_
      rintro e w3 ⟨ux, rfl, hb3, hB3⟩
      have K3 : Hid (Below wa.heap.size wa w3) := Lib.hid (below_step K5.out hb3)
      have NP : Hid (wa.heap.size ≤ w5.heap.size) := Lib.hid (by omega)
      have B3 : Hid (Below w.heap.size w w3) := Lib.hid (below_step KB.out K3.out)
      have HST3 := Lib.hid (hostSt_below KH.out K3.out)
      have D3 := whole_b K3.out KD.out
      have T3 := whole_b K3.out KT.out
      have Y3 := whole_b K3.out KY.out
      have X3 := whole_b K3.out KX.out
      have z3 := whole_lt X3
      have hu3 := built_now hB3 (datC_below HD.out B3.out)
      simp only at hu3
      obtain ⟨R1, m1, R2, m2, R3, m3, rfl, _⟩ := datC_form hu3
      have HB3 := Lib.hid hB3
      obtain ⟨d0, d1, d2, d3, d4, d5⟩ := six_cells D3
      obtain ⟨r0, r1, r2, r3, r4⟩ := five_cells T3
      obtain ⟨y0, y1, y2, y3, y4, y5⟩ := six_cells Y3
      obtain ⟨x0_, x1_, x2_, x3_, x4_⟩ := five_cells X3
      have fd := whole_free D3
      have fr := whole_free T3
      have fy := whole_free Y3
      clear hb3 hB3 hu3 D3 T3 Y3 X3
      refine hK.out _ _ trivial (fun hHeld => ?_)
      clear hK K hHeld
      try simp only [Act.put, List.setIfInBounds_toArray, List.set_cons_zero, List.set_cons_succ]
      refine wpAnyH_take (i := 6) (oi := { dst := some _, op := _, type := _, pos := _, after := _, guard := _ }) (v := ?_) rfl (by kernel_rfl) (by kernel_rfl) (by kernel_rfl) (fun _ _ _ h => h) (Or.inl ⟨by rfl, ?_⟩) trivial ?_
      rotate_left 1
      · intro w hSw; go_simp; try with_reducible rfl
      try simp only [Act.put, List.setIfInBounds_toArray, List.set_cons_zero, List.set_cons_succ]
      refine wpAnyH_take (i := 7) (oi := { dst := some _, op := _, type := _, pos := _, after := _, guard := _ }) (v := ?_) rfl (by kernel_rfl) (by kernel_rfl) (by kernel_rfl) (fun _ _ _ h => h) (Or.inl ⟨by rfl, ?_⟩) trivial ?_
      rotate_left 1
      · intro w hSw; go_simp; try with_reducible rfl
      try simp only [Act.put, List.setIfInBounds_toArray, List.set_cons_zero, List.set_cons_succ]
      refine wpAnyH_take (i := 8) (oi := { dst := some _, op := _, type := _, pos := _, after := _, guard := _ }) (v := ?_) rfl (by kernel_rfl) (by kernel_rfl) (by kernel_rfl) (fun _ _ _ h => h) (Or.inl ⟨by rfl, ?_⟩) trivial ?_
      rotate_left 1
      · intro w hSw; go_simp; try with_reducible rfl
      try simp only [Act.put, List.setIfInBounds_toArray, List.set_cons_zero, List.set_cons_succ]
      refine wpAnyH_ready (rs := [9]) (by kernel_rfl) (by simp) ?_
      refine AllReadyH.cons (o := { dst := none, op := _, type := _, pos := _, after := _, guard := _ }) rfl (fun K hK => ?_) AllReadyH.nil
      go_simp
      refine hK.out _ _ trivial (fun hHeld => ?_)
      clear hK K hHeld
      try simp only [Act.put, List.setIfInBounds_toArray, List.set_cons_zero, List.set_cons_succ]
      refine wpAnyH_done (by kernel_rfl) ?_ _
      go_wp2
      go_region
      all_goals
        go_wp2
        refine bodyPost_ret (v := .tuple #[.agg #[.slice U1 q.g.length p1, .slice U2 q.s.length p2, .slice U3 q.n.length p3, .int .i64 q.c, .slice U4 q.d.length p4], .agg #[.slice R1 r.s.length m1, .slice R2 r.b.length m2, .slice R3 r.c.length m3, .int .i64 r.h, .int .i64 r.n, .string r.o], .int .i64 0]) (by simp [results, Try.results59, go_sem, *]) rfl ⟨_, _, rfl, ?_, HB3.out _ (datC_below HD.out ?_) ?_, ?_⟩
        · refine hostSt_now (lo := w1.heap.size) ?_
          have hq := HST3.out
          repeat (first | with_reducible exact hq | ((with_reducible refine hostSt_store ?_ ?hh); case hh => omega) | with_reducible refine hostSt_drew ?_)
        · repeat (first | with_reducible exact B3.out | with_reducible refine Below.setCell ?_ (by simp <;> omega) _ | with_reducible refine Below.drew ?_)
        · repeat (first | with_reducible exact agree_refl _ _ | ((with_reducible refine agree_old ?_ ?hh _); case hh => (have := NP.out; simp <;> omega)) | with_reducible refine agree_drew ?_)
        · repeat (first | with_reducible exact B3.out | with_reducible refine Below.setCell ?_ (by simp <;> omega) _ | with_reducible refine Below.drew ?_)
    refine AllReadyH.cons (o := { dst := some _, op := _, type := _, pos := _, after := _, guard := _ }) rfl (fun K hK => ?_) AllReadyH.nil
    go_simp
    refine (TKS.out _).mono ?_
    rintro e w5 ⟨rfl, hb5⟩
    have K5 : Hid (Below wa.heap.size wa w5) := Lib.hid (below_step (by repeat (first | with_reducible exact Below.refl _ _ | with_reducible refine below_alloc ?_ _ | with_reducible refine Below.drew ?_)) hb5)
    have zw := K5.out.size
    have LI := Lib.hid (ints_below (w := World.drew _) (show Ints (World.drew (wa.alloc (.cells #[.int .i64 v] 3))) (.slice (some ⟨wa.heap.size, 0, none⟩) 1 1) [v] from ints_oneAt wa v rfl) hb5)
    have D5 := whole_b K5.out KD.out
    obtain ⟨e0, e1, e2, e3, e4, e5⟩ := six_cells D5
    have be : w.heap.size + 1 < w5.heap.size := by omega
    clear hb5 D5
    refine hK.out _ _ trivial (fun hHeld => ?_)
    clear hK K hHeld
    try simp only [Act.put, List.setIfInBounds_toArray, List.set_cons_zero, List.set_cons_succ]
    refine wpAnyH_ready (rs := [0]) (by kernel_rfl) (by simp) ?_
    refine AllReadyH.cons (o := { dst := some _, op := _, type := _, pos := _, after := _, guard := _ }) rfl (fun K hK => ?_) AllReadyH.nil
    go_simp
    refine hK.out _ _ trivial (fun hHeld => ?_)
    clear hK K hHeld
    try simp only [Act.put, List.setIfInBounds_toArray, List.set_cons_zero, List.set_cons_succ]
    refine wpAnyH_ready (rs := [5]) (by kernel_rfl) (by simp) ?_
    refine AllReadyH.cons (o := { dst := some _, op := _, type := _, pos := _, after := _, guard := _ }) rfl (fun K hK => ?_) AllReadyH.nil
    go_simp
    refine (PUT.out _ _ _ LI.out (datC_below HD.out (below_step KB.out K5.out))).mono ?_
    rintro e w3 ⟨ux, rfl, hb3, hB3⟩
    have K3 : Hid (Below wa.heap.size wa w3) := Lib.hid (below_step K5.out hb3)
    have NP : Hid (wa.heap.size ≤ w5.heap.size) := Lib.hid (by omega)
    have B3 : Hid (Below w.heap.size w w3) := Lib.hid (below_step KB.out K3.out)
    have HST3 := Lib.hid (hostSt_below KH.out K3.out)
    have D3 := whole_b K3.out KD.out
    have T3 := whole_b K3.out KT.out
    have Y3 := whole_b K3.out KY.out
    have X3 := whole_b K3.out KX.out
    have z3 := whole_lt X3
    have hu3 := built_now hB3 (datC_below HD.out B3.out)
    simp only at hu3
    obtain ⟨R1, m1, R2, m2, R3, m3, rfl, _⟩ := datC_form hu3
    have HB3 := Lib.hid hB3
    obtain ⟨d0, d1, d2, d3, d4, d5⟩ := six_cells D3
    obtain ⟨r0, r1, r2, r3, r4⟩ := five_cells T3
    obtain ⟨y0, y1, y2, y3, y4, y5⟩ := six_cells Y3
    obtain ⟨x0_, x1_, x2_, x3_, x4_⟩ := five_cells X3
    have fd := whole_free D3
    have fr := whole_free T3
    have fy := whole_free Y3
    clear hb3 hB3 hu3 D3 T3 Y3 X3
    refine hK.out _ _ trivial (fun hHeld => ?_)
    clear hK K hHeld
    try simp only [Act.put, List.setIfInBounds_toArray, List.set_cons_zero, List.set_cons_succ]
    refine wpAnyH_take (i := 6) (oi := { dst := some _, op := _, type := _, pos := _, after := _, guard := _ }) (v := ?_) rfl (by kernel_rfl) (by kernel_rfl) (by kernel_rfl) (fun _ _ _ h => h) (Or.inl ⟨by rfl, ?_⟩) trivial ?_
    rotate_left 1
    · intro w hSw; go_simp; try with_reducible rfl
    try simp only [Act.put, List.setIfInBounds_toArray, List.set_cons_zero, List.set_cons_succ]
    refine wpAnyH_take (i := 7) (oi := { dst := some _, op := _, type := _, pos := _, after := _, guard := _ }) (v := ?_) rfl (by kernel_rfl) (by kernel_rfl) (by kernel_rfl) (fun _ _ _ h => h) (Or.inl ⟨by rfl, ?_⟩) trivial ?_
    rotate_left 1
    · intro w hSw; go_simp; try with_reducible rfl
    try simp only [Act.put, List.setIfInBounds_toArray, List.set_cons_zero, List.set_cons_succ]
    refine wpAnyH_take (i := 8) (oi := { dst := some _, op := _, type := _, pos := _, after := _, guard := _ }) (v := ?_) rfl (by kernel_rfl) (by kernel_rfl) (by kernel_rfl) (fun _ _ _ h => h) (Or.inl ⟨by rfl, ?_⟩) trivial ?_
    rotate_left 1
    · intro w hSw; go_simp; try with_reducible rfl
    try simp only [Act.put, List.setIfInBounds_toArray, List.set_cons_zero, List.set_cons_succ]
    refine wpAnyH_ready (rs := [9]) (by kernel_rfl) (by simp) ?_
    refine AllReadyH.cons (o := { dst := none, op := _, type := _, pos := _, after := _, guard := _ }) rfl (fun K hK => ?_) AllReadyH.nil
    go_simp
    refine hK.out _ _ trivial (fun hHeld => ?_)
    clear hK K hHeld
    try simp only [Act.put, List.setIfInBounds_toArray, List.set_cons_zero, List.set_cons_succ]
    refine wpAnyH_done (by kernel_rfl) ?_ _
    go_wp2
    go_region
    all_goals
      go_wp2
      refine bodyPost_ret (v := .tuple #[.agg #[.slice U1 q.g.length p1, .slice U2 q.s.length p2, .slice U3 q.n.length p3, .int .i64 q.c, .slice U4 q.d.length p4], .agg #[.slice R1 r.s.length m1, .slice R2 r.b.length m2, .slice R3 r.c.length m3, .int .i64 r.h, .int .i64 r.n, .string r.o], .int .i64 0]) (by simp [results, Try.results59, go_sem, *]) rfl ⟨_, _, rfl, ?_, HB3.out _ (datC_below HD.out ?_) ?_, ?_⟩
      · refine hostSt_now (lo := w1.heap.size) ?_
        have hq := HST3.out
        repeat (first | with_reducible exact hq | ((with_reducible refine hostSt_store ?_ ?hh); case hh => omega) | with_reducible refine hostSt_drew ?_)
      · repeat (first | with_reducible exact B3.out | with_reducible refine Below.setCell ?_ (by simp <;> omega) _ | with_reducible refine Below.drew ?_)
      · repeat (first | with_reducible exact agree_refl _ _ | ((with_reducible refine agree_old ?_ ?hh _); case hh => (have := NP.out; simp <;> omega)) | with_reducible refine agree_drew ?_)
      · repeat (first | with_reducible exact B3.out | with_reducible refine Below.setCell ?_ (by simp <;> omega) _ | with_reducible refine Below.drew ?_)

end Go.Proofs.Ytkcogfgjabemfaa

namespace Go.Proofs.Ytkcogfgjabemfaa
open Go.RowKit
set_option linter.unusedVariables false
set_option linter.unusedSimpArgs false

set_option maxRecDepth 100000 in
set_option maxHeartbeats 4000000 in
theorem sCall_G2 (vh vd : Value) (h : Ht) (d : Dt) (c : Nat) (q : Ht) (v th : Int) (w : World) (hh : HostIn w vh h) (hd : DatC w vd d) (hf : HtFine h) (df : DtFine d) (hc : c < 4) (hg : h.g.getD c false = true) (hq : ¬ h.d.length = 40) (hu1 : ¬ d.s.length < capTakes c) (ho : ¬ (c = 3 ∧ d.s.length = 32)) (hn0 : 2 ≤ d.s.length) (hdo : hDo h c (tp d 1) (tp d 0) = (q, v, th)) (hth : th = 0) (hc1 : ¬ c = 1) :
    Calls Try.prog 59 #[vh, vd, .int .i64 c] w (HMidOf w (q, (dPut d (capTakes c) [v]).1, 0)) := by
  have HH := Lib.hid hh
  have HD := Lib.hid hd
  obtain ⟨E1, l1, E2, l2, E3, l3, E4, l4, rfl⟩ := hostIn_form hh
  obtain ⟨A1, k1, A2, k2, A3, k3, rfl, _⟩ := datC_form hd
  have h4 := fineH_g hf
  have cl : c < h.g.length := by omega
  obtain ⟨ad, rfl, cg⟩ := bols_at (hostIn_firstRow hh) cl
  clear h4
  have HF := Lib.hid hf
  have DF := Lib.hid df
  have sl := fine_sl df
  obtain ⟨ad2, rfl, CB⟩ := datIn_top hd.1 (i := 0) (by omega)
  obtain ⟨ad3, e3, CA⟩ := datIn_top hd.1 (i := 1) (by omega)
  obtain rfl := Option.some.inj e3
  generalize tp d 1 = x1 at *
  generalize tp d 0 = x0 at *
  rw [show h.g[c] = true by rw [← hg]; simp [List.getD, cl]] at cg
  clear hg
  have u0 : ((h.d.length : Int) == 40) = false := by rw [beq_eq_false_iff_ne]; omega
  clear hq
  obtain ⟨n, hn⟩ : ∃ n, d.s.length = n := ⟨_, rfl⟩
  have HN := Lib.hid hn
  have n32 : n ≤ 32 := by omega
  rw [hn] at HD ⊢
  obtain ⟨tk, ht⟩ : ∃ tk, capTakes c = tk := ⟨_, rfl⟩
  have TKS : Hid (∀ W, Calls Try.prog 109 #[.int .i64 c] W fun e w' => e = .returned (.int .i64 (tk : Nat)) ∧ Below W.heap.size W w') := Lib.hid fun W => by rw [← ht]; exact sHTakes_any c W hc
  have u1 : ¬ n < tk := by omega
  have tk2 : tk ≤ 2 := by rw [← ht]; have : c = 0 ∨ c = 1 ∨ c = 2 ∨ c = 3 := by omega
                          rcases this with rfl | rfl | rfl | rfl <;> decide
  have HTK := Lib.hid ht
  obtain ⟨j0, hj0⟩ : ∃ j0, n = j0 + 1 := ⟨n - 1, by omega⟩
  have s0 : IntKind.i64.wrap ((n : Int) - 1) = (j0 : Int) := by rw [IntWalk.i64_in _ (by omega)]; omega
  have s0' : (j0 : Int) < n := by omega
  have p0 : (0 : Int) < n := by omega
  rw [show d.s.length - 1 - 0 = j0 by omega] at CB
  obtain ⟨j1, hj1⟩ : ∃ j1, n = j1 + 2 := ⟨n - 2, by omega⟩
  have s1 : IntKind.i64.wrap ((n : Int) - 2) = (j1 : Int) := by rw [IntWalk.i64_in _ (by omega)]; omega
  have s1' : (j1 : Int) < n := by omega
  have p1' : (1 : Int) < n := by omega
  rw [show d.s.length - 1 - 1 = j1 by omega] at CA
  have HDO : Hid (∀ W u, HostIn W u h → Calls Try.prog 110 #[u, .int .i64 c, .int .i64 x1, .int .i64 x0] W (HDoOf W (q, v, th))) := Lib.hid fun W u hu => by rw [← hdo]; exact sDo_any u h c x1 x0 W hu HF.out hc
  subst hth
  have u6 : ((c : Int) == 1) = false := by rw [beq_eq_false_iff_ne]; omega
  have sq : d.s.length = n := by omega
  have PUT : Hid (∀ W u lv, Ints W lv [v] → DatC W u d → Calls Try.prog 111 #[u, .int .i64 (tk : Nat), lv] W (ReadC W u d (dPut d tk [v]))) := Lib.hid fun W u lv hl hu => sPut_any u d tk lv [v] W hu hl (by omega) (by omega) (by simp)
  rw [ht]
  clear hn hu1 hn0 hdo ht sl hj0 hj1 sq hc1
  generalize dPut d tk [v] = pr at *
  obtain ⟨r, rt⟩ := pr
  have CG : ∀ o1 o2 o3 o4 : Obj, ((((w.alloc o1).alloc o2).alloc o3).alloc o4).cell? (ad.add c) = some (.bool true) := fun o1 o2 o3 o4 => cell_kept (below_alloc (below_alloc (below_alloc (below_alloc (Below.refl _ _) _) _) _) _) _ _ cg
  clear cg hh hd hf df
  have OO : (((c : Int) == 3) = true ∧ ((n : Int) == 32) = false) ∨ ((c : Int) == 3) = false := by
    by_cases q3 : c = 3
    · exact .inl ⟨by rw [beq_iff_eq]; omega, by rw [beq_eq_false_iff_ne]; intro q4; exact ho ⟨q3, by have := HN.out; omega⟩⟩
    · exact .inr (by rw [beq_eq_false_iff_ne]; omega)
  clear ho
  go_enter Try.func59, Try.ntmps59
  rcases OO with ⟨u3, u4⟩ | u3
  · go_wp2_with (first
      | (go_at_call 109; refine (TKS.out _).mono ?_; rintro e w1 ⟨rfl, hb⟩
         have V1 := whole_b hb (whole_alloc (whole_alloc (whole_alloc (whole_new w _ _) _) _) _)
         have D1 := whole_b hb (whole_alloc (whole_alloc (whole_new1 w _ _ _) _) _)
         have T1 := whole_b hb (whole_alloc (whole_new2 w _ _ _ _) _)
         have Y1 := whole_b hb (whole_new3 w _ _ _ _ _)
         have B1 : Hid (Below w.heap.size w w1) := Lib.hid (below_step (below_alloc (below_alloc (below_alloc (below_alloc (Below.refl _ _) _) _) _) _) hb)
         have zy := whole_lt Y1
         obtain ⟨c0, c1, c2, c3, c4⟩ := five_cells V1
         obtain ⟨d0, d1, d2, d3, d4, d5⟩ := six_cells D1
         obtain ⟨r0, r1, r2, r3, r4⟩ := five_cells T1
         obtain ⟨y0, y1, y2, y3, y4, y5⟩ := six_cells Y1
         have fd := whole_free D1
         have fr := whole_free T1
         have fy := whole_free Y1
         have cb := cell_kept B1.out _ _ CB
         have ca := cell_kept B1.out _ _ CA
         have VV1 := Lib.hid V1
         have DD1 := Lib.hid D1
         have TT1 := Lib.hid T1
         have YY1 := Lib.hid Y1
         clear hb V1 D1 T1 Y1)
      | (go_at_call 110; refine (HDO.out _ _ (hostIn_below HH.out B1.out)).mono ?_; rintro e w2 ⟨u2, rfl, hst, hb⟩
         clear c0 c1 c2 c3 c4 d0 d1 d2 d3 d4 d5 r0 r1 r2 r3 r4 y0 y1 y2 y3 y4 y5 fd fr fy cb ca
         have B2 : Hid (Below w.heap.size w w2) := Lib.hid (below_step B1.out hb)
         have V2 := whole_b hb VV1.out
         have D2 := whole_b hb DD1.out
         have T2 := whole_b hb TT1.out
         have Y2 := whole_b hb YY1.out
         have z2 := hb.size
         have b0 : w.heap.size < w2.heap.size := by omega
         have b1 : w.heap.size + 1 < w2.heap.size := by omega
         have b2 : w.heap.size + 1 + 1 < w2.heap.size := by omega
         have b3 : w.heap.size + 1 + 1 + 1 < w2.heap.size := by omega
         obtain ⟨U1, p1, U2, p2, U3, p3, U4, p4, rfl⟩ := hostIn_form (hostSt_now hst)
         have HST := Lib.hid hst
         obtain ⟨c0, c1, c2, c3, c4⟩ := five_cells V2
         obtain ⟨d0, d1, d2, d3, d4, d5⟩ := six_cells D2
         obtain ⟨r0, r1, r2, r3, r4⟩ := five_cells T2
         obtain ⟨y0, y1, y2, y3, y4, y5⟩ := six_cells Y2
         have fd := whole_free D2
         have fr := whole_free T2
         have fy := whole_free Y2
         have DD2 := Lib.hid D2
         have TT2 := Lib.hid T2
         have YY2 := Lib.hid Y2
         clear hb hst V2 D2 T2 Y2))
    have KD := Lib.hid (whole_alloc DD2.out (.cells #[.slice U1 q.g.length p1, .slice U2 q.s.length p2, .slice U3 q.n.length p3, .int .i64 q.c, .slice U4 q.d.length p4] 27))
    have KT := Lib.hid (whole_alloc TT2.out (.cells #[.slice U1 q.g.length p1, .slice U2 q.s.length p2, .slice U3 q.n.length p3, .int .i64 q.c, .slice U4 q.d.length p4] 27))
    have KY := Lib.hid (whole_alloc YY2.out (.cells #[.slice U1 q.g.length p1, .slice U2 q.s.length p2, .slice U3 q.n.length p3, .int .i64 q.c, .slice U4 q.d.length p4] 27))
    have KX := Lib.hid (whole_new w2 27 #[.slice U1 q.g.length p1, .slice U2 q.s.length p2, .slice U3 q.n.length p3, .int .i64 q.c, .slice U4 q.d.length p4])
    have KH := Lib.hid (hostSt_alloc HST.out (.cells #[.slice U1 q.g.length p1, .slice U2 q.s.length p2, .slice U3 q.n.length p3, .int .i64 q.c, .slice U4 q.d.length p4] 27))
    have KB := Lib.hid (below_alloc B2.out (.cells #[.slice U1 q.g.length p1, .slice U2 q.s.length p2, .slice U3 q.n.length p3, .int .i64 q.c, .slice U4 q.d.length p4] 27))
    generalize w2.alloc (.cells #[.slice U1 q.g.length p1, .slice U2 q.s.length p2, .slice U3 q.n.length p3, .int .i64 q.c, .slice U4 q.d.length p4] 27) = wa at *
    have zk := whole_lt KX.out
    clear d0 d1 d2 d3 d4 d5 c0 c1 c2 c3 c4 r0 r1 r2 r3 r4 y0 y1 y2 y3 y4 y5 fd fr fy
    obtain ⟨d0, d1, d2, d3, d4, d5⟩ := six_cells KD.out
    have bd : w.heap.size + 1 < wa.heap.size := by omega
    refine wp_region_held_drew (S := fun _ => True) (by kernel_rfl) trivial (fun hHeld => ?_)
    clear hHeld
    refine wpAnyH_take (i := 1) (oi := { dst := some _, op := _, type := _, pos := _, after := _, guard := _ }) (v := ?_) rfl (by kernel_rfl) (by kernel_rfl) (by kernel_rfl) (fun _ _ _ h => h) (Or.inl ⟨by rfl, ?_⟩) trivial ?_
    rotate_left 1
    · intro w hSw; go_simp; try with_reducible rfl
    try simp only [Act.put, List.setIfInBounds_toArray, List.set_cons_zero, List.set_cons_succ]
    refine wpAnyH_take (i := 3) (oi := { dst := some _, op := _, type := _, pos := _, after := _, guard := _ }) (v := ?_) rfl (by kernel_rfl) (by kernel_rfl) (by kernel_rfl) (fun _ _ _ h => h) (Or.inl ⟨by rfl, ?_⟩) trivial ?_
    rotate_left 1
    · intro w hSw; go_simp; try with_reducible rfl
    try simp only [Act.put, List.setIfInBounds_toArray, List.set_cons_zero, List.set_cons_succ]
    refine wpAnyH_ready (rs := [0, 2, 4]) (by kernel_rfl) (by simp) ?_
    refine AllReadyH.cons (o := { dst := some _, op := _, type := _, pos := _, after := _, guard := _ }) rfl (fun K hK => ?_) ?_
    · go_simp
      refine hK.out _ _ trivial (fun hHeld => ?_)
      clear hK K hHeld
      try simp only [Act.put, List.setIfInBounds_toArray, List.set_cons_zero, List.set_cons_succ]
      refine wpAnyH_ready (rs := [2, 4]) (by kernel_rfl) (by simp) ?_
      refine AllReadyH.cons (o := { dst := some _, op := _, type := _, pos := _, after := _, guard := _ }) rfl (fun K hK => ?_) ?_
      · go_simp
        refine (TKS.out _).mono ?_
        rintro e w5 ⟨rfl, hb5⟩
        have K5 : Hid (Below wa.heap.size wa w5) := Lib.hid (below_step (by repeat (first | with_reducible exact Below.refl _ _ | with_reducible refine below_alloc ?_ _ | with_reducible refine Below.drew ?_)) hb5)
        have zw := K5.out.size
        have D5 := whole_b K5.out KD.out
        obtain ⟨e0, e1, e2, e3, e4, e5⟩ := six_cells D5
        have be : w.heap.size + 1 < w5.heap.size := by omega
        clear hb5 D5
        refine hK.out _ _ trivial (fun hHeld => ?_)
        clear hK K hHeld
        try simp only [Act.put, List.setIfInBounds_toArray, List.set_cons_zero, List.set_cons_succ]
        refine wpAnyH_ready (rs := [4]) (by kernel_rfl) (by simp) ?_
        refine AllReadyH.cons (o := { dst := some _, op := _, type := _, pos := _, after := _, guard := _ }) rfl (fun K hK => ?_) AllReadyH.nil
        go_simp
        refine hK.out _ _ trivial (fun hHeld => ?_)
        clear hK K hHeld
        try simp only [Act.put, List.setIfInBounds_toArray, List.set_cons_zero, List.set_cons_succ]
        refine wpAnyH_ready (rs := [5]) (by kernel_rfl) (by simp) ?_
        refine AllReadyH.cons (o := { dst := some _, op := _, type := _, pos := _, after := _, guard := _ }) rfl (fun K hK => ?_) AllReadyH.nil
        go_simp
        refine (PUT.out _ _ _ (by exact ints_oneAt _ _ rfl) (datC_below HD.out (below_step KB.out (below_alloc K5.out _)))).mono ?_
        rintro e w3 ⟨ux, rfl, hb3, hB3⟩
        have K3 : Hid (Below wa.heap.size wa w3) := Lib.hid (below_step (below_alloc K5.out _) hb3)
        have NP : Hid (wa.heap.size ≤ w5.heap.size + 1) := Lib.hid (by omega)
        have B3 : Hid (Below w.heap.size w w3) := Lib.hid (below_step KB.out K3.out)
        have HST3 := Lib.hid (hostSt_below KH.out K3.out)
        have D3 := whole_b K3.out KD.out
        have T3 := whole_b K3.out KT.out
        have Y3 := whole_b K3.out KY.out
        have X3 := whole_b K3.out KX.out
        have z3 := whole_lt X3
        have hu3 := built_now hB3 (datC_below HD.out B3.out)
        simp only at hu3
        obtain ⟨R1, m1, R2, m2, R3, m3, rfl, _⟩ := datC_form hu3
        have HB3 := Lib.hid hB3
        obtain ⟨d0, d1, d2, d3, d4, d5⟩ := six_cells D3
        obtain ⟨r0, r1, r2, r3, r4⟩ := five_cells T3
        obtain ⟨y0, y1, y2, y3, y4, y5⟩ := six_cells Y3
        obtain ⟨x0_, x1_, x2_, x3_, x4_⟩ := five_cells X3
        have fd := whole_free D3
        have fr := whole_free T3
        have fy := whole_free Y3
        clear hb3 hB3 hu3 D3 T3 Y3 X3
        refine hK.out _ _ trivial (fun hHeld => ?_)
        clear hK K hHeld
        try simp only [Act.put, List.setIfInBounds_toArray, List.set_cons_zero, List.set_cons_succ]
        refine wpAnyH_take (i := 6) (oi := { dst := some _, op := _, type := _, pos := _, after := _, guard := _ }) (v := ?_) rfl (by kernel_rfl) (by kernel_rfl) (by kernel_rfl) (fun _ _ _ h => h) (Or.inl ⟨by rfl, ?_⟩) trivial ?_
        rotate_left 1
        · intro w hSw; go_simp; try with_reducible rfl
        try simp only [Act.put, List.setIfInBounds_toArray, List.set_cons_zero, List.set_cons_succ]
        refine wpAnyH_take (i := 7) (oi := { dst := some _, op := _, type := _, pos := _, after := _, guard := _ }) (v := ?_) rfl (by kernel_rfl) (by kernel_rfl) (by kernel_rfl) (fun _ _ _ h => h) (Or.inl ⟨by rfl, ?_⟩) trivial ?_
        rotate_left 1
        · intro w hSw; go_simp; try with_reducible rfl
        try simp only [Act.put, List.setIfInBounds_toArray, List.set_cons_zero, List.set_cons_succ]
        refine wpAnyH_take (i := 8) (oi := { dst := some _, op := _, type := _, pos := _, after := _, guard := _ }) (v := ?_) rfl (by kernel_rfl) (by kernel_rfl) (by kernel_rfl) (fun _ _ _ h => h) (Or.inl ⟨by rfl, ?_⟩) trivial ?_
        rotate_left 1
        · intro w hSw; go_simp; try with_reducible rfl
        try simp only [Act.put, List.setIfInBounds_toArray, List.set_cons_zero, List.set_cons_succ]
        refine wpAnyH_ready (rs := [9]) (by kernel_rfl) (by simp) ?_
        refine AllReadyH.cons (o := { dst := none, op := _, type := _, pos := _, after := _, guard := _ }) rfl (fun K hK => ?_) AllReadyH.nil
        go_simp
        refine hK.out _ _ trivial (fun hHeld => ?_)
        clear hK K hHeld
        try simp only [Act.put, List.setIfInBounds_toArray, List.set_cons_zero, List.set_cons_succ]
        refine wpAnyH_done (by kernel_rfl) ?_ _
        go_wp2
        go_region
        all_goals
          go_wp2
          refine bodyPost_ret (v := .tuple #[.agg #[.slice U1 q.g.length p1, .slice U2 q.s.length p2, .slice U3 q.n.length p3, .int .i64 q.c, .slice U4 q.d.length p4], .agg #[.slice R1 r.s.length m1, .slice R2 r.b.length m2, .slice R3 r.c.length m3, .int .i64 r.h, .int .i64 r.n, .string r.o], .int .i64 0]) (by simp [results, Try.results59, go_sem, *]) rfl ⟨_, _, rfl, ?_, HB3.out _ (datC_below HD.out ?_) ?_, ?_⟩
          · refine hostSt_now (lo := w1.heap.size) ?_
            have hq := HST3.out
            repeat (first | with_reducible exact hq | ((with_reducible refine hostSt_store ?_ ?hh); case hh => omega) | with_reducible refine hostSt_drew ?_)
          · repeat (first | with_reducible exact B3.out | with_reducible refine Below.setCell ?_ (by simp <;> omega) _ | with_reducible refine Below.drew ?_)
          · repeat (first | with_reducible exact agree_refl _ _ | ((with_reducible refine agree_old ?_ ?hh _); case hh => (have := NP.out; simp <;> omega)) | with_reducible refine agree_drew ?_)
          · repeat (first | with_reducible exact B3.out | with_reducible refine Below.setCell ?_ (by simp <;> omega) _ | with_reducible refine Below.drew ?_)
      refine AllReadyH.cons (o := { dst := some _, op := _, type := _, pos := _, after := _, guard := _ }) rfl (fun K hK => ?_) AllReadyH.nil
      go_simp
      refine hK.out _ _ trivial (fun hHeld => ?_)
      clear hK K hHeld
      try simp only [Act.put, List.setIfInBounds_toArray, List.set_cons_zero, List.set_cons_succ]
      refine wpAnyH_ready (rs := [2]) (by kernel_rfl) (by simp) ?_
      refine AllReadyH.cons (o := { dst := some _, op := _, type := _, pos := _, after := _, guard := _ }) rfl (fun K hK => ?_) AllReadyH.nil
      go_simp
      refine (TKS.out _).mono ?_
      rintro e w5 ⟨rfl, hb5⟩
      have K5 : Hid (Below wa.heap.size wa w5) := Lib.hid (below_step (by repeat (first | with_reducible exact Below.refl _ _ | with_reducible refine below_alloc ?_ _ | with_reducible refine Below.drew ?_)) hb5)
      have zw := K5.out.size
      have LI := Lib.hid (ints_below (w := World.drew _) (show Ints (World.drew (wa.alloc (.cells #[.int .i64 v] 3))) (.slice (some ⟨wa.heap.size, 0, none⟩) 1 1) [v] from ints_oneAt wa v rfl) hb5)
      have D5 := whole_b K5.out KD.out
      obtain ⟨e0, e1, e2, e3, e4, e5⟩ := six_cells D5
      have be : w.heap.size + 1 < w5.heap.size := by omega
      clear hb5 D5
      refine hK.out _ _ trivial (fun hHeld => ?_)
      clear hK K hHeld
      try simp only [Act.put, List.setIfInBounds_toArray, List.set_cons_zero, List.set_cons_succ]
      refine wpAnyH_ready (rs := [5]) (by kernel_rfl) (by simp) ?_
      refine AllReadyH.cons (o := { dst := some _, op := _, type := _, pos := _, after := _, guard := _ }) rfl (fun K hK => ?_) AllReadyH.nil
      go_simp
      refine (PUT.out _ _ _ LI.out (datC_below HD.out (below_step KB.out K5.out))).mono ?_
      rintro e w3 ⟨ux, rfl, hb3, hB3⟩
      have K3 : Hid (Below wa.heap.size wa w3) := Lib.hid (below_step K5.out hb3)
      have NP : Hid (wa.heap.size ≤ w5.heap.size) := Lib.hid (by omega)
      have B3 : Hid (Below w.heap.size w w3) := Lib.hid (below_step KB.out K3.out)
      have HST3 := Lib.hid (hostSt_below KH.out K3.out)
      have D3 := whole_b K3.out KD.out
      have T3 := whole_b K3.out KT.out
      have Y3 := whole_b K3.out KY.out
      have X3 := whole_b K3.out KX.out
      have z3 := whole_lt X3
      have hu3 := built_now hB3 (datC_below HD.out B3.out)
      simp only at hu3
      obtain ⟨R1, m1, R2, m2, R3, m3, rfl, _⟩ := datC_form hu3
      have HB3 := Lib.hid hB3
      obtain ⟨d0, d1, d2, d3, d4, d5⟩ := six_cells D3
      obtain ⟨r0, r1, r2, r3, r4⟩ := five_cells T3
      obtain ⟨y0, y1, y2, y3, y4, y5⟩ := six_cells Y3
      obtain ⟨x0_, x1_, x2_, x3_, x4_⟩ := five_cells X3
      have fd := whole_free D3
      have fr := whole_free T3
      have fy := whole_free Y3
      clear hb3 hB3 hu3 D3 T3 Y3 X3
      refine hK.out _ _ trivial (fun hHeld => ?_)
      clear hK K hHeld
      try simp only [Act.put, List.setIfInBounds_toArray, List.set_cons_zero, List.set_cons_succ]
      refine wpAnyH_take (i := 6) (oi := { dst := some _, op := _, type := _, pos := _, after := _, guard := _ }) (v := ?_) rfl (by kernel_rfl) (by kernel_rfl) (by kernel_rfl) (fun _ _ _ h => h) (Or.inl ⟨by rfl, ?_⟩) trivial ?_
      rotate_left 1
      · intro w hSw; go_simp; try with_reducible rfl
      try simp only [Act.put, List.setIfInBounds_toArray, List.set_cons_zero, List.set_cons_succ]
      refine wpAnyH_take (i := 7) (oi := { dst := some _, op := _, type := _, pos := _, after := _, guard := _ }) (v := ?_) rfl (by kernel_rfl) (by kernel_rfl) (by kernel_rfl) (fun _ _ _ h => h) (Or.inl ⟨by rfl, ?_⟩) trivial ?_
      rotate_left 1
      · intro w hSw; go_simp; try with_reducible rfl
      try simp only [Act.put, List.setIfInBounds_toArray, List.set_cons_zero, List.set_cons_succ]
      refine wpAnyH_take (i := 8) (oi := { dst := some _, op := _, type := _, pos := _, after := _, guard := _ }) (v := ?_) rfl (by kernel_rfl) (by kernel_rfl) (by kernel_rfl) (fun _ _ _ h => h) (Or.inl ⟨by rfl, ?_⟩) trivial ?_
      rotate_left 1
      · intro w hSw; go_simp; try with_reducible rfl
      try simp only [Act.put, List.setIfInBounds_toArray, List.set_cons_zero, List.set_cons_succ]
      refine wpAnyH_ready (rs := [9]) (by kernel_rfl) (by simp) ?_
      refine AllReadyH.cons (o := { dst := none, op := _, type := _, pos := _, after := _, guard := _ }) rfl (fun K hK => ?_) AllReadyH.nil
      go_simp
      refine hK.out _ _ trivial (fun hHeld => ?_)
      clear hK K hHeld
      try simp only [Act.put, List.setIfInBounds_toArray, List.set_cons_zero, List.set_cons_succ]
      refine wpAnyH_done (by kernel_rfl) ?_ _
      go_wp2
      go_region
      all_goals
        go_wp2
        refine bodyPost_ret (v := .tuple #[.agg #[.slice U1 q.g.length p1, .slice U2 q.s.length p2, .slice U3 q.n.length p3, .int .i64 q.c, .slice U4 q.d.length p4], .agg #[.slice R1 r.s.length m1, .slice R2 r.b.length m2, .slice R3 r.c.length m3, .int .i64 r.h, .int .i64 r.n, .string r.o], .int .i64 0]) (by simp [results, Try.results59, go_sem, *]) rfl ⟨_, _, rfl, ?_, HB3.out _ (datC_below HD.out ?_) ?_, ?_⟩
        · refine hostSt_now (lo := w1.heap.size) ?_
          have hq := HST3.out
          repeat (first | with_reducible exact hq | ((with_reducible refine hostSt_store ?_ ?hh); case hh => omega) | with_reducible refine hostSt_drew ?_)
        · repeat (first | with_reducible exact B3.out | with_reducible refine Below.setCell ?_ (by simp <;> omega) _ | with_reducible refine Below.drew ?_)
        · repeat (first | with_reducible exact agree_refl _ _ | ((with_reducible refine agree_old ?_ ?hh _); case hh => (have := NP.out; simp <;> omega)) | with_reducible refine agree_drew ?_)
        · repeat (first | with_reducible exact B3.out | with_reducible refine Below.setCell ?_ (by simp <;> omega) _ | with_reducible refine Below.drew ?_)
    refine AllReadyH.cons (o := { dst := some _, op := _, type := _, pos := _, after := _, guard := _ }) rfl (fun K hK => ?_) ?_
    · go_simp
      refine (TKS.out _).mono ?_
      rintro e w5 ⟨rfl, hb5⟩
      have K5 : Hid (Below wa.heap.size wa w5) := Lib.hid (below_step (by repeat (first | with_reducible exact Below.refl _ _ | with_reducible refine below_alloc ?_ _ | with_reducible refine Below.drew ?_)) hb5)
      have zw := K5.out.size
      have D5 := whole_b K5.out KD.out
      obtain ⟨e0, e1, e2, e3, e4, e5⟩ := six_cells D5
      have be : w.heap.size + 1 < w5.heap.size := by omega
      clear hb5 D5
      refine hK.out _ _ trivial (fun hHeld => ?_)
      clear hK K hHeld
      try simp only [Act.put, List.setIfInBounds_toArray, List.set_cons_zero, List.set_cons_succ]
      refine wpAnyH_ready (rs := [0, 4]) (by kernel_rfl) (by simp) ?_
      refine AllReadyH.cons (o := { dst := some _, op := _, type := _, pos := _, after := _, guard := _ }) rfl (fun K hK => ?_) ?_
      · go_simp
        refine hK.out _ _ trivial (fun hHeld => ?_)
        clear hK K hHeld
        try simp only [Act.put, List.setIfInBounds_toArray, List.set_cons_zero, List.set_cons_succ]
        refine wpAnyH_ready (rs := [4]) (by kernel_rfl) (by simp) ?_
        refine AllReadyH.cons (o := { dst := some _, op := _, type := _, pos := _, after := _, guard := _ }) rfl (fun K hK => ?_) AllReadyH.nil
        go_simp
        refine hK.out _ _ trivial (fun hHeld => ?_)
        clear hK K hHeld
        try simp only [Act.put, List.setIfInBounds_toArray, List.set_cons_zero, List.set_cons_succ]
        refine wpAnyH_ready (rs := [5]) (by kernel_rfl) (by simp) ?_
        refine AllReadyH.cons (o := { dst := some _, op := _, type := _, pos := _, after := _, guard := _ }) rfl (fun K hK => ?_) AllReadyH.nil
        go_simp
        refine (PUT.out _ _ _ (by exact ints_oneAt _ _ rfl) (datC_below HD.out (below_step KB.out (below_alloc K5.out _)))).mono ?_
        rintro e w3 ⟨ux, rfl, hb3, hB3⟩
        have K3 : Hid (Below wa.heap.size wa w3) := Lib.hid (below_step (below_alloc K5.out _) hb3)
        have NP : Hid (wa.heap.size ≤ w5.heap.size + 1) := Lib.hid (by omega)
        have B3 : Hid (Below w.heap.size w w3) := Lib.hid (below_step KB.out K3.out)
        have HST3 := Lib.hid (hostSt_below KH.out K3.out)
        have D3 := whole_b K3.out KD.out
        have T3 := whole_b K3.out KT.out
        have Y3 := whole_b K3.out KY.out
        have X3 := whole_b K3.out KX.out
        have z3 := whole_lt X3
        have hu3 := built_now hB3 (datC_below HD.out B3.out)
        simp only at hu3
        obtain ⟨R1, m1, R2, m2, R3, m3, rfl, _⟩ := datC_form hu3
        have HB3 := Lib.hid hB3
        obtain ⟨d0, d1, d2, d3, d4, d5⟩ := six_cells D3
        obtain ⟨r0, r1, r2, r3, r4⟩ := five_cells T3
        obtain ⟨y0, y1, y2, y3, y4, y5⟩ := six_cells Y3
        obtain ⟨x0_, x1_, x2_, x3_, x4_⟩ := five_cells X3
        have fd := whole_free D3
        have fr := whole_free T3
        have fy := whole_free Y3
        clear hb3 hB3 hu3 D3 T3 Y3 X3
        refine hK.out _ _ trivial (fun hHeld => ?_)
        clear hK K hHeld
        try simp only [Act.put, List.setIfInBounds_toArray, List.set_cons_zero, List.set_cons_succ]
        refine wpAnyH_take (i := 6) (oi := { dst := some _, op := _, type := _, pos := _, after := _, guard := _ }) (v := ?_) rfl (by kernel_rfl) (by kernel_rfl) (by kernel_rfl) (fun _ _ _ h => h) (Or.inl ⟨by rfl, ?_⟩) trivial ?_
        rotate_left 1
        · intro w hSw; go_simp; try with_reducible rfl
        try simp only [Act.put, List.setIfInBounds_toArray, List.set_cons_zero, List.set_cons_succ]
        refine wpAnyH_take (i := 7) (oi := { dst := some _, op := _, type := _, pos := _, after := _, guard := _ }) (v := ?_) rfl (by kernel_rfl) (by kernel_rfl) (by kernel_rfl) (fun _ _ _ h => h) (Or.inl ⟨by rfl, ?_⟩) trivial ?_
        rotate_left 1
        · intro w hSw; go_simp; try with_reducible rfl
        try simp only [Act.put, List.setIfInBounds_toArray, List.set_cons_zero, List.set_cons_succ]
        refine wpAnyH_take (i := 8) (oi := { dst := some _, op := _, type := _, pos := _, after := _, guard := _ }) (v := ?_) rfl (by kernel_rfl) (by kernel_rfl) (by kernel_rfl) (fun _ _ _ h => h) (Or.inl ⟨by rfl, ?_⟩) trivial ?_
        rotate_left 1
        · intro w hSw; go_simp; try with_reducible rfl
        try simp only [Act.put, List.setIfInBounds_toArray, List.set_cons_zero, List.set_cons_succ]
        refine wpAnyH_ready (rs := [9]) (by kernel_rfl) (by simp) ?_
        refine AllReadyH.cons (o := { dst := none, op := _, type := _, pos := _, after := _, guard := _ }) rfl (fun K hK => ?_) AllReadyH.nil
        go_simp
        refine hK.out _ _ trivial (fun hHeld => ?_)
        clear hK K hHeld
        try simp only [Act.put, List.setIfInBounds_toArray, List.set_cons_zero, List.set_cons_succ]
        refine wpAnyH_done (by kernel_rfl) ?_ _
        go_wp2
        go_region
        all_goals
          go_wp2
          refine bodyPost_ret (v := .tuple #[.agg #[.slice U1 q.g.length p1, .slice U2 q.s.length p2, .slice U3 q.n.length p3, .int .i64 q.c, .slice U4 q.d.length p4], .agg #[.slice R1 r.s.length m1, .slice R2 r.b.length m2, .slice R3 r.c.length m3, .int .i64 r.h, .int .i64 r.n, .string r.o], .int .i64 0]) (by simp [results, Try.results59, go_sem, *]) rfl ⟨_, _, rfl, ?_, HB3.out _ (datC_below HD.out ?_) ?_, ?_⟩
          · refine hostSt_now (lo := w1.heap.size) ?_
            have hq := HST3.out
            repeat (first | with_reducible exact hq | ((with_reducible refine hostSt_store ?_ ?hh); case hh => omega) | with_reducible refine hostSt_drew ?_)
          · repeat (first | with_reducible exact B3.out | with_reducible refine Below.setCell ?_ (by simp <;> omega) _ | with_reducible refine Below.drew ?_)
          · repeat (first | with_reducible exact agree_refl _ _ | ((with_reducible refine agree_old ?_ ?hh _); case hh => (have := NP.out; simp <;> omega)) | with_reducible refine agree_drew ?_)
          · repeat (first | with_reducible exact B3.out | with_reducible refine Below.setCell ?_ (by simp <;> omega) _ | with_reducible refine Below.drew ?_)
      refine AllReadyH.cons (o := { dst := some _, op := _, type := _, pos := _, after := _, guard := _ }) rfl (fun K hK => ?_) AllReadyH.nil
      go_simp
      refine hK.out _ _ trivial (fun hHeld => ?_)
      clear hK K hHeld
      try simp only [Act.put, List.setIfInBounds_toArray, List.set_cons_zero, List.set_cons_succ]
      refine wpAnyH_ready (rs := [0]) (by kernel_rfl) (by simp) ?_
      refine AllReadyH.cons (o := { dst := some _, op := _, type := _, pos := _, after := _, guard := _ }) rfl (fun K hK => ?_) AllReadyH.nil
      go_simp
      refine hK.out _ _ trivial (fun hHeld => ?_)
      clear hK K hHeld
      try simp only [Act.put, List.setIfInBounds_toArray, List.set_cons_zero, List.set_cons_succ]
      refine wpAnyH_ready (rs := [5]) (by kernel_rfl) (by simp) ?_
      refine AllReadyH.cons (o := { dst := some _, op := _, type := _, pos := _, after := _, guard := _ }) rfl (fun K hK => ?_) AllReadyH.nil
      go_simp
      refine (PUT.out _ _ _ (by exact ints_oneAt _ _ rfl) (datC_below HD.out (below_step KB.out (below_alloc K5.out _)))).mono ?_
      rintro e w3 ⟨ux, rfl, hb3, hB3⟩
      have K3 : Hid (Below wa.heap.size wa w3) := Lib.hid (below_step (below_alloc K5.out _) hb3)
      have NP : Hid (wa.heap.size ≤ w5.heap.size + 1) := Lib.hid (by omega)
      have B3 : Hid (Below w.heap.size w w3) := Lib.hid (below_step KB.out K3.out)
      have HST3 := Lib.hid (hostSt_below KH.out K3.out)
      have D3 := whole_b K3.out KD.out
      have T3 := whole_b K3.out KT.out
      have Y3 := whole_b K3.out KY.out
      have X3 := whole_b K3.out KX.out
      have z3 := whole_lt X3
      have hu3 := built_now hB3 (datC_below HD.out B3.out)
      simp only at hu3
      obtain ⟨R1, m1, R2, m2, R3, m3, rfl, _⟩ := datC_form hu3
      have HB3 := Lib.hid hB3
      obtain ⟨d0, d1, d2, d3, d4, d5⟩ := six_cells D3
      obtain ⟨r0, r1, r2, r3, r4⟩ := five_cells T3
      obtain ⟨y0, y1, y2, y3, y4, y5⟩ := six_cells Y3
      obtain ⟨x0_, x1_, x2_, x3_, x4_⟩ := five_cells X3
      have fd := whole_free D3
      have fr := whole_free T3
      have fy := whole_free Y3
      clear hb3 hB3 hu3 D3 T3 Y3 X3
      refine hK.out _ _ trivial (fun hHeld => ?_)
      clear hK K hHeld
      try simp only [Act.put, List.setIfInBounds_toArray, List.set_cons_zero, List.set_cons_succ]
      refine wpAnyH_take (i := 6) (oi := { dst := some _, op := _, type := _, pos := _, after := _, guard := _ }) (v := ?_) rfl (by kernel_rfl) (by kernel_rfl) (by kernel_rfl) (fun _ _ _ h => h) (Or.inl ⟨by rfl, ?_⟩) trivial ?_
      rotate_left 1
      · intro w hSw; go_simp; try with_reducible rfl
      try simp only [Act.put, List.setIfInBounds_toArray, List.set_cons_zero, List.set_cons_succ]
      refine wpAnyH_take (i := 7) (oi := { dst := some _, op := _, type := _, pos := _, after := _, guard := _ }) (v := ?_) rfl (by kernel_rfl) (by kernel_rfl) (by kernel_rfl) (fun _ _ _ h => h) (Or.inl ⟨by rfl, ?_⟩) trivial ?_
      rotate_left 1
      · intro w hSw; go_simp; try with_reducible rfl
      try simp only [Act.put, List.setIfInBounds_toArray, List.set_cons_zero, List.set_cons_succ]
      refine wpAnyH_take (i := 8) (oi := { dst := some _, op := _, type := _, pos := _, after := _, guard := _ }) (v := ?_) rfl (by kernel_rfl) (by kernel_rfl) (by kernel_rfl) (fun _ _ _ h => h) (Or.inl ⟨by rfl, ?_⟩) trivial ?_
      rotate_left 1
      · intro w hSw; go_simp; try with_reducible rfl
      try simp only [Act.put, List.setIfInBounds_toArray, List.set_cons_zero, List.set_cons_succ]
      refine wpAnyH_ready (rs := [9]) (by kernel_rfl) (by simp) ?_
      refine AllReadyH.cons (o := { dst := none, op := _, type := _, pos := _, after := _, guard := _ }) rfl (fun K hK => ?_) AllReadyH.nil
      go_simp
      refine hK.out _ _ trivial (fun hHeld => ?_)
      clear hK K hHeld
      try simp only [Act.put, List.setIfInBounds_toArray, List.set_cons_zero, List.set_cons_succ]
      refine wpAnyH_done (by kernel_rfl) ?_ _
      go_wp2
      go_region
      all_goals
        go_wp2
        refine bodyPost_ret (v := .tuple #[.agg #[.slice U1 q.g.length p1, .slice U2 q.s.length p2, .slice U3 q.n.length p3, .int .i64 q.c, .slice U4 q.d.length p4], .agg #[.slice R1 r.s.length m1, .slice R2 r.b.length m2, .slice R3 r.c.length m3, .int .i64 r.h, .int .i64 r.n, .string r.o], .int .i64 0]) (by simp [results, Try.results59, go_sem, *]) rfl ⟨_, _, rfl, ?_, HB3.out _ (datC_below HD.out ?_) ?_, ?_⟩
        · refine hostSt_now (lo := w1.heap.size) ?_
          have hq := HST3.out
          repeat (first | with_reducible exact hq | ((with_reducible refine hostSt_store ?_ ?hh); case hh => omega) | with_reducible refine hostSt_drew ?_)
        · repeat (first | with_reducible exact B3.out | with_reducible refine Below.setCell ?_ (by simp <;> omega) _ | with_reducible refine Below.drew ?_)
        · repeat (first | with_reducible exact agree_refl _ _ | ((with_reducible refine agree_old ?_ ?hh _); case hh => (have := NP.out; simp <;> omega)) | with_reducible refine agree_drew ?_)
        · repeat (first | with_reducible exact B3.out | with_reducible refine Below.setCell ?_ (by simp <;> omega) _ | with_reducible refine Below.drew ?_)
    refine AllReadyH.cons (o := { dst := some _, op := _, type := _, pos := _, after := _, guard := _ }) rfl (fun K hK => ?_) AllReadyH.nil
    go_simp
    refine hK.out _ _ trivial (fun hHeld => ?_)
    clear hK K hHeld
    try simp only [Act.put, List.setIfInBounds_toArray, List.set_cons_zero, List.set_cons_succ]
    refine wpAnyH_ready (rs := [0, 2]) (by kernel_rfl) (by simp) ?_
    refine AllReadyH.cons (o := { dst := some _, op := _, type := _, pos := _, after := _, guard := _ }) rfl (fun K hK => ?_) ?_
    · go_simp
      refine hK.out _ _ trivial (fun hHeld => ?_)
      clear hK K hHeld
      try simp only [Act.put, List.setIfInBounds_toArray, List.set_cons_zero, List.set_cons_succ]
      refine wpAnyH_ready (rs := [2]) (by kernel_rfl) (by simp) ?_
      refine AllReadyH.cons (o := { dst := some _, op := _, type := _, pos := _, after := _, guard := _ }) rfl (fun K hK => ?_) AllReadyH.nil
      go_simp
      refine (TKS.out _).mono ?_
      rintro e w5 ⟨rfl, hb5⟩
      have K5 : Hid (Below wa.heap.size wa w5) := Lib.hid (below_step (by repeat (first | with_reducible exact Below.refl _ _ | with_reducible refine below_alloc ?_ _ | with_reducible refine Below.drew ?_)) hb5)
      have zw := K5.out.size
      have LI := Lib.hid (ints_below (w := World.drew _) (show Ints (World.drew (wa.alloc (.cells #[.int .i64 v] 3))) (.slice (some ⟨wa.heap.size, 0, none⟩) 1 1) [v] from ints_oneAt wa v rfl) hb5)
      have D5 := whole_b K5.out KD.out
      obtain ⟨e0, e1, e2, e3, e4, e5⟩ := six_cells D5
      have be : w.heap.size + 1 < w5.heap.size := by omega
      clear hb5 D5
      refine hK.out _ _ trivial (fun hHeld => ?_)
      clear hK K hHeld
      try simp only [Act.put, List.setIfInBounds_toArray, List.set_cons_zero, List.set_cons_succ]
      refine wpAnyH_ready (rs := [5]) (by kernel_rfl) (by simp) ?_
      refine AllReadyH.cons (o := { dst := some _, op := _, type := _, pos := _, after := _, guard := _ }) rfl (fun K hK => ?_) AllReadyH.nil
      go_simp
      refine (PUT.out _ _ _ LI.out (datC_below HD.out (below_step KB.out K5.out))).mono ?_
      rintro e w3 ⟨ux, rfl, hb3, hB3⟩
      have K3 : Hid (Below wa.heap.size wa w3) := Lib.hid (below_step K5.out hb3)
      have NP : Hid (wa.heap.size ≤ w5.heap.size) := Lib.hid (by omega)
      have B3 : Hid (Below w.heap.size w w3) := Lib.hid (below_step KB.out K3.out)
      have HST3 := Lib.hid (hostSt_below KH.out K3.out)
      have D3 := whole_b K3.out KD.out
      have T3 := whole_b K3.out KT.out
      have Y3 := whole_b K3.out KY.out
      have X3 := whole_b K3.out KX.out
      have z3 := whole_lt X3
      have hu3 := built_now hB3 (datC_below HD.out B3.out)
      simp only at hu3
      obtain ⟨R1, m1, R2, m2, R3, m3, rfl, _⟩ := datC_form hu3
      have HB3 := Lib.hid hB3
      obtain ⟨d0, d1, d2, d3, d4, d5⟩ := six_cells D3
      obtain ⟨r0, r1, r2, r3, r4⟩ := five_cells T3
      obtain ⟨y0, y1, y2, y3, y4, y5⟩ := six_cells Y3
      obtain ⟨x0_, x1_, x2_, x3_, x4_⟩ := five_cells X3
      have fd := whole_free D3
      have fr := whole_free T3
      have fy := whole_free Y3
      clear hb3 hB3 hu3 D3 T3 Y3 X3
      refine hK.out _ _ trivial (fun hHeld => ?_)
      clear hK K hHeld
      try simp only [Act.put, List.setIfInBounds_toArray, List.set_cons_zero, List.set_cons_succ]
      refine wpAnyH_take (i := 6) (oi := { dst := some _, op := _, type := _, pos := _, after := _, guard := _ }) (v := ?_) rfl (by kernel_rfl) (by kernel_rfl) (by kernel_rfl) (fun _ _ _ h => h) (Or.inl ⟨by rfl, ?_⟩) trivial ?_
      rotate_left 1
      · intro w hSw; go_simp; try with_reducible rfl
      try simp only [Act.put, List.setIfInBounds_toArray, List.set_cons_zero, List.set_cons_succ]
      refine wpAnyH_take (i := 7) (oi := { dst := some _, op := _, type := _, pos := _, after := _, guard := _ }) (v := ?_) rfl (by kernel_rfl) (by kernel_rfl) (by kernel_rfl) (fun _ _ _ h => h) (Or.inl ⟨by rfl, ?_⟩) trivial ?_
      rotate_left 1
      · intro w hSw; go_simp; try with_reducible rfl
      try simp only [Act.put, List.setIfInBounds_toArray, List.set_cons_zero, List.set_cons_succ]
      refine wpAnyH_take (i := 8) (oi := { dst := some _, op := _, type := _, pos := _, after := _, guard := _ }) (v := ?_) rfl (by kernel_rfl) (by kernel_rfl) (by kernel_rfl) (fun _ _ _ h => h) (Or.inl ⟨by rfl, ?_⟩) trivial ?_
      rotate_left 1
      · intro w hSw; go_simp; try with_reducible rfl
      try simp only [Act.put, List.setIfInBounds_toArray, List.set_cons_zero, List.set_cons_succ]
      refine wpAnyH_ready (rs := [9]) (by kernel_rfl) (by simp) ?_
      refine AllReadyH.cons (o := { dst := none, op := _, type := _, pos := _, after := _, guard := _ }) rfl (fun K hK => ?_) AllReadyH.nil
      go_simp
      refine hK.out _ _ trivial (fun hHeld => ?_)
      clear hK K hHeld
      try simp only [Act.put, List.setIfInBounds_toArray, List.set_cons_zero, List.set_cons_succ]
      refine wpAnyH_done (by kernel_rfl) ?_ _
      go_wp2
      go_region
      all_goals
        go_wp2
        refine bodyPost_ret (v := .tuple #[.agg #[.slice U1 q.g.length p1, .slice U2 q.s.length p2, .slice U3 q.n.length p3, .int .i64 q.c, .slice U4 q.d.length p4], .agg #[.slice R1 r.s.length m1, .slice R2 r.b.length m2, .slice R3 r.c.length m3, .int .i64 r.h, .int .i64 r.n, .string r.o], .int .i64 0]) (by simp [results, Try.results59, go_sem, *]) rfl ⟨_, _, rfl, ?_, HB3.out _ (datC_below HD.out ?_) ?_, ?_⟩
        · refine hostSt_now (lo := w1.heap.size) ?_
          have hq := HST3.out
          repeat (first | with_reducible exact hq | ((with_reducible refine hostSt_store ?_ ?hh); case hh => omega) | with_reducible refine hostSt_drew ?_)
        · repeat (first | with_reducible exact B3.out | with_reducible refine Below.setCell ?_ (by simp <;> omega) _ | with_reducible refine Below.drew ?_)
        · repeat (first | with_reducible exact agree_refl _ _ | ((with_reducible refine agree_old ?_ ?hh _); case hh => (have := NP.out; simp <;> omega)) | with_reducible refine agree_drew ?_)
        · repeat (first | with_reducible exact B3.out | with_reducible refine Below.setCell ?_ (by simp <;> omega) _ | with_reducible refine Below.drew ?_)
    refine AllReadyH.cons (o := { dst := some _, op := _, type := _, pos := _, after := _, guard := _ }) rfl (fun K hK => ?_) AllReadyH.nil
    go_simp
    refine (TKS.out _).mono ?_
    rintro e w5 ⟨rfl, hb5⟩
    have K5 : Hid (Below wa.heap.size wa w5) := Lib.hid (below_step (by repeat (first | with_reducible exact Below.refl _ _ | with_reducible refine below_alloc ?_ _ | with_reducible refine Below.drew ?_)) hb5)
    have zw := K5.out.size
    have LI := Lib.hid (ints_below (w := World.drew _) (show Ints (World.drew (wa.alloc (.cells #[.int .i64 v] 3))) (.slice (some ⟨wa.heap.size, 0, none⟩) 1 1) [v] from ints_oneAt wa v rfl) hb5)
    have D5 := whole_b K5.out KD.out
    obtain ⟨e0, e1, e2, e3, e4, e5⟩ := six_cells D5
    have be : w.heap.size + 1 < w5.heap.size := by omega
    clear hb5 D5
    refine hK.out _ _ trivial (fun hHeld => ?_)
    clear hK K hHeld
    try simp only [Act.put, List.setIfInBounds_toArray, List.set_cons_zero, List.set_cons_succ]
    refine wpAnyH_ready (rs := [0]) (by kernel_rfl) (by simp) ?_
    refine AllReadyH.cons (o := { dst := some _, op := _, type := _, pos := _, after := _, guard := _ }) rfl (fun K hK => ?_) AllReadyH.nil
    go_simp
    refine hK.out _ _ trivial (fun hHeld => ?_)
    clear hK K hHeld
    try simp only [Act.put, List.setIfInBounds_toArray, List.set_cons_zero, List.set_cons_succ]
    refine wpAnyH_ready (rs := [5]) (by kernel_rfl) (by simp) ?_
    refine AllReadyH.cons (o := { dst := some _, op := _, type := _, pos := _, after := _, guard := _ }) rfl (fun K hK => ?_) AllReadyH.nil
    go_simp
    refine (PUT.out _ _ _ LI.out (datC_below HD.out (below_step KB.out K5.out))).mono ?_
    rintro e w3 ⟨ux, rfl, hb3, hB3⟩
    have K3 : Hid (Below wa.heap.size wa w3) := Lib.hid (below_step K5.out hb3)
    have NP : Hid (wa.heap.size ≤ w5.heap.size) := Lib.hid (by omega)
    have B3 : Hid (Below w.heap.size w w3) := Lib.hid (below_step KB.out K3.out)
    have HST3 := Lib.hid (hostSt_below KH.out K3.out)
    have D3 := whole_b K3.out KD.out
    have T3 := whole_b K3.out KT.out
    have Y3 := whole_b K3.out KY.out
    have X3 := whole_b K3.out KX.out
    have z3 := whole_lt X3
    have hu3 := built_now hB3 (datC_below HD.out B3.out)
    simp only at hu3
    obtain ⟨R1, m1, R2, m2, R3, m3, rfl, _⟩ := datC_form hu3
    have HB3 := Lib.hid hB3
    obtain ⟨d0, d1, d2, d3, d4, d5⟩ := six_cells D3
    obtain ⟨r0, r1, r2, r3, r4⟩ := five_cells T3
    obtain ⟨y0, y1, y2, y3, y4, y5⟩ := six_cells Y3
    obtain ⟨x0_, x1_, x2_, x3_, x4_⟩ := five_cells X3
    have fd := whole_free D3
    have fr := whole_free T3
    have fy := whole_free Y3
    clear hb3 hB3 hu3 D3 T3 Y3 X3
    refine hK.out _ _ trivial (fun hHeld => ?_)
    clear hK K hHeld
    try simp only [Act.put, List.setIfInBounds_toArray, List.set_cons_zero, List.set_cons_succ]
    refine wpAnyH_take (i := 6) (oi := { dst := some _, op := _, type := _, pos := _, after := _, guard := _ }) (v := ?_) rfl (by kernel_rfl) (by kernel_rfl) (by kernel_rfl) (fun _ _ _ h => h) (Or.inl ⟨by rfl, ?_⟩) trivial ?_
    rotate_left 1
    · intro w hSw; go_simp; try with_reducible rfl
    try simp only [Act.put, List.setIfInBounds_toArray, List.set_cons_zero, List.set_cons_succ]
    refine wpAnyH_take (i := 7) (oi := { dst := some _, op := _, type := _, pos := _, after := _, guard := _ }) (v := ?_) rfl (by kernel_rfl) (by kernel_rfl) (by kernel_rfl) (fun _ _ _ h => h) (Or.inl ⟨by rfl, ?_⟩) trivial ?_
    rotate_left 1
    · intro w hSw; go_simp; try with_reducible rfl
    try simp only [Act.put, List.setIfInBounds_toArray, List.set_cons_zero, List.set_cons_succ]
    refine wpAnyH_take (i := 8) (oi := { dst := some _, op := _, type := _, pos := _, after := _, guard := _ }) (v := ?_) rfl (by kernel_rfl) (by kernel_rfl) (by kernel_rfl) (fun _ _ _ h => h) (Or.inl ⟨by rfl, ?_⟩) trivial ?_
    rotate_left 1
    · intro w hSw; go_simp; try with_reducible rfl
    try simp only [Act.put, List.setIfInBounds_toArray, List.set_cons_zero, List.set_cons_succ]
    refine wpAnyH_ready (rs := [9]) (by kernel_rfl) (by simp) ?_
    refine AllReadyH.cons (o := { dst := none, op := _, type := _, pos := _, after := _, guard := _ }) rfl (fun K hK => ?_) AllReadyH.nil
    go_simp
    refine hK.out _ _ trivial (fun hHeld => ?_)
    clear hK K hHeld
    try simp only [Act.put, List.setIfInBounds_toArray, List.set_cons_zero, List.set_cons_succ]
    refine wpAnyH_done (by kernel_rfl) ?_ _
    go_wp2
    go_region
    all_goals
      go_wp2
      refine bodyPost_ret (v := .tuple #[.agg #[.slice U1 q.g.length p1, .slice U2 q.s.length p2, .slice U3 q.n.length p3, .int .i64 q.c, .slice U4 q.d.length p4], .agg #[.slice R1 r.s.length m1, .slice R2 r.b.length m2, .slice R3 r.c.length m3, .int .i64 r.h, .int .i64 r.n, .string r.o], .int .i64 0]) (by simp [results, Try.results59, go_sem, *]) rfl ⟨_, _, rfl, ?_, HB3.out _ (datC_below HD.out ?_) ?_, ?_⟩
      · refine hostSt_now (lo := w1.heap.size) ?_
        have hq := HST3.out
        repeat (first | with_reducible exact hq | ((with_reducible refine hostSt_store ?_ ?hh); case hh => omega) | with_reducible refine hostSt_drew ?_)
      · repeat (first | with_reducible exact B3.out | with_reducible refine Below.setCell ?_ (by simp <;> omega) _ | with_reducible refine Below.drew ?_)
      · repeat (first | with_reducible exact agree_refl _ _ | ((with_reducible refine agree_old ?_ ?hh _); case hh => (have := NP.out; simp <;> omega)) | with_reducible refine agree_drew ?_)
      · repeat (first | with_reducible exact B3.out | with_reducible refine Below.setCell ?_ (by simp <;> omega) _ | with_reducible refine Below.drew ?_)
  · go_wp2_with (first
      | (go_at_call 109; refine (TKS.out _).mono ?_; rintro e w1 ⟨rfl, hb⟩
         have V1 := whole_b hb (whole_alloc (whole_alloc (whole_alloc (whole_new w _ _) _) _) _)
         have D1 := whole_b hb (whole_alloc (whole_alloc (whole_new1 w _ _ _) _) _)
         have T1 := whole_b hb (whole_alloc (whole_new2 w _ _ _ _) _)
         have Y1 := whole_b hb (whole_new3 w _ _ _ _ _)
         have B1 : Hid (Below w.heap.size w w1) := Lib.hid (below_step (below_alloc (below_alloc (below_alloc (below_alloc (Below.refl _ _) _) _) _) _) hb)
         have zy := whole_lt Y1
         obtain ⟨c0, c1, c2, c3, c4⟩ := five_cells V1
         obtain ⟨d0, d1, d2, d3, d4, d5⟩ := six_cells D1
         obtain ⟨r0, r1, r2, r3, r4⟩ := five_cells T1
         obtain ⟨y0, y1, y2, y3, y4, y5⟩ := six_cells Y1
         have fd := whole_free D1
         have fr := whole_free T1
         have fy := whole_free Y1
         have cb := cell_kept B1.out _ _ CB
         have ca := cell_kept B1.out _ _ CA
         have VV1 := Lib.hid V1
         have DD1 := Lib.hid D1
         have TT1 := Lib.hid T1
         have YY1 := Lib.hid Y1
         clear hb V1 D1 T1 Y1)
      | (go_at_call 110; refine (HDO.out _ _ (hostIn_below HH.out B1.out)).mono ?_; rintro e w2 ⟨u2, rfl, hst, hb⟩
         clear c0 c1 c2 c3 c4 d0 d1 d2 d3 d4 d5 r0 r1 r2 r3 r4 y0 y1 y2 y3 y4 y5 fd fr fy cb ca
         have B2 : Hid (Below w.heap.size w w2) := Lib.hid (below_step B1.out hb)
         have V2 := whole_b hb VV1.out
         have D2 := whole_b hb DD1.out
         have T2 := whole_b hb TT1.out
         have Y2 := whole_b hb YY1.out
         have z2 := hb.size
         have b0 : w.heap.size < w2.heap.size := by omega
         have b1 : w.heap.size + 1 < w2.heap.size := by omega
         have b2 : w.heap.size + 1 + 1 < w2.heap.size := by omega
         have b3 : w.heap.size + 1 + 1 + 1 < w2.heap.size := by omega
         obtain ⟨U1, p1, U2, p2, U3, p3, U4, p4, rfl⟩ := hostIn_form (hostSt_now hst)
         have HST := Lib.hid hst
         obtain ⟨c0, c1, c2, c3, c4⟩ := five_cells V2
         obtain ⟨d0, d1, d2, d3, d4, d5⟩ := six_cells D2
         obtain ⟨r0, r1, r2, r3, r4⟩ := five_cells T2
         obtain ⟨y0, y1, y2, y3, y4, y5⟩ := six_cells Y2
         have fd := whole_free D2
         have fr := whole_free T2
         have fy := whole_free Y2
         have DD2 := Lib.hid D2
         have TT2 := Lib.hid T2
         have YY2 := Lib.hid Y2
         clear hb hst V2 D2 T2 Y2))
    have KD := Lib.hid (whole_alloc DD2.out (.cells #[.slice U1 q.g.length p1, .slice U2 q.s.length p2, .slice U3 q.n.length p3, .int .i64 q.c, .slice U4 q.d.length p4] 27))
    have KT := Lib.hid (whole_alloc TT2.out (.cells #[.slice U1 q.g.length p1, .slice U2 q.s.length p2, .slice U3 q.n.length p3, .int .i64 q.c, .slice U4 q.d.length p4] 27))
    have KY := Lib.hid (whole_alloc YY2.out (.cells #[.slice U1 q.g.length p1, .slice U2 q.s.length p2, .slice U3 q.n.length p3, .int .i64 q.c, .slice U4 q.d.length p4] 27))
    have KX := Lib.hid (whole_new w2 27 #[.slice U1 q.g.length p1, .slice U2 q.s.length p2, .slice U3 q.n.length p3, .int .i64 q.c, .slice U4 q.d.length p4])
    have KH := Lib.hid (hostSt_alloc HST.out (.cells #[.slice U1 q.g.length p1, .slice U2 q.s.length p2, .slice U3 q.n.length p3, .int .i64 q.c, .slice U4 q.d.length p4] 27))
    have KB := Lib.hid (below_alloc B2.out (.cells #[.slice U1 q.g.length p1, .slice U2 q.s.length p2, .slice U3 q.n.length p3, .int .i64 q.c, .slice U4 q.d.length p4] 27))
    generalize w2.alloc (.cells #[.slice U1 q.g.length p1, .slice U2 q.s.length p2, .slice U3 q.n.length p3, .int .i64 q.c, .slice U4 q.d.length p4] 27) = wa at *
    have zk := whole_lt KX.out
    clear d0 d1 d2 d3 d4 d5 c0 c1 c2 c3 c4 r0 r1 r2 r3 r4 y0 y1 y2 y3 y4 y5 fd fr fy
    obtain ⟨d0, d1, d2, d3, d4, d5⟩ := six_cells KD.out
    have bd : w.heap.size + 1 < wa.heap.size := by omega
    refine wp_region_held_drew (S := fun _ => True) (by kernel_rfl) trivial (fun hHeld => ?_)
    clear hHeld
    refine wpAnyH_take (i := 1) (oi := { dst := some _, op := _, type := _, pos := _, after := _, guard := _ }) (v := ?_) rfl (by kernel_rfl) (by kernel_rfl) (by kernel_rfl) (fun _ _ _ h => h) (Or.inl ⟨by rfl, ?_⟩) trivial ?_
    rotate_left 1
    · intro w hSw; go_simp; try with_reducible rfl
    try simp only [Act.put, List.setIfInBounds_toArray, List.set_cons_zero, List.set_cons_succ]
    refine wpAnyH_take (i := 3) (oi := { dst := some _, op := _, type := _, pos := _, after := _, guard := _ }) (v := ?_) rfl (by kernel_rfl) (by kernel_rfl) (by kernel_rfl) (fun _ _ _ h => h) (Or.inl ⟨by rfl, ?_⟩) trivial ?_
    rotate_left 1
    · intro w hSw; go_simp; try with_reducible rfl
    try simp only [Act.put, List.setIfInBounds_toArray, List.set_cons_zero, List.set_cons_succ]
    refine wpAnyH_ready (rs := [0, 2, 4]) (by kernel_rfl) (by simp) ?_
    refine AllReadyH.cons (o := { dst := some _, op := _, type := _, pos := _, after := _, guard := _ }) rfl (fun K hK => ?_) ?_
    · go_simp
      refine hK.out _ _ trivial (fun hHeld => ?_)
      clear hK K hHeld
      try simp only [Act.put, List.setIfInBounds_toArray, List.set_cons_zero, List.set_cons_succ]
      refine wpAnyH_ready (rs := [2, 4]) (by kernel_rfl) (by simp) ?_
      refine AllReadyH.cons (o := { dst := some _, op := _, type := _, pos := _, after := _, guard := _ }) rfl (fun K hK => ?_) ?_
      · go_simp
        refine (TKS.out _).mono ?_
        rintro e w5 ⟨rfl, hb5⟩
        have K5 : Hid (Below wa.heap.size wa w5) := Lib.hid (below_step (by repeat (first | with_reducible exact Below.refl _ _ | with_reducible refine below_alloc ?_ _ | with_reducible refine Below.drew ?_)) hb5)
        have zw := K5.out.size
        have D5 := whole_b K5.out KD.out
        obtain ⟨e0, e1, e2, e3, e4, e5⟩ := six_cells D5
        have be : w.heap.size + 1 < w5.heap.size := by omega
        clear hb5 D5
        refine hK.out _ _ trivial (fun hHeld => ?_)
        clear hK K hHeld
        try simp only [Act.put, List.setIfInBounds_toArray, List.set_cons_zero, List.set_cons_succ]
        refine wpAnyH_ready (rs := [4]) (by kernel_rfl) (by simp) ?_
        refine AllReadyH.cons (o := { dst := some _, op := _, type := _, pos := _, after := _, guard := _ }) rfl (fun K hK => ?_) AllReadyH.nil
        go_simp
        refine hK.out _ _ trivial (fun hHeld => ?_)
        clear hK K hHeld
        try simp only [Act.put, List.setIfInBounds_toArray, List.set_cons_zero, List.set_cons_succ]
        refine wpAnyH_ready (rs := [5]) (by kernel_rfl) (by simp) ?_
        refine AllReadyH.cons (o := { dst := some _, op := _, type := _, pos := _, after := _, guard := _ }) rfl (fun K hK => ?_) AllReadyH.nil
        go_simp
        refine (PUT.out _ _ _ (by exact ints_oneAt _ _ rfl) (datC_below HD.out (below_step KB.out (below_alloc K5.out _)))).mono ?_
        rintro e w3 ⟨ux, rfl, hb3, hB3⟩
        have K3 : Hid (Below wa.heap.size wa w3) := Lib.hid (below_step (below_alloc K5.out _) hb3)
        have NP : Hid (wa.heap.size ≤ w5.heap.size + 1) := Lib.hid (by omega)
        have B3 : Hid (Below w.heap.size w w3) := Lib.hid (below_step KB.out K3.out)
        have HST3 := Lib.hid (hostSt_below KH.out K3.out)
        have D3 := whole_b K3.out KD.out
        have T3 := whole_b K3.out KT.out
        have Y3 := whole_b K3.out KY.out
        have X3 := whole_b K3.out KX.out
        have z3 := whole_lt X3
        have hu3 := built_now hB3 (datC_below HD.out B3.out)
        simp only at hu3
        obtain ⟨R1, m1, R2, m2, R3, m3, rfl, _⟩ := datC_form hu3
        have HB3 := Lib.hid hB3
        obtain ⟨d0, d1, d2, d3, d4, d5⟩ := six_cells D3
        obtain ⟨r0, r1, r2, r3, r4⟩ := five_cells T3
        obtain ⟨y0, y1, y2, y3, y4, y5⟩ := six_cells Y3
        obtain ⟨x0_, x1_, x2_, x3_, x4_⟩ := five_cells X3
        have fd := whole_free D3
        have fr := whole_free T3
        have fy := whole_free Y3
        clear hb3 hB3 hu3 D3 T3 Y3 X3
        refine hK.out _ _ trivial (fun hHeld => ?_)
        clear hK K hHeld
        try simp only [Act.put, List.setIfInBounds_toArray, List.set_cons_zero, List.set_cons_succ]
        refine wpAnyH_take (i := 6) (oi := { dst := some _, op := _, type := _, pos := _, after := _, guard := _ }) (v := ?_) rfl (by kernel_rfl) (by kernel_rfl) (by kernel_rfl) (fun _ _ _ h => h) (Or.inl ⟨by rfl, ?_⟩) trivial ?_
        rotate_left 1
        · intro w hSw; go_simp; try with_reducible rfl
        try simp only [Act.put, List.setIfInBounds_toArray, List.set_cons_zero, List.set_cons_succ]
        refine wpAnyH_take (i := 7) (oi := { dst := some _, op := _, type := _, pos := _, after := _, guard := _ }) (v := ?_) rfl (by kernel_rfl) (by kernel_rfl) (by kernel_rfl) (fun _ _ _ h => h) (Or.inl ⟨by rfl, ?_⟩) trivial ?_
        rotate_left 1
        · intro w hSw; go_simp; try with_reducible rfl
        try simp only [Act.put, List.setIfInBounds_toArray, List.set_cons_zero, List.set_cons_succ]
        refine wpAnyH_take (i := 8) (oi := { dst := some _, op := _, type := _, pos := _, after := _, guard := _ }) (v := ?_) rfl (by kernel_rfl) (by kernel_rfl) (by kernel_rfl) (fun _ _ _ h => h) (Or.inl ⟨by rfl, ?_⟩) trivial ?_
        rotate_left 1
        · intro w hSw; go_simp; try with_reducible rfl
        try simp only [Act.put, List.setIfInBounds_toArray, List.set_cons_zero, List.set_cons_succ]
        refine wpAnyH_ready (rs := [9]) (by kernel_rfl) (by simp) ?_
        refine AllReadyH.cons (o := { dst := none, op := _, type := _, pos := _, after := _, guard := _ }) rfl (fun K hK => ?_) AllReadyH.nil
        go_simp
        refine hK.out _ _ trivial (fun hHeld => ?_)
        clear hK K hHeld
        try simp only [Act.put, List.setIfInBounds_toArray, List.set_cons_zero, List.set_cons_succ]
        refine wpAnyH_done (by kernel_rfl) ?_ _
        go_wp2
        go_region
        all_goals
          go_wp2
          refine bodyPost_ret (v := .tuple #[.agg #[.slice U1 q.g.length p1, .slice U2 q.s.length p2, .slice U3 q.n.length p3, .int .i64 q.c, .slice U4 q.d.length p4], .agg #[.slice R1 r.s.length m1, .slice R2 r.b.length m2, .slice R3 r.c.length m3, .int .i64 r.h, .int .i64 r.n, .string r.o], .int .i64 0]) (by simp [results, Try.results59, go_sem, *]) rfl ⟨_, _, rfl, ?_, HB3.out _ (datC_below HD.out ?_) ?_, ?_⟩
          · refine hostSt_now (lo := w1.heap.size) ?_
            have hq := HST3.out
            repeat (first | with_reducible exact hq | ((with_reducible refine hostSt_store ?_ ?hh); case hh => omega) | with_reducible refine hostSt_drew ?_)
          · repeat (first | with_reducible exact B3.out | with_reducible refine Below.setCell ?_ (by simp <;> omega) _ | with_reducible refine Below.drew ?_)
          · repeat (first | with_reducible exact agree_refl _ _ | ((with_reducible refine agree_old ?_ ?hh _); case hh => (have := NP.out; simp <;> omega)) | with_reducible refine agree_drew ?_)
          · repeat (first | with_reducible exact B3.out | with_reducible refine Below.setCell ?_ (by simp <;> omega) _ | with_reducible refine Below.drew ?_)
      refine AllReadyH.cons (o := { dst := some _, op := _, type := _, pos := _, after := _, guard := _ }) rfl (fun K hK => ?_) AllReadyH.nil
      go_simp
      refine hK.out _ _ trivial (fun hHeld => ?_)
      clear hK K hHeld
      try simp only [Act.put, List.setIfInBounds_toArray, List.set_cons_zero, List.set_cons_succ]
      refine wpAnyH_ready (rs := [2]) (by kernel_rfl) (by simp) ?_
      refine AllReadyH.cons (o := { dst := some _, op := _, type := _, pos := _, after := _, guard := _ }) rfl (fun K hK => ?_) AllReadyH.nil
      go_simp
      refine (TKS.out _).mono ?_
      rintro e w5 ⟨rfl, hb5⟩
      have K5 : Hid (Below wa.heap.size wa w5) := Lib.hid (below_step (by repeat (first | with_reducible exact Below.refl _ _ | with_reducible refine below_alloc ?_ _ | with_reducible refine Below.drew ?_)) hb5)
      have zw := K5.out.size
      have LI := Lib.hid (ints_below (w := World.drew _) (show Ints (World.drew (wa.alloc (.cells #[.int .i64 v] 3))) (.slice (some ⟨wa.heap.size, 0, none⟩) 1 1) [v] from ints_oneAt wa v rfl) hb5)
      have D5 := whole_b K5.out KD.out
      obtain ⟨e0, e1, e2, e3, e4, e5⟩ := six_cells D5
      have be : w.heap.size + 1 < w5.heap.size := by omega
      clear hb5 D5
      refine hK.out _ _ trivial (fun hHeld => ?_)
      clear hK K hHeld
      try simp only [Act.put, List.setIfInBounds_toArray, List.set_cons_zero, List.set_cons_succ]
      refine wpAnyH_ready (rs := [5]) (by kernel_rfl) (by simp) ?_
      refine AllReadyH.cons (o := { dst := some _, op := _, type := _, pos := _, after := _, guard := _ }) rfl (fun K hK => ?_) AllReadyH.nil
      go_simp
      refine (PUT.out _ _ _ LI.out (datC_below HD.out (below_step KB.out K5.out))).mono ?_
      rintro e w3 ⟨ux, rfl, hb3, hB3⟩
      have K3 : Hid (Below wa.heap.size wa w3) := Lib.hid (below_step K5.out hb3)
      have NP : Hid (wa.heap.size ≤ w5.heap.size) := Lib.hid (by omega)
      have B3 : Hid (Below w.heap.size w w3) := Lib.hid (below_step KB.out K3.out)
      have HST3 := Lib.hid (hostSt_below KH.out K3.out)
      have D3 := whole_b K3.out KD.out
      have T3 := whole_b K3.out KT.out
      have Y3 := whole_b K3.out KY.out
      have X3 := whole_b K3.out KX.out
      have z3 := whole_lt X3
      have hu3 := built_now hB3 (datC_below HD.out B3.out)
      simp only at hu3
      obtain ⟨R1, m1, R2, m2, R3, m3, rfl, _⟩ := datC_form hu3
      have HB3 := Lib.hid hB3
      obtain ⟨d0, d1, d2, d3, d4, d5⟩ := six_cells D3
      obtain ⟨r0, r1, r2, r3, r4⟩ := five_cells T3
      obtain ⟨y0, y1, y2, y3, y4, y5⟩ := six_cells Y3
      obtain ⟨x0_, x1_, x2_, x3_, x4_⟩ := five_cells X3
      have fd := whole_free D3
      have fr := whole_free T3
      have fy := whole_free Y3
      clear hb3 hB3 hu3 D3 T3 Y3 X3
      refine hK.out _ _ trivial (fun hHeld => ?_)
      clear hK K hHeld
      try simp only [Act.put, List.setIfInBounds_toArray, List.set_cons_zero, List.set_cons_succ]
      refine wpAnyH_take (i := 6) (oi := { dst := some _, op := _, type := _, pos := _, after := _, guard := _ }) (v := ?_) rfl (by kernel_rfl) (by kernel_rfl) (by kernel_rfl) (fun _ _ _ h => h) (Or.inl ⟨by rfl, ?_⟩) trivial ?_
      rotate_left 1
      · intro w hSw; go_simp; try with_reducible rfl
      try simp only [Act.put, List.setIfInBounds_toArray, List.set_cons_zero, List.set_cons_succ]
      refine wpAnyH_take (i := 7) (oi := { dst := some _, op := _, type := _, pos := _, after := _, guard := _ }) (v := ?_) rfl (by kernel_rfl) (by kernel_rfl) (by kernel_rfl) (fun _ _ _ h => h) (Or.inl ⟨by rfl, ?_⟩) trivial ?_
      rotate_left 1
      · intro w hSw; go_simp; try with_reducible rfl
      try simp only [Act.put, List.setIfInBounds_toArray, List.set_cons_zero, List.set_cons_succ]
      refine wpAnyH_take (i := 8) (oi := { dst := some _, op := _, type := _, pos := _, after := _, guard := _ }) (v := ?_) rfl (by kernel_rfl) (by kernel_rfl) (by kernel_rfl) (fun _ _ _ h => h) (Or.inl ⟨by rfl, ?_⟩) trivial ?_
      rotate_left 1
      · intro w hSw; go_simp; try with_reducible rfl
      try simp only [Act.put, List.setIfInBounds_toArray, List.set_cons_zero, List.set_cons_succ]
      refine wpAnyH_ready (rs := [9]) (by kernel_rfl) (by simp) ?_
      refine AllReadyH.cons (o := { dst := none, op := _, type := _, pos := _, after := _, guard := _ }) rfl (fun K hK => ?_) AllReadyH.nil
      go_simp
      refine hK.out _ _ trivial (fun hHeld => ?_)
      clear hK K hHeld
      try simp only [Act.put, List.setIfInBounds_toArray, List.set_cons_zero, List.set_cons_succ]
      refine wpAnyH_done (by kernel_rfl) ?_ _
      go_wp2
      go_region
      all_goals
        go_wp2
        refine bodyPost_ret (v := .tuple #[.agg #[.slice U1 q.g.length p1, .slice U2 q.s.length p2, .slice U3 q.n.length p3, .int .i64 q.c, .slice U4 q.d.length p4], .agg #[.slice R1 r.s.length m1, .slice R2 r.b.length m2, .slice R3 r.c.length m3, .int .i64 r.h, .int .i64 r.n, .string r.o], .int .i64 0]) (by simp [results, Try.results59, go_sem, *]) rfl ⟨_, _, rfl, ?_, HB3.out _ (datC_below HD.out ?_) ?_, ?_⟩
        · refine hostSt_now (lo := w1.heap.size) ?_
          have hq := HST3.out
          repeat (first | with_reducible exact hq | ((with_reducible refine hostSt_store ?_ ?hh); case hh => omega) | with_reducible refine hostSt_drew ?_)
        · repeat (first | with_reducible exact B3.out | with_reducible refine Below.setCell ?_ (by simp <;> omega) _ | with_reducible refine Below.drew ?_)
        · repeat (first | with_reducible exact agree_refl _ _ | ((with_reducible refine agree_old ?_ ?hh _); case hh => (have := NP.out; simp <;> omega)) | with_reducible refine agree_drew ?_)
        · repeat (first | with_reducible exact B3.out | with_reducible refine Below.setCell ?_ (by simp <;> omega) _ | with_reducible refine Below.drew ?_)
    refine AllReadyH.cons (o := { dst := some _, op := _, type := _, pos := _, after := _, guard := _ }) rfl (fun K hK => ?_) ?_
    · go_simp
      refine (TKS.out _).mono ?_
      rintro e w5 ⟨rfl, hb5⟩
      have K5 : Hid (Below wa.heap.size wa w5) := Lib.hid (below_step (by repeat (first | with_reducible exact Below.refl _ _ | with_reducible refine below_alloc ?_ _ | with_reducible refine Below.drew ?_)) hb5)
      have zw := K5.out.size
      have D5 := whole_b K5.out KD.out
      obtain ⟨e0, e1, e2, e3, e4, e5⟩ := six_cells D5
      have be : w.heap.size + 1 < w5.heap.size := by omega
      clear hb5 D5
      refine hK.out _ _ trivial (fun hHeld => ?_)
      clear hK K hHeld
      try simp only [Act.put, List.setIfInBounds_toArray, List.set_cons_zero, List.set_cons_succ]
      refine wpAnyH_ready (rs := [0, 4]) (by kernel_rfl) (by simp) ?_
      refine AllReadyH.cons (o := { dst := some _, op := _, type := _, pos := _, after := _, guard := _ }) rfl (fun K hK => ?_) ?_
      · go_simp
        refine hK.out _ _ trivial (fun hHeld => ?_)
        clear hK K hHeld
        try simp only [Act.put, List.setIfInBounds_toArray, List.set_cons_zero, List.set_cons_succ]
        refine wpAnyH_ready (rs := [4]) (by kernel_rfl) (by simp) ?_
        refine AllReadyH.cons (o := { dst := some _, op := _, type := _, pos := _, after := _, guard := _ }) rfl (fun K hK => ?_) AllReadyH.nil
        go_simp
        refine hK.out _ _ trivial (fun hHeld => ?_)
        clear hK K hHeld
        try simp only [Act.put, List.setIfInBounds_toArray, List.set_cons_zero, List.set_cons_succ]
        refine wpAnyH_ready (rs := [5]) (by kernel_rfl) (by simp) ?_
        refine AllReadyH.cons (o := { dst := some _, op := _, type := _, pos := _, after := _, guard := _ }) rfl (fun K hK => ?_) AllReadyH.nil
        go_simp
        refine (PUT.out _ _ _ (by exact ints_oneAt _ _ rfl) (datC_below HD.out (below_step KB.out (below_alloc K5.out _)))).mono ?_
        rintro e w3 ⟨ux, rfl, hb3, hB3⟩
        have K3 : Hid (Below wa.heap.size wa w3) := Lib.hid (below_step (below_alloc K5.out _) hb3)
        have NP : Hid (wa.heap.size ≤ w5.heap.size + 1) := Lib.hid (by omega)
        have B3 : Hid (Below w.heap.size w w3) := Lib.hid (below_step KB.out K3.out)
        have HST3 := Lib.hid (hostSt_below KH.out K3.out)
        have D3 := whole_b K3.out KD.out
        have T3 := whole_b K3.out KT.out
        have Y3 := whole_b K3.out KY.out
        have X3 := whole_b K3.out KX.out
        have z3 := whole_lt X3
        have hu3 := built_now hB3 (datC_below HD.out B3.out)
        simp only at hu3
        obtain ⟨R1, m1, R2, m2, R3, m3, rfl, _⟩ := datC_form hu3
        have HB3 := Lib.hid hB3
        obtain ⟨d0, d1, d2, d3, d4, d5⟩ := six_cells D3
        obtain ⟨r0, r1, r2, r3, r4⟩ := five_cells T3
        obtain ⟨y0, y1, y2, y3, y4, y5⟩ := six_cells Y3
        obtain ⟨x0_, x1_, x2_, x3_, x4_⟩ := five_cells X3
        have fd := whole_free D3
        have fr := whole_free T3
        have fy := whole_free Y3
        clear hb3 hB3 hu3 D3 T3 Y3 X3
        refine hK.out _ _ trivial (fun hHeld => ?_)
        clear hK K hHeld
        try simp only [Act.put, List.setIfInBounds_toArray, List.set_cons_zero, List.set_cons_succ]
        refine wpAnyH_take (i := 6) (oi := { dst := some _, op := _, type := _, pos := _, after := _, guard := _ }) (v := ?_) rfl (by kernel_rfl) (by kernel_rfl) (by kernel_rfl) (fun _ _ _ h => h) (Or.inl ⟨by rfl, ?_⟩) trivial ?_
        rotate_left 1
        · intro w hSw; go_simp; try with_reducible rfl
        try simp only [Act.put, List.setIfInBounds_toArray, List.set_cons_zero, List.set_cons_succ]
        refine wpAnyH_take (i := 7) (oi := { dst := some _, op := _, type := _, pos := _, after := _, guard := _ }) (v := ?_) rfl (by kernel_rfl) (by kernel_rfl) (by kernel_rfl) (fun _ _ _ h => h) (Or.inl ⟨by rfl, ?_⟩) trivial ?_
        rotate_left 1
        · intro w hSw; go_simp; try with_reducible rfl
        try simp only [Act.put, List.setIfInBounds_toArray, List.set_cons_zero, List.set_cons_succ]
        refine wpAnyH_take (i := 8) (oi := { dst := some _, op := _, type := _, pos := _, after := _, guard := _ }) (v := ?_) rfl (by kernel_rfl) (by kernel_rfl) (by kernel_rfl) (fun _ _ _ h => h) (Or.inl ⟨by rfl, ?_⟩) trivial ?_
        rotate_left 1
        · intro w hSw; go_simp; try with_reducible rfl
        try simp only [Act.put, List.setIfInBounds_toArray, List.set_cons_zero, List.set_cons_succ]
        refine wpAnyH_ready (rs := [9]) (by kernel_rfl) (by simp) ?_
        refine AllReadyH.cons (o := { dst := none, op := _, type := _, pos := _, after := _, guard := _ }) rfl (fun K hK => ?_) AllReadyH.nil
        go_simp
        refine hK.out _ _ trivial (fun hHeld => ?_)
        clear hK K hHeld
        try simp only [Act.put, List.setIfInBounds_toArray, List.set_cons_zero, List.set_cons_succ]
        refine wpAnyH_done (by kernel_rfl) ?_ _
        go_wp2
        go_region
        all_goals
          go_wp2
          refine bodyPost_ret (v := .tuple #[.agg #[.slice U1 q.g.length p1, .slice U2 q.s.length p2, .slice U3 q.n.length p3, .int .i64 q.c, .slice U4 q.d.length p4], .agg #[.slice R1 r.s.length m1, .slice R2 r.b.length m2, .slice R3 r.c.length m3, .int .i64 r.h, .int .i64 r.n, .string r.o], .int .i64 0]) (by simp [results, Try.results59, go_sem, *]) rfl ⟨_, _, rfl, ?_, HB3.out _ (datC_below HD.out ?_) ?_, ?_⟩
          · refine hostSt_now (lo := w1.heap.size) ?_
            have hq := HST3.out
            repeat (first | with_reducible exact hq | ((with_reducible refine hostSt_store ?_ ?hh); case hh => omega) | with_reducible refine hostSt_drew ?_)
          · repeat (first | with_reducible exact B3.out | with_reducible refine Below.setCell ?_ (by simp <;> omega) _ | with_reducible refine Below.drew ?_)
          · repeat (first | with_reducible exact agree_refl _ _ | ((with_reducible refine agree_old ?_ ?hh _); case hh => (have := NP.out; simp <;> omega)) | with_reducible refine agree_drew ?_)
          · repeat (first | with_reducible exact B3.out | with_reducible refine Below.setCell ?_ (by simp <;> omega) _ | with_reducible refine Below.drew ?_)
      refine AllReadyH.cons (o := { dst := some _, op := _, type := _, pos := _, after := _, guard := _ }) rfl (fun K hK => ?_) AllReadyH.nil
      go_simp
      refine hK.out _ _ trivial (fun hHeld => ?_)
      clear hK K hHeld
      try simp only [Act.put, List.setIfInBounds_toArray, List.set_cons_zero, List.set_cons_succ]
      refine wpAnyH_ready (rs := [0]) (by kernel_rfl) (by simp) ?_
      refine AllReadyH.cons (o := { dst := some _, op := _, type := _, pos := _, after := _, guard := _ }) rfl (fun K hK => ?_) AllReadyH.nil
      go_simp
      refine hK.out _ _ trivial (fun hHeld => ?_)
      clear hK K hHeld
      try simp only [Act.put, List.setIfInBounds_toArray, List.set_cons_zero, List.set_cons_succ]
      refine wpAnyH_ready (rs := [5]) (by kernel_rfl) (by simp) ?_
      refine AllReadyH.cons (o := { dst := some _, op := _, type := _, pos := _, after := _, guard := _ }) rfl (fun K hK => ?_) AllReadyH.nil
      go_simp
      refine (PUT.out _ _ _ (by exact ints_oneAt _ _ rfl) (datC_below HD.out (below_step KB.out (below_alloc K5.out _)))).mono ?_
      rintro e w3 ⟨ux, rfl, hb3, hB3⟩
      have K3 : Hid (Below wa.heap.size wa w3) := Lib.hid (below_step (below_alloc K5.out _) hb3)
      have NP : Hid (wa.heap.size ≤ w5.heap.size + 1) := Lib.hid (by omega)
      have B3 : Hid (Below w.heap.size w w3) := Lib.hid (below_step KB.out K3.out)
      have HST3 := Lib.hid (hostSt_below KH.out K3.out)
      have D3 := whole_b K3.out KD.out
      have T3 := whole_b K3.out KT.out
      have Y3 := whole_b K3.out KY.out
      have X3 := whole_b K3.out KX.out
      have z3 := whole_lt X3
      have hu3 := built_now hB3 (datC_below HD.out B3.out)
      simp only at hu3
      obtain ⟨R1, m1, R2, m2, R3, m3, rfl, _⟩ := datC_form hu3
      have HB3 := Lib.hid hB3
      obtain ⟨d0, d1, d2, d3, d4, d5⟩ := six_cells D3
      obtain ⟨r0, r1, r2, r3, r4⟩ := five_cells T3
      obtain ⟨y0, y1, y2, y3, y4, y5⟩ := six_cells Y3
      obtain ⟨x0_, x1_, x2_, x3_, x4_⟩ := five_cells X3
      have fd := whole_free D3
      have fr := whole_free T3
      have fy := whole_free Y3
      clear hb3 hB3 hu3 D3 T3 Y3 X3
      refine hK.out _ _ trivial (fun hHeld => ?_)
      clear hK K hHeld
      try simp only [Act.put, List.setIfInBounds_toArray, List.set_cons_zero, List.set_cons_succ]
      refine wpAnyH_take (i := 6) (oi := { dst := some _, op := _, type := _, pos := _, after := _, guard := _ }) (v := ?_) rfl (by kernel_rfl) (by kernel_rfl) (by kernel_rfl) (fun _ _ _ h => h) (Or.inl ⟨by rfl, ?_⟩) trivial ?_
      rotate_left 1
      · intro w hSw; go_simp; try with_reducible rfl
      try simp only [Act.put, List.setIfInBounds_toArray, List.set_cons_zero, List.set_cons_succ]
      refine wpAnyH_take (i := 7) (oi := { dst := some _, op := _, type := _, pos := _, after := _, guard := _ }) (v := ?_) rfl (by kernel_rfl) (by kernel_rfl) (by kernel_rfl) (fun _ _ _ h => h) (Or.inl ⟨by rfl, ?_⟩) trivial ?_
      rotate_left 1
      · intro w hSw; go_simp; try with_reducible rfl
      try simp only [Act.put, List.setIfInBounds_toArray, List.set_cons_zero, List.set_cons_succ]
      refine wpAnyH_take (i := 8) (oi := { dst := some _, op := _, type := _, pos := _, after := _, guard := _ }) (v := ?_) rfl (by kernel_rfl) (by kernel_rfl) (by kernel_rfl) (fun _ _ _ h => h) (Or.inl ⟨by rfl, ?_⟩) trivial ?_
      rotate_left 1
      · intro w hSw; go_simp; try with_reducible rfl
      try simp only [Act.put, List.setIfInBounds_toArray, List.set_cons_zero, List.set_cons_succ]
      refine wpAnyH_ready (rs := [9]) (by kernel_rfl) (by simp) ?_
      refine AllReadyH.cons (o := { dst := none, op := _, type := _, pos := _, after := _, guard := _ }) rfl (fun K hK => ?_) AllReadyH.nil
      go_simp
      refine hK.out _ _ trivial (fun hHeld => ?_)
      clear hK K hHeld
      try simp only [Act.put, List.setIfInBounds_toArray, List.set_cons_zero, List.set_cons_succ]
      refine wpAnyH_done (by kernel_rfl) ?_ _
      go_wp2
      go_region
      all_goals
        go_wp2
        refine bodyPost_ret (v := .tuple #[.agg #[.slice U1 q.g.length p1, .slice U2 q.s.length p2, .slice U3 q.n.length p3, .int .i64 q.c, .slice U4 q.d.length p4], .agg #[.slice R1 r.s.length m1, .slice R2 r.b.length m2, .slice R3 r.c.length m3, .int .i64 r.h, .int .i64 r.n, .string r.o], .int .i64 0]) (by simp [results, Try.results59, go_sem, *]) rfl ⟨_, _, rfl, ?_, HB3.out _ (datC_below HD.out ?_) ?_, ?_⟩
        · refine hostSt_now (lo := w1.heap.size) ?_
          have hq := HST3.out
          repeat (first | with_reducible exact hq | ((with_reducible refine hostSt_store ?_ ?hh); case hh => omega) | with_reducible refine hostSt_drew ?_)
        · repeat (first | with_reducible exact B3.out | with_reducible refine Below.setCell ?_ (by simp <;> omega) _ | with_reducible refine Below.drew ?_)
        · repeat (first | with_reducible exact agree_refl _ _ | ((with_reducible refine agree_old ?_ ?hh _); case hh => (have := NP.out; simp <;> omega)) | with_reducible refine agree_drew ?_)
        · repeat (first | with_reducible exact B3.out | with_reducible refine Below.setCell ?_ (by simp <;> omega) _ | with_reducible refine Below.drew ?_)
    refine AllReadyH.cons (o := { dst := some _, op := _, type := _, pos := _, after := _, guard := _ }) rfl (fun K hK => ?_) AllReadyH.nil
    go_simp
    refine hK.out _ _ trivial (fun hHeld => ?_)
    clear hK K hHeld
    try simp only [Act.put, List.setIfInBounds_toArray, List.set_cons_zero, List.set_cons_succ]
    refine wpAnyH_ready (rs := [0, 2]) (by kernel_rfl) (by simp) ?_
    refine AllReadyH.cons (o := { dst := some _, op := _, type := _, pos := _, after := _, guard := _ }) rfl (fun K hK => ?_) ?_
    · go_simp
      refine hK.out _ _ trivial (fun hHeld => ?_)
      clear hK K hHeld
      try simp only [Act.put, List.setIfInBounds_toArray, List.set_cons_zero, List.set_cons_succ]
      refine wpAnyH_ready (rs := [2]) (by kernel_rfl) (by simp) ?_
      refine AllReadyH.cons (o := { dst := some _, op := _, type := _, pos := _, after := _, guard := _ }) rfl (fun K hK => ?_) AllReadyH.nil
      go_simp
      refine (TKS.out _).mono ?_
      rintro e w5 ⟨rfl, hb5⟩
      have K5 : Hid (Below wa.heap.size wa w5) := Lib.hid (below_step (by repeat (first | with_reducible exact Below.refl _ _ | with_reducible refine below_alloc ?_ _ | with_reducible refine Below.drew ?_)) hb5)
      have zw := K5.out.size
      have LI := Lib.hid (ints_below (w := World.drew _) (show Ints (World.drew (wa.alloc (.cells #[.int .i64 v] 3))) (.slice (some ⟨wa.heap.size, 0, none⟩) 1 1) [v] from ints_oneAt wa v rfl) hb5)
      have D5 := whole_b K5.out KD.out
      obtain ⟨e0, e1, e2, e3, e4, e5⟩ := six_cells D5
      have be : w.heap.size + 1 < w5.heap.size := by omega
      clear hb5 D5
      refine hK.out _ _ trivial (fun hHeld => ?_)
      clear hK K hHeld
      try simp only [Act.put, List.setIfInBounds_toArray, List.set_cons_zero, List.set_cons_succ]
      refine wpAnyH_ready (rs := [5]) (by kernel_rfl) (by simp) ?_
      refine AllReadyH.cons (o := { dst := some _, op := _, type := _, pos := _, after := _, guard := _ }) rfl (fun K hK => ?_) AllReadyH.nil
      go_simp
      refine (PUT.out _ _ _ LI.out (datC_below HD.out (below_step KB.out K5.out))).mono ?_
      rintro e w3 ⟨ux, rfl, hb3, hB3⟩
      have K3 : Hid (Below wa.heap.size wa w3) := Lib.hid (below_step K5.out hb3)
      have NP : Hid (wa.heap.size ≤ w5.heap.size) := Lib.hid (by omega)
      have B3 : Hid (Below w.heap.size w w3) := Lib.hid (below_step KB.out K3.out)
      have HST3 := Lib.hid (hostSt_below KH.out K3.out)
      have D3 := whole_b K3.out KD.out
      have T3 := whole_b K3.out KT.out
      have Y3 := whole_b K3.out KY.out
      have X3 := whole_b K3.out KX.out
      have z3 := whole_lt X3
      have hu3 := built_now hB3 (datC_below HD.out B3.out)
      simp only at hu3
      obtain ⟨R1, m1, R2, m2, R3, m3, rfl, _⟩ := datC_form hu3
      have HB3 := Lib.hid hB3
      obtain ⟨d0, d1, d2, d3, d4, d5⟩ := six_cells D3
      obtain ⟨r0, r1, r2, r3, r4⟩ := five_cells T3
      obtain ⟨y0, y1, y2, y3, y4, y5⟩ := six_cells Y3
      obtain ⟨x0_, x1_, x2_, x3_, x4_⟩ := five_cells X3
      have fd := whole_free D3
      have fr := whole_free T3
      have fy := whole_free Y3
      clear hb3 hB3 hu3 D3 T3 Y3 X3
      refine hK.out _ _ trivial (fun hHeld => ?_)
      clear hK K hHeld
      try simp only [Act.put, List.setIfInBounds_toArray, List.set_cons_zero, List.set_cons_succ]
      refine wpAnyH_take (i := 6) (oi := { dst := some _, op := _, type := _, pos := _, after := _, guard := _ }) (v := ?_) rfl (by kernel_rfl) (by kernel_rfl) (by kernel_rfl) (fun _ _ _ h => h) (Or.inl ⟨by rfl, ?_⟩) trivial ?_
      rotate_left 1
      · intro w hSw; go_simp; try with_reducible rfl
      try simp only [Act.put, List.setIfInBounds_toArray, List.set_cons_zero, List.set_cons_succ]
      refine wpAnyH_take (i := 7) (oi := { dst := some _, op := _, type := _, pos := _, after := _, guard := _ }) (v := ?_) rfl (by kernel_rfl) (by kernel_rfl) (by kernel_rfl) (fun _ _ _ h => h) (Or.inl ⟨by rfl, ?_⟩) trivial ?_
      rotate_left 1
      · intro w hSw; go_simp; try with_reducible rfl
      try simp only [Act.put, List.setIfInBounds_toArray, List.set_cons_zero, List.set_cons_succ]
      refine wpAnyH_take (i := 8) (oi := { dst := some _, op := _, type := _, pos := _, after := _, guard := _ }) (v := ?_) rfl (by kernel_rfl) (by kernel_rfl) (by kernel_rfl) (fun _ _ _ h => h) (Or.inl ⟨by rfl, ?_⟩) trivial ?_
      rotate_left 1
      · intro w hSw; go_simp; try with_reducible rfl
      try simp only [Act.put, List.setIfInBounds_toArray, List.set_cons_zero, List.set_cons_succ]
      refine wpAnyH_ready (rs := [9]) (by kernel_rfl) (by simp) ?_
      refine AllReadyH.cons (o := { dst := none, op := _, type := _, pos := _, after := _, guard := _ }) rfl (fun K hK => ?_) AllReadyH.nil
      go_simp
      refine hK.out _ _ trivial (fun hHeld => ?_)
      clear hK K hHeld
      try simp only [Act.put, List.setIfInBounds_toArray, List.set_cons_zero, List.set_cons_succ]
      refine wpAnyH_done (by kernel_rfl) ?_ _
      go_wp2
      go_region
      all_goals
        go_wp2
        refine bodyPost_ret (v := .tuple #[.agg #[.slice U1 q.g.length p1, .slice U2 q.s.length p2, .slice U3 q.n.length p3, .int .i64 q.c, .slice U4 q.d.length p4], .agg #[.slice R1 r.s.length m1, .slice R2 r.b.length m2, .slice R3 r.c.length m3, .int .i64 r.h, .int .i64 r.n, .string r.o], .int .i64 0]) (by simp [results, Try.results59, go_sem, *]) rfl ⟨_, _, rfl, ?_, HB3.out _ (datC_below HD.out ?_) ?_, ?_⟩
        · refine hostSt_now (lo := w1.heap.size) ?_
          have hq := HST3.out
          repeat (first | with_reducible exact hq | ((with_reducible refine hostSt_store ?_ ?hh); case hh => omega) | with_reducible refine hostSt_drew ?_)
        · repeat (first | with_reducible exact B3.out | with_reducible refine Below.setCell ?_ (by simp <;> omega) _ | with_reducible refine Below.drew ?_)
        · repeat (first | with_reducible exact agree_refl _ _ | ((with_reducible refine agree_old ?_ ?hh _); case hh => (have := NP.out; simp <;> omega)) | with_reducible refine agree_drew ?_)
        · repeat (first | with_reducible exact B3.out | with_reducible refine Below.setCell ?_ (by simp <;> omega) _ | with_reducible refine Below.drew ?_)
    refine AllReadyH.cons (o := { dst := some _, op := _, type := _, pos := _, after := _, guard := _ }) rfl (fun K hK => ?_) AllReadyH.nil
    go_simp
    refine (TKS.out _).mono ?_
    rintro e w5 ⟨rfl, hb5⟩
    have K5 : Hid (Below wa.heap.size wa w5) := Lib.hid (below_step (by repeat (first | with_reducible exact Below.refl _ _ | with_reducible refine below_alloc ?_ _ | with_reducible refine Below.drew ?_)) hb5)
    have zw := K5.out.size
    have LI := Lib.hid (ints_below (w := World.drew _) (show Ints (World.drew (wa.alloc (.cells #[.int .i64 v] 3))) (.slice (some ⟨wa.heap.size, 0, none⟩) 1 1) [v] from ints_oneAt wa v rfl) hb5)
    have D5 := whole_b K5.out KD.out
    obtain ⟨e0, e1, e2, e3, e4, e5⟩ := six_cells D5
    have be : w.heap.size + 1 < w5.heap.size := by omega
    clear hb5 D5
    refine hK.out _ _ trivial (fun hHeld => ?_)
    clear hK K hHeld
    try simp only [Act.put, List.setIfInBounds_toArray, List.set_cons_zero, List.set_cons_succ]
    refine wpAnyH_ready (rs := [0]) (by kernel_rfl) (by simp) ?_
    refine AllReadyH.cons (o := { dst := some _, op := _, type := _, pos := _, after := _, guard := _ }) rfl (fun K hK => ?_) AllReadyH.nil
    go_simp
    refine hK.out _ _ trivial (fun hHeld => ?_)
    clear hK K hHeld
    try simp only [Act.put, List.setIfInBounds_toArray, List.set_cons_zero, List.set_cons_succ]
    refine wpAnyH_ready (rs := [5]) (by kernel_rfl) (by simp) ?_
    refine AllReadyH.cons (o := { dst := some _, op := _, type := _, pos := _, after := _, guard := _ }) rfl (fun K hK => ?_) AllReadyH.nil
    go_simp
    refine (PUT.out _ _ _ LI.out (datC_below HD.out (below_step KB.out K5.out))).mono ?_
    rintro e w3 ⟨ux, rfl, hb3, hB3⟩
    have K3 : Hid (Below wa.heap.size wa w3) := Lib.hid (below_step K5.out hb3)
    have NP : Hid (wa.heap.size ≤ w5.heap.size) := Lib.hid (by omega)
    have B3 : Hid (Below w.heap.size w w3) := Lib.hid (below_step KB.out K3.out)
    have HST3 := Lib.hid (hostSt_below KH.out K3.out)
    have D3 := whole_b K3.out KD.out
    have T3 := whole_b K3.out KT.out
    have Y3 := whole_b K3.out KY.out
    have X3 := whole_b K3.out KX.out
    have z3 := whole_lt X3
    have hu3 := built_now hB3 (datC_below HD.out B3.out)
    simp only at hu3
    obtain ⟨R1, m1, R2, m2, R3, m3, rfl, _⟩ := datC_form hu3
    have HB3 := Lib.hid hB3
    obtain ⟨d0, d1, d2, d3, d4, d5⟩ := six_cells D3
    obtain ⟨r0, r1, r2, r3, r4⟩ := five_cells T3
    obtain ⟨y0, y1, y2, y3, y4, y5⟩ := six_cells Y3
    obtain ⟨x0_, x1_, x2_, x3_, x4_⟩ := five_cells X3
    have fd := whole_free D3
    have fr := whole_free T3
    have fy := whole_free Y3
    clear hb3 hB3 hu3 D3 T3 Y3 X3
    refine hK.out _ _ trivial (fun hHeld => ?_)
    clear hK K hHeld
    try simp only [Act.put, List.setIfInBounds_toArray, List.set_cons_zero, List.set_cons_succ]
    refine wpAnyH_take (i := 6) (oi := { dst := some _, op := _, type := _, pos := _, after := _, guard := _ }) (v := ?_) rfl (by kernel_rfl) (by kernel_rfl) (by kernel_rfl) (fun _ _ _ h => h) (Or.inl ⟨by rfl, ?_⟩) trivial ?_
    rotate_left 1
    · intro w hSw; go_simp; try with_reducible rfl
    try simp only [Act.put, List.setIfInBounds_toArray, List.set_cons_zero, List.set_cons_succ]
    refine wpAnyH_take (i := 7) (oi := { dst := some _, op := _, type := _, pos := _, after := _, guard := _ }) (v := ?_) rfl (by kernel_rfl) (by kernel_rfl) (by kernel_rfl) (fun _ _ _ h => h) (Or.inl ⟨by rfl, ?_⟩) trivial ?_
    rotate_left 1
    · intro w hSw; go_simp; try with_reducible rfl
    try simp only [Act.put, List.setIfInBounds_toArray, List.set_cons_zero, List.set_cons_succ]
    refine wpAnyH_take (i := 8) (oi := { dst := some _, op := _, type := _, pos := _, after := _, guard := _ }) (v := ?_) rfl (by kernel_rfl) (by kernel_rfl) (by kernel_rfl) (fun _ _ _ h => h) (Or.inl ⟨by rfl, ?_⟩) trivial ?_
    rotate_left 1
    · intro w hSw; go_simp; try with_reducible rfl
    try simp only [Act.put, List.setIfInBounds_toArray, List.set_cons_zero, List.set_cons_succ]
    refine wpAnyH_ready (rs := [9]) (by kernel_rfl) (by simp) ?_
    refine AllReadyH.cons (o := { dst := none, op := _, type := _, pos := _, after := _, guard := _ }) rfl (fun K hK => ?_) AllReadyH.nil
    go_simp
    refine hK.out _ _ trivial (fun hHeld => ?_)
    clear hK K hHeld
    try simp only [Act.put, List.setIfInBounds_toArray, List.set_cons_zero, List.set_cons_succ]
    refine wpAnyH_done (by kernel_rfl) ?_ _
    go_wp2
    go_region
    all_goals
      go_wp2
      refine bodyPost_ret (v := .tuple #[.agg #[.slice U1 q.g.length p1, .slice U2 q.s.length p2, .slice U3 q.n.length p3, .int .i64 q.c, .slice U4 q.d.length p4], .agg #[.slice R1 r.s.length m1, .slice R2 r.b.length m2, .slice R3 r.c.length m3, .int .i64 r.h, .int .i64 r.n, .string r.o], .int .i64 0]) (by simp [results, Try.results59, go_sem, *]) rfl ⟨_, _, rfl, ?_, HB3.out _ (datC_below HD.out ?_) ?_, ?_⟩
      · refine hostSt_now (lo := w1.heap.size) ?_
        have hq := HST3.out
        repeat (first | with_reducible exact hq | ((with_reducible refine hostSt_store ?_ ?hh); case hh => omega) | with_reducible refine hostSt_drew ?_)
      · repeat (first | with_reducible exact B3.out | with_reducible refine Below.setCell ?_ (by simp <;> omega) _ | with_reducible refine Below.drew ?_)
      · repeat (first | with_reducible exact agree_refl _ _ | ((with_reducible refine agree_old ?_ ?hh _); case hh => (have := NP.out; simp <;> omega)) | with_reducible refine agree_drew ?_)
      · repeat (first | with_reducible exact B3.out | with_reducible refine Below.setCell ?_ (by simp <;> omega) _ | with_reducible refine Below.drew ?_)

end Go.Proofs.Ytkcogfgjabemfaa

namespace Go.Proofs.Ytkcogfgjabemfaa
open Go.RowKit
set_option linter.unusedVariables false
set_option linter.unusedSimpArgs false

set_option maxRecDepth 100000 in
theorem sCall_any (vh vd : Value) (h : Ht) (d : Dt) (c : Nat) (w : World) (hh : HostIn w vh h) (hd : DatC w vd d) (hf : HtFine h) (df : DtFine d) (hc : c < 4) :
    Calls Try.prog 59 #[vh, vd, .int .i64 c] w (HMidOf w (hCall h d c)) := by
  unfold hCall
  by_cases hg : h.g.getD c false = false
  · rw [if_pos hg]; exact sCall_denied vh vd h d c w hh hd hf df hc hg
  rw [if_neg hg]
  have hg' : h.g.getD c false = true := by cases q : h.g.getD c false; exact absurd q hg; rfl
  by_cases hq : h.d.length = 40
  · rw [if_pos hq]; exact sCall_full vh vd h d c w hh hd hf df hc hg' hq
  rw [if_neg hq]
  by_cases hu : d.s.length < capTakes c
  · rw [if_pos hu]; exact sCall_under vh vd h d c w hh hd hf df hc hg' hq hu
  rw [if_neg hu]
  by_cases ho : c = 3 ∧ d.s.length = 32
  · rw [if_pos ho]; exact sCall_over vh vd h d c w hh hd hf df hc hg' hq ho.1 ho.2 hu
  rw [if_neg ho]
  obtain ⟨q, v, th, hdo⟩ : ∃ q v th, hDo h c (tp d 1) (tp d 0) = (q, v, th) := ⟨_, _, _, rfl⟩
  rw [hdo]
  by_cases hth : th = 0
  · rw [if_neg (by simpa using hth)]
    by_cases hc1 : c = 1
    · rw [if_pos hc1]
      have hl : 2 ≤ d.s.length := by subst hc1; have : capTakes 1 = 2 := rfl; omega
      exact sCall_F2 vh vd h d c q v th w hh hd hf df hc hg' hq hu ho hl hdo hth hc1
    · rw [if_neg hc1]
      by_cases h0 : d.s.length = 0
      · exact sCall_G0 vh vd h d c q v th w hh hd hf df hc hg' hq hu ho h0 hdo hth hc1
      by_cases h1 : d.s.length = 1
      · exact sCall_G1 vh vd h d c q v th w hh hd hf df hc hg' hq hu ho h1 hdo hth hc1
      exact sCall_G2 vh vd h d c q v th w hh hd hf df hc hg' hq hu ho (by omega) hdo hth hc1
  · rw [if_pos hth]
    by_cases h0 : d.s.length = 0
    · exact sCall_E0 vh vd h d c q v th w hh hd hf df hc hg' hq hu ho h0 hdo hth
    by_cases h1 : d.s.length = 1
    · exact sCall_E1 vh vd h d c q v th w hh hd hf df hc hg' hq hu ho h1 hdo hth
    exact sCall_E2 vh vd h d c q v th w hh hd hf df hc hg' hq hu ho (by omega) hdo hth

end Go.Proofs.Ytkcogfgjabemfaa
