/- The law on an added word, walked. -/
import Derived.Test.YtdinnhebaldnaaaDoorDicA
import Derived.Deep.RegionHeld3
import Derived.Deep.DeepMust
namespace Go.Proofs.YtdinnhebaldnaaaDoor
open Go.RowKit
set_option linter.unusedVariables false
set_option linter.unusedSimpArgs false

theorem brow_len {w : World} {a : Option Addr} {len cap : Nat} {zs : List Int} (h : BRow w a len cap zs) : len ≤ maxLen := by
  rcases h with ⟨_, h, _⟩ | ⟨x, _, h1, h2, _⟩
  · rw [h]; exact Nat.zero_le _
  · omega

set_option maxRecDepth 100000 in
theorem dict_long1 (a0 : Option Addr) (len0 cap0 : Nat) (a1 : Option Addr) (len1 cap1 : Nat) (w : World) (h : 1048576 < len0) (hm : len0 ≤ maxLen) :
    Calls Tryd.prog 3 #[.slice a0 len0 cap0, .slice a1 len1 cap1] w fun e w' => e = .returned (.bool true) ∧ Below w.heap.size w w' := by
  have t0 : decide ((1048576 : Int) < (len0 : Int)) = true := decide_eq_true (by omega)
  go_enter Tryd.func3, Tryd.ntmps3
  go_wp2
  go_ret
  exact ⟨rfl, Below.refl _ _⟩

set_option maxRecDepth 100000 in
theorem dict_long2 (a0 : Option Addr) (len0 cap0 : Nat) (a1 : Option Addr) (len1 cap1 : Nat) (w : World) (h : len0 ≤ 1048576) (h2 : 1048576 < len1) :
    Calls Tryd.prog 3 #[.slice a0 len0 cap0, .slice a1 len1 cap1] w fun e w' => e = .returned (.bool true) ∧ Below w.heap.size w w' := by
  have t0 : decide ((1048576 : Int) < (len0 : Int)) = false := decide_eq_false (by omega)
  have t1 : decide ((1048576 : Int) < (len1 : Int)) = true := decide_eq_true (by omega)
  go_enter Tryd.func3, Tryd.ntmps3
  go_wp2
  go_ret
  exact ⟨rfl, Below.refl _ _⟩

set_option maxRecDepth 100000 in
set_option maxHeartbeats 8000000 in
theorem dict_core (a0 : Option Addr) (len0 cap0 : Nat) (z0 : List Int) (a1 : Option Addr) (len1 cap1 : Nat) (z1 : List Int) (w : World) (w0 : BRow w a0 len0 cap0 z0) (w1 : BRow w a1 len1 cap1 z1) (l0 : len0 ≤ 1048576) (l1 : len1 ≤ 1048576) (ht : Tabs w) :
    Calls Tryd.prog 3 #[.slice a0 len0 cap0, .slice a1 len1 cap1] w fun e w' => e = .returned (.bool true) ∧ Below w.heap.size w w' := by
  have HT := Lib.hid ht
  have R0 := Lib.hid w0
  have R1 := Lib.hid w1
  have t0 : decide ((1048576 : Int) < (len0 : Int)) = false := decide_eq_false (by omega)
  have t1 : decide ((1048576 : Int) < (len1 : Int)) = false := decide_eq_false (by omega)
  clear ht w0 w1
  go_enter Tryd.func3, Tryd.ntmps3
  go_wp2_with fail
  refine (wordsDrawn_any a0 len0 cap0 z0 _ R0.out (by omega)).mono ?_
  rintro e m1 ⟨v, Q, rfl, hq, hr, hb⟩
  have B1 := Lib.hid hb
  have L1 := Lib.hid hr
  have HQ := Lib.hid hq
  clear hb hr hq
  go_wp2_with fail
  refine (userWordDrawn_any a1 len1 cap1 z1 _ (brow_below R1.out B1.out) (by omega)).mono ?_
  rintro e m2 ⟨x, rfl, hx, hb⟩
  have B2 := Lib.hid (below_step B1.out hb)
  have L2 := Lib.hid (wrow_below L1.out hb)
  have HX := Lib.hid hx
  have hxs : x.n.size ≤ maxLen := by have := drawn_size hx; unfold maxLen; omega
  have HXS := Lib.hid hxs
  clear hb hx hxs L1
  go_wp2_with fail
  have BX : Hid (∀ cur, Below (m2.alloc (.cells #[.string x.n, .int .i64 x.k, .int .i64 x.v] 26)).heap.size (m2.alloc (.cells #[.string x.n, .int .i64 x.k, .int .i64 x.v] 26)) cur → cur.cell? ⟨m2.heap.size, 0, none⟩ = some (.string x.n) ∧ cur.cell? ⟨m2.heap.size, 1, none⟩ = some (.int .i64 x.k) ∧ cur.cell? ⟨m2.heap.size, 2, none⟩ = some (.int .i64 x.v)) := Lib.hid fun cur h => box_cells h
  have BW : Hid (Below w.heap.size w (m2.alloc (.cells #[.string x.n, .int .i64 x.k, .int .i64 x.v] 26))) := Lib.hid (below_alloc B2.out _)
  have LV : Hid (WRow (m2.alloc (.cells #[.string x.n, .int .i64 x.k, .int .i64 x.v] 26)) w.heap.size v Q) := Lib.hid (wrow_below L2.out (below_alloc (Below.refl _ _) _))
  have zW : m2.heap.size < (m2.alloc (.cells #[.string x.n, .int .i64 x.k, .int .i64 x.v] 26)).heap.size := by simp
  generalize m2.alloc (.cells #[.string x.n, .int .i64 x.k, .int .i64 x.v] 26) = V at *
  have AD := Lib.hid (drawn_add HQ.out HX.out)
  have hql := drawn_len HQ.out
  have QL : Hid ((Q ++ [x]).length = Q.length + 1) := Lib.hid (by simp)
  refine (iAdd_any v Q x _ (wrow_wds LV.out) HXS.out (tabs_below HT.out BW.out)).mono ?_
  rintro e m3 ⟨vy, rfl, hy, hb⟩
  rw [AD.out] at hy ⊢
  simp only [] at hy ⊢
  have C3 : Hid (Below V.heap.size V m3) := Lib.hid hb
  have Y3 := Lib.hid hy
  have L3 := Lib.hid (wrow_below LV.out hb)
  clear hb hy LV L2
  obtain ⟨x0, x1, x2⟩ := BX.out _ C3.out
  have z3 : m2.heap.size < m3.heap.size := by have := C3.out.size; omega
  go_wp2_with fail
  clear x0 x1 x2 z3
  refine (sAdd_any v Q x _ (wrow_wds L3.out) HXS.out).mono ?_
  rintro e m4 ⟨vw, rfl, hw, hb⟩
  rw [AD.out] at hw ⊢
  simp only [] at hw ⊢
  have C4 : Hid (Below V.heap.size V m4) := Lib.hid (below_step C3.out hb)
  have Y4 := Lib.hid (wrow_wds (wrow_below Y3.out hb))
  have L4 := Lib.hid (wrow_wds (wrow_below L3.out hb))
  have W4 := Lib.hid (wrow_wds hw)
  obtain ⟨Ay, cy, rfl, hcy, _, _⟩ := wds_form Y4.out
  obtain ⟨Aw, cw, rfl, hcw, _, _⟩ := wds_form W4.out
  obtain ⟨Al, cl, rfl, hcl, _, _⟩ := wds_form L4.out
  have zV4 : m2.heap.size < m4.heap.size := by have := C4.out.size; omega
  have BT : Hid (Below w.heap.size w m4) := Lib.hid (below_step BW.out C4.out)
  clear hb hw L3 Y3
  rw [QL.out]
  go_wp2_with fail
  rw [← QL.out]
  refine (sameWords_same _ _ (Q ++ [x]) _ Y4.out W4.out).mono ?_
  rintro e m5 ⟨rfl, hb⟩
  have D5 : Hid (Below m4.heap.size m4 m5) := Lib.hid hb
  clear hb
  rw [QL.out]
  go_wp2_with fail
  refine (iDict_any _ Q _ (wds_below L4.out D5.out) (tabs_below HT.out (below_step BT.out D5.out))).mono ?_
  rintro e m6 ⟨rfl, hb⟩
  rw [drawn_dict HQ.out]
  have D6 : Hid (Below m4.heap.size m4 m6) := Lib.hid (below_step D5.out hb)
  clear hb D5
  go_wp2_with fail
  refine (iKernelSame_any _ Q _ (wds_below L4.out D6.out) (tabs_below HT.out (below_step BT.out D6.out))).mono ?_
  rintro e m7 ⟨rfl, hb⟩
  rw [drawn_same HQ.out]
  have D7 : Hid (Below m4.heap.size m4 m7) := Lib.hid (below_step D6.out hb)
  clear hb D6
  go_wp2_with fail
  refine (iKernelWords_any _ (tabs_below HT.out (below_step BT.out D7.out))).mono ?_
  rintro e m8 ⟨k1, rfl, hk1, _, hb⟩
  have D8 : Hid (Below m4.heap.size m4 m8) := Lib.hid (below_step D7.out hb)
  have K1 := Lib.hid hk1
  clear hb D7 hk1
  go_wp2_with fail
  refine (sKernelWords_any _).mono ?_
  rintro e m9 ⟨k2, rfl, hk2, _, hb⟩
  have D9 : Hid (Below m4.heap.size m4 m9) := Lib.hid (below_step D8.out hb)
  have K1' := Lib.hid (wrow_below K1.out hb)
  have K2 := Lib.hid hk2
  clear hb D8 hk2 K1
  go_wp2_with fail
  refine (sameWords_same _ _ kernW _ (wrow_wds K1'.out) (wrow_wds K2.out)).mono ?_
  rintro e ma ⟨rfl, hb⟩
  have Da : Hid (Below m4.heap.size m4 ma) := Lib.hid (below_step D9.out hb)
  clear hb D9 K1' K2
  obtain ⟨x0, x1, x2⟩ := BX.out _ (below_step C4.out Da.out)
  have za : m2.heap.size < ma.heap.size := by have := Da.out.size; omega
  go_wp2_with fail
  have YY : Hid (Wds m4 (.slice Ay (Q.length + 1) cy) (Q ++ [x])) := Lib.hid (by rw [← QL.out]; exact Y4.out)
  have WW : Hid (Wds m4 (.slice Aw (Q.length + 1) cw) (Q ++ [x])) := Lib.hid (by rw [← QL.out]; exact W4.out)
  refine (iFind_any _ (Q ++ [x]) x.n _ (wds_below YY.out Da.out) HXS.out (tabs_below HT.out (below_step BT.out Da.out))).mono ?_
  rintro e mb ⟨rfl, hb⟩
  rw [find_name HQ.out HX.out]
  simp only []
  have Db : Hid (Below m4.heap.size m4 mb) := Lib.hid (below_step Da.out hb)
  clear hb Da x0 x1 x2 za
  obtain ⟨x0, x1, x2⟩ := BX.out _ (below_step C4.out Db.out)
  have zb : m2.heap.size < mb.heap.size := by have := Db.out.size; omega
  go_wp2_with fail
  clear x0 x1 x2 zb
  refine (upperOf_any x.n _ HXS.out).mono ?_
  rintro e mc ⟨rfl, hb⟩
  rw [upO_short (by have := drawn_size HX.out; omega)]
  have Dc : Hid (Below m4.heap.size m4 mc) := Lib.hid (below_step Db.out hb)
  clear hb Db
  have US : Hid ((⟨(upL x.n.data.toList).toArray⟩ : ByteArray) = upS x.n) := Lib.hid rfl
  rw [US.out]
  have FU := Lib.hid (find_upper HQ.out HX.out)
  have US2 : Hid ((upS x.n).size ≤ maxLen) := Lib.hid (by rw [upS_size]; exact HXS.out)
  clear US
  generalize upS x.n = un at *
  go_wp2_with fail
  refine (iFind_any _ (Q ++ [x]) un _ (wds_below YY.out Dc.out) US2.out (tabs_below HT.out (below_step BT.out Dc.out))).mono ?_
  rintro e md ⟨rfl, hb⟩
  rw [FU.out]
  simp only []
  have Dd : Hid (Below m4.heap.size m4 md) := Lib.hid (below_step Dc.out hb)
  clear hb Dc FU
  go_wp2_with fail
  refine (iFind_any _ (Q ++ [x]) litN _ (wds_below YY.out Dd.out) (by decide) (tabs_below HT.out (below_step BT.out Dd.out))).mono ?_
  rintro e me ⟨rfl, hb⟩
  rw [find_lit HQ.out HX.out]
  simp only []
  have De : Hid (Below m4.heap.size m4 me) := Lib.hid (below_step Dd.out hb)
  clear hb Dd
  go_wp2_with fail
  go_loopw [19] (fun i wr => ∃ k : Nat, k ≤ Q.length + 1 ∧ i = .int .i64 ((k : Int) + 1) ∧ Below m4.heap.size m4 wr) (fun i _ => Q.length + 2 - (intOf i).toNat)
  case atStart => exact ⟨0, Nat.zero_le _, rfl, De.out⟩
  case round =>
    obtain ⟨k, hk, rfl, hb⟩ := hrel
    have HB := Lib.hid hb
    clear hb
    by_cases hlt : k < Q.length + 1
    · have g0 : decide ((k : Int) + 1 ≤ (Q.length : Int) + 1) = true := decide_eq_true (by omega)
      have s1 : IntKind.i64.wrap ((k : Int) + 1 - 1) = (k : Int) := by rw [show (k : Int) + 1 - 1 = (k : Int) by omega]; exact IntWalk.i64_in _ (by omega)
      have s2 : ((k : Int) + 1 - 1) = (k : Int) := by omega
      have TI : Hid (∀ W, Below m4.heap.size m4 W → Calls Tryd.prog 21 #[.slice Ay (Q.length + 1) cy, .int .i64 ((k : Int) + 1)] W fun e w' => e = .returned (.bool (dictB (Q ++ [x]) && tokB (Q ++ [x]) ((k : Int) + 1))) ∧ Below W.heap.size W w') := Lib.hid fun W hW => iTokenOK_any _ (Q ++ [x]) _ W (wds_below YY.out hW) (tabs_below HT.out (below_step BT.out hW))
      have TS : Hid (∀ W, Below m4.heap.size m4 W → Calls Tryd.prog 22 #[.slice Aw (Q.length + 1) cw, .int .i64 ((k : Int) + 1)] W fun e w' => e = .returned (.bool (dictB (Q ++ [x]) && tokB (Q ++ [x]) ((k : Int) + 1))) ∧ Below W.heap.size W w') := Lib.hid fun W hW => sTokenOK_any _ (Q ++ [x]) _ W (wds_below WW.out hW)
      generalize (dictB (Q ++ [x]) && tokB (Q ++ [x]) ((k : Int) + 1)) = r at *
      have tr : (r != r) = false := by simp
      by_cases hq : k < Q.length
      · have g1 : decide ((k : Int) + 1 < (Q.length : Int) + 1) = true := decide_eq_true (by omega)
        obtain ⟨gy, rfl⟩ := wds_block Y4.out (by rw [QL.out]; omega)
        obtain ⟨gl, rfl⟩ := wds_block L4.out (by omega)
        have WY := wds_word (wds_below Y4.out HB.out) k (by rw [QL.out]; omega)
        rw [List.getElem_append_left hq] at WY
        have WL := wds_word (wds_below L4.out HB.out) k hq
        generalize Q[k] = y at *
        have KY := Lib.hid WY
        have KL := Lib.hid WL
        obtain ⟨y0, y1, y2⟩ := WY
        obtain ⟨u0, u1, u2⟩ := WL
        simp only [] at y0 y1 y2 u0 u1 u2
        have b0 : (0 : Int) ≤ (k : Int) := by omega
        have b1 : (k : Int) < (Q.length : Int) + 1 := by omega
        have b2 : (k : Int) < (Q.length : Int) := by omega
        have b3 : (k : Int) < ((Q.length + 1 : Nat) : Int) := by omega
        have b4 : IntKind.i64.wrap (k : Int) = (k : Int) := IntWalk.i64_in _ (by omega)
        have b5 : ((k : Int) + 1 - 1).toNat = k := by omega
        have e1 : (y.n.toList == y.n.toList) = true := by simp
        have e2 : (y.k == y.k) = true := by simp
        have e3 : (y.v == y.v) = true := by simp
        go_wp2_with fail
        go_region_held3 (fun w' => (w'.cell? ⟨gy, k * 3, none⟩ = some (.string y.n) ∧ w'.cell? ⟨gy, k * 3 + 1, none⟩ = some (.int .i64 y.k) ∧ w'.cell? ⟨gy, k * 3 + 2, none⟩ = some (.int .i64 y.v)) ∧ (w'.cell? ⟨gl, k * 3, none⟩ = some (.string y.n) ∧ w'.cell? ⟨gl, k * 3 + 1, none⟩ = some (.int .i64 y.k) ∧ w'.cell? ⟨gl, k * 3 + 2, none⟩ = some (.int .i64 y.v)))
          (first | exact ⟨⟨y0, y1, y2⟩, ⟨u0, u1, u2⟩⟩ | exact ⟨wdAt_below hbS (wdAt_below hbI KY.out), wdAt_below hbS (wdAt_below hbI KL.out)⟩ | exact ⟨wdAt_below hbI (wdAt_below hbS KY.out), wdAt_below hbI (wdAt_below hbS KL.out)⟩ | exact ⟨wdAt_below hbI KY.out, wdAt_below hbI KL.out⟩ | exact ⟨wdAt_below hbS KY.out, wdAt_below hbS KL.out⟩)
          (first
            | (go_at_call 21; refine (TI.out _ ?_).mono ?_; (first | exact HB.out | exact HB.out.drew | exact DS); rintro e wI ⟨rfl, hbI⟩; have DI : Below m4.heap.size m4 wI := (by first | exact below_step DS hbI | exact below_step HB.out.drew hbI | exact below_step HB.out hbI))
            | (go_at_call 22; refine (TS.out _ ?_).mono ?_; (first | exact DI | exact HB.out | exact HB.out.drew); rintro e wS ⟨rfl, hbS⟩; have DS : Below m4.heap.size m4 wS := (by first | exact below_step DI hbS | exact below_step HB.out.drew hbS | exact below_step HB.out hbS)))
        have D2 : Hid (Below m4.heap.size m4 wS) := Lib.hid DS
        clear DI DS hbI hbS y0 y1 y2 u0 u1 u2 b0 b1 b2 b3 b4 b5 s1 s2
        go_wp2
        go_roundw
        case rel => exact ⟨k + 1, by omega, by go_num, D2.out⟩
        case measure => simp [intOf]; omega
      · obtain rfl : k = Q.length := by omega
        clear s1 s2 g0 hlt hq hk
        have g1 : decide ((Q.length : Int) + 1 < (Q.length : Int) + 1) = false := decide_eq_false (by omega)
        clear QL AD HX HQ HXS BX Y4 W4 L4 YY WW
        go_wp2_with fail
        clear HT R0 R1 B1 B2 BW C3 C4 l0 l1 t0 t1 De US2
        refine wp_region_any (by kernel_rfl) ?_
        change wpAny _ _ _ _ _ _ _ (World.drew _)
        refine wpAny_take (i := 0) (oi := { dst := some _, op := _, type := _, pos := _, after := _, guard := _ }) (v := ?_) rfl (by kernel_rfl) (by kernel_rfl) (by kernel_rfl) (fun _ _ _ h => h) (Or.inl ⟨by rfl, ?_⟩) ?_
        rotate_left 1
        · intro w; go_simp; try with_reducible rfl
        try simp only [Act.put, List.setIfInBounds_toArray, List.set_cons_zero, List.set_cons_succ]
        refine wpAny_take (i := 1) (oi := { dst := some _, op := _, type := _, pos := _, after := _, guard := _ }) (v := ?_) rfl (by kernel_rfl) (by kernel_rfl) (by kernel_rfl) (fun _ _ _ h => h) (Or.inl ⟨by rfl, ?_⟩) ?_
        rotate_left 1
        · intro w; go_simp; try with_reducible rfl
        try simp only [Act.put, List.setIfInBounds_toArray, List.set_cons_zero, List.set_cons_succ]
        refine wpAny_take (i := 3) (oi := { dst := some _, op := _, type := _, pos := _, after := _, guard := _ }) (v := ?_) rfl (by kernel_rfl) (by kernel_rfl) (by kernel_rfl) (fun _ _ _ h => h) (Or.inl ⟨by rfl, ?_⟩) ?_
        rotate_left 1
        · intro w; go_simp; try with_reducible rfl
        try simp only [Act.put, List.setIfInBounds_toArray, List.set_cons_zero, List.set_cons_succ]
        refine wpAny_take (i := 4) (oi := { dst := some _, op := _, type := _, pos := _, after := _, guard := _ }) (v := ?_) rfl (by kernel_rfl) (by kernel_rfl) (by kernel_rfl) (fun _ _ _ h => h) (Or.inl ⟨by rfl, ?_⟩) ?_
        rotate_left 1
        · intro w; go_simp; try with_reducible rfl
        try simp only [Act.put, List.setIfInBounds_toArray, List.set_cons_zero, List.set_cons_succ]
        refine wpAny_ready (rs := [2]) (by kernel_rfl) (by simp) ?_
        refine AllReady.cons rfl (fun K hK => ?_) AllReady.nil
        go_simp
        refine (TI.out _ HB.out.drew).mono ?_
        rintro e wI ⟨rfl, hb⟩
        have DI : Below m4.heap.size m4 wI := below_step (HB.out.drew) hb
        clear hb
        refine hK _ _ ?_
        clear hK K
        try simp only [Act.put, List.setIfInBounds_toArray, List.set_cons_zero, List.set_cons_succ]
        refine wpAny_ready (rs := [5]) (by kernel_rfl) (by simp) ?_
        refine AllReady.cons rfl (fun K hK => ?_) AllReady.nil
        go_simp
        refine (TS.out _ DI).mono ?_
        rintro e wS ⟨rfl, hb⟩
        have DS : Below m4.heap.size m4 wS := below_step (DI) hb
        clear hb
        refine hK _ _ ?_
        clear hK K
        try simp only [Act.put, List.setIfInBounds_toArray, List.set_cons_zero, List.set_cons_succ]
        refine wpAny_take (i := 6) (oi := { dst := some _, op := _, type := _, pos := _, after := _, guard := _ }) (v := ?_) rfl (by kernel_rfl) (by kernel_rfl) (by kernel_rfl) (fun _ _ _ h => h) (Or.inl ⟨by rfl, ?_⟩) ?_
        rotate_left 1
        · intro w; go_simp; try with_reducible rfl
        try simp only [Act.put, List.setIfInBounds_toArray, List.set_cons_zero, List.set_cons_succ]
        refine wpAny_take (i := 7) (oi := { dst := some _, op := _, type := _, pos := _, after := _, guard := _ }) (v := ?_) rfl (by kernel_rfl) (by kernel_rfl) (by kernel_rfl) (fun _ _ _ h => h) (Or.inl ⟨by rfl, ?_⟩) ?_
        rotate_left 1
        · intro w; go_simp; try with_reducible rfl
        try simp only [Act.put, List.setIfInBounds_toArray, List.set_cons_zero, List.set_cons_succ]
        refine wpAny_take (i := 8) (oi := { dst := some _, op := _, type := _, pos := _, after := _, guard := _ }) (v := ?_) rfl (by kernel_rfl) (by kernel_rfl) (by kernel_rfl) (fun _ _ _ h => h) (Or.inl ⟨by rfl, ?_⟩) ?_
        rotate_left 1
        · intro w; go_simp; try with_reducible rfl
        try simp only [Act.put, List.setIfInBounds_toArray, List.set_cons_zero, List.set_cons_succ]
        refine wpAny_take (i := 9) (oi := { dst := some _, op := _, type := _, pos := _, after := _, guard := _ }) (v := ?_) rfl (by kernel_rfl) (by kernel_rfl) (by kernel_rfl) (fun _ _ _ h => h) (Or.inl ⟨by rfl, ?_⟩) ?_
        rotate_left 1
        · intro w; go_simp; try with_reducible rfl
        try simp only [Act.put, List.setIfInBounds_toArray, List.set_cons_zero, List.set_cons_succ]
        refine wpAny_take (i := 10) (oi := { dst := some _, op := _, type := _, pos := _, after := _, guard := _ }) (v := ?_) rfl (by kernel_rfl) (by kernel_rfl) (by kernel_rfl) (fun _ _ _ h => h) (Or.inl ⟨by rfl, ?_⟩) ?_
        rotate_left 1
        · intro w; go_simp; try with_reducible rfl
        try simp only [Act.put, List.setIfInBounds_toArray, List.set_cons_zero, List.set_cons_succ]
        refine wpAny_take (i := 11) (oi := { dst := some _, op := _, type := _, pos := _, after := _, guard := _ }) (v := ?_) rfl (by kernel_rfl) (by kernel_rfl) (by kernel_rfl) (fun _ _ _ h => h) (Or.inl ⟨by rfl, ?_⟩) ?_
        rotate_left 1
        · intro w; go_simp; try with_reducible rfl
        try simp only [Act.put, List.setIfInBounds_toArray, List.set_cons_zero, List.set_cons_succ]
        refine wpAny_take (i := 12) (oi := { dst := some _, op := _, type := _, pos := _, after := _, guard := _ }) (v := ?_) rfl (by kernel_rfl) (by kernel_rfl) (by kernel_rfl) (fun _ _ _ h => h) (Or.inl ⟨by rfl, ?_⟩) ?_
        rotate_left 1
        · intro w; go_simp; try with_reducible rfl
        try simp only [Act.put, List.setIfInBounds_toArray, List.set_cons_zero, List.set_cons_succ]
        refine wpAny_take (i := 13) (oi := { dst := some _, op := _, type := _, pos := _, after := _, guard := _ }) (v := undef) rfl (by kernel_rfl) (by kernel_rfl) (by kernel_rfl) (fun _ _ _ h => h) (Or.inr ⟨by rfl, rfl⟩) ?_
        try simp only [Act.put, List.setIfInBounds_toArray, List.set_cons_zero, List.set_cons_succ]
        refine wpAny_take (i := 14) (oi := { dst := some _, op := _, type := _, pos := _, after := _, guard := _ }) (v := undef) rfl (by kernel_rfl) (by kernel_rfl) (by kernel_rfl) (fun _ _ _ h => h) (Or.inr ⟨by rfl, rfl⟩) ?_
        try simp only [Act.put, List.setIfInBounds_toArray, List.set_cons_zero, List.set_cons_succ]
        refine wpAny_take (i := 15) (oi := { dst := some _, op := _, type := _, pos := _, after := _, guard := _ }) (v := undef) rfl (by kernel_rfl) (by kernel_rfl) (by kernel_rfl) (fun _ _ _ h => h) (Or.inr ⟨by rfl, rfl⟩) ?_
        try simp only [Act.put, List.setIfInBounds_toArray, List.set_cons_zero, List.set_cons_succ]
        refine wpAny_take (i := 16) (oi := { dst := some _, op := _, type := _, pos := _, after := _, guard := _ }) (v := undef) rfl (by kernel_rfl) (by kernel_rfl) (by kernel_rfl) (fun _ _ _ h => h) (Or.inr ⟨by rfl, rfl⟩) ?_
        try simp only [Act.put, List.setIfInBounds_toArray, List.set_cons_zero, List.set_cons_succ]
        refine wpAny_take (i := 17) (oi := { dst := some _, op := _, type := _, pos := _, after := _, guard := _ }) (v := undef) rfl (by kernel_rfl) (by kernel_rfl) (by kernel_rfl) (fun _ _ _ h => h) (Or.inr ⟨by rfl, rfl⟩) ?_
        try simp only [Act.put, List.setIfInBounds_toArray, List.set_cons_zero, List.set_cons_succ]
        refine wpAny_take (i := 18) (oi := { dst := some _, op := _, type := _, pos := _, after := _, guard := _ }) (v := undef) rfl (by kernel_rfl) (by kernel_rfl) (by kernel_rfl) (fun _ _ _ h => h) (Or.inr ⟨by rfl, rfl⟩) ?_
        try simp only [Act.put, List.setIfInBounds_toArray, List.set_cons_zero, List.set_cons_succ]
        refine wpAny_take (i := 19) (oi := { dst := some _, op := _, type := _, pos := _, after := _, guard := _ }) (v := undef) rfl (by kernel_rfl) (by kernel_rfl) (by kernel_rfl) (fun _ _ _ h => h) (Or.inr ⟨by rfl, rfl⟩) ?_
        try simp only [Act.put, List.setIfInBounds_toArray, List.set_cons_zero, List.set_cons_succ]
        refine wpAny_take (i := 20) (oi := { dst := some _, op := _, type := _, pos := _, after := _, guard := _ }) (v := undef) rfl (by kernel_rfl) (by kernel_rfl) (by kernel_rfl) (fun _ _ _ h => h) (Or.inr ⟨by rfl, rfl⟩) ?_
        try simp only [Act.put, List.setIfInBounds_toArray, List.set_cons_zero, List.set_cons_succ]
        refine wpAny_take (i := 21) (oi := { dst := some _, op := _, type := _, pos := _, after := _, guard := _ }) (v := undef) rfl (by kernel_rfl) (by kernel_rfl) (by kernel_rfl) (fun _ _ _ h => h) (Or.inr ⟨by rfl, rfl⟩) ?_
        try simp only [Act.put, List.setIfInBounds_toArray, List.set_cons_zero, List.set_cons_succ]
        refine wpAny_take (i := 22) (oi := { dst := some _, op := _, type := _, pos := _, after := _, guard := _ }) (v := undef) rfl (by kernel_rfl) (by kernel_rfl) (by kernel_rfl) (fun _ _ _ h => h) (Or.inr ⟨by rfl, rfl⟩) ?_
        try simp only [Act.put, List.setIfInBounds_toArray, List.set_cons_zero, List.set_cons_succ]
        refine wpAny_take (i := 23) (oi := { dst := some _, op := _, type := _, pos := _, after := _, guard := _ }) (v := undef) rfl (by kernel_rfl) (by kernel_rfl) (by kernel_rfl) (fun _ _ _ h => h) (Or.inr ⟨by rfl, rfl⟩) ?_
        try simp only [Act.put, List.setIfInBounds_toArray, List.set_cons_zero, List.set_cons_succ]
        refine wpAny_take (i := 24) (oi := { dst := some _, op := _, type := _, pos := _, after := _, guard := _ }) (v := ?_) rfl (by kernel_rfl) (by kernel_rfl) (by kernel_rfl) (fun _ _ _ h => h) (Or.inl ⟨by rfl, ?_⟩) ?_
        rotate_left 1
        · intro w; go_simp; try with_reducible rfl
        try simp only [Act.put, List.setIfInBounds_toArray, List.set_cons_zero, List.set_cons_succ]
        refine wpAny_take (i := 25) (oi := { dst := some _, op := _, type := _, pos := _, after := _, guard := _ }) (v := ?_) rfl (by kernel_rfl) (by kernel_rfl) (by kernel_rfl) (fun _ _ _ h => h) (Or.inl ⟨by rfl, ?_⟩) ?_
        rotate_left 1
        · intro w; go_simp; try with_reducible rfl
        try simp only [Act.put, List.setIfInBounds_toArray, List.set_cons_zero, List.set_cons_succ]
        refine wpAny_done (by kernel_rfl) ?_ _
        have D2 : Hid (Below m4.heap.size m4 wS) := Lib.hid DS
        clear DI DS
        go_wp2
        go_roundw
        case rel => exact ⟨Q.length + 1, by omega, by go_num, D2.out⟩
        case measure => simp [intOf] <;> omega
    · have g0 : decide ((k : Int) + 1 ≤ (Q.length : Int) + 1) = false := decide_eq_false (by omega)
      have g2 : decide ((k : Int) ≤ (Q.length : Int)) = false := decide_eq_false (by omega)
      have g3 : (Q.length : Int) < (k : Int) := by omega
      clear hlt hk
      have e1 : (((Q.length : Int) + 1) == ((Q.length : Int) + 1)) = true := by simp
      have KS := Lib.hid (more_same HQ.out HX.out)
      have DK := Lib.hid (more_dict HQ.out HX.out)
      have TK : Hid (tokB (Q ++ [x]) 0 = false) := Lib.hid (tok_out (by omega))
      go_wp2_with fail
      refine (iKernelSame_any _ (Q ++ [x]) _ (wds_below YY.out HB.out) (tabs_below HT.out (below_step BT.out HB.out))).mono ?_
      rintro e mf ⟨rfl, hb⟩
      rw [KS.out]
      have Df : Hid (Below m4.heap.size m4 mf) := Lib.hid (below_step HB.out hb)
      clear hb
      go_wp2_with fail
      refine (iDict_any _ (Q ++ [x]) _ (wds_below YY.out Df.out) (tabs_below HT.out (below_step BT.out Df.out))).mono ?_
      rintro e mg ⟨rfl, hb⟩
      rw [DK.out]
      have Dg : Hid (Below m4.heap.size m4 mg) := Lib.hid (below_step Df.out hb)
      clear hb
      go_wp2_with fail
      refine (iTokenOK_any _ (Q ++ [x]) 0 _ (wds_below YY.out Dg.out) (tabs_below HT.out (below_step BT.out Dg.out))).mono ?_
      rintro e mh ⟨rfl, hb⟩
      rw [DK.out, TK.out]
      have Dh : Hid (Below m4.heap.size m4 mh) := Lib.hid (below_step Dg.out hb)
      clear hb
      go_wp2
      go_ret
      exact ⟨rfl, below_step BT.out Dh.out⟩

end Go.Proofs.YtdinnhebaldnaaaDoor
