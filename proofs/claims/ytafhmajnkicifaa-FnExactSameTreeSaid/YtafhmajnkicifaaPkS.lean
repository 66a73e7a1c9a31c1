/- PkS: several of my texts, laid together: FlQD, FlQE, FlQF, FlX, FlG. -/
import Derived.Test.YtafhmajnkicifaaPkR
namespace Go.Proofs.Ytafhmajnkicifaa
open Go.RowKit
set_option linter.unusedVariables false
set_option linter.unusedSimpArgs false

set_option maxRecDepth 1000000 in
set_option maxHeartbeats 40000000 in
theorem flr_k3 (d r : Nat) (L : List Nd) (w wr : World) (A : Option Addr) (ca k n c : Nat) (C : Option Addr) (ih : FlatN d) (hr : r ≤ 9) (hsz : szT (d + 1) L ≤ 1048576) (hv : Nds (d + 1) w (.slice A L.length ca) L) (hk : k ≤ L.length) (hlt : k < L.length) (hl : L.length ≤ 2 ^ 63 - 1)
    (hrw : IRow wr w.heap.size (.slice C n c) (itT (d + 1) (L.take k))) (hok : okT (d + 1) r (L.take k) = true) (hb : Below w.heap.size w wr) (h0 : r ≠ 0) (hs : ¬ 60 < L[k].a.length + L[k].b.length) (h6 : ¬ 60 < n) (ga : fitT d (r - 1) L[k].a = true) (gb : fitT d (r - 1) L[k].b = true) (hkd : L[k].k = 3)
    (Q : Exit → Act → World → Prop) (hnext : ∀ a' w'', FlNext d r L w k A ca a' w'' → Q .normal a' w'') (hret : ∀ a' w'', FlRet d r L w A ca a' w'' → Q .ret a' w'')
    (u4 u5 u8 u9 u10 u11 u12 u14 u15 u16 u17 u18 u19 u20 u21 u22 u23 u24 u25 u26 u27 u28 u29 u30 u31 u32 u33 u34 u35 u36 u37 u38 u39 u40 u41 u42 u43 u44 u45 u46 u47 u48 u49 u50 u51 u52 u53 u54 u55 u56 u57 u58 u59 u60 u61 u62 u63 u64 u65 u66 u67 u68 u69 u70 u71 u72 u73 u74 u75 u76 u77 u78 u79 u80 u81 u82 u83 u84 u85 u86 u87 u88 u89 u90 u91 u92 u93 u94 u95 u96 u97 u98 u99 u100 u101 u102 u103 u104 u105 u106 u107 u108 u109 u110 u111 u112 u113 u114 u115 u116 u117 u118 u119 u120 u121 u122 u123 u124 u125 u126 u127 u128 u129 u130 u131 u132 u133 u134 u135 u136 u137 u138 u139 u140 u141 u142 u143 u144 u145 u146 u147 u148 u149 u150 u151 u152 u153 u154 u155 u156 u157 u158 u159 u160 u161 u162 u163 u164 u165 u166 u167 u168 u169 u170 u171 u172 u173 u174 u175 u176 u177 u178 u179 u180 u181 u182 u183 u184 u185 u186 u187 u188 u189 u190 u191 u192 u193 u194 u195 u196 u197 u198 u199 u200 u201 u202 u203 u204 : Value) : Code.wp Try.prog flBody Q ⟨#[.slice A L.length ca, .int .i64 ((r : Nat) : Int), undef, undef, u4, u5, .slice C n c, .int .i64 ((k : Nat) : Int), u8, u9, u10, u11, u12, .slice (some ⟨w.heap.size, 0, none⟩) 0 0, u14, u15, u16, u17, u18, u19, u20, u21, u22, u23, u24, u25, u26, u27, u28, u29, u30, u31, u32, u33, u34, u35, u36, u37, u38, u39, u40, u41, u42, u43, u44, u45, u46, u47, u48, u49, u50, u51, u52, u53, u54, u55, u56, u57, u58, u59, u60, u61, u62, u63, u64, u65, u66, u67, u68, u69, u70, u71, u72, u73, u74, u75, u76, u77, u78, u79, u80, u81, u82, u83, u84, u85, u86, u87, u88, u89, u90, u91, u92, u93, u94, u95, u96, u97, u98, u99, u100, u101, u102, u103, u104, u105, u106, u107, u108, u109, u110, u111, u112, u113, u114, u115, u116, u117, u118, u119, u120, u121, u122, u123, u124, u125, u126, u127, u128, u129, u130, u131, u132, u133, u134, u135, u136, u137, u138, u139, u140, u141, u142, u143, u144, u145, u146, u147, u148, u149, u150, u151, u152, u153, u154, u155, u156, u157, u158, u159, u160, u161, u162, u163, u164, u165, u166, u167, u168, u169, u170, u171, u172, u173, u174, u175, u176, u177, u178, u179, u180, u181, u182, u183, u184, u185, u186, u187, u188, u189, u190, u191, u192, u193, u194, u195, u196, u197, u198, u199, u200, u201, u202, u203, u204, undef, undef, undef, undef], []⟩ wr := by
  have HV := Lib.hid hv
  have HSZ := Lib.hid hsz
  have IH := Lib.hid ih
  have HN := Lib.hid hnext
  have HT := Lib.hid hret
  clear hnext hret ih hsz hv
  have Xga := Lib.hid ga
  have Xgb := Lib.hid gb
  have Xhkd := Lib.hid hkd
  clear ga gb hkd
  have zr := hb.size
  obtain ⟨_, C', c', e, _⟩ := irow_its hrw
  simp only [Value.slice.injEq] at e
  obtain ⟨rfl, rfl, rfl⟩ := e
  obtain ⟨nl, hnl⟩ : ∃ nl, (itT (d + 1) (L.take k)).length = nl := ⟨_, rfl⟩
  rw [hnl] at hrw h6
  rw [hnl]
  have HB := Lib.hid hb
  have HR := Lib.hid hrw
  have HOK := Lib.hid hok
  have NL := Lib.hid hnl
  clear hb hrw hok hnl
  obtain ⟨_, A', ca', e', hc⟩ := nds_below HV.out HB.out
  simp only [Value.slice.injEq, true_and] at e'
  obtain ⟨rfl, rfl⟩ := e'
  obtain ⟨ga, hA, ha⟩ := hc (by omega)
  subst hA
  obtain ⟨a0, a1, A1, n1, e1, B1, m1, f1, a2, a3, ra, rb⟩ := ha k hlt
  have SZK : Hid (szT d L[k].a + szT d L[k].b ≤ 1048576) := Lib.hid (Nat.le_trans (szT_at d L hlt) HSZ.out)
  have REF : Hid (fitT (d + 1) r L = true → 0 < r ∧ nodV L[k].k L[k].v L[k].a.length L[k].b.length = true ∧ okT d (r - 1) L[k].a = true ∧ okT d (r - 1) L[k].b = true ∧ nl + (itN (itT d) (.mk L[k].k L[k].v L[k].a L[k].b)).length ≤ 60) := Lib.hid (fun h => by
    unfold fitT at h
    simp at h
    obtain ⟨q1, q2, q3, q4⟩ := okT_at d r L hlt h.1
    have q5 := itT_le d L hlt
    rw [NL.out] at q5
    exact ⟨q1, q2, q3, q4, by have : itN (itT d) (.mk L[k].k L[k].v L[k].a L[k].b) = itN (itT d) L[k] := rfl; rw [this]; omega⟩)
  have TK : Hid (itT (d + 1) (L.take (k + 1)) = itT (d + 1) (L.take k) ++ itN (itT d) (.mk L[k].k L[k].v L[k].a L[k].b)) := Lib.hid (itT_take d L hlt)
  have OT : Hid (okT (d + 1) r (L.take (k + 1)) = (okT (d + 1) r (L.take k) && (decide (0 < r) && nodV L[k].k L[k].v L[k].a.length L[k].b.length && okT d (r - 1) L[k].a && okT d (r - 1) L[k].b))) := Lib.hid (okT_take d r L hlt)
  obtain ⟨_, A2, e2, q⟩ := nds_form ra
  simp only [Value.slice.injEq] at q
  obtain ⟨rfl, rfl, rfl⟩ := q
  obtain ⟨_, B2, f2, q⟩ := nds_form rb
  simp only [Value.slice.injEq] at q
  obtain ⟨rfl, rfl, rfl⟩ := q
  have RA := Lib.hid ra
  have RB := Lib.hid rb
  have XA := Lib.hid (whole_new wr 64 #[.int .i64 L[k].k, .int .i64 L[k].v, .slice A1 L[k].a.length e1, .slice B1 L[k].b.length f1])
  have BA : Hid (Below wr.heap.size wr (wr.alloc (.cells #[.int .i64 L[k].k, .int .i64 L[k].v, .slice A1 L[k].a.length e1, .slice B1 L[k].b.length f1] 64))) := Lib.hid (below_alloc (Below.refl _ _) _)
  clear ha hc ra rb
  generalize L[k].k = xk at *
  generalize L[k].v = xv at *
  generalize L[k].a = xa at *
  generalize L[k].b = xb at *
  conv => arg 2; whnf
  have B3 := Lib.hid (below_step HB.out BA.out)
  have rz : (((r : Nat) : Int) == 0) = false := by simp [h0]
  have la := len_sz RA.out
  have lb := len_sz RB.out
  have lk := SZK.out
  have wsum : IntKind.i64.wrap ((xa.length : Int) + (xb.length : Int)) = (xa.length : Int) + (xb.length : Int) := IntWalk.i64_in _ (by omega)
  have ts : ¬ (60 : Int) < (xa.length : Int) + (xb.length : Int) := by omega
  have t6 : ¬ (60 : Int) < (nl : Int) := by omega
  have wr1 : IntKind.i64.wrap (((r : Nat) : Int) - 1) = ((r - 1 : Nat) : Int) := by rw [show ((r : Nat) : Int) - 1 = ((r - 1 : Nat) : Int) by omega]; exact IntWalk.i64_in _ (by omega)
  have CA := Lib.hid (IH.out (r - 1) (.slice A1 xa.length e1) xa _ (by omega) (nds_below RA.out BA.out) (by have := SZK.out; omega))
  have SM := Lib.hid hs
  have N6 := Lib.hid h6
  have R0 := Lib.hid h0
  clear hs h6 h0
  go_wp2_with fail
  refine CA.out.mono ?_
  rintro e w1 ⟨A9, n9, c9, rfl, sa, ba⟩
  have B4 := Lib.hid (below_step B3.out ba)
  have XB := Lib.hid (whole_below XA.out ba)
  have x3 := whole_cell XB.out 3
  simp at x3
  have BL := Lib.hid (below_step BA.out ba)
  have CB := Lib.hid (IH.out (r - 1) (.slice B1 xb.length f1) xb _ (by omega) (nds_below RB.out BL.out) (by have := SZK.out; omega))
  have SA := Lib.hid sa
  clear sa ba CA XA a0 a1 a2 a3
  go_wp2_with fail
  refine CB.out.mono ?_
  rintro e w2 ⟨A8, n8, c8, rfl, sb, bb⟩
  have B5 := Lib.hid (below_step B4.out bb)
  have XC := Lib.hid (whole_below XB.out bb)
  have R5 := Lib.hid (irow_below (irow_below HR.out BL.out) bb)
  have SB := Lib.hid sb
  have LQ := Lib.hid (below_step BL.out bb)
  have BB := Lib.hid bb
  clear sb bb CB x3 XB
  have z2 : wr.heap.size + 1 ≤ w2.heap.size := by have := whole_lt XC.out; omega
  have PARTS : Hid (fitT (d + 1) r L = true → fitT d (r - 1) xa = true ∧ fitT d (r - 1) xb = true) := Lib.hid fun p => by
    obtain ⟨p1, p2, p3, p4, p5⟩ := REF.out p
    have q1 := itN_parts (itT d) xk xv xa xb p2 (itT_nil d)
    unfold fitT
    rw [p3, p4]
    simp
    omega
  have ga := Xga.out
  have gb := Xgb.out
  have hkd := Xhkd.out
  clear Xga Xgb Xhkd
  have RWA := Lib.hid (irow_below (SA.out ga) BB.out)
  have RWB := Lib.hid (SB.out gb)
  have OA : Hid (okT d (r - 1) xa = true ∧ (itT d xa).length ≤ 60) := Lib.hid (by unfold fitT at ga; simpa using ga)
  have OB : Hid (okT d (r - 1) xb = true ∧ (itT d xb).length ≤ 60) := Lib.hid (by unfold fitT at gb; simpa using gb)
  have LA := Lib.hid (len_part0 RA.out)
  have LB := Lib.hid (len_part0 RB.out)
  rw [ga, gb]
  obtain ⟨_, A7, c7, e7, _⟩ := irow_its RWA.out
  simp only [Value.slice.injEq] at e7
  obtain ⟨rfl, rfl, rfl⟩ := e7
  obtain ⟨_, A6, c6, e6, _⟩ := irow_its RWB.out
  simp only [Value.slice.injEq] at e6
  obtain ⟨rfl, rfl, rfl⟩ := e6
  obtain ⟨na, hna⟩ : ∃ na, (itT d xa).length = na := ⟨_, rfl⟩
  obtain ⟨nb, hnb⟩ : ∃ nb, (itT d xb).length = nb := ⟨_, rfl⟩
  rw [hna] at RWA OA LA
  rw [hnb] at RWB OB LB
  rw [hna, hnb]
  have NA := Lib.hid hna
  have NB := Lib.hid hnb
  have la60 := OA.out.2
  have lb60 := OB.out.2
  have x0 := whole_cell XC.out 0
  have x1 := whole_cell XC.out 1
  simp at x0 x1
  have wab : IntKind.i64.wrap ((na : Int) + (nb : Int)) = (na : Int) + (nb : Int) := IntWalk.i64_in _ (by omega)
  have REN : Hid (nodV xk xv xa.length xb.length = false → fitT (d + 1) r L = true → False) := Lib.hid fun h p => by have := (REF.out p).2.1; rw [h] at this; cases this
  have NXT : Hid (nodV xk xv xa.length xb.length = true → okT (d + 1) r (L.take (k + 1)) = true) := Lib.hid fun h => by rw [OT.out, HOK.out, h, OA.out.1, OB.out.1]; simp; have := R0.out; omega
  clear hna hnb
  obtain ⟨Q0, hQ0⟩ : ∃ Q0, itT (d + 1) (L.take k) = Q0 := ⟨_, rfl⟩
  rw [hQ0] at R5 NL TK
  have l0 : Q0.length ≤ 60 := by rw [NL.out]; have := N6.out; omega
  obtain ⟨QA, hQA⟩ : ∃ QA, itT d xa = QA := ⟨_, rfl⟩
  have EQA := Lib.hid hQA
  rw [hQA] at RWA NA
  have la : QA.length ≤ 60 := by rw [NA.out]; exact la60
  obtain ⟨QB, hQB⟩ : ∃ QB, itT d xb = QB := ⟨_, rfl⟩
  have EQB := Lib.hid hQB
  rw [hQB] at RWB NB
  have lb : QB.length ≤ 60 := by rw [NB.out]; exact lb60
  have zw := B5.out.size
  have IA : xa = [] ↔ na = 0 := by rw [LA.out, List.length_eq_zero_iff]
  have IB : xb = [] ↔ nb = 0 := by rw [LB.out, List.length_eq_zero_iff]
  clear hQ0 hQA hQB
  subst hkd
  by_cases v0 : xv = 0
  · subst v0
    by_cases hz : nb = 0
    · have tz : ((nb : Int) == 0) = true := by simp [hz]
      have NV : Hid (nodV 3 0 xa.length xb.length = true) := Lib.hid (by unfold nodV; rw [if_neg (by simp [wrdV]), if_pos rfl]; simp [IA, IB]; omega)
      clear IA IB
      go_wp2_with fail
      refine (item1_any 3 _).mono ?_
      rintro e w3 ⟨v_0, rfl, hr, hbb⟩
      obtain ⟨A_0, n_0, c_0, rfl⟩ := irow_form hr
      have BN3 := Lib.hid (below_step B5.out hbb)
      have R5_3 := Lib.hid (irow_below R5.out hbb)
      have RWA_3 := Lib.hid (irow_below RWA.out hbb)
      have RWB_3 := Lib.hid (irow_below RWB.out hbb)
      have K0_3 := Lib.hid hr
      clear hr hbb
      go_wp2_with fail
      refine (item1_any 5 _).mono ?_
      rintro e w4 ⟨v_1, rfl, hr, hbb⟩
      obtain ⟨A_1, n_1, c_1, rfl⟩ := irow_form hr
      have BN4 := Lib.hid (below_step BN3.out hbb)
      have R5_4 := Lib.hid (irow_below R5_3.out hbb)
      have RWA_4 := Lib.hid (irow_below RWA_3.out hbb)
      have RWB_4 := Lib.hid (irow_below RWB_3.out hbb)
      have K0_4 := Lib.hid (irow_below K0_3.out hbb)
      have K1_4 := Lib.hid hr
      clear hr hbb
      have zz := BN4.out.size
      go_wp2_with fail
      refine (cat_any _ 4 [Q0, [⟨3, 0⟩], QA, [⟨5, 0⟩]] _ (cats4 _ _ rfl (irow_its R5_4.out) (irow_its K0_4.out) (irow_its RWA_4.out) (irow_its K1_4.out)) (by simp) rfl (by omega) (by simp; omega)).mono ?_
      rintro e w9 ⟨v9, rfl, hr9, hbb⟩
      obtain ⟨A9, n9, c9, rfl⟩ := irow_form hr9
      have R9 := Lib.hid (irow_base hr9 (show w.heap.size ≤ _ by simp; omega))
      have BN := Lib.hid (below_step (below_alloc BN4.out _) hbb)
      clear hr9 hbb
      have IE : itN (itT d) (.mk 3 0 xa xb) = [⟨3, 0⟩] ++ QA ++ [⟨5, 0⟩] := by simp [itN, wrdB, opnK, midK, endK, Nd.k, Nd.v, Nd.a, Nd.b, EQA.out, EQB.out]
      have HF : Hid (IRow w9 w.heap.size (.slice A9 n9 c9) (itT (d + 1) (L.take (k + 1)))) := Lib.hid (by rw [TK.out, IE]; simpa [List.append_assoc] using R9.out)
      have OKN := Lib.hid (NXT.out (by exact NV.out))
      clear IE
      go_wp2
      refine HN.out _ _ ?_
      unfold FlNext
      exact ⟨_, _, _, _, _, _, _, _, _, _, _, _, _, _, _, _, _, _, _, _, _, _, _, _, _, _, _, _, _, _, _, _, _, _, _, _, _, _, _, _, _, _, _, _, _, _, _, _, _, _, _, _, _, _, _, _, _, _, _, _, _, _, _, _, _, _, _, _, _, _, _, _, _, _, _, _, _, _, _, _, _, _, _, _, _, _, _, _, _, _, _, _, _, _, _, _, _, _, _, _, _, _, _, _, _, _, _, _, _, _, _, _, _, _, _, _, _, _, _, _, _, _, _, _, _, _, _, _, _, _, _, _, _, _, _, _, _, _, _, _, _, _, _, _, _, _, _, _, _, _, _, _, _, _, _, _, _, _, _, _, _, _, _, _, _, _, _, _, _, _, _, _, _, _, _, _, _, _, _, _, _, _, _, _, _, _, _, _, _, _, _, _, _, _, _, _, _, _, _, _, rfl, _, _, _, rfl, by go_num, HF.out, OKN.out, BN.out⟩
    · have tz : ((nb : Int) == 0) = false := by simp [hz]
      have FN : Hid (fitT (d + 1) r L = true → False) := Lib.hid (REN.out (by unfold nodV; rw [if_neg (by simp [wrdV]), if_pos rfl]; simp [IA, IB]; omega))
      clear hz IA IB
      go_wp2
      refine HT.out _ _ ?_
      unfold FlRet
      exact ⟨_, _, _, _, _, _, _, _, _, _, _, _, _, _, _, _, _, _, _, _, _, _, _, _, _, _, _, _, _, _, _, _, _, _, _, _, _, _, _, _, _, _, _, _, _, _, _, _, _, _, _, _, _, _, _, _, _, _, _, _, _, _, _, _, _, _, _, _, _, _, _, _, _, _, _, _, _, _, _, _, _, _, _, _, _, _, _, _, _, _, _, _, _, _, _, _, _, _, _, _, _, _, _, _, _, _, _, _, _, _, _, _, _, _, _, _, _, _, _, _, _, _, _, _, _, _, _, _, _, _, _, _, _, _, _, _, _, _, _, _, _, _, _, _, _, _, _, _, _, _, _, _, _, _, _, _, _, _, _, _, _, _, _, _, _, _, _, _, _, _, _, _, _, _, _, _, _, _, _, _, _, _, _, _, _, _, _, _, _, _, _, _, _, _, _, _, _, _, _, _, rfl, _, _, _, rfl, rfl, FN.out, B5.out⟩
  by_cases v1 : xv = 1
  · subst v1
    have NV : Hid (nodV 3 1 xa.length xb.length = true) := Lib.hid (by unfold nodV; rw [if_neg (by simp [wrdV]), if_pos rfl]; simp)
    clear IA IB
    go_wp2_with fail
    refine (item1_any 3 _).mono ?_
    rintro e w3 ⟨v_0, rfl, hr, hbb⟩
    obtain ⟨A_0, n_0, c_0, rfl⟩ := irow_form hr
    have BN3 := Lib.hid (below_step B5.out hbb)
    have R5_3 := Lib.hid (irow_below R5.out hbb)
    have RWA_3 := Lib.hid (irow_below RWA.out hbb)
    have RWB_3 := Lib.hid (irow_below RWB.out hbb)
    have K0_3 := Lib.hid hr
    clear hr hbb
    go_wp2_with fail
    refine (item1_any 4 _).mono ?_
    rintro e w4 ⟨v_1, rfl, hr, hbb⟩
    obtain ⟨A_1, n_1, c_1, rfl⟩ := irow_form hr
    have BN4 := Lib.hid (below_step BN3.out hbb)
    have R5_4 := Lib.hid (irow_below R5_3.out hbb)
    have RWA_4 := Lib.hid (irow_below RWA_3.out hbb)
    have RWB_4 := Lib.hid (irow_below RWB_3.out hbb)
    have K0_4 := Lib.hid (irow_below K0_3.out hbb)
    have K1_4 := Lib.hid hr
    clear hr hbb
    go_wp2_with fail
    refine (item1_any 5 _).mono ?_
    rintro e w5 ⟨v_2, rfl, hr, hbb⟩
    obtain ⟨A_2, n_2, c_2, rfl⟩ := irow_form hr
    have BN5 := Lib.hid (below_step BN4.out hbb)
    have R5_5 := Lib.hid (irow_below R5_4.out hbb)
    have RWA_5 := Lib.hid (irow_below RWA_4.out hbb)
    have RWB_5 := Lib.hid (irow_below RWB_4.out hbb)
    have K0_5 := Lib.hid (irow_below K0_4.out hbb)
    have K1_5 := Lib.hid (irow_below K1_4.out hbb)
    have K2_5 := Lib.hid hr
    clear hr hbb
    have zz := BN5.out.size
    go_wp2_with fail
    refine (cat_any _ 6 [Q0, [⟨3, 0⟩], QA, [⟨4, 0⟩], QB, [⟨5, 0⟩]] _ (cats6 _ _ rfl (irow_its R5_5.out) (irow_its K0_5.out) (irow_its RWA_5.out) (irow_its K1_5.out) (irow_its RWB_5.out) (irow_its K2_5.out)) (by simp) rfl (by omega) (by simp; omega)).mono ?_
    rintro e w9 ⟨v9, rfl, hr9, hbb⟩
    obtain ⟨A9, n9, c9, rfl⟩ := irow_form hr9
    have R9 := Lib.hid (irow_base hr9 (show w.heap.size ≤ _ by simp; omega))
    have BN := Lib.hid (below_step (below_alloc BN5.out _) hbb)
    clear hr9 hbb
    have IE : itN (itT d) (.mk 3 1 xa xb) = [⟨3, 0⟩] ++ QA ++ ([⟨4, 0⟩] ++ QB) ++ [⟨5, 0⟩] := by simp [itN, wrdB, opnK, midK, endK, Nd.k, Nd.v, Nd.a, Nd.b, EQA.out, EQB.out]
    have HF : Hid (IRow w9 w.heap.size (.slice A9 n9 c9) (itT (d + 1) (L.take (k + 1)))) := Lib.hid (by rw [TK.out, IE]; simpa [List.append_assoc] using R9.out)
    have OKN := Lib.hid (NXT.out (by exact NV.out))
    clear IE
    go_wp2
    refine HN.out _ _ ?_
    unfold FlNext
    exact ⟨_, _, _, _, _, _, _, _, _, _, _, _, _, _, _, _, _, _, _, _, _, _, _, _, _, _, _, _, _, _, _, _, _, _, _, _, _, _, _, _, _, _, _, _, _, _, _, _, _, _, _, _, _, _, _, _, _, _, _, _, _, _, _, _, _, _, _, _, _, _, _, _, _, _, _, _, _, _, _, _, _, _, _, _, _, _, _, _, _, _, _, _, _, _, _, _, _, _, _, _, _, _, _, _, _, _, _, _, _, _, _, _, _, _, _, _, _, _, _, _, _, _, _, _, _, _, _, _, _, _, _, _, _, _, _, _, _, _, _, _, _, _, _, _, _, _, _, _, _, _, _, _, _, _, _, _, _, _, _, _, _, _, _, _, _, _, _, _, _, _, _, _, _, _, _, _, _, _, _, _, _, _, _, _, _, _, _, _, _, _, _, _, _, _, _, _, _, _, _, _, rfl, _, _, _, rfl, by go_num, HF.out, OKN.out, BN.out⟩
  have t0 : (xv == 0) = false := by simp [v0]
  have t1 : (xv == 1) = false := by simp [v1]
  have FN : Hid (fitT (d + 1) r L = true → False) := Lib.hid (REN.out (by unfold nodV; rw [if_neg (by simp [wrdV]), if_pos rfl]; simp [v0, v1]))
  clear v0 v1 IA IB
  go_wp2
  refine HT.out _ _ ?_
  unfold FlRet
  exact ⟨_, _, _, _, _, _, _, _, _, _, _, _, _, _, _, _, _, _, _, _, _, _, _, _, _, _, _, _, _, _, _, _, _, _, _, _, _, _, _, _, _, _, _, _, _, _, _, _, _, _, _, _, _, _, _, _, _, _, _, _, _, _, _, _, _, _, _, _, _, _, _, _, _, _, _, _, _, _, _, _, _, _, _, _, _, _, _, _, _, _, _, _, _, _, _, _, _, _, _, _, _, _, _, _, _, _, _, _, _, _, _, _, _, _, _, _, _, _, _, _, _, _, _, _, _, _, _, _, _, _, _, _, _, _, _, _, _, _, _, _, _, _, _, _, _, _, _, _, _, _, _, _, _, _, _, _, _, _, _, _, _, _, _, _, _, _, _, _, _, _, _, _, _, _, _, _, _, _, _, _, _, _, _, _, _, _, _, _, _, _, _, _, _, _, _, _, _, _, _, _, rfl, _, _, _, rfl, rfl, FN.out, B5.out⟩

end Go.Proofs.Ytafhmajnkicifaa

namespace Go.Proofs.Ytafhmajnkicifaa
open Go.RowKit
set_option linter.unusedVariables false
set_option linter.unusedSimpArgs false

set_option maxRecDepth 1000000 in
set_option maxHeartbeats 40000000 in
theorem flr_k11 (d r : Nat) (L : List Nd) (w wr : World) (A : Option Addr) (ca k n c : Nat) (C : Option Addr) (ih : FlatN d) (hr : r ≤ 9) (hsz : szT (d + 1) L ≤ 1048576) (hv : Nds (d + 1) w (.slice A L.length ca) L) (hk : k ≤ L.length) (hlt : k < L.length) (hl : L.length ≤ 2 ^ 63 - 1)
    (hrw : IRow wr w.heap.size (.slice C n c) (itT (d + 1) (L.take k))) (hok : okT (d + 1) r (L.take k) = true) (hb : Below w.heap.size w wr) (h0 : r ≠ 0) (hs : ¬ 60 < L[k].a.length + L[k].b.length) (h6 : ¬ 60 < n) (ga : fitT d (r - 1) L[k].a = true) (gb : fitT d (r - 1) L[k].b = true) (hkd : L[k].k = 11)
    (Q : Exit → Act → World → Prop) (hnext : ∀ a' w'', FlNext d r L w k A ca a' w'' → Q .normal a' w'') (hret : ∀ a' w'', FlRet d r L w A ca a' w'' → Q .ret a' w'')
    (u4 u5 u8 u9 u10 u11 u12 u14 u15 u16 u17 u18 u19 u20 u21 u22 u23 u24 u25 u26 u27 u28 u29 u30 u31 u32 u33 u34 u35 u36 u37 u38 u39 u40 u41 u42 u43 u44 u45 u46 u47 u48 u49 u50 u51 u52 u53 u54 u55 u56 u57 u58 u59 u60 u61 u62 u63 u64 u65 u66 u67 u68 u69 u70 u71 u72 u73 u74 u75 u76 u77 u78 u79 u80 u81 u82 u83 u84 u85 u86 u87 u88 u89 u90 u91 u92 u93 u94 u95 u96 u97 u98 u99 u100 u101 u102 u103 u104 u105 u106 u107 u108 u109 u110 u111 u112 u113 u114 u115 u116 u117 u118 u119 u120 u121 u122 u123 u124 u125 u126 u127 u128 u129 u130 u131 u132 u133 u134 u135 u136 u137 u138 u139 u140 u141 u142 u143 u144 u145 u146 u147 u148 u149 u150 u151 u152 u153 u154 u155 u156 u157 u158 u159 u160 u161 u162 u163 u164 u165 u166 u167 u168 u169 u170 u171 u172 u173 u174 u175 u176 u177 u178 u179 u180 u181 u182 u183 u184 u185 u186 u187 u188 u189 u190 u191 u192 u193 u194 u195 u196 u197 u198 u199 u200 u201 u202 u203 u204 : Value) : Code.wp Try.prog flBody Q ⟨#[.slice A L.length ca, .int .i64 ((r : Nat) : Int), undef, undef, u4, u5, .slice C n c, .int .i64 ((k : Nat) : Int), u8, u9, u10, u11, u12, .slice (some ⟨w.heap.size, 0, none⟩) 0 0, u14, u15, u16, u17, u18, u19, u20, u21, u22, u23, u24, u25, u26, u27, u28, u29, u30, u31, u32, u33, u34, u35, u36, u37, u38, u39, u40, u41, u42, u43, u44, u45, u46, u47, u48, u49, u50, u51, u52, u53, u54, u55, u56, u57, u58, u59, u60, u61, u62, u63, u64, u65, u66, u67, u68, u69, u70, u71, u72, u73, u74, u75, u76, u77, u78, u79, u80, u81, u82, u83, u84, u85, u86, u87, u88, u89, u90, u91, u92, u93, u94, u95, u96, u97, u98, u99, u100, u101, u102, u103, u104, u105, u106, u107, u108, u109, u110, u111, u112, u113, u114, u115, u116, u117, u118, u119, u120, u121, u122, u123, u124, u125, u126, u127, u128, u129, u130, u131, u132, u133, u134, u135, u136, u137, u138, u139, u140, u141, u142, u143, u144, u145, u146, u147, u148, u149, u150, u151, u152, u153, u154, u155, u156, u157, u158, u159, u160, u161, u162, u163, u164, u165, u166, u167, u168, u169, u170, u171, u172, u173, u174, u175, u176, u177, u178, u179, u180, u181, u182, u183, u184, u185, u186, u187, u188, u189, u190, u191, u192, u193, u194, u195, u196, u197, u198, u199, u200, u201, u202, u203, u204, undef, undef, undef, undef], []⟩ wr := by
  have HV := Lib.hid hv
  have HSZ := Lib.hid hsz
  have IH := Lib.hid ih
  have HN := Lib.hid hnext
  have HT := Lib.hid hret
  clear hnext hret ih hsz hv
  have Xga := Lib.hid ga
  have Xgb := Lib.hid gb
  have Xhkd := Lib.hid hkd
  clear ga gb hkd
  have zr := hb.size
  obtain ⟨_, C', c', e, _⟩ := irow_its hrw
  simp only [Value.slice.injEq] at e
  obtain ⟨rfl, rfl, rfl⟩ := e
  obtain ⟨nl, hnl⟩ : ∃ nl, (itT (d + 1) (L.take k)).length = nl := ⟨_, rfl⟩
  rw [hnl] at hrw h6
  rw [hnl]
  have HB := Lib.hid hb
  have HR := Lib.hid hrw
  have HOK := Lib.hid hok
  have NL := Lib.hid hnl
  clear hb hrw hok hnl
  obtain ⟨_, A', ca', e', hc⟩ := nds_below HV.out HB.out
  simp only [Value.slice.injEq, true_and] at e'
  obtain ⟨rfl, rfl⟩ := e'
  obtain ⟨ga, hA, ha⟩ := hc (by omega)
  subst hA
  obtain ⟨a0, a1, A1, n1, e1, B1, m1, f1, a2, a3, ra, rb⟩ := ha k hlt
  have SZK : Hid (szT d L[k].a + szT d L[k].b ≤ 1048576) := Lib.hid (Nat.le_trans (szT_at d L hlt) HSZ.out)
  have REF : Hid (fitT (d + 1) r L = true → 0 < r ∧ nodV L[k].k L[k].v L[k].a.length L[k].b.length = true ∧ okT d (r - 1) L[k].a = true ∧ okT d (r - 1) L[k].b = true ∧ nl + (itN (itT d) (.mk L[k].k L[k].v L[k].a L[k].b)).length ≤ 60) := Lib.hid (fun h => by
    unfold fitT at h
    simp at h
    obtain ⟨q1, q2, q3, q4⟩ := okT_at d r L hlt h.1
    have q5 := itT_le d L hlt
    rw [NL.out] at q5
    exact ⟨q1, q2, q3, q4, by have : itN (itT d) (.mk L[k].k L[k].v L[k].a L[k].b) = itN (itT d) L[k] := rfl; rw [this]; omega⟩)
  have TK : Hid (itT (d + 1) (L.take (k + 1)) = itT (d + 1) (L.take k) ++ itN (itT d) (.mk L[k].k L[k].v L[k].a L[k].b)) := Lib.hid (itT_take d L hlt)
  have OT : Hid (okT (d + 1) r (L.take (k + 1)) = (okT (d + 1) r (L.take k) && (decide (0 < r) && nodV L[k].k L[k].v L[k].a.length L[k].b.length && okT d (r - 1) L[k].a && okT d (r - 1) L[k].b))) := Lib.hid (okT_take d r L hlt)
  obtain ⟨_, A2, e2, q⟩ := nds_form ra
  simp only [Value.slice.injEq] at q
  obtain ⟨rfl, rfl, rfl⟩ := q
  obtain ⟨_, B2, f2, q⟩ := nds_form rb
  simp only [Value.slice.injEq] at q
  obtain ⟨rfl, rfl, rfl⟩ := q
  have RA := Lib.hid ra
  have RB := Lib.hid rb
  have XA := Lib.hid (whole_new wr 64 #[.int .i64 L[k].k, .int .i64 L[k].v, .slice A1 L[k].a.length e1, .slice B1 L[k].b.length f1])
  have BA : Hid (Below wr.heap.size wr (wr.alloc (.cells #[.int .i64 L[k].k, .int .i64 L[k].v, .slice A1 L[k].a.length e1, .slice B1 L[k].b.length f1] 64))) := Lib.hid (below_alloc (Below.refl _ _) _)
  clear ha hc ra rb
  generalize L[k].k = xk at *
  generalize L[k].v = xv at *
  generalize L[k].a = xa at *
  generalize L[k].b = xb at *
  conv => arg 2; whnf
  have B3 := Lib.hid (below_step HB.out BA.out)
  have rz : (((r : Nat) : Int) == 0) = false := by simp [h0]
  have la := len_sz RA.out
  have lb := len_sz RB.out
  have lk := SZK.out
  have wsum : IntKind.i64.wrap ((xa.length : Int) + (xb.length : Int)) = (xa.length : Int) + (xb.length : Int) := IntWalk.i64_in _ (by omega)
  have ts : ¬ (60 : Int) < (xa.length : Int) + (xb.length : Int) := by omega
  have t6 : ¬ (60 : Int) < (nl : Int) := by omega
  have wr1 : IntKind.i64.wrap (((r : Nat) : Int) - 1) = ((r - 1 : Nat) : Int) := by rw [show ((r : Nat) : Int) - 1 = ((r - 1 : Nat) : Int) by omega]; exact IntWalk.i64_in _ (by omega)
  have CA := Lib.hid (IH.out (r - 1) (.slice A1 xa.length e1) xa _ (by omega) (nds_below RA.out BA.out) (by have := SZK.out; omega))
  have SM := Lib.hid hs
  have N6 := Lib.hid h6
  have R0 := Lib.hid h0
  clear hs h6 h0
  go_wp2_with fail
  refine CA.out.mono ?_
  rintro e w1 ⟨A9, n9, c9, rfl, sa, ba⟩
  have B4 := Lib.hid (below_step B3.out ba)
  have XB := Lib.hid (whole_below XA.out ba)
  have x3 := whole_cell XB.out 3
  simp at x3
  have BL := Lib.hid (below_step BA.out ba)
  have CB := Lib.hid (IH.out (r - 1) (.slice B1 xb.length f1) xb _ (by omega) (nds_below RB.out BL.out) (by have := SZK.out; omega))
  have SA := Lib.hid sa
  clear sa ba CA XA a0 a1 a2 a3
  go_wp2_with fail
  refine CB.out.mono ?_
  rintro e w2 ⟨A8, n8, c8, rfl, sb, bb⟩
  have B5 := Lib.hid (below_step B4.out bb)
  have XC := Lib.hid (whole_below XB.out bb)
  have R5 := Lib.hid (irow_below (irow_below HR.out BL.out) bb)
  have SB := Lib.hid sb
  have LQ := Lib.hid (below_step BL.out bb)
  have BB := Lib.hid bb
  clear sb bb CB x3 XB
  have z2 : wr.heap.size + 1 ≤ w2.heap.size := by have := whole_lt XC.out; omega
  have PARTS : Hid (fitT (d + 1) r L = true → fitT d (r - 1) xa = true ∧ fitT d (r - 1) xb = true) := Lib.hid fun p => by
    obtain ⟨p1, p2, p3, p4, p5⟩ := REF.out p
    have q1 := itN_parts (itT d) xk xv xa xb p2 (itT_nil d)
    unfold fitT
    rw [p3, p4]
    simp
    omega
  have ga := Xga.out
  have gb := Xgb.out
  have hkd := Xhkd.out
  clear Xga Xgb Xhkd
  have RWA := Lib.hid (irow_below (SA.out ga) BB.out)
  have RWB := Lib.hid (SB.out gb)
  have OA : Hid (okT d (r - 1) xa = true ∧ (itT d xa).length ≤ 60) := Lib.hid (by unfold fitT at ga; simpa using ga)
  have OB : Hid (okT d (r - 1) xb = true ∧ (itT d xb).length ≤ 60) := Lib.hid (by unfold fitT at gb; simpa using gb)
  have LA := Lib.hid (len_part0 RA.out)
  have LB := Lib.hid (len_part0 RB.out)
  rw [ga, gb]
  obtain ⟨_, A7, c7, e7, _⟩ := irow_its RWA.out
  simp only [Value.slice.injEq] at e7
  obtain ⟨rfl, rfl, rfl⟩ := e7
  obtain ⟨_, A6, c6, e6, _⟩ := irow_its RWB.out
  simp only [Value.slice.injEq] at e6
  obtain ⟨rfl, rfl, rfl⟩ := e6
  obtain ⟨na, hna⟩ : ∃ na, (itT d xa).length = na := ⟨_, rfl⟩
  obtain ⟨nb, hnb⟩ : ∃ nb, (itT d xb).length = nb := ⟨_, rfl⟩
  rw [hna] at RWA OA LA
  rw [hnb] at RWB OB LB
  rw [hna, hnb]
  have NA := Lib.hid hna
  have NB := Lib.hid hnb
  have la60 := OA.out.2
  have lb60 := OB.out.2
  have x0 := whole_cell XC.out 0
  have x1 := whole_cell XC.out 1
  simp at x0 x1
  have wab : IntKind.i64.wrap ((na : Int) + (nb : Int)) = (na : Int) + (nb : Int) := IntWalk.i64_in _ (by omega)
  have REN : Hid (nodV xk xv xa.length xb.length = false → fitT (d + 1) r L = true → False) := Lib.hid fun h p => by have := (REF.out p).2.1; rw [h] at this; cases this
  have NXT : Hid (nodV xk xv xa.length xb.length = true → okT (d + 1) r (L.take (k + 1)) = true) := Lib.hid fun h => by rw [OT.out, HOK.out, h, OA.out.1, OB.out.1]; simp; have := R0.out; omega
  clear hna hnb
  obtain ⟨Q0, hQ0⟩ : ∃ Q0, itT (d + 1) (L.take k) = Q0 := ⟨_, rfl⟩
  rw [hQ0] at R5 NL TK
  have l0 : Q0.length ≤ 60 := by rw [NL.out]; have := N6.out; omega
  obtain ⟨QA, hQA⟩ : ∃ QA, itT d xa = QA := ⟨_, rfl⟩
  have EQA := Lib.hid hQA
  rw [hQA] at RWA NA
  have la : QA.length ≤ 60 := by rw [NA.out]; exact la60
  obtain ⟨QB, hQB⟩ : ∃ QB, itT d xb = QB := ⟨_, rfl⟩
  have EQB := Lib.hid hQB
  rw [hQB] at RWB NB
  have lb : QB.length ≤ 60 := by rw [NB.out]; exact lb60
  have zw := B5.out.size
  have IA : xa = [] ↔ na = 0 := by rw [LA.out, List.length_eq_zero_iff]
  have IB : xb = [] ↔ nb = 0 := by rw [LB.out, List.length_eq_zero_iff]
  clear hQ0 hQA hQB
  subst hkd
  by_cases v0 : xv = 0
  · subst v0
    by_cases hz : nb = 0
    · have tz : ((nb : Int) == 0) = true := by simp [hz]
      have NV : Hid (nodV 11 0 xa.length xb.length = true) := Lib.hid (by unfold nodV; rw [if_neg (by simp [wrdV]), if_neg (by omega), if_neg (by omega), if_pos (by omega)]; simp [IA, IB]; omega)
      have y0 := x0
      clear IA IB
      go_wp2
      go_region_held3 (fun W => W.cell? ⟨wr.heap.size, 0, none⟩ = some (.int .i64 11)) (first | exact y2 | exact whole_cell (whole_alloc X2.out _) 0 | exact y1 | exact y0)
        (first
        | (go_at_call 55
           refine (item1_any 10 _).mono ?_
           rintro e w3 ⟨v_0, rfl, hr, hbb⟩
           obtain ⟨A_0, n_0, c_0, rfl⟩ := irow_form hr
           have hd : Below w2.heap.size w2 w3 := (Below.refl _ _).drew.trans hbb
           have BN3 := Lib.hid (below_step B5.out hd)
           have R5_3 := Lib.hid (irow_below R5.out hd)
           have RWA_3 := Lib.hid (irow_below RWA.out hd)
           have K0_3 := Lib.hid hr
           have X1 := Lib.hid (whole_below XC.out hd)
           have y1 := whole_cell X1.out 0
           have z3 := hd.size
           clear hr hbb hd)
        | (go_at_call 55
           refine (item1_any 11 _).mono ?_
           rintro e w4 ⟨v_1, rfl, hr, hbb⟩
           obtain ⟨A_1, n_1, c_1, rfl⟩ := irow_form hr
           have BN4 := Lib.hid (below_step BN3.out hbb)
           have R5_4 := Lib.hid (irow_below R5_3.out hbb)
           have RWA_4 := Lib.hid (irow_below RWA_3.out hbb)
           have K0_4 := Lib.hid (irow_below K0_3.out hbb)
           have K1_4 := Lib.hid hr
           have X2 := Lib.hid (whole_below X1.out hbb)
           have y2 := whole_cell X2.out 0
           have z4 := hbb.size
           clear hr hbb)
        | (go_at_call 56
           refine (cat_any _ 4 [Q0, [⟨10, 0⟩], QA, [⟨11, 0⟩]] _ (cats4 _ _ rfl (irow_its R5_4.out) (irow_its K0_4.out) (irow_its RWA_4.out) (irow_its K1_4.out)) (by simp) rfl (by omega) (by simp; omega)).mono ?_
           rintro e w9 ⟨v9, rfl, hr9, hbb⟩
           obtain ⟨A9, n9, c9, rfl⟩ := irow_form hr9
           have R9 := Lib.hid (irow_base hr9 (show w.heap.size ≤ _ by simp; omega))
           have BN := Lib.hid (below_step (below_alloc BN4.out _) hbb)
           have y2 : w9.cell? ⟨wr.heap.size, 0, none⟩ = some (.int .i64 11) := whole_cell (whole_below (whole_alloc X2.out _) hbb) 0
           clear hr9 hbb))
      have IE : itN (itT d) (.mk 11 0 xa xb) = [⟨10, 0⟩] ++ QA ++ [⟨11, 0⟩] := by simp [itN, wrdB, opnK, midK, endK, Nd.k, Nd.v, Nd.a, Nd.b, EQA.out, EQB.out]
      have HF : Hid (IRow w9 w.heap.size (.slice A9 n9 c9) (itT (d + 1) (L.take (k + 1)))) := Lib.hid (by rw [TK.out, IE]; simpa [List.append_assoc] using R9.out)
      have OKN := Lib.hid (NXT.out (by exact NV.out))
      clear IE
      go_wp2
      refine HN.out _ _ ?_
      unfold FlNext
      exact ⟨_, _, _, _, _, _, _, _, _, _, _, _, _, _, _, _, _, _, _, _, _, _, _, _, _, _, _, _, _, _, _, _, _, _, _, _, _, _, _, _, _, _, _, _, _, _, _, _, _, _, _, _, _, _, _, _, _, _, _, _, _, _, _, _, _, _, _, _, _, _, _, _, _, _, _, _, _, _, _, _, _, _, _, _, _, _, _, _, _, _, _, _, _, _, _, _, _, _, _, _, _, _, _, _, _, _, _, _, _, _, _, _, _, _, _, _, _, _, _, _, _, _, _, _, _, _, _, _, _, _, _, _, _, _, _, _, _, _, _, _, _, _, _, _, _, _, _, _, _, _, _, _, _, _, _, _, _, _, _, _, _, _, _, _, _, _, _, _, _, _, _, _, _, _, _, _, _, _, _, _, _, _, _, _, _, _, _, _, _, _, _, _, _, _, _, _, _, _, _, _, rfl, _, _, _, rfl, by go_num, HF.out, OKN.out, BN.out⟩
    · have tz : ((nb : Int) == 0) = false := by simp [hz]
      have FN : Hid (fitT (d + 1) r L = true → False) := Lib.hid (REN.out (by unfold nodV; rw [if_neg (by simp [wrdV]), if_neg (by omega), if_neg (by omega), if_pos (by omega)]; simp [IA, IB]; omega))
      clear hz IA IB
      go_wp2
      refine HT.out _ _ ?_
      unfold FlRet
      exact ⟨_, _, _, _, _, _, _, _, _, _, _, _, _, _, _, _, _, _, _, _, _, _, _, _, _, _, _, _, _, _, _, _, _, _, _, _, _, _, _, _, _, _, _, _, _, _, _, _, _, _, _, _, _, _, _, _, _, _, _, _, _, _, _, _, _, _, _, _, _, _, _, _, _, _, _, _, _, _, _, _, _, _, _, _, _, _, _, _, _, _, _, _, _, _, _, _, _, _, _, _, _, _, _, _, _, _, _, _, _, _, _, _, _, _, _, _, _, _, _, _, _, _, _, _, _, _, _, _, _, _, _, _, _, _, _, _, _, _, _, _, _, _, _, _, _, _, _, _, _, _, _, _, _, _, _, _, _, _, _, _, _, _, _, _, _, _, _, _, _, _, _, _, _, _, _, _, _, _, _, _, _, _, _, _, _, _, _, _, _, _, _, _, _, _, _, _, _, _, _, _, rfl, _, _, _, rfl, rfl, FN.out, B5.out⟩
  have t0 : (xv == 0) = false := by simp [v0]
  have FN : Hid (fitT (d + 1) r L = true → False) := Lib.hid (REN.out (by unfold nodV; rw [if_neg (by simp [wrdV]), if_neg (by omega), if_neg (by omega), if_pos (by omega)]; simp [IA, IB, v0]))
  clear v0 IA IB
  go_wp2
  refine HT.out _ _ ?_
  unfold FlRet
  exact ⟨_, _, _, _, _, _, _, _, _, _, _, _, _, _, _, _, _, _, _, _, _, _, _, _, _, _, _, _, _, _, _, _, _, _, _, _, _, _, _, _, _, _, _, _, _, _, _, _, _, _, _, _, _, _, _, _, _, _, _, _, _, _, _, _, _, _, _, _, _, _, _, _, _, _, _, _, _, _, _, _, _, _, _, _, _, _, _, _, _, _, _, _, _, _, _, _, _, _, _, _, _, _, _, _, _, _, _, _, _, _, _, _, _, _, _, _, _, _, _, _, _, _, _, _, _, _, _, _, _, _, _, _, _, _, _, _, _, _, _, _, _, _, _, _, _, _, _, _, _, _, _, _, _, _, _, _, _, _, _, _, _, _, _, _, _, _, _, _, _, _, _, _, _, _, _, _, _, _, _, _, _, _, _, _, _, _, _, _, _, _, _, _, _, _, _, _, _, _, _, _, rfl, _, _, _, rfl, rfl, FN.out, B5.out⟩

end Go.Proofs.Ytafhmajnkicifaa

namespace Go.Proofs.Ytafhmajnkicifaa
open Go.RowKit
set_option linter.unusedVariables false
set_option linter.unusedSimpArgs false

set_option maxRecDepth 1000000 in
set_option maxHeartbeats 40000000 in
theorem flr_k12 (d r : Nat) (L : List Nd) (w wr : World) (A : Option Addr) (ca k n c : Nat) (C : Option Addr) (ih : FlatN d) (hr : r ≤ 9) (hsz : szT (d + 1) L ≤ 1048576) (hv : Nds (d + 1) w (.slice A L.length ca) L) (hk : k ≤ L.length) (hlt : k < L.length) (hl : L.length ≤ 2 ^ 63 - 1)
    (hrw : IRow wr w.heap.size (.slice C n c) (itT (d + 1) (L.take k))) (hok : okT (d + 1) r (L.take k) = true) (hb : Below w.heap.size w wr) (h0 : r ≠ 0) (hs : ¬ 60 < L[k].a.length + L[k].b.length) (h6 : ¬ 60 < n) (ga : fitT d (r - 1) L[k].a = true) (gb : fitT d (r - 1) L[k].b = true) (hkd : L[k].k = 12)
    (Q : Exit → Act → World → Prop) (hnext : ∀ a' w'', FlNext d r L w k A ca a' w'' → Q .normal a' w'') (hret : ∀ a' w'', FlRet d r L w A ca a' w'' → Q .ret a' w'')
    (u4 u5 u8 u9 u10 u11 u12 u14 u15 u16 u17 u18 u19 u20 u21 u22 u23 u24 u25 u26 u27 u28 u29 u30 u31 u32 u33 u34 u35 u36 u37 u38 u39 u40 u41 u42 u43 u44 u45 u46 u47 u48 u49 u50 u51 u52 u53 u54 u55 u56 u57 u58 u59 u60 u61 u62 u63 u64 u65 u66 u67 u68 u69 u70 u71 u72 u73 u74 u75 u76 u77 u78 u79 u80 u81 u82 u83 u84 u85 u86 u87 u88 u89 u90 u91 u92 u93 u94 u95 u96 u97 u98 u99 u100 u101 u102 u103 u104 u105 u106 u107 u108 u109 u110 u111 u112 u113 u114 u115 u116 u117 u118 u119 u120 u121 u122 u123 u124 u125 u126 u127 u128 u129 u130 u131 u132 u133 u134 u135 u136 u137 u138 u139 u140 u141 u142 u143 u144 u145 u146 u147 u148 u149 u150 u151 u152 u153 u154 u155 u156 u157 u158 u159 u160 u161 u162 u163 u164 u165 u166 u167 u168 u169 u170 u171 u172 u173 u174 u175 u176 u177 u178 u179 u180 u181 u182 u183 u184 u185 u186 u187 u188 u189 u190 u191 u192 u193 u194 u195 u196 u197 u198 u199 u200 u201 u202 u203 u204 : Value) : Code.wp Try.prog flBody Q ⟨#[.slice A L.length ca, .int .i64 ((r : Nat) : Int), undef, undef, u4, u5, .slice C n c, .int .i64 ((k : Nat) : Int), u8, u9, u10, u11, u12, .slice (some ⟨w.heap.size, 0, none⟩) 0 0, u14, u15, u16, u17, u18, u19, u20, u21, u22, u23, u24, u25, u26, u27, u28, u29, u30, u31, u32, u33, u34, u35, u36, u37, u38, u39, u40, u41, u42, u43, u44, u45, u46, u47, u48, u49, u50, u51, u52, u53, u54, u55, u56, u57, u58, u59, u60, u61, u62, u63, u64, u65, u66, u67, u68, u69, u70, u71, u72, u73, u74, u75, u76, u77, u78, u79, u80, u81, u82, u83, u84, u85, u86, u87, u88, u89, u90, u91, u92, u93, u94, u95, u96, u97, u98, u99, u100, u101, u102, u103, u104, u105, u106, u107, u108, u109, u110, u111, u112, u113, u114, u115, u116, u117, u118, u119, u120, u121, u122, u123, u124, u125, u126, u127, u128, u129, u130, u131, u132, u133, u134, u135, u136, u137, u138, u139, u140, u141, u142, u143, u144, u145, u146, u147, u148, u149, u150, u151, u152, u153, u154, u155, u156, u157, u158, u159, u160, u161, u162, u163, u164, u165, u166, u167, u168, u169, u170, u171, u172, u173, u174, u175, u176, u177, u178, u179, u180, u181, u182, u183, u184, u185, u186, u187, u188, u189, u190, u191, u192, u193, u194, u195, u196, u197, u198, u199, u200, u201, u202, u203, u204, undef, undef, undef, undef], []⟩ wr := by
  have HV := Lib.hid hv
  have HSZ := Lib.hid hsz
  have IH := Lib.hid ih
  have HN := Lib.hid hnext
  have HT := Lib.hid hret
  clear hnext hret ih hsz hv
  have Xga := Lib.hid ga
  have Xgb := Lib.hid gb
  have Xhkd := Lib.hid hkd
  clear ga gb hkd
  have zr := hb.size
  obtain ⟨_, C', c', e, _⟩ := irow_its hrw
  simp only [Value.slice.injEq] at e
  obtain ⟨rfl, rfl, rfl⟩ := e
  obtain ⟨nl, hnl⟩ : ∃ nl, (itT (d + 1) (L.take k)).length = nl := ⟨_, rfl⟩
  rw [hnl] at hrw h6
  rw [hnl]
  have HB := Lib.hid hb
  have HR := Lib.hid hrw
  have HOK := Lib.hid hok
  have NL := Lib.hid hnl
  clear hb hrw hok hnl
  obtain ⟨_, A', ca', e', hc⟩ := nds_below HV.out HB.out
  simp only [Value.slice.injEq, true_and] at e'
  obtain ⟨rfl, rfl⟩ := e'
  obtain ⟨ga, hA, ha⟩ := hc (by omega)
  subst hA
  obtain ⟨a0, a1, A1, n1, e1, B1, m1, f1, a2, a3, ra, rb⟩ := ha k hlt
  have SZK : Hid (szT d L[k].a + szT d L[k].b ≤ 1048576) := Lib.hid (Nat.le_trans (szT_at d L hlt) HSZ.out)
  have REF : Hid (fitT (d + 1) r L = true → 0 < r ∧ nodV L[k].k L[k].v L[k].a.length L[k].b.length = true ∧ okT d (r - 1) L[k].a = true ∧ okT d (r - 1) L[k].b = true ∧ nl + (itN (itT d) (.mk L[k].k L[k].v L[k].a L[k].b)).length ≤ 60) := Lib.hid (fun h => by
    unfold fitT at h
    simp at h
    obtain ⟨q1, q2, q3, q4⟩ := okT_at d r L hlt h.1
    have q5 := itT_le d L hlt
    rw [NL.out] at q5
    exact ⟨q1, q2, q3, q4, by have : itN (itT d) (.mk L[k].k L[k].v L[k].a L[k].b) = itN (itT d) L[k] := rfl; rw [this]; omega⟩)
  have TK : Hid (itT (d + 1) (L.take (k + 1)) = itT (d + 1) (L.take k) ++ itN (itT d) (.mk L[k].k L[k].v L[k].a L[k].b)) := Lib.hid (itT_take d L hlt)
  have OT : Hid (okT (d + 1) r (L.take (k + 1)) = (okT (d + 1) r (L.take k) && (decide (0 < r) && nodV L[k].k L[k].v L[k].a.length L[k].b.length && okT d (r - 1) L[k].a && okT d (r - 1) L[k].b))) := Lib.hid (okT_take d r L hlt)
  obtain ⟨_, A2, e2, q⟩ := nds_form ra
  simp only [Value.slice.injEq] at q
  obtain ⟨rfl, rfl, rfl⟩ := q
  obtain ⟨_, B2, f2, q⟩ := nds_form rb
  simp only [Value.slice.injEq] at q
  obtain ⟨rfl, rfl, rfl⟩ := q
  have RA := Lib.hid ra
  have RB := Lib.hid rb
  have XA := Lib.hid (whole_new wr 64 #[.int .i64 L[k].k, .int .i64 L[k].v, .slice A1 L[k].a.length e1, .slice B1 L[k].b.length f1])
  have BA : Hid (Below wr.heap.size wr (wr.alloc (.cells #[.int .i64 L[k].k, .int .i64 L[k].v, .slice A1 L[k].a.length e1, .slice B1 L[k].b.length f1] 64))) := Lib.hid (below_alloc (Below.refl _ _) _)
  clear ha hc ra rb
  generalize L[k].k = xk at *
  generalize L[k].v = xv at *
  generalize L[k].a = xa at *
  generalize L[k].b = xb at *
  conv => arg 2; whnf
  have B3 := Lib.hid (below_step HB.out BA.out)
  have rz : (((r : Nat) : Int) == 0) = false := by simp [h0]
  have la := len_sz RA.out
  have lb := len_sz RB.out
  have lk := SZK.out
  have wsum : IntKind.i64.wrap ((xa.length : Int) + (xb.length : Int)) = (xa.length : Int) + (xb.length : Int) := IntWalk.i64_in _ (by omega)
  have ts : ¬ (60 : Int) < (xa.length : Int) + (xb.length : Int) := by omega
  have t6 : ¬ (60 : Int) < (nl : Int) := by omega
  have wr1 : IntKind.i64.wrap (((r : Nat) : Int) - 1) = ((r - 1 : Nat) : Int) := by rw [show ((r : Nat) : Int) - 1 = ((r - 1 : Nat) : Int) by omega]; exact IntWalk.i64_in _ (by omega)
  have CA := Lib.hid (IH.out (r - 1) (.slice A1 xa.length e1) xa _ (by omega) (nds_below RA.out BA.out) (by have := SZK.out; omega))
  have SM := Lib.hid hs
  have N6 := Lib.hid h6
  have R0 := Lib.hid h0
  clear hs h6 h0
  go_wp2_with fail
  refine CA.out.mono ?_
  rintro e w1 ⟨A9, n9, c9, rfl, sa, ba⟩
  have B4 := Lib.hid (below_step B3.out ba)
  have XB := Lib.hid (whole_below XA.out ba)
  have x3 := whole_cell XB.out 3
  simp at x3
  have BL := Lib.hid (below_step BA.out ba)
  have CB := Lib.hid (IH.out (r - 1) (.slice B1 xb.length f1) xb _ (by omega) (nds_below RB.out BL.out) (by have := SZK.out; omega))
  have SA := Lib.hid sa
  clear sa ba CA XA a0 a1 a2 a3
  go_wp2_with fail
  refine CB.out.mono ?_
  rintro e w2 ⟨A8, n8, c8, rfl, sb, bb⟩
  have B5 := Lib.hid (below_step B4.out bb)
  have XC := Lib.hid (whole_below XB.out bb)
  have R5 := Lib.hid (irow_below (irow_below HR.out BL.out) bb)
  have SB := Lib.hid sb
  have LQ := Lib.hid (below_step BL.out bb)
  have BB := Lib.hid bb
  clear sb bb CB x3 XB
  have z2 : wr.heap.size + 1 ≤ w2.heap.size := by have := whole_lt XC.out; omega
  have PARTS : Hid (fitT (d + 1) r L = true → fitT d (r - 1) xa = true ∧ fitT d (r - 1) xb = true) := Lib.hid fun p => by
    obtain ⟨p1, p2, p3, p4, p5⟩ := REF.out p
    have q1 := itN_parts (itT d) xk xv xa xb p2 (itT_nil d)
    unfold fitT
    rw [p3, p4]
    simp
    omega
  have ga := Xga.out
  have gb := Xgb.out
  have hkd := Xhkd.out
  clear Xga Xgb Xhkd
  have RWA := Lib.hid (irow_below (SA.out ga) BB.out)
  have RWB := Lib.hid (SB.out gb)
  have OA : Hid (okT d (r - 1) xa = true ∧ (itT d xa).length ≤ 60) := Lib.hid (by unfold fitT at ga; simpa using ga)
  have OB : Hid (okT d (r - 1) xb = true ∧ (itT d xb).length ≤ 60) := Lib.hid (by unfold fitT at gb; simpa using gb)
  have LA := Lib.hid (len_part0 RA.out)
  have LB := Lib.hid (len_part0 RB.out)
  rw [ga, gb]
  obtain ⟨_, A7, c7, e7, _⟩ := irow_its RWA.out
  simp only [Value.slice.injEq] at e7
  obtain ⟨rfl, rfl, rfl⟩ := e7
  obtain ⟨_, A6, c6, e6, _⟩ := irow_its RWB.out
  simp only [Value.slice.injEq] at e6
  obtain ⟨rfl, rfl, rfl⟩ := e6
  obtain ⟨na, hna⟩ : ∃ na, (itT d xa).length = na := ⟨_, rfl⟩
  obtain ⟨nb, hnb⟩ : ∃ nb, (itT d xb).length = nb := ⟨_, rfl⟩
  rw [hna] at RWA OA LA
  rw [hnb] at RWB OB LB
  rw [hna, hnb]
  have NA := Lib.hid hna
  have NB := Lib.hid hnb
  have la60 := OA.out.2
  have lb60 := OB.out.2
  have x0 := whole_cell XC.out 0
  have x1 := whole_cell XC.out 1
  simp at x0 x1
  have wab : IntKind.i64.wrap ((na : Int) + (nb : Int)) = (na : Int) + (nb : Int) := IntWalk.i64_in _ (by omega)
  have REN : Hid (nodV xk xv xa.length xb.length = false → fitT (d + 1) r L = true → False) := Lib.hid fun h p => by have := (REF.out p).2.1; rw [h] at this; cases this
  have NXT : Hid (nodV xk xv xa.length xb.length = true → okT (d + 1) r (L.take (k + 1)) = true) := Lib.hid fun h => by rw [OT.out, HOK.out, h, OA.out.1, OB.out.1]; simp; have := R0.out; omega
  clear hna hnb
  obtain ⟨Q0, hQ0⟩ : ∃ Q0, itT (d + 1) (L.take k) = Q0 := ⟨_, rfl⟩
  rw [hQ0] at R5 NL TK
  have l0 : Q0.length ≤ 60 := by rw [NL.out]; have := N6.out; omega
  obtain ⟨QA, hQA⟩ : ∃ QA, itT d xa = QA := ⟨_, rfl⟩
  have EQA := Lib.hid hQA
  rw [hQA] at RWA NA
  have la : QA.length ≤ 60 := by rw [NA.out]; exact la60
  obtain ⟨QB, hQB⟩ : ∃ QB, itT d xb = QB := ⟨_, rfl⟩
  have EQB := Lib.hid hQB
  rw [hQB] at RWB NB
  have lb : QB.length ≤ 60 := by rw [NB.out]; exact lb60
  have zw := B5.out.size
  have IA : xa = [] ↔ na = 0 := by rw [LA.out, List.length_eq_zero_iff]
  have IB : xb = [] ↔ nb = 0 := by rw [LB.out, List.length_eq_zero_iff]
  clear hQ0 hQA hQB
  subst hkd
  by_cases v0 : xv = 0
  · subst v0
    by_cases hz : nb = 0
    · have tz : ((nb : Int) == 0) = true := by simp [hz]
      have NV : Hid (nodV 12 0 xa.length xb.length = true) := Lib.hid (by unfold nodV; rw [if_neg (by simp [wrdV]), if_neg (by omega), if_neg (by omega), if_pos (by omega)]; simp [IA, IB]; omega)
      have y0 := x0
      clear IA IB
      go_wp2
      go_region_held3 (fun W => W.cell? ⟨wr.heap.size, 0, none⟩ = some (.int .i64 12)) (first | exact y2 | exact whole_cell (whole_alloc X2.out _) 0 | exact y1 | exact y0)
        (first
        | (go_at_call 55
           refine (item1_any 10 _).mono ?_
           rintro e w3 ⟨v_0, rfl, hr, hbb⟩
           obtain ⟨A_0, n_0, c_0, rfl⟩ := irow_form hr
           have hd : Below w2.heap.size w2 w3 := (Below.refl _ _).drew.trans hbb
           have BN3 := Lib.hid (below_step B5.out hd)
           have R5_3 := Lib.hid (irow_below R5.out hd)
           have RWA_3 := Lib.hid (irow_below RWA.out hd)
           have K0_3 := Lib.hid hr
           have X1 := Lib.hid (whole_below XC.out hd)
           have y1 := whole_cell X1.out 0
           have z3 := hd.size
           clear hr hbb hd)
        | (go_at_call 55
           refine (item1_any 12 _).mono ?_
           rintro e w4 ⟨v_1, rfl, hr, hbb⟩
           obtain ⟨A_1, n_1, c_1, rfl⟩ := irow_form hr
           have BN4 := Lib.hid (below_step BN3.out hbb)
           have R5_4 := Lib.hid (irow_below R5_3.out hbb)
           have RWA_4 := Lib.hid (irow_below RWA_3.out hbb)
           have K0_4 := Lib.hid (irow_below K0_3.out hbb)
           have K1_4 := Lib.hid hr
           have X2 := Lib.hid (whole_below X1.out hbb)
           have y2 := whole_cell X2.out 0
           have z4 := hbb.size
           clear hr hbb)
        | (go_at_call 56
           refine (cat_any _ 4 [Q0, [⟨10, 0⟩], QA, [⟨12, 0⟩]] _ (cats4 _ _ rfl (irow_its R5_4.out) (irow_its K0_4.out) (irow_its RWA_4.out) (irow_its K1_4.out)) (by simp) rfl (by omega) (by simp; omega)).mono ?_
           rintro e w9 ⟨v9, rfl, hr9, hbb⟩
           obtain ⟨A9, n9, c9, rfl⟩ := irow_form hr9
           have R9 := Lib.hid (irow_base hr9 (show w.heap.size ≤ _ by simp; omega))
           have BN := Lib.hid (below_step (below_alloc BN4.out _) hbb)
           have y2 : w9.cell? ⟨wr.heap.size, 0, none⟩ = some (.int .i64 12) := whole_cell (whole_below (whole_alloc X2.out _) hbb) 0
           clear hr9 hbb))
      have IE : itN (itT d) (.mk 12 0 xa xb) = [⟨10, 0⟩] ++ QA ++ [⟨12, 0⟩] := by simp [itN, wrdB, opnK, midK, endK, Nd.k, Nd.v, Nd.a, Nd.b, EQA.out, EQB.out]
      have HF : Hid (IRow w9 w.heap.size (.slice A9 n9 c9) (itT (d + 1) (L.take (k + 1)))) := Lib.hid (by rw [TK.out, IE]; simpa [List.append_assoc] using R9.out)
      have OKN := Lib.hid (NXT.out (by exact NV.out))
      clear IE
      go_wp2
      refine HN.out _ _ ?_
      unfold FlNext
      exact ⟨_, _, _, _, _, _, _, _, _, _, _, _, _, _, _, _, _, _, _, _, _, _, _, _, _, _, _, _, _, _, _, _, _, _, _, _, _, _, _, _, _, _, _, _, _, _, _, _, _, _, _, _, _, _, _, _, _, _, _, _, _, _, _, _, _, _, _, _, _, _, _, _, _, _, _, _, _, _, _, _, _, _, _, _, _, _, _, _, _, _, _, _, _, _, _, _, _, _, _, _, _, _, _, _, _, _, _, _, _, _, _, _, _, _, _, _, _, _, _, _, _, _, _, _, _, _, _, _, _, _, _, _, _, _, _, _, _, _, _, _, _, _, _, _, _, _, _, _, _, _, _, _, _, _, _, _, _, _, _, _, _, _, _, _, _, _, _, _, _, _, _, _, _, _, _, _, _, _, _, _, _, _, _, _, _, _, _, _, _, _, _, _, _, _, _, _, _, _, _, _, rfl, _, _, _, rfl, by go_num, HF.out, OKN.out, BN.out⟩
    · have tz : ((nb : Int) == 0) = false := by simp [hz]
      have FN : Hid (fitT (d + 1) r L = true → False) := Lib.hid (REN.out (by unfold nodV; rw [if_neg (by simp [wrdV]), if_neg (by omega), if_neg (by omega), if_pos (by omega)]; simp [IA, IB]; omega))
      clear hz IA IB
      go_wp2
      refine HT.out _ _ ?_
      unfold FlRet
      exact ⟨_, _, _, _, _, _, _, _, _, _, _, _, _, _, _, _, _, _, _, _, _, _, _, _, _, _, _, _, _, _, _, _, _, _, _, _, _, _, _, _, _, _, _, _, _, _, _, _, _, _, _, _, _, _, _, _, _, _, _, _, _, _, _, _, _, _, _, _, _, _, _, _, _, _, _, _, _, _, _, _, _, _, _, _, _, _, _, _, _, _, _, _, _, _, _, _, _, _, _, _, _, _, _, _, _, _, _, _, _, _, _, _, _, _, _, _, _, _, _, _, _, _, _, _, _, _, _, _, _, _, _, _, _, _, _, _, _, _, _, _, _, _, _, _, _, _, _, _, _, _, _, _, _, _, _, _, _, _, _, _, _, _, _, _, _, _, _, _, _, _, _, _, _, _, _, _, _, _, _, _, _, _, _, _, _, _, _, _, _, _, _, _, _, _, _, _, _, _, _, _, rfl, _, _, _, rfl, rfl, FN.out, B5.out⟩
  have t0 : (xv == 0) = false := by simp [v0]
  have FN : Hid (fitT (d + 1) r L = true → False) := Lib.hid (REN.out (by unfold nodV; rw [if_neg (by simp [wrdV]), if_neg (by omega), if_neg (by omega), if_pos (by omega)]; simp [IA, IB, v0]))
  clear v0 IA IB
  go_wp2
  refine HT.out _ _ ?_
  unfold FlRet
  exact ⟨_, _, _, _, _, _, _, _, _, _, _, _, _, _, _, _, _, _, _, _, _, _, _, _, _, _, _, _, _, _, _, _, _, _, _, _, _, _, _, _, _, _, _, _, _, _, _, _, _, _, _, _, _, _, _, _, _, _, _, _, _, _, _, _, _, _, _, _, _, _, _, _, _, _, _, _, _, _, _, _, _, _, _, _, _, _, _, _, _, _, _, _, _, _, _, _, _, _, _, _, _, _, _, _, _, _, _, _, _, _, _, _, _, _, _, _, _, _, _, _, _, _, _, _, _, _, _, _, _, _, _, _, _, _, _, _, _, _, _, _, _, _, _, _, _, _, _, _, _, _, _, _, _, _, _, _, _, _, _, _, _, _, _, _, _, _, _, _, _, _, _, _, _, _, _, _, _, _, _, _, _, _, _, _, _, _, _, _, _, _, _, _, _, _, _, _, _, _, _, _, rfl, _, _, _, rfl, rfl, FN.out, B5.out⟩

end Go.Proofs.Ytafhmajnkicifaa

namespace Go.Proofs.Ytafhmajnkicifaa
open Go.RowKit
set_option linter.unusedVariables false
set_option linter.unusedSimpArgs false

set_option maxRecDepth 1000000 in
set_option maxHeartbeats 40000000 in
theorem flr_go (d r : Nat) (L : List Nd) (w wr : World) (A : Option Addr) (ca k n c : Nat) (C : Option Addr) (ih : FlatN d) (hr : r ≤ 9) (hsz : szT (d + 1) L ≤ 1048576) (hv : Nds (d + 1) w (.slice A L.length ca) L) (hk : k ≤ L.length) (hlt : k < L.length) (hl : L.length ≤ 2 ^ 63 - 1)
    (hrw : IRow wr w.heap.size (.slice C n c) (itT (d + 1) (L.take k))) (hok : okT (d + 1) r (L.take k) = true) (hb : Below w.heap.size w wr) (h0 : r ≠ 0) (hs : ¬ 60 < L[k].a.length + L[k].b.length) (h6 : ¬ 60 < n)
    (Q : Exit → Act → World → Prop) (hnext : ∀ a' w'', FlNext d r L w k A ca a' w'' → Q .normal a' w'') (hret : ∀ a' w'', FlRet d r L w A ca a' w'' → Q .ret a' w'')
    (u4 u5 u8 u9 u10 u11 u12 u14 u15 u16 u17 u18 u19 u20 u21 u22 u23 u24 u25 u26 u27 u28 u29 u30 u31 u32 u33 u34 u35 u36 u37 u38 u39 u40 u41 u42 u43 u44 u45 u46 u47 u48 u49 u50 u51 u52 u53 u54 u55 u56 u57 u58 u59 u60 u61 u62 u63 u64 u65 u66 u67 u68 u69 u70 u71 u72 u73 u74 u75 u76 u77 u78 u79 u80 u81 u82 u83 u84 u85 u86 u87 u88 u89 u90 u91 u92 u93 u94 u95 u96 u97 u98 u99 u100 u101 u102 u103 u104 u105 u106 u107 u108 u109 u110 u111 u112 u113 u114 u115 u116 u117 u118 u119 u120 u121 u122 u123 u124 u125 u126 u127 u128 u129 u130 u131 u132 u133 u134 u135 u136 u137 u138 u139 u140 u141 u142 u143 u144 u145 u146 u147 u148 u149 u150 u151 u152 u153 u154 u155 u156 u157 u158 u159 u160 u161 u162 u163 u164 u165 u166 u167 u168 u169 u170 u171 u172 u173 u174 u175 u176 u177 u178 u179 u180 u181 u182 u183 u184 u185 u186 u187 u188 u189 u190 u191 u192 u193 u194 u195 u196 u197 u198 u199 u200 u201 u202 u203 u204 : Value) : Code.wp Try.prog flBody Q ⟨#[.slice A L.length ca, .int .i64 ((r : Nat) : Int), undef, undef, u4, u5, .slice C n c, .int .i64 ((k : Nat) : Int), u8, u9, u10, u11, u12, .slice (some ⟨w.heap.size, 0, none⟩) 0 0, u14, u15, u16, u17, u18, u19, u20, u21, u22, u23, u24, u25, u26, u27, u28, u29, u30, u31, u32, u33, u34, u35, u36, u37, u38, u39, u40, u41, u42, u43, u44, u45, u46, u47, u48, u49, u50, u51, u52, u53, u54, u55, u56, u57, u58, u59, u60, u61, u62, u63, u64, u65, u66, u67, u68, u69, u70, u71, u72, u73, u74, u75, u76, u77, u78, u79, u80, u81, u82, u83, u84, u85, u86, u87, u88, u89, u90, u91, u92, u93, u94, u95, u96, u97, u98, u99, u100, u101, u102, u103, u104, u105, u106, u107, u108, u109, u110, u111, u112, u113, u114, u115, u116, u117, u118, u119, u120, u121, u122, u123, u124, u125, u126, u127, u128, u129, u130, u131, u132, u133, u134, u135, u136, u137, u138, u139, u140, u141, u142, u143, u144, u145, u146, u147, u148, u149, u150, u151, u152, u153, u154, u155, u156, u157, u158, u159, u160, u161, u162, u163, u164, u165, u166, u167, u168, u169, u170, u171, u172, u173, u174, u175, u176, u177, u178, u179, u180, u181, u182, u183, u184, u185, u186, u187, u188, u189, u190, u191, u192, u193, u194, u195, u196, u197, u198, u199, u200, u201, u202, u203, u204, undef, undef, undef, undef], []⟩ wr := by
  by_cases hp : fitT d (r - 1) L[k].a = true ∧ fitT d (r - 1) L[k].b = true
  · obtain ⟨ga, gb⟩ := hp
    by_cases h1 : L[k].k = 1
    · exact flr_k1 d r L w wr A ca k n c C ih hr hsz hv hk hlt hl hrw hok hb h0 hs h6 ga gb h1 Q hnext hret u4 u5 u8 u9 u10 u11 u12 u14 u15 u16 u17 u18 u19 u20 u21 u22 u23 u24 u25 u26 u27 u28 u29 u30 u31 u32 u33 u34 u35 u36 u37 u38 u39 u40 u41 u42 u43 u44 u45 u46 u47 u48 u49 u50 u51 u52 u53 u54 u55 u56 u57 u58 u59 u60 u61 u62 u63 u64 u65 u66 u67 u68 u69 u70 u71 u72 u73 u74 u75 u76 u77 u78 u79 u80 u81 u82 u83 u84 u85 u86 u87 u88 u89 u90 u91 u92 u93 u94 u95 u96 u97 u98 u99 u100 u101 u102 u103 u104 u105 u106 u107 u108 u109 u110 u111 u112 u113 u114 u115 u116 u117 u118 u119 u120 u121 u122 u123 u124 u125 u126 u127 u128 u129 u130 u131 u132 u133 u134 u135 u136 u137 u138 u139 u140 u141 u142 u143 u144 u145 u146 u147 u148 u149 u150 u151 u152 u153 u154 u155 u156 u157 u158 u159 u160 u161 u162 u163 u164 u165 u166 u167 u168 u169 u170 u171 u172 u173 u174 u175 u176 u177 u178 u179 u180 u181 u182 u183 u184 u185 u186 u187 u188 u189 u190 u191 u192 u193 u194 u195 u196 u197 u198 u199 u200 u201 u202 u203 u204
    by_cases h2 : L[k].k = 2
    · exact flr_k2 d r L w wr A ca k n c C ih hr hsz hv hk hlt hl hrw hok hb h0 hs h6 ga gb h2 Q hnext hret u4 u5 u8 u9 u10 u11 u12 u14 u15 u16 u17 u18 u19 u20 u21 u22 u23 u24 u25 u26 u27 u28 u29 u30 u31 u32 u33 u34 u35 u36 u37 u38 u39 u40 u41 u42 u43 u44 u45 u46 u47 u48 u49 u50 u51 u52 u53 u54 u55 u56 u57 u58 u59 u60 u61 u62 u63 u64 u65 u66 u67 u68 u69 u70 u71 u72 u73 u74 u75 u76 u77 u78 u79 u80 u81 u82 u83 u84 u85 u86 u87 u88 u89 u90 u91 u92 u93 u94 u95 u96 u97 u98 u99 u100 u101 u102 u103 u104 u105 u106 u107 u108 u109 u110 u111 u112 u113 u114 u115 u116 u117 u118 u119 u120 u121 u122 u123 u124 u125 u126 u127 u128 u129 u130 u131 u132 u133 u134 u135 u136 u137 u138 u139 u140 u141 u142 u143 u144 u145 u146 u147 u148 u149 u150 u151 u152 u153 u154 u155 u156 u157 u158 u159 u160 u161 u162 u163 u164 u165 u166 u167 u168 u169 u170 u171 u172 u173 u174 u175 u176 u177 u178 u179 u180 u181 u182 u183 u184 u185 u186 u187 u188 u189 u190 u191 u192 u193 u194 u195 u196 u197 u198 u199 u200 u201 u202 u203 u204
    by_cases h13 : L[k].k = 13
    · exact flr_k13 d r L w wr A ca k n c C ih hr hsz hv hk hlt hl hrw hok hb h0 hs h6 ga gb h13 Q hnext hret u4 u5 u8 u9 u10 u11 u12 u14 u15 u16 u17 u18 u19 u20 u21 u22 u23 u24 u25 u26 u27 u28 u29 u30 u31 u32 u33 u34 u35 u36 u37 u38 u39 u40 u41 u42 u43 u44 u45 u46 u47 u48 u49 u50 u51 u52 u53 u54 u55 u56 u57 u58 u59 u60 u61 u62 u63 u64 u65 u66 u67 u68 u69 u70 u71 u72 u73 u74 u75 u76 u77 u78 u79 u80 u81 u82 u83 u84 u85 u86 u87 u88 u89 u90 u91 u92 u93 u94 u95 u96 u97 u98 u99 u100 u101 u102 u103 u104 u105 u106 u107 u108 u109 u110 u111 u112 u113 u114 u115 u116 u117 u118 u119 u120 u121 u122 u123 u124 u125 u126 u127 u128 u129 u130 u131 u132 u133 u134 u135 u136 u137 u138 u139 u140 u141 u142 u143 u144 u145 u146 u147 u148 u149 u150 u151 u152 u153 u154 u155 u156 u157 u158 u159 u160 u161 u162 u163 u164 u165 u166 u167 u168 u169 u170 u171 u172 u173 u174 u175 u176 u177 u178 u179 u180 u181 u182 u183 u184 u185 u186 u187 u188 u189 u190 u191 u192 u193 u194 u195 u196 u197 u198 u199 u200 u201 u202 u203 u204
    by_cases h3 : L[k].k = 3
    · exact flr_k3 d r L w wr A ca k n c C ih hr hsz hv hk hlt hl hrw hok hb h0 hs h6 ga gb h3 Q hnext hret u4 u5 u8 u9 u10 u11 u12 u14 u15 u16 u17 u18 u19 u20 u21 u22 u23 u24 u25 u26 u27 u28 u29 u30 u31 u32 u33 u34 u35 u36 u37 u38 u39 u40 u41 u42 u43 u44 u45 u46 u47 u48 u49 u50 u51 u52 u53 u54 u55 u56 u57 u58 u59 u60 u61 u62 u63 u64 u65 u66 u67 u68 u69 u70 u71 u72 u73 u74 u75 u76 u77 u78 u79 u80 u81 u82 u83 u84 u85 u86 u87 u88 u89 u90 u91 u92 u93 u94 u95 u96 u97 u98 u99 u100 u101 u102 u103 u104 u105 u106 u107 u108 u109 u110 u111 u112 u113 u114 u115 u116 u117 u118 u119 u120 u121 u122 u123 u124 u125 u126 u127 u128 u129 u130 u131 u132 u133 u134 u135 u136 u137 u138 u139 u140 u141 u142 u143 u144 u145 u146 u147 u148 u149 u150 u151 u152 u153 u154 u155 u156 u157 u158 u159 u160 u161 u162 u163 u164 u165 u166 u167 u168 u169 u170 u171 u172 u173 u174 u175 u176 u177 u178 u179 u180 u181 u182 u183 u184 u185 u186 u187 u188 u189 u190 u191 u192 u193 u194 u195 u196 u197 u198 u199 u200 u201 u202 u203 u204
    by_cases h7 : L[k].k = 7
    · exact flr_k7 d r L w wr A ca k n c C ih hr hsz hv hk hlt hl hrw hok hb h0 hs h6 ga gb h7 Q hnext hret u4 u5 u8 u9 u10 u11 u12 u14 u15 u16 u17 u18 u19 u20 u21 u22 u23 u24 u25 u26 u27 u28 u29 u30 u31 u32 u33 u34 u35 u36 u37 u38 u39 u40 u41 u42 u43 u44 u45 u46 u47 u48 u49 u50 u51 u52 u53 u54 u55 u56 u57 u58 u59 u60 u61 u62 u63 u64 u65 u66 u67 u68 u69 u70 u71 u72 u73 u74 u75 u76 u77 u78 u79 u80 u81 u82 u83 u84 u85 u86 u87 u88 u89 u90 u91 u92 u93 u94 u95 u96 u97 u98 u99 u100 u101 u102 u103 u104 u105 u106 u107 u108 u109 u110 u111 u112 u113 u114 u115 u116 u117 u118 u119 u120 u121 u122 u123 u124 u125 u126 u127 u128 u129 u130 u131 u132 u133 u134 u135 u136 u137 u138 u139 u140 u141 u142 u143 u144 u145 u146 u147 u148 u149 u150 u151 u152 u153 u154 u155 u156 u157 u158 u159 u160 u161 u162 u163 u164 u165 u166 u167 u168 u169 u170 u171 u172 u173 u174 u175 u176 u177 u178 u179 u180 u181 u182 u183 u184 u185 u186 u187 u188 u189 u190 u191 u192 u193 u194 u195 u196 u197 u198 u199 u200 u201 u202 u203 u204
    by_cases h8 : L[k].k = 8
    · exact flr_k8 d r L w wr A ca k n c C ih hr hsz hv hk hlt hl hrw hok hb h0 hs h6 ga gb h8 Q hnext hret u4 u5 u8 u9 u10 u11 u12 u14 u15 u16 u17 u18 u19 u20 u21 u22 u23 u24 u25 u26 u27 u28 u29 u30 u31 u32 u33 u34 u35 u36 u37 u38 u39 u40 u41 u42 u43 u44 u45 u46 u47 u48 u49 u50 u51 u52 u53 u54 u55 u56 u57 u58 u59 u60 u61 u62 u63 u64 u65 u66 u67 u68 u69 u70 u71 u72 u73 u74 u75 u76 u77 u78 u79 u80 u81 u82 u83 u84 u85 u86 u87 u88 u89 u90 u91 u92 u93 u94 u95 u96 u97 u98 u99 u100 u101 u102 u103 u104 u105 u106 u107 u108 u109 u110 u111 u112 u113 u114 u115 u116 u117 u118 u119 u120 u121 u122 u123 u124 u125 u126 u127 u128 u129 u130 u131 u132 u133 u134 u135 u136 u137 u138 u139 u140 u141 u142 u143 u144 u145 u146 u147 u148 u149 u150 u151 u152 u153 u154 u155 u156 u157 u158 u159 u160 u161 u162 u163 u164 u165 u166 u167 u168 u169 u170 u171 u172 u173 u174 u175 u176 u177 u178 u179 u180 u181 u182 u183 u184 u185 u186 u187 u188 u189 u190 u191 u192 u193 u194 u195 u196 u197 u198 u199 u200 u201 u202 u203 u204
    by_cases h11 : L[k].k = 11
    · exact flr_k11 d r L w wr A ca k n c C ih hr hsz hv hk hlt hl hrw hok hb h0 hs h6 ga gb h11 Q hnext hret u4 u5 u8 u9 u10 u11 u12 u14 u15 u16 u17 u18 u19 u20 u21 u22 u23 u24 u25 u26 u27 u28 u29 u30 u31 u32 u33 u34 u35 u36 u37 u38 u39 u40 u41 u42 u43 u44 u45 u46 u47 u48 u49 u50 u51 u52 u53 u54 u55 u56 u57 u58 u59 u60 u61 u62 u63 u64 u65 u66 u67 u68 u69 u70 u71 u72 u73 u74 u75 u76 u77 u78 u79 u80 u81 u82 u83 u84 u85 u86 u87 u88 u89 u90 u91 u92 u93 u94 u95 u96 u97 u98 u99 u100 u101 u102 u103 u104 u105 u106 u107 u108 u109 u110 u111 u112 u113 u114 u115 u116 u117 u118 u119 u120 u121 u122 u123 u124 u125 u126 u127 u128 u129 u130 u131 u132 u133 u134 u135 u136 u137 u138 u139 u140 u141 u142 u143 u144 u145 u146 u147 u148 u149 u150 u151 u152 u153 u154 u155 u156 u157 u158 u159 u160 u161 u162 u163 u164 u165 u166 u167 u168 u169 u170 u171 u172 u173 u174 u175 u176 u177 u178 u179 u180 u181 u182 u183 u184 u185 u186 u187 u188 u189 u190 u191 u192 u193 u194 u195 u196 u197 u198 u199 u200 u201 u202 u203 u204
    by_cases h12 : L[k].k = 12
    · exact flr_k12 d r L w wr A ca k n c C ih hr hsz hv hk hlt hl hrw hok hb h0 hs h6 ga gb h12 Q hnext hret u4 u5 u8 u9 u10 u11 u12 u14 u15 u16 u17 u18 u19 u20 u21 u22 u23 u24 u25 u26 u27 u28 u29 u30 u31 u32 u33 u34 u35 u36 u37 u38 u39 u40 u41 u42 u43 u44 u45 u46 u47 u48 u49 u50 u51 u52 u53 u54 u55 u56 u57 u58 u59 u60 u61 u62 u63 u64 u65 u66 u67 u68 u69 u70 u71 u72 u73 u74 u75 u76 u77 u78 u79 u80 u81 u82 u83 u84 u85 u86 u87 u88 u89 u90 u91 u92 u93 u94 u95 u96 u97 u98 u99 u100 u101 u102 u103 u104 u105 u106 u107 u108 u109 u110 u111 u112 u113 u114 u115 u116 u117 u118 u119 u120 u121 u122 u123 u124 u125 u126 u127 u128 u129 u130 u131 u132 u133 u134 u135 u136 u137 u138 u139 u140 u141 u142 u143 u144 u145 u146 u147 u148 u149 u150 u151 u152 u153 u154 u155 u156 u157 u158 u159 u160 u161 u162 u163 u164 u165 u166 u167 u168 u169 u170 u171 u172 u173 u174 u175 u176 u177 u178 u179 u180 u181 u182 u183 u184 u185 u186 u187 u188 u189 u190 u191 u192 u193 u194 u195 u196 u197 u198 u199 u200 u201 u202 u203 u204
    exact flr_x d r L w wr A ca k n c C ih hr hsz hv hk hlt hl hrw hok hb h0 hs h6 ga gb h1 h2 h13 h3 h7 h8 h11 h12 Q hnext hret u4 u5 u8 u9 u10 u11 u12 u14 u15 u16 u17 u18 u19 u20 u21 u22 u23 u24 u25 u26 u27 u28 u29 u30 u31 u32 u33 u34 u35 u36 u37 u38 u39 u40 u41 u42 u43 u44 u45 u46 u47 u48 u49 u50 u51 u52 u53 u54 u55 u56 u57 u58 u59 u60 u61 u62 u63 u64 u65 u66 u67 u68 u69 u70 u71 u72 u73 u74 u75 u76 u77 u78 u79 u80 u81 u82 u83 u84 u85 u86 u87 u88 u89 u90 u91 u92 u93 u94 u95 u96 u97 u98 u99 u100 u101 u102 u103 u104 u105 u106 u107 u108 u109 u110 u111 u112 u113 u114 u115 u116 u117 u118 u119 u120 u121 u122 u123 u124 u125 u126 u127 u128 u129 u130 u131 u132 u133 u134 u135 u136 u137 u138 u139 u140 u141 u142 u143 u144 u145 u146 u147 u148 u149 u150 u151 u152 u153 u154 u155 u156 u157 u158 u159 u160 u161 u162 u163 u164 u165 u166 u167 u168 u169 u170 u171 u172 u173 u174 u175 u176 u177 u178 u179 u180 u181 u182 u183 u184 u185 u186 u187 u188 u189 u190 u191 u192 u193 u194 u195 u196 u197 u198 u199 u200 u201 u202 u203 u204
  · exact flr_p d r L w wr A ca k n c C ih hr hsz hv hk hlt hl hrw hok hb h0 hs h6 hp Q hnext hret u4 u5 u8 u9 u10 u11 u12 u14 u15 u16 u17 u18 u19 u20 u21 u22 u23 u24 u25 u26 u27 u28 u29 u30 u31 u32 u33 u34 u35 u36 u37 u38 u39 u40 u41 u42 u43 u44 u45 u46 u47 u48 u49 u50 u51 u52 u53 u54 u55 u56 u57 u58 u59 u60 u61 u62 u63 u64 u65 u66 u67 u68 u69 u70 u71 u72 u73 u74 u75 u76 u77 u78 u79 u80 u81 u82 u83 u84 u85 u86 u87 u88 u89 u90 u91 u92 u93 u94 u95 u96 u97 u98 u99 u100 u101 u102 u103 u104 u105 u106 u107 u108 u109 u110 u111 u112 u113 u114 u115 u116 u117 u118 u119 u120 u121 u122 u123 u124 u125 u126 u127 u128 u129 u130 u131 u132 u133 u134 u135 u136 u137 u138 u139 u140 u141 u142 u143 u144 u145 u146 u147 u148 u149 u150 u151 u152 u153 u154 u155 u156 u157 u158 u159 u160 u161 u162 u163 u164 u165 u166 u167 u168 u169 u170 u171 u172 u173 u174 u175 u176 u177 u178 u179 u180 u181 u182 u183 u184 u185 u186 u187 u188 u189 u190 u191 u192 u193 u194 u195 u196 u197 u198 u199 u200 u201 u202 u203 u204

set_option maxRecDepth 1000000 in
set_option maxHeartbeats 160000000 in
theorem flat_step (d : Nat) (ih : FlatN d) : FlatN (d + 1) := by
  intro r v L w hr hv hsz
  have HSZ := Lib.hid hsz
  clear hsz
  have HV := Lib.hid hv
  obtain ⟨hl, A, ca, rfl, _⟩ := hv
  unfold maxLen at hl
  have IH := Lib.hid ih
  clear ih
  go_enter Try.func40, Try.ntmps40
  go_wp2
  go_loopw [6, 7] (fun q i wr => ∃ k : Nat, i = .int .i64 (k : Nat) ∧ FlInv d r L w q k wr) (fun _ i _ => L.length - (intOf i).toNat)
  case atStart => exact ⟨0, rfl, _, _, _, rfl, Nat.zero_le _, by rw [List.take_zero, itT_nil]; exact irow_empty w (Nat.le_refl _), okT_nil _ _, below_alloc (Below.refl _ _) _⟩
  case round =>
    obtain ⟨k, rfl, C, n, c, rfl, hk, hrw, hok, hb⟩ := hrel
    by_cases hlt : k < L.length
    · by_cases hgo : r ≠ 0 ∧ ¬ 60 < L[k].a.length + L[k].b.length ∧ ¬ 60 < n
      · obtain ⟨h0, hs, h6⟩ := hgo
        have REJ : Hid (∀ (W : World) (q : Value), (fitT (d + 1) r L = true → False) → Below w.heap.size w W → (∃ A n c, q = .slice A n c) → FlatOf (d + 1) r L w (.returned (.tuple #[q, .bool false])) W) := Lib.hid (fun W q h1 h2 h3 => by
          obtain ⟨A9, n9, c9, rfl⟩ := h3
          have e : fitT (d + 1) r L = false := by cases hq : fitT (d + 1) r L with | true => exact absurd hq h1 | false => rfl
          exact ⟨A9, n9, c9, by rw [e], fun h => absurd h h1, h2⟩)
        refine flr_go d r L w wr A ca k n c C IH.out hr HSZ.out HV.out hk hlt hl hrw hok hb h0 hs h6 _ (fun a' w'' h => ?_) (fun a' w'' h => ?_) _ _ _ _ _ _ _ _ _ _ _ _ _ _ _ _ _ _ _ _ _ _ _ _ _ _ _ _ _ _ _ _ _ _ _ _ _ _ _ _ _ _ _ _ _ _ _ _ _ _ _ _ _ _ _ _ _ _ _ _ _ _ _ _ _ _ _ _ _ _ _ _ _ _ _ _ _ _ _ _ _ _ _ _ _ _ _ _ _ _ _ _ _ _ _ _ _ _ _ _ _ _ _ _ _ _ _ _ _ _ _ _ _ _ _ _ _ _ _ _ _ _ _ _ _ _ _ _ _ _ _ _ _ _ _ _ _ _ _ _ _ _ _ _ _ _ _ _ _ _ _ _ _ _ _ _ _ _ _ _ _ _ _ _ _ _ _ _ _ _ _ _ _ _ _ _ _ _ _ _ _ _ _ _ _ _ _ _ _ _ _ _ _ _ _ _ _ _
        · unfold FlNext at h
          obtain ⟨u4, h⟩ := h
          obtain ⟨u5, h⟩ := h
          obtain ⟨u6, h⟩ := h
          obtain ⟨u7, h⟩ := h
          obtain ⟨u8, h⟩ := h
          obtain ⟨u9, h⟩ := h
          obtain ⟨u10, h⟩ := h
          obtain ⟨u11, h⟩ := h
          obtain ⟨u12, h⟩ := h
          obtain ⟨u14, h⟩ := h
          obtain ⟨u15, h⟩ := h
          obtain ⟨u16, h⟩ := h
          obtain ⟨u17, h⟩ := h
          obtain ⟨u18, h⟩ := h
          obtain ⟨u19, h⟩ := h
          obtain ⟨u20, h⟩ := h
          obtain ⟨u21, h⟩ := h
          obtain ⟨u22, h⟩ := h
          obtain ⟨u23, h⟩ := h
          obtain ⟨u24, h⟩ := h
          obtain ⟨u25, h⟩ := h
          obtain ⟨u26, h⟩ := h
          obtain ⟨u27, h⟩ := h
          obtain ⟨u28, h⟩ := h
          obtain ⟨u29, h⟩ := h
          obtain ⟨u30, h⟩ := h
          obtain ⟨u31, h⟩ := h
          obtain ⟨u32, h⟩ := h
          obtain ⟨u33, h⟩ := h
          obtain ⟨u34, h⟩ := h
          obtain ⟨u35, h⟩ := h
          obtain ⟨u36, h⟩ := h
          obtain ⟨u37, h⟩ := h
          obtain ⟨u38, h⟩ := h
          obtain ⟨u39, h⟩ := h
          obtain ⟨u40, h⟩ := h
          obtain ⟨u41, h⟩ := h
          obtain ⟨u42, h⟩ := h
          obtain ⟨u43, h⟩ := h
          obtain ⟨u44, h⟩ := h
          obtain ⟨u45, h⟩ := h
          obtain ⟨u46, h⟩ := h
          obtain ⟨u47, h⟩ := h
          obtain ⟨u48, h⟩ := h
          obtain ⟨u49, h⟩ := h
          obtain ⟨u50, h⟩ := h
          obtain ⟨u51, h⟩ := h
          obtain ⟨u52, h⟩ := h
          obtain ⟨u53, h⟩ := h
          obtain ⟨u54, h⟩ := h
          obtain ⟨u55, h⟩ := h
          obtain ⟨u56, h⟩ := h
          obtain ⟨u57, h⟩ := h
          obtain ⟨u58, h⟩ := h
          obtain ⟨u59, h⟩ := h
          obtain ⟨u60, h⟩ := h
          obtain ⟨u61, h⟩ := h
          obtain ⟨u62, h⟩ := h
          obtain ⟨u63, h⟩ := h
          obtain ⟨u64, h⟩ := h
          obtain ⟨u65, h⟩ := h
          obtain ⟨u66, h⟩ := h
          obtain ⟨u67, h⟩ := h
          obtain ⟨u68, h⟩ := h
          obtain ⟨u69, h⟩ := h
          obtain ⟨u70, h⟩ := h
          obtain ⟨u71, h⟩ := h
          obtain ⟨u72, h⟩ := h
          obtain ⟨u73, h⟩ := h
          obtain ⟨u74, h⟩ := h
          obtain ⟨u75, h⟩ := h
          obtain ⟨u76, h⟩ := h
          obtain ⟨u77, h⟩ := h
          obtain ⟨u78, h⟩ := h
          obtain ⟨u79, h⟩ := h
          obtain ⟨u80, h⟩ := h
          obtain ⟨u81, h⟩ := h
          obtain ⟨u82, h⟩ := h
          obtain ⟨u83, h⟩ := h
          obtain ⟨u84, h⟩ := h
          obtain ⟨u85, h⟩ := h
          obtain ⟨u86, h⟩ := h
          obtain ⟨u87, h⟩ := h
          obtain ⟨u88, h⟩ := h
          obtain ⟨u89, h⟩ := h
          obtain ⟨u90, h⟩ := h
          obtain ⟨u91, h⟩ := h
          obtain ⟨u92, h⟩ := h
          obtain ⟨u93, h⟩ := h
          obtain ⟨u94, h⟩ := h
          obtain ⟨u95, h⟩ := h
          obtain ⟨u96, h⟩ := h
          obtain ⟨u97, h⟩ := h
          obtain ⟨u98, h⟩ := h
          obtain ⟨u99, h⟩ := h
          obtain ⟨u100, h⟩ := h
          obtain ⟨u101, h⟩ := h
          obtain ⟨u102, h⟩ := h
          obtain ⟨u103, h⟩ := h
          obtain ⟨u104, h⟩ := h
          obtain ⟨u105, h⟩ := h
          obtain ⟨u106, h⟩ := h
          obtain ⟨u107, h⟩ := h
          obtain ⟨u108, h⟩ := h
          obtain ⟨u109, h⟩ := h
          obtain ⟨u110, h⟩ := h
          obtain ⟨u111, h⟩ := h
          obtain ⟨u112, h⟩ := h
          obtain ⟨u113, h⟩ := h
          obtain ⟨u114, h⟩ := h
          obtain ⟨u115, h⟩ := h
          obtain ⟨u116, h⟩ := h
          obtain ⟨u117, h⟩ := h
          obtain ⟨u118, h⟩ := h
          obtain ⟨u119, h⟩ := h
          obtain ⟨u120, h⟩ := h
          obtain ⟨u121, h⟩ := h
          obtain ⟨u122, h⟩ := h
          obtain ⟨u123, h⟩ := h
          obtain ⟨u124, h⟩ := h
          obtain ⟨u125, h⟩ := h
          obtain ⟨u126, h⟩ := h
          obtain ⟨u127, h⟩ := h
          obtain ⟨u128, h⟩ := h
          obtain ⟨u129, h⟩ := h
          obtain ⟨u130, h⟩ := h
          obtain ⟨u131, h⟩ := h
          obtain ⟨u132, h⟩ := h
          obtain ⟨u133, h⟩ := h
          obtain ⟨u134, h⟩ := h
          obtain ⟨u135, h⟩ := h
          obtain ⟨u136, h⟩ := h
          obtain ⟨u137, h⟩ := h
          obtain ⟨u138, h⟩ := h
          obtain ⟨u139, h⟩ := h
          obtain ⟨u140, h⟩ := h
          obtain ⟨u141, h⟩ := h
          obtain ⟨u142, h⟩ := h
          obtain ⟨u143, h⟩ := h
          obtain ⟨u144, h⟩ := h
          obtain ⟨u145, h⟩ := h
          obtain ⟨u146, h⟩ := h
          obtain ⟨u147, h⟩ := h
          obtain ⟨u148, h⟩ := h
          obtain ⟨u149, h⟩ := h
          obtain ⟨u150, h⟩ := h
          obtain ⟨u151, h⟩ := h
          obtain ⟨u152, h⟩ := h
          obtain ⟨u153, h⟩ := h
          obtain ⟨u154, h⟩ := h
          obtain ⟨u155, h⟩ := h
          obtain ⟨u156, h⟩ := h
          obtain ⟨u157, h⟩ := h
          obtain ⟨u158, h⟩ := h
          obtain ⟨u159, h⟩ := h
          obtain ⟨u160, h⟩ := h
          obtain ⟨u161, h⟩ := h
          obtain ⟨u162, h⟩ := h
          obtain ⟨u163, h⟩ := h
          obtain ⟨u164, h⟩ := h
          obtain ⟨u165, h⟩ := h
          obtain ⟨u166, h⟩ := h
          obtain ⟨u167, h⟩ := h
          obtain ⟨u168, h⟩ := h
          obtain ⟨u169, h⟩ := h
          obtain ⟨u170, h⟩ := h
          obtain ⟨u171, h⟩ := h
          obtain ⟨u172, h⟩ := h
          obtain ⟨u173, h⟩ := h
          obtain ⟨u174, h⟩ := h
          obtain ⟨u175, h⟩ := h
          obtain ⟨u176, h⟩ := h
          obtain ⟨u177, h⟩ := h
          obtain ⟨u178, h⟩ := h
          obtain ⟨u179, h⟩ := h
          obtain ⟨u180, h⟩ := h
          obtain ⟨u181, h⟩ := h
          obtain ⟨u182, h⟩ := h
          obtain ⟨u183, h⟩ := h
          obtain ⟨u184, h⟩ := h
          obtain ⟨u185, h⟩ := h
          obtain ⟨u186, h⟩ := h
          obtain ⟨u187, h⟩ := h
          obtain ⟨u188, h⟩ := h
          obtain ⟨u189, h⟩ := h
          obtain ⟨u190, h⟩ := h
          obtain ⟨u191, h⟩ := h
          obtain ⟨u192, h⟩ := h
          obtain ⟨u193, h⟩ := h
          obtain ⟨u194, h⟩ := h
          obtain ⟨u195, h⟩ := h
          obtain ⟨u196, h⟩ := h
          obtain ⟨u197, h⟩ := h
          obtain ⟨u198, h⟩ := h
          obtain ⟨u199, h⟩ := h
          obtain ⟨u200, h⟩ := h
          obtain ⟨u201, h⟩ := h
          obtain ⟨u202, h⟩ := h
          obtain ⟨u203, h⟩ := h
          obtain ⟨u204, h⟩ := h
          obtain ⟨rfl, A9, n9, c9, rfl, rfl, HF, OKN, BN⟩ := h
          dsimp only [Exit.then]
          go_roundw
          case rel =>
            repeat (first | exact ⟨k + 1, by go_num, _, _, _, rfl, by omega, HF, OKN, BN⟩ | exact ⟨⟨k + 1, by go_num, _, _, _, rfl, by omega, HF, OKN, BN⟩, rfl⟩ | refine Exists.intro _ ?_)
          case measure => simp [intOf]; omega
        · unfold FlRet at h
          obtain ⟨u4, h⟩ := h
          obtain ⟨u5, h⟩ := h
          obtain ⟨u6, h⟩ := h
          obtain ⟨u7, h⟩ := h
          obtain ⟨u8, h⟩ := h
          obtain ⟨u9, h⟩ := h
          obtain ⟨u10, h⟩ := h
          obtain ⟨u11, h⟩ := h
          obtain ⟨u12, h⟩ := h
          obtain ⟨u14, h⟩ := h
          obtain ⟨u15, h⟩ := h
          obtain ⟨u16, h⟩ := h
          obtain ⟨u17, h⟩ := h
          obtain ⟨u18, h⟩ := h
          obtain ⟨u19, h⟩ := h
          obtain ⟨u20, h⟩ := h
          obtain ⟨u21, h⟩ := h
          obtain ⟨u22, h⟩ := h
          obtain ⟨u23, h⟩ := h
          obtain ⟨u24, h⟩ := h
          obtain ⟨u25, h⟩ := h
          obtain ⟨u26, h⟩ := h
          obtain ⟨u27, h⟩ := h
          obtain ⟨u28, h⟩ := h
          obtain ⟨u29, h⟩ := h
          obtain ⟨u30, h⟩ := h
          obtain ⟨u31, h⟩ := h
          obtain ⟨u32, h⟩ := h
          obtain ⟨u33, h⟩ := h
          obtain ⟨u34, h⟩ := h
          obtain ⟨u35, h⟩ := h
          obtain ⟨u36, h⟩ := h
          obtain ⟨u37, h⟩ := h
          obtain ⟨u38, h⟩ := h
          obtain ⟨u39, h⟩ := h
          obtain ⟨u40, h⟩ := h
          obtain ⟨u41, h⟩ := h
          obtain ⟨u42, h⟩ := h
          obtain ⟨u43, h⟩ := h
          obtain ⟨u44, h⟩ := h
          obtain ⟨u45, h⟩ := h
          obtain ⟨u46, h⟩ := h
          obtain ⟨u47, h⟩ := h
          obtain ⟨u48, h⟩ := h
          obtain ⟨u49, h⟩ := h
          obtain ⟨u50, h⟩ := h
          obtain ⟨u51, h⟩ := h
          obtain ⟨u52, h⟩ := h
          obtain ⟨u53, h⟩ := h
          obtain ⟨u54, h⟩ := h
          obtain ⟨u55, h⟩ := h
          obtain ⟨u56, h⟩ := h
          obtain ⟨u57, h⟩ := h
          obtain ⟨u58, h⟩ := h
          obtain ⟨u59, h⟩ := h
          obtain ⟨u60, h⟩ := h
          obtain ⟨u61, h⟩ := h
          obtain ⟨u62, h⟩ := h
          obtain ⟨u63, h⟩ := h
          obtain ⟨u64, h⟩ := h
          obtain ⟨u65, h⟩ := h
          obtain ⟨u66, h⟩ := h
          obtain ⟨u67, h⟩ := h
          obtain ⟨u68, h⟩ := h
          obtain ⟨u69, h⟩ := h
          obtain ⟨u70, h⟩ := h
          obtain ⟨u71, h⟩ := h
          obtain ⟨u72, h⟩ := h
          obtain ⟨u73, h⟩ := h
          obtain ⟨u74, h⟩ := h
          obtain ⟨u75, h⟩ := h
          obtain ⟨u76, h⟩ := h
          obtain ⟨u77, h⟩ := h
          obtain ⟨u78, h⟩ := h
          obtain ⟨u79, h⟩ := h
          obtain ⟨u80, h⟩ := h
          obtain ⟨u81, h⟩ := h
          obtain ⟨u82, h⟩ := h
          obtain ⟨u83, h⟩ := h
          obtain ⟨u84, h⟩ := h
          obtain ⟨u85, h⟩ := h
          obtain ⟨u86, h⟩ := h
          obtain ⟨u87, h⟩ := h
          obtain ⟨u88, h⟩ := h
          obtain ⟨u89, h⟩ := h
          obtain ⟨u90, h⟩ := h
          obtain ⟨u91, h⟩ := h
          obtain ⟨u92, h⟩ := h
          obtain ⟨u93, h⟩ := h
          obtain ⟨u94, h⟩ := h
          obtain ⟨u95, h⟩ := h
          obtain ⟨u96, h⟩ := h
          obtain ⟨u97, h⟩ := h
          obtain ⟨u98, h⟩ := h
          obtain ⟨u99, h⟩ := h
          obtain ⟨u100, h⟩ := h
          obtain ⟨u101, h⟩ := h
          obtain ⟨u102, h⟩ := h
          obtain ⟨u103, h⟩ := h
          obtain ⟨u104, h⟩ := h
          obtain ⟨u105, h⟩ := h
          obtain ⟨u106, h⟩ := h
          obtain ⟨u107, h⟩ := h
          obtain ⟨u108, h⟩ := h
          obtain ⟨u109, h⟩ := h
          obtain ⟨u110, h⟩ := h
          obtain ⟨u111, h⟩ := h
          obtain ⟨u112, h⟩ := h
          obtain ⟨u113, h⟩ := h
          obtain ⟨u114, h⟩ := h
          obtain ⟨u115, h⟩ := h
          obtain ⟨u116, h⟩ := h
          obtain ⟨u117, h⟩ := h
          obtain ⟨u118, h⟩ := h
          obtain ⟨u119, h⟩ := h
          obtain ⟨u120, h⟩ := h
          obtain ⟨u121, h⟩ := h
          obtain ⟨u122, h⟩ := h
          obtain ⟨u123, h⟩ := h
          obtain ⟨u124, h⟩ := h
          obtain ⟨u125, h⟩ := h
          obtain ⟨u126, h⟩ := h
          obtain ⟨u127, h⟩ := h
          obtain ⟨u128, h⟩ := h
          obtain ⟨u129, h⟩ := h
          obtain ⟨u130, h⟩ := h
          obtain ⟨u131, h⟩ := h
          obtain ⟨u132, h⟩ := h
          obtain ⟨u133, h⟩ := h
          obtain ⟨u134, h⟩ := h
          obtain ⟨u135, h⟩ := h
          obtain ⟨u136, h⟩ := h
          obtain ⟨u137, h⟩ := h
          obtain ⟨u138, h⟩ := h
          obtain ⟨u139, h⟩ := h
          obtain ⟨u140, h⟩ := h
          obtain ⟨u141, h⟩ := h
          obtain ⟨u142, h⟩ := h
          obtain ⟨u143, h⟩ := h
          obtain ⟨u144, h⟩ := h
          obtain ⟨u145, h⟩ := h
          obtain ⟨u146, h⟩ := h
          obtain ⟨u147, h⟩ := h
          obtain ⟨u148, h⟩ := h
          obtain ⟨u149, h⟩ := h
          obtain ⟨u150, h⟩ := h
          obtain ⟨u151, h⟩ := h
          obtain ⟨u152, h⟩ := h
          obtain ⟨u153, h⟩ := h
          obtain ⟨u154, h⟩ := h
          obtain ⟨u155, h⟩ := h
          obtain ⟨u156, h⟩ := h
          obtain ⟨u157, h⟩ := h
          obtain ⟨u158, h⟩ := h
          obtain ⟨u159, h⟩ := h
          obtain ⟨u160, h⟩ := h
          obtain ⟨u161, h⟩ := h
          obtain ⟨u162, h⟩ := h
          obtain ⟨u163, h⟩ := h
          obtain ⟨u164, h⟩ := h
          obtain ⟨u165, h⟩ := h
          obtain ⟨u166, h⟩ := h
          obtain ⟨u167, h⟩ := h
          obtain ⟨u168, h⟩ := h
          obtain ⟨u169, h⟩ := h
          obtain ⟨u170, h⟩ := h
          obtain ⟨u171, h⟩ := h
          obtain ⟨u172, h⟩ := h
          obtain ⟨u173, h⟩ := h
          obtain ⟨u174, h⟩ := h
          obtain ⟨u175, h⟩ := h
          obtain ⟨u176, h⟩ := h
          obtain ⟨u177, h⟩ := h
          obtain ⟨u178, h⟩ := h
          obtain ⟨u179, h⟩ := h
          obtain ⟨u180, h⟩ := h
          obtain ⟨u181, h⟩ := h
          obtain ⟨u182, h⟩ := h
          obtain ⟨u183, h⟩ := h
          obtain ⟨u184, h⟩ := h
          obtain ⟨u185, h⟩ := h
          obtain ⟨u186, h⟩ := h
          obtain ⟨u187, h⟩ := h
          obtain ⟨u188, h⟩ := h
          obtain ⟨u189, h⟩ := h
          obtain ⟨u190, h⟩ := h
          obtain ⟨u191, h⟩ := h
          obtain ⟨u192, h⟩ := h
          obtain ⟨u193, h⟩ := h
          obtain ⟨u194, h⟩ := h
          obtain ⟨u195, h⟩ := h
          obtain ⟨u196, h⟩ := h
          obtain ⟨u197, h⟩ := h
          obtain ⟨u198, h⟩ := h
          obtain ⟨u199, h⟩ := h
          obtain ⟨u200, h⟩ := h
          obtain ⟨u201, h⟩ := h
          obtain ⟨u202, h⟩ := h
          obtain ⟨u203, h⟩ := h
          obtain ⟨u204, h⟩ := h
          obtain ⟨rfl, A9, n9, c9, rfl, rfl, FN, BN⟩ := h
          go_ret2
          exact REJ.out _ _ FN BN ⟨_, _, _, rfl⟩
      · have zr := hb.size
        obtain ⟨_, C', c', e, _⟩ := irow_its hrw
        simp only [Value.slice.injEq] at e
        obtain ⟨rfl, rfl, rfl⟩ := e
        obtain ⟨nl, hnl⟩ : ∃ nl, (itT (d + 1) (L.take k)).length = nl := ⟨_, rfl⟩
        rw [hnl] at hrw hgo
        rw [hnl]
        have HB := Lib.hid hb
        have HR := Lib.hid hrw
        have HOK := Lib.hid hok
        have NL := Lib.hid hnl
        clear hb hrw hok hnl
        have HGO := Lib.hid hgo
        clear hgo
        obtain ⟨_, A', ca', e', hc⟩ := nds_below HV.out HB.out
        simp only [Value.slice.injEq, true_and] at e'
        obtain ⟨rfl, rfl⟩ := e'
        obtain ⟨ga, hA, ha⟩ := hc (by omega)
        subst hA
        obtain ⟨a0, a1, A1, n1, e1, B1, m1, f1, a2, a3, ra, rb⟩ := ha k hlt
        have SZK : Hid (szT d L[k].a + szT d L[k].b ≤ 1048576) := Lib.hid (Nat.le_trans (szT_at d L hlt) HSZ.out)
        have REF : Hid (fitT (d + 1) r L = true → 0 < r ∧ nodV L[k].k L[k].v L[k].a.length L[k].b.length = true ∧ okT d (r - 1) L[k].a = true ∧ okT d (r - 1) L[k].b = true ∧ nl + (itN (itT d) (.mk L[k].k L[k].v L[k].a L[k].b)).length ≤ 60) := Lib.hid (fun h => by
          unfold fitT at h
          simp at h
          obtain ⟨q1, q2, q3, q4⟩ := okT_at d r L hlt h.1
          have q5 := itT_le d L hlt
          rw [NL.out] at q5
          exact ⟨q1, q2, q3, q4, by have : itN (itT d) (.mk L[k].k L[k].v L[k].a L[k].b) = itN (itT d) L[k] := rfl; rw [this]; omega⟩)
        have TK : Hid (itT (d + 1) (L.take (k + 1)) = itT (d + 1) (L.take k) ++ itN (itT d) (.mk L[k].k L[k].v L[k].a L[k].b)) := Lib.hid (itT_take d L hlt)
        have OT : Hid (okT (d + 1) r (L.take (k + 1)) = (okT (d + 1) r (L.take k) && (decide (0 < r) && nodV L[k].k L[k].v L[k].a.length L[k].b.length && okT d (r - 1) L[k].a && okT d (r - 1) L[k].b))) := Lib.hid (okT_take d r L hlt)
        obtain ⟨_, A2, e2, q⟩ := nds_form ra
        simp only [Value.slice.injEq] at q
        obtain ⟨rfl, rfl, rfl⟩ := q
        obtain ⟨_, B2, f2, q⟩ := nds_form rb
        simp only [Value.slice.injEq] at q
        obtain ⟨rfl, rfl, rfl⟩ := q
        have RA := Lib.hid ra
        have RB := Lib.hid rb
        have XA := Lib.hid (whole_new wr 64 #[.int .i64 L[k].k, .int .i64 L[k].v, .slice A1 L[k].a.length e1, .slice B1 L[k].b.length f1])
        have BA : Hid (Below wr.heap.size wr (wr.alloc (.cells #[.int .i64 L[k].k, .int .i64 L[k].v, .slice A1 L[k].a.length e1, .slice B1 L[k].b.length f1] 64))) := Lib.hid (below_alloc (Below.refl _ _) _)
        clear ha hc ra rb
        generalize L[k].k = xk at *
        generalize L[k].v = xv at *
        generalize L[k].a = xa at *
        generalize L[k].b = xb at *
        have REJ : Hid (∀ (W : World) (q : Value), (fitT (d + 1) r L = true → False) → Below w.heap.size w W → (∃ A n c, q = .slice A n c) → FlatOf (d + 1) r L w (.returned (.tuple #[q, .bool false])) W) := Lib.hid (fun W q h1 h2 h3 => by
          obtain ⟨A9, n9, c9, rfl⟩ := h3
          have e : fitT (d + 1) r L = false := by cases hq : fitT (d + 1) r L with | true => exact absurd hq h1 | false => rfl
          exact ⟨A9, n9, c9, by rw [e], fun h => absurd h h1, h2⟩)
        have B3 := Lib.hid (below_step HB.out BA.out)
        by_cases h0 : r = 0
        · have rz : (((r : Nat) : Int) == 0) = true := by simp [h0]
          have FN : Hid (fitT (d + 1) r L = true → False) := Lib.hid fun p => by have := (REF.out p).1; omega
          clear h0
          go_wp2
          go_ret2
          exact REJ.out _ _ FN.out B3.out ⟨_, _, _, rfl⟩
        have rz : (((r : Nat) : Int) == 0) = false := by simp [h0]
        have la := len_sz RA.out
        have lb := len_sz RB.out
        have lk := SZK.out
        have wsum : IntKind.i64.wrap ((xa.length : Int) + (xb.length : Int)) = (xa.length : Int) + (xb.length : Int) := IntWalk.i64_in _ (by omega)
        by_cases hs : 60 < xa.length + xb.length
        · have ts : (60 : Int) < (xa.length : Int) + (xb.length : Int) := by omega
          have FN : Hid (fitT (d + 1) r L = true → False) := Lib.hid fun p => by
            obtain ⟨p1, p2, p3, p4, p5⟩ := REF.out p
            have q1 := itN_parts (itT d) xk xv xa xb p2 (itT_nil d)
            have q2 := len_part RA.out
            have q3 := len_part RB.out
            omega
          clear hs
          go_wp2
          go_ret2
          exact REJ.out _ _ FN.out B3.out ⟨_, _, _, rfl⟩
        have ts : ¬ (60 : Int) < (xa.length : Int) + (xb.length : Int) := by omega
        by_cases h6 : 60 < nl
        · have t6 : (60 : Int) < (nl : Int) := by omega
          have FN : Hid (fitT (d + 1) r L = true → False) := Lib.hid fun p => by have := (REF.out p).2.2.2.2; omega
          clear hs h6
          go_wp2
          go_ret2
          exact REJ.out _ _ FN.out B3.out ⟨_, _, _, rfl⟩
        exact absurd ⟨h0, hs, h6⟩ HGO.out
    · have zr := hb.size
      obtain ⟨_, C', c', e, _⟩ := irow_its hrw
      simp only [Value.slice.injEq] at e
      obtain ⟨rfl, rfl, rfl⟩ := e
      obtain ⟨nl, hnl⟩ : ∃ nl, (itT (d + 1) (L.take k)).length = nl := ⟨_, rfl⟩
      rw [hnl] at hrw
      rw [hnl]
      have HB := Lib.hid hb
      have HR := Lib.hid hrw
      have HOK := Lib.hid hok
      have NL := Lib.hid hnl
      clear hb hrw hok hnl
      obtain rfl : k = L.length := by omega
      have R1 := HR.out
      have K1 := HOK.out
      have N1 := NL.out
      rw [List.take_length] at R1 K1 N1
      have R2 := Lib.hid R1
      clear hlt R1
      by_cases h6 : nl ≤ 60
      · have t6 : (nl : Int) ≤ 60 := by omega
        have E : Hid (fitT (d + 1) r L = true) := Lib.hid (by unfold fitT; rw [K1, N1]; simpa using h6)
        clear h6 K1 N1
        go_wp2
        go_ret2
        exact ⟨_, _, _, by rw [E.out]; rfl, fun _ => R2.out, HB.out⟩
      · have t6 : ¬ (nl : Int) ≤ 60 := by omega
        have E : Hid (fitT (d + 1) r L = false) := Lib.hid (by unfold fitT; rw [K1, N1]; simpa using h6)
        clear h6 K1 N1
        go_wp2
        go_ret2
        exact ⟨_, _, _, by rw [E.out]; rfl, (fun h => by rw [E.out] at h; cases h), HB.out⟩

theorem flat_any (d : Nat) : FlatN d := by
  induction d with
  | zero => exact flat_zero
  | succ d ih => exact flat_step d ih

end Go.Proofs.Ytafhmajnkicifaa

namespace Go.Proofs.Ytafhmajnkicifaa
open Go.RowKit
set_option linter.unusedVariables false
set_option linter.unusedSimpArgs false

theorem itemsC_small (d : Nat) (L : List Nd) : (itemsC d L).1.length ≤ 60 := by
  unfold itemsC
  split
  · simp
  split
  · simp
  split
  · rename_i h
    unfold fitT at h
    simp at h
    exact h.2
  · simp

set_option maxRecDepth 100000 in
set_option maxHeartbeats 2000000 in
theorem sItems_any (d : Nat) (v : Value) (L : List Nd) (w : World) (hv : Nds d w v L) (hz : szT d L ≤ 1048576) :
    Calls Try.prog 22 #[v] w (ItemsO d L w) := by
  have HV := Lib.hid hv
  obtain ⟨hl, A, c, rfl⟩ := nds_form hv
  unfold maxLen at hl
  clear hv
  by_cases h1 : 4096 < L.length
  · have t1 : (4096 : Int) < (L.length : Int) := by omega
    have E : Hid (itemsC d L = ([], 2)) := Lib.hid (by unfold itemsC; rw [if_pos h1])
    clear h1
    go_enter Try.func22, Try.ntmps22
    go_wp2
    go_ret2
    exact ⟨_, by rw [E.out]; rfl, by rw [E.out]; exact irow_empty w (Nat.le_refl _), below_alloc (Below.refl _ _) _⟩
  have t1 : ¬ (4096 : Int) < (L.length : Int) := by omega
  by_cases h2 : 60 < L.length
  · have t2 : (60 : Int) < (L.length : Int) := by omega
    have E : Hid (itemsC d L = ([], 6)) := Lib.hid (by unfold itemsC; rw [if_neg h1, if_pos h2])
    clear h1 h2
    go_enter Try.func22, Try.ntmps22
    go_wp2
    go_ret2
    exact ⟨_, by rw [E.out]; rfl, by rw [E.out]; exact irow_empty w (Nat.le_refl _), below_alloc (Below.refl _ _) _⟩
  have t2 : ¬ (60 : Int) < (L.length : Int) := by omega
  have CL := Lib.hid (flat_any d 9 _ L w (Nat.le_refl _) HV.out hz)
  have N1 : Hid (¬ 4096 < L.length ∧ ¬ 60 < L.length) := Lib.hid ⟨h1, h2⟩
  clear h1 h2
  go_enter Try.func22, Try.ntmps22
  go_wp2_with fail
  refine CL.out.mono ?_
  rintro e w1 ⟨B, n, c1, rfl, hr, hb⟩
  have HB := Lib.hid hb
  have HR := Lib.hid hr
  have zb := hb.size
  clear hb hr CL
  by_cases hf : fitT d 9 L = true
  · have E : Hid (itemsC d L = (itT d L, 0)) := Lib.hid (by unfold itemsC; rw [if_neg N1.out.1, if_neg N1.out.2, if_pos hf])
    have R := Lib.hid (HR.out hf)
    rw [hf]
    clear hf HR
    go_wp2
    go_ret2
    exact ⟨_, by rw [E.out]; rfl, by rw [E.out]; exact R.out, HB.out⟩
  · have E : Hid (itemsC d L = ([], 1)) := Lib.hid (by unfold itemsC; rw [if_neg N1.out.1, if_neg N1.out.2, if_neg hf])
    have hf' : fitT d 9 L = false := by simpa using hf
    rw [hf']
    clear hf hf' HR
    go_wp2
    go_ret2
    exact ⟨_, by rw [E.out]; rfl, by rw [E.out]; exact irow_empty w1 zb, below_alloc HB.out _⟩

end Go.Proofs.Ytafhmajnkicifaa
