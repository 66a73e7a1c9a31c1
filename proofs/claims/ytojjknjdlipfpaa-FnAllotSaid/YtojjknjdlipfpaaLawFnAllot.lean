/- laws.FnAllot returns true at every two codes: cells that are taken are 0 and within bounds, the answers are the specification's, and what is said stands behind what was said. No condition. -/
import Derived.Test.YtojjknjdlipfpaaRows
import Derived.Test.YtojjknjdlipfpaaDrC
import Derived.Test.YtojjknjdlipfpaaDatZ
import Derived.Test.YtojjknjdlipfpaaDatL
import Derived.WalkKit
import Derived.ProofKit
import Derived.OpenShut
import Derived.ShutString
import Derived.ChangeOld
import Derived.Below
namespace Go.Proofs.Ytojjknjdlipfpaa.fnAllot
open Go.ChangeShapes Go.WideShapes Go.ChangeAt Go.RowKit
open Go.ChangeMaps (open_string shut_string)
set_option linter.unusedSimpArgs false
set_option linter.unusedVariables false

theorem own : ownKnob Try.prog.godebug = none := by kernel_rfl
theorem laidOut : laidOutB Try.prog = true := by kernel_rfl

theorem at12 (a : Option Addr) (len cap : Nat) (zs : List Int) (w : World) (h : BRow w a len cap zs) (hlx : len ≤ 1048576) :
    Calls Try.prog 16 #[.slice a len cap, .int .i64 0, .int .i64 12] w (AtPost w 12) :=
  at_any a len cap zs 0 12 w h hlx (by omega) (by omega) (by omega)

/-- What an allotment comes to at valid data. -/
theorem allot_key {d : Dt} (hd : DtFine d) (q : Int) (h0 : -4 ≤ q) (h1 : q ≤ 8) : ∃ (r : Dt) (th : Int) (bz : Bool), dAllot d (4 * q) = (r, th, 0) ∧ (th == 0) = bz ∧ DtFine r ∧
    ((bz = true ∧ 0 ≤ d.h + q ∧ d.h + q ≤ 32) ∨ (bz = false ∧ d.h + q < 0) ∨ (bz = false ∧ 0 ≤ d.h + q ∧ 32 < d.h + q)) ∧
    (∀ i : Nat, d.h ≤ i → (i : Int) < r.h → ∃ hi : i < r.c.length, r.c[i] = 0) := by
  have hn : cellB (4 * q) = true := cellB_true.2 (by omega)
  have e1 : (4 * q).tmod 4 = 0 := by rw [Int.mul_tmod_right]
  have e2 : (4 * q).tdiv 4 = q := Int.mul_tdiv_cancel_left _ (by omega)
  have hf := allot_fine hd hn
  have q0 := fine_h0 hd
  have q1 := fine_h1 hd
  have qc := fine_cl hd
  have hk := dOK_true hd
  unfold dAllot at *
  rw [if_neg (by rw [hk]; decide), if_neg (by rw [hn]; decide)] at hf ⊢
  by_cases hg : goodMove d (4 * q)
  · rw [if_pos hg] at hf ⊢
    obtain ⟨_, h2, h3⟩ := hg
    rw [e2] at h2 h3 hf ⊢
    refine ⟨_, 0, true, rfl, rfl, hf, .inl ⟨rfl, h2, h3⟩, fun i hi1 hi2 => ?_⟩
    simp only at hi2 ⊢
    have hl : i < (zeroN d.c d.h.toNat q.toNat).length := by rw [zeroN_len (by omega)]; omega
    refine ⟨hl, ?_⟩
    unfold zeroN
    rw [List.getElem_append_right (by simp; omega), List.getElem_append_left (by simp; omega)]
    simp
  · rw [if_neg hg] at hf ⊢
    refine ⟨d, -8, false, rfl, rfl, hf, ?_, fun i hi1 hi2 => by omega⟩
    rcases Int.lt_or_le (d.h + q) 0 with h | h
    · exact .inr (.inl ⟨rfl, h⟩)
    · rcases Int.lt_or_le 32 (d.h + q) with h' | h'
      · exact .inr (.inr ⟨rfl, h, h'⟩)
      · exact absurd ⟨e1, by rw [e2]; exact h, by rw [e2]; exact h'⟩ hg

/-- What a saying comes to at valid data. -/
theorem say_key {d : Dt} (hd : DtFine d) {s : ByteArray} (hs : s.size ≤ 40) : ∃ (r : Dt) (th : Int), dSay d s = (r, th, 0) ∧ DtFine r ∧ ((th = 0 ∧ (r.o.toList == (d.o ++ s).toList) = true) ∨ th = -17) := by
  have hf := say_fine hd (s := s) (by omega)
  have hk := dOK_true hd
  unfold dSay at *
  rw [if_neg (by omega), if_neg (by rw [hk]; decide)] at hf ⊢
  by_cases h : 300 < d.o.size + s.size
  · rw [if_pos h] at hf ⊢
    exact ⟨d, -17, rfl, hf, .inr rfl⟩
  · rw [if_neg h] at hf ⊢
    exact ⟨_, 0, rfl, hf, .inl ⟨rfl, by simp⟩⟩

set_option maxRecDepth 100000 in
set_option maxHeartbeats 2000000 in
theorem walk (a0 : Option Addr) (len0 cap0 : Nat) (z0 : List Int) (a1 : Option Addr) (len1 cap1 : Nat) (z1 : List Int) (w : World) (w0 : BRow w a0 len0 cap0 z0) (w1 : BRow w a1 len1 cap1 z1) :
    Calls Try.prog 4 #[.slice a0 len0 cap0, .slice a1 len1 cap1] w fun e w' => e = .returned (.bool true) ∧ Below w.heap.size w w' := by
  have g0 : BRow w a0 len0 cap0 z0 := w0
  have g1 : BRow w a1 len1 cap1 z1 := w1
  have W0 := Lib.hid g0
  have W1 := Lib.hid g1
  have l0m : len0 ≤ maxLen := by rcases g0 with ⟨_, h, _⟩ | ⟨_, _, h1, h2, _⟩ <;> omega
  have l1m : len1 ≤ maxLen := by rcases g1 with ⟨_, h, _⟩ | ⟨_, _, h1, h2, _⟩ <;> omega
  unfold maxLen at l0m l1m
  clear w0 w1 g0 g1
  by_cases l0 : len0 ≤ 1048576
  rotate_left
  · go_enter Try.func4, Try.ntmps4
    go_wp2
    go_ret
    exact ⟨rfl, Below.refl _ _⟩
  by_cases l1 : len1 ≤ 1048576
  rotate_left
  · go_enter Try.func4, Try.ntmps4
    go_wp2
    go_ret
    exact ⟨rfl, Below.refl _ _⟩
  go_enter Try.func4, Try.ntmps4
  go_wp2_with fail
  refine (dataDrawn_any _ _ _ _ _ W0.out (by omega)).mono ?_
  rintro e m1 ⟨u, d, rfl, hd, UD1, hb⟩
  obtain ⟨A1, k1, A2, k2, A3, k3, rfl⟩ := datIn_form (datOf_in UD1)
  have hs := fine_small hd
  have q0 := fine_h0 hd
  have q1 := fine_h1 hd
  have BR := Lib.hid (brow_below W1.out hb)
  go_wp2_with fail
  refine (at12 _ _ _ _ _ (brow_alloc BR.out _) l1).mono ?_
  rintro e w' ⟨v, k, ⟨v0, v1⟩, rfl, rfl⟩
  have X2 : Whole ((m1.alloc (.cells #[.slice A1 d.s.length k1, .slice A2 d.b.length k2, .slice A3 d.c.length k3, .int .i64 d.h, .int .i64 d.n, .string d.o] 25)).drewN k) m1.heap.size 25 _ := whole_new m1 _ _
  have B2 := below_drewN (below_alloc hb (.cells #[.slice A1 d.s.length k1, .slice A2 d.b.length k2, .slice A3 d.c.length k3, .int .i64 d.h, .int .i64 d.n, .string d.o] 25)) k
  have UD2 := datOf_below UD1 (below_drewN (below_alloc (Below.refl m1.heap.size m1) (.cells #[.slice A1 d.s.length k1, .slice A2 d.b.length k2, .slice A3 d.c.length k3, .int .i64 d.h, .int .i64 d.n, .string d.o] 25)) k)
  clear hb UD1
  generalize ((m1.alloc (.cells #[.slice A1 d.s.length k1, .slice A2 d.b.length k2, .slice A3 d.c.length k3, .int .i64 d.h, .int .i64 d.n, .string d.o] 25)).drewN k) = m2 at *
  obtain ⟨r, th, bz, hr, hbz, hrf, hrng, hcel⟩ := allot_key hd (v - 4) (by omega) (by omega)
  have IA : Hid (∀ u W, DatIn W u d → Calls Try.prog 20 #[u, .int .i64 (4 * (v - 4))] W (ResOf W r [th, 0])) := Lib.hid fun u W h => by
    have := iAllot_any u d (4 * (v - 4)) W h hs
    rw [hr] at this; exact this
  have SA : Hid (∀ u W, DatIn W u d → Calls Try.prog 21 #[u, .int .i64 (4 * (v - 4))] W (ResOf W r [th, 0])) := Lib.hid fun u W h => by
    have := sAllot_any u d (4 * (v - 4)) W h hs
    rw [hr] at this; exact this
  have IS : Hid (∀ u u' W, DatIn W u r → DatIn W u' r → Calls Try.prog 14 #[u, u'] W fun e w' => e = .returned (.bool true) ∧ Below W.heap.size W w') := Lib.hid fun u u' W h h' => by
    have := iSameData_any u u' r r W h h'
    rw [sameV_self hrf] at this; exact this
  have HC := Lib.hid hcel
  have HF := Lib.hid hrf
  have HD := Lib.hid hd
  have HS := Lib.hid hs
  have eq4 : (4 * (v - 4)).tdiv 4 = v - 4 := Int.mul_tdiv_cancel_left _ (by omega)
  have tt : (th != th) = false := by simp
  have qr0 := fine_h0 hrf
  have qr1 := fine_h1 hrf
  clear hr hcel hrf hd hs
  rcases hrng with ⟨rfl, hq0, hq1⟩ | ⟨rfl, hq0⟩ | ⟨rfl, hq0, hq1⟩
  all_goals
    have zx := whole_lt X2
    obtain ⟨c0, c1, c2, c3, c4, c5⟩ := six_cells X2
    go_wp2_with fail
    clear c0 c1 c2 c3 c4 c5 zx
    refine (IA.out _ _ (datOf_in UD2)).mono ?_
    rintro e m3 ⟨ur, rfl, UR3, hb⟩
    obtain ⟨C1, j1, C2, j2, C3, j3, rfl⟩ := datIn_form (datOf_in UR3)
    have B3 := below_b hb B2
    have X3 := whole_b hb X2
    have UD3 := datOf_b hb UD2
    clear hb B2 X2 UD2
    simp only [List.map_cons, List.map_nil]
    have zx := whole_lt X3
    obtain ⟨c0, c1, c2, c3, c4, c5⟩ := six_cells X3
    go_wp2_with fail
    clear c0 c1 c2 c3 c4 c5 zx
    refine (SA.out _ _ (datOf_in (datOf_below UD3 (below_alloc (Below.refl _ _) _)))).mono ?_
    rintro e m4 ⟨uw, rfl, UW4, hb⟩
    obtain ⟨E1, i1, E2, i2, E3, i3, rfl⟩ := datIn_form (datOf_in UW4)
    have B4 := below_b hb (below_alloc B3 _)
    have X4 := whole_b hb (whole_alloc X3 _)
    have P4 := whole_b hb (whole_new m3 _ _)
    have UD4 := datOf_b hb (datOf_below UD3 (below_alloc (Below.refl _ _) _))
    have UR4 := datOf_b hb (datOf_below UR3 (below_alloc (Below.refl _ _) _))
    clear hb B3 X3 UD3 UR3
    simp only [List.map_cons, List.map_nil]
    have zp := whole_lt P4
    obtain ⟨c0, c1, c2, c3, c4, c5⟩ := six_cells P4
    go_wp2_with fail
    clear c0 c1 c2 c3 c4 c5 zp
    refine (IS.out _ _ _ (datOf_in (datOf_below UR4 (below_alloc (Below.refl _ _) _))) (datOf_in (datOf_below UW4 (below_alloc (Below.refl _ _) _)))).mono ?_
    rintro e m5 ⟨rfl, hb⟩
    have B5 := below_b hb (below_alloc B4 _)
    have X5 := whole_b hb (whole_alloc X4 _)
    have P5 := whole_b hb (whole_alloc P4 _)
    have Q5 := whole_b hb (whole_new m4 _ _)
    have UD5 := datOf_b hb (datOf_below UD4 (below_alloc (Below.refl _ _) _))
    have UR5 := datOf_b hb (datOf_below UR4 (below_alloc (Below.refl _ _) _))
    clear hb B4 X4 P4 UD4 UR4 UW4
    have xc := (six_cells X5).2.2.2.1
    have pc := (six_cells P5).2.2.1
    have qc := (six_cells Q5).2.2.2.1
    go_wp2
    go_loop [13] (fun i => ∃ j : Nat, i = .int .i64 j ∧ d.h ≤ j ∧ j ≤ 32) (fun i => 64 - (intOf i).toNat)
    case atStart => exact ⟨d.h.toNat, by rw [show ((d.h.toNat : Nat) : Int) = d.h by omega], by omega, by omega⟩
    case round =>
      obtain ⟨j, rfl, hj0, hj1⟩ := hrel
      by_cases hlt : (j : Int) < r.h
      · obtain ⟨hi, hz⟩ := HC.out j hj0 hlt
        obtain ⟨_, A', c', hv', hc⟩ := datIn_third (datOf_in UR5)
        simp only [Value.slice.injEq, true_and] at hv'
        obtain ⟨rfl, rfl⟩ := hv'
        obtain ⟨ad, rfl, hc'⟩ := hc (by omega)
        have cm := hc' j hi
        rw [hz] at cm
        clear hc hc' hz
        go_wp2
        go_round
        case rel => exact ⟨j + 1, by go_num, by omega, by omega⟩
        case measure => simp [intOf]; omega
      · clear hj0 hj1
        go_wp2_with fail
        refine (plainWord_any _ _ _ _ _ (brow_below W1.out B5) (by omega)).mono ?_
        rintro e m6 ⟨s, rfl, hsz, hb⟩
        have B6 := below_b hb B5
        have X6 := whole_b hb X5
        have UD6 := datOf_b hb UD5
        clear hb B5 X5 P5 Q5 UD5 UR5 xc pc qc
        obtain ⟨r2, th2, hr2, hf2, hcs⟩ := say_key HD.out hsz
        have IY : Hid (∀ u W, DatIn W u d → Calls Try.prog 23 #[u, .string s] W (ResOf W r2 [th2, 0])) := Lib.hid fun u W h => by
          have := iSay_any u d s W h HS.out (by unfold maxLen; omega)
          rw [hr2] at this; exact this
        have SY : Hid (∀ u W, DatIn W u d → Calls Try.prog 24 #[u, .string s] W (ResOf W r2 [th2, 0])) := Lib.hid fun u W h => by
          have := sSay_any u d s W h HS.out (by unfold maxLen; omega)
          rw [hr2] at this; exact this
        have IT : Hid (∀ u u' W, DatIn W u r2 → DatIn W u' r2 → Calls Try.prog 14 #[u, u'] W fun e w' => e = .returned (.bool true) ∧ Below W.heap.size W w') := Lib.hid fun u u' W h h' => by
          have := iSameData_any u u' r2 r2 W h h'
          rw [sameV_self hf2] at this; exact this
        have IN : Hid (∀ u u' W, DatIn W u newDt → DatIn W u' newDt → Calls Try.prog 14 #[u, u'] W fun e w' => e = .returned (.bool true) ∧ Below W.heap.size W w') := Lib.hid fun u u' W h h' => by
          have := iSameData_any u u' newDt newDt W h h'
          rw [sameV_self fine_new] at this; exact this
        have ho300 := fine_o HD.out
        clear hr2 hf2
        rcases hcs with ⟨rfl, ho⟩ | rfl
        all_goals
          have zx := whole_lt X6
          obtain ⟨c0, c1, c2, c3, c4, c5⟩ := six_cells X6
          go_wp2_with fail
          clear c0 c1 c2 c3 c4 c5 zx
          refine (IY.out _ _ (datOf_in UD6)).mono ?_
          rintro e m7 ⟨uy, rfl, UY7, hb⟩
          obtain ⟨G1, g1, G2, g2, G3, g3, rfl⟩ := datIn_form (datOf_in UY7)
          have B7 := below_b hb B6
          have X7 := whole_b hb X6
          have UD7 := datOf_b hb UD6
          clear hb B6 X6 UD6
          simp only [List.map_cons, List.map_nil]
          have zx := whole_lt X7
          obtain ⟨c0, c1, c2, c3, c4, c5⟩ := six_cells X7
          go_wp2_with fail
          clear c0 c1 c2 c3 c4 c5 zx
          refine (SY.out _ _ (datOf_in (datOf_below UD7 (below_alloc (Below.refl _ _) _)))).mono ?_
          rintro e m8 ⟨ut, rfl, UT8, hb⟩
          obtain ⟨H1, y1, H2, y2, H3, y3, rfl⟩ := datIn_form (datOf_in UT8)
          have B8 := below_b hb (below_alloc B7 _)
          have X8 := whole_b hb (whole_alloc X7 _)
          have P8 := whole_b hb (whole_new m7 _ _)
          have UY8 := datOf_b hb (datOf_below UY7 (below_alloc (Below.refl _ _) _))
          clear hb B7 X7 UD7 UY7
          simp only [List.map_cons, List.map_nil]
          have zp := whole_lt P8
          obtain ⟨c0, c1, c2, c3, c4, c5⟩ := six_cells P8
          go_wp2_with fail
          clear c0 c1 c2 c3 c4 c5 zp
          refine (IT.out _ _ _ (datOf_in (datOf_below UY8 (below_alloc (Below.refl _ _) _))) (datOf_in (datOf_below UT8 (below_alloc (Below.refl _ _) _)))).mono ?_
          rintro e m9 ⟨rfl, hb⟩
          have B9 := below_b hb (below_alloc B8 _)
          have X9 := whole_b hb (whole_alloc X8 _)
          have P9 := whole_b hb (whole_alloc P8 _)
          clear hb B8 X8 P8 UY8 UT8
          have xc := (six_cells X9).2.2.2.2.2
          have pc := (six_cells P9).2.2.2.2.2
          go_wp2_with fail
          clear xc pc
          refine (iNewData_any _).mono ?_
          rintro e ma ⟨ua, rfl, UA, hb⟩
          have BA := below_b hb B9
          clear hb B9 X9 P9
          go_wp2_with fail
          refine (sNewData_any _).mono ?_
          rintro e mb ⟨ub, rfl, UB, hb⟩
          have BB := below_b hb BA
          have UA' := datOf_b hb UA
          clear hb BA UA
          go_wp2_with fail
          refine (IN.out _ _ _ (datOf_in UA') (datOf_in UB)).mono ?_
          rintro e mc ⟨rfl, hb⟩
          have BC := below_b hb BB
          clear hb BB
          go_wp2
          go_ret
          exact ⟨rfl, BC⟩

set_option maxRecDepth 100000 in
theorem lifted (os : Os) (started : os.Started) (H : Type) (enc : TypeId × Value → H) :
    ReturnsInHanded {} Try.checked os 4 .any (Rows.fnAllotSpec.pre6 enc Try.prog Try.f4 Rows.fnAllotRow.domain false) (Rows.fnAllotSpec.post enc Try.prog Try.f4 false true false false) := by
  refine returnsInHanded_of_change (C := Try.checked) own started (by kernel_rfl) Try.func4
    (ChangeSpec.witness6 (enc := enc) (C := Try.checked) false ⟨#[], #[.slice none 0 0, .slice none 0 0], []⟩ 8 (by kernel_rfl) (by kernel_rfl) (by kernel_rfl) (by kernel_rfl)) ?_
  intro W base args ds gs before hval0 hW hcnd _
  have hval : ∀ (j : Nat) t v, Try.f4.params[j]? = some t → args[j]? = some v → Value.okWide Try.prog W .any base t v := hval0
  have hW' := hW
  obtain ⟨p, q, hA0, hV, rfl, hfz, hnd⟩ := hW
  have hA : DataW.TrodAll enc Try.prog W 0 (fun _ => true) true Try.f4.params.toList args.toList ds p := hA0
  rw [Try.params4] at hA hval
  obtain ⟨v0, vs0, d0, ds0, p0, q0, hargs, rfl, rfl, h0, r0⟩ := trodAll_cons hA
  obtain ⟨v1, vs1, d1, ds1, p1, q1, rfl, rfl, rfl, h1, r1⟩ := trodAll_cons r0
  obtain ⟨rfl, rfl, rfl⟩ := trodAll_nil r1
  obtain rfl : args = #[v0, v1] := by cases args; simp_all
  obtain ⟨rfl, rfl⟩ := trodVars_none hV
  obtain ⟨a0, len0, cap0, rfl⟩ := okWide_slice Try.underlying22 (hval 0 22 v0 rfl rfl)
  have k0 := h0
  have lt0 : ∀ x ∈ p0, x.block < W.heap.size := by obtain ⟨m, hm⟩ := k0; exact DataW.trod_lt m _ _ _ hm
  obtain ⟨z0, w0⟩ : ∃ zs, BRow W a0 len0 cap0 zs := by
    obtain ⟨fuel, hf⟩ := h0
    rcases open_ints Try.underlying22 Try.underlying5 (by kernel_rfl) hf with ⟨hcs, _⟩ | ⟨x, l, c, zs, hcs, _, hl, hm, hz, _, hcell, hwz⟩
    · simp [Value.cells] at hcs
      obtain ⟨rfl, rfl, rfl⟩ := hcs
      exact ⟨[], .inl ⟨rfl, rfl, rfl, rfl⟩⟩
    · simp [Value.cells] at hcs
      obtain ⟨rfl, rfl, rfl⟩ := hcs
      exact ⟨zs, .inr ⟨_, rfl, hl, hm, by simpa using hz, hcell, hwz⟩⟩
  obtain ⟨a1, len1, cap1, rfl⟩ := okWide_slice Try.underlying22 (hval 1 22 v1 rfl rfl)
  have k1 := h1
  have lt1 : ∀ x ∈ p1, x.block < W.heap.size := by obtain ⟨m, hm⟩ := k1; exact DataW.trod_lt m _ _ _ hm
  obtain ⟨z1, w1⟩ : ∃ zs, BRow W a1 len1 cap1 zs := by
    obtain ⟨fuel, hf⟩ := h1
    rcases open_ints Try.underlying22 Try.underlying5 (by kernel_rfl) hf with ⟨hcs, _⟩ | ⟨x, l, c, zs, hcs, _, hl, hm, hz, _, hcell, hwz⟩
    · simp [Value.cells] at hcs
      obtain ⟨rfl, rfl, rfl⟩ := hcs
      exact ⟨[], .inl ⟨rfl, rfl, rfl, rfl⟩⟩
    · simp [Value.cells] at hcs
      obtain ⟨rfl, rfl, rfl⟩ := hcs
      exact ⟨zs, .inr ⟨_, rfl, hl, hm, by simpa using hz, hcell, hwz⟩⟩
  clear hA0 hval0
  refine (walk a0 len0 cap0 z0 a1 len1 cap1 z1 W w0 w1).mono fun e W' ⟨he, bel⟩ => ?_
  subst he
  exact ⟨_, rfl, _, _, _, [], _, [], hW', trodAll_mk1 (shut_bool Try.underlying4 _), (trodAll_cons_mk (Below.trod laidOut (by kernel_rfl) (of_decide_eq_true (by kernel_rfl)) k0 bel lt0) (trodAll_cons_mk (Below.trod laidOut (by kernel_rfl) (of_decide_eq_true (by kernel_rfl)) k1 bel lt1) trodAll_mk0)), rfl, bel.frame _, fun h => by cases h⟩

theorem over : Rows.fnAllotRow.holds Try.pinned (OpenSpec.ofChange Rows.fnAllotSpec) :=
  OpenClaim.holds_of_wide 4 Try.f4 rfl rfl rfl rfl rfl rfl rfl ⟨rfl, rfl, rfl, rfl, rfl⟩ rfl rfl rfl rfl rfl (by kernel_rfl) Try.func4 (by kernel_rfl)
    (of_decide_eq_true (by kernel_rfl)) (by unfold Func.isWrapper; first | (rw [if_pos (by decide +kernel)]; kernel_rfl) | (rw [if_neg (by decide +kernel)]; exact ⟨rfl, rfl⟩))
    (fun os started H enc _ => lifted os started H enc)

/-- The statement. -/
theorem proved : Rows.FnAllotSaid := over
#print axioms proved
end Go.Proofs.Ytojjknjdlipfpaa.fnAllot
