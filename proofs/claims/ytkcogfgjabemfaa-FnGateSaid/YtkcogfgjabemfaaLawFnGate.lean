/- laws.FnGate returns true at every two codes: what is not granted does nothing and tells nothing but that; what is granted leaves a deed; the answers are the specification's. No condition. -/
import Derived.Test.YtkcogfgjabemfaaRows
import Derived.Test.YtkcogfgjabemfaaPkD
import Derived.Deep.RegionHeld3
import Derived.WalkKit
import Derived.ProofKit
import Derived.OpenShut
import Derived.ShutString
import Derived.ChangeOld
import Derived.Below
namespace Go.Proofs.Ytkcogfgjabemfaa.fnGate
open Go.ChangeShapes Go.WideShapes Go.ChangeAt Go.RowKit
open Go.ChangeMaps (open_string shut_string)
set_option linter.unusedSimpArgs false
set_option linter.unusedVariables false

theorem own : ownKnob Try.prog.godebug = none := by kernel_rfl
theorem laidOut : laidOutB Try.prog = true := by kernel_rfl

set_option maxRecDepth 100000 in
set_option maxHeartbeats 60000000 in
theorem walk (a0 : Option Addr) (len0 cap0 : Nat) (z0 : List Int) (a1 : Option Addr) (len1 cap1 : Nat) (z1 : List Int) (w : World) (w0 : BRow w a0 len0 cap0 z0) (w1 : BRow w a1 len1 cap1 z1) :
    Calls Try.prog 3 #[.slice a0 len0 cap0, .slice a1 len1 cap1] w fun e w' => e = .returned (.bool true) ∧ Below w.heap.size w w' := by
  have g0 : BRow w a0 len0 cap0 z0 := w0
  have g1 : BRow w a1 len1 cap1 z1 := w1
  have W0 := Lib.hid g0
  have W1 := Lib.hid g1
  have l0m : len0 ≤ maxLen := by rcases g0 with ⟨_, h, _⟩ | ⟨_, _, h1, h2, _⟩ <;> omega
  have l1m : len1 ≤ maxLen := by rcases g1 with ⟨_, h, _⟩ | ⟨_, _, h1, h2, _⟩ <;> omega
  unfold maxLen at l0m l1m
  clear w0 w1 g0 g1
  by_cases l0 : len0 ≤ 1048576
  rotate_left
  · go_enter Try.func3, Try.ntmps3
    go_wp2
    go_ret
    exact ⟨rfl, Below.refl _ _⟩
  by_cases l1 : len1 ≤ 1048576
  rotate_left
  · go_enter Try.func3, Try.ntmps3
    go_wp2
    go_ret
    exact ⟨rfl, Below.refl _ _⟩
  go_enter Try.func3, Try.ntmps3
  go_wp2_with fail
  refine (hostDrawn_any _ _ _ _ _ W0.out (by omega)).mono ?_
  rintro e m1 ⟨u, h, rfl, hh, h20, hu, hb⟩
  have B : Below w.heap.size w m1 := hb
  obtain ⟨ch, rfl, rch⟩ := hostIn_row (hostOf_in hu)
  have H_h := hostOf_in hu
  clear hb hu
  go_wp2_with (first | (with_reducible show wpList _ _ _ ({ dst := _, op := .load 27 _, type := _, pos := _, after := _, guard := _ } :: _) _ _; refine load_H _ rfl rfl _ rfl (by assumption) (by assumption) ?_) | (with_reducible show wpList _ _ _ ({ dst := _, op := .load 30 _, type := _, pos := _, after := _, guard := _ } :: _) _ _; refine load_D _ rfl rfl _ rfl (by assumption) (by assumption) ?_) | (with_reducible show wpList _ _ _ ({ dst := _, op := .store 27 _ _, type := _, pos := _, after := _, guard := _ } :: _) _ _; refine store_H _ _ rfl rfl _ _ rfl rfl (by assumption) rfl ?_; intro m2 X_h BM; have B := below_b BM B; have H_h := hostIn_below H_h BM; clear BM) | fail)
  refine (dataDrawn_any _ _ _ _ _ (brow_below W1.out (by assumption)) (by omega)).mono ?_
  rintro e m3 ⟨ud, d, rfl, hd, hu, hb⟩
  have B := below_b hb B
  have H_h := hostIn_below H_h hb
  have X_h := whole_b hb X_h
  obtain ⟨cd, rfl, rcd⟩ := datIn_row (datOf_in hu)
  have D_d : DatC m3 (.agg cd) d := ⟨datOf_in hu, datOf_caps hu⟩
  clear hb hu
  go_wp2_with (first | (with_reducible show wpList _ _ _ ({ dst := _, op := .load 27 _, type := _, pos := _, after := _, guard := _ } :: _) _ _; refine load_H _ rfl rfl _ rfl (by assumption) (by assumption) ?_) | (with_reducible show wpList _ _ _ ({ dst := _, op := .load 30 _, type := _, pos := _, after := _, guard := _ } :: _) _ _; refine load_D _ rfl rfl _ rfl (by assumption) (by assumption) ?_) | (with_reducible show wpList _ _ _ ({ dst := _, op := .store 30 _ _, type := _, pos := _, after := _, guard := _ } :: _) _ _; refine store_D _ _ rfl rfl _ _ rfl rfl (by assumption) rfl ?_; intro m4 X_d BM; have B := below_b BM B; have H_h := hostIn_below H_h BM; have X_h := whole_b BM X_h; have D_d := datC_below D_d BM; clear BM) | fail)
  go_loopw [7] (fun i wr => ∃ k : Nat, k ≤ 4 ∧ i = .int .i64 k ∧ Whole wr m1.heap.size 27 ch ∧ Whole wr m3.heap.size 30 cd ∧ HostIn wr (.agg ch) h ∧ DatC wr (.agg cd) d ∧ Below w.heap.size w wr) (fun i _ => 4 - (intOf i).toNat)
  case atStart => exact ⟨0, Nat.zero_le _, rfl, X_h, X_d, H_h, D_d, B⟩
  case round =>
    obtain ⟨k, hk, rfl, xh, xd, hH, hD, hB⟩ := hrel
    clear X_h X_d H_h D_d B
    have X_h := xh
    have X_d := xd
    have H_h := hH
    have D_d := hD
    have B := hB
    clear xh xd hH hD hB
    by_cases hlt : k < 4
    · have hg4 := fineH_g hh
      have kg : k < h.g.length := by omega
      have kI : (k : Int) < (h.g.length : Int) := by omega
      have k0 : (0 : Int) ≤ (k : Int) := by omega
      have IH : Hid (∀ v x W, HostIn W v h → DatIn W x d → Calls Try.prog 11 #[v, x, .int .i64 k] W (HcRes W ((hCall h d k).1, (hCall h d k).2.1, (hCall h d k).2.2, 0))) := Lib.hid fun v x W h1 h2 => by
        have q := iHostCall_any v x h d k W h1 h2
        rw [hHost_at hh hd hlt] at q; exact q
      have SH : Hid (∀ v x W, HostIn W v h → DatC W x d → Calls Try.prog 12 #[v, x, .int .i64 k] W (HcRes W ((hCall h d k).1, (hCall h d k).2.1, (hCall h d k).2.2, 0))) := Lib.hid fun v x W h1 h2 => by
        have q := sHostCall_any v x h d k W h1 h2
        rw [hHost_at hh hd hlt] at q; exact q
      obtain ⟨c1, c2, c3, c4, c5, c6⟩ := hCall_fine hh hd hlt
      have f0 := grant_fine hh k false
      have G0 : Hid (∀ v W, HostIn W v h → Calls Try.prog 15 #[v, .int .i64 k, .bool false] W (HResOf W ({ h with g := h.g.set k false }, 0))) := Lib.hid fun v W h1 => by
        have q := iGrantCap_any v h k false W h1
        rw [hGrant_at hh hlt] at q; exact q
      have I0 : Hid (∀ v x W, HostIn W v { h with g := h.g.set k false } → DatIn W x d → Calls Try.prog 11 #[v, x, .int .i64 k] W (HcRes W ({ h with g := h.g.set k false }, d, -100, 0))) := Lib.hid fun v x W h1 h2 => by
        have q := iHostCall_any v x _ d k W h1 h2
        rw [hHost_at f0 hd hlt, (hCall_fine f0 hd hlt).2.2.1 (granted hh hlt false)] at q; exact q
      generalize hh0 : ({ h with g := h.g.set k false } : Ht) = o0 at *
      have f1 := grant_fine f0 k true
      have G1 : Hid (∀ v W, HostIn W v o0 → Calls Try.prog 15 #[v, .int .i64 k, .bool true] W (HResOf W ({ o0 with g := o0.g.set k true }, 0))) := Lib.hid fun v W h1 => by
        have q := iGrantCap_any v o0 k true W h1
        rw [hGrant_at f0 hlt] at q; exact q
      have t2n := (hCall_fine f1 hd hlt).2.2.2.1 (granted f0 hlt true)
      have I1 : Hid (∀ v x W, HostIn W v { o0 with g := o0.g.set k true } → DatIn W x d → Calls Try.prog 11 #[v, x, .int .i64 k] W (HcRes W ((hCall { o0 with g := o0.g.set k true } d k).1, (hCall { o0 with g := o0.g.set k true } d k).2.1, (hCall { o0 with g := o0.g.set k true } d k).2.2, 0))) := Lib.hid fun v x W h1 h2 => by
        have q := iHostCall_any v x _ d k W h1 h2
        rw [hHost_at f1 hd hlt] at q; exact q
      generalize ({ o0 with g := o0.g.set k true } : Ht) = o1 at *
      generalize hCall o1 d k = r2 at *
      obtain ⟨q1, q2, t2⟩ := r2
      simp only at t2n
      have I1 : Hid (∀ v x W, HostIn W v o1 → DatIn W x d → Calls Try.prog 11 #[v, x, .int .i64 k] W (HcRes W (q1, q2, t2, 0))) := Lib.hid I1.out
      have t2b : (t2 == -100) = false := by rw [beq_eq_false_iff_ne]; exact t2n
      generalize hCall h d k = r at *
      obtain ⟨ph, pd, th⟩ := r
      simp only at c1 c2 c3 c4 c5 c6
      have IH : Hid (∀ v x W, HostIn W v h → DatIn W x d → Calls Try.prog 11 #[v, x, .int .i64 k] W (HcRes W (ph, pd, th, 0))) := Lib.hid IH.out
      have SH : Hid (∀ v x W, HostIn W v h → DatC W x d → Calls Try.prog 12 #[v, x, .int .i64 k] W (HcRes W (ph, pd, th, 0))) := Lib.hid SH.out
      have SS : Hid (∀ u v W, HostIn W u ph → HostIn W v ph → Calls Try.prog 13 #[u, v] W fun e w' => e = .returned (.bool true) ∧ Below W.heap.size W w') := Lib.hid fun u v W h1 h2 => by
        have q := iSameHost_any u v ph ph W h1 h2
        rw [hSame_self (hOK_true c1)] at q; exact q
      have SD : Hid (∀ u v W, DatIn W u pd → DatIn W v pd → Calls Try.prog 14 #[u, v] W fun e w' => e = .returned (.bool true) ∧ Below W.heap.size W w') := Lib.hid fun u v W h1 h2 => by
        have q := iSameData_any u v pd pd W h1 h2
        rw [sameV_self c2] at q; exact q
      have tt : (th != th) = false := by simp
      clear f0 f1 hh0 c1 c2
      by_cases gk0 : h.g.getD k false = false
      · have gk : h.g[k] = false := by rw [List.getD_eq_getElem?_getD, List.getElem?_eq_getElem kg] at gk0; exact gk0
        have ee := c3 gk0
        simp only [Prod.mk.injEq] at ee
        obtain ⟨rfl, rfl, rfl⟩ := ee
        clear c3 c4 c5 c6 gk0
        go_wp2_with (first | (with_reducible show wpList _ _ _ ({ dst := _, op := .load 27 _, type := _, pos := _, after := _, guard := _ } :: _) _ _; refine load_H _ rfl rfl _ rfl (by assumption) (by assumption) ?_) | (with_reducible show wpList _ _ _ ({ dst := _, op := .load 30 _, type := _, pos := _, after := _, guard := _ } :: _) _ _; refine load_D _ rfl rfl _ rfl (by assumption) (by assumption) ?_) | fail)
        refine (IH.out _ _ _ H_h D_d.1).mono ?_
        rintro e m101 ⟨vx, xx, rfl, hT, hD, -, hb⟩
        have X_h := whole_b hb X_h
        have X_d := whole_b hb X_d
        have H_h := hostIn_below H_h hb
        have D_d := datC_below D_d hb
        have B := below_b hb B
        obtain ⟨cx, rfl, rx⟩ := hostIn_row (hostT_in hT)
        obtain ⟨cy, rfl, ry⟩ := datIn_row (datOf_in hD)
        have H_x := hostT_in hT
        have E_y := datOf_in hD
        clear hT hD hb
        go_wp2_with (first | (with_reducible show wpList _ _ _ ({ dst := _, op := .load 27 _, type := _, pos := _, after := _, guard := _ } :: _) _ _; refine load_H _ rfl rfl _ rfl (by assumption) (by assumption) ?_) | (with_reducible show wpList _ _ _ ({ dst := _, op := .load 30 _, type := _, pos := _, after := _, guard := _ } :: _) _ _; refine load_D _ rfl rfl _ rfl (by assumption) (by assumption) ?_) | (with_reducible show wpList _ _ _ ({ dst := _, op := .store 27 _ _, type := _, pos := _, after := _, guard := _ } :: { dst := _, op := .store 30 _ _, type := _, pos := _, after := _, guard := _ } :: _) _ _; refine store_HD _ _ _ _ rfl rfl rfl rfl _ _ _ _ rfl rfl rfl rfl (by assumption) (by assumption) rfl rfl ?_; intro m102 X_x X_y BM; have X_h := whole_b BM X_h; have X_d := whole_b BM X_d; have H_h := hostIn_below H_h BM; have D_d := datC_below D_d BM; have B := below_b BM B; have H_x := hostIn_below H_x BM; have E_y := datIn_below E_y BM; clear BM) | fail)
        refine (SH.out _ _ _ H_h D_d).mono ?_
        rintro e m103 ⟨vw, xw, rfl, hT, hD, -, hb⟩
        have X_h := whole_b hb X_h
        have X_d := whole_b hb X_d
        have H_h := hostIn_below H_h hb
        have D_d := datC_below D_d hb
        have B := below_b hb B
        have H_x := hostIn_below H_x hb
        have E_y := datIn_below E_y hb
        have X_x := whole_b hb X_x
        have X_y := whole_b hb X_y
        obtain ⟨cu, rfl, ru⟩ := hostIn_row (hostT_in hT)
        obtain ⟨cv, rfl, rv⟩ := datIn_row (datOf_in hD)
        have H_u := hostT_in hT
        have E_v := datOf_in hD
        clear hT hD hb
        go_wp2_with (first | (with_reducible show wpList _ _ _ ({ dst := _, op := .load 27 _, type := _, pos := _, after := _, guard := _ } :: _) _ _; refine load_H _ rfl rfl _ rfl (by assumption) (by assumption) ?_) | (with_reducible show wpList _ _ _ ({ dst := _, op := .load 30 _, type := _, pos := _, after := _, guard := _ } :: _) _ _; refine load_D _ rfl rfl _ rfl (by assumption) (by assumption) ?_) | (with_reducible show wpList _ _ _ ({ dst := _, op := .store 27 _ _, type := _, pos := _, after := _, guard := _ } :: { dst := _, op := .store 30 _ _, type := _, pos := _, after := _, guard := _ } :: _) _ _; refine store_HD _ _ _ _ rfl rfl rfl rfl _ _ _ _ rfl rfl rfl rfl (by assumption) (by assumption) rfl rfl ?_; intro m104 X_u X_v BM; have X_h := whole_b BM X_h; have X_d := whole_b BM X_d; have H_h := hostIn_below H_h BM; have D_d := datC_below D_d BM; have B := below_b BM B; have H_x := hostIn_below H_x BM; have E_y := datIn_below E_y BM; have X_x := whole_b BM X_x; have X_y := whole_b BM X_y; have H_u := hostIn_below H_u BM; have E_v := datIn_below E_v BM; clear BM) | fail)
        refine (SS.out _ _ _ H_x H_u).mono ?_
        rintro e m105 ⟨rfl, hb⟩
        have X_h := whole_b hb X_h
        have X_d := whole_b hb X_d
        have H_h := hostIn_below H_h hb
        have D_d := datC_below D_d hb
        have B := below_b hb B
        have H_x := hostIn_below H_x hb
        have E_y := datIn_below E_y hb
        have X_x := whole_b hb X_x
        have X_y := whole_b hb X_y
        have H_u := hostIn_below H_u hb
        have E_v := datIn_below E_v hb
        have X_u := whole_b hb X_u
        have X_v := whole_b hb X_v
        clear hb
        go_wp2_with (first | (with_reducible show wpList _ _ _ ({ dst := _, op := .load 27 _, type := _, pos := _, after := _, guard := _ } :: _) _ _; refine load_H _ rfl rfl _ rfl (by assumption) (by assumption) ?_) | (with_reducible show wpList _ _ _ ({ dst := _, op := .load 30 _, type := _, pos := _, after := _, guard := _ } :: _) _ _; refine load_D _ rfl rfl _ rfl (by assumption) (by assumption) ?_) | fail)
        refine (SD.out _ _ _ E_y E_v).mono ?_
        rintro e m106 ⟨rfl, hb⟩
        have X_h := whole_b hb X_h
        have X_d := whole_b hb X_d
        have H_h := hostIn_below H_h hb
        have D_d := datC_below D_d hb
        have B := below_b hb B
        have H_x := hostIn_below H_x hb
        have E_y := datIn_below E_y hb
        have X_x := whole_b hb X_x
        have X_y := whole_b hb X_y
        have H_u := hostIn_below H_u hb
        have E_v := datIn_below E_v hb
        have X_u := whole_b hb X_u
        have X_v := whole_b hb X_v
        clear hb
        clear X_u X_v H_u E_v
        obtain ⟨ad, z1, p1, p2, p3, p4, ec, gc⟩ := gate_g H_h kg
        rw [gk] at gc
        have X_h5 := X_h
        rw [ec] at X_h5
        clear ec
        obtain ⟨a0c, -, -, -, a4c⟩ := five_cells X_h5
        clear X_h5
        have X_hd := X_h
        clear X_h
        have X_h := X_hd
        clear X_hd
        clear a4c
        go_wp2_with (first | (with_reducible show wpList _ _ _ ({ dst := _, op := .load 27 _, type := _, pos := _, after := _, guard := _ } :: _) _ _; refine load_H _ rfl rfl _ rfl (by assumption) (by assumption) ?_) | (with_reducible show wpList _ _ _ ({ dst := _, op := .load 30 _, type := _, pos := _, after := _, guard := _ } :: _) _ _; refine load_D _ rfl rfl _ rfl (by assumption) (by assumption) ?_) | fail)
        clear a0c gc
        refine (SS.out _ _ _ H_x H_h).mono ?_
        rintro e m107 ⟨rfl, hb⟩
        have X_h := whole_b hb X_h
        have X_d := whole_b hb X_d
        have H_h := hostIn_below H_h hb
        have D_d := datC_below D_d hb
        have B := below_b hb B
        have H_x := hostIn_below H_x hb
        have E_y := datIn_below E_y hb
        have X_x := whole_b hb X_x
        have X_y := whole_b hb X_y
        clear hb
        go_wp2_with (first | (with_reducible show wpList _ _ _ ({ dst := _, op := .load 27 _, type := _, pos := _, after := _, guard := _ } :: _) _ _; refine load_H _ rfl rfl _ rfl (by assumption) (by assumption) ?_) | (with_reducible show wpList _ _ _ ({ dst := _, op := .load 30 _, type := _, pos := _, after := _, guard := _ } :: _) _ _; refine load_D _ rfl rfl _ rfl (by assumption) (by assumption) ?_) | fail)
        refine (SD.out _ _ _ E_y D_d.1).mono ?_
        rintro e m108 ⟨rfl, hb⟩
        have X_h := whole_b hb X_h
        have X_d := whole_b hb X_d
        have H_h := hostIn_below H_h hb
        have D_d := datC_below D_d hb
        have B := below_b hb B
        have H_x := hostIn_below H_x hb
        have E_y := datIn_below E_y hb
        have X_x := whole_b hb X_x
        have X_y := whole_b hb X_y
        clear hb
        obtain ⟨ad, z1, p1, p2, p3, p4, ec, gc⟩ := gate_g H_h kg
        rw [gk] at gc
        have X_h5 := X_h
        rw [ec] at X_h5
        clear ec
        obtain ⟨a0c, -, -, -, a4c⟩ := five_cells X_h5
        clear X_h5
        have X_hd := X_h
        clear X_h
        have X_h := X_hd
        clear X_hd
        clear a4c
        go_wp2_with (first | (with_reducible show wpList _ _ _ ({ dst := _, op := .load 27 _, type := _, pos := _, after := _, guard := _ } :: _) _ _; refine load_H _ rfl rfl _ rfl (by assumption) (by assumption) ?_) | (with_reducible show wpList _ _ _ ({ dst := _, op := .load 30 _, type := _, pos := _, after := _, guard := _ } :: _) _ _; refine load_D _ rfl rfl _ rfl (by assumption) (by assumption) ?_) | fail)
        clear a0c gc
        refine (SS.out _ _ _ H_x H_h).mono ?_
        rintro e m109 ⟨rfl, hb⟩
        have X_h := whole_b hb X_h
        have X_d := whole_b hb X_d
        have H_h := hostIn_below H_h hb
        have D_d := datC_below D_d hb
        have B := below_b hb B
        have H_x := hostIn_below H_x hb
        have E_y := datIn_below E_y hb
        have X_x := whole_b hb X_x
        have X_y := whole_b hb X_y
        clear hb
        go_wp2_with (first | (with_reducible show wpList _ _ _ ({ dst := _, op := .load 27 _, type := _, pos := _, after := _, guard := _ } :: _) _ _; refine load_H _ rfl rfl _ rfl (by assumption) (by assumption) ?_) | (with_reducible show wpList _ _ _ ({ dst := _, op := .load 30 _, type := _, pos := _, after := _, guard := _ } :: _) _ _; refine load_D _ rfl rfl _ rfl (by assumption) (by assumption) ?_) | fail)
        refine (G0.out _ _ H_h).mono ?_
        rintro e m110 ⟨vo, rfl, hO, hb⟩
        have X_h := whole_b hb X_h
        have X_d := whole_b hb X_d
        have H_h := hostIn_below H_h hb
        have D_d := datC_below D_d hb
        have B := below_b hb B
        have H_x := hostIn_below H_x hb
        have E_y := datIn_below E_y hb
        have X_x := whole_b hb X_x
        have X_y := whole_b hb X_y
        obtain ⟨co, rfl, ro⟩ := hostIn_row (hostOf_in hO)
        have H_o := hostOf_in hO
        clear hO hb
        clear X_x X_y H_x E_y
        go_wp2_with (first | (with_reducible show wpList _ _ _ ({ dst := _, op := .load 27 _, type := _, pos := _, after := _, guard := _ } :: _) _ _; refine load_H _ rfl rfl _ rfl (by assumption) (by assumption) ?_) | (with_reducible show wpList _ _ _ ({ dst := _, op := .load 30 _, type := _, pos := _, after := _, guard := _ } :: _) _ _; refine load_D _ rfl rfl _ rfl (by assumption) (by assumption) ?_) | (with_reducible show wpList _ _ _ ({ dst := _, op := .store 27 _ _, type := _, pos := _, after := _, guard := _ } :: _) _ _; refine store_H _ _ rfl rfl _ _ rfl rfl (by assumption) rfl ?_; intro m111 X_o BM; have X_h := whole_b BM X_h; have X_d := whole_b BM X_d; have H_h := hostIn_below H_h BM; have D_d := datC_below D_d BM; have B := below_b BM B; have H_o := hostIn_below H_o BM; clear BM) | fail)
        refine (I0.out _ _ _ H_o D_d.1).mono ?_
        rintro e m112 ⟨v9, x9, rfl, hT, hD, -, hb⟩
        have X_h := whole_b hb X_h
        have X_d := whole_b hb X_d
        have H_h := hostIn_below H_h hb
        have D_d := datC_below D_d hb
        have B := below_b hb B
        have H_o := hostIn_below H_o hb
        have X_o := whole_b hb X_o
        obtain ⟨ca, rfl, ra⟩ := hostIn_row (hostT_in hT)
        obtain ⟨cb, rfl, rb⟩ := datIn_row (datOf_in hD)
        have H_a := hostT_in hT
        have E_b := datOf_in hD
        clear hT hD hb
        go_wp2_with (first | (with_reducible show wpList _ _ _ ({ dst := _, op := .load 27 _, type := _, pos := _, after := _, guard := _ } :: _) _ _; refine load_H _ rfl rfl _ rfl (by assumption) (by assumption) ?_) | (with_reducible show wpList _ _ _ ({ dst := _, op := .load 30 _, type := _, pos := _, after := _, guard := _ } :: _) _ _; refine load_D _ rfl rfl _ rfl (by assumption) (by assumption) ?_) | (with_reducible show wpList _ _ _ ({ dst := _, op := .store 27 _ _, type := _, pos := _, after := _, guard := _ } :: { dst := _, op := .store 30 _ _, type := _, pos := _, after := _, guard := _ } :: _) _ _; refine store_HD _ _ _ _ rfl rfl rfl rfl _ _ _ _ rfl rfl rfl rfl (by assumption) (by assumption) rfl rfl ?_; intro m113 X_a X_b BM; have X_h := whole_b BM X_h; have X_d := whole_b BM X_d; have H_h := hostIn_below H_h BM; have D_d := datC_below D_d BM; have B := below_b BM B; have H_o := hostIn_below H_o BM; have X_o := whole_b BM X_o; have H_a := hostIn_below H_a BM; have E_b := datIn_below E_b BM; clear BM) | fail)
        refine (G1.out _ _ H_o).mono ?_
        rintro e m114 ⟨vn, rfl, hO, hb⟩
        have X_h := whole_b hb X_h
        have X_d := whole_b hb X_d
        have H_h := hostIn_below H_h hb
        have D_d := datC_below D_d hb
        have B := below_b hb B
        have H_o := hostIn_below H_o hb
        have X_o := whole_b hb X_o
        have H_a := hostIn_below H_a hb
        have E_b := datIn_below E_b hb
        have X_a := whole_b hb X_a
        have X_b := whole_b hb X_b
        obtain ⟨cn, rfl, rn⟩ := hostIn_row (hostOf_in hO)
        have H_n := hostOf_in hO
        clear hO hb
        clear X_a X_b H_a E_b X_o H_o
        go_wp2_with (first | (with_reducible show wpList _ _ _ ({ dst := _, op := .load 27 _, type := _, pos := _, after := _, guard := _ } :: _) _ _; refine load_H _ rfl rfl _ rfl (by assumption) (by assumption) ?_) | (with_reducible show wpList _ _ _ ({ dst := _, op := .load 30 _, type := _, pos := _, after := _, guard := _ } :: _) _ _; refine load_D _ rfl rfl _ rfl (by assumption) (by assumption) ?_) | (with_reducible show wpList _ _ _ ({ dst := _, op := .store 27 _ _, type := _, pos := _, after := _, guard := _ } :: _) _ _; refine store_H _ _ rfl rfl _ _ rfl rfl (by assumption) rfl ?_; intro m115 X_n BM; have X_h := whole_b BM X_h; have X_d := whole_b BM X_d; have H_h := hostIn_below H_h BM; have D_d := datC_below D_d BM; have B := below_b BM B; have H_n := hostIn_below H_n BM; clear BM) | fail)
        refine (I1.out _ _ _ H_n D_d.1).mono ?_
        rintro e m116 ⟨v8, x8, rfl, hT, hD, -, hb⟩
        have X_h := whole_b hb X_h
        have X_d := whole_b hb X_d
        have H_h := hostIn_below H_h hb
        have D_d := datC_below D_d hb
        have B := below_b hb B
        have H_n := hostIn_below H_n hb
        have X_n := whole_b hb X_n
        obtain ⟨cc, rfl, rc⟩ := hostIn_row (hostT_in hT)
        obtain ⟨cf, rfl, rf⟩ := datIn_row (datOf_in hD)
        have H_c := hostT_in hT
        have E_f := datOf_in hD
        clear hT hD hb
        go_wp2_with (first | (with_reducible show wpList _ _ _ ({ dst := _, op := .load 27 _, type := _, pos := _, after := _, guard := _ } :: _) _ _; refine load_H _ rfl rfl _ rfl (by assumption) (by assumption) ?_) | (with_reducible show wpList _ _ _ ({ dst := _, op := .load 30 _, type := _, pos := _, after := _, guard := _ } :: _) _ _; refine load_D _ rfl rfl _ rfl (by assumption) (by assumption) ?_) | (with_reducible show wpList _ _ _ ({ dst := _, op := .store 27 _ _, type := _, pos := _, after := _, guard := _ } :: { dst := _, op := .store 30 _ _, type := _, pos := _, after := _, guard := _ } :: _) _ _; refine store_HD _ _ _ _ rfl rfl rfl rfl _ _ _ _ rfl rfl rfl rfl (by assumption) (by assumption) rfl rfl ?_; intro m117 X_c X_f BM; have X_h := whole_b BM X_h; have X_d := whole_b BM X_d; have H_h := hostIn_below H_h BM; have D_d := datC_below D_d BM; have B := below_b BM B; have H_n := hostIn_below H_n BM; have X_n := whole_b BM X_n; have H_c := hostIn_below H_c BM; have E_f := datIn_below E_f BM; clear BM) | fail)
        go_roundw
        case rel => exact ⟨k + 1, by omega, by go_num, X_h, X_d, H_h, D_d, B⟩
        case measure => simp [intOf]; omega
      have gk1 : h.g.getD k false = true := by cases q : h.g.getD k false with | false => exact absurd q gk0 | true => rfl
      have gk : h.g[k] = true := by rw [List.getD_eq_getElem?_getD, List.getElem?_eq_getElem kg] at gk1; exact gk1
      have tn := c4 gk1
      clear c3 c4 gk0 gk1
      by_cases t0 : th = 0
      · subst t0
        obtain ⟨x, ex, xp⟩ := c5 rfl
        have dl : ph.d.length = h.d.length + 1 := by rw [ex]; simp
        have cap : (ph.d[h.d.length]'(by omega)).p = (k : Int) := by rw [← xp]; congr 1; simp [ex]
        have h40 := fineH_d hh
        have lw : IntKind.i64.wrap ((h.d.length : Int) + 1) = (h.d.length : Int) + 1 := IntWalk.i64_in _ (by omega)
        have le : ((ph.d.length : Int) != (h.d.length : Int) + 1) = false := by rw [dl]; simp
        have li : (h.d.length : Int) < (ph.d.length : Int) := by omega
        have li0 : (0 : Int) ≤ (h.d.length : Int) := by omega
        have kk : ((k : Int) != (k : Int)) = false := by simp
        clear c5 c6 tn ex xp
        go_wp2_with (first | (with_reducible show wpList _ _ _ ({ dst := _, op := .load 27 _, type := _, pos := _, after := _, guard := _ } :: _) _ _; refine load_H _ rfl rfl _ rfl (by assumption) (by assumption) ?_) | (with_reducible show wpList _ _ _ ({ dst := _, op := .load 30 _, type := _, pos := _, after := _, guard := _ } :: _) _ _; refine load_D _ rfl rfl _ rfl (by assumption) (by assumption) ?_) | fail)
        refine (IH.out _ _ _ H_h D_d.1).mono ?_
        rintro e m201 ⟨vx, xx, rfl, hT, hD, -, hb⟩
        have X_h := whole_b hb X_h
        have X_d := whole_b hb X_d
        have H_h := hostIn_below H_h hb
        have D_d := datC_below D_d hb
        have B := below_b hb B
        obtain ⟨cx, rfl, rx⟩ := hostIn_row (hostT_in hT)
        obtain ⟨cy, rfl, ry⟩ := datIn_row (datOf_in hD)
        have H_x := hostT_in hT
        have E_y := datOf_in hD
        clear hT hD hb
        go_wp2_with (first | (with_reducible show wpList _ _ _ ({ dst := _, op := .load 27 _, type := _, pos := _, after := _, guard := _ } :: _) _ _; refine load_H _ rfl rfl _ rfl (by assumption) (by assumption) ?_) | (with_reducible show wpList _ _ _ ({ dst := _, op := .load 30 _, type := _, pos := _, after := _, guard := _ } :: _) _ _; refine load_D _ rfl rfl _ rfl (by assumption) (by assumption) ?_) | (with_reducible show wpList _ _ _ ({ dst := _, op := .store 27 _ _, type := _, pos := _, after := _, guard := _ } :: { dst := _, op := .store 30 _ _, type := _, pos := _, after := _, guard := _ } :: _) _ _; refine store_HD _ _ _ _ rfl rfl rfl rfl _ _ _ _ rfl rfl rfl rfl (by assumption) (by assumption) rfl rfl ?_; intro m202 X_x X_y BM; have X_h := whole_b BM X_h; have X_d := whole_b BM X_d; have H_h := hostIn_below H_h BM; have D_d := datC_below D_d BM; have B := below_b BM B; have H_x := hostIn_below H_x BM; have E_y := datIn_below E_y BM; clear BM) | fail)
        refine (SH.out _ _ _ H_h D_d).mono ?_
        rintro e m203 ⟨vw, xw, rfl, hT, hD, -, hb⟩
        have X_h := whole_b hb X_h
        have X_d := whole_b hb X_d
        have H_h := hostIn_below H_h hb
        have D_d := datC_below D_d hb
        have B := below_b hb B
        have H_x := hostIn_below H_x hb
        have E_y := datIn_below E_y hb
        have X_x := whole_b hb X_x
        have X_y := whole_b hb X_y
        obtain ⟨cu, rfl, ru⟩ := hostIn_row (hostT_in hT)
        obtain ⟨cv, rfl, rv⟩ := datIn_row (datOf_in hD)
        have H_u := hostT_in hT
        have E_v := datOf_in hD
        clear hT hD hb
        go_wp2_with (first | (with_reducible show wpList _ _ _ ({ dst := _, op := .load 27 _, type := _, pos := _, after := _, guard := _ } :: _) _ _; refine load_H _ rfl rfl _ rfl (by assumption) (by assumption) ?_) | (with_reducible show wpList _ _ _ ({ dst := _, op := .load 30 _, type := _, pos := _, after := _, guard := _ } :: _) _ _; refine load_D _ rfl rfl _ rfl (by assumption) (by assumption) ?_) | (with_reducible show wpList _ _ _ ({ dst := _, op := .store 27 _ _, type := _, pos := _, after := _, guard := _ } :: { dst := _, op := .store 30 _ _, type := _, pos := _, after := _, guard := _ } :: _) _ _; refine store_HD _ _ _ _ rfl rfl rfl rfl _ _ _ _ rfl rfl rfl rfl (by assumption) (by assumption) rfl rfl ?_; intro m204 X_u X_v BM; have X_h := whole_b BM X_h; have X_d := whole_b BM X_d; have H_h := hostIn_below H_h BM; have D_d := datC_below D_d BM; have B := below_b BM B; have H_x := hostIn_below H_x BM; have E_y := datIn_below E_y BM; have X_x := whole_b BM X_x; have X_y := whole_b BM X_y; have H_u := hostIn_below H_u BM; have E_v := datIn_below E_v BM; clear BM) | fail)
        refine (SS.out _ _ _ H_x H_u).mono ?_
        rintro e m205 ⟨rfl, hb⟩
        have X_h := whole_b hb X_h
        have X_d := whole_b hb X_d
        have H_h := hostIn_below H_h hb
        have D_d := datC_below D_d hb
        have B := below_b hb B
        have H_x := hostIn_below H_x hb
        have E_y := datIn_below E_y hb
        have X_x := whole_b hb X_x
        have X_y := whole_b hb X_y
        have H_u := hostIn_below H_u hb
        have E_v := datIn_below E_v hb
        have X_u := whole_b hb X_u
        have X_v := whole_b hb X_v
        clear hb
        go_wp2_with (first | (with_reducible show wpList _ _ _ ({ dst := _, op := .load 27 _, type := _, pos := _, after := _, guard := _ } :: _) _ _; refine load_H _ rfl rfl _ rfl (by assumption) (by assumption) ?_) | (with_reducible show wpList _ _ _ ({ dst := _, op := .load 30 _, type := _, pos := _, after := _, guard := _ } :: _) _ _; refine load_D _ rfl rfl _ rfl (by assumption) (by assumption) ?_) | fail)
        refine (SD.out _ _ _ E_y E_v).mono ?_
        rintro e m206 ⟨rfl, hb⟩
        have X_h := whole_b hb X_h
        have X_d := whole_b hb X_d
        have H_h := hostIn_below H_h hb
        have D_d := datC_below D_d hb
        have B := below_b hb B
        have H_x := hostIn_below H_x hb
        have E_y := datIn_below E_y hb
        have X_x := whole_b hb X_x
        have X_y := whole_b hb X_y
        have H_u := hostIn_below H_u hb
        have E_v := datIn_below E_v hb
        have X_u := whole_b hb X_u
        have X_v := whole_b hb X_v
        clear hb
        clear X_u X_v H_u E_v
        obtain ⟨ad, z1, p1, p2, p3, p4, ec, gc⟩ := gate_g H_h kg
        rw [gk] at gc
        have X_h5 := X_h
        rw [ec] at X_h5
        clear ec
        obtain ⟨a0c, -, -, -, a4c⟩ := five_cells X_h5
        clear X_h5
        have X_hd := X_h
        clear X_h
        have X_h := X_hd
        clear X_hd
        obtain ⟨s0, s1, s2, s3, A4, z4, ed, -⟩ := gate_d H_h
        have a4d := (five_cells (by rw [← ed]; exact X_h : Whole _ m1.heap.size 27 #[s0, s1, s2, s3, .slice A4 h.d.length z4])).2.2.2.2
        clear a4c ed
        obtain ⟨y0, y1, y2, y3, A5, z5, ey, dc⟩ := gate_d H_x
        have X_x5 := X_x
        rw [ey] at X_x5
        clear ey
        obtain ⟨-, -, -, -, b4c⟩ := five_cells X_x5
        clear X_x5
        obtain ⟨ae, hA, dc2⟩ := dc h.d.length (by omega)
        subst hA
        rw [cap] at dc2
        go_wp2_with (first | (with_reducible show wpList _ _ _ ({ dst := _, op := .load 27 _, type := _, pos := _, after := _, guard := _ } :: _) _ _; refine load_H _ rfl rfl _ rfl (by assumption) (by assumption) ?_) | (with_reducible show wpList _ _ _ ({ dst := _, op := .load 30 _, type := _, pos := _, after := _, guard := _ } :: _) _ _; refine load_D _ rfl rfl _ rfl (by assumption) (by assumption) ?_) | fail)
        clear a0c a4d gc b4c dc dc2
        refine (G0.out _ _ H_h).mono ?_
        rintro e m207 ⟨vo, rfl, hO, hb⟩
        have X_h := whole_b hb X_h
        have X_d := whole_b hb X_d
        have H_h := hostIn_below H_h hb
        have D_d := datC_below D_d hb
        have B := below_b hb B
        have H_x := hostIn_below H_x hb
        have E_y := datIn_below E_y hb
        have X_x := whole_b hb X_x
        have X_y := whole_b hb X_y
        obtain ⟨co, rfl, ro⟩ := hostIn_row (hostOf_in hO)
        have H_o := hostOf_in hO
        clear hO hb
        clear X_x X_y H_x E_y
        go_wp2_with (first | (with_reducible show wpList _ _ _ ({ dst := _, op := .load 27 _, type := _, pos := _, after := _, guard := _ } :: _) _ _; refine load_H _ rfl rfl _ rfl (by assumption) (by assumption) ?_) | (with_reducible show wpList _ _ _ ({ dst := _, op := .load 30 _, type := _, pos := _, after := _, guard := _ } :: _) _ _; refine load_D _ rfl rfl _ rfl (by assumption) (by assumption) ?_) | (with_reducible show wpList _ _ _ ({ dst := _, op := .store 27 _ _, type := _, pos := _, after := _, guard := _ } :: _) _ _; refine store_H _ _ rfl rfl _ _ rfl rfl (by assumption) rfl ?_; intro m208 X_o BM; have X_h := whole_b BM X_h; have X_d := whole_b BM X_d; have H_h := hostIn_below H_h BM; have D_d := datC_below D_d BM; have B := below_b BM B; have H_o := hostIn_below H_o BM; clear BM) | fail)
        refine (I0.out _ _ _ H_o D_d.1).mono ?_
        rintro e m209 ⟨v9, x9, rfl, hT, hD, -, hb⟩
        have X_h := whole_b hb X_h
        have X_d := whole_b hb X_d
        have H_h := hostIn_below H_h hb
        have D_d := datC_below D_d hb
        have B := below_b hb B
        have H_o := hostIn_below H_o hb
        have X_o := whole_b hb X_o
        obtain ⟨ca, rfl, ra⟩ := hostIn_row (hostT_in hT)
        obtain ⟨cb, rfl, rb⟩ := datIn_row (datOf_in hD)
        have H_a := hostT_in hT
        have E_b := datOf_in hD
        clear hT hD hb
        go_wp2_with (first | (with_reducible show wpList _ _ _ ({ dst := _, op := .load 27 _, type := _, pos := _, after := _, guard := _ } :: _) _ _; refine load_H _ rfl rfl _ rfl (by assumption) (by assumption) ?_) | (with_reducible show wpList _ _ _ ({ dst := _, op := .load 30 _, type := _, pos := _, after := _, guard := _ } :: _) _ _; refine load_D _ rfl rfl _ rfl (by assumption) (by assumption) ?_) | (with_reducible show wpList _ _ _ ({ dst := _, op := .store 27 _ _, type := _, pos := _, after := _, guard := _ } :: { dst := _, op := .store 30 _ _, type := _, pos := _, after := _, guard := _ } :: _) _ _; refine store_HD _ _ _ _ rfl rfl rfl rfl _ _ _ _ rfl rfl rfl rfl (by assumption) (by assumption) rfl rfl ?_; intro m210 X_a X_b BM; have X_h := whole_b BM X_h; have X_d := whole_b BM X_d; have H_h := hostIn_below H_h BM; have D_d := datC_below D_d BM; have B := below_b BM B; have H_o := hostIn_below H_o BM; have X_o := whole_b BM X_o; have H_a := hostIn_below H_a BM; have E_b := datIn_below E_b BM; clear BM) | fail)
        refine (G1.out _ _ H_o).mono ?_
        rintro e m211 ⟨vn, rfl, hO, hb⟩
        have X_h := whole_b hb X_h
        have X_d := whole_b hb X_d
        have H_h := hostIn_below H_h hb
        have D_d := datC_below D_d hb
        have B := below_b hb B
        have H_o := hostIn_below H_o hb
        have X_o := whole_b hb X_o
        have H_a := hostIn_below H_a hb
        have E_b := datIn_below E_b hb
        have X_a := whole_b hb X_a
        have X_b := whole_b hb X_b
        obtain ⟨cn, rfl, rn⟩ := hostIn_row (hostOf_in hO)
        have H_n := hostOf_in hO
        clear hO hb
        clear X_a X_b H_a E_b X_o H_o
        go_wp2_with (first | (with_reducible show wpList _ _ _ ({ dst := _, op := .load 27 _, type := _, pos := _, after := _, guard := _ } :: _) _ _; refine load_H _ rfl rfl _ rfl (by assumption) (by assumption) ?_) | (with_reducible show wpList _ _ _ ({ dst := _, op := .load 30 _, type := _, pos := _, after := _, guard := _ } :: _) _ _; refine load_D _ rfl rfl _ rfl (by assumption) (by assumption) ?_) | (with_reducible show wpList _ _ _ ({ dst := _, op := .store 27 _ _, type := _, pos := _, after := _, guard := _ } :: _) _ _; refine store_H _ _ rfl rfl _ _ rfl rfl (by assumption) rfl ?_; intro m212 X_n BM; have X_h := whole_b BM X_h; have X_d := whole_b BM X_d; have H_h := hostIn_below H_h BM; have D_d := datC_below D_d BM; have B := below_b BM B; have H_n := hostIn_below H_n BM; clear BM) | fail)
        refine (I1.out _ _ _ H_n D_d.1).mono ?_
        rintro e m213 ⟨v8, x8, rfl, hT, hD, -, hb⟩
        have X_h := whole_b hb X_h
        have X_d := whole_b hb X_d
        have H_h := hostIn_below H_h hb
        have D_d := datC_below D_d hb
        have B := below_b hb B
        have H_n := hostIn_below H_n hb
        have X_n := whole_b hb X_n
        obtain ⟨cc, rfl, rc⟩ := hostIn_row (hostT_in hT)
        obtain ⟨cf, rfl, rf⟩ := datIn_row (datOf_in hD)
        have H_c := hostT_in hT
        have E_f := datOf_in hD
        clear hT hD hb
        go_wp2_with (first | (with_reducible show wpList _ _ _ ({ dst := _, op := .load 27 _, type := _, pos := _, after := _, guard := _ } :: _) _ _; refine load_H _ rfl rfl _ rfl (by assumption) (by assumption) ?_) | (with_reducible show wpList _ _ _ ({ dst := _, op := .load 30 _, type := _, pos := _, after := _, guard := _ } :: _) _ _; refine load_D _ rfl rfl _ rfl (by assumption) (by assumption) ?_) | (with_reducible show wpList _ _ _ ({ dst := _, op := .store 27 _ _, type := _, pos := _, after := _, guard := _ } :: { dst := _, op := .store 30 _ _, type := _, pos := _, after := _, guard := _ } :: _) _ _; refine store_HD _ _ _ _ rfl rfl rfl rfl _ _ _ _ rfl rfl rfl rfl (by assumption) (by assumption) rfl rfl ?_; intro m214 X_c X_f BM; have X_h := whole_b BM X_h; have X_d := whole_b BM X_d; have H_h := hostIn_below H_h BM; have D_d := datC_below D_d BM; have B := below_b BM B; have H_n := hostIn_below H_n BM; have X_n := whole_b BM X_n; have H_c := hostIn_below H_c BM; have E_f := datIn_below E_f BM; clear BM) | fail)
        go_roundw
        case rel => exact ⟨k + 1, by omega, by go_num, X_h, X_d, H_h, D_d, B⟩
        case measure => simp [intOf]; omega
      · obtain rfl := c6 t0
        have tz : (th == 0) = false := by rw [beq_eq_false_iff_ne]; exact t0
        have tz2 : (th != 0) = true := by rw [bne_iff_ne]; exact t0
        have th1 : (th == -100) = false := by rw [beq_eq_false_iff_ne]; exact tn
        clear c5 c6
        go_wp2_with (first | (with_reducible show wpList _ _ _ ({ dst := _, op := .load 27 _, type := _, pos := _, after := _, guard := _ } :: _) _ _; refine load_H _ rfl rfl _ rfl (by assumption) (by assumption) ?_) | (with_reducible show wpList _ _ _ ({ dst := _, op := .load 30 _, type := _, pos := _, after := _, guard := _ } :: _) _ _; refine load_D _ rfl rfl _ rfl (by assumption) (by assumption) ?_) | fail)
        refine (IH.out _ _ _ H_h D_d.1).mono ?_
        rintro e m301 ⟨vx, xx, rfl, hT, hD, -, hb⟩
        have X_h := whole_b hb X_h
        have X_d := whole_b hb X_d
        have H_h := hostIn_below H_h hb
        have D_d := datC_below D_d hb
        have B := below_b hb B
        obtain ⟨cx, rfl, rx⟩ := hostIn_row (hostT_in hT)
        obtain ⟨cy, rfl, ry⟩ := datIn_row (datOf_in hD)
        have H_x := hostT_in hT
        have E_y := datOf_in hD
        clear hT hD hb
        go_wp2_with (first | (with_reducible show wpList _ _ _ ({ dst := _, op := .load 27 _, type := _, pos := _, after := _, guard := _ } :: _) _ _; refine load_H _ rfl rfl _ rfl (by assumption) (by assumption) ?_) | (with_reducible show wpList _ _ _ ({ dst := _, op := .load 30 _, type := _, pos := _, after := _, guard := _ } :: _) _ _; refine load_D _ rfl rfl _ rfl (by assumption) (by assumption) ?_) | (with_reducible show wpList _ _ _ ({ dst := _, op := .store 27 _ _, type := _, pos := _, after := _, guard := _ } :: { dst := _, op := .store 30 _ _, type := _, pos := _, after := _, guard := _ } :: _) _ _; refine store_HD _ _ _ _ rfl rfl rfl rfl _ _ _ _ rfl rfl rfl rfl (by assumption) (by assumption) rfl rfl ?_; intro m302 X_x X_y BM; have X_h := whole_b BM X_h; have X_d := whole_b BM X_d; have H_h := hostIn_below H_h BM; have D_d := datC_below D_d BM; have B := below_b BM B; have H_x := hostIn_below H_x BM; have E_y := datIn_below E_y BM; clear BM) | fail)
        refine (SH.out _ _ _ H_h D_d).mono ?_
        rintro e m303 ⟨vw, xw, rfl, hT, hD, -, hb⟩
        have X_h := whole_b hb X_h
        have X_d := whole_b hb X_d
        have H_h := hostIn_below H_h hb
        have D_d := datC_below D_d hb
        have B := below_b hb B
        have H_x := hostIn_below H_x hb
        have E_y := datIn_below E_y hb
        have X_x := whole_b hb X_x
        have X_y := whole_b hb X_y
        obtain ⟨cu, rfl, ru⟩ := hostIn_row (hostT_in hT)
        obtain ⟨cv, rfl, rv⟩ := datIn_row (datOf_in hD)
        have H_u := hostT_in hT
        have E_v := datOf_in hD
        clear hT hD hb
        go_wp2_with (first | (with_reducible show wpList _ _ _ ({ dst := _, op := .load 27 _, type := _, pos := _, after := _, guard := _ } :: _) _ _; refine load_H _ rfl rfl _ rfl (by assumption) (by assumption) ?_) | (with_reducible show wpList _ _ _ ({ dst := _, op := .load 30 _, type := _, pos := _, after := _, guard := _ } :: _) _ _; refine load_D _ rfl rfl _ rfl (by assumption) (by assumption) ?_) | (with_reducible show wpList _ _ _ ({ dst := _, op := .store 27 _ _, type := _, pos := _, after := _, guard := _ } :: { dst := _, op := .store 30 _ _, type := _, pos := _, after := _, guard := _ } :: _) _ _; refine store_HD _ _ _ _ rfl rfl rfl rfl _ _ _ _ rfl rfl rfl rfl (by assumption) (by assumption) rfl rfl ?_; intro m304 X_u X_v BM; have X_h := whole_b BM X_h; have X_d := whole_b BM X_d; have H_h := hostIn_below H_h BM; have D_d := datC_below D_d BM; have B := below_b BM B; have H_x := hostIn_below H_x BM; have E_y := datIn_below E_y BM; have X_x := whole_b BM X_x; have X_y := whole_b BM X_y; have H_u := hostIn_below H_u BM; have E_v := datIn_below E_v BM; clear BM) | fail)
        refine (SS.out _ _ _ H_x H_u).mono ?_
        rintro e m305 ⟨rfl, hb⟩
        have X_h := whole_b hb X_h
        have X_d := whole_b hb X_d
        have H_h := hostIn_below H_h hb
        have D_d := datC_below D_d hb
        have B := below_b hb B
        have H_x := hostIn_below H_x hb
        have E_y := datIn_below E_y hb
        have X_x := whole_b hb X_x
        have X_y := whole_b hb X_y
        have H_u := hostIn_below H_u hb
        have E_v := datIn_below E_v hb
        have X_u := whole_b hb X_u
        have X_v := whole_b hb X_v
        clear hb
        go_wp2_with (first | (with_reducible show wpList _ _ _ ({ dst := _, op := .load 27 _, type := _, pos := _, after := _, guard := _ } :: _) _ _; refine load_H _ rfl rfl _ rfl (by assumption) (by assumption) ?_) | (with_reducible show wpList _ _ _ ({ dst := _, op := .load 30 _, type := _, pos := _, after := _, guard := _ } :: _) _ _; refine load_D _ rfl rfl _ rfl (by assumption) (by assumption) ?_) | fail)
        refine (SD.out _ _ _ E_y E_v).mono ?_
        rintro e m306 ⟨rfl, hb⟩
        have X_h := whole_b hb X_h
        have X_d := whole_b hb X_d
        have H_h := hostIn_below H_h hb
        have D_d := datC_below D_d hb
        have B := below_b hb B
        have H_x := hostIn_below H_x hb
        have E_y := datIn_below E_y hb
        have X_x := whole_b hb X_x
        have X_y := whole_b hb X_y
        have H_u := hostIn_below H_u hb
        have E_v := datIn_below E_v hb
        have X_u := whole_b hb X_u
        have X_v := whole_b hb X_v
        clear hb
        clear X_u X_v H_u E_v
        obtain ⟨ad, z1, p1, p2, p3, p4, ec, gc⟩ := gate_g H_h kg
        rw [gk] at gc
        have X_h5 := X_h
        rw [ec] at X_h5
        clear ec
        obtain ⟨a0c, -, -, -, a4c⟩ := five_cells X_h5
        clear X_h5
        have X_hd := X_h
        clear X_h
        have X_h := X_hd
        clear X_hd
        clear a4c
        go_wp2_with (first | (with_reducible show wpList _ _ _ ({ dst := _, op := .load 27 _, type := _, pos := _, after := _, guard := _ } :: _) _ _; refine load_H _ rfl rfl _ rfl (by assumption) (by assumption) ?_) | (with_reducible show wpList _ _ _ ({ dst := _, op := .load 30 _, type := _, pos := _, after := _, guard := _ } :: _) _ _; refine load_D _ rfl rfl _ rfl (by assumption) (by assumption) ?_) | fail)
        clear a0c gc
        refine (SS.out _ _ _ H_x H_h).mono ?_
        rintro e m307 ⟨rfl, hb⟩
        have X_h := whole_b hb X_h
        have X_d := whole_b hb X_d
        have H_h := hostIn_below H_h hb
        have D_d := datC_below D_d hb
        have B := below_b hb B
        have H_x := hostIn_below H_x hb
        have E_y := datIn_below E_y hb
        have X_x := whole_b hb X_x
        have X_y := whole_b hb X_y
        clear hb
        go_wp2_with (first | (with_reducible show wpList _ _ _ ({ dst := _, op := .load 27 _, type := _, pos := _, after := _, guard := _ } :: _) _ _; refine load_H _ rfl rfl _ rfl (by assumption) (by assumption) ?_) | (with_reducible show wpList _ _ _ ({ dst := _, op := .load 30 _, type := _, pos := _, after := _, guard := _ } :: _) _ _; refine load_D _ rfl rfl _ rfl (by assumption) (by assumption) ?_) | fail)
        refine (G0.out _ _ H_h).mono ?_
        rintro e m308 ⟨vo, rfl, hO, hb⟩
        have X_h := whole_b hb X_h
        have X_d := whole_b hb X_d
        have H_h := hostIn_below H_h hb
        have D_d := datC_below D_d hb
        have B := below_b hb B
        have H_x := hostIn_below H_x hb
        have E_y := datIn_below E_y hb
        have X_x := whole_b hb X_x
        have X_y := whole_b hb X_y
        obtain ⟨co, rfl, ro⟩ := hostIn_row (hostOf_in hO)
        have H_o := hostOf_in hO
        clear hO hb
        clear X_x X_y H_x E_y
        go_wp2_with (first | (with_reducible show wpList _ _ _ ({ dst := _, op := .load 27 _, type := _, pos := _, after := _, guard := _ } :: _) _ _; refine load_H _ rfl rfl _ rfl (by assumption) (by assumption) ?_) | (with_reducible show wpList _ _ _ ({ dst := _, op := .load 30 _, type := _, pos := _, after := _, guard := _ } :: _) _ _; refine load_D _ rfl rfl _ rfl (by assumption) (by assumption) ?_) | (with_reducible show wpList _ _ _ ({ dst := _, op := .store 27 _ _, type := _, pos := _, after := _, guard := _ } :: _) _ _; refine store_H _ _ rfl rfl _ _ rfl rfl (by assumption) rfl ?_; intro m309 X_o BM; have X_h := whole_b BM X_h; have X_d := whole_b BM X_d; have H_h := hostIn_below H_h BM; have D_d := datC_below D_d BM; have B := below_b BM B; have H_o := hostIn_below H_o BM; clear BM) | fail)
        refine (I0.out _ _ _ H_o D_d.1).mono ?_
        rintro e m310 ⟨v9, x9, rfl, hT, hD, -, hb⟩
        have X_h := whole_b hb X_h
        have X_d := whole_b hb X_d
        have H_h := hostIn_below H_h hb
        have D_d := datC_below D_d hb
        have B := below_b hb B
        have H_o := hostIn_below H_o hb
        have X_o := whole_b hb X_o
        obtain ⟨ca, rfl, ra⟩ := hostIn_row (hostT_in hT)
        obtain ⟨cb, rfl, rb⟩ := datIn_row (datOf_in hD)
        have H_a := hostT_in hT
        have E_b := datOf_in hD
        clear hT hD hb
        go_wp2_with (first | (with_reducible show wpList _ _ _ ({ dst := _, op := .load 27 _, type := _, pos := _, after := _, guard := _ } :: _) _ _; refine load_H _ rfl rfl _ rfl (by assumption) (by assumption) ?_) | (with_reducible show wpList _ _ _ ({ dst := _, op := .load 30 _, type := _, pos := _, after := _, guard := _ } :: _) _ _; refine load_D _ rfl rfl _ rfl (by assumption) (by assumption) ?_) | (with_reducible show wpList _ _ _ ({ dst := _, op := .store 27 _ _, type := _, pos := _, after := _, guard := _ } :: { dst := _, op := .store 30 _ _, type := _, pos := _, after := _, guard := _ } :: _) _ _; refine store_HD _ _ _ _ rfl rfl rfl rfl _ _ _ _ rfl rfl rfl rfl (by assumption) (by assumption) rfl rfl ?_; intro m311 X_a X_b BM; have X_h := whole_b BM X_h; have X_d := whole_b BM X_d; have H_h := hostIn_below H_h BM; have D_d := datC_below D_d BM; have B := below_b BM B; have H_o := hostIn_below H_o BM; have X_o := whole_b BM X_o; have H_a := hostIn_below H_a BM; have E_b := datIn_below E_b BM; clear BM) | fail)
        refine (G1.out _ _ H_o).mono ?_
        rintro e m312 ⟨vn, rfl, hO, hb⟩
        have X_h := whole_b hb X_h
        have X_d := whole_b hb X_d
        have H_h := hostIn_below H_h hb
        have D_d := datC_below D_d hb
        have B := below_b hb B
        have H_o := hostIn_below H_o hb
        have X_o := whole_b hb X_o
        have H_a := hostIn_below H_a hb
        have E_b := datIn_below E_b hb
        have X_a := whole_b hb X_a
        have X_b := whole_b hb X_b
        obtain ⟨cn, rfl, rn⟩ := hostIn_row (hostOf_in hO)
        have H_n := hostOf_in hO
        clear hO hb
        clear X_a X_b H_a E_b X_o H_o
        go_wp2_with (first | (with_reducible show wpList _ _ _ ({ dst := _, op := .load 27 _, type := _, pos := _, after := _, guard := _ } :: _) _ _; refine load_H _ rfl rfl _ rfl (by assumption) (by assumption) ?_) | (with_reducible show wpList _ _ _ ({ dst := _, op := .load 30 _, type := _, pos := _, after := _, guard := _ } :: _) _ _; refine load_D _ rfl rfl _ rfl (by assumption) (by assumption) ?_) | (with_reducible show wpList _ _ _ ({ dst := _, op := .store 27 _ _, type := _, pos := _, after := _, guard := _ } :: _) _ _; refine store_H _ _ rfl rfl _ _ rfl rfl (by assumption) rfl ?_; intro m313 X_n BM; have X_h := whole_b BM X_h; have X_d := whole_b BM X_d; have H_h := hostIn_below H_h BM; have D_d := datC_below D_d BM; have B := below_b BM B; have H_n := hostIn_below H_n BM; clear BM) | fail)
        refine (I1.out _ _ _ H_n D_d.1).mono ?_
        rintro e m314 ⟨v8, x8, rfl, hT, hD, -, hb⟩
        have X_h := whole_b hb X_h
        have X_d := whole_b hb X_d
        have H_h := hostIn_below H_h hb
        have D_d := datC_below D_d hb
        have B := below_b hb B
        have H_n := hostIn_below H_n hb
        have X_n := whole_b hb X_n
        obtain ⟨cc, rfl, rc⟩ := hostIn_row (hostT_in hT)
        obtain ⟨cf, rfl, rf⟩ := datIn_row (datOf_in hD)
        have H_c := hostT_in hT
        have E_f := datOf_in hD
        clear hT hD hb
        go_wp2_with (first | (with_reducible show wpList _ _ _ ({ dst := _, op := .load 27 _, type := _, pos := _, after := _, guard := _ } :: _) _ _; refine load_H _ rfl rfl _ rfl (by assumption) (by assumption) ?_) | (with_reducible show wpList _ _ _ ({ dst := _, op := .load 30 _, type := _, pos := _, after := _, guard := _ } :: _) _ _; refine load_D _ rfl rfl _ rfl (by assumption) (by assumption) ?_) | (with_reducible show wpList _ _ _ ({ dst := _, op := .store 27 _ _, type := _, pos := _, after := _, guard := _ } :: { dst := _, op := .store 30 _ _, type := _, pos := _, after := _, guard := _ } :: _) _ _; refine store_HD _ _ _ _ rfl rfl rfl rfl _ _ _ _ rfl rfl rfl rfl (by assumption) (by assumption) rfl rfl ?_; intro m315 X_c X_f BM; have X_h := whole_b BM X_h; have X_d := whole_b BM X_d; have H_h := hostIn_below H_h BM; have D_d := datC_below D_d BM; have B := below_b BM B; have H_n := hostIn_below H_n BM; have X_n := whole_b BM X_n; have H_c := hostIn_below H_c BM; have E_f := datIn_below E_f BM; clear BM) | fail)
        go_roundw
        case rel => exact ⟨k + 1, by omega, by go_num, X_h, X_d, H_h, D_d, B⟩
        case measure => simp [intOf]; omega
    · obtain rfl : k = 4 := by omega
      clear hlt hk
      go_wp2_with fail
      refine (cellDrawn_any _ _ _ _ _ (brow_below W1.out B) (by omega)).mono ?_
      rintro e m400 ⟨n, hn, rfl, hb⟩
      have X_h := whole_b hb X_h
      have H_h := hostIn_below H_h hb
      have B := below_b hb B
      clear hb
      have AA : Hid (∀ v W, HostIn W v h → Calls Try.prog 17 #[v, .int .i64 n] W (HResOf W ({ h with n := h.n ++ [n] }, 0))) := Lib.hid fun v W h1 => by
        have q := iAnswer_any v h n W h1
        unfold hAnswer at q
        rw [hOK_true hh, if_pos rfl, if_pos (cellB_true.2 hn), if_neg (by omega)] at q; exact q
      generalize hp : ({ h with n := h.n ++ [n] } : Ht) = p at *
      have pn : p.n = h.n ++ [n] := by rw [← hp]
      clear hp
      go_wp2_with (first | (with_reducible show wpList _ _ _ ({ dst := _, op := .load 27 _, type := _, pos := _, after := _, guard := _ } :: _) _ _; refine load_H _ rfl rfl _ rfl (by assumption) (by assumption) ?_) | (with_reducible show wpList _ _ _ ({ dst := _, op := .load 30 _, type := _, pos := _, after := _, guard := _ } :: _) _ _; refine load_D _ rfl rfl _ rfl (by assumption) (by assumption) ?_) | fail)
      refine (AA.out _ _ H_h).mono ?_
      rintro e m401 ⟨vp, rfl, hO, hb⟩
      have X_h := whole_b hb X_h
      have H_h := hostIn_below H_h hb
      have B := below_b hb B
      obtain ⟨cp, rfl, rp⟩ := hostIn_row (hostOf_in hO)
      have H_p := hostOf_in hO
      clear hO hb
      go_wp2_with (first | (with_reducible show wpList _ _ _ ({ dst := _, op := .load 27 _, type := _, pos := _, after := _, guard := _ } :: _) _ _; refine load_H _ rfl rfl _ rfl (by assumption) (by assumption) ?_) | (with_reducible show wpList _ _ _ ({ dst := _, op := .load 30 _, type := _, pos := _, after := _, guard := _ } :: _) _ _; refine load_D _ rfl rfl _ rfl (by assumption) (by assumption) ?_) | (with_reducible show wpList _ _ _ ({ dst := _, op := .store 27 _ _, type := _, pos := _, after := _, guard := _ } :: _) _ _; refine store_H _ _ rfl rfl _ _ rfl rfl (by assumption) rfl ?_; intro m402 X_p BM; have X_h := whole_b BM X_h; have H_h := hostIn_below H_h BM; have B := below_b BM B; have H_p := hostIn_below H_p BM; clear BM; obtain ⟨s0, s1, s3, s4, A3, z3, eh, -⟩ := gate_n H_h; obtain ⟨q0, q1, q3, q4, A5, z5, ep, nc⟩ := gate_n H_p; have pl : p.n.length = h.n.length + 1 := (by rw [pn]; simp); have X_h5 := X_h; rw [eh] at X_h5; have X_p5 := X_p; rw [ep] at X_p5; clear eh ep; obtain ⟨a0c, a1c, a2c, a3c, a4c⟩ := five_cells X_h5; obtain ⟨b0c, b1c, b2c, b3c, b4c⟩ := five_cells X_p5; obtain ⟨ae, hA, nc2⟩ := nc h.n.length (by omega); subst hA; have nv : p.n[h.n.length]'(by omega) = n := (by simp [pn]); rw [nv] at nc2; have lw : IntKind.i64.wrap ((h.n.length : Int) + 1) = (h.n.length : Int) + 1 := IntWalk.i64_in _ (by omega); have le : ((p.n.length : Int) == (h.n.length : Int) + 1) = true := (by rw [pl]; simp); have li : (h.n.length : Int) < (p.n.length : Int) := (by omega); have li0 : (0 : Int) ≤ (h.n.length : Int) := (by omega)) | fail)
      go_ret
      exact ⟨by first | rfl | simp, B⟩

set_option maxRecDepth 100000 in
theorem lifted (os : Os) (started : os.Started) (H : Type) (enc : TypeId × Value → H) :
    ReturnsInHanded {} Try.checked os 3 .any (Rows.fnGateSpec.pre6 enc Try.prog Try.f3 Rows.fnGateRow.domain false) (Rows.fnGateSpec.post enc Try.prog Try.f3 false true false false) := by
  refine returnsInHanded_of_change (C := Try.checked) own started (by kernel_rfl) Try.func3
    (ChangeSpec.witness6 (enc := enc) (C := Try.checked) false ⟨#[], #[.slice none 0 0, .slice none 0 0], []⟩ 8 (by kernel_rfl) (by kernel_rfl) (by kernel_rfl) (by kernel_rfl)) ?_
  intro W base args ds gs before hval0 hW hcnd _
  have hval : ∀ (j : Nat) t v, Try.f3.params[j]? = some t → args[j]? = some v → Value.okWide Try.prog W .any base t v := hval0
  have hW' := hW
  obtain ⟨p, q, hA0, hV, rfl, hfz, hnd⟩ := hW
  have hA : DataW.TrodAll enc Try.prog W 0 (fun _ => true) true Try.f3.params.toList args.toList ds p := hA0
  rw [Try.params3] at hA hval
  obtain ⟨v0, vs0, d0, ds0, p0, q0, hargs, rfl, rfl, h0, r0⟩ := trodAll_cons hA
  obtain ⟨v1, vs1, d1, ds1, p1, q1, rfl, rfl, rfl, h1, r1⟩ := trodAll_cons r0
  obtain ⟨rfl, rfl, rfl⟩ := trodAll_nil r1
  obtain rfl : args = #[v0, v1] := by cases args; simp_all
  obtain ⟨rfl, rfl⟩ := trodVars_none hV
  obtain ⟨a0, len0, cap0, rfl⟩ := okWide_slice Try.underlying22 (hval 0 22 v0 rfl rfl)
  have k0 := h0
  have lt0 : ∀ x ∈ p0, x.block < W.heap.size := by obtain ⟨m, hm⟩ := k0; exact DataW.trod_lt m _ _ _ hm
  obtain ⟨z0, w0⟩ : ∃ zs, BRow W a0 len0 cap0 zs := by
    obtain ⟨fuel, hf⟩ := h0
    rcases open_ints Try.underlying22 Try.underlying5 (by kernel_rfl) hf with ⟨hcs, _⟩ | ⟨x, l, c, zs, hcs, _, hl, hm, hz, _, hcell, hwz⟩
    · simp [Value.cells] at hcs
      obtain ⟨rfl, rfl, rfl⟩ := hcs
      exact ⟨[], .inl ⟨rfl, rfl, rfl, rfl⟩⟩
    · simp [Value.cells] at hcs
      obtain ⟨rfl, rfl, rfl⟩ := hcs
      exact ⟨zs, .inr ⟨_, rfl, hl, hm, by simpa using hz, hcell, hwz⟩⟩
  obtain ⟨a1, len1, cap1, rfl⟩ := okWide_slice Try.underlying22 (hval 1 22 v1 rfl rfl)
  have k1 := h1
  have lt1 : ∀ x ∈ p1, x.block < W.heap.size := by obtain ⟨m, hm⟩ := k1; exact DataW.trod_lt m _ _ _ hm
  obtain ⟨z1, w1⟩ : ∃ zs, BRow W a1 len1 cap1 zs := by
    obtain ⟨fuel, hf⟩ := h1
    rcases open_ints Try.underlying22 Try.underlying5 (by kernel_rfl) hf with ⟨hcs, _⟩ | ⟨x, l, c, zs, hcs, _, hl, hm, hz, _, hcell, hwz⟩
    · simp [Value.cells] at hcs
      obtain ⟨rfl, rfl, rfl⟩ := hcs
      exact ⟨[], .inl ⟨rfl, rfl, rfl, rfl⟩⟩
    · simp [Value.cells] at hcs
      obtain ⟨rfl, rfl, rfl⟩ := hcs
      exact ⟨zs, .inr ⟨_, rfl, hl, hm, by simpa using hz, hcell, hwz⟩⟩
  clear hA0 hval0
  refine (walk a0 len0 cap0 z0 a1 len1 cap1 z1 W w0 w1).mono fun e W' ⟨he, bel⟩ => ?_
  subst he
  exact ⟨_, rfl, _, _, _, [], _, [], hW', trodAll_mk1 (shut_bool Try.underlying4 _), (trodAll_cons_mk (Below.trod laidOut (by kernel_rfl) (of_decide_eq_true (by kernel_rfl)) k0 bel lt0) (trodAll_cons_mk (Below.trod laidOut (by kernel_rfl) (of_decide_eq_true (by kernel_rfl)) k1 bel lt1) trodAll_mk0)), rfl, bel.frame _, fun h => by cases h⟩

theorem over : Rows.fnGateRow.holds Try.pinned (OpenSpec.ofChange Rows.fnGateSpec) :=
  OpenClaim.holds_of_wide 3 Try.f3 rfl rfl rfl rfl rfl rfl rfl ⟨rfl, rfl, rfl, rfl, rfl⟩ rfl rfl rfl rfl rfl (by kernel_rfl) Try.func3 (by kernel_rfl)
    (of_decide_eq_true (by kernel_rfl)) (by unfold Func.isWrapper; first | (rw [if_pos (by decide +kernel)]; kernel_rfl) | (rw [if_neg (by decide +kernel)]; exact ⟨rfl, rfl⟩))
    (fun os started H enc _ => lifted os started H enc)

/-- The statement. -/
theorem proved : Rows.FnGateSaid := over
#print axioms proved
end Go.Proofs.Ytkcogfgjabemfaa.fnGate
