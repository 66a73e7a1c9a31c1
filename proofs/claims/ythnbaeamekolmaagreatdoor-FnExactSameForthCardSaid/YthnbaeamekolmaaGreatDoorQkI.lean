/- QkI: several of my texts, laid together: SlI, FoD, FoE, FoS, FoT. -/
import Derived.Test.YthnbaeamekolmaaGreatDoorQkC
import Derived.Test.YthnbaeamekolmaaGreatDoorOwnA
import Derived.BigQuiet
import Derived.Test.YthnbaeamekolmaaGreatDoorQkF
import Derived.Test.YthnbaeamekolmaaGreatDoorUpC
import Derived.Test.YthnbaeamekolmaaGreatDoorQkE
import Derived.Test.YthnbaeamekolmaaGreatDoorMkC
import Derived.Test.YthnbaeamekolmaaGreatDoorUpB
import Derived.Test.YthnbaeamekolmaaGreatDoorQkA
import Derived.Test.YthnbaeamekolmaaGreatDoorQkG
namespace Go.Proofs.YthnbaeamekolmaaGreatDoor
open Go.RowKit
set_option linter.unusedVariables false
set_option linter.unusedSimpArgs false

/-- What a comparison leaves. -/
def SamT (P : Prop) (w : World) (e : Ending) (w' : World) : Prop := ∃ t : Bool, e = .returned (.bool t) ∧ (t = true ↔ P) ∧ Below w.heap.size w w'

theorem samT_no {P : Prop} {w w' : World} (h : ¬ P) (hb : Below w.heap.size w w') : SamT P w (.returned (.bool false)) w' := ⟨false, rfl, by simp [h], hb⟩

theorem samT_yes {P : Prop} {w w' : World} (h : P) (hb : Below w.heap.size w w') : SamT P w (.returned (.bool true)) w' := ⟨true, rfl, by simp [h], hb⟩

set_option maxRecDepth 100000 in
set_option maxHeartbeats 2000000 in
theorem slEqualI_any (u v : Value) (P Q : List It) (w : World) (hu : Its w u P) (hv : Its w v Q) :
    Calls Tryz.prog 55 #[u, v] w (SamT (P = Q) w) := by
  obtain ⟨pm, A, ca, rfl, ha⟩ := hu
  obtain ⟨qm, B, cb, rfl, hb⟩ := hv
  unfold maxLen at pm qm
  by_cases hl : P.length = Q.length
  · have z0 : ((P.length : Int) != (Q.length : Int)) = false := by simp [hl]
    have LE := Lib.hid hl
    have hlq : P.length ≤ Q.length := by omega
    have HA := Lib.hid ha
    have HB := Lib.hid hb
    clear hl ha hb
    go_enter Tryz.func55, Tryz.ntmps55
    go_wp2
    clear z0
    go_loopw [5, 13] (fun _ i wr => ∃ k n : Nat, k ≤ P.length ∧ i = .int .i64 k ∧ P.take k = Q.take k ∧ wr = w.drewN n) (fun _ i _ => P.length - (intOf i).toNat)
    case atStart => exact ⟨0, 0, Nat.zero_le _, rfl, by simp, rfl⟩
    case round =>
      obtain ⟨k, n, hk, rfl, hat, rfl⟩ := hrel
      have AT := Lib.hid hat
      clear hat
      by_cases hlt : k < P.length
      · have hlt2 : k < Q.length := by omega
        obtain ⟨ga, rfl, hca2⟩ := HA.out (by omega)
        obtain ⟨gb, rfl, hcb2⟩ := HB.out (by omega)
        have ka := hca2 k hlt
        have kb := hcb2 k hlt2
        clear hca2 hcb2
        by_cases e : P[k] = Q[k]
        · have NX : Hid (P.take (k + 1) = Q.take (k + 1)) := Lib.hid (by rw [List.take_succ_eq_append_getElem hlt, List.take_succ_eq_append_getElem hlt2, AT.out, e])
          rw [← e] at kb
          clear e
          generalize P[k] = x at *
          obtain ⟨a0, a1⟩ := ka
          obtain ⟨b0, b1⟩ := kb
          have t0 : (x.k == x.k) = true := by simp
          have t1 : (x.v == x.v) = true := by simp
          go_wp2
          go_quiet (fail)
          go_wp2
          go_roundw
          case rel => exact ⟨k + 1, _, by omega, by go_num, NX.out, by first | rfl | (rw [World.drewN_drewN])⟩
          case measure => simp [intOf]; omega
        · have NO : Hid (¬ P = Q) := Lib.hid (fun h => e (by subst h; rfl))
          have hne : P[k].k ≠ Q[k].k ∨ (P[k].k = Q[k].k ∧ P[k].v ≠ Q[k].v) := by
            by_cases q : P[k].k = Q[k].k
            · refine .inr ⟨q, fun q2 => e ?_⟩
              cases hx : P[k]; cases hy : Q[k]
              rw [hx, hy] at q q2
              simp at q q2
              rw [q, q2]
            · exact .inl q
          clear e
          generalize P[k] = x at *
          generalize Q[k] = y at *
          obtain ⟨a0, a1⟩ := ka
          obtain ⟨b0, b1⟩ := kb
          rcases hne with q0 | ⟨q0, q1⟩
          · have t0 : (x.k == y.k) = false := by rw [beq_eq_false_iff_ne]; exact q0
            clear q0
            go_wp2
            go_quiet (fail)
            go_wp2
            go_ret
            exact samT_no NO.out (below_draws (below_draws (Below.refl _ _) _) _)
          · have t0 : (x.k == y.k) = true := by rw [beq_iff_eq]; exact q0
            have t1 : (x.v == y.v) = false := by rw [beq_eq_false_iff_ne]; exact q1
            clear q0 q1
            go_wp2
            go_quiet (fail)
            go_wp2
            go_ret
            exact samT_no NO.out (below_draws (below_draws (Below.refl _ _) _) _)
      · obtain rfl : k = P.length := by omega
        have YES : Hid (P = Q) := Lib.hid (by have h := AT.out; rwa [List.take_length, LE.out, List.take_length] at h)
        clear hlt
        go_wp2
        go_ret
        exact samT_yes YES.out (below_draws (Below.refl _ _) _)
  · have z0 : ((P.length : Int) != (Q.length : Int)) = true := by simp; omega
    have NO : Hid (¬ P = Q) := Lib.hid (fun h => hl (by rw [h]))
    clear hl ha hb
    go_enter Tryz.func55, Tryz.ntmps55
    go_wp2
    go_ret
    exact samT_no NO.out (Below.refl _ _)

end Go.Proofs.YthnbaeamekolmaaGreatDoor

namespace Go.Proofs.YthnbaeamekolmaaGreatDoor
open Go.RowKit
set_option linter.unusedVariables false
set_option linter.unusedSimpArgs false

set_option maxRecDepth 100000 in
set_option maxHeartbeats 1000000 in
theorem allFit_any (v : Value) (Q : List It) (w : World) (hv : Its w v Q) (ha : askI Q = 0) :
    Calls Tryz.prog 46 #[v] w fun e w' => e = .returned (.bool (decide ((goO Q []).1 = Q.length))) ∧ Below w.heap.size w w' := by
  obtain ⟨hl, hq⟩ := askI_ok ha
  have C := Lib.hid (openStructs_any v Q w hv hl hq)
  obtain ⟨_, A, ca, rfl, _⟩ := hv
  clear hq
  obtain ⟨p, hp⟩ : ∃ p, goO Q [] = p := ⟨_, rfl⟩
  rw [hp] at C ⊢
  have hp1 : p.1 ≤ 60 := by rw [← hp]; have := goO_le Q []; omega
  clear hp ha
  have t : ((p.1 : Int) == (Q.length : Int)) = decide (p.1 = Q.length) := by
    by_cases h : p.1 = Q.length
    · rw [decide_eq_true h, h]; simp
    · rw [decide_eq_false h, beq_eq_false_iff_ne]; omega
  go_enter Tryz.func46, Tryz.ntmps46
  go_wp2_with fail
  refine C.out.mono ?_
  rintro e w1 ⟨u, rfl, hr, hb⟩
  clear hr
  go_wp2
  go_ret
  exact ⟨rfl, hb⟩

set_option maxRecDepth 100000 in
set_option maxHeartbeats 1000000 in
theorem tokens_any (u v : Value) (W : List Wd) (Q : List It) (w : World) (hu : Wds w u W) (hv : Its w v Q) :
    Calls Tryz.prog 47 #[u, v] w (BIff w (ToksP W Q)) := by
  have HU := Lib.hid hu
  have HV := Lib.hid hv
  have T : Hid (∀ W' n, Below w.heap.size w W' → Calls Tryz.prog 90 #[u, .int .i64 n] W' fun e w' => e = .returned (.bool (tokB W n)) ∧ W' = w') := Lib.hid fun W' n hb => iToken_any u W n W' (wds_below HU.out hb)
  obtain ⟨A, ca, rfl, -, -, -⟩ := wds_form hu
  obtain ⟨hl, B, cb, rfl, _⟩ := hv
  unfold maxLen at hl
  go_enter Tryz.func47, Tryz.ntmps47
  go_wp2
  go_loopw [9] (fun i wr => ∃ k : Nat, k ≤ Q.length ∧ i = .int .i64 k ∧ ToksTo W Q k ∧ Below w.heap.size w wr) (fun i _ => Q.length - (intOf i).toNat)
  case atStart => exact ⟨0, Nat.zero_le _, rfl, toks_start W Q, Below.refl _ _⟩
  case round =>
    obtain ⟨k, hk, rfl, ht, hb⟩ := hrel
    have HT := Lib.hid ht
    have HB := Lib.hid hb
    clear ht hb
    by_cases hlt : k < Q.length
    · obtain ⟨_, B', cb', e', hc⟩ := its_below HV.out HB.out
      simp only [Value.slice.injEq, true_and] at e'
      obtain ⟨rfl, rfl⟩ := e'
      obtain ⟨gb, rfl, hd⟩ := hc (by omega)
      obtain ⟨c0, c1⟩ := hd k hlt
      clear hd hc
      by_cases h1 : Q[k].k = 1
      · cases h2 : tokB W Q[k].v
        · have NO := Lib.hid (toks_not hlt h1 h2)
          have T' := Lib.hid (fun W' n hb => T.out W' n hb)
          generalize Q[k] = x at *
          rw [h1] at c0
          have TX : Hid (∀ W', Below w.heap.size w W' → Calls Tryz.prog 90 #[.slice A W.length ca, .int .i64 x.v] W' fun e w' => e = .returned (.bool false) ∧ W' = w') := Lib.hid fun W' hb => by rw [← h2]; exact T.out W' x.v hb
          clear h1 h2 T T'
          go_wp2_with fail
          refine (TX.out _ (by repeat (first | with_reducible exact HB.out | with_reducible refine below_alloc ?_ _ | with_reducible refine Below.setCell ?_ (by simp; have := HB.out.size; omega) _))).mono ?_
          rintro e w2 ⟨rfl, rfl⟩
          go_wp2
          go_ret
          exact biff_no NO.out (by repeat (first | with_reducible exact HB.out | with_reducible refine below_alloc ?_ _ | with_reducible refine Below.setCell ?_ (by simp; have := HB.out.size; omega) _))
        · have NX := Lib.hid (toks_next HT.out hlt (fun _ => h2))
          generalize Q[k] = x at *
          rw [h1] at c0
          have TX : Hid (∀ W', Below w.heap.size w W' → Calls Tryz.prog 90 #[.slice A W.length ca, .int .i64 x.v] W' fun e w' => e = .returned (.bool true) ∧ W' = w') := Lib.hid fun W' hb => by rw [← h2]; exact T.out W' x.v hb
          clear h1 h2 T
          go_wp2_with fail
          refine (TX.out _ (by repeat (first | with_reducible exact HB.out | with_reducible refine below_alloc ?_ _ | with_reducible refine Below.setCell ?_ (by simp; have := HB.out.size; omega) _))).mono ?_
          rintro e w2 ⟨rfl, rfl⟩
          go_wp2
          go_roundw
          case rel => exact ⟨k + 1, by omega, by go_num, NX.out, by repeat (first | with_reducible exact HB.out | with_reducible refine below_alloc ?_ _ | with_reducible refine Below.setCell ?_ (by simp; have := HB.out.size; omega) _)⟩
          case measure => simp [intOf]; omega
      · have NX := Lib.hid (toks_next HT.out hlt (fun h => absurd h h1))
        generalize Q[k] = x at *
        have t1 : (x.k == 1) = false := by rw [beq_eq_false_iff_ne]; exact h1
        clear h1 T
        go_wp2
        go_roundw
        case rel => exact ⟨k + 1, by omega, by go_num, NX.out, by repeat (first | with_reducible exact HB.out | with_reducible refine below_alloc ?_ _ | with_reducible refine Below.setCell ?_ (by simp; have := HB.out.size; omega) _)⟩
        case measure => simp [intOf]; omega
    · obtain rfl : k = Q.length := by omega
      have YES := Lib.hid (toks_end HT.out)
      clear hlt
      go_wp2
      go_ret
      exact biff_yes YES.out HB.out

set_option maxRecDepth 100000 in
set_option maxHeartbeats 4000000 in
theorem iForthOK_any (v : Value) (F : Fo) (w : World) (hv : FoIn w v F) (ht : Tabs w) :
    Calls Tryz.prog 12 #[v] w (BIff w (FoP F)) := by
  obtain ⟨fs, cs, A1, k1, A2, k2, A0, c0, A9, c9, rfl, h⟩ := hv
  have H := Lib.hid h
  have HT := Lib.hid ht
  have h6 := h.row.row
  have hh := h.row
  obtain ⟨Ac, kc, hc13⟩ := mchIn_calls h.mach.all
  have V0 := whole_new w 50 fs
  have G0 := f20_range V0 h.row
  have B0 : Hid (Below w.heap.size w (w.alloc (.cells fs 50))) := Lib.hid (below_alloc (Below.refl _ _) _)
  have d13 : (w.alloc (.cells fs 50)).cell? ⟨w.heap.size, 13, none⟩ = some (.slice Ac F.m.c.length kc) := by rw [whole_cell V0, f20_low h.row 13 (by omega)]; exact hc13
  obtain ⟨d16, d17, d18, d19⟩ := f20_cells V0 h.row
  clear h ht hc13 hh d17 d18 d19
  by_cases h0 : F.m.c.length = 0
  rotate_left
  · have NO : Hid (¬ FoP F) := Lib.hid fun h => h0 h.1
    have t0 : (0 : Int) < (F.m.c.length : Int) := by omega
    clear h0 d16 G0 h6
    generalize F.m.c.length = z at *
    go_enter Tryz.func12, Tryz.ntmps12
    go_wp2
    go_ret
    exact biff_no NO.out B0.out
  rw [h0] at d13
  have H0 := Lib.hid h0
  clear h0
  go_enter Tryz.func12, Tryz.ntmps12
  go_wp2_with (first | (refine wpList_load_mF rfl _ rfl _ rfl (by assumption) (by assumption) ?_) | (refine wpList_load_mFw (by rfl) _ rfl _ rfl (by assumption) (by assumption) ?_) | fail)
  refine (iDefsOK_any cs F.m A1 k1 A2 k2 F.l A0 F.l.length c0 _ (mrow_below H.out.mach B0.out) (dfs_below H.out.defs B0.out) H.out.room (tabs_below HT.out B0.out)).mono ?_
  rintro e w1 ⟨r, hr, rfl, hb⟩
  have B1 := Lib.hid (below_step B0.out hb)
  have V1 := whole_b hb V0
  clear hb V0 G0 B0 d13 d16
  cases r
  · have NO : Hid (¬ FoP F) := Lib.hid fun h => by
      have := hr.2 ⟨h.2.1.1, (specD_iff (mok_parts h.2.1.1).1 F.l).2 h.2.1.2⟩
      cases this
    clear hr
    go_wp2
    go_ret
    exact biff_no NO.out B1.out
  have PI : Hid (FoP F ↔ StateP F) := Lib.hid (foP_iff H0.out (by have h := hr.1 rfl; exact ⟨h.1, (specD_iff (mok_parts h.1).1 F.l).1 h.2⟩))
  clear hr
  obtain ⟨-, d17, d18, d19⟩ := f20_cells V1 H.out.row
  have d0 : w1.cell? ⟨w.heap.size, 0, none⟩ = some (.slice A1 F.m.w.length k1) := by rw [whole_cell V1, f20_low H.out.row 0 (by omega)]; exact H.out.mach.c0
  have z1 := whole_lt V1
  cases hc : F.c
  · rw [hc] at d17
    have ST : Hid (FoP F ↔ F.n = ⟨#[]⟩ ∧ F.q = []) := Lib.hid (PI.out.trans (state_shut hc))
    clear PI hc d0
    by_cases hn : F.n = ⟨#[]⟩
    · rw [hn] at d18
      have tn : ((⟨#[]⟩ : ByteArray).toList == (⟨#[]⟩ : ByteArray).toList) = true := by simp
      by_cases hq : F.q.length = 0
      · rw [hq] at d19
        have YES : Hid (FoP F) := Lib.hid (ST.out.2 ⟨hn, List.eq_nil_of_length_eq_zero hq⟩)
        clear ST hn hq
        go_wp2
        go_ret
        exact biff_yes YES.out B1.out
      · have NO : Hid (¬ FoP F) := Lib.hid fun h => hq (by rw [(ST.out.1 h).2]; rfl)
        have tq : ((F.q.length : Int) == 0) = false := by rw [beq_eq_false_iff_ne]; omega
        clear ST hn hq
        generalize F.q.length = z at *
        go_wp2
        go_ret
        exact biff_no NO.out B1.out
    · have NO : Hid (¬ FoP F) := Lib.hid fun h => hn (ST.out.1 h).1
      have tn : ¬ F.n.toList = [] := text_some hn
      clear ST hn
      go_wp2
      go_ret
      exact biff_no NO.out B1.out
  rw [hc] at d17
  have ST : Hid (FoP F ↔ OpenP F.m.w F.n F.q) := Lib.hid (PI.out.trans (state_open hc))
  clear PI hc
  go_wp2_with fail
  refine (wordOK_any F.n _ H.out.text).mono ?_
  rintro e w' ⟨rfl, rfl⟩
  cases hw : wordL F.n.data.toList
  · have NO : Hid (¬ FoP F) := Lib.hid fun h => by
      have := (ST.out.1 h).1; rw [hw] at this; cases this
    clear ST hw
    go_wp2
    go_ret
    exact biff_no NO.out B1.out
  have HW := Lib.hid hw
  clear hw
  go_wp2_with fail
  refine (itemsCode_any _ F.q _ (its_below H.out.items B1.out)).mono ?_
  rintro e w2 ⟨rfl, hb⟩
  have B2 := Lib.hid (below_step B1.out hb)
  have V2 := whole_b hb V1
  clear hb V1 B1 z1 d0 d17 d18 d19
  by_cases ha : askI F.q = 0
  rotate_left
  · have NO : Hid (¬ FoP F) := Lib.hid fun h => ha (ST.out.1 h).2.1
    have ta : (askI F.q == 0) = false := by rw [beq_eq_false_iff_ne]; exact ha
    clear ST ha
    generalize askI F.q = z at *
    go_wp2
    go_ret
    exact biff_no NO.out B2.out
  rw [ha]
  have HA := Lib.hid ha
  clear ha
  obtain ⟨-, d17, d18, d19⟩ := f20_cells V2 H.out.row
  have z2 := whole_lt V2
  go_wp2_with fail
  refine (allFit_any _ F.q _ (its_below H.out.items B2.out) HA.out).mono ?_
  rintro e w3 ⟨rfl, hb⟩
  have B3 := Lib.hid (below_step B2.out hb)
  have V3 := whole_b hb V2
  clear hb V2 B2 z2 d17 d18 d19
  by_cases hf : (goO F.q []).1 = F.q.length
  rotate_left
  · have NO : Hid (¬ FoP F) := Lib.hid fun h => hf (ST.out.1 h).2.2.1
    rw [decide_eq_false hf]
    clear ST hf
    go_wp2
    go_ret
    exact biff_no NO.out B3.out
  rw [decide_eq_true hf]
  have HF := Lib.hid hf
  clear hf
  obtain ⟨-, d17, d18, d19⟩ := f20_cells V3 H.out.row
  have d0 : w3.cell? ⟨w.heap.size, 0, none⟩ = some (.slice A1 F.m.w.length k1) := by rw [whole_cell V3, f20_low H.out.row 0 (by omega)]; exact H.out.mach.c0
  have z3 := whole_lt V3
  go_wp2_with fail
  refine (tokens_any _ _ F.m.w F.q _ (wds_below H.out.mach.words B3.out) (its_below H.out.items B3.out)).mono ?_
  rintro e w4 ⟨r, hr, rfl, hb⟩
  have B4 := Lib.hid (below_step B3.out hb)
  clear hb d17 d18 d19 d0
  cases r
  · have NO : Hid (¬ FoP F) := Lib.hid fun h => by
      have := hr.2 (ST.out.1 h).2.2.2; cases this
    clear hr ST
    go_wp2
    go_ret
    exact biff_no NO.out B4.out
  · have YES : Hid (FoP F) := Lib.hid (ST.out.2 ⟨HW.out, HA.out, HF.out, hr.1 rfl⟩)
    clear hr ST
    go_wp2
    go_ret
    exact biff_yes YES.out B4.out

end Go.Proofs.YthnbaeamekolmaaGreatDoor

namespace Go.Proofs.YthnbaeamekolmaaGreatDoor
open Go.RowKit
set_option linter.unusedVariables false
set_option linter.unusedSimpArgs false

set_option maxRecDepth 100000 in
set_option maxHeartbeats 4000000 in
theorem sOpen10_any (fs cs : Array Value) (F : Fo) (A1 : Option Addr) (k1 : Nat) (A2 : Option Addr) (k2 : Nat) (A0 : Option Addr) (c0 : Nat) (A9 : Option Addr) (c9 : Nat) (w : World) (h : FoR w fs cs F A1 k1 A2 k2 A0 c0 A9 c9) :
    Calls Tryz.prog 80 #[.agg fs] w (BIff w (StateP F)) := by
  have H := Lib.hid h
  have V0 := whole_new w 50 fs
  have B0 : Hid (Below w.heap.size w (w.alloc (.cells fs 50))) := Lib.hid (below_alloc (Below.refl _ _) _)
  obtain ⟨-, d17, d18, d19⟩ := f20_cells V0 h.row
  clear h
  cases hc : F.c
  · rw [hc] at d17
    have ST : Hid (StateP F ↔ F.n = ⟨#[]⟩ ∧ F.q = []) := Lib.hid (state_shut hc)
    clear hc
    by_cases hn : F.n = ⟨#[]⟩
    · rw [hn] at d18
      have tn : ((⟨#[]⟩ : ByteArray).toList == (⟨#[]⟩ : ByteArray).toList) = true := by simp
      by_cases hq : F.q.length = 0
      · rw [hq] at d19
        have YES : Hid (StateP F) := Lib.hid (ST.out.2 ⟨hn, List.eq_nil_of_length_eq_zero hq⟩)
        clear ST hn hq
        go_enter Tryz.func80, Tryz.ntmps80
        go_wp2
        go_ret
        exact biff_yes YES.out B0.out
      · have NO : Hid (¬ StateP F) := Lib.hid fun h => hq (by rw [(ST.out.1 h).2]; rfl)
        have tq : ((F.q.length : Int) == 0) = false := by rw [beq_eq_false_iff_ne]; omega
        clear ST hn hq
        generalize F.q.length = z at *
        go_enter Tryz.func80, Tryz.ntmps80
        go_wp2
        go_ret
        exact biff_no NO.out B0.out
    · have NO : Hid (¬ StateP F) := Lib.hid fun h => hn (ST.out.1 h).1
      have tn : ¬ F.n.toList = [] := text_some hn
      clear ST hn
      go_enter Tryz.func80, Tryz.ntmps80
      go_wp2
      go_ret
      exact biff_no NO.out B0.out
  rw [hc] at d17
  have ST : Hid (StateP F ↔ OpenP F.m.w F.n F.q) := Lib.hid (state_open hc)
  clear hc
  go_enter Tryz.func80, Tryz.ntmps80
  go_wp2_with fail
  refine (sWordIn_any F.n _ H.out.text).mono ?_
  rintro e w' ⟨rfl, rfl⟩
  cases hw : wordL F.n.data.toList
  · have NO : Hid (¬ StateP F) := Lib.hid fun h => by
      have := (ST.out.1 h).1; rw [hw] at this; cases this
    clear ST hw
    go_wp2
    go_ret
    exact biff_no NO.out B0.out
  have HW := Lib.hid hw
  clear hw
  go_wp2_with fail
  refine (sAsk_any _ F.q _ (its_below H.out.items B0.out)).mono ?_
  rintro e w1 ⟨rfl, hb⟩
  have B1 := Lib.hid (below_step B0.out hb)
  have V1 := whole_b hb V0
  clear hb V0 B0 d17 d18 d19
  by_cases ha : askI F.q = 0
  rotate_left
  · have NO : Hid (¬ StateP F) := Lib.hid fun h => ha (ST.out.1 h).2.1
    have ta : (askI F.q != 0) = true := by rw [bne_iff_ne]; exact ha
    clear ST ha
    generalize askI F.q = z at *
    go_wp2
    go_ret
    exact biff_no NO.out B1.out
  rw [ha]
  obtain ⟨hl60, hq60⟩ := askI_ok ha
  have HA := Lib.hid ha
  have HQ := Lib.hid hq60
  clear ha hq60
  have R0 : Hid (Row (w1.alloc (.cells #[] 3)) w1.heap.size (.slice (some ⟨w1.heap.size, 0, none⟩) 0 0) []) := Lib.hid (row_fresh w1 (Nat.le_refl _))
  have V2 := Lib.hid (whole_alloc V1 (.cells #[] 3))
  have B2 := Lib.hid (below_alloc B1.out (.cells #[] 3))
  have z1 := B1.out.size
  obtain ⟨-, d17, d18, d19⟩ := f20_cells V2.out H.out.row
  go_wp2
  clear d17 d18 d19 V1 B1
  go_loopw [3, 4] (fun v i wr => ∃ (k : Nat) (o : List Int), k ≤ F.q.length ∧ i = .int .i64 k ∧ Got F.q k o ∧ ToksTo F.m.w F.q k ∧ Row wr w1.heap.size v o ∧ Whole wr w.heap.size 50 fs ∧ Below w.heap.size w wr ∧ w1.heap.size ≤ wr.heap.size) (fun _ i _ => F.q.length - (intOf i).toNat)
  case atStart => exact ⟨0, [], Nat.zero_le _, rfl, got_start F.q, toks_start _ _, R0.out, V2.out, B2.out, by simp⟩
  case round =>
    obtain ⟨k, o, hk, rfl, hg, ht, hm, hv, hb, zr⟩ := hrel
    have HG := Lib.hid hg
    have HT := Lib.hid ht
    have HM := Lib.hid hm
    have HV := Lib.hid hv
    have HB := Lib.hid hb
    have ho : o.length ≤ 60 := by have := got_len hg; omega
    obtain ⟨_, C, c, rfl, _⟩ := row_ints hm
    obtain ⟨-, -, -, d19⟩ := f20_cells hv H.out.row
    have zv := whole_lt hv
    clear hg hb hm ht hv
    by_cases hlt : k < F.q.length
    · obtain ⟨_, A', ca', e', hc⟩ := its_below H.out.items HB.out
      simp only [Value.slice.injEq, true_and] at e'
      obtain ⟨rfl, rfl⟩ := e'
      obtain ⟨ga, rfl, hd⟩ := hc (by omega)
      obtain ⟨e0, e1⟩ := hd k hlt
      have hi := itB_kind (HQ.out F.q[k] (List.getElem_mem hlt))
      clear hd hc
      go_wp2_with fail
      refine (sStep_any _ w1.heap.size _ o F.q[k].k HM.out (by omega) zr hi).mono ?_
      rintro e w2 ⟨u, rfl, hr2, hb2⟩
      have B2' := Lib.hid (below_step HB.out hb2)
      have R2 := Lib.hid hr2
      have V3 := whole_b hb2 HV.out
      have z2 : w1.heap.size ≤ w2.heap.size := Nat.le_trans zr hb2.size
      have e0 := cell_keptI hb2 _ _ e0
      have e1 := cell_keptI hb2 _ _ e1
      clear hb2 hr2 d19 zv
      obtain ⟨-, -, -, d19⟩ := f20_cells V3 H.out.row
      have d0 : w2.cell? ⟨w.heap.size, 0, none⟩ = some (.slice A1 F.m.w.length k1) := by rw [whole_cell V3, f20_low H.out.row 0 (by omega)]; exact H.out.mach.c0
      have zv := whole_lt V3
      cases hf : fitB o F.q[k].k
      · have NO : Hid (¬ StateP F) := Lib.hid fun h => by
          have h1 := (ST.out.1 h).2.2.1
          rw [got_not HG.out hlt hf] at h1
          simp at h1; omega
        clear hf ST
        go_wp2_with fail
        go_quiet (fail)
        go_wp2
        go_ret
        exact biff_no NO.out (below_drewN B2'.out _)
      · have G2 := Lib.hid (got_fit HG.out hlt hf)
        clear hf
        by_cases h1 : F.q[k].k = 1
        · have TK : Hid (∀ n, Calls Tryz.prog 153 #[.slice A1 F.m.w.length k1, .int .i64 F.q[k].v] (w2.drewN n) fun e w' => e = .returned (.bool (tokB F.m.w F.q[k].v)) ∧ w' = w2.drewN n) := Lib.hid fun n => (sToken_any _ F.m.w F.q[k].v _ (wds_below H.out.mach.words (below_drewN B2'.out n))).mono fun _ _ ⟨a, b⟩ => ⟨a, b.symm⟩
          rw [h1] at e0
          cases h2 : tokB F.m.w F.q[k].v
          · have NO : Hid (¬ StateP F) := Lib.hid fun h => toks_not hlt h1 h2 (ST.out.1 h).2.2.2
            rw [h2] at TK
            clear h1 h2 ST
            generalize F.q[k].v = y at *
            go_wp2_with fail
            go_quiet (exact Calls.quiet_of_same (TK.out _))
            go_wp2
            go_ret
            exact biff_no NO.out (below_drewN B2'.out _)
          · have T2 := Lib.hid (toks_next HT.out hlt (fun _ => h2))
            rw [h2] at TK
            clear h2 ST
            clear h1
            generalize F.q[k].v = y at *
            go_wp2_with fail
            go_quiet (exact Calls.quiet_of_same (TK.out _))
            go_wp2
            go_roundw
            case rel => exact ⟨k + 1, _, by omega, by go_num, G2.out, T2.out, R2.out, V3, below_drewN B2'.out _, z2⟩
            case measure => simp [intOf]; omega
        · have T2 := Lib.hid (toks_next HT.out hlt (fun h => absurd h h1))
          have t1 : (F.q[k].k == 1) = false := by rw [beq_eq_false_iff_ne]; exact h1
          clear h1 ST
          go_wp2_with fail
          go_quiet (fail)
          go_wp2
          go_roundw
          case rel => exact ⟨k + 1, _, by omega, by go_num, G2.out, T2.out, R2.out, V3, below_drewN B2'.out _, z2⟩
          case measure => simp [intOf]; omega
    · obtain rfl : k = F.q.length := by omega
      have YES : Hid (StateP F) := Lib.hid (ST.out.2 ⟨HW.out, HA.out, by rw [got_end HG.out], toks_end HT.out⟩)
      clear hlt ST
      go_wp2
      go_ret
      exact biff_yes YES.out HB.out

set_option maxRecDepth 100000 in
set_option maxHeartbeats 4000000 in
theorem sOK10_any (v : Value) (F : Fo) (w : World) (hv : FoIn w v F) :
    Calls Tryz.prog 39 #[v] w (BIff w (FoP F)) := by
  obtain ⟨fs, cs, A1, k1, A2, k2, A0, c0, A9, c9, rfl, h⟩ := hv
  have H := Lib.hid h
  have h6 := h.row.row
  have t20 := f20_twenty h.row
  obtain ⟨Ac, kc, hc13⟩ := mchIn_calls h.mach.all
  have HC := Lib.hid hc13
  have V0 := whole_new w 50 fs
  have G0 := f20_range V0 h.row
  have B0 : Hid (Below w.heap.size w (w.alloc (.cells fs 50))) := Lib.hid (below_alloc (Below.refl _ _) _)
  clear h hc13
  go_enter Tryz.func39, Tryz.ntmps39
  go_wp2_with (first | (refine wpList_load_mF rfl _ rfl _ rfl (by assumption) (by assumption) ?_) | (refine wpList_load_mFw (by rfl) _ rfl _ rfl (by assumption) (by assumption) ?_) | (refine wpList_load_fI rfl _ rfl _ rfl (by assumption) (by assumption) ?_) | (refine wpList_load_fIw (by rfl) _ rfl _ rfl (by assumption) (by assumption) ?_) | fail)
  refine (sMachOK_any _ F.m _ (mchIn_below H.out.mach.all B0.out)).mono ?_
  rintro e w1 ⟨rfl, hb⟩
  have B1 := Lib.hid (below_step B0.out hb)
  have V1 := whole_b hb V0
  clear hb V0 G0 B0
  cases hm : mOK F.m
  · have NO : Hid (¬ FoP F) := Lib.hid fun h => by
      have := h.2.1.1; rw [hm] at this; cases this
    clear hm
    go_wp2
    go_ret
    exact biff_no NO.out B1.out
  have HM := Lib.hid hm
  clear hm
  have d13 : w1.cell? ⟨w.heap.size, 13, none⟩ = some (.slice Ac F.m.c.length kc) := by rw [whole_cell V1, f20_low H.out.row 13 (by omega)]; exact HC.out
  have z1 := whole_lt V1
  by_cases h0 : F.m.c.length = 0
  rotate_left
  · have NO : Hid (¬ FoP F) := Lib.hid fun h => h0 h.1
    have t0 : ((F.m.c.length : Int) == 0) = false := by rw [beq_eq_false_iff_ne]; omega
    clear h0 h6 HC
    generalize F.m.c.length = z at *
    go_wp2
    go_ret
    exact biff_no NO.out B1.out
  rw [h0] at d13
  have H0 := Lib.hid h0
  clear h0 HC
  have G1 := f20_range V1 H.out.row
  obtain ⟨d16, -, -, -⟩ := f20_cells V1 H.out.row
  obtain ⟨dd, dk⟩ := mok_parts HM.out
  go_wp2_with (first | (refine wpList_load_mF rfl _ rfl _ rfl (by assumption) (by assumption) ?_) | (refine wpList_load_mFw (by rfl) _ rfl _ rfl (by assumption) (by assumption) ?_) | (refine wpList_load_fI rfl _ rfl _ rfl (by assumption) (by assumption) ?_) | (refine wpList_load_fIw (by rfl) _ rfl _ rfl (by assumption) (by assumption) ?_) | fail)
  refine (sDefs_any cs F.m A1 k1 A2 k2 F.l _ _ (mrow_below H.out.mach B1.out) dd dk (dfs_below H.out.defs B1.out)).mono ?_
  rintro e w2 ⟨r, hr, rfl, hb⟩
  have B2 := Lib.hid (below_step B1.out hb)
  have V2 := whole_b hb V1
  clear hb V1 G1 B1 d13 d16 dd dk z1
  cases r
  · have NO : Hid (¬ FoP F) := Lib.hid fun h => by
      have := hr.2 h.2.1.2
      cases this
    clear hr
    go_wp2
    go_ret
    exact biff_no NO.out B2.out
  have PI : Hid (FoP F ↔ StateP F) := Lib.hid (foP_iff H0.out ⟨HM.out, hr.1 rfl⟩)
  clear hr
  have z2 := whole_lt V2
  go_wp2_with (first | (refine wpList_load_mF rfl _ rfl _ rfl (by assumption) (by assumption) ?_) | (refine wpList_load_mFw (by rfl) _ rfl _ rfl (by assumption) (by assumption) ?_) | (refine wpList_load_fI rfl _ rfl _ rfl (by assumption) (by assumption) ?_) | (refine wpList_load_fIw (by rfl) _ rfl _ rfl (by assumption) (by assumption) ?_) | fail)
  refine (sOpen10_any fs cs F A1 k1 A2 k2 A0 c0 A9 c9 _ (foR_below H.out B2.out)).mono ?_
  rintro e w3 ⟨r, hr, rfl, hb⟩
  have B3 := Lib.hid (below_step B2.out hb)
  have RR : Hid (r = true ↔ FoP F) := Lib.hid (hr.trans PI.out.symm)
  clear hb hr PI
  cases r
  · have NO : Hid (¬ FoP F) := Lib.hid fun h => by have := RR.out.2 h; cases this
    clear RR
    go_wp2
    go_ret
    exact biff_no NO.out B3.out
  · have YES : Hid (FoP F) := Lib.hid (RR.out.1 rfl)
    clear RR
    go_wp2
    go_ret
    exact biff_yes YES.out B3.out

set_option maxRecDepth 100000 in
set_option maxHeartbeats 1000000 in
theorem sForthOK_any (v : Value) (F : Fo) (w : World) (hv : FoIn w v F) :
    Calls Tryz.prog 10 #[v] w (BIff w (FoP F)) := by
  have HV := Lib.hid hv
  obtain ⟨fs, rfl, t20⟩ := foIn_cells hv
  have V0 := whole_new w 50 fs
  have B0 : Hid (Below w.heap.size w (w.alloc (.cells fs 50))) := Lib.hid (below_alloc (Below.refl _ _) _)
  clear hv
  go_enter Tryz.func10, Tryz.ntmps10
  go_wp2_with (first | (refine wpList_load_mF rfl _ rfl _ rfl (by assumption) (by assumption) ?_) | (refine wpList_load_mFw (by rfl) _ rfl _ rfl (by assumption) (by assumption) ?_) | (refine wpList_load_fI rfl _ rfl _ rfl (by assumption) (by assumption) ?_) | (refine wpList_load_fIw (by rfl) _ rfl _ rfl (by assumption) (by assumption) ?_) | fail)
  refine (sOK10_any _ F _ (foIn_below HV.out B0.out)).mono ?_
  rintro e w1 ⟨r, hr, rfl, hb⟩
  have B1 := Lib.hid (below_step B0.out hb)
  have HR := Lib.hid hr
  clear hb hr
  go_wp2
  go_ret
  exact ⟨r, HR.out, rfl, B1.out⟩

end Go.Proofs.YthnbaeamekolmaaGreatDoor

namespace Go.Proofs.YthnbaeamekolmaaGreatDoor
open Go.RowKit
set_option linter.unusedVariables false
set_option linter.unusedSimpArgs false

/-- Two Forths are alike. -/
def FoEq (a b : Fo) : Prop := mEq a.m b.m = true ∧ a.l = b.l ∧ a.c = b.c ∧ a.n = b.n ∧ a.q = b.q

/-- Two Forths are valid and alike. -/
def FoSame (a b : Fo) : Prop := FoP a ∧ FoP b ∧ FoEq a b

set_option maxRecDepth 100000 in
set_option maxHeartbeats 1000000 in
theorem sameDef_any (x y : Df) (u v : Value) (w : World) (hu : Its w u x.q) (hv : Its w v y.q) :
    Calls Tryz.prog 54 #[.agg #[.int .i64 x.w, u], .agg #[.int .i64 y.w, v]] w (BIff w (x = y)) := by
  have HU := Lib.hid hu
  have HV := Lib.hid hv
  obtain ⟨_, A, ca, rfl, _⟩ := hu
  obtain ⟨_, B, cb, rfl, _⟩ := hv
  have B0 : Hid (Below w.heap.size w ((w.alloc (.cells #[.int .i64 x.w, .slice A x.q.length ca] 94)).alloc (.cells #[.int .i64 y.w, .slice B y.q.length cb] 94))) := Lib.hid (below_alloc (below_alloc (Below.refl _ _) _) _)
  by_cases h : x.w = y.w
  · have t : (x.w == y.w) = true := by rw [beq_iff_eq]; exact h
    have E : Hid (x = y ↔ x.q = y.q) := Lib.hid ⟨fun e => by rw [e], fun e => by cases x; cases y; simp only at h e; rw [h, e]⟩
    clear h
    go_enter Tryz.func54, Tryz.ntmps54
    go_wp2_with fail
    refine (slEqualI_any _ _ x.q y.q _ (its_below HU.out B0.out) (its_below HV.out B0.out)).mono ?_
    rintro e w1 ⟨r, rfl, hr, hb⟩
    have B1 := Lib.hid (below_step B0.out hb)
    have HR := Lib.hid (hr.trans E.out.symm)
    clear hr hb
    go_wp2
    go_ret
    exact ⟨r, HR.out, rfl, B1.out⟩
  · have t : (x.w == y.w) = false := by rw [beq_eq_false_iff_ne]; exact h
    have NO : Hid (¬ x = y) := Lib.hid fun e => h (by rw [e])
    clear h
    go_enter Tryz.func54, Tryz.ntmps54
    go_wp2
    go_ret
    exact biff_no NO.out B0.out

set_option maxRecDepth 100000 in
set_option maxHeartbeats 4000000 in
theorem slEqualDf_any (u v : Value) (P Q : List Df) (w : World) (hu : Dfs w u P) (hv : Dfs w v Q) :
    Calls Tryz.prog 53 #[u, v, .func (.func 54) #[] #[]] w (BIff w (P = Q)) := by
  have HU := Lib.hid hu
  have HV := Lib.hid hv
  obtain ⟨hl, A, ca, rfl, _⟩ := hu
  obtain ⟨hl2, B, cb, rfl, _⟩ := hv
  unfold maxLen at hl hl2
  by_cases hpq : P.length = Q.length
  rotate_left
  · have t : ((P.length : Int) != (Q.length : Int)) = true := by rw [bne_iff_ne]; omega
    have NO : Hid (¬ P = Q) := Lib.hid fun e => hpq (by rw [e])
    clear hpq
    go_enter Tryz.func53, Tryz.ntmps53
    go_wp2
    go_ret
    exact biff_no NO.out (Below.refl _ _)
  have LE := Lib.hid hpq
  have t : ((P.length : Int) != (Q.length : Int)) = false := by rw [hpq]; simp
  clear hpq
  go_enter Tryz.func53, Tryz.ntmps53
  go_wp2
  clear t
  go_loopw [7, 17] (fun _ i wr => ∃ k : Nat, k ≤ P.length ∧ i = .int .i64 k ∧ P.take k = Q.take k ∧ Below w.heap.size w wr) (fun _ i _ => P.length - (intOf i).toNat)
  case atStart => exact ⟨0, Nat.zero_le _, rfl, by simp, Below.refl _ _⟩
  case round =>
    obtain ⟨k, hk, rfl, hat, hb⟩ := hrel
    have AT := Lib.hid hat
    have HB := Lib.hid hb
    clear hat hb
    by_cases hlt : k < P.length
    · have hlt2 : k < Q.length := by have := LE.out; omega
      obtain ⟨_, A', ca', e', hc⟩ := dfs_below HU.out HB.out
      simp only [Value.slice.injEq, true_and] at e'
      obtain ⟨rfl, rfl⟩ := e'
      obtain ⟨ga, rfl, ha⟩ := hc (by omega)
      obtain ⟨_, B', cb', e', hc⟩ := dfs_below HV.out HB.out
      simp only [Value.slice.injEq, true_and] at e'
      obtain ⟨rfl, rfl⟩ := e'
      obtain ⟨gb, rfl, hd⟩ := hc (by omega)
      obtain ⟨a0, ua, a1, ia⟩ := ha k hlt
      obtain ⟨b0, ub, b1, ib⟩ := hd k hlt2
      clear ha hd hc
      have NX : Hid (P[k] = Q[k] → P.take (k + 1) = Q.take (k + 1)) := Lib.hid fun e => by rw [List.take_succ_eq_append_getElem hlt, List.take_succ_eq_append_getElem hlt2, AT.out, e]
      have NO : Hid (¬ P[k] = Q[k] → ¬ P = Q) := Lib.hid fun e h => e (by subst h; rfl)
      generalize P[k] = x at *
      generalize Q[k] = y at *
      have IA := Lib.hid ia
      have IB := Lib.hid ib
      obtain ⟨_, C, cc, rfl, _⟩ := ia
      obtain ⟨_, D, cd, rfl, _⟩ := ib
      have lq : (k : Int) < (Q.length : Int) := by omega
      have b0' := cell_keptI (below_alloc (Below.refl wr.heap.size wr) (.cells #[.int .i64 x.w, .slice C x.q.length cc] 94)) _ _ b0
      have b1' := cell_keptI (below_alloc (Below.refl wr.heap.size wr) (.cells #[.int .i64 x.w, .slice C x.q.length cc] 94)) _ _ b1
      have SD : Hid (∀ W, Below wr.heap.size wr W → Calls Tryz.prog 54 #[.agg #[.int .i64 x.w, .slice C x.q.length cc], .agg #[.int .i64 y.w, .slice D y.q.length cd]] W (BIff W (x = y))) := Lib.hid fun W hb => sameDef_any x y _ _ W (its_below IA.out hb) (its_below IB.out hb)
      have BW : Hid (Below wr.heap.size wr ((wr.alloc (.cells #[.int .i64 x.w, .slice C x.q.length cc] 94)).alloc (.cells #[.int .i64 y.w, .slice D y.q.length cd] 94))) := Lib.hid (below_alloc (below_alloc (Below.refl _ _) _) _)
      go_wp2_with fail
      refine (SD.out _ BW.out).mono ?_
      rintro e w1 ⟨r, hr, rfl, hb⟩
      have B1 := Lib.hid (below_step HB.out (below_step BW.out hb))
      clear hb
      cases r
      · have N1 : Hid (¬ P = Q) := Lib.hid (NO.out fun e => by have := hr.2 e; cases this)
        clear hr
        go_wp2
        go_ret
        exact biff_no N1.out B1.out
      · have N2 := Lib.hid (NX.out (hr.1 rfl))
        clear hr
        go_wp2
        go_roundw
        case rel => exact ⟨k + 1, by omega, by go_num, N2.out, B1.out⟩
        case measure => simp [intOf]; omega
    · obtain rfl : k = P.length := by omega
      have YES : Hid (P = Q) := Lib.hid (by have h := AT.out; rwa [List.take_length, LE.out, List.take_length] at h)
      clear hlt
      go_wp2
      go_ret
      exact biff_yes YES.out HB.out

set_option maxRecDepth 100000 in
set_option maxHeartbeats 4000000 in
theorem iSameForth_any (u v : Value) (a b : Fo) (w : World) (hu : FoIn w u a) (hv : FoIn w v b) (ht : Tabs w) :
    Calls Tryz.prog 15 #[u, v] w (BIff w (FoSame a b)) := by
  have HT := Lib.hid ht
  have HUI := Lib.hid hu
  have HVI := Lib.hid hv
  obtain ⟨fs, cs, A1, k1, A2, k2, A0, c0, A9, c9, rfl, hu⟩ := hu
  obtain ⟨gs, ds, D1, j1, D2, j2, D0, e0, D9, e9, rfl, hv⟩ := hv
  have HU := Lib.hid hu
  have HV := Lib.hid hv
  have U6 := hu.row.row
  have V6 := hv.row.row
  have U20 := f20_twenty hu.row
  have V20 := f20_twenty hv.row
  have X0 := whole_alloc (whole_new w 50 fs) (.cells gs 50)
  have Y0 := whole_new1 w (.cells fs 50) 50 gs
  have B0 : Hid (Below w.heap.size w ((w.alloc (.cells fs 50)).alloc (.cells gs 50))) := Lib.hid (below_alloc (below_alloc (Below.refl _ _) _) _)
  clear hu hv ht
  go_enter Tryz.func15, Tryz.ntmps15
  go_wp2_with (first | (refine wpList_load_mF rfl _ rfl _ rfl (by assumption) (by assumption) ?_) | (refine wpList_load_mFw (by rfl) _ rfl _ rfl (by assumption) (by assumption) ?_) | (refine wpList_load_fI rfl _ rfl _ rfl (by assumption) (by assumption) ?_) | (refine wpList_load_fIw (by rfl) _ rfl _ rfl (by assumption) (by assumption) ?_) | fail)
  refine (iForthOK_any _ a _ (foIn_below HUI.out B0.out) (tabs_below HT.out B0.out)).mono ?_
  rintro e w1 ⟨r, hr, rfl, hb⟩
  have B1 := Lib.hid (below_step B0.out hb)
  have X1 := whole_b hb X0
  have Y1 := whole_b hb Y0
  clear hb B0 X0 Y0
  cases r
  · have NO : Hid (¬ FoSame a b) := Lib.hid fun h => by have := hr.2 h.1; cases this
    clear hr
    go_wp2
    go_ret
    exact biff_no NO.out B1.out
  have PA := Lib.hid (hr.1 rfl)
  clear hr
  go_wp2_with (first | (refine wpList_load_mF rfl _ rfl _ rfl (by assumption) (by assumption) ?_) | (refine wpList_load_mFw (by rfl) _ rfl _ rfl (by assumption) (by assumption) ?_) | (refine wpList_load_fI rfl _ rfl _ rfl (by assumption) (by assumption) ?_) | (refine wpList_load_fIw (by rfl) _ rfl _ rfl (by assumption) (by assumption) ?_) | fail)
  refine (iForthOK_any _ b _ (foIn_below HVI.out B1.out) (tabs_below HT.out B1.out)).mono ?_
  rintro e w2 ⟨r, hr, rfl, hb⟩
  have B2 := Lib.hid (below_step B1.out hb)
  have X2 := whole_b hb X1
  have Y2 := whole_b hb Y1
  clear hb B1 X1 Y1
  cases r
  · have NO : Hid (¬ FoSame a b) := Lib.hid fun h => by have := hr.2 h.2.1; cases this
    clear hr
    go_wp2
    go_ret
    exact biff_no NO.out B2.out
  have PB := Lib.hid (hr.1 rfl)
  have ES : Hid (FoSame a b ↔ FoEq a b) := Lib.hid ⟨fun h => h.2.2, fun h => ⟨PA.out, hr.1 rfl, h⟩⟩
  clear hr
  have GX := f20_range X2 HU.out.row
  have GY := f20_range Y2 HV.out.row
  go_wp2_with (first | (refine wpList_load_mF rfl _ rfl _ rfl (by assumption) (by assumption) ?_) | (refine wpList_load_mFw (by rfl) _ rfl _ rfl (by assumption) (by assumption) ?_) | (refine wpList_load_fI rfl _ rfl _ rfl (by assumption) (by assumption) ?_) | (refine wpList_load_fIw (by rfl) _ rfl _ rfl (by assumption) (by assumption) ?_) | fail)
  refine (iSameMachine_any _ _ a.m b.m _ (mchIn_below HU.out.mach.all B2.out) (mchIn_below HV.out.mach.all B2.out) (tabs_below HT.out B2.out)).mono ?_
  rintro e w3 ⟨rfl, hb⟩
  have B3 := Lib.hid (below_step B2.out hb)
  have X3 := whole_b hb X2
  have Y3 := whole_b hb Y2
  clear hb B2 X2 Y2 GX GY
  have MS : Hid (mSame a.m b.m = mEq a.m b.m) := Lib.hid (by unfold mSame; rw [PA.out.2.1.1, PB.out.2.1.1]; rfl)
  rw [MS.out]
  cases hm : mEq a.m b.m
  · have NO : Hid (¬ FoSame a b) := Lib.hid fun h => by have := (ES.out.1 h).1; rw [hm] at this; cases this
    clear hm
    go_wp2
    go_ret
    exact biff_no NO.out B3.out
  have E1 := Lib.hid hm
  clear hm
  obtain ⟨a16, a17, a18, a19⟩ := f20_cells X3 HU.out.row
  obtain ⟨b16, b17, b18, b19⟩ := f20_cells Y3 HV.out.row
  have zx := whole_lt X3
  have zy := whole_lt Y3
  go_wp2_with fail
  refine (slEqualDf_any _ _ a.l b.l _ (dfs_below HU.out.defs B3.out) (dfs_below HV.out.defs B3.out)).mono ?_
  rintro e w4 ⟨r, hr, rfl, hb⟩
  have B4 := Lib.hid (below_step B3.out hb)
  have X4 := whole_b hb X3
  have Y4 := whole_b hb Y3
  clear hb B3 X3 Y3 a16 a17 a18 a19 b16 b17 b18 b19 zx zy
  cases r
  · have NO : Hid (¬ FoSame a b) := Lib.hid fun h => by have := hr.2 (ES.out.1 h).2.1; cases this
    clear hr
    go_wp2
    go_ret
    exact biff_no NO.out B4.out
  have E2 := Lib.hid (hr.1 rfl)
  clear hr
  obtain ⟨a16, a17, a18, a19⟩ := f20_cells X4 HU.out.row
  obtain ⟨b16, b17, b18, b19⟩ := f20_cells Y4 HV.out.row
  have zx := whole_lt X4
  have zy := whole_lt Y4
  by_cases hc : a.c = b.c
  rotate_left
  · have NO : Hid (¬ FoSame a b) := Lib.hid fun h => hc (ES.out.1 h).2.2.1
    have t : (a.c == b.c) = false := by rw [beq_eq_false_iff_ne]; exact hc
    clear hc
    go_wp2
    go_ret
    exact biff_no NO.out B4.out
  have t3 : (a.c == b.c) = true := by rw [beq_iff_eq]; exact hc
  have E3 := Lib.hid hc
  clear hc
  by_cases hn : a.n = b.n
  rotate_left
  · have NO : Hid (¬ FoSame a b) := Lib.hid fun h => hn (ES.out.1 h).2.2.2.1
    have t : (a.n.toList == b.n.toList) = false := by rw [text_same]; exact decide_eq_false hn
    clear hn
    go_wp2
    go_ret
    exact biff_no NO.out B4.out
  have t4 : (a.n.toList == b.n.toList) = true := by rw [text_same]; exact decide_eq_true hn
  have E4 := Lib.hid hn
  clear hn
  go_wp2_with fail
  refine (slEqualI_any _ _ a.q b.q _ (its_below HU.out.items B4.out) (its_below HV.out.items B4.out)).mono ?_
  rintro e w5 ⟨r, rfl, hr, hb⟩
  have B5 := Lib.hid (below_step B4.out hb)
  have HR : Hid (r = true ↔ FoSame a b) := Lib.hid ⟨fun h => ES.out.2 ⟨E1.out, E2.out, E3.out, E4.out, hr.1 h⟩, fun h => hr.2 (ES.out.1 h).2.2.2.2⟩
  clear hr hb
  go_wp2
  go_ret
  exact ⟨r, HR.out, rfl, B5.out⟩

end Go.Proofs.YthnbaeamekolmaaGreatDoor

namespace Go.Proofs.YthnbaeamekolmaaGreatDoor
open Go.RowKit
set_option linter.unusedVariables false
set_option linter.unusedSimpArgs false

theorem it_ne {x y : It} (h : ¬ x = y) : x.k ≠ y.k ∨ (x.k = y.k ∧ x.v ≠ y.v) := by
  by_cases q : x.k = y.k
  · refine .inr ⟨q, fun q2 => h ?_⟩
    cases x; cases y
    simp only at q q2
    rw [q, q2]
  · exact .inl q

theorem take_all {α : Type} {P Q : List α} (hl : P.length = Q.length) (h : P.take P.length = Q.take P.length) : P = Q := by
  rwa [List.take_length, hl, List.take_length] at h

theorem take_next {α : Type} {P Q : List α} {k : Nat} (h : P.take k = Q.take k) (hp : k < P.length) (hq : k < Q.length) (e : P[k] = Q[k]) : P.take (k + 1) = Q.take (k + 1) := by
  rw [List.take_succ_eq_append_getElem hp, List.take_succ_eq_append_getElem hq, h, e]

set_option maxRecDepth 100000 in
set_option maxHeartbeats 8000000 in
theorem sSame10_any (u v : Value) (a b : Fo) (w : World) (hu : FoIn w u a) (hv : FoIn w v b) :
    Calls Tryz.prog 51 #[u, v] w (BIff w (FoEq a b)) := by
  obtain ⟨fs, cs, A1, k1, A2, k2, A0, c0, A9, c9, rfl, hu⟩ := hu
  obtain ⟨gs, ds, D1, j1, D2, j2, D0, e0, D9, e9, rfl, hv⟩ := hv
  have HU := Lib.hid hu
  have HV := Lib.hid hv
  have U6 := hu.row.row
  have V6 := hv.row.row
  have lqa : a.q.length ≤ maxLen := hu.items.1
  have lqb : b.q.length ≤ maxLen := hv.items.1
  have lla : a.l.length ≤ maxLen := hu.defs.1
  have llb : b.l.length ≤ maxLen := hv.defs.1
  unfold maxLen at lqa lqb lla llb
  have X0 := whole_alloc (whole_new w 50 fs) (.cells gs 50)
  have Y0 := whole_new1 w (.cells fs 50) 50 gs
  have B0 : Hid (Below w.heap.size w ((w.alloc (.cells fs 50)).alloc (.cells gs 50))) := Lib.hid (below_alloc (below_alloc (Below.refl _ _) _) _)
  have GX := f20_range X0 hu.row
  have GY := f20_range Y0 hv.row
  clear hu hv
  go_enter Tryz.func51, Tryz.ntmps51
  go_wp2_with (first | (refine wpList_load_mF rfl _ rfl _ rfl (by assumption) (by assumption) ?_) | (refine wpList_load_mFw (by rfl) _ rfl _ rfl (by assumption) (by assumption) ?_) | (refine wpList_load_fI rfl _ rfl _ rfl (by assumption) (by assumption) ?_) | (refine wpList_load_fIw (by rfl) _ rfl _ rfl (by assumption) (by assumption) ?_) | fail)
  refine (sSameM_any _ _ a.m b.m _ (mchIn_below HU.out.mach.all B0.out) (mchIn_below HV.out.mach.all B0.out)).mono ?_
  rintro e w1 ⟨rfl, hb⟩
  have B1 := Lib.hid (below_step B0.out hb)
  have X1 := whole_b hb X0
  have Y1 := whole_b hb Y0
  clear hb B0 X0 Y0 GX GY
  have zx := whole_lt X1
  have zy := whole_lt Y1
  cases hm : mEq a.m b.m
  · have NO : Hid (¬ FoEq a b) := Lib.hid fun h => by have := h.1; rw [hm] at this; cases this
    clear hm
    go_wp2
    go_ret
    exact biff_no NO.out B1.out
  have E1 := Lib.hid hm
  clear hm
  obtain ⟨a16, a17, a18, a19⟩ := f20_cells X1 HU.out.row
  obtain ⟨b16, b17, b18, b19⟩ := f20_cells Y1 HV.out.row
  by_cases hc : a.c = b.c
  rotate_left
  · have NO : Hid (¬ FoEq a b) := Lib.hid fun h => hc h.2.2.1
    have t : ¬ a.c = b.c := hc
    have t' : (a.c != b.c) = true := by rw [bne_iff_ne]; exact hc
    clear hc
    generalize a.c = x at *
    generalize b.c = y at *
    go_wp2
    go_ret
    exact biff_no NO.out B1.out
  rw [← hc] at b17
  have t3 : (a.c != a.c) = false := by cases a.c <;> rfl
  have E3 := Lib.hid hc
  clear hc
  by_cases hn : a.n = b.n
  rotate_left
  · have NO : Hid (¬ FoEq a b) := Lib.hid fun h => hn h.2.2.2.1
    have t' : (a.n.toList != b.n.toList) = true := by unfold bne; rw [text_same, decide_eq_false hn]; rfl
    have t : ¬ a.n.toList = b.n.toList := by simpa using t'
    clear hn
    go_wp2
    go_ret
    exact biff_no NO.out B1.out
  rw [← hn] at b18
  have t4 : (a.n.toList != a.n.toList) = false := by simp
  have E4 := Lib.hid hn
  clear hn
  by_cases hq : a.q.length = b.q.length
  rotate_left
  · have NO : Hid (¬ FoEq a b) := Lib.hid fun h => hq (by rw [h.2.2.2.2])
    have t : ¬ (a.q.length : Int) = (b.q.length : Int) := by omega
    have t' : ((a.q.length : Int) != (b.q.length : Int)) = true := by rw [bne_iff_ne]; omega
    clear hq
    generalize a.q.length = x at *
    generalize b.q.length = y at *
    go_wp2
    go_ret
    exact biff_no NO.out B1.out
  rw [← hq] at b19
  have t5 : ((a.q.length : Int) != (a.q.length : Int)) = false := by simp
  have LQ := Lib.hid hq
  clear hq
  by_cases hl : a.l.length = b.l.length
  rotate_left
  · have NO : Hid (¬ FoEq a b) := Lib.hid fun h => hl (by rw [h.2.1])
    have t : ¬ (a.l.length : Int) = (b.l.length : Int) := by omega
    have t' : ((a.l.length : Int) != (b.l.length : Int)) = true := by rw [bne_iff_ne]; omega
    clear hl
    go_wp2
    go_ret
    exact biff_no NO.out B1.out
  rw [← hl] at b16
  have t6 : ((a.l.length : Int) != (a.l.length : Int)) = false := by simp
  have LL := Lib.hid hl
  clear hl
  go_wp2
  clear t3 t4 t5 t6 a16 a17 a18 a19 b16 b17 b18 b19 zx zy
  go_loopw [5] (fun i wr => ∃ k : Nat, k ≤ a.q.length ∧ i = .int .i64 k ∧ a.q.take k = b.q.take k ∧ Whole wr w.heap.size 50 fs ∧ Whole wr (w.heap.size + 1) 50 gs ∧ Below w.heap.size w wr) (fun i _ => a.q.length - (intOf i).toNat)
  case atStart => exact ⟨0, Nat.zero_le _, rfl, by simp, X1, Y1, B1.out⟩
  case round =>
    obtain ⟨k, hk, rfl, hat, hx, hy, hb⟩ := hrel
    have AT := Lib.hid hat
    have HX := Lib.hid hx
    have HY := Lib.hid hy
    have HB := Lib.hid hb
    have zx := whole_lt hx
    have zy := whole_lt hy
    obtain ⟨a16, -, -, a19⟩ := f20_cells hx HU.out.row
    obtain ⟨b16, -, -, b19⟩ := f20_cells hy HV.out.row
    clear hat hx hy hb
    by_cases hlt : k < a.q.length
    · have hlt2 : k < b.q.length := by have := LQ.out; omega
      obtain ⟨_, A', ca', e', hc⟩ := its_below HU.out.items HB.out
      simp only [Value.slice.injEq, true_and] at e'
      obtain ⟨rfl, rfl⟩ := e'
      obtain ⟨ga, rfl, ha⟩ := hc (by omega)
      obtain ⟨_, B', cb', e', hc⟩ := its_below HV.out.items HB.out
      simp only [Value.slice.injEq, true_and] at e'
      obtain ⟨rfl, rfl⟩ := e'
      obtain ⟨gb, rfl, hd⟩ := hc (by omega)
      obtain ⟨x0, x1⟩ := ha k hlt
      obtain ⟨y0, y1⟩ := hd k hlt2
      clear ha hd hc
      have lb : (k : Int) < (b.q.length : Int) := by omega
      by_cases e : a.q[k] = b.q[k]
      · have NX := Lib.hid (take_next AT.out hlt hlt2 e)
        rw [← e] at y0 y1
        clear e
        generalize a.q[k] = x at *
        have t0 : (x.k == x.k) = true := by simp
        have t1 : (x.v == x.v) = true := by simp
        go_wp2
        go_quiet (fail)
        go_wp2
        go_roundw
        case rel => exact ⟨k + 1, by omega, by go_num, NX.out, HX.out, HY.out, below_drewN HB.out _⟩
        case measure => simp [intOf]; omega
      · have NO : Hid (¬ FoEq a b) := Lib.hid (fun h => e (by have hh := h.2.2.2.2; simp only [hh]))
        have hne := it_ne e
        clear e
        generalize a.q[k] = x at *
        generalize b.q[k] = y at *
        rcases hne with q0 | ⟨q0, q1⟩
        · have t0 : (x.k == y.k) = false := by rw [beq_eq_false_iff_ne]; exact q0
          clear q0
          go_wp2
          go_quiet (fail)
          go_wp2
          go_ret
          exact biff_no NO.out (below_drewN HB.out _)
        · have t0 : (x.k == y.k) = true := by rw [beq_iff_eq]; exact q0
          have t1 : (x.v == y.v) = false := by rw [beq_eq_false_iff_ne]; exact q1
          clear q0 q1
          go_wp2
          go_quiet (fail)
          go_wp2
          go_ret
          exact biff_no NO.out (below_drewN HB.out _)
    obtain rfl : k = a.q.length := by omega
    have E5 : Hid (a.q = b.q) := Lib.hid (take_all LQ.out AT.out)
    clear hlt hk AT
    go_wp2
    clear a16 a19 b16 b19 zx zy
    go_loopw [6, 7] (fun i _ wr => ∃ k : Nat, k ≤ a.l.length ∧ i = .int .i64 k ∧ a.l.take k = b.l.take k ∧ Whole wr w.heap.size 50 fs ∧ Whole wr (w.heap.size + 1) 50 gs ∧ Below w.heap.size w wr) (fun i _ _ => a.l.length - (intOf i).toNat)
    case atStart => exact ⟨0, Nat.zero_le _, rfl, by simp, HX.out, HY.out, HB.out⟩
    case round =>
      obtain ⟨k, hk, rfl, hat, hx, hy, hb⟩ := hrel
      have AT := Lib.hid hat
      have HX := Lib.hid hx
      have HY := Lib.hid hy
      have HB := Lib.hid hb
      have zx := whole_lt hx
      have zy := whole_lt hy
      obtain ⟨a16, -, -, -⟩ := f20_cells hx HU.out.row
      obtain ⟨b16, -, -, -⟩ := f20_cells hy HV.out.row
      clear hat hx hy hb
      by_cases hlt : k < a.l.length
      rotate_left
      · obtain rfl : k = a.l.length := by omega
        have YES : Hid (FoEq a b) := Lib.hid ⟨E1.out, take_all LL.out AT.out, E3.out, E4.out, E5.out⟩
        clear hlt
        go_wp2
        go_ret
        exact biff_yes YES.out HB.out
      have hlt2 : k < b.l.length := by have := LL.out; omega
      obtain ⟨_, A', ca', e', hc⟩ := dfs_below HU.out.defs HB.out
      simp only [Value.slice.injEq, true_and] at e'
      obtain ⟨rfl, rfl⟩ := e'
      obtain ⟨ga, rfl, ha⟩ := hc (by omega)
      obtain ⟨_, B', cb', e', hc⟩ := dfs_below HV.out.defs HB.out
      simp only [Value.slice.injEq, true_and] at e'
      obtain ⟨rfl, rfl⟩ := e'
      obtain ⟨gb, rfl, hd⟩ := hc (by omega)
      obtain ⟨x0, ux, x1, ix⟩ := ha k hlt
      obtain ⟨y0, uy, y1, iy⟩ := hd k hlt2
      clear ha hd hc
      have lb : (k : Int) < (b.l.length : Int) := by omega
      have NX : Hid (a.l[k] = b.l[k] → a.l.take (k + 1) = b.l.take (k + 1)) := Lib.hid (take_next AT.out hlt hlt2)
      have NE : Hid (¬ a.l[k] = b.l[k] → ¬ FoEq a b) := Lib.hid fun e h => e (by have hh := h.2.1; simp only [hh])
      generalize a.l[k] = x at *
      generalize b.l[k] = y at *
      have IX := Lib.hid ix
      have IY := Lib.hid iy
      obtain ⟨_, C, cc, rfl, _⟩ := ix
      obtain ⟨_, D, cd, rfl, _⟩ := iy
      have KX := Lib.hid x1
      have KY := Lib.hid y1
      by_cases hw : x.w = y.w
      rotate_left
      · have t0 : (x.w == y.w) = false := by rw [beq_eq_false_iff_ne]; exact hw
        have t0' : (x.w != y.w) = true := by rw [bne_iff_ne]; exact hw
        have NO := Lib.hid (NE.out fun e => hw (by rw [e]))
        clear hw
        go_wp2
        go_quiet (fail)
        go_wp2
        go_ret
        exact biff_no NO.out (below_drewN HB.out _)
      have t0 : (x.w == x.w) = true := by simp
      have t0' : (x.w != x.w) = false := by simp
      rw [← hw] at y0
      have HW := Lib.hid hw
      clear hw
      by_cases hl : x.q.length = y.q.length
      rotate_left
      · have t1 : ((x.q.length : Int) == (y.q.length : Int)) = false := by rw [beq_eq_false_iff_ne]; omega
        have t1' : ((x.q.length : Int) != (y.q.length : Int)) = true := by rw [bne_iff_ne]; omega
        have NO := Lib.hid (NE.out fun e => hl (by rw [e]))
        clear hl
        go_wp2
        go_quiet (fail)
        go_wp2
        go_ret
        exact biff_no NO.out (below_drewN HB.out _)
      have t1 : ((x.q.length : Int) == (y.q.length : Int)) = true := by rw [beq_iff_eq]; omega
      have t1' : ((x.q.length : Int) != (y.q.length : Int)) = false := by rw [hl]; simp
      have LE := Lib.hid hl
      clear hl
      go_wp2
      go_quiet (fail)
      go_wp2
      clear t0 t1 t0' t1' x0 x1 y0 y1
      have LX : x.q.length ≤ maxLen := IX.out.1
      have LY : y.q.length ≤ maxLen := IY.out.1
      unfold maxLen at LX LY
      have AE : Hid (x.q = y.q → a.l.take (k + 1) = b.l.take (k + 1)) := Lib.hid fun e => NX.out (by
        have h1 := HW.out
        cases x; cases y
        simp only at h1 e
        rw [h1, e])
      clear a16 b16 zx zy
      go_loopw [7] (fun i w' => ∃ j : Nat, j ≤ x.q.length ∧ i = .int .i64 j ∧ x.q.take j = y.q.take j ∧ Below wr.heap.size wr w') (fun i _ => x.q.length - (intOf i).toNat)
      case atStart => exact ⟨0, Nat.zero_le _, rfl, by simp, below_drewN (Below.refl _ _) _⟩
      case round =>
        obtain ⟨j, hj, rfl, hat, hb⟩ := hrel
        have AJ := Lib.hid hat
        have BJ := Lib.hid hb
        have X3 := whole_b hb HX.out
        have Y3 := whole_b hb HY.out
        have zx := whole_lt X3
        have zy := whole_lt Y3
        obtain ⟨a16, -, -, -⟩ := f20_cells X3 HU.out.row
        obtain ⟨b16, -, -, -⟩ := f20_cells Y3 HV.out.row
        have x1 := cell_keptI hb _ _ KX.out
        have y1 := cell_keptI hb _ _ KY.out
        clear hat
        by_cases hlj : j < x.q.length
        · have hlj2 : j < y.q.length := by have := LE.out; omega
          obtain ⟨_, C', cc', e', hc⟩ := its_below IX.out hb
          simp only [Value.slice.injEq, true_and] at e'
          obtain ⟨rfl, rfl⟩ := e'
          obtain ⟨gc, rfl, hd⟩ := hc (by omega)
          obtain ⟨p0, p1⟩ := hd j hlj
          clear hd hc
          obtain ⟨_, D', cd', e', hc⟩ := its_below IY.out hb
          simp only [Value.slice.injEq, true_and] at e'
          obtain ⟨rfl, rfl⟩ := e'
          obtain ⟨gd, rfl, hd⟩ := hc (by omega)
          obtain ⟨s0, s1⟩ := hd j hlj2
          clear hd hc hb
          have lj : (j : Int) < (y.q.length : Int) := by omega
          by_cases e : x.q[j] = y.q[j]
          · have N2 := Lib.hid (take_next AJ.out hlj hlj2 e)
            rw [← e] at s0 s1
            clear e
            generalize x.q[j] = o at *
            have t0 : (o.k == o.k) = true := by simp
            have t1 : (o.v == o.v) = true := by simp
            go_wp2
            go_quiet (fail)
            go_wp2
            go_roundw
            case rel => exact ⟨j + 1, by omega, by go_num, N2.out, below_drewN BJ.out _⟩
            case measure => simp [intOf]; omega
          · have NO : Hid (¬ FoEq a b) := Lib.hid (NE.out (fun h => e (by subst h; rfl)))
            have hne := it_ne e
            have BF := Lib.hid (below_step HB.out BJ.out)
            clear e
            generalize x.q[j] = o at *
            generalize y.q[j] = u at *
            rcases hne with q0 | ⟨q0, q1⟩
            · have t0 : (o.k == u.k) = false := by rw [beq_eq_false_iff_ne]; exact q0
              clear q0
              go_wp2
              go_quiet (fail)
              go_wp2
              go_ret
              exact biff_no NO.out (below_drewN BF.out _)
            · have t0 : (o.k == u.k) = true := by rw [beq_iff_eq]; exact q0
              have t1 : (o.v == u.v) = false := by rw [beq_eq_false_iff_ne]; exact q1
              clear q0 q1
              go_wp2
              go_quiet (fail)
              go_wp2
              go_ret
              exact biff_no NO.out (below_drewN BF.out _)
        · obtain rfl : j = x.q.length := by omega
          have N3 := Lib.hid (AE.out (take_all LE.out AJ.out))
          have BF := Lib.hid (below_step HB.out BJ.out)
          clear hlj hj hb
          go_wp2
          go_roundw
          case rel => exact ⟨k + 1, by omega, by go_num, N3.out, X3, Y3, BF.out⟩
          case measure => simp [intOf]; omega

set_option maxRecDepth 100000 in
set_option maxHeartbeats 2000000 in
theorem sSameForth_any (u v : Value) (a b : Fo) (w : World) (hu : FoIn w u a) (hv : FoIn w v b) :
    Calls Tryz.prog 14 #[u, v] w (BIff w (FoSame a b)) := by
  have HU := Lib.hid hu
  have HV := Lib.hid hv
  obtain ⟨fs, rfl, U20⟩ := foIn_cells hu
  obtain ⟨gs, rfl, V20⟩ := foIn_cells hv
  have X0 := whole_alloc (whole_new w 50 fs) (.cells gs 50)
  have Y0 := whole_new1 w (.cells fs 50) 50 gs
  have B0 : Hid (Below w.heap.size w ((w.alloc (.cells fs 50)).alloc (.cells gs 50))) := Lib.hid (below_alloc (below_alloc (Below.refl _ _) _) _)
  clear hu hv
  go_enter Tryz.func14, Tryz.ntmps14
  go_wp2_with (first | (refine wpList_load_mF rfl _ rfl _ rfl (by assumption) (by assumption) ?_) | (refine wpList_load_mFw (by rfl) _ rfl _ rfl (by assumption) (by assumption) ?_) | (refine wpList_load_fI rfl _ rfl _ rfl (by assumption) (by assumption) ?_) | (refine wpList_load_fIw (by rfl) _ rfl _ rfl (by assumption) (by assumption) ?_) | fail)
  refine (sOK10_any _ a _ (foIn_below HU.out B0.out)).mono ?_
  rintro e w1 ⟨r, hr, rfl, hb⟩
  have B1 := Lib.hid (below_step B0.out hb)
  have X1 := whole_b hb X0
  have Y1 := whole_b hb Y0
  clear hb B0 X0 Y0
  cases r
  · have NO : Hid (¬ FoSame a b) := Lib.hid fun h => by have := hr.2 h.1; cases this
    clear hr
    go_wp2
    go_ret
    exact biff_no NO.out B1.out
  have PA := Lib.hid (hr.1 rfl)
  clear hr
  go_wp2_with (first | (refine wpList_load_mF rfl _ rfl _ rfl (by assumption) (by assumption) ?_) | (refine wpList_load_mFw (by rfl) _ rfl _ rfl (by assumption) (by assumption) ?_) | (refine wpList_load_fI rfl _ rfl _ rfl (by assumption) (by assumption) ?_) | (refine wpList_load_fIw (by rfl) _ rfl _ rfl (by assumption) (by assumption) ?_) | fail)
  refine (sOK10_any _ b _ (foIn_below HV.out B1.out)).mono ?_
  rintro e w2 ⟨r, hr, rfl, hb⟩
  have B2 := Lib.hid (below_step B1.out hb)
  have X2 := whole_b hb X1
  have Y2 := whole_b hb Y1
  clear hb B1 X1 Y1
  cases r
  · have NO : Hid (¬ FoSame a b) := Lib.hid fun h => by have := hr.2 h.2.1; cases this
    clear hr
    go_wp2
    go_ret
    exact biff_no NO.out B2.out
  have PB := Lib.hid (hr.1 rfl)
  clear hr
  go_wp2_with (first | (refine wpList_load_mF rfl _ rfl _ rfl (by assumption) (by assumption) ?_) | (refine wpList_load_mFw (by rfl) _ rfl _ rfl (by assumption) (by assumption) ?_) | (refine wpList_load_fI rfl _ rfl _ rfl (by assumption) (by assumption) ?_) | (refine wpList_load_fIw (by rfl) _ rfl _ rfl (by assumption) (by assumption) ?_) | fail)
  refine (sSame10_any _ _ a b _ (foIn_below HU.out B2.out) (foIn_below HV.out B2.out)).mono ?_
  rintro e w3 ⟨r, hr, rfl, hb⟩
  have B3 := Lib.hid (below_step B2.out hb)
  clear hb
  cases r
  · have NO : Hid (¬ FoSame a b) := Lib.hid fun h => by have := hr.2 h.2.2; cases this
    clear hr
    go_wp2
    go_ret
    exact biff_no NO.out B3.out
  · have YES : Hid (FoSame a b) := Lib.hid ⟨PA.out, PB.out, hr.1 rfl⟩
    clear hr
    go_wp2
    go_ret
    exact biff_yes YES.out B3.out

end Go.Proofs.YthnbaeamekolmaaGreatDoor
