/- impl's openStructures, CheckItems, OpenAt, SizeOf. -/
import Derived.Test.YthnbaeamekolmaaGreatDoorMkB
namespace Go.Proofs.YthnbaeamekolmaaGreatDoor
open Go.RowKit
set_option linter.unusedVariables false
set_option linter.unusedSimpArgs false

/-- What openStructures leaves. -/
def OpenSOf (w : World) (p : Nat × List Int) (e : Ending) (w' : World) : Prop := ∃ v, e = .returned (.tuple #[v, .int .i64 (p.1 : Int)]) ∧ Row w' w.heap.size v p.2 ∧ Below w.heap.size w w'

theorem got_len {Q : List It} {k : Nat} {o : List Int} (h : Got Q k o) : o.length ≤ k := h.2.2

set_option maxRecDepth 100000 in
set_option maxHeartbeats 2000000 in
theorem openStructs_any (v : Value) (Q : List It) (w : World) (hv : Its w v Q) (hl : Q.length ≤ 60) (hq : ∀ x ∈ Q, itB x = true) :
    Calls Tryz.prog 89 #[v] w (OpenSOf w (goO Q [])) := by
  have HV := Lib.hid hv
  have HQ := Lib.hid hq
  obtain ⟨_, A, cap, rfl, _⟩ := hv
  clear hq
  have M0 : Hid (MkAt (w.alloc (.cells #[.slice none 0 0] 172)) w.heap.size w.heap.size (.slice none 0 0) []) := Lib.hid ⟨whole_new w _ _, row_nil _ _, Nat.le_refl _⟩
  have B0 : Hid (Below w.heap.size w (w.alloc (.cells #[.slice none 0 0] 172))) := Lib.hid (below_alloc (Below.refl _ _) _)
  go_enter Tryz.func89, Tryz.ntmps89
  go_wp2
  go_loopw [9] (fun i wr => ∃ (k : Nat) (o : List Int) (u : Value), k ≤ Q.length ∧ i = .int .i64 k ∧ Got Q k o ∧ MkAt wr w.heap.size w.heap.size u o ∧ Below w.heap.size w wr) (fun i _ => Q.length - (intOf i).toNat)
  case atStart => exact ⟨0, [], _, Nat.zero_le _, rfl, got_start Q, M0.out, B0.out⟩
  case round =>
    obtain ⟨k, o, u, hk, rfl, hg, hm, hb⟩ := hrel
    have HG := Lib.hid hg
    have HM := Lib.hid hm
    have HB := Lib.hid hb
    have ho : o.length ≤ 60 := by have := got_len hg; omega
    clear hg hb
    by_cases hlt : k < Q.length
    · obtain ⟨_, A', ca', e', hc⟩ := its_below HV.out HB.out
      simp only [Value.slice.injEq, true_and] at e'
      obtain ⟨rfl, rfl⟩ := e'
      obtain ⟨ga, rfl, ha⟩ := hc (by omega)
      obtain ⟨c0, c1⟩ := ha k hlt
      have hi := itB_kind (HQ.out Q[k] (List.getElem_mem hlt))
      have z0 := whole_lt hm.1
      have d0 := whole_cell hm.1 0
      have M1 := Lib.hid (mkAt_below hm (below_alloc (Below.refl _ _) (.cells #[.int .i64 Q[k].k, .int .i64 Q[k].v] 97)))
      have I1 := Lib.hid (row_ints M1.out.2.1)
      clear ha hc hm
      go_wp2_with fail
      refine (fits_any _ u o Q[k].k I1.out (by omega) hi).mono ?_
      rintro e w2 ⟨rfl, hb2⟩
      have B2 := Lib.hid (below_step (below_alloc HB.out _) hb2)
      have M2 := Lib.hid (mkAt_below M1.out hb2)
      have W2 := Lib.hid (whole_below (whole_new wr 97 #[.int .i64 Q[k].k, .int .i64 Q[k].v]) hb2)
      have y0 := whole_cell W2.out 0
      have z2 := whole_lt W2.out
      have e0 := whole_cell M2.out.1 0
      have z3 := whole_lt M2.out.1
      clear hb2 c0 c1 d0 z0
      by_cases hf : fitB o Q[k].k = true
      · have G2 := Lib.hid (got_fit HG.out hlt hf)
        rw [hf]
        clear hf e0
        go_wp2_with fail
        refine (follow_any _ _ _ u o Q[k].k M2.out (by omega) hi).mono ?_
        rintro e w3 ⟨rfl, ⟨u3, hm3⟩, hb3⟩
        have B3 := Lib.hid (B2.out.trans hb3)
        have M3 := Lib.hid hm3
        clear hm3 hb3 y0 z2 z3
        go_wp2
        go_roundw
        case rel => exact ⟨k + 1, _, u3, by omega, by go_num, G2.out, M3.out, B3.out⟩
        case measure => simp [intOf]; omega
      · have hf : fitB o Q[k].k = false := by simpa using hf
        have G2 := Lib.hid (got_not HG.out hlt hf)
        rw [hf]
        clear hf y0
        go_wp2
        go_ret2
        exact ⟨u, by rw [G2.out]; rfl, by rw [G2.out]; exact M2.out.2.1, B2.out⟩
    · obtain rfl : k = Q.length := by omega
      have G2 := Lib.hid (got_end HG.out)
      have e0 := whole_cell hm.1 0
      have z3 := whole_lt hm.1
      clear hlt hm
      go_wp2
      go_ret2
      exact ⟨u, by rw [G2.out]; rfl, by rw [G2.out]; exact HM.out.2.1, HB.out⟩

/-- Two numbers. -/
def TwoOf (w : World) (p : Int × Int) (e : Ending) (w' : World) : Prop := e = .returned (.tuple #[.int .i64 p.1, .int .i64 p.2]) ∧ Below w.heap.size w w'

set_option maxRecDepth 100000 in
set_option maxHeartbeats 1000000 in
theorem iCheck_any (v : Value) (Q : List It) (w : World) (hv : Its w v Q) :
    Calls Tryz.prog 215 #[v] w (TwoOf w (chkI Q)) := by
  have HV := Lib.hid hv
  obtain ⟨hl, A, cap, rfl, _⟩ := hv
  unfold maxLen at hl
  have E : Hid (chkI Q = if askI Q ≠ 0 then (0, askI Q) else if (goO Q []).1 < Q.length ∨ 0 < (goO Q []).2.length then (((goO Q []).1 : Int), 12) else (0, 0)) := Lib.hid rfl
  by_cases h0 : askI Q = 0
  · obtain ⟨h1, h2⟩ := askI_ok h0
    have HQ := Lib.hid h2
    have hg1 := goO_le Q []
    have hg2 := goO_len Q []
    have EE : Hid (chkI Q = if (goO Q []).1 < Q.length ∨ 0 < (goO Q []).2.length then (((goO Q []).1 : Int), 12) else (0, 0)) := Lib.hid (by rw [E.out, if_neg (by simpa using h0)])
    have H0 := Lib.hid h0
    obtain ⟨p, hp⟩ : ∃ p, goO Q [] = p := ⟨_, rfl⟩
    obtain ⟨n, o⟩ := p
    have HP := Lib.hid hp
    rw [hp] at EE hg1 hg2
    simp only [List.length_nil, Nat.zero_add] at EE hg1 hg2
    clear h2 E h0 hp
    by_cases hn : n < Q.length
    · have EF : Hid (chkI Q = ((n : Int), 12)) := Lib.hid (by rw [EE.out, if_pos (.inl hn)])
      have t1 : (n : Int) < (Q.length : Int) := by omega
      clear EE hn
      go_enter Tryz.func215, Tryz.ntmps215
      go_wp2_with fail
      refine (itemsCode_any _ Q _ HV.out).mono ?_
      rintro e w1 ⟨rfl, hb1⟩
      rw [H0.out]
      go_wp2_with fail
      refine (openStructs_any _ Q _ (its_below HV.out hb1) h1 HQ.out).mono ?_
      rintro e w2 ⟨u, rfl, hr, hb2⟩
      rw [HP.out] at hr ⊢
      obtain ⟨_, C, c, rfl, _⟩ := row_ints hr
      go_wp2
      go_ret2
      exact ⟨by rw [EF.out]; rfl, below_step hb1 hb2⟩
    · obtain rfl : n = Q.length := by omega
      by_cases hz : o.length = 0
      · obtain rfl : o = [] := List.eq_nil_of_length_eq_zero hz
        have EF : Hid (chkI Q = (0, 0)) := Lib.hid (by rw [EE.out, if_neg (by simp)])
        clear EE hn hz
        go_enter Tryz.func215, Tryz.ntmps215
        go_wp2_with fail
        refine (itemsCode_any _ Q _ HV.out).mono ?_
        rintro e w1 ⟨rfl, hb1⟩
        rw [H0.out]
        go_wp2_with fail
        refine (openStructs_any _ Q _ (its_below HV.out hb1) h1 HQ.out).mono ?_
        rintro e w2 ⟨u, rfl, hr, hb2⟩
        rw [HP.out] at hr ⊢
        obtain ⟨_, C, c, rfl, _⟩ := row_ints hr
        go_wp2
        go_ret2
        exact ⟨by rw [EF.out]; rfl, below_step hb1 hb2⟩
      · have EF : Hid (chkI Q = ((Q.length : Int), 12)) := Lib.hid (by rw [EE.out, if_pos (.inr (by omega))])
        have t1 : (0 : Int) < (o.length : Int) := by omega
        clear EE hn hz
        go_enter Tryz.func215, Tryz.ntmps215
        go_wp2_with fail
        refine (itemsCode_any _ Q _ HV.out).mono ?_
        rintro e w1 ⟨rfl, hb1⟩
        rw [H0.out]
        go_wp2_with fail
        refine (openStructs_any _ Q _ (its_below HV.out hb1) h1 HQ.out).mono ?_
        rintro e w2 ⟨u, rfl, hr, hb2⟩
        rw [HP.out] at hr ⊢
        obtain ⟨_, C, c, rfl, _⟩ := row_ints hr
        go_wp2
        go_ret2
        exact ⟨by rw [EF.out]; rfl, below_step hb1 hb2⟩
  · have EF : Hid (chkI Q = (0, askI Q)) := Lib.hid (by rw [E.out, if_pos h0])
    have t0 : (askI Q != 0) = true := by simpa using h0
    clear h0 E
    go_enter Tryz.func215, Tryz.ntmps215
    go_wp2_with fail
    refine (itemsCode_any _ Q _ HV.out).mono ?_
    rintro e w1 ⟨rfl, hb1⟩
    go_wp2
    go_ret2
    exact ⟨by rw [EF.out]; rfl, hb1⟩

theorem its_upto {w : World} {A : Option Addr} {n c p : Nat} {Q : List It} (h : Its w (.slice A n c) Q) (hp : p ≤ Q.length) : Its w (.slice A p c) (Q.take p) := by
  obtain ⟨h1, A', c', e, hc⟩ := h
  simp only [Value.slice.injEq] at e
  obtain ⟨rfl, rfl, rfl⟩ := e
  have hl : (Q.take p).length = p := by rw [List.length_take]; omega
  refine ⟨by omega, A, c, by rw [hl], fun hq => ?_⟩
  obtain ⟨ad, ha, hc⟩ := hc (by omega)
  exact ⟨ad, ha, fun k hk => by rw [List.getElem_take]; exact hc k (by omega)⟩

end Go.Proofs.YthnbaeamekolmaaGreatDoor
