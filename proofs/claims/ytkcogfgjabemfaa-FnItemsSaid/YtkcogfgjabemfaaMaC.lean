/- The given side's CompileItems. -/
import Derived.Test.YtkcogfgjabemfaaMaB
import Derived.Test.YtkcogfgjabemfaaCtC
namespace Go.Proofs.Ytkcogfgjabemfaa
open Go.RowKit
set_option linter.unusedVariables false
set_option linter.unusedSimpArgs false

/-- A row made. -/
def RowMOf (w : World) (c : List Int) (e : Ending) (w' : World) : Prop := ∃ v, e = .returned v ∧ Row w' w.heap.size v c ∧ Below w.heap.size w w'

set_option maxRecDepth 100000 in
set_option maxHeartbeats 1000000 in
theorem sMake_any (v : Value) (Q : List It) (a s : Int) (w : World) (hv : Its w v Q) (h4 : Q.length ≤ 60) (hq : ∀ x ∈ Q, itB x = true) (hg : (goO Q []).1 = Q.length) (ha : 0 ≤ a ∧ a ≤ 400) :
    Calls Try.prog 79 #[v, .int .i64 a, .int .i64 s] w (RowMOf w ((runC a s Q).1 ++ [53])) := by
  have HV := Lib.hid hv
  have HQ := Lib.hid hq
  have HG := Lib.hid hg
  obtain ⟨hl, A, cap, rfl, _⟩ := hv
  clear hq hg
  have A0 : Hid (MdAt (w.alloc (.cells #[.int .i64 a, .slice none 0 0, .slice none 0 0] 158)) w.heap.size w.heap.size a [] []) := Lib.hid ⟨_, _, whole_new w _ _, row_nil _ _, prow_nil _ _ _, Nat.le_refl _⟩
  have B0 : Hid (Below w.heap.size w (w.alloc (.cells #[.int .i64 a, .slice none 0 0, .slice none 0 0] 158))) := Lib.hid (below_alloc (Below.refl _ _) _)
  go_enter Try.func79, Try.ntmps79
  go_wp2
  go_loopw [8] (fun i wr => ∃ (k : Nat) (c : List Int) (m : List It), k ≤ Q.length ∧ i = .int .i64 k ∧ Made a s Q k c m ∧ MdAt wr w.heap.size w.heap.size a c m ∧ Below w.heap.size w wr) (fun i _ => Q.length - (intOf i).toNat)
  case atStart => exact ⟨0, [], [], Nat.zero_le _, rfl, made_start _ _ _, A0.out, B0.out⟩
  case round =>
    obtain ⟨k, c, m, hk, rfl, hm, hA, hb⟩ := hrel
    have HM := Lib.hid hm
    have HA := Lib.hid hA
    have HB := Lib.hid hb
    have sm := made_small hm h4
    clear hm hA hb
    by_cases hlt : k < Q.length
    · obtain ⟨_, A', ca', e', hc⟩ := its_below HV.out HB.out
      simp only [Value.slice.injEq, true_and] at e'
      obtain ⟨rfl, rfl⟩ := e'
      obtain ⟨ga, rfl, hx⟩ := hc (by omega)
      obtain ⟨c0, c1⟩ := hx k hlt
      have hi := itB_kind (HQ.out Q[k] (List.getElem_mem hlt))
      have ND := Lib.hid (made_need HM.out HG.out hlt)
      have NX := Lib.hid (made_next HM.out HG.out hlt hi)
      clear hx hc
      go_wp2_with fail
      refine (item_any _ w.heap.size w.heap.size a s Q[k] c m HA.out ha (by omega) (by omega) hi ND.out).mono ?_
      rintro e w3 ⟨rfl, hA3, hb3⟩
      have A3 := Lib.hid hA3
      have B4 := Lib.hid (HB.out.trans hb3)
      clear hA3 hb3 c0 c1
      generalize cStep a s Q[k] c m = r at *
      go_wp2
      go_roundw
      case rel => exact ⟨k + 1, _, _, by omega, by go_num, NX.out, A3.out, B4.out⟩
      case measure => simp [intOf]; omega
    · obtain rfl : k = Q.length := by omega
      obtain ⟨hc1, hc2⟩ := made_end HM.out
      have HC1 := Lib.hid hc1
      clear hlt hc1 hc2
      go_wp2_with fail
      refine (sW_EXIT _).mono ?_
      rintro e w2 ⟨rfl, hb2⟩
      have A2 := Lib.hid (mdAt_below HA.out hb2)
      have B2 := Lib.hid (below_step HB.out hb2)
      clear hb2
      go_wp2_with fail
      refine (sPut_any _ w.heap.size w.heap.size a c m _ [53] (mdAt_alloc A2.out _) (lit1 _ (by simp)) (by simp; omega)).mono ?_
      rintro e w3 ⟨⟨rfl, hA3, hb3⟩, _⟩
      have B4 := Lib.hid ((below_alloc B2.out _).trans hb3)
      obtain ⟨vc, vm, hw3, hr3, _, _⟩ := hA3
      have R3 := Lib.hid hr3
      have e0 := whole_cell hw3 1
      have zg := whole_lt hw3
      obtain ⟨_, C, cc, rfl, _⟩ := row_ints hr3
      rw [show (c ++ [(53 : Int)]).length = c.length + 1 by simp] at R3
      clear hw3 hr3 hb3
      go_wp2
      go_ret
      exact ⟨_, rfl, by rw [← HC1.out]; exact R3.out, B4.out⟩

set_option maxRecDepth 100000 in
set_option maxHeartbeats 2000000 in
theorem sComp_any (v : Value) (Q : List It) (a s : Int) (w : World) (hv : Its w v Q) (ha : (Lit.int .i64 a).wf = true) (hs : (Lit.int .i64 s).wf = true) :
    Calls Try.prog 28 #[v, .int .i64 a, .int .i64 s] w (ListCOf w (compI Q a s)) := by
  have HV := Lib.hid hv
  obtain ⟨hl, A, cap, rfl, _⟩ := hv
  unfold maxLen at hl
  by_cases hbg : 4096 < Q.length
  · have t1 : (4096 : Int) < (Q.length : Int) := by omega
    have EF : Hid (compI Q a s = ([], 2)) := Lib.hid (by unfold compI chkI askI; simp [hbg])
    clear hbg
    go_enter Try.func28, Try.ntmps28
    go_wp2
    go_ret2
    exact ⟨_, by rw [EF.out]; rfl, by rw [EF.out]; exact row_fresh _ (Nat.le_refl _), below_alloc (Below.refl _ _) _⟩
  have t1 : ¬ (4096 : Int) < (Q.length : Int) := by omega
  clear hbg
  by_cases hask : askI Q = 0
  · have HA := Lib.hid hask
    obtain ⟨h4, h5⟩ := askI_ok hask
    have HQ := Lib.hid h5
    have EP : Hid (chkI Q = placeI Q) := Lib.hid (by unfold chkI placeI; rw [if_neg (by simpa using hask)])
    clear h5 hask
    by_cases h0 : (chkI Q).2 = 0
    · obtain ⟨h1, h2, h3⟩ := chkI_ok h0
      have HG := Lib.hid h2
      have EA : Hid (compI Q a s = if (inB a 0 400 && inB s 1 103) = false then ([], 4) else if 400 < a + (sumI Q + 1 : Nat) then ([], 7) else ((runC a s Q).1 ++ [53], 0)) := Lib.hid (by unfold compI; rw [if_neg (by simpa using h0)])
      obtain ⟨c0, hc0⟩ : ∃ c0, placeI Q = (c0, 0) := ⟨(chkI Q).1, by rw [← EP.out, ← h0]⟩
      have HC := Lib.hid hc0
      clear h0 h1 h2 h3 hc0
      by_cases hin : inB a 0 400 = false
      · have EF : Hid (compI Q a s = ([], 4)) := Lib.hid (by rw [EA.out, if_pos]; rw [hin]; rfl)
        have HI := Lib.hid hin
        clear hin
        go_enter Try.func28, Try.ntmps28
        go_wp2_with fail
        refine (sAsk_any _ Q _ HV.out).mono ?_
        rintro e w1 ⟨rfl, hb1⟩
        rw [HA.out]
        go_wp2_with fail
        refine (sPlace_any _ Q _ (its_below HV.out hb1) h4 HQ.out).mono ?_
        rintro e w2 ⟨rfl, hb2⟩
        rw [HC.out]
        have B2 := Lib.hid (below_step hb1 hb2)
        clear hb1 hb2
        go_wp2_with (refine (sIn_any _ _ _ _).mono ?_; rintro e w' ⟨rfl, rfl⟩; rw [HI.out])
        go_ret2
        exact ⟨_, by rw [EF.out]; rfl, by rw [EF.out]; exact row_fresh _ B2.out.size, below_alloc B2.out _⟩
      have hin : inB a 0 400 = true := by simpa using hin
      by_cases hself : inB s 1 103 = false
      · have EF : Hid (compI Q a s = ([], 4)) := Lib.hid (by rw [EA.out, if_pos]; rw [hself]; simp)
        have HI := Lib.hid hin
        have HS := Lib.hid hself
        clear hself hin
        go_enter Try.func28, Try.ntmps28
        go_wp2_with fail
        refine (sAsk_any _ Q _ HV.out).mono ?_
        rintro e w1 ⟨rfl, hb1⟩
        rw [HA.out]
        go_wp2_with fail
        refine (sPlace_any _ Q _ (its_below HV.out hb1) h4 HQ.out).mono ?_
        rintro e w2 ⟨rfl, hb2⟩
        rw [HC.out]
        have B2 := Lib.hid (below_step hb1 hb2)
        clear hb1 hb2
        go_wp2_with (refine (sIn_any _ _ _ _).mono ?_; rintro e w' ⟨rfl, rfl⟩; first | rw [HI.out] | rw [HS.out])
        go_ret2
        exact ⟨_, by rw [EF.out]; rfl, by rw [EF.out]; exact row_fresh _ B2.out.size, below_alloc B2.out _⟩
      have hself : inB s 1 103 = true := by simpa using hself
      have EB : Hid (compI Q a s = if 400 < a + (sumI Q + 1 : Nat) then ([], 7) else ((runC a s Q).1 ++ [53], 0)) := Lib.hid (by rw [EA.out, if_neg]; rw [hself, hin]; simp)
      have HI := Lib.hid hin
      have HS := Lib.hid hself
      have hain : 0 ≤ a ∧ a ≤ 400 := by unfold inB at hin; simpa using hin
      have hsm := sumI_le Q
      clear hself hin EA
      by_cases hfull : 400 < a + (sumI Q + 1 : Nat)
      · have EF : Hid (compI Q a s = ([], 7)) := Lib.hid (by rw [EB.out, if_pos hfull])
        clear EB
        go_enter Try.func28, Try.ntmps28
        go_wp2_with fail
        refine (sAsk_any _ Q _ HV.out).mono ?_
        rintro e w1 ⟨rfl, hb1⟩
        rw [HA.out]
        go_wp2_with fail
        refine (sPlace_any _ Q _ (its_below HV.out hb1) h4 HQ.out).mono ?_
        rintro e w2 ⟨rfl, hb2⟩
        rw [HC.out]
        have B2 := Lib.hid (below_step hb1 hb2)
        clear hb1 hb2
        go_wp2_with (go_at_call 58; refine (sIn_any _ _ _ _).mono ?_; rintro e w' ⟨rfl, rfl⟩; first | rw [HI.out] | rw [HS.out])
        refine (sSum_any _ Q _ (its_below HV.out B2.out) h4).mono ?_
        rintro e w3 ⟨rfl, hb3⟩
        have B3 := Lib.hid (below_step B2.out hb3)
        clear hb3
        go_wp2
        go_ret2
        exact ⟨_, by rw [EF.out]; rfl, by rw [EF.out]; exact row_fresh _ B3.out.size, below_alloc B3.out _⟩
      have EF : Hid (compI Q a s = ((runC a s Q).1 ++ [53], 0)) := Lib.hid (by rw [EB.out, if_neg hfull])
      clear EB
      go_enter Try.func28, Try.ntmps28
      go_wp2_with fail
      refine (sAsk_any _ Q _ HV.out).mono ?_
      rintro e w1 ⟨rfl, hb1⟩
      rw [HA.out]
      go_wp2_with fail
      refine (sPlace_any _ Q _ (its_below HV.out hb1) h4 HQ.out).mono ?_
      rintro e w2 ⟨rfl, hb2⟩
      rw [HC.out]
      have B2 := Lib.hid (below_step hb1 hb2)
      clear hb1 hb2
      go_wp2_with (go_at_call 58; refine (sIn_any _ _ _ _).mono ?_; rintro e w' ⟨rfl, rfl⟩; first | rw [HI.out] | rw [HS.out])
      refine (sSum_any _ Q _ (its_below HV.out B2.out) h4).mono ?_
      rintro e w3 ⟨rfl, hb3⟩
      have B3 := Lib.hid (below_step B2.out hb3)
      clear hb3
      go_wp2_with fail
      refine (sMake_any _ Q a s _ (its_below HV.out B3.out) h4 HQ.out HG.out hain).mono ?_
      rintro e w4 ⟨u, rfl, hr4, hb4⟩
      have B4 := Lib.hid (below_step B3.out hb4)
      have R4 := Lib.hid (row_base hr4 B3.out.size)
      clear hb4 hr4
      go_wp2
      go_ret2
      exact ⟨_, by rw [EF.out]; rfl, by rw [EF.out]; exact R4.out, B4.out⟩
    · have EF : Hid (compI Q a s = ([], (placeI Q).2)) := Lib.hid (by unfold compI; rw [if_pos h0, EP.out])
      have t0 : ((placeI Q).2 != 0) = true := by rw [EP.out] at h0; simpa using h0
      clear h0
      go_enter Try.func28, Try.ntmps28
      go_wp2_with fail
      refine (sAsk_any _ Q _ HV.out).mono ?_
      rintro e w1 ⟨rfl, hb1⟩
      rw [HA.out]
      go_wp2_with fail
      refine (sPlace_any _ Q _ (its_below HV.out hb1) h4 HQ.out).mono ?_
      rintro e w2 ⟨rfl, hb2⟩
      have B2 := Lib.hid (below_step hb1 hb2)
      clear hb1 hb2
      generalize placeI Q = pl at *
      go_wp2
      go_ret2
      exact ⟨_, by rw [EF.out]; rfl, by rw [EF.out]; exact row_fresh _ B2.out.size, below_alloc B2.out _⟩
  · have EF : Hid (compI Q a s = ([], askI Q)) := Lib.hid (by unfold compI chkI; rw [if_pos hask, if_pos hask])
    have t0 : (askI Q != 0) = true := by simpa using hask
    clear hask
    go_enter Try.func28, Try.ntmps28
    go_wp2_with fail
    refine (sAsk_any _ Q _ HV.out).mono ?_
    rintro e w1 ⟨rfl, hb1⟩
    go_wp2
    go_ret2
    exact ⟨_, by rw [EF.out]; rfl, by rw [EF.out]; exact row_fresh _ hb1.size, below_alloc hb1 _⟩

end Go.Proofs.Ytkcogfgjabemfaa
