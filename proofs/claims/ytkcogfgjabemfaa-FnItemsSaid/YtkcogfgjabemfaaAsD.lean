/- impl's CompileItems. -/
import Derived.Test.YtkcogfgjabemfaaAsC
import Derived.Test.YtkcogfgjabemfaaCtC
namespace Go.Proofs.Ytkcogfgjabemfaa
open Go.RowKit
set_option linter.unusedVariables false
set_option linter.unusedSimpArgs false

/-- 'make([]int, 0, n)'. -/
theorem made_room (w : World) (n : Nat) (h0 : n ≤ 1000) : (Instr.makeSlice 24 (.int .i64 0) (.int .i64 (n : Int))).run Try.prog w = .ok (.slice (some ⟨w.heap.size, 0, none⟩) 0 n) (w.alloc (.cells (madeCells (Value.int .i64 0).cells n) 3)) := by
  obtain ⟨i0, hi0, hz0, hz1, hz2⟩ := info_parts own_info3
  have h := run_make (P := Try.prog) w 24 3 i0 _ Try.underlying24 hi0 hz0 .i64 .i64 0 (n : Int) (Int.le_refl _) (by omega) (by rw [hz2]; omega) (by omega)
  rw [hz1, Nat.mul_one] at h
  simpa only [Int.toNat_zero, Int.toNat_natCast] using h

set_option maxRecDepth 100000 in
set_option maxHeartbeats 2000000 in
theorem iComp_any (v : Value) (Q : List It) (a s : Int) (w : World) (hv : Its w v Q) (ha : (Lit.int .i64 a).wf = true) (hs : (Lit.int .i64 s).wf = true) :
    Calls Try.prog 27 #[v, .int .i64 a, .int .i64 s] w (ListCOf w (compI Q a s)) := by
  have HV := Lib.hid hv
  by_cases h0 : (chkI Q).2 = 0
  · have H0 := Lib.hid h0
    obtain ⟨h1, h2, h3⟩ := chkI_ok h0
    obtain ⟨h4, h5⟩ := askI_ok h1
    have HQ := Lib.hid h5
    have HG := Lib.hid h2
    have EA : Hid (compI Q a s = if (inB a 0 400 && inB s 1 103) = false then ([], 4) else if 400 < a + (sumI Q + 1 : Nat) then ([], 7) else ((runC a s Q).1 ++ [53], 0)) := Lib.hid (by unfold compI; rw [if_neg (by simpa using h0)])
    obtain ⟨c0, hc0⟩ : ∃ c0, chkI Q = (c0, 0) := ⟨(chkI Q).1, by rw [← h0]⟩
    have HC := Lib.hid hc0
    clear h0 h1 h2 h3 h5 hc0
    by_cases hneg : a < 0
    · have EF : Hid (compI Q a s = ([], 4)) := Lib.hid (by rw [EA.out, if_pos]; unfold inB; rw [decide_eq_false (by omega)]; rfl)
      go_enter Try.func27, Try.ntmps27
      go_wp2_with fail
      refine (iCheck_any _ Q _ HV.out).mono ?_
      rintro e w1 ⟨rfl, hb1⟩
      rw [HC.out]
      go_wp2
      go_ret2
      exact ⟨_, by rw [EF.out]; rfl, by rw [EF.out]; exact row_nil _ _, hb1⟩
    by_cases hbig : 400 < a
    · have EF : Hid (compI Q a s = ([], 4)) := Lib.hid (by rw [EA.out, if_pos]; unfold inB; rw [decide_eq_false (by omega)]; rfl)
      go_enter Try.func27, Try.ntmps27
      go_wp2_with fail
      refine (iCheck_any _ Q _ HV.out).mono ?_
      rintro e w1 ⟨rfl, hb1⟩
      rw [HC.out]
      go_wp2
      go_ret2
      exact ⟨_, by rw [EF.out]; rfl, by rw [EF.out]; exact row_nil _ _, hb1⟩
    by_cases hself : inB s 1 103 = false
    · have EF : Hid (compI Q a s = ([], 4)) := Lib.hid (by rw [EA.out, if_pos]; rw [hself]; simp)
      have HS := Lib.hid hself
      clear hself
      go_enter Try.func27, Try.ntmps27
      go_wp2_with fail
      refine (iCheck_any _ Q _ HV.out).mono ?_
      rintro e w1 ⟨rfl, hb1⟩
      rw [HC.out]
      go_wp2_with (refine (wordNumber_any _ _).mono ?_; rintro e w' ⟨rfl, rfl⟩; rw [HS.out])
      go_ret2
      exact ⟨_, by rw [EF.out]; rfl, by rw [EF.out]; exact row_nil _ _, hb1⟩
    have hself : inB s 1 103 = true := by simpa using hself
    have EB : Hid (compI Q a s = if 400 < a + (sumI Q + 1 : Nat) then ([], 7) else ((runC a s Q).1 ++ [53], 0)) := Lib.hid (by rw [EA.out, if_neg]; rw [hself]; unfold inB; rw [decide_eq_true (by omega)]; simp)
    have HS := Lib.hid hself
    have hsm := sumI_le Q
    clear hself EA
    by_cases hfull : 400 < a + (sumI Q + 1 : Nat)
    · have EF : Hid (compI Q a s = ([], 7)) := Lib.hid (by rw [EB.out, if_pos hfull])
      clear EB
      go_enter Try.func27, Try.ntmps27
      go_wp2_with fail
      refine (iCheck_any _ Q _ HV.out).mono ?_
      rintro e w1 ⟨rfl, hb1⟩
      rw [HC.out]
      go_wp2_with (go_at_call 76; refine (wordNumber_any _ _).mono ?_; rintro e w' ⟨rfl, rfl⟩; rw [HS.out])
      refine (sizeOfCode_any _ Q _ (its_below HV.out hb1) h4).mono ?_
      rintro e w2 ⟨rfl, hb2⟩
      go_wp2
      go_ret2
      exact ⟨_, by rw [EF.out]; rfl, by rw [EF.out]; exact row_nil _ _, below_step hb1 hb2⟩
    have EF : Hid (compI Q a s = ((runC a s Q).1 ++ [53], 0)) := Lib.hid (by rw [EB.out, if_neg hfull])
    clear EB
    obtain ⟨n, rfl⟩ : ∃ n : Nat, a = n := ⟨a.toNat, by omega⟩
    have hn : n ≤ 400 := by omega
    obtain ⟨z, hz⟩ : ∃ z, z = sumI Q + 1 := ⟨_, rfl⟩
    have HZ := Lib.hid hz
    rw [← hz] at hfull
    have hz2 : z ≤ 400 := by omega
    have MK := Lib.hid (fun W : World => made_room W z (by omega))
    clear hz hneg hbig
    go_enter Try.func27, Try.ntmps27
    go_wp2_with fail
    refine (iCheck_any _ Q _ HV.out).mono ?_
    rintro e w1 ⟨rfl, hb1⟩
    rw [HC.out]
    go_wp2_with (go_at_call 76; refine (wordNumber_any _ _).mono ?_; rintro e w' ⟨rfl, rfl⟩; rw [HS.out])
    refine (sizeOfCode_any _ Q _ (its_below HV.out hb1) h4).mono ?_
    rintro e w2 ⟨rfl, hb2⟩
    have B2 := Lib.hid (below_step hb1 hb2)
    have zz : w.heap.size ≤ w2.heap.size := B2.out.size
    clear hb1 hb2
    rw [← HZ.out]
    have mk := MK.out w2
    have A0 : Hid (AsAt ((w2.alloc (.cells (madeCells (Value.int .i64 0).cells z) 3)).alloc (.cells #[.slice (some ⟨w2.heap.size, 0, none⟩) 0 z, .int .i64 (n : Int), .int .i64 s, .slice none 0 0] 99)) w.heap.size (w2.heap.size + 1) n s [] []) := Lib.hid (by
      have k1 := whole_new (w2.alloc (.cells (madeCells (Value.int .i64 0).cells z) 3)) 99 #[.slice (some ⟨w2.heap.size, 0, none⟩) 0 z, .int .i64 (n : Int), .int .i64 s, .slice none 0 0]
      rw [show (w2.alloc (.cells (madeCells (Value.int .i64 0).cells z) 3)).heap.size = w2.heap.size + 1 from Array.size_push ..] at k1
      have k0 : Row (w2.alloc (.cells (madeCells (Value.int .i64 0).cells z) 3)) w.heap.size (.slice (some ⟨w2.heap.size, 0, none⟩) 0 z) [] := World.ownsRow_made w2 _ z zz (by unfold maxLen; omega) (by rw [size_madeCells, Nat.mul_one])
      exact ⟨_, _, k1, row_alloc k0 _, prow_nil _ _ _, by omega⟩)
    have B3 : Hid (Below w.heap.size w ((w2.alloc (.cells (madeCells (Value.int .i64 0).cells z) 3)).alloc (.cells #[.slice (some ⟨w2.heap.size, 0, none⟩) 0 z, .int .i64 (n : Int), .int .i64 s, .slice none 0 0] 99))) := Lib.hid (below_alloc (below_alloc B2.out _) _)
    obtain ⟨hl, A, cap, rfl, _⟩ := hv
    go_wp2
    generalize w2.heap.size + 1 = G at *
    go_loopw [46] (fun i wr => ∃ (k : Nat) (c : List Int) (m : List It), k ≤ Q.length ∧ i = .int .i64 k ∧ Made n s Q k c m ∧ AsAt wr w.heap.size G n s c m ∧ Below w.heap.size w wr) (fun i _ => Q.length - (intOf i).toNat)
    case atStart => exact ⟨0, [], [], Nat.zero_le _, rfl, made_start _ _ _, A0.out, B3.out⟩
    case round =>
      obtain ⟨k, c, m, hk, rfl, hm, hA, hb⟩ := hrel
      have HM := Lib.hid hm
      have HA := Lib.hid hA
      have HB := Lib.hid hb
      have sm := made_small hm h4
      clear hm hA hb
      by_cases hlt : k < Q.length
      · obtain ⟨_, A', ca', e', hc⟩ := its_below HV.out HB.out
        simp only [Value.slice.injEq, true_and] at e'
        obtain ⟨rfl, rfl⟩ := e'
        obtain ⟨ga, rfl, hx⟩ := hc (by omega)
        obtain ⟨c0, c1⟩ := hx k hlt
        have hi := itB_kind (HQ.out Q[k] (List.getElem_mem hlt))
        have ND := Lib.hid (made_need HM.out HG.out hlt)
        have NX := Lib.hid (made_next HM.out HG.out hlt hi)
        clear hx hc
        go_wp2_with fail
        refine (add_any _ w.heap.size G n s Q[k] c m (asAt_alloc HA.out _) (by omega) (by omega) (by omega) hi ND.out).mono ?_
        rintro e w3 ⟨rfl, hA3, hb3⟩
        have A3 := Lib.hid hA3
        have B4 := Lib.hid ((below_alloc HB.out _).trans hb3)
        clear hA3 hb3 c0 c1
        generalize cStep n s Q[k] c m = r at *
        go_wp2
        go_roundw
        case rel => exact ⟨k + 1, _, _, by omega, by go_num, NX.out, A3.out, B4.out⟩
        case measure => simp [intOf]; omega
      · obtain rfl : k = Q.length := by omega
        obtain ⟨hc1, hc2⟩ := made_end HM.out
        have HC1 := Lib.hid hc1
        clear hlt hc1 hc2
        go_wp2_with fail
        refine (emit_any _ w.heap.size G n s c m _ [53] (asAt_alloc HA.out _) (lit1 _ (by simp)) (by simp; omega)).mono ?_
        rintro e w3 ⟨rfl, hA3, hb3⟩
        have B4 := Lib.hid ((below_alloc HB.out _).trans hb3)
        obtain ⟨vc, vm, hw3, hr3, _, _⟩ := hA3
        have R3 := Lib.hid hr3
        have e0 := whole_cell hw3 0
        have zg := whole_lt hw3
        obtain ⟨_, C, cc, rfl, _⟩ := row_ints hr3
        rw [show (c ++ [(53 : Int)]).length = c.length + 1 by simp] at R3
        clear hw3 hr3 hb3
        go_wp2
        go_ret2
        exact ⟨_, by rw [EF.out]; rfl, by rw [EF.out, ← HC1.out]; exact R3.out, B4.out⟩
  · have EF : Hid (compI Q a s = ([], (chkI Q).2)) := Lib.hid (by unfold compI; rw [if_pos h0])
    have t0 : ((chkI Q).2 != 0) = true := by simpa using h0
    clear h0
    go_enter Try.func27, Try.ntmps27
    go_wp2_with fail
    refine (iCheck_any _ Q _ HV.out).mono ?_
    rintro e w1 ⟨rfl, hb1⟩
    generalize chkI Q = r at *
    go_wp2
    go_ret2
    exact ⟨_, by rw [EF.out]; rfl, by rw [EF.out]; exact row_nil _ _, hb1⟩

end Go.Proofs.Ytkcogfgjabemfaa
