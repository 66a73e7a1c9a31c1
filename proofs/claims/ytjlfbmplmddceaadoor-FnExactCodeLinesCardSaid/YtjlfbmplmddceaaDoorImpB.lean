/- impl's dictionary: a word of a script, DictOK, KernelSame, TokenOK. -/
import Derived.Test.YtjlfbmplmddceaaDoorImpA
namespace Go.Proofs.YtjlfbmplmddceaaDoor
open Go.RowKit
set_option linter.unusedVariables false
set_option linter.unusedSimpArgs false

set_option maxRecDepth 100000 in
set_option maxHeartbeats 1000000 in
theorem holdsColon_any (v : Int) (w : World) :
    Calls Tryd.prog 127 #[.agg #[.int .i64 0, .int .i64 399, .int .i64 1], .int .i64 v] w fun e w' => e = .returned (.bool (inB v 0 399)) ∧ Below w.heap.size w w' := by
  by_cases h : 0 ≤ v
  · by_cases h' : v ≤ 399
    · have E : Hid (inB v 0 399 = true) := Lib.hid (by unfold inB; simp; omega)
      have t1 : (v % 1 == 0) = true := by rw [beq_iff_eq]; omega
      go_enter Tryd.func127, Tryd.ntmps127
      go_wp2
      go_ret
      exact ⟨ret_bool E.out.symm, below_allocW (Below.refl _ _) _⟩
    · have E : Hid (inB v 0 399 = false) := Lib.hid (by unfold inB; simp; omega)
      go_enter Tryd.func127, Tryd.ntmps127
      go_wp2
      go_ret
      exact ⟨ret_bool E.out.symm, below_allocW (Below.refl _ _) _⟩
  · have E : Hid (inB v 0 399 = false) := Lib.hid (by unfold inB; simp; omega)
    go_enter Tryd.func127, Tryd.ntmps127
    go_wp2
    go_ret
    exact ⟨ret_bool E.out.symm, below_allocW (Below.refl _ _) _⟩

set_option maxRecDepth 100000 in
set_option maxHeartbeats 1000000 in
theorem holdsVar_any (v : Int) (w : World) :
    Calls Tryd.prog 127 #[.agg #[.int .i64 4096, .int .i64 4220, .int .i64 4], .int .i64 v] w fun e w' => e = .returned (.bool (inB v 4096 4220 && decide (v % 4 = 0))) ∧ Below w.heap.size w w' := by
  by_cases h : 4096 ≤ v
  · by_cases h' : v ≤ 4220
    · by_cases hm : v % 4 = 0
      · have E : Hid ((inB v 4096 4220 && decide (v % 4 = 0)) = true) := Lib.hid (by unfold inB; simp; omega)
        have t1 : ((v - 4096) % 4 == 0) = true := by rw [beq_iff_eq]; omega
        clear hm
        go_enter Tryd.func127, Tryd.ntmps127
        go_wp2
        go_ret
        exact ⟨ret_bool E.out.symm, below_allocW (Below.refl _ _) _⟩
      · have E : Hid ((inB v 4096 4220 && decide (v % 4 = 0)) = false) := Lib.hid (by unfold inB; simp; omega)
        have t1 : ((v - 4096) % 4 == 0) = false := by rw [beq_eq_false_iff_ne]; omega
        clear hm
        go_enter Tryd.func127, Tryd.ntmps127
        go_wp2
        go_ret
        exact ⟨ret_bool E.out.symm, below_allocW (Below.refl _ _) _⟩
    · have E : Hid ((inB v 4096 4220 && decide (v % 4 = 0)) = false) := Lib.hid (by unfold inB; simp; omega)
      go_enter Tryd.func127, Tryd.ntmps127
      go_wp2
      go_ret
      exact ⟨ret_bool E.out.symm, below_allocW (Below.refl _ _) _⟩
  · have E : Hid ((inB v 4096 4220 && decide (v % 4 = 0)) = false) := Lib.hid (by unfold inB; simp; omega)
    go_enter Tryd.func127, Tryd.ntmps127
    go_wp2
    go_ret
    exact ⟨ret_bool E.out.symm, below_allocW (Below.refl _ _) _⟩

/-- The test of a kind's values. -/
def testV (k : Int) : Value := if k = 6 then .func (.func 127) #[.agg #[.int .i64 0, .int .i64 399, .int .i64 1]] #[] else if k = 7 then .func (.func 127) #[.agg #[.int .i64 4096, .int .i64 4220, .int .i64 4]] #[] else if k = 8 then .func (.func 101) #[] #[] else .nilFunc

set_option maxRecDepth 100000 in
set_option maxHeartbeats 1000000 in
theorem valueTest_any (k : Int) (w : World) :
    Calls Tryd.prog 119 #[.int .i64 k] w fun e w' => e = .returned (testV k) ∧ w = w' := by
  have hmf : ∀ (fn : Fn) (first cap : Array Value) (w : World), (Instr.makeFunc fn first cap).run Tryd.prog w = .ok (.func fn first cap) w := fun _ _ _ _ => rfl
  by_cases k6 : k = 6
  · have E := Lib.hid (show testV k = _ from if_pos k6)
    have t6 : (k == 6) = true := by simp [k6]
    clear k6
    go_enter Tryd.func119, Tryd.ntmps119
    go_wp2
    go_ret
    exact ⟨congrArg Ending.returned E.out.symm, rfl⟩
  · have t6 : (k == 6) = false := by simp [k6]
    by_cases k7 : k = 7
    · have E := Lib.hid (show testV k = _ from (if_neg k6).trans (if_pos k7))
      have t7 : (k == 7) = true := by simp [k7]
      clear k6 k7
      go_enter Tryd.func119, Tryd.ntmps119
      go_wp2
      go_ret
      exact ⟨congrArg Ending.returned E.out.symm, rfl⟩
    · have t7 : (k == 7) = false := by simp [k7]
      by_cases k8 : k = 8
      · have E := Lib.hid (show testV k = _ from (if_neg k6).trans ((if_neg k7).trans (if_pos k8)))
        have t8 : (k == 8) = true := by simp [k8]
        clear k6 k7 k8
        go_enter Tryd.func119, Tryd.ntmps119
        go_wp2
        go_ret
        exact ⟨congrArg Ending.returned E.out.symm, rfl⟩
      · have E := Lib.hid (show testV k = _ from (if_neg k6).trans ((if_neg k7).trans (if_neg k8)))
        have t8 : (k == 8) = false := by simp [k8]
        clear k6 k7 k8
        go_enter Tryd.func119, Tryd.ntmps119
        go_wp2
        go_ret
        exact ⟨congrArg Ending.returned E.out.symm, rfl⟩

theorem func_set (fn : Fn) (a b : Array Value) (W : World) : (binOp .neq 95 (.func fn a b) .nilFunc).run Tryd.prog W = .ok (.bool true) W := by kernel_rfl

theorem func_nil (W : World) : (binOp .neq 95 .nilFunc .nilFunc).run Tryd.prog W = .ok (.bool false) W := by kernel_rfl

set_option maxRecDepth 100000 in
set_option maxHeartbeats 2000000 in
theorem iUser_any (x : Wd) (w : World) (hx : x.n.size ≤ maxLen) :
    Calls Tryd.prog 79 #[.agg #[.string x.n, .int .i64 x.k, .int .i64 x.v]] w fun e w' => e = .returned (.bool (userB x)) ∧ Below w.heap.size w w' := by
  have BB : Hid (∀ o : Obj, Below w.heap.size w (w.alloc o)) := Lib.hid fun o => below_allocW (Below.refl _ _) o
  have HX := Lib.hid hx
  clear hx
  by_cases k6 : x.k = 6
  · have T : Hid (testV x.k = .func (.func 127) #[.agg #[.int .i64 0, .int .i64 399, .int .i64 1]] #[]) := Lib.hid (if_pos k6)
    have V : Hid (valB x.k x.v = inB x.v 0 399) := Lib.hid (by unfold valB; rw [if_pos k6])
    clear k6
    go_enter Tryd.func79, Tryd.ntmps79
    go_wp2_with fail
    refine (valueTest_any _ _).mono ?_
    rintro e w' ⟨rfl, rfl⟩
    rw [T.out]
    have hfs := func_set
    go_wp2_with fail
    refine (wordOK_any _ _ HX.out).mono ?_
    rintro e w' ⟨rfl, rfl⟩
    cases hw : wordL x.n.data.toList
    · have E : Hid (userB x = false) := Lib.hid (by unfold userB; rw [hw]; rfl)
      go_wp2
      go_ret
      exact ⟨ret_bool E.out.symm, BB.out _⟩
    · have E : Hid (userB x = valB x.k x.v) := Lib.hid (by unfold userB; rw [hw]; rfl)
      go_wp2_with fail
      refine (holdsColon_any _ _).mono ?_
      rintro e w1 ⟨rfl, hb1⟩
      have B1 := Lib.hid (below_stepW (BB.out _) hb1)
      clear hb1
      generalize inB x.v 0 399 = r at *
      go_wp2
      go_ret
      exact ⟨ret_bool (V.out.symm.trans E.out.symm), B1.out⟩
  · by_cases k7 : x.k = 7
    · have T : Hid (testV x.k = .func (.func 127) #[.agg #[.int .i64 4096, .int .i64 4220, .int .i64 4]] #[]) := Lib.hid ((if_neg k6).trans (if_pos k7))
      have V : Hid (valB x.k x.v = (inB x.v 4096 4220 && decide (x.v % 4 = 0))) := Lib.hid (by unfold valB; rw [if_neg k6, if_pos k7])
      clear k6 k7
      go_enter Tryd.func79, Tryd.ntmps79
      go_wp2_with fail
      refine (valueTest_any _ _).mono ?_
      rintro e w' ⟨rfl, rfl⟩
      rw [T.out]
      have hfs := func_set
      go_wp2_with fail
      refine (wordOK_any _ _ HX.out).mono ?_
      rintro e w' ⟨rfl, rfl⟩
      cases hw : wordL x.n.data.toList
      · have E : Hid (userB x = false) := Lib.hid (by unfold userB; rw [hw]; rfl)
        go_wp2
        go_ret
        exact ⟨ret_bool E.out.symm, BB.out _⟩
      · have E : Hid (userB x = valB x.k x.v) := Lib.hid (by unfold userB; rw [hw]; rfl)
        go_wp2_with fail
        refine (holdsVar_any _ _).mono ?_
        rintro e w1 ⟨rfl, hb1⟩
        have B1 := Lib.hid (below_stepW (BB.out _) hb1)
        clear hb1
        generalize (inB x.v 4096 4220 && decide (x.v % 4 = 0)) = r at *
        go_wp2
        go_ret
        exact ⟨ret_bool (V.out.symm.trans E.out.symm), B1.out⟩
    · by_cases k8 : x.k = 8
      · have T : Hid (testV x.k = .func (.func 101) #[] #[]) := Lib.hid ((if_neg k6).trans ((if_neg k7).trans (if_pos k8)))
        have V : Hid (valB x.k x.v = cellB x.v) := Lib.hid (by unfold valB; rw [if_neg k6, if_neg k7, if_pos k8])
        clear k6 k7 k8
        go_enter Tryd.func79, Tryd.ntmps79
        go_wp2_with fail
        refine (valueTest_any _ _).mono ?_
        rintro e w' ⟨rfl, rfl⟩
        rw [T.out]
        have hfs := func_set
        go_wp2_with fail
        refine (wordOK_any _ _ HX.out).mono ?_
        rintro e w' ⟨rfl, rfl⟩
        cases hw : wordL x.n.data.toList
        · have E : Hid (userB x = false) := Lib.hid (by unfold userB; rw [hw]; rfl)
          go_wp2
          go_ret
          exact ⟨ret_bool E.out.symm, BB.out _⟩
        · have E : Hid (userB x = valB x.k x.v) := Lib.hid (by unfold userB; rw [hw]; rfl)
          go_wp2_with fail
          refine (cellOK_any _ _).mono ?_
          rintro e w' ⟨rfl, rfl⟩
          generalize cellB x.v = r at *
          go_wp2
          go_ret
          exact ⟨ret_bool (V.out.symm.trans E.out.symm), BB.out _⟩
      · have T : Hid (testV x.k = .nilFunc) := Lib.hid ((if_neg k6).trans ((if_neg k7).trans (if_neg k8)))
        have V : Hid (valB x.k x.v = false) := Lib.hid (by unfold valB; rw [if_neg k6, if_neg k7, if_neg k8])
        clear k6 k7 k8
        go_enter Tryd.func79, Tryd.ntmps79
        go_wp2_with fail
        refine (valueTest_any _ _).mono ?_
        rintro e w' ⟨rfl, rfl⟩
        rw [T.out]
        have hfs := func_nil
        have E : Hid (userB x = false) := Lib.hid (by unfold userB; rw [V.out, Bool.and_false])
        go_wp2
        go_ret
        exact ⟨ret_bool E.out.symm, BB.out _⟩

set_option maxRecDepth 100000 in
set_option maxHeartbeats 4000000 in
theorem iDict_any (v : Value) (Q : List Wd) (w : World) (hv : Wds w v Q) (ht : Tabs w) :
    Calls Tryd.prog 37 #[v] w fun e w' => e = .returned (.bool (dictB Q)) ∧ Below w.heap.size w w' := by
  have HV := Lib.hid hv
  have HT := Lib.hid ht
  obtain ⟨A, ca, rfl, hcap, hl, hn⟩ := wds_form hv
  have HN := Lib.hid hn
  have hcm : ca ≤ ca := Nat.le_refl _
  unfold maxLen at hl
  clear hn hv ht
  by_cases h103 : 103 < Q.length
  · have E := Lib.hid (dict_long h103)
    have t0 : decide ((103 : Int) < (Q.length : Int)) = true := by simp; omega
    go_enter Tryd.func37, Tryd.ntmps37
    go_wp2
    go_ret
    exact ⟨ret_bool E.out.symm, Below.refl _ _⟩
  · have t0 : decide ((103 : Int) < (Q.length : Int)) = false := by simp; omega
    cases hk : kernB Q
    · have E := Lib.hid (dict_kern hk)
      go_enter Tryd.func37, Tryd.ntmps37
      go_wp2_with fail
      refine (iStarts_any _ _ _ HV.out HT.out).mono ?_
      rintro e w1 ⟨rfl, hb⟩
      rw [hk]
      go_wp2
      go_ret
      exact ⟨ret_bool E.out.symm, hb⟩
    · have h83 := kernB_len hk
      have HK := Lib.hid hk
      obtain ⟨g, rfl⟩ := wds_block HV.out (by omega)
      go_enter Tryd.func37, Tryd.ntmps37
      go_wp2_with fail
      refine (iStarts_any _ _ _ HV.out HT.out).mono ?_
      rintro e w1 ⟨rfl, hb⟩
      rw [hk]
      have B1 := Lib.hid hb
      clear hb hk
      by_cases hc83 : ca = 83
      · subst hc83
        have hq : Q.length = 83 := by omega
        have E := Lib.hid (dict_end (by rw [hq]; exact userTo_start Q) (by omega) HK.out)
        have HQ := Lib.hid hq
        rw [HQ.out]
        clear hq
        go_wp2
        go_loop [16] (fun i => i = .int .i64 0) (fun i => 0)
        case atStart => rfl
        case round =>
          obtain rfl := hrel
          go_wp2
          go_ret
          exact ⟨ret_bool E.out.symm, B1.out⟩
      · go_wp2
        obtain ⟨m, hm⟩ : ∃ m, Q.length - 83 = m := ⟨_, rfl⟩
        rw [hm]
        have HM : Hid (Q.length = 83 + m) := Lib.hid (by omega)
        clear hm
        go_loopw [16] (fun i wr => ∃ k : Nat, k ≤ m ∧ i = .int .i64 k ∧ UserTo Q (83 + k) ∧ Below w.heap.size w wr) (fun i _ => m - (intOf i).toNat)
        case atStart => exact ⟨0, Nat.zero_le _, rfl, userTo_start Q, B1.out⟩
        case round =>
          obtain ⟨k, hk, rfl, hu, hb⟩ := hrel
          have HU := Lib.hid hu
          have HB := Lib.hid hb
          clear hu hb
          by_cases hlt : k < m
          · have hlq : 83 + k < Q.length := by have := HM.out; omega
            have hxs : Q[83 + k].n.size ≤ maxLen := HN.out _ (List.getElem_mem hlq)
            have HX := Lib.hid hxs
            have WA := wds_word (wds_below HV.out HB.out) (83 + k) hlq
            rw [show (83 + k) * 3 = 249 + k * 3 by omega] at WA
            obtain ⟨c0, c1, c2⟩ := WA
            have NX := Lib.hid (userTo_next HU.out hlq (by omega))
            have NN := Lib.hid (dict_not hlq (by omega))
            clear hxs
            generalize Q[83 + k] = x at *
            simp only [] at c0 c1 c2
            go_wp2_with fail
            refine (iUser_any x _ HX.out).mono ?_
            rintro e w2 ⟨rfl, hb⟩
            have B2 := Lib.hid (below_stepW (below_allocW HB.out _) hb)
            clear hb c0 c1 c2
            cases hu : userB x
            · have E := Lib.hid (NN.out hu)
              clear hu
              go_wp2
              go_ret
              exact ⟨ret_bool E.out.symm, B2.out⟩
            · have E := Lib.hid (NX.out hu)
              clear hu
              go_wp2
              go_roundw
              case rel => exact ⟨k + 1, by omega, by go_num, E.out, B2.out⟩
              case measure => simp [intOf]; omega
          · obtain rfl : k = m := by omega
            have E := Lib.hid (dict_end (by rw [HM.out]; exact HU.out) (by omega) HK.out)
            clear hlt
            go_wp2
            go_ret
            exact ⟨ret_bool E.out.symm, HB.out⟩

end Go.Proofs.YtjlfbmplmddceaaDoor
