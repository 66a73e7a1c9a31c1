/- spec's test whether a list begins with the kernel; a word of a script; a dictionary. -/
import Derived.Test.YtjlfbmplmddceaaDoorKerB
namespace Go.Proofs.YtjlfbmplmddceaaDoor
open Go.RowKit
set_option linter.unusedVariables false
set_option linter.unusedSimpArgs false

/-- Does the list begin with the kernel? -/
def kernB (Q : List Wd) : Bool := decide (Q.take 83 = kernW)

/-- The first k words are the kernel's. -/
def KernTo (Q : List Wd) (k : Nat) : Prop := Q.take k = kernW.take k

theorem kernTo_zero (Q : List Wd) : KernTo Q 0 := by unfold KernTo; simp

theorem kernTo_next {Q : List Wd} {k : Nat} (h : KernTo Q k) (hk : k < Q.length) (h83 : k < 83) (e : Q[k] = kernAt k) : KernTo Q (k + 1) := by
  unfold KernTo at *
  rw [List.take_succ_eq_append_getElem hk, kernW_take h83, h, e]

theorem kernTo_end {Q : List Wd} (h : KernTo Q 83) : kernB Q = true := by
  unfold KernTo at h
  unfold kernB
  rw [decide_eq_true_iff, h, List.take_of_length_le (by rw [kernW_len]; exact Nat.le_refl _)]

theorem kernB_short {Q : List Wd} (h : Q.length < 83) : kernB Q = false := by
  unfold kernB
  rw [decide_eq_false_iff_not]
  intro e
  have := congrArg List.length e
  rw [kernW_len, List.length_take] at this
  omega

theorem kernB_not {Q : List Wd} {k : Nat} (hk : k < Q.length) (h83 : k < 83) (e : Q[k] ≠ kernAt k) : kernB Q = false := by
  unfold kernB
  rw [decide_eq_false_iff_not]
  intro h
  apply e
  have h1 : (Q.take 83)[k]? = kernW[k]? := by rw [h]
  rw [List.getElem?_take_of_lt h83, List.getElem?_eq_getElem hk, List.getElem?_eq_getElem (by rw [kernW_len]; exact h83), kernW_at] at h1
  exact Option.some.inj h1

theorem kernB_len {Q : List Wd} (h : kernB Q = true) : 83 ≤ Q.length := by
  rcases Nat.lt_or_ge Q.length 83 with hl | hl
  · rw [kernB_short hl] at h; cases h
  · exact hl

theorem kernB_at {Q : List Wd} (h : kernB Q = true) {k : Nat} (hk : k < Q.length) (h83 : k < 83) : Q[k] = kernAt k := Classical.byContradiction fun e => by rw [kernB_not hk h83 e] at h; cases h

theorem text_same (a b : ByteArray) : (a.toList == b.toList) = decide (a = b) := by
  rw [Lib.toList_data, Lib.toList_data]
  by_cases h : a = b
  · subst h; simp
  · rw [decide_eq_false h, beq_eq_false_iff_ne]
    intro e
    exact h (by
      obtain ⟨⟨x⟩⟩ := a
      obtain ⟨⟨y⟩⟩ := b
      simp at e
      rw [e])

theorem wd_ext {x y : Wd} (h1 : x.n = y.n) (h2 : x.k = y.k) (h3 : x.v = y.v) : x = y := by
  obtain ⟨a, b, c⟩ := x
  obtain ⟨d, e, f⟩ := y
  simp only at h1 h2 h3
  subst h1 h2 h3
  rfl

set_option maxRecDepth 100000 in
set_option maxHeartbeats 4000000 in
theorem sKSame_any (v : Value) (Q : List Wd) (w : World) (hv : Wds w v Q) :
    Calls Tryd.prog 75 #[v] w fun e w' => e = .returned (.bool (kernB Q)) ∧ Below w.heap.size w w' := by
  have HV := Lib.hid hv
  obtain ⟨hl, hn, A, ca, rfl, _, _⟩ := hv
  unfold maxLen at hl
  clear hn
  go_enter Tryd.func75, Tryd.ntmps75
  go_wp2_with fail
  refine (sKernel_any _).mono ?_
  rintro e w1 ⟨u, rfl, hr, _, hb⟩
  have KW := Lib.hid (wrow_wds hr)
  have B1 := Lib.hid hb
  obtain ⟨_, _, B, cb, rfl, _, _⟩ := wrow_wds hr
  have KL := Lib.hid kernW_len
  clear hr hb
  rw [kernW_len]
  by_cases hs : Q.length < 83
  · have E := Lib.hid (kernB_short hs)
    have t0 : decide ((Q.length : Int) < ((83 : Nat) : Int)) = true := by simp; omega
    go_wp2
    go_ret
    exact ⟨ret_bool E.out.symm, B1.out⟩
  · have t0 : decide ((Q.length : Int) < ((83 : Nat) : Int)) = false := by simp; omega
    go_wp2
    go_loopw [4] (fun i wr => ∃ k : Nat, k ≤ 83 ∧ i = .int .i64 k ∧ KernTo Q k ∧ Below w1.heap.size w1 wr) (fun i _ => 83 - (intOf i).toNat)
    case atStart => exact ⟨0, Nat.zero_le _, rfl, kernTo_zero Q, Below.refl _ _⟩
    case round =>
      obtain ⟨k, hk, rfl, hkt, hb⟩ := hrel
      have HB := Lib.hid hb
      have HK := Lib.hid hkt
      clear hb hkt
      by_cases hlt : k < 83
      · have hlq : k < Q.length := by omega
        obtain ⟨_, _, A', ca', e', _, hc⟩ := wds_below HV.out (below_stepW B1.out HB.out)
        simp only [Value.slice.injEq, true_and] at e'
        obtain ⟨rfl, rfl⟩ := e'
        obtain ⟨ga, rfl, ha⟩ := hc (by omega)
        obtain ⟨_, _, B', cb', e', _, hc⟩ := wds_below KW.out HB.out
        simp only [Value.slice.injEq, true_and] at e'
        obtain ⟨rfl, rfl⟩ := e'
        obtain ⟨gb, rfl, hb⟩ := hc (by rw [KL.out]; omega)
        have WA := ha k hlq
        have WB := hb k (by rw [KL.out]; exact hlt)
        rw [kernW_at] at WB
        clear ha hb hc
        have NX : Hid (Q[k] = kernAt k → KernTo Q (k + 1)) := Lib.hid (kernTo_next HK.out hlq hlt)
        have NN : Hid (Q[k] ≠ kernAt k → kernB Q = false) := Lib.hid (kernB_not hlq hlt)
        have B2 := Lib.hid (below_stepW B1.out HB.out)
        generalize Q[k] = x at *
        generalize kernAt k = y at *
        obtain ⟨a0, a1, a2⟩ := WA
        obtain ⟨b0, b1, b2⟩ := WB
        simp only [] at a0 a1 a2 b0 b1 b2
        by_cases e1 : x.n = y.n
        · have t1 : (x.n.toList == y.n.toList) = true := by rw [text_same, e1]; simp
          by_cases e2 : x.k = y.k
          · have t2 : (x.k == y.k) = true := by simp [e2]
            by_cases e3 : x.v = y.v
            · have t3 : (x.v == y.v) = true := by simp [e3]
              have NY := Lib.hid (NX.out (wd_ext e1 e2 e3))
              clear e1 e2 e3
              go_wp2
              go_quiet (fail)
              go_wp2
              go_roundw
              case rel => exact ⟨k + 1, by omega, by go_num, NY.out, below_draws HB.out _⟩
              case measure => simp [intOf]; omega
            · have t3 : (x.v == y.v) = false := by simp [e3]
              have NY := Lib.hid (NN.out (fun e => e3 (by rw [e])))
              clear e1 e2 e3
              go_wp2
              go_quiet (fail)
              go_wp2
              go_ret
              exact ⟨ret_bool NY.out.symm, below_draws B2.out _⟩
          · have t2 : (x.k == y.k) = false := by simp [e2]
            have NY := Lib.hid (NN.out (fun e => e2 (by rw [e])))
            clear e1 e2
            go_wp2
            go_quiet (fail)
            go_wp2
            go_ret
            exact ⟨ret_bool NY.out.symm, below_draws B2.out _⟩
        · have t1 : (x.n.toList == y.n.toList) = false := by rw [text_same]; simp [e1]
          have NY := Lib.hid (NN.out (fun e => e1 (by rw [e])))
          clear e1
          go_wp2
          go_quiet (fail)
          go_wp2
          go_ret
          exact ⟨ret_bool NY.out.symm, below_draws B2.out _⟩
      · obtain rfl : k = 83 := by omega
        have E := Lib.hid (kernTo_end HK.out)
        have B2 := Lib.hid (below_stepW B1.out HB.out)
        clear hlt
        go_wp2
        go_ret
        exact ⟨ret_bool E.out.symm, B2.out⟩

/-- Is it the Value of a script's word of this Kind? -/
def valB (k v : Int) : Bool := if k = 6 then inB v 0 399 else if k = 7 then inB v 4096 4220 && decide (v % 4 = 0) else if k = 8 then cellB v else false

/-- Is it a word of a script? -/
def userB (x : Wd) : Bool := wordL x.n.data.toList && valB x.k x.v

set_option maxRecDepth 100000 in
set_option maxHeartbeats 4000000 in
theorem sUser_any (x : Wd) (w : World) (hx : x.n.size ≤ maxLen) :
    Calls Tryd.prog 76 #[.agg #[.string x.n, .int .i64 x.k, .int .i64 x.v]] w fun e w' => e = .returned (.bool (userB x)) ∧ Below w.heap.size w w' := by
  have BB : Hid (∀ o : Obj, Below w.heap.size w (w.alloc o)) := Lib.hid fun o => below_allocW (Below.refl _ _) o
  have HX := Lib.hid hx
  clear hx
  cases hw : wordL x.n.data.toList
  · have E : Hid (userB x = false) := Lib.hid (by unfold userB; rw [hw]; rfl)
    go_enter Tryd.func76, Tryd.ntmps76
    go_wp2_with fail
    refine (sWordIn_any _ _ HX.out).mono ?_
    rintro e w' ⟨rfl, rfl⟩
    rw [hw]
    go_wp2
    go_ret
    exact ⟨ret_bool E.out.symm, BB.out _⟩
  · have E : Hid (userB x = valB x.k x.v) := Lib.hid (by unfold userB; rw [hw]; rfl)
    by_cases k6 : x.k = 6
    · have V : Hid (valB x.k x.v = inB x.v 0 399) := Lib.hid (by unfold valB; rw [if_pos k6])
      have t6 : (x.k == 6) = true := by simp [k6]
      clear k6
      go_enter Tryd.func76, Tryd.ntmps76
      go_wp2_with fail
      refine (sWordIn_any _ _ HX.out).mono ?_
      rintro e w' ⟨rfl, rfl⟩
      rw [hw]
      go_wp2_with fail
      refine (sIn_any _ _ _ _).mono ?_
      rintro e w' ⟨rfl, rfl⟩
      generalize inB x.v 0 399 = r at *
      go_wp2
      go_ret
      exact ⟨ret_bool (V.out.symm.trans E.out.symm), BB.out _⟩
    · have t6 : (x.k == 6) = false := by simp [k6]
      by_cases k7 : x.k = 7
      · have t7 : (x.k == 7) = true := by simp [k7]
        have V : Hid (valB x.k x.v = (inB x.v 4096 4220 && decide (x.v % 4 = 0))) := Lib.hid (by unfold valB; rw [if_neg k6, if_pos k7])
        clear k6 k7
        cases hr : inB x.v 4096 4220
        · go_enter Tryd.func76, Tryd.ntmps76
          go_wp2_with fail
          refine (sWordIn_any _ _ HX.out).mono ?_
          rintro e w' ⟨rfl, rfl⟩
          rw [hw]
          go_wp2_with fail
          refine (sIn_any _ _ _ _).mono ?_
          rintro e w' ⟨rfl, rfl⟩
          rw [hr]
          go_wp2
          go_ret
          exact ⟨ret_bool ((by rw [hr]; rfl : false = _).trans (V.out.symm.trans E.out.symm)), BB.out _⟩
        · have hv0 : 4096 ≤ x.v := by unfold inB at hr; simp at hr; omega
          have hv1 : x.v ≤ 4220 := by unfold inB at hr; simp at hr; omega
          by_cases hm : x.v % 4 = 0
          · have tm : (x.v % 4 == 0) = true := by simp [hm]
            have E2 : Hid (userB x = true) := Lib.hid (by rw [E.out, V.out, hr, hm]; rfl)
            clear hm
            go_enter Tryd.func76, Tryd.ntmps76
            go_wp2_with fail
            refine (sWordIn_any _ _ HX.out).mono ?_
            rintro e w' ⟨rfl, rfl⟩
            rw [hw]
            go_wp2_with fail
            refine (sIn_any _ _ _ _).mono ?_
            rintro e w' ⟨rfl, rfl⟩
            rw [hr]
            go_wp2
            go_ret
            exact ⟨ret_bool E2.out.symm, BB.out _⟩
          · have tm : (x.v % 4 == 0) = false := by simp [hm]
            have E2 : Hid (userB x = false) := Lib.hid (by rw [E.out, V.out, hr]; simp [hm])
            clear hm
            go_enter Tryd.func76, Tryd.ntmps76
            go_wp2_with fail
            refine (sWordIn_any _ _ HX.out).mono ?_
            rintro e w' ⟨rfl, rfl⟩
            rw [hw]
            go_wp2_with fail
            refine (sIn_any _ _ _ _).mono ?_
            rintro e w' ⟨rfl, rfl⟩
            rw [hr]
            go_wp2
            go_ret
            exact ⟨ret_bool E2.out.symm, BB.out _⟩
      · have t7 : (x.k == 7) = false := by simp [k7]
        by_cases k8 : x.k = 8
        · have t8 : (x.k == 8) = true := by simp [k8]
          have V : Hid (valB x.k x.v = cellB x.v) := Lib.hid (by unfold valB; rw [if_neg k6, if_neg k7, if_pos k8])
          clear k6 k7 k8
          go_enter Tryd.func76, Tryd.ntmps76
          go_wp2_with fail
          refine (sWordIn_any _ _ HX.out).mono ?_
          rintro e w' ⟨rfl, rfl⟩
          rw [hw]
          go_wp2_with fail
          refine (sCell_any _ _).mono ?_
          rintro e w' ⟨rfl, rfl⟩
          generalize cellB x.v = r at *
          go_wp2
          go_ret
          exact ⟨ret_bool (V.out.symm.trans E.out.symm), BB.out _⟩
        · have t8 : (x.k == 8) = false := by simp [k8]
          have V : Hid (valB x.k x.v = false) := Lib.hid (by unfold valB; rw [if_neg k6, if_neg k7, if_neg k8])
          clear k6 k7 k8
          go_enter Tryd.func76, Tryd.ntmps76
          go_wp2_with fail
          refine (sWordIn_any _ _ HX.out).mono ?_
          rintro e w' ⟨rfl, rfl⟩
          rw [hw]
          go_wp2
          go_ret
          exact ⟨ret_bool (V.out.symm.trans E.out.symm), BB.out _⟩

end Go.Proofs.YtjlfbmplmddceaaDoor
