/- QkA: several of my texts, laid together: KerC, KerD, ImpA, TabA, WdL, ClA, ClB. -/
import Derived.Test.YthnbaeamekolmaaGreatDoorKerB
import Derived.BigRegion
import Derived.IntWalk
import Derived.OpenShut
import Derived.WalkKit
import Derived.ProofKit
import Derived.Test.YthnbaeamekolmaaGreatDoorWdA
import Derived.Deep.Slices
import Derived.Lib.SmallJoins
import Derived.ChangeOld
import Derived.Test.YthnbaeamekolmaaGreatDoorQkB
import Derived.Laws.StructEq
import Derived.Laws.CopyOwn
import Derived.Laws.Tables
import Derived.WalkSmall
import Derived.Deep.RegionHeld3
namespace Go.Proofs.YthnbaeamekolmaaGreatDoor
open Go.RowKit
set_option linter.unusedVariables false
set_option linter.unusedSimpArgs false

/-- Does the list begin with the kernel? -/
def kernB (Q : List Wd) : Bool := decide (Q.take 83 = kernW)

/-- The first k words are the kernel's. -/
def KernTo (Q : List Wd) (k : Nat) : Prop := Q.take k = kernW.take k

theorem kernTo_zero (Q : List Wd) : KernTo Q 0 := by unfold KernTo; simp

theorem kernTo_next {Q : List Wd} {k : Nat} (h : KernTo Q k) (hk : k < Q.length) (h83 : k < 83) (e : Q[k] = kernAt k) : KernTo Q (k + 1) := by
  unfold KernTo at *
  rw [List.take_succ_eq_append_getElem hk, kernW_take h83, h, e]

theorem kernTo_end {Q : List Wd} (h : KernTo Q 83) : kernB Q = true := by
  unfold KernTo at h
  unfold kernB
  rw [decide_eq_true_iff, h, List.take_of_length_le (by rw [kernW_len]; exact Nat.le_refl _)]

theorem kernB_short {Q : List Wd} (h : Q.length < 83) : kernB Q = false := by
  unfold kernB
  rw [decide_eq_false_iff_not]
  intro e
  have := congrArg List.length e
  rw [kernW_len, List.length_take] at this
  omega

theorem kernB_not {Q : List Wd} {k : Nat} (hk : k < Q.length) (h83 : k < 83) (e : Q[k] ≠ kernAt k) : kernB Q = false := by
  unfold kernB
  rw [decide_eq_false_iff_not]
  intro h
  apply e
  have h1 : (Q.take 83)[k]? = kernW[k]? := by rw [h]
  rw [List.getElem?_take_of_lt h83, List.getElem?_eq_getElem hk, List.getElem?_eq_getElem (by rw [kernW_len]; exact h83), kernW_at] at h1
  exact Option.some.inj h1

theorem kernB_len {Q : List Wd} (h : kernB Q = true) : 83 ≤ Q.length := by
  rcases Nat.lt_or_ge Q.length 83 with hl | hl
  · rw [kernB_short hl] at h; cases h
  · exact hl

theorem kernB_at {Q : List Wd} (h : kernB Q = true) {k : Nat} (hk : k < Q.length) (h83 : k < 83) : Q[k] = kernAt k := Classical.byContradiction fun e => by rw [kernB_not hk h83 e] at h; cases h

theorem text_same (a b : ByteArray) : (a.toList == b.toList) = decide (a = b) := by
  rw [Lib.toList_data, Lib.toList_data]
  by_cases h : a = b
  · subst h; simp
  · rw [decide_eq_false h, beq_eq_false_iff_ne]
    intro e
    exact h (by
      obtain ⟨⟨x⟩⟩ := a
      obtain ⟨⟨y⟩⟩ := b
      simp at e
      rw [e])

theorem wd_ext {x y : Wd} (h1 : x.n = y.n) (h2 : x.k = y.k) (h3 : x.v = y.v) : x = y := by
  obtain ⟨a, b, c⟩ := x
  obtain ⟨d, e, f⟩ := y
  simp only at h1 h2 h3
  subst h1 h2 h3
  rfl

set_option maxRecDepth 100000 in
set_option maxHeartbeats 4000000 in
theorem sKSame_any (v : Value) (Q : List Wd) (w : World) (hv : Wds w v Q) :
    Calls Tryz.prog 203 #[v] w fun e w' => e = .returned (.bool (kernB Q)) ∧ Below w.heap.size w w' := by
  have HV := Lib.hid hv
  obtain ⟨hl, hn, A, ca, rfl, _, _⟩ := hv
  unfold maxLen at hl
  clear hn
  go_enter Tryz.func203, Tryz.ntmps203
  go_wp2_with fail
  refine (sKernel_any _).mono ?_
  rintro e w1 ⟨u, rfl, hr, _, hb⟩
  have KW := Lib.hid (wrow_wds hr)
  have B1 := Lib.hid hb
  obtain ⟨_, _, B, cb, rfl, _, _⟩ := wrow_wds hr
  have KL := Lib.hid kernW_len
  clear hr hb
  rw [kernW_len]
  by_cases hs : Q.length < 83
  · have E := Lib.hid (kernB_short hs)
    have t0 : decide ((Q.length : Int) < ((83 : Nat) : Int)) = true := by simp; omega
    go_wp2
    go_ret
    exact ⟨ret_bool E.out.symm, B1.out⟩
  · have t0 : decide ((Q.length : Int) < ((83 : Nat) : Int)) = false := by simp; omega
    go_wp2
    go_loopw [4] (fun i wr => ∃ k : Nat, k ≤ 83 ∧ i = .int .i64 k ∧ KernTo Q k ∧ Below w1.heap.size w1 wr) (fun i _ => 83 - (intOf i).toNat)
    case atStart => exact ⟨0, Nat.zero_le _, rfl, kernTo_zero Q, Below.refl _ _⟩
    case round =>
      obtain ⟨k, hk, rfl, hkt, hb⟩ := hrel
      have HB := Lib.hid hb
      have HK := Lib.hid hkt
      clear hb hkt
      by_cases hlt : k < 83
      · have hlq : k < Q.length := by omega
        obtain ⟨_, _, A', ca', e', _, hc⟩ := wds_below HV.out (below_stepW B1.out HB.out)
        simp only [Value.slice.injEq, true_and] at e'
        obtain ⟨rfl, rfl⟩ := e'
        obtain ⟨ga, rfl, ha⟩ := hc (by omega)
        obtain ⟨_, _, B', cb', e', _, hc⟩ := wds_below KW.out HB.out
        simp only [Value.slice.injEq, true_and] at e'
        obtain ⟨rfl, rfl⟩ := e'
        obtain ⟨gb, rfl, hb⟩ := hc (by rw [KL.out]; omega)
        have WA := ha k hlq
        have WB := hb k (by rw [KL.out]; exact hlt)
        rw [kernW_at] at WB
        clear ha hb hc
        have NX : Hid (Q[k] = kernAt k → KernTo Q (k + 1)) := Lib.hid (kernTo_next HK.out hlq hlt)
        have NN : Hid (Q[k] ≠ kernAt k → kernB Q = false) := Lib.hid (kernB_not hlq hlt)
        have B2 := Lib.hid (below_stepW B1.out HB.out)
        generalize Q[k] = x at *
        generalize kernAt k = y at *
        obtain ⟨a0, a1, a2⟩ := WA
        obtain ⟨b0, b1, b2⟩ := WB
        simp only [] at a0 a1 a2 b0 b1 b2
        by_cases e1 : x.n = y.n
        · have t1 : (x.n.toList == y.n.toList) = true := by rw [text_same, e1]; simp
          by_cases e2 : x.k = y.k
          · have t2 : (x.k == y.k) = true := by simp [e2]
            by_cases e3 : x.v = y.v
            · have t3 : (x.v == y.v) = true := by simp [e3]
              have NY := Lib.hid (NX.out (wd_ext e1 e2 e3))
              clear e1 e2 e3
              go_wp2
              go_quiet (fail)
              go_wp2
              go_roundw
              case rel => exact ⟨k + 1, by omega, by go_num, NY.out, below_draws HB.out _⟩
              case measure => simp [intOf]; omega
            · have t3 : (x.v == y.v) = false := by simp [e3]
              have NY := Lib.hid (NN.out (fun e => e3 (by rw [e])))
              clear e1 e2 e3
              go_wp2
              go_quiet (fail)
              go_wp2
              go_ret
              exact ⟨ret_bool NY.out.symm, below_draws B2.out _⟩
          · have t2 : (x.k == y.k) = false := by simp [e2]
            have NY := Lib.hid (NN.out (fun e => e2 (by rw [e])))
            clear e1 e2
            go_wp2
            go_quiet (fail)
            go_wp2
            go_ret
            exact ⟨ret_bool NY.out.symm, below_draws B2.out _⟩
        · have t1 : (x.n.toList == y.n.toList) = false := by rw [text_same]; simp [e1]
          have NY := Lib.hid (NN.out (fun e => e1 (by rw [e])))
          clear e1
          go_wp2
          go_quiet (fail)
          go_wp2
          go_ret
          exact ⟨ret_bool NY.out.symm, below_draws B2.out _⟩
      · obtain rfl : k = 83 := by omega
        have E := Lib.hid (kernTo_end HK.out)
        have B2 := Lib.hid (below_stepW B1.out HB.out)
        clear hlt
        go_wp2
        go_ret
        exact ⟨ret_bool E.out.symm, B2.out⟩

/-- Is it the Value of a script's word of this Kind? -/
def valB (k v : Int) : Bool := if k = 6 then inB v 0 399 else if k = 7 then inB v 4096 4220 && decide (v % 4 = 0) else if k = 8 then cellB v else false

/-- Is it a word of a script? -/
def userB (x : Wd) : Bool := wordL x.n.data.toList && valB x.k x.v

set_option maxRecDepth 100000 in
set_option maxHeartbeats 4000000 in
theorem sUser_any (x : Wd) (w : World) (hx : x.n.size ≤ maxLen) :
    Calls Tryz.prog 204 #[.agg #[.string x.n, .int .i64 x.k, .int .i64 x.v]] w fun e w' => e = .returned (.bool (userB x)) ∧ Below w.heap.size w w' := by
  have BB : Hid (∀ o : Obj, Below w.heap.size w (w.alloc o)) := Lib.hid fun o => below_allocW (Below.refl _ _) o
  have HX := Lib.hid hx
  clear hx
  cases hw : wordL x.n.data.toList
  · have E : Hid (userB x = false) := Lib.hid (by unfold userB; rw [hw]; rfl)
    go_enter Tryz.func204, Tryz.ntmps204
    go_wp2_with fail
    refine (sWordIn_any _ _ HX.out).mono ?_
    rintro e w' ⟨rfl, rfl⟩
    rw [hw]
    go_wp2
    go_ret
    exact ⟨ret_bool E.out.symm, BB.out _⟩
  · have E : Hid (userB x = valB x.k x.v) := Lib.hid (by unfold userB; rw [hw]; rfl)
    by_cases k6 : x.k = 6
    · have V : Hid (valB x.k x.v = inB x.v 0 399) := Lib.hid (by unfold valB; rw [if_pos k6])
      have t6 : (x.k == 6) = true := by simp [k6]
      clear k6
      go_enter Tryz.func204, Tryz.ntmps204
      go_wp2_with fail
      refine (sWordIn_any _ _ HX.out).mono ?_
      rintro e w' ⟨rfl, rfl⟩
      rw [hw]
      go_wp2_with fail
      refine (sIn_any _ _ _ _).mono ?_
      rintro e w' ⟨rfl, rfl⟩
      generalize inB x.v 0 399 = r at *
      go_wp2
      go_ret
      exact ⟨ret_bool (V.out.symm.trans E.out.symm), BB.out _⟩
    · have t6 : (x.k == 6) = false := by simp [k6]
      by_cases k7 : x.k = 7
      · have t7 : (x.k == 7) = true := by simp [k7]
        have V : Hid (valB x.k x.v = (inB x.v 4096 4220 && decide (x.v % 4 = 0))) := Lib.hid (by unfold valB; rw [if_neg k6, if_pos k7])
        clear k6 k7
        cases hr : inB x.v 4096 4220
        · go_enter Tryz.func204, Tryz.ntmps204
          go_wp2_with fail
          refine (sWordIn_any _ _ HX.out).mono ?_
          rintro e w' ⟨rfl, rfl⟩
          rw [hw]
          go_wp2_with fail
          refine (sIn_any _ _ _ _).mono ?_
          rintro e w' ⟨rfl, rfl⟩
          rw [hr]
          go_wp2
          go_ret
          exact ⟨ret_bool ((by rw [hr]; rfl : false = _).trans (V.out.symm.trans E.out.symm)), BB.out _⟩
        · have hv0 : 4096 ≤ x.v := by unfold inB at hr; simp at hr; omega
          have hv1 : x.v ≤ 4220 := by unfold inB at hr; simp at hr; omega
          by_cases hm : x.v % 4 = 0
          · have tm : (x.v % 4 == 0) = true := by simp [hm]
            have E2 : Hid (userB x = true) := Lib.hid (by rw [E.out, V.out, hr, hm]; rfl)
            clear hm
            go_enter Tryz.func204, Tryz.ntmps204
            go_wp2_with fail
            refine (sWordIn_any _ _ HX.out).mono ?_
            rintro e w' ⟨rfl, rfl⟩
            rw [hw]
            go_wp2_with fail
            refine (sIn_any _ _ _ _).mono ?_
            rintro e w' ⟨rfl, rfl⟩
            rw [hr]
            go_wp2
            go_ret
            exact ⟨ret_bool E2.out.symm, BB.out _⟩
          · have tm : (x.v % 4 == 0) = false := by simp [hm]
            have E2 : Hid (userB x = false) := Lib.hid (by rw [E.out, V.out, hr]; simp [hm])
            clear hm
            go_enter Tryz.func204, Tryz.ntmps204
            go_wp2_with fail
            refine (sWordIn_any _ _ HX.out).mono ?_
            rintro e w' ⟨rfl, rfl⟩
            rw [hw]
            go_wp2_with fail
            refine (sIn_any _ _ _ _).mono ?_
            rintro e w' ⟨rfl, rfl⟩
            rw [hr]
            go_wp2
            go_ret
            exact ⟨ret_bool E2.out.symm, BB.out _⟩
      · have t7 : (x.k == 7) = false := by simp [k7]
        by_cases k8 : x.k = 8
        · have t8 : (x.k == 8) = true := by simp [k8]
          have V : Hid (valB x.k x.v = cellB x.v) := Lib.hid (by unfold valB; rw [if_neg k6, if_neg k7, if_pos k8])
          clear k6 k7 k8
          go_enter Tryz.func204, Tryz.ntmps204
          go_wp2_with fail
          refine (sWordIn_any _ _ HX.out).mono ?_
          rintro e w' ⟨rfl, rfl⟩
          rw [hw]
          go_wp2_with fail
          refine (sCell_any _ _).mono ?_
          rintro e w' ⟨rfl, rfl⟩
          generalize cellB x.v = r at *
          go_wp2
          go_ret
          exact ⟨ret_bool (V.out.symm.trans E.out.symm), BB.out _⟩
        · have t8 : (x.k == 8) = false := by simp [k8]
          have V : Hid (valB x.k x.v = false) := Lib.hid (by unfold valB; rw [if_neg k6, if_neg k7, if_neg k8])
          clear k6 k7 k8
          go_enter Tryz.func204, Tryz.ntmps204
          go_wp2_with fail
          refine (sWordIn_any _ _ HX.out).mono ?_
          rintro e w' ⟨rfl, rfl⟩
          rw [hw]
          go_wp2
          go_ret
          exact ⟨ret_bool (V.out.symm.trans E.out.symm), BB.out _⟩

end Go.Proofs.YthnbaeamekolmaaGreatDoor

namespace Go.Proofs.YthnbaeamekolmaaGreatDoor
open Go.RowKit
set_option linter.unusedVariables false
set_option linter.unusedSimpArgs false

/-- Is the list a dictionary? -/
def dictB (Q : List Wd) : Bool := decide (Q.length ≤ 103) && kernB Q && (Q.drop 83).all userB

/-- The words behind the kernel, up to the first k words of the list, are a script's. -/
def UserTo (Q : List Wd) (k : Nat) : Prop := ((Q.take k).drop 83).all userB = true

theorem userTo_start (Q : List Wd) : UserTo Q 83 := by
  unfold UserTo
  rw [List.drop_of_length_le (by rw [List.length_take]; omega)]
  rfl

theorem userTo_next {Q : List Wd} {k : Nat} (h : UserTo Q k) (hk : k < Q.length) (h83 : 83 ≤ k) (e : userB Q[k] = true) : UserTo Q (k + 1) := by
  unfold UserTo at *
  rw [List.take_succ_eq_append_getElem hk, List.drop_append_of_le_length (by rw [List.length_take]; omega), List.all_append, h]
  simp [e]

theorem dict_end {Q : List Wd} (h : UserTo Q Q.length) (hl : Q.length ≤ 103) (hk : kernB Q = true) : dictB Q = true := by
  unfold UserTo at h
  rw [List.take_length] at h
  unfold dictB
  rw [hk, h, decide_eq_true hl]
  rfl

theorem dict_not {Q : List Wd} {k : Nat} (hk : k < Q.length) (h83 : 83 ≤ k) (e : userB Q[k] = false) : dictB Q = false := by
  unfold dictB
  have : (Q.drop 83).all userB = false := by
    rw [List.all_eq_false]
    refine ⟨Q[k], ?_, by simp [e]⟩
    rw [List.mem_iff_getElem]
    refine ⟨k - 83, by rw [List.length_drop]; omega, ?_⟩
    rw [List.getElem_drop]
    congr 1
    omega
  rw [this, Bool.and_false]

theorem dict_long {Q : List Wd} (h : 103 < Q.length) : dictB Q = false := by
  unfold dictB
  rw [decide_eq_false (by omega)]
  rfl

theorem dict_kern {Q : List Wd} (h : kernB Q = false) : dictB Q = false := by
  unfold dictB
  rw [h, Bool.and_false]
  rfl

theorem dict_is {Q : List Wd} (h : dictB Q = true) : Q.length ≤ 103 ∧ kernB Q = true ∧ ∀ k (hk : k < Q.length), 83 ≤ k → userB Q[k] = true := by
  refine ⟨?_, ?_, fun k hk h83 => ?_⟩
  · rcases Nat.lt_or_ge 103 Q.length with hl | hl
    · rw [dict_long hl] at h; cases h
    · exact hl
  · cases hk : kernB Q
    · rw [dict_kern hk] at h; cases h
    · rfl
  · cases hu : userB Q[k]
    · rw [dict_not hk h83 hu] at h; cases h
    · rfl

theorem wordL_size {s : ByteArray} (h : wordL s.data.toList = true) : 1 ≤ s.size ∧ s.size ≤ 12 := Classical.byContradiction fun hn => by rw [wordL_len hn] at h; cases h

theorem user_word {x : Wd} (h : userB x = true) : wordL x.n.data.toList = true := by
  unfold userB at h
  rw [Bool.and_eq_true] at h
  exact h.1

theorem dict_names {Q : List Wd} (h : dictB Q = true) : ∀ k (hk : k < Q.length), Q[k].n.size ≤ 12 := by
  obtain ⟨_, h2, h3⟩ := dict_is h
  intro k hk
  rcases Nat.lt_or_ge k 83 with h83 | h83
  · rw [kernB_at h2 hk h83]
    have := kname_small k
    show (kname k).size ≤ 12
    omega
  · exact (wordL_size (user_word (h3 k hk h83))).2

/-- A word in a list, where it is owned or came in. -/
theorem wds_word {w : World} {g cap : Nat} {Q : List Wd} (h : Wds w (.slice (some ⟨g, 0, none⟩) Q.length cap) Q) (k : Nat) (hk : k < Q.length) : WdAt w ⟨g, k * 3, none⟩ Q[k] := by
  obtain ⟨_, _, A, c, e, _, hc⟩ := h
  obtain ⟨g', ha, hd⟩ := hc (by omega)
  subst ha
  simp only [Value.slice.injEq, Option.some.injEq, Addr.mk.injEq, and_true, true_and] at e
  obtain ⟨rfl, _⟩ := e
  exact hd k hk

theorem wds_block {w : World} {A : Option Addr} {cap : Nat} {Q : List Wd} (h : Wds w (.slice A Q.length cap) Q) (hp : 0 < Q.length) : ∃ g, A = some ⟨g, 0, none⟩ := by
  obtain ⟨_, _, A', c, e, _, hc⟩ := h
  obtain ⟨g', ha, hd⟩ := hc hp
  simp only [Value.slice.injEq, true_and] at e
  exact ⟨g', by rw [e.1, ha]⟩

theorem wds_form {w : World} {v : Value} {Q : List Wd} (h : Wds w v Q) : ∃ A cap, v = .slice A Q.length cap ∧ Q.length ≤ cap ∧ Q.length ≤ maxLen ∧ Names Q := by
  obtain ⟨h1, h2, A, c, e, h3, _⟩ := h
  exact ⟨A, c, e, h3, h1, h2⟩

set_option maxRecDepth 100000 in
set_option maxHeartbeats 4000000 in
theorem sDict_any (v : Value) (Q : List Wd) (w : World) (hv : Wds w v Q) :
    Calls Tryz.prog 146 #[v] w fun e w' => e = .returned (.bool (dictB Q)) ∧ Below w.heap.size w w' := by
  have HV := Lib.hid hv
  obtain ⟨A, ca, rfl, hcap, hl, hn⟩ := wds_form hv
  have HN := Lib.hid hn
  unfold maxLen at hl
  clear hn hv
  by_cases h103 : 103 < Q.length
  · have E := Lib.hid (dict_long h103)
    have t0 : decide ((103 : Int) < (Q.length : Int)) = true := by simp; omega
    go_enter Tryz.func146, Tryz.ntmps146
    go_wp2
    go_ret
    exact ⟨ret_bool E.out.symm, Below.refl _ _⟩
  · have t0 : decide ((103 : Int) < (Q.length : Int)) = false := by simp; omega
    cases hk : kernB Q
    · have E := Lib.hid (dict_kern hk)
      go_enter Tryz.func146, Tryz.ntmps146
      go_wp2_with fail
      refine (sKSame_any _ _ _ HV.out).mono ?_
      rintro e w1 ⟨rfl, hb⟩
      rw [hk]
      go_wp2
      go_ret
      exact ⟨ret_bool E.out.symm, hb⟩
    · have h83 := kernB_len hk
      have HK := Lib.hid hk
      go_enter Tryz.func146, Tryz.ntmps146
      go_wp2_with fail
      refine (sKSame_any _ _ _ HV.out).mono ?_
      rintro e w1 ⟨rfl, hb⟩
      rw [hk]
      have B1 := Lib.hid hb
      clear hb hk
      go_wp2
      go_loopw [3] (fun i wr => ∃ k : Nat, 83 ≤ k ∧ k ≤ Q.length ∧ i = .int .i64 k ∧ UserTo Q k ∧ Below w.heap.size w wr) (fun i _ => Q.length - (intOf i).toNat)
      case atStart => exact ⟨83, Nat.le_refl _, h83, rfl, userTo_start Q, B1.out⟩
      case round =>
        obtain ⟨k, hk83, hk, rfl, hu, hb⟩ := hrel
        have HU := Lib.hid hu
        have HB := Lib.hid hb
        clear hu hb
        by_cases hlt : k < Q.length
        · obtain ⟨ga, rfl⟩ := wds_block HV.out (by omega)
          have hxs : Q[k].n.size ≤ maxLen := HN.out _ (List.getElem_mem hlt)
          have HX := Lib.hid hxs
          obtain ⟨c0, c1, c2⟩ := wds_word (wds_below HV.out HB.out) k hlt
          have NX := Lib.hid (userTo_next HU.out hlt hk83)
          have NN := Lib.hid (dict_not hlt hk83)
          clear hxs
          generalize Q[k] = x at *
          simp only [] at c0 c1 c2
          go_wp2_with fail
          refine (sUser_any x _ HX.out).mono ?_
          rintro e w2 ⟨rfl, hb⟩
          have B2 := Lib.hid (below_stepW HB.out hb)
          clear hb c0 c1 c2
          cases hu : userB x
          · have E := Lib.hid (NN.out hu)
            clear hu
            go_wp2
            go_ret
            exact ⟨ret_bool E.out.symm, B2.out⟩
          · have E := Lib.hid (NX.out hu)
            clear hu
            go_wp2
            go_roundw
            case rel => exact ⟨k + 1, by omega, by omega, by go_num, E.out, B2.out⟩
            case measure => simp [intOf]; omega
        · obtain rfl : k = Q.length := by omega
          have E := Lib.hid (dict_end HU.out (by omega) HK.out)
          clear hlt
          go_wp2
          go_ret
          exact ⟨ret_bool E.out.symm, HB.out⟩

theorem dict_huge {Q : List Wd} (h : 4096 < Q.length) : dictB Q = false := dict_long (by omega)

/-- KernelSame: a list that is too long is none. -/
def ksameB (Q : List Wd) : Bool := decide (Q.length ≤ 4096) && kernB Q

/-- Is the number, at this list, that of a word that a script may run? -/
def tokB (Q : List Wd) (n : Int) : Bool := decide (1 ≤ n ∧ n ≤ Q.length) && ((Q.getD (n - 1).toNat noWd).k != 3 && (Q.getD (n - 1).toNat noWd).k != 5)

theorem tok_out {Q : List Wd} {n : Int} (h : ¬ (1 ≤ n ∧ n ≤ Q.length)) : tokB Q n = false := by unfold tokB; rw [decide_eq_false h]; rfl

theorem tok_in {Q : List Wd} {k : Nat} (h : k < Q.length) : tokB Q ((k : Int) + 1) = (Q[k].k != 3 && Q[k].k != 5) := by
  unfold tokB
  rw [decide_eq_true (by omega), show ((k : Int) + 1 - 1).toNat = k by omega, List.getD_eq_getElem?_getD, List.getElem?_eq_getElem h]
  rfl

set_option maxRecDepth 100000 in
set_option maxHeartbeats 2000000 in
theorem sToken_any (v : Value) (Q : List Wd) (n : Int) (w : World) (hv : Wds w v Q) :
    Calls Tryz.prog 153 #[v, .int .i64 n] w fun e w' => e = .returned (.bool (tokB Q n)) ∧ w = w' := by
  have HV := Lib.hid hv
  obtain ⟨A, ca, rfl, hcap, hl, hn⟩ := wds_form hv
  unfold maxLen at hl
  clear hn hv
  by_cases h : 1 ≤ n ∧ n ≤ Q.length
  · obtain ⟨k, rfl⟩ : ∃ k : Nat, n = (k : Int) + 1 := ⟨(n - 1).toNat, by omega⟩
    have hk : k < Q.length := by omega
    have hin : inB ((k : Int) + 1) 1 Q.length = true := by unfold inB; rw [decide_eq_true_iff]; omega
    have E := Lib.hid (tok_in hk)
    obtain ⟨ga, rfl⟩ := wds_block HV.out (by omega)
    obtain ⟨c0, c1, c2⟩ := wds_word HV.out k hk
    generalize Q[k] = x at *
    simp only [] at c0 c1 c2
    obtain ⟨g1, g2⟩ := h
    by_cases h3 : x.k = 3
    · have t3 : (x.k != 3) = false := by simp [h3]
      have E2 : Hid (tokB Q ((k : Int) + 1) = false) := Lib.hid (by rw [E.out, t3]; rfl)
      clear h3
      go_enter Tryz.func153, Tryz.ntmps153
      go_wp2_with fail
      refine (sIn_any _ _ _ _).mono ?_
      rintro e w' ⟨rfl, rfl⟩
      rw [hin]
      go_wp2
      go_ret
      exact ⟨ret_bool E2.out.symm, rfl⟩
    · have t3 : (x.k != 3) = true := by simp [h3]
      have E2 : Hid (tokB Q ((k : Int) + 1) = (x.k != 5)) := Lib.hid (by rw [E.out, t3]; rfl)
      clear h3
      go_enter Tryz.func153, Tryz.ntmps153
      go_wp2_with fail
      refine (sIn_any _ _ _ _).mono ?_
      rintro e w' ⟨rfl, rfl⟩
      rw [hin]
      go_wp2
      go_ret
      exact ⟨ret_bool E2.out.symm, rfl⟩
  · have hin : inB n 1 Q.length = false := by unfold inB; rw [decide_eq_false_iff_not]; exact h
    have E := Lib.hid (tok_out h)
    clear h
    go_enter Tryz.func153, Tryz.ntmps153
    go_wp2_with fail
    refine (sIn_any _ _ _ _).mono ?_
    rintro e w' ⟨rfl, rfl⟩
    rw [hin]
    go_wp2
    go_ret
    exact ⟨ret_bool E.out.symm, rfl⟩

end Go.Proofs.YthnbaeamekolmaaGreatDoor

namespace Go.Proofs.YthnbaeamekolmaaGreatDoor
open Go.RowKit
set_option linter.unusedVariables false
set_option linter.unusedSimpArgs false

/-- The program's two tables hold the names and the ends. -/
def Tabs (w : World) : Prop := (∀ i, i < 6 → w.cell? ⟨1, i, none⟩ = some (.int .i64 (koff i))) ∧ ∀ j, j < 83 → w.cell? ⟨2, j, none⟩ = some (.string (kname j))

theorem tabs_below {w w' : World} (h : Tabs w) (hb : Below w.heap.size w w') : Tabs w' := ⟨fun i hi => cells_below hb _ _ (h.1 i hi), fun j hj => cells_below hb _ _ (h.2 j hj)⟩

theorem kkind_is {m j : Nat} (h : koff m ≤ j) (hm : m < 5) (h2 : j < koff (m + 1)) : kkind j = m := by
  match m, hm with
  | 0, _ => simp only [koff] at h h2; unfold kkind; (repeat' split) <;> omega
  | 1, _ => simp only [koff] at h h2; unfold kkind; (repeat' split) <;> omega
  | 2, _ => simp only [koff] at h h2; unfold kkind; (repeat' split) <;> omega
  | 3, _ => simp only [koff] at h h2; unfold kkind; (repeat' split) <;> omega
  | 4, _ => simp only [koff] at h h2; unfold kkind; (repeat' split) <;> omega

theorem koff_five {m : Nat} (hm : m < 5) (h : koff (m + 1) ≤ 82) : m + 1 < 5 := by
  match m, hm with
  | 0, _ => omega
  | 1, _ => omega
  | 2, _ => omega
  | 3, _ => omega
  | 4, _ => simp [koff] at h

set_option maxRecDepth 100000 in
set_option maxHeartbeats 4000000 in
theorem kernelWord_any (j : Nat) (w : World) (hj : j < 83) (ht : Tabs w) :
    Calls Tryz.prog 233 #[.int .i64 ((j : Int) + 1)] w fun e w' => e = .returned (.agg #[.string (kernAt j).n, .int .i64 (kernAt j).k, .int .i64 (kernAt j).v]) ∧ Below w.heap.size w w' := by
  have HT := Lib.hid ht
  clear ht
  go_enter Tryz.func233, Tryz.ntmps233
  go_wp2
  go_loop [3] (fun i => ∃ m : Nat, m < 5 ∧ i = .int .i64 ((m : Int) + 1) ∧ koff m ≤ j) (fun i => 6 - (intOf i).toNat)
  case atStart => exact ⟨0, by omega, rfl, Nat.zero_le _⟩
  case round =>
    obtain ⟨m, hm, rfl, hk⟩ := hrel
    have c0 := cells_below (below_allocW (Below.refl w.heap.size w) (.cells #[.string ⟨#[]⟩, .int .i64 0, .int .i64 0] 129)) _ _ (HT.out.1 (m + 1) (by omega))
    have c1 := cells_below (below_allocW (Below.refl w.heap.size w) (.cells #[.string ⟨#[]⟩, .int .i64 0, .int .i64 0] 129)) _ _ (HT.out.1 m (by omega))
    have c2 := cells_below (below_allocW (Below.refl w.heap.size w) (.cells #[.string ⟨#[]⟩, .int .i64 0, .int .i64 0] 129)) _ _ (HT.out.2 j hj)
    by_cases hlt : koff (m + 1) ≤ j
    · have h5 := koff_five hm (by omega)
      have HL := Lib.hid hlt
      generalize koff (m + 1) = c at c0 hlt
      clear c1 c2
      go_wp2
      go_round
      case rel => exact ⟨m + 1, h5, by go_num, HL.out⟩
      case measure => simp [intOf]; omega
    · have E : Hid (kernAt j = ⟨kname j, (m : Int) + 1, (j : Int) - koff m + 1⟩) := Lib.hid (by unfold kernAt; rw [kkind_is hk hm (by omega)])
      have hko := koff_le m
      have hko2 := koff_le (m + 1)
      generalize koff (m + 1) = c at *
      generalize koff m = d at *
      generalize kname j = s at *
      go_wp2
      go_region
      all_goals
        go_wp2
        exact bodyPost_ret (v := .agg #[.string s, .int .i64 ((m : Int) + 1), .int .i64 ((j : Int) + 1 - d)]) (by simp [results, Tryz.results233, go_sem, *]) rfl ⟨by rw [E.out]; simp only []; rw [show (j : Int) - d + 1 = (j : Int) + 1 - d by omega], ((Below.refl _ _).alloc (Nat.le_refl _) _).drew⟩

theorem tabs_drew {w : World} (h : Tabs w) : Tabs w.drew := h

theorem box_cells {W W' : World} {a b c : Value} {t : TypeId} (hb : Below (W.alloc (.cells #[a, b, c] t)).heap.size (W.alloc (.cells #[a, b, c] t)) W') :
    W'.cell? ⟨W.heap.size, 0, none⟩ = some a ∧ W'.cell? ⟨W.heap.size, 1, none⟩ = some b ∧ W'.cell? ⟨W.heap.size, 2, none⟩ = some c :=
  ⟨cells_below hb _ _ (by simp), cells_below hb _ _ (by simp), cells_below hb _ _ (by simp)⟩

set_option maxRecDepth 100000 in
set_option maxHeartbeats 4000000 in
theorem iStarts_any (v : Value) (Q : List Wd) (w : World) (hv : Wds w v Q) (ht : Tabs w) :
    Calls Tryz.prog 210 #[v] w fun e w' => e = .returned (.bool (kernB Q)) ∧ Below w.heap.size w w' := by
  have HV := Lib.hid hv
  have HT := Lib.hid ht
  obtain ⟨A, ca, rfl, hcap, hl, hn⟩ := wds_form hv
  unfold maxLen at hl
  clear hn hv ht
  by_cases hs : Q.length < 83
  · have E := Lib.hid (kernB_short hs)
    go_enter Tryz.func210, Tryz.ntmps210
    go_wp2
    go_ret
    exact ⟨ret_bool E.out.symm, Below.refl _ _⟩
  · obtain ⟨g, rfl⟩ := wds_block HV.out (by omega)
    go_enter Tryz.func210, Tryz.ntmps210
    go_wp2
    go_loopw [11] (fun i wr => ∃ k : Nat, k ≤ 83 ∧ i = .int .i64 k ∧ KernTo Q k ∧ Below w.heap.size w wr) (fun i _ => 83 - (intOf i).toNat)
    case atStart => exact ⟨0, Nat.zero_le _, rfl, kernTo_zero Q, Below.refl _ _⟩
    case round =>
      obtain ⟨k, hk, rfl, hkt, hb⟩ := hrel
      have HB := Lib.hid hb
      have HK := Lib.hid hkt
      clear hb hkt
      by_cases hlt : k < 83
      · have hlq : k < Q.length := by omega
        obtain ⟨c0, c1, c2⟩ := wds_word (wds_below HV.out HB.out) k hlq
        have NX : Hid (Q[k] = kernAt k → KernTo Q (k + 1)) := Lib.hid (kernTo_next HK.out hlq hlt)
        have NN : Hid (Q[k] ≠ kernAt k → kernB Q = false) := Lib.hid (kernB_not hlq hlt)
        have CC : Hid (∀ W, Tabs W → Calls Tryz.prog 233 #[.int .i64 ((k : Int) + 1)] W fun e w' => e = .returned (.agg #[.string (kernAt k).n, .int .i64 (kernAt k).k, .int .i64 (kernAt k).v]) ∧ Below W.heap.size W w') := Lib.hid (fun W hW => kernelWord_any k W hlt hW)
        generalize Q[k] = x at *
        generalize kernAt k = y at *
        simp only [] at c0 c1 c2
        have TB : Hid (Tabs (wr.alloc (.cells #[.string x.n, .int .i64 x.k, .int .i64 x.v] 129))) := Lib.hid (tabs_below HT.out (below_allocW HB.out _))
        have BX : Hid ((wr.alloc (.cells #[.string x.n, .int .i64 x.k, .int .i64 x.v] 129)).cell? ⟨wr.heap.size, 0, none⟩ = some (.string x.n) ∧ (wr.alloc (.cells #[.string x.n, .int .i64 x.k, .int .i64 x.v] 129)).cell? ⟨wr.heap.size, 1, none⟩ = some (.int .i64 x.k) ∧ (wr.alloc (.cells #[.string x.n, .int .i64 x.k, .int .i64 x.v] 129)).cell? ⟨wr.heap.size, 2, none⟩ = some (.int .i64 x.v)) := Lib.hid (by simp)
        have BA : Hid (Below w.heap.size w (wr.alloc (.cells #[.string x.n, .int .i64 x.k, .int .i64 x.v] 129))) := Lib.hid (below_allocW HB.out _)
        by_cases e1 : x.n = y.n
        · have t1 : (x.n.toList == y.n.toList) = true := by rw [text_same, e1]; simp
          by_cases e2 : x.k = y.k
          · have t2 : (x.k == y.k) = true := by simp [e2]
            by_cases e3 : x.v = y.v
            · have t3 : (x.v == y.v) = true := by simp [e3]
              have NY := Lib.hid (NX.out (wd_ext e1 e2 e3))
              clear e1 e2 e3
              go_wp2
              generalize hW : wr.alloc (.cells #[.string x.n, .int .i64 x.k, .int .i64 x.v] 129) = W at *
              clear hW c0 c1 c2
              obtain ⟨x0, x1, x2⟩ := BX.out
              have s1 : IntKind.i64.wrap ((k : Int) + 1) = (k : Int) + 1 := IntWalk.i64_in _ (by omega)
              go_region_held3 (fun w' => w'.cell? ⟨wr.heap.size, 0, none⟩ = some (.string x.n) ∧ w'.cell? ⟨wr.heap.size, 1, none⟩ = some (.int .i64 x.k) ∧ w'.cell? ⟨wr.heap.size, 2, none⟩ = some (.int .i64 x.v)) (first | exact ⟨x0, x1, x2⟩ | exact ⟨cells_below hb2 _ _ x0, cells_below hb2 _ _ x1, cells_below hb2 _ _ x2⟩)
                (first | (go_at_call 233; refine (CC.out _ ?_).mono ?_; (first | exact TB.out | exact tabs_drew TB.out); rintro e w2 ⟨rfl, hb2⟩))
              have B2 := Lib.hid (BA.out.drew.trans (hb2.mono BA.out.drew.size))
              clear hb2 x0 x1 x2 s1
              go_wp2
              go_roundw
              case rel => exact ⟨k + 1, by omega, by go_num, NY.out, B2.out⟩
              case measure => simp [intOf]; omega
            · have t3 : (x.v == y.v) = false := by simp [e3]
              have NY := Lib.hid (NN.out (fun e => e3 (by rw [e])))
              clear e1 e2 e3
              go_wp2
              generalize hW : wr.alloc (.cells #[.string x.n, .int .i64 x.k, .int .i64 x.v] 129) = W at *
              clear hW c0 c1 c2
              obtain ⟨x0, x1, x2⟩ := BX.out
              have s1 : IntKind.i64.wrap ((k : Int) + 1) = (k : Int) + 1 := IntWalk.i64_in _ (by omega)
              go_region_held3 (fun w' => w'.cell? ⟨wr.heap.size, 0, none⟩ = some (.string x.n) ∧ w'.cell? ⟨wr.heap.size, 1, none⟩ = some (.int .i64 x.k) ∧ w'.cell? ⟨wr.heap.size, 2, none⟩ = some (.int .i64 x.v)) (first | exact ⟨x0, x1, x2⟩ | exact ⟨cells_below hb2 _ _ x0, cells_below hb2 _ _ x1, cells_below hb2 _ _ x2⟩)
                (first | (go_at_call 233; refine (CC.out _ ?_).mono ?_; (first | exact TB.out | exact tabs_drew TB.out); rintro e w2 ⟨rfl, hb2⟩))
              have B2 := Lib.hid (BA.out.drew.trans (hb2.mono BA.out.drew.size))
              clear hb2 x0 x1 x2 s1
              go_wp2
              go_ret
              exact ⟨ret_bool NY.out.symm, B2.out⟩
          · have t2 : (x.k == y.k) = false := by simp [e2]
            have NY := Lib.hid (NN.out (fun e => e2 (by rw [e])))
            clear e1 e2
            go_wp2
            generalize hW : wr.alloc (.cells #[.string x.n, .int .i64 x.k, .int .i64 x.v] 129) = W at *
            clear hW c0 c1 c2
            obtain ⟨x0, x1, x2⟩ := BX.out
            have s1 : IntKind.i64.wrap ((k : Int) + 1) = (k : Int) + 1 := IntWalk.i64_in _ (by omega)
            go_region_held3 (fun w' => w'.cell? ⟨wr.heap.size, 0, none⟩ = some (.string x.n) ∧ w'.cell? ⟨wr.heap.size, 1, none⟩ = some (.int .i64 x.k) ∧ w'.cell? ⟨wr.heap.size, 2, none⟩ = some (.int .i64 x.v)) (first | exact ⟨x0, x1, x2⟩ | exact ⟨cells_below hb2 _ _ x0, cells_below hb2 _ _ x1, cells_below hb2 _ _ x2⟩)
              (first | (go_at_call 233; refine (CC.out _ ?_).mono ?_; (first | exact TB.out | exact tabs_drew TB.out); rintro e w2 ⟨rfl, hb2⟩))
            have B2 := Lib.hid (BA.out.drew.trans (hb2.mono BA.out.drew.size))
            clear hb2 x0 x1 x2 s1
            go_wp2
            go_ret
            exact ⟨ret_bool NY.out.symm, B2.out⟩
        · have t1 : (x.n.toList == y.n.toList) = false := by rw [text_same]; simp [e1]
          have NY := Lib.hid (NN.out (fun e => e1 (by rw [e])))
          clear e1
          go_wp2
          generalize hW : wr.alloc (.cells #[.string x.n, .int .i64 x.k, .int .i64 x.v] 129) = W at *
          clear hW c0 c1 c2
          obtain ⟨x0, x1, x2⟩ := BX.out
          have s1 : IntKind.i64.wrap ((k : Int) + 1) = (k : Int) + 1 := IntWalk.i64_in _ (by omega)
          go_region_held3 (fun w' => w'.cell? ⟨wr.heap.size, 0, none⟩ = some (.string x.n) ∧ w'.cell? ⟨wr.heap.size, 1, none⟩ = some (.int .i64 x.k) ∧ w'.cell? ⟨wr.heap.size, 2, none⟩ = some (.int .i64 x.v)) (first | exact ⟨x0, x1, x2⟩ | exact ⟨cells_below hb2 _ _ x0, cells_below hb2 _ _ x1, cells_below hb2 _ _ x2⟩)
            (first | (go_at_call 233; refine (CC.out _ ?_).mono ?_; (first | exact TB.out | exact tabs_drew TB.out); rintro e w2 ⟨rfl, hb2⟩))
          have B2 := Lib.hid (BA.out.drew.trans (hb2.mono BA.out.drew.size))
          clear hb2 x0 x1 x2 s1
          go_wp2
          go_ret
          exact ⟨ret_bool NY.out.symm, B2.out⟩
      · obtain rfl : k = 83 := by omega
        have E := Lib.hid (kernTo_end HK.out)
        clear hlt
        go_wp2
        go_ret
        exact ⟨ret_bool E.out.symm, HB.out⟩

end Go.Proofs.YthnbaeamekolmaaGreatDoor

namespace Go.Proofs.YthnbaeamekolmaaGreatDoor
open Go.ChangeShapes Go.WideShapes Go.ChangeAt Go.RowKit
set_option linter.unusedVariables false
set_option linter.unusedSimpArgs false

theorem strs_of_trod {H : Type} {enc : TypeId × Value → H} {P : Program} {w : World} {base : Nat} {spare : Nat → Bool} {held : Bool} {fuel n : Nat} {t e : TypeId} {cs : List Value} {L : List (List UInt8)} {q : List MemPlace}
    (ha : P.underlying t = some (.array n e)) (he : P.underlying e = some .string) (hc : P.cellsOf e = 1)
    (h : DataW.trod enc P w base spare held fuel t cs = some (.agg (L.map fun b => .lit (.string b)), q)) : ∀ k, k < n → cs[k]? = some (.string ⟨(L.getD k []).toArray⟩) := by
  intro k hk
  obtain ⟨xs, m, rfl, hx, hlen, hn, hel⟩ := DataW.trod_array ha h
  have hk' := hel k hk
  rw [hc, Nat.mul_one] at hk'
  have hkx : k < xs.length := by omega
  rw [List.getElem?_eq_getElem hkx] at hk'
  obtain ⟨s, e1, e2, _⟩ := DataW.trod_string he hk'
  simp only [Prod.mk.injEq, DataW.agg.injEq] at hx
  have hmap := congrArg (fun l => l[k]?) hx.1
  simp only [List.getElem?_map] at hmap
  rw [List.getElem?_eq_getElem hkx, e2] at hmap
  cases hL : L[k]? with
  | none => rw [hL] at hmap; simp at hmap
  | some b =>
    rw [hL] at hmap
    simp at hmap
    have hs : s = ⟨(L.getD k []).toArray⟩ := by
      rw [List.getD_eq_getElem?_getD, hL]
      apply ByteArray.ext
      apply Array.ext'
      simpa using hmap.symm
    have h1 := congrArg (fun l => l[0]?) e1
    simp at h1
    rw [h1, hs]

end Go.Proofs.YthnbaeamekolmaaGreatDoor

namespace Go.Proofs.YthnbaeamekolmaaGreatDoor
open Go.Joins Go.ChangeShapes Go.WideShapes Go.RowKit Go.Deep Go.ChangeAt
set_option linter.unusedVariables false
set_option linter.unusedSimpArgs false

/-- A struct that came in reads as this word. -/
def WdIn (w : World) (v : Value) (x : Wd) : Prop := v = .agg #[.string x.n, .int .i64 x.k, .int .i64 x.v] ∧ x.n.size ≤ maxLen

theorem wdsL_form {w : World} {v : Value} {Q : List Wd} (h : WdsL w v Q) : ∃ A cap, v = .slice A Q.length cap ∧ Q.length ≤ maxLen ∧ Names Q := by
  obtain ⟨h1, h2, A, c, e, _⟩ := h
  exact ⟨A, c, e, h1, h2⟩

/-- A row keeps its words where another block turns. -/
theorem wrow_apart {w w' : World} {base : Nat} {v : Value} {Q : List Wd} {r : Option Nat} (h : WRow w base v Q) (hg : w.grownBy w' r) (hne : ∀ g, v.ownBlock = some g → r ≠ some g) : WRow w' base v Q :=
  ⟨h.1.kept hg (by
    cases hv : v.ownBlock with
    | none => exact .inl rfl
    | some g => exact .inr (fun e => hne g hv e.symm)), h.2⟩

/-- Two rows, the one made before the other. -/
theorem wrow_before {w w' : World} {lo base : Nat} {u v : Value} {P Q : List Wd} (h : WRow w lo u P) (k : WRow w' base v Q) (hb : w.heap.size ≤ base) : ∀ g, u.ownBlock = some g → v.ownBlock ≠ some g := by
  intro g h1 h2
  have := wrow_lt h g h1
  have := wrow_lt k g h2
  omega

theorem below_marks {a b c : World} {base : Nat} {v : Value} {Q : List Wd} (h : Below a.heap.size a b) (k : b.grownBy c v.ownBlock) (hr : WRow b base v Q) (hb : a.heap.size ≤ base) : Below a.heap.size a c :=
  h.grown k h.size (fun g hg => Nat.le_trans hb (wrow_lt hr g hg).1)

section
variable {H : Type} {enc : TypeId × Value → H} {w : World} {base : Nat} {spare : Nat → Bool} {held : Bool}

theorem word_one : ∀ t, t = 3 ∨ t = 9 → Tryz.prog.cellsOf t = 1 := by
  rintro t (rfl | rfl) <;> kernel_rfl

set_option maxRecDepth 100000 in
theorem word_of_trod {fuel : Nat} {cs : List Value} {x : DataW H × List MemPlace} (hl : cs.length = 3) (h : DataW.trod enc Tryz.prog w base spare held fuel 157 cs = some x) : ∃ y : Wd, cs = [.string y.n, .int .i64 y.k, .int .i64 y.v] ∧ y.n.size ≤ maxLen := by
  match cs, hl with
  | [c0, c1, c2], _ =>
    obtain ⟨xs, n, _, hx, _, hlen, hg⟩ := DataW.trod_struct Tryz.underlying157 h
    match xs, hlen with
    | [y0, y1, y2], _ =>
      have g0 := hg 0 _ rfl
      have g1 := hg 1 _ rfl
      have g2 := hg 2 _ rfl
      simp [word_one] at g0 g1 g2
      obtain ⟨s, e0, _, l0⟩ := DataW.trod_string Tryz.underlying9 g0
      obtain ⟨n1, e1, _, _⟩ := DataW.trod_int Tryz.underlying3 g1
      obtain ⟨n2, e2, _, _⟩ := DataW.trod_int Tryz.underlying3 g2
      simp only [List.cons.injEq, and_true] at e0 e1 e2
      subst e0 e1 e2
      exact ⟨⟨s, n1, n2⟩, rfl, l0⟩

set_option maxRecDepth 100000 in
theorem open_word {r : Reach} {b0 : Nat} {v : Value} {d : DataW H} {p : List MemPlace} (hv : Value.okWide Tryz.prog w r b0 157 v) (h : DataW.Trod enc Tryz.prog w base (fun _ => true) held 157 v d p) : ∃ D : Wd, WdIn w v D := by
  obtain ⟨cs, rfl, hsz⟩ := okWide_struct Tryz.underlying157 hv
  have hC : Tryz.prog.cellsOf 157 = 3 := by kernel_rfl
  rw [hC] at hsz
  obtain ⟨fuel, hf⟩ := h
  have hf' : DataW.trod enc Tryz.prog w base (fun _ => true) held fuel 157 cs.toList = some (d, p) := by simpa [Value.cells] using hf
  obtain ⟨y, hy, hn⟩ := word_of_trod (by simpa using hsz) hf'
  exact ⟨y, by rw [show cs = #[.string y.n, .int .i64 y.k, .int .i64 y.v] from Array.ext' (by simpa using hy)], hn⟩

theorem choose_words {len : Nat} {p : Nat → Wd → Prop} (h : ∀ i, i < len → ∃ x, p i x) : ∃ Q : List Wd, Q.length = len ∧ ∀ i (hi : i < Q.length), p i Q[i] := by
  induction len with
  | zero => exact ⟨[], rfl, fun i hi => by simp at hi⟩
  | succ m ih =>
    obtain ⟨Q, hl, hq⟩ := ih (fun i hi => h i (by omega))
    obtain ⟨x, hx⟩ := h m (by omega)
    refine ⟨Q ++ [x], by simp [hl], fun i hi => ?_⟩
    by_cases e : i < Q.length
    · rw [List.getElem_append_left e]; exact hq i e
    · have : i = m := by simp at hi; omega
      subst this
      rw [List.getElem_append_right (by omega)]
      simp [hl]
      exact hx

set_option maxRecDepth 100000 in
theorem open_words {r : Reach} {b0 : Nat} {v : Value} {d : DataW H} {p : List MemPlace} (hv : Value.okWide Tryz.prog w r b0 22 v) (h : DataW.Trod enc Tryz.prog w base (fun _ => true) held 22 v d p) : ∃ D : List Wd, WdsL w v D := by
  obtain ⟨A, l, c, rfl⟩ := okWide_slice Tryz.underlying22 hv
  obtain ⟨fuel, hf⟩ := h
  have hC : Tryz.prog.cellsOf 157 = 3 := by kernel_rfl
  rcases open_slice Tryz.underlying22 hf with ⟨hcs, _⟩ | ⟨a, len, cap, m, n, D, Pl, hcs, hb, hl, hm, hmm, hx, hi⟩
  · simp [Value.cells] at hcs
    obtain ⟨rfl, rfl, rfl⟩ := hcs
    exact ⟨[], Nat.zero_le _, fun _ h => by simp at h, none, 0, rfl, fun h => absurd h (by simp)⟩
  · simp [Value.cells] at hcs
    obtain ⟨rfl, rfl, rfl⟩ := hcs
    simp only [if_true] at hmm
    obtain ⟨Q, hlen, hq⟩ := choose_words (len := l) (p := fun i x => WdAt w (a.add (i * 3)) x ∧ x.n.size ≤ maxLen) (fun i hil => by
      obtain ⟨cs', h1, h2⟩ := hi i (by omega)
      rw [hC] at h1
      obtain ⟨_, hcl, hat⟩ := World.cells?_some h1
      obtain ⟨y, rfl, hn⟩ := word_of_trod hcl h2
      refine ⟨y, ⟨?_, ?_, ?_⟩, hn⟩
      · have := hat 0 (by omega); rw [Addr.add_zero'] at this; simpa using this
      · have := hat 1 (by omega); rw [Addr.add_succ'] at this; simpa using this
      · have := hat 2 (by omega); rw [Addr.add_succ'] at this; simpa using this)
    refine ⟨Q, by rw [hlen]; omega, fun x hx => ?_, some a, c, by rw [hlen], fun _ => ⟨a, rfl, fun k hk => (hq k hk).1⟩⟩
    obtain ⟨k, hk, rfl⟩ := List.mem_iff_getElem.1 hx
    exact (hq k hk).2

end

/-- What a listed table of numbers gives: its cells. -/
theorem nums_of_trod {H : Type} {enc : TypeId × Value → H} {P : Program} {w : World} {base : Nat} {spare : Nat → Bool} {held : Bool} {fuel n : Nat} {t e : TypeId} {cs : List Value} {L : List Int} {q : List MemPlace}
    (ha : P.underlying t = some (.array n e)) (he : P.underlying e = some (.int .i64)) (hc : P.cellsOf e = 1)
    (h : DataW.trod enc P w base spare held fuel t cs = some (.agg (L.map fun b => .lit (.int .i64 b)), q)) : ∀ k, k < n → cs[k]? = some (.int .i64 (L.getD k 0)) := by
  intro k hk
  obtain ⟨xs, m, rfl, hx, hlen, hn, hel⟩ := DataW.trod_array ha h
  have hk' := hel k hk
  rw [hc, Nat.mul_one] at hk'
  have hkx : k < xs.length := by omega
  rw [List.getElem?_eq_getElem hkx] at hk'
  obtain ⟨s, e1, e2, _⟩ := DataW.trod_int he hk'
  simp only [Prod.mk.injEq, DataW.agg.injEq] at hx
  have hmap := congrArg (fun l => l[k]?) hx.1
  simp only [List.getElem?_map] at hmap
  rw [List.getElem?_eq_getElem hkx, e2] at hmap
  cases hL : L[k]? with
  | none => rw [hL] at hmap; simp at hmap
  | some b =>
    rw [hL] at hmap
    simp at hmap
    have h1 := congrArg (fun l => l[0]?) e1
    simp at h1
    rw [h1, List.getD_eq_getElem?_getD, hL, hmap]
    rfl

end Go.Proofs.YthnbaeamekolmaaGreatDoor

namespace Go.Proofs.YthnbaeamekolmaaGreatDoor
open Go.RowKit
set_option linter.unusedVariables false
set_option linter.unusedSimpArgs false

/-- A call: its return address, its floor, its depth, whether it catches. -/
structure Cl where
  i : Int
  f : Int
  d : Int
  c : Bool
deriving DecidableEq

/-- Its cells. -/
def ccs (x : Cl) : List Value := [.int .i64 x.i, .int .i64 x.f, .int .i64 x.d, .bool x.c]

/-- The cells of a list of calls. -/
def ccells (Q : List Cl) : List Value := Q.flatMap ccs

theorem ccells_len (Q : List Cl) : (ccells Q).length = Q.length * 4 := by
  induction Q with
  | nil => rfl
  | cons q r ih => unfold ccells at *; rw [List.flatMap_cons, List.length_append, ih]; simp [ccs]; omega

theorem ccells_at (Q : List Cl) (k j : Nat) (hk : k < Q.length) (hj : j < 4) : (ccells Q)[k * 4 + j]? = (ccs Q[k])[j]? := by
  induction Q generalizing k with
  | nil => simp at hk
  | cons q r ih =>
    unfold ccells at *
    rw [List.flatMap_cons]
    match k with
    | 0 => rw [List.getElem?_append_left (by simp [ccs]; omega)]; simp
    | k + 1 =>
      rw [List.getElem?_append_right (by simp [ccs]; omega), show (k + 1) * 4 + j - (ccs q).length = k * 4 + j by simp [ccs]; omega]
      simp at hk
      rw [ih k (by omega)]
      simp

/-- The four cells of a call, from an address on. -/
def ClAt (w : World) (a : Addr) (x : Cl) : Prop := w.cell? a = some (.int .i64 x.i) ∧ w.cell? ⟨a.block, a.off + 1, none⟩ = some (.int .i64 x.f) ∧ w.cell? ⟨a.block, a.off + 2, none⟩ = some (.int .i64 x.d) ∧ w.cell? ⟨a.block, a.off + 3, none⟩ = some (.bool x.c)

/-- A slice, nil or not, that reads as these calls. -/
def Cls (w : World) (v : Value) (Q : List Cl) : Prop :=
  Q.length ≤ maxLen ∧ ∃ A cap, v = .slice A Q.length cap ∧ (0 < Q.length → ∃ ad, A = some ad ∧ ∀ k (h : k < Q.length), ClAt w (ad.add (k * 4)) Q[k])

/-- A slice of the call's own, perhaps nil, of these calls. -/
def CRow (w : World) (base : Nat) (v : Value) (Q : List Cl) : Prop := w.ownsRow base 140 4 v Q.length (ccells Q)

theorem clAt_keep {w w' : World} {a : Addr} {x : Cl} (h : ClAt w a x) (hk : ∀ (x : Addr) (u : Value), w.cell? x = some u → w'.cell? x = some u) : ClAt w' a x := ⟨hk _ _ h.1, hk _ _ h.2.1, hk _ _ h.2.2.1, hk _ _ h.2.2.2⟩

theorem cls_keep {w w' : World} {v : Value} {Q : List Cl} (h : Cls w v Q) (hk : ∀ (x : Addr) (u : Value), w.cell? x = some u → w'.cell? x = some u) : Cls w' v Q := by
  obtain ⟨h1, A, cap, hv, hc⟩ := h
  refine ⟨h1, A, cap, hv, fun hp => ?_⟩
  obtain ⟨ad, ha, hc⟩ := hc hp
  exact ⟨ad, ha, fun k hk' => clAt_keep (hc k hk') hk⟩

theorem clAt_below {w w' : World} (hb : Below w.heap.size w w') {a : Addr} {x : Cl} (h : ClAt w a x) : ClAt w' a x := clAt_keep h (cell_kept hb)

theorem cls_below {w w' : World} {v : Value} {Q : List Cl} (h : Cls w v Q) (hb : Below w.heap.size w w') : Cls w' v Q := cls_keep h (cell_kept hb)

theorem cls_nil (w : World) : Cls w (.slice none 0 0) [] := ⟨Nat.zero_le _, none, 0, rfl, fun h => absurd h (by simp)⟩

theorem crow_nil (w : World) (base : Nat) : CRow w base (.slice none 0 0) [] := World.ownsRow_nil w base _ 4

theorem crow_at {w : World} {base g cap : Nat} {Q : List Cl} (h : CRow w base (.slice (some ⟨g, 0, none⟩) Q.length cap) Q) (k : Nat) (hk : k < Q.length) : ClAt w ⟨g, k * 4, none⟩ Q[k] := by
  have c : ∀ j, j < 4 → w.cell? ⟨g, k * 4 + j, none⟩ = (ccs Q[k])[j]? := fun j hj => by rw [World.ownsRow.cellAt h (k * 4 + j) (by omega), ccells_at Q k j hk hj]
  exact ⟨c 0 (by omega), c 1 (by omega), c 2 (by omega), c 3 (by omega)⟩

theorem crow_dds {w : World} {base : Nat} {v : Value} {Q : List Cl} (h : CRow w base v Q) : Cls w v Q := by
  rcases h.2 with ⟨hv, h0⟩ | ⟨g, cap, cur, hv, hb, hg, h1, h2, h3, h4⟩
  · exact ⟨by rw [h0]; exact Nat.zero_le _, none, 0, by rw [hv, h0], fun hp => absurd hp (by omega)⟩
  · refine ⟨Nat.le_trans h1 h2, some ⟨g, 0, none⟩, cap, hv, fun _ => ⟨_, rfl, fun k hk => ?_⟩⟩
    subst hv
    have := crow_at h k hk
    rwa [show (⟨g, 0, none⟩ : Addr).add (k * 4) = ⟨g, k * 4, none⟩ by rw [Addr.add_lit, Nat.zero_add]]

theorem crow_lt {w : World} {base : Nat} {v : Value} {Q : List Cl} (h : CRow w base v Q) : ∀ g, v.ownBlock = some g → base ≤ g ∧ g < w.heap.size := h.lt

theorem crow_free {w : World} {base g cap n : Nat} {Q : List Cl} (h : CRow w base (.slice (some ⟨g, 0, none⟩) n cap) Q) (j : Nat) : w.frozen? ⟨g, j, none⟩ = false := by
  rcases h.2 with ⟨h', _⟩ | ⟨g', cap', cur, h', _, hg, _⟩
  · cases h'
  · simp only [Value.slice.injEq, Option.some.injEq, Addr.mk.injEq, and_true, true_and] at h'
    obtain ⟨rfl, _⟩ := h'
    simp [World.frozen?, hg]

theorem crow_keep {w w' : World} {base : Nat} {v : Value} {Q : List Cl} (h : CRow w base v Q) (hk : ∀ g, v.ownBlock = some g → w'.heap[g]? = w.heap[g]?) : CRow w' base v Q := by
  obtain ⟨h1, h2⟩ := h
  refine ⟨h1, ?_⟩
  rcases h2 with h2 | ⟨g, cap, cur, hv, hb, hg, r⟩
  · exact .inl h2
  · exact .inr ⟨g, cap, cur, hv, hb, by rw [hk g (by rw [hv]; rfl)]; exact hg, r⟩

theorem crow_below {w w' : World} {base : Nat} {v : Value} {Q : List Cl} (h : CRow w base v Q) (hb : Below w.heap.size w w') : CRow w' base v Q := crow_keep h fun g hg => hb.block g (crow_lt h g hg).2

theorem crow_alloc {w : World} {base : Nat} {v : Value} {Q : List Cl} (h : CRow w base v Q) (o : Obj) : CRow (w.alloc o) base v Q := crow_keep h fun g hg => Below.heap_alloc w o g (crow_lt h g hg).2

theorem crow_base {w : World} {base base' : Nat} {v : Value} {Q : List Cl} (h : CRow w base v Q) (hb : base' ≤ base) : CRow w base' v Q := by
  obtain ⟨h1, h2⟩ := h
  refine ⟨h1, ?_⟩
  rcases h2 with h2 | ⟨g, cap, cur, a1, a2, a3⟩
  · exact .inl h2
  · exact .inr ⟨g, cap, cur, a1, by omega, a3⟩

set_option maxRecDepth 100000 in
set_option maxHeartbeats 1000000 in
theorem toCall_any (x : Cl) (w : World) :
    Calls Tryz.prog 157 #[.agg #[.int .i64 x.i, .int .i64 x.f, .int .i64 x.d, .bool x.c]] w fun e w' => e = .returned (.agg #[.int .i64 x.i, .int .i64 x.f, .int .i64 x.d, .bool x.c]) ∧ Below w.heap.size w w' := by
  go_enter Tryz.func157, Tryz.ntmps157
  go_wp2
  refine bodyPost_ret (v := .agg #[.int .i64 x.i, .int .i64 x.f, .int .i64 x.d, .bool x.c]) (by simp [results, Tryz.results157, go_sem, *]) rfl ⟨rfl, ?_⟩
  repeat (first | with_reducible exact Below.refl _ _ | with_reducible refine Below.setCell ?_ (by simp; try omega) _ | with_reducible refine Below.alloc ?_ (by simp; try omega) _)

/-- No call. -/
def noCl : Cl := ⟨0, 0, 0, false⟩

theorem own_infoCl : (Tryz.prog.info? 140).map (fun i => (i.zero, i.size, i.bytes)) = some (some (.agg #[.int .i64 0, .int .i64 0, .int .i64 0, .bool false]), 4, 32) := by kernel_rfl

theorem ccells_set (Q : List Cl) (k : Nat) (x : Cl) (hk : k < Q.length) : ccells (Q.set k x) = ((((ccells Q).set (k * 4) (.int .i64 x.i)).set (k * 4 + 1) (.int .i64 x.f)).set (k * 4 + 2) (.int .i64 x.d)).set (k * 4 + 3) (.bool x.c) := by
  induction Q generalizing k with
  | nil => simp at hk
  | cons q r ih =>
    match k with
    | 0 => simp [ccells, ccs]
    | k + 1 =>
      simp at hk
      have := ih k (by omega)
      unfold ccells at *
      rw [List.set_cons_succ, List.flatMap_cons, List.flatMap_cons, this, show (k + 1) * 4 = k * 4 + 1 + 1 + 1 + 1 by omega]
      simp [ccs]

theorem cmade_cells (n : Nat) : (madeCells (Value.agg #[.int .i64 0, .int .i64 0, .int .i64 0, .bool false]).cells (n * 4)).toList = ccells (List.replicate n noCl) := by
  apply List.ext_getElem?
  intro j
  by_cases hj : j < n * 4
  · have hk : j / 4 < (List.replicate n noCl).length := by simp; omega
    have h := ccells_at (List.replicate n noCl) (j / 4) (j % 4) hk (by omega)
    rw [show j / 4 * 4 + j % 4 = j by omega] at h
    rw [h]
    have : j % 4 = 0 ∨ j % 4 = 1 ∨ j % 4 = 2 ∨ j % 4 = 3 := by omega
    rcases this with e | e | e | e <;> simp [madeCells, hj, Value.cells, ccs, noCl, e]
  · rw [(List.getElem?_eq_none (by rw [ccells_len]; simp; omega) : (ccells (List.replicate n noCl))[j]? = none)]
    simp [madeCells, hj]

/-- A call's four cells written. -/
def setC4 (w : World) (g k : Nat) (x : Cl) : World := (((w.setCell ⟨g, k * 4, none⟩ (.int .i64 x.i)).setCell ⟨g, k * 4 + 1, none⟩ (.int .i64 x.f)).setCell ⟨g, k * 4 + 2, none⟩ (.int .i64 x.d)).setCell ⟨g, k * 4 + 3, none⟩ (.bool x.c)

theorem crow_set {w : World} {base g cap : Nat} {Q : List Cl} (h : CRow w base (.slice (some ⟨g, 0, none⟩) Q.length cap) Q) (k : Nat) (hk : k < Q.length) (x : Cl) :
    CRow (setC4 w g k x) base (.slice (some ⟨g, 0, none⟩) Q.length cap) (Q.set k x) := by
  have h1 := (World.ownsRow.stored h (k * 4) (.int .i64 x.i)).1
  have h2 := (h1.stored (k * 4 + 1) (.int .i64 x.f)).1
  have h3 := (h2.stored (k * 4 + 2) (.int .i64 x.d)).1
  have h4 := (h3.stored (k * 4 + 3) (.bool x.c)).1
  rw [← ccells_set Q k x hk] at h4
  unfold CRow setC4
  rw [List.length_set]
  exact h4

theorem below_setC4 {B : Nat} {w0 w : World} (hb : Below B w0 w) {g : Nat} (hg : B ≤ g) (k : Nat) (x : Cl) : Below B w0 (setC4 w g k x) :=
  (((hb.setCell (p := ⟨g, k * 4, none⟩) hg _).setCell (p := ⟨g, k * 4 + 1, none⟩) hg _).setCell (p := ⟨g, k * 4 + 2, none⟩) hg _).setCell (p := ⟨g, k * 4 + 3, none⟩) hg _

theorem grown_setC4 (w : World) (g k : Nat) (x : Cl) : w.grownBy (setC4 w g k x) (some g) :=
  ⟨rfl, rfl, rfl, by simp [setC4], fun i hi hne => by
    have h : i ≠ g := fun e => hne (by rw [e])
    unfold setC4
    rw [Below.heap_setCell _ _ _ _ h, Below.heap_setCell _ _ _ _ h, Below.heap_setCell _ _ _ _ h, Below.heap_setCell _ _ _ _ h]⟩

/-- The first k calls, no calls behind them. -/
def clTo (Q : List Cl) (k : Nat) : List Cl := Q.take k ++ List.replicate (Q.length - k) noCl

theorem clTo_len (Q : List Cl) {k : Nat} (h : k ≤ Q.length) : (clTo Q k).length = Q.length := by unfold clTo; rw [List.length_append, List.length_take, List.length_replicate]; omega

theorem clTo_zero (Q : List Cl) : clTo Q 0 = List.replicate Q.length noCl := by unfold clTo; simp

theorem clTo_end (Q : List Cl) : clTo Q Q.length = Q := by unfold clTo; simp

theorem clTo_next (Q : List Cl) {k : Nat} (h : k < Q.length) : (clTo Q k).set k Q[k] = clTo Q (k + 1) := by
  unfold clTo
  rw [List.set_append_right _ _ (by rw [List.length_take]; omega), List.length_take, Nat.min_eq_left (by omega), Nat.sub_self, List.take_succ_eq_append_getElem h, show Q.length - k = (Q.length - (k + 1)) + 1 by omega, List.replicate_succ, List.set_cons_zero, List.append_assoc]
  rfl

/-- What makes a list of calls leaves: the list, in memory of its own. -/
def CListOf (w : World) (Q : List Cl) (e : Ending) (w' : World) : Prop := ∃ v, e = .returned v ∧ CRow w' w.heap.size v Q ∧ v.ownBlock ≠ none ∧ Below w.heap.size w w'

set_option maxRecDepth 100000 in
set_option maxHeartbeats 2000000 in
theorem toCallS_any (v : Value) (Q : List Cl) (w : World) (hv : Cls w v Q) (hs : Q.length ≤ 1048576) :
    Calls Tryz.prog 83 #[v] w (CListOf w Q) := by
  obtain ⟨i0, hi0, hz0, hz1, hz2⟩ := info_parts own_infoCl
  have I0 := Lib.hid hi0
  have Z0 := Lib.hid hz0
  have Z1 := Lib.hid hz1
  have B8 : Hid (i0.bytes * Q.length ≤ 281474976710656) := Lib.hid (by rw [hz2]; omega)
  have HV := Lib.hid hv
  obtain ⟨hl, A, cap, rfl, hc⟩ := hv
  clear hc hi0 hz0 hz1 hz2 hl
  go_enter Tryz.func83, Tryz.ntmps83
  go_wp2_with (first
    | (at_make; refine wpList_make_full _ rfl _ _ 44 rfl w.heap.size 140 i0 _ 4 Tryz.underlying44 I0.out Z0.out Z1.out .i64 .i64 _ _ Q.length rfl rfl rfl rfl B8.out (by unfold maxLen; omega) (by simp) ?_
       intro w1 ho1 hg1
       rw [cmade_cells] at ho1
       have R1 : Hid (CRow w1 w.heap.size (.slice (some ⟨w.heap.size, 0, none⟩) Q.length Q.length) (clTo Q 0)) := Lib.hid (by unfold CRow; rw [clTo_zero]; simpa using ho1)
       have B1 : Hid (Below w.heap.size w w1) := Lib.hid ((Below.refl _ _).grown hg1 (Nat.le_refl _) (by simp))
       clear ho1 hg1))
  go_loopw [4] (fun i wr => ∃ k : Nat, k ≤ Q.length ∧ i = .int .i64 k ∧ CRow wr w.heap.size (.slice (some ⟨w.heap.size, 0, none⟩) Q.length Q.length) (clTo Q k) ∧ Below w.heap.size w wr) (fun i _ => Q.length - (intOf i).toNat)
  case atStart => exact ⟨0, Nat.zero_le _, rfl, R1.out, B1.out⟩
  case round =>
    obtain ⟨k, hk, rfl, hr, hb⟩ := hrel
    have HR := Lib.hid hr
    have HB := Lib.hid hb
    clear hr hb
    by_cases hlt : k < Q.length
    · obtain ⟨_, A', cap', e', hc⟩ := cls_below HV.out HB.out
      simp only [Value.slice.injEq, true_and] at e'
      obtain ⟨rfl, rfl⟩ := e'
      obtain ⟨ad, rfl, hd⟩ := hc (by omega)
      obtain ⟨c0, c1, c2, c3⟩ := hd k hlt
      clear hc hd
      go_wp2_with fail
      refine (toCall_any _ _).mono ?_
      rintro e w2 ⟨rfl, hb2⟩
      have B2 := Lib.hid (below_step HB.out hb2)
      have R2 := Lib.hid (crow_below HR.out hb2)
      clear hb2 c0 c1 c2 c3
      have R3 : CRow w2 w.heap.size (.slice (some ⟨w.heap.size, 0, none⟩) (clTo Q k).length Q.length) (clTo Q k) := by rw [clTo_len Q hk]; exact R2.out
      have ST : Hid (CRow (setC4 w2 w.heap.size k Q[k]) w.heap.size (.slice (some ⟨w.heap.size, 0, none⟩) Q.length Q.length) (clTo Q (k + 1))) := Lib.hid (by
        have h3 := crow_set R3 k (by rw [clTo_len Q hk]; exact hlt) Q[k]
        rw [clTo_next Q hlt, clTo_len Q hk] at h3
        exact h3)
      have SB := Lib.hid (below_setC4 B2.out (g := w.heap.size) (Nat.le_refl _) k Q[k])
      have zl : w.heap.size < w2.heap.size := (crow_lt R2.out _ rfl).2
      obtain ⟨o0, o1, o2, o3⟩ := crow_at R3 k (by rw [clTo_len Q hk]; exact hlt)
      have f0 := crow_free R2.out (k * 4)
      have f1 := crow_free R2.out (k * 4 + 1)
      have f2 := crow_free R2.out (k * 4 + 2)
      have f3 := crow_free R2.out (k * 4 + 3)
      clear R3
      unfold setC4 at ST SB
      generalize ((clTo Q k)[k]'(by rw [clTo_len Q hk]; exact hlt)) = old at *
      simp only at o0 o1 o2 o3
      go_wp2
      go_roundw
      case rel => exact ⟨k + 1, by omega, by go_num, ST.out, SB.out⟩
      case measure => simp [intOf]; omega
    · obtain rfl : k = Q.length := by omega
      clear hlt
      go_wp2
      go_ret
      exact ⟨_, rfl, by have h := HR.out; rwa [clTo_end] at h, by simp [Value.ownBlock], HB.out⟩

set_option maxHeartbeats 400000 in
theorem szCalls_any (A : Option Addr) (n cap : Nat) (left : Int) (w : World) (hn : n ≤ maxLen) (h0 : 0 ≤ left) (h1 : left ≤ 1048576) :
    Calls Tryz.prog 76 #[.slice A n cap, .int .i64 left] w fun e w' => e = .returned (.int .i64 (leftOf left n)) ∧ w = w' := by
  unfold maxLen at hn
  by_cases h : left - n < 0
  · have E : Hid (leftOf left n = -1) := Lib.hid (by unfold leftOf; rw [if_pos h])
    go_enter Tryz.func76, Tryz.ntmps76
    go_wp2
    go_ret
    exact ⟨ret_int E.out.symm, rfl⟩
  · have E : Hid (leftOf left n = left - n) := Lib.hid (by unfold leftOf; rw [if_neg h])
    go_enter Tryz.func76, Tryz.ntmps76
    go_wp2
    go_ret
    exact ⟨ret_int E.out.symm, rfl⟩

end Go.Proofs.YthnbaeamekolmaaGreatDoor

namespace Go.Proofs.YthnbaeamekolmaaGreatDoor
open Go.RowKit
set_option linter.unusedVariables false
set_option linter.unusedSimpArgs false

set_option maxRecDepth 100000 in
set_option maxHeartbeats 1000000 in
theorem eqCall_same (x : Cl) (w : World) :
    Calls Tryz.prog 169 #[.agg #[.int .i64 x.i, .int .i64 x.f, .int .i64 x.d, .bool x.c], .agg #[.int .i64 x.i, .int .i64 x.f, .int .i64 x.d, .bool x.c]] w fun e w' => e = .returned (.bool true) ∧ Below w.heap.size w w' := by
  have tp : (x.i != x.i) = false := by simp
  have ta : (x.f != x.f) = false := by simp
  have tb : (x.d != x.d) = false := by simp
  have tr : (x.c != x.c) = false := by simp
  go_enter Tryz.func169, Tryz.ntmps169
  go_wp2
  go_ret
  exact ⟨rfl, below_alloc (below_alloc (Below.refl _ _) _) _⟩

set_option maxRecDepth 100000 in
set_option maxHeartbeats 2000000 in
theorem eqCallS_same (u v : Value) (Q : List Cl) (w : World) (hu : Cls w u Q) (hv : Cls w v Q) :
    Calls Tryz.prog 93 #[u, v] w fun e w' => e = .returned (.bool true) ∧ Below w.heap.size w w' := by
  have HU := Lib.hid hu
  have HV := Lib.hid hv
  obtain ⟨hl, A, ca, rfl, _⟩ := hu
  obtain ⟨_, B, cb, rfl, _⟩ := hv
  unfold maxLen at hl
  have z0 : ((Q.length : Int) != (Q.length : Int)) = false := by simp
  go_enter Tryz.func93, Tryz.ntmps93
  go_wp2
  clear z0
  go_loopw [5] (fun i wr => ∃ k : Nat, k ≤ Q.length ∧ i = .int .i64 k ∧ Below w.heap.size w wr) (fun i _ => Q.length - (intOf i).toNat)
  case atStart => exact ⟨0, Nat.zero_le _, rfl, Below.refl _ _⟩
  case round =>
    obtain ⟨k, hk, rfl, hb⟩ := hrel
    have HB := Lib.hid hb
    clear hb
    by_cases hlt : k < Q.length
    · obtain ⟨_, A', ca', e', hc⟩ := cls_below HU.out HB.out
      simp only [Value.slice.injEq, true_and] at e'
      obtain ⟨rfl, rfl⟩ := e'
      obtain ⟨ga, rfl, ha⟩ := hc (by omega)
      obtain ⟨_, B', cb', e', hc⟩ := cls_below HV.out HB.out
      simp only [Value.slice.injEq, true_and] at e'
      obtain ⟨rfl, rfl⟩ := e'
      obtain ⟨gb, rfl, hb⟩ := hc (by omega)
      have WA := ha k hlt
      have WB := hb k hlt
      clear ha hb hc
      generalize Q[k] = x at *
      have KA := Lib.hid WA
      have KB := Lib.hid WB
      obtain ⟨a0, a1, a2, a3⟩ := WA
      obtain ⟨b0, b1, b2, b3⟩ := WB
      go_wp2
      go_region_held3 (fun w' => (w'.cell? (ga.add (k * 4)) = some (.int .i64 x.i) ∧ w'.cell? ⟨(ga.add (k * 4)).block, (ga.add (k * 4)).off + 1, none⟩ = some (.int .i64 x.f) ∧ w'.cell? ⟨(ga.add (k * 4)).block, (ga.add (k * 4)).off + 2, none⟩ = some (.int .i64 x.d) ∧ w'.cell? ⟨(ga.add (k * 4)).block, (ga.add (k * 4)).off + 3, none⟩ = some (.bool x.c)) ∧ (w'.cell? (gb.add (k * 4)) = some (.int .i64 x.i) ∧ w'.cell? ⟨(gb.add (k * 4)).block, (gb.add (k * 4)).off + 1, none⟩ = some (.int .i64 x.f) ∧ w'.cell? ⟨(gb.add (k * 4)).block, (gb.add (k * 4)).off + 2, none⟩ = some (.int .i64 x.d) ∧ w'.cell? ⟨(gb.add (k * 4)).block, (gb.add (k * 4)).off + 3, none⟩ = some (.bool x.c))) (first | exact ⟨K1, K2⟩ | exact ⟨KA.out, KB.out⟩)
        (first | (go_at_call 169; refine (eqCall_same x _).mono ?_; rintro e w1 ⟨rfl, hb1⟩; have K1 := clAt_below hb1 KA.out; have K2 := clAt_below hb1 KB.out))
      have HB2 := Lib.hid (HB.out.drew.trans (hb1.mono HB.out.drew.size))
      clear hb1 K1 K2 a0 a1 a2 a3 b0 b1 b2 b3
      go_wp2
      go_roundw
      case rel => exact ⟨k + 1, by omega, by go_num, HB2.out⟩
      case measure => simp [intOf]; omega
    · obtain rfl : k = Q.length := by omega
      clear hlt
      go_wp2
      go_ret
      exact ⟨rfl, HB.out⟩

theorem mkB_three (q : Nat) : (((q : Int) + 1 + 1 + 1).tmod 3 == 0) = mkB (q + 3) := by
  have h := mkB_eq q 3
  rw [← h, show ((q : Int) + 1 + 1 + 1) = (q : Int) + ((3 : Nat) : Int) by omega]

theorem mkB_three2 (q : Nat) : ((((q : Int) + 1 + 1 + 1) % 3) == 0) = mkB (q + 3) := by
  rw [← mkB_three, Int.tmod_eq_emod_of_nonneg (by omega)]

/-- The call with marks from K on. -/
def markCl (K : Nat) : Cl := ⟨(K : Int), (K : Int) + 1, (K : Int) + 1 + 1, mkB (K + 3)⟩

/-- The calls with marks from K on. -/
def marksC (K n : Nat) : List Cl := (List.range n).map fun j => markCl (K + 4 * j)

theorem marksC_len (K n : Nat) : (marksC K n).length = n := by unfold marksC; simp

theorem marksC_at {K n k : Nat} (h : k < (marksC K n).length) : (marksC K n)[k] = markCl (K + 4 * k) := by
  have e : (marksC K n)[k]? = some (markCl (K + 4 * k)) := by
    unfold marksC
    rw [List.getElem?_map, List.getElem?_range (by rwa [marksC_len] at h)]; rfl
  exact (List.getElem?_eq_some_iff.1 e).2

theorem marksC_succ (K n : Nat) : marksC K (n + 1) = marksC K n ++ [markCl (K + 4 * n)] := by unfold marksC; rw [List.range_succ]; simp

/-- Marks at the first k places. -/
def markedC (K k : Nat) (Q : List Cl) : List Cl := marksC K k ++ Q.drop k

theorem markedC_len {K k : Nat} {Q : List Cl} (h : k ≤ Q.length) : (markedC K k Q).length = Q.length := by unfold markedC; rw [List.length_append, marksC_len, List.length_drop]; omega

theorem markedC_zero (K : Nat) (Q : List Cl) : markedC K 0 Q = Q := by unfold markedC marksC; simp

theorem markedC_end (K : Nat) (Q : List Cl) : markedC K Q.length Q = marksC K Q.length := by unfold markedC; simp

theorem markedC_next {K k : Nat} {Q : List Cl} (h : k < Q.length) : (markedC K k Q).set k (markCl (K + 4 * k)) = markedC K (k + 1) Q := by
  unfold markedC
  rw [marksC_succ, List.drop_eq_getElem_cons h, List.set_append_right _ _ (by rw [marksC_len]; exact Nat.le_refl _), marksC_len, Nat.sub_self, List.set_cons_zero]
  simp

/-- What laying marks leaves: the calls bear them; no other block that was there has turned. -/
def MarkedCOf (w : World) (base : Nat) (v : Value) (n K : Nat) (e : Ending) (w' : World) : Prop := e = .returned (.int .i64 ((K + 4 * n : Nat) : Int)) ∧ CRow w' base v (marksC K n) ∧ w.grownBy w' v.ownBlock

end Go.Proofs.YthnbaeamekolmaaGreatDoor
