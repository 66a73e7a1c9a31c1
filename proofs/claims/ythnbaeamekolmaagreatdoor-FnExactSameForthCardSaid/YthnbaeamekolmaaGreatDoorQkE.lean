/- QkE: several of my texts, laid together: ImpB, CpA, HiA, McD, McE. -/
import Derived.Test.YthnbaeamekolmaaGreatDoorQkA
import Derived.Test.YthnbaeamekolmaaGreatDoorQkB
import Derived.Test.YthnbaeamekolmaaGreatDoorQkD
import Derived.Test.YthnbaeamekolmaaGreatDoorDatD
import Derived.BigQuiet
namespace Go.Proofs.YthnbaeamekolmaaGreatDoor
open Go.RowKit
set_option linter.unusedVariables false
set_option linter.unusedSimpArgs false

set_option maxRecDepth 100000 in
set_option maxHeartbeats 1000000 in
theorem holdsColon_any (v : Int) (w : World) :
    Calls Tryz.prog 257 #[.agg #[.int .i64 0, .int .i64 399, .int .i64 1], .int .i64 v] w fun e w' => e = .returned (.bool (inB v 0 399)) ∧ Below w.heap.size w w' := by
  by_cases h : 0 ≤ v
  · by_cases h' : v ≤ 399
    · have E : Hid (inB v 0 399 = true) := Lib.hid (by unfold inB; simp; omega)
      have t1 : (v % 1 == 0) = true := by rw [beq_iff_eq]; omega
      go_enter Tryz.func257, Tryz.ntmps257
      go_wp2
      go_ret
      exact ⟨ret_bool E.out.symm, below_allocW (Below.refl _ _) _⟩
    · have E : Hid (inB v 0 399 = false) := Lib.hid (by unfold inB; simp; omega)
      go_enter Tryz.func257, Tryz.ntmps257
      go_wp2
      go_ret
      exact ⟨ret_bool E.out.symm, below_allocW (Below.refl _ _) _⟩
  · have E : Hid (inB v 0 399 = false) := Lib.hid (by unfold inB; simp; omega)
    go_enter Tryz.func257, Tryz.ntmps257
    go_wp2
    go_ret
    exact ⟨ret_bool E.out.symm, below_allocW (Below.refl _ _) _⟩

set_option maxRecDepth 100000 in
set_option maxHeartbeats 1000000 in
theorem holdsVar_any (v : Int) (w : World) :
    Calls Tryz.prog 257 #[.agg #[.int .i64 4096, .int .i64 4220, .int .i64 4], .int .i64 v] w fun e w' => e = .returned (.bool (inB v 4096 4220 && decide (v % 4 = 0))) ∧ Below w.heap.size w w' := by
  by_cases h : 4096 ≤ v
  · by_cases h' : v ≤ 4220
    · by_cases hm : v % 4 = 0
      · have E : Hid ((inB v 4096 4220 && decide (v % 4 = 0)) = true) := Lib.hid (by unfold inB; simp; omega)
        have t1 : ((v - 4096) % 4 == 0) = true := by rw [beq_iff_eq]; omega
        clear hm
        go_enter Tryz.func257, Tryz.ntmps257
        go_wp2
        go_ret
        exact ⟨ret_bool E.out.symm, below_allocW (Below.refl _ _) _⟩
      · have E : Hid ((inB v 4096 4220 && decide (v % 4 = 0)) = false) := Lib.hid (by unfold inB; simp; omega)
        have t1 : ((v - 4096) % 4 == 0) = false := by rw [beq_eq_false_iff_ne]; omega
        clear hm
        go_enter Tryz.func257, Tryz.ntmps257
        go_wp2
        go_ret
        exact ⟨ret_bool E.out.symm, below_allocW (Below.refl _ _) _⟩
    · have E : Hid ((inB v 4096 4220 && decide (v % 4 = 0)) = false) := Lib.hid (by unfold inB; simp; omega)
      go_enter Tryz.func257, Tryz.ntmps257
      go_wp2
      go_ret
      exact ⟨ret_bool E.out.symm, below_allocW (Below.refl _ _) _⟩
  · have E : Hid ((inB v 4096 4220 && decide (v % 4 = 0)) = false) := Lib.hid (by unfold inB; simp; omega)
    go_enter Tryz.func257, Tryz.ntmps257
    go_wp2
    go_ret
    exact ⟨ret_bool E.out.symm, below_allocW (Below.refl _ _) _⟩

/-- The test of a kind's values. -/
def testV (k : Int) : Value := if k = 6 then .func (.func 257) #[.agg #[.int .i64 0, .int .i64 399, .int .i64 1]] #[] else if k = 7 then .func (.func 257) #[.agg #[.int .i64 4096, .int .i64 4220, .int .i64 4]] #[] else if k = 8 then .func (.func 140) #[] #[] else .nilFunc

set_option maxRecDepth 100000 in
set_option maxHeartbeats 1000000 in
theorem valueTest_any (k : Int) (w : World) :
    Calls Tryz.prog 234 #[.int .i64 k] w fun e w' => e = .returned (testV k) ∧ w = w' := by
  have hmf : ∀ (fn : Fn) (first cap : Array Value) (w : World), (Instr.makeFunc fn first cap).run Tryz.prog w = .ok (.func fn first cap) w := fun _ _ _ _ => rfl
  by_cases k6 : k = 6
  · have E := Lib.hid (show testV k = _ from if_pos k6)
    have t6 : (k == 6) = true := by simp [k6]
    clear k6
    go_enter Tryz.func234, Tryz.ntmps234
    go_wp2
    go_ret
    exact ⟨congrArg Ending.returned E.out.symm, rfl⟩
  · have t6 : (k == 6) = false := by simp [k6]
    by_cases k7 : k = 7
    · have E := Lib.hid (show testV k = _ from (if_neg k6).trans (if_pos k7))
      have t7 : (k == 7) = true := by simp [k7]
      clear k6 k7
      go_enter Tryz.func234, Tryz.ntmps234
      go_wp2
      go_ret
      exact ⟨congrArg Ending.returned E.out.symm, rfl⟩
    · have t7 : (k == 7) = false := by simp [k7]
      by_cases k8 : k = 8
      · have E := Lib.hid (show testV k = _ from (if_neg k6).trans ((if_neg k7).trans (if_pos k8)))
        have t8 : (k == 8) = true := by simp [k8]
        clear k6 k7 k8
        go_enter Tryz.func234, Tryz.ntmps234
        go_wp2
        go_ret
        exact ⟨congrArg Ending.returned E.out.symm, rfl⟩
      · have E := Lib.hid (show testV k = _ from (if_neg k6).trans ((if_neg k7).trans (if_neg k8)))
        have t8 : (k == 8) = false := by simp [k8]
        clear k6 k7 k8
        go_enter Tryz.func234, Tryz.ntmps234
        go_wp2
        go_ret
        exact ⟨congrArg Ending.returned E.out.symm, rfl⟩

theorem func_set (fn : Fn) (a b : Array Value) (W : World) : (binOp .neq 109 (.func fn a b) .nilFunc).run Tryz.prog W = .ok (.bool true) W := by kernel_rfl

theorem func_nil (W : World) : (binOp .neq 109 .nilFunc .nilFunc).run Tryz.prog W = .ok (.bool false) W := by kernel_rfl

set_option maxRecDepth 100000 in
set_option maxHeartbeats 2000000 in
theorem iUser_any (x : Wd) (w : World) (hx : x.n.size ≤ maxLen) :
    Calls Tryz.prog 211 #[.agg #[.string x.n, .int .i64 x.k, .int .i64 x.v]] w fun e w' => e = .returned (.bool (userB x)) ∧ Below w.heap.size w w' := by
  have BB : Hid (∀ o : Obj, Below w.heap.size w (w.alloc o)) := Lib.hid fun o => below_allocW (Below.refl _ _) o
  have HX := Lib.hid hx
  clear hx
  by_cases k6 : x.k = 6
  · have T : Hid (testV x.k = .func (.func 257) #[.agg #[.int .i64 0, .int .i64 399, .int .i64 1]] #[]) := Lib.hid (if_pos k6)
    have V : Hid (valB x.k x.v = inB x.v 0 399) := Lib.hid (by unfold valB; rw [if_pos k6])
    clear k6
    go_enter Tryz.func211, Tryz.ntmps211
    go_wp2_with fail
    refine (valueTest_any _ _).mono ?_
    rintro e w' ⟨rfl, rfl⟩
    rw [T.out]
    have hfs := func_set
    go_wp2_with fail
    refine (wordOK_any _ _ HX.out).mono ?_
    rintro e w' ⟨rfl, rfl⟩
    cases hw : wordL x.n.data.toList
    · have E : Hid (userB x = false) := Lib.hid (by unfold userB; rw [hw]; rfl)
      go_wp2
      go_ret
      exact ⟨ret_bool E.out.symm, BB.out _⟩
    · have E : Hid (userB x = valB x.k x.v) := Lib.hid (by unfold userB; rw [hw]; rfl)
      go_wp2_with fail
      refine (holdsColon_any _ _).mono ?_
      rintro e w1 ⟨rfl, hb1⟩
      have B1 := Lib.hid (below_stepW (BB.out _) hb1)
      clear hb1
      generalize inB x.v 0 399 = r at *
      go_wp2
      go_ret
      exact ⟨ret_bool (V.out.symm.trans E.out.symm), B1.out⟩
  · by_cases k7 : x.k = 7
    · have T : Hid (testV x.k = .func (.func 257) #[.agg #[.int .i64 4096, .int .i64 4220, .int .i64 4]] #[]) := Lib.hid ((if_neg k6).trans (if_pos k7))
      have V : Hid (valB x.k x.v = (inB x.v 4096 4220 && decide (x.v % 4 = 0))) := Lib.hid (by unfold valB; rw [if_neg k6, if_pos k7])
      clear k6 k7
      go_enter Tryz.func211, Tryz.ntmps211
      go_wp2_with fail
      refine (valueTest_any _ _).mono ?_
      rintro e w' ⟨rfl, rfl⟩
      rw [T.out]
      have hfs := func_set
      go_wp2_with fail
      refine (wordOK_any _ _ HX.out).mono ?_
      rintro e w' ⟨rfl, rfl⟩
      cases hw : wordL x.n.data.toList
      · have E : Hid (userB x = false) := Lib.hid (by unfold userB; rw [hw]; rfl)
        go_wp2
        go_ret
        exact ⟨ret_bool E.out.symm, BB.out _⟩
      · have E : Hid (userB x = valB x.k x.v) := Lib.hid (by unfold userB; rw [hw]; rfl)
        go_wp2_with fail
        refine (holdsVar_any _ _).mono ?_
        rintro e w1 ⟨rfl, hb1⟩
        have B1 := Lib.hid (below_stepW (BB.out _) hb1)
        clear hb1
        generalize (inB x.v 4096 4220 && decide (x.v % 4 = 0)) = r at *
        go_wp2
        go_ret
        exact ⟨ret_bool (V.out.symm.trans E.out.symm), B1.out⟩
    · by_cases k8 : x.k = 8
      · have T : Hid (testV x.k = .func (.func 140) #[] #[]) := Lib.hid ((if_neg k6).trans ((if_neg k7).trans (if_pos k8)))
        have V : Hid (valB x.k x.v = cellB x.v) := Lib.hid (by unfold valB; rw [if_neg k6, if_neg k7, if_pos k8])
        clear k6 k7 k8
        go_enter Tryz.func211, Tryz.ntmps211
        go_wp2_with fail
        refine (valueTest_any _ _).mono ?_
        rintro e w' ⟨rfl, rfl⟩
        rw [T.out]
        have hfs := func_set
        go_wp2_with fail
        refine (wordOK_any _ _ HX.out).mono ?_
        rintro e w' ⟨rfl, rfl⟩
        cases hw : wordL x.n.data.toList
        · have E : Hid (userB x = false) := Lib.hid (by unfold userB; rw [hw]; rfl)
          go_wp2
          go_ret
          exact ⟨ret_bool E.out.symm, BB.out _⟩
        · have E : Hid (userB x = valB x.k x.v) := Lib.hid (by unfold userB; rw [hw]; rfl)
          go_wp2_with fail
          refine (cellOK_any _ _).mono ?_
          rintro e w' ⟨rfl, rfl⟩
          generalize cellB x.v = r at *
          go_wp2
          go_ret
          exact ⟨ret_bool (V.out.symm.trans E.out.symm), BB.out _⟩
      · have T : Hid (testV x.k = .nilFunc) := Lib.hid ((if_neg k6).trans ((if_neg k7).trans (if_neg k8)))
        have V : Hid (valB x.k x.v = false) := Lib.hid (by unfold valB; rw [if_neg k6, if_neg k7, if_neg k8])
        clear k6 k7 k8
        go_enter Tryz.func211, Tryz.ntmps211
        go_wp2_with fail
        refine (valueTest_any _ _).mono ?_
        rintro e w' ⟨rfl, rfl⟩
        rw [T.out]
        have hfs := func_nil
        have E : Hid (userB x = false) := Lib.hid (by unfold userB; rw [V.out, Bool.and_false])
        go_wp2
        go_ret
        exact ⟨ret_bool E.out.symm, BB.out _⟩

set_option maxRecDepth 100000 in
set_option maxHeartbeats 4000000 in
theorem iDict_any (v : Value) (Q : List Wd) (w : World) (hv : Wds w v Q) (ht : Tabs w) :
    Calls Tryz.prog 158 #[v] w fun e w' => e = .returned (.bool (dictB Q)) ∧ Below w.heap.size w w' := by
  have HV := Lib.hid hv
  have HT := Lib.hid ht
  obtain ⟨A, ca, rfl, hcap, hl, hn⟩ := wds_form hv
  have HN := Lib.hid hn
  have hcm : ca ≤ ca := Nat.le_refl _
  unfold maxLen at hl
  clear hn hv ht
  by_cases h103 : 103 < Q.length
  · have E := Lib.hid (dict_long h103)
    have t0 : decide ((103 : Int) < (Q.length : Int)) = true := by simp; omega
    go_enter Tryz.func158, Tryz.ntmps158
    go_wp2
    go_ret
    exact ⟨ret_bool E.out.symm, Below.refl _ _⟩
  · have t0 : decide ((103 : Int) < (Q.length : Int)) = false := by simp; omega
    cases hk : kernB Q
    · have E := Lib.hid (dict_kern hk)
      go_enter Tryz.func158, Tryz.ntmps158
      go_wp2_with fail
      refine (iStarts_any _ _ _ HV.out HT.out).mono ?_
      rintro e w1 ⟨rfl, hb⟩
      rw [hk]
      go_wp2
      go_ret
      exact ⟨ret_bool E.out.symm, hb⟩
    · have h83 := kernB_len hk
      have HK := Lib.hid hk
      obtain ⟨g, rfl⟩ := wds_block HV.out (by omega)
      go_enter Tryz.func158, Tryz.ntmps158
      go_wp2_with fail
      refine (iStarts_any _ _ _ HV.out HT.out).mono ?_
      rintro e w1 ⟨rfl, hb⟩
      rw [hk]
      have B1 := Lib.hid hb
      clear hb hk
      by_cases hc83 : ca = 83
      · subst hc83
        have hq : Q.length = 83 := by omega
        have E := Lib.hid (dict_end (by rw [hq]; exact userTo_start Q) (by omega) HK.out)
        have HQ := Lib.hid hq
        rw [HQ.out]
        clear hq
        go_wp2
        go_loop [16] (fun i => i = .int .i64 0) (fun i => 0)
        case atStart => rfl
        case round =>
          obtain rfl := hrel
          go_wp2
          go_ret
          exact ⟨ret_bool E.out.symm, B1.out⟩
      · go_wp2
        obtain ⟨m, hm⟩ : ∃ m, Q.length - 83 = m := ⟨_, rfl⟩
        rw [hm]
        have HM : Hid (Q.length = 83 + m) := Lib.hid (by omega)
        clear hm
        go_loopw [16] (fun i wr => ∃ k : Nat, k ≤ m ∧ i = .int .i64 k ∧ UserTo Q (83 + k) ∧ Below w.heap.size w wr) (fun i _ => m - (intOf i).toNat)
        case atStart => exact ⟨0, Nat.zero_le _, rfl, userTo_start Q, B1.out⟩
        case round =>
          obtain ⟨k, hk, rfl, hu, hb⟩ := hrel
          have HU := Lib.hid hu
          have HB := Lib.hid hb
          clear hu hb
          by_cases hlt : k < m
          · have hlq : 83 + k < Q.length := by have := HM.out; omega
            have hxs : Q[83 + k].n.size ≤ maxLen := HN.out _ (List.getElem_mem hlq)
            have HX := Lib.hid hxs
            have WA := wds_word (wds_below HV.out HB.out) (83 + k) hlq
            rw [show (83 + k) * 3 = 249 + k * 3 by omega] at WA
            obtain ⟨c0, c1, c2⟩ := WA
            have NX := Lib.hid (userTo_next HU.out hlq (by omega))
            have NN := Lib.hid (dict_not hlq (by omega))
            clear hxs
            generalize Q[83 + k] = x at *
            simp only [] at c0 c1 c2
            go_wp2_with fail
            refine (iUser_any x _ HX.out).mono ?_
            rintro e w2 ⟨rfl, hb⟩
            have B2 := Lib.hid (below_stepW (below_allocW HB.out _) hb)
            clear hb c0 c1 c2
            cases hu : userB x
            · have E := Lib.hid (NN.out hu)
              clear hu
              go_wp2
              go_ret
              exact ⟨ret_bool E.out.symm, B2.out⟩
            · have E := Lib.hid (NX.out hu)
              clear hu
              go_wp2
              go_roundw
              case rel => exact ⟨k + 1, by omega, by go_num, E.out, B2.out⟩
              case measure => simp [intOf]; omega
          · obtain rfl : k = m := by omega
            have E := Lib.hid (dict_end (by rw [HM.out]; exact HU.out) (by omega) HK.out)
            clear hlt
            go_wp2
            go_ret
            exact ⟨ret_bool E.out.symm, HB.out⟩

set_option maxRecDepth 100000 in
set_option maxHeartbeats 2000000 in
theorem iToken_any (v : Value) (Q : List Wd) (n : Int) (w : World) (hv : Wds w v Q) :
    Calls Tryz.prog 90 #[v, .int .i64 n] w fun e w' => e = .returned (.bool (tokB Q n)) ∧ w = w' := by
  have HV := Lib.hid hv
  obtain ⟨A, ca, rfl, hcap, hl, hn⟩ := wds_form hv
  unfold maxLen at hl
  clear hn hv
  by_cases h1 : n < 1
  · have E := Lib.hid (tok_out (Q := Q) (n := n) (by omega))
    go_enter Tryz.func90, Tryz.ntmps90
    go_wp2
    go_ret
    exact ⟨ret_bool E.out.symm, rfl⟩
  · by_cases h2 : (Q.length : Int) < n
    · have E := Lib.hid (tok_out (Q := Q) (n := n) (by omega))
      have t0 : decide ((Q.length : Int) < n) = true := by simp; omega
      go_enter Tryz.func90, Tryz.ntmps90
      go_wp2
      go_ret
      exact ⟨ret_bool E.out.symm, rfl⟩
    · obtain ⟨k, rfl⟩ : ∃ k : Nat, n = (k : Int) + 1 := ⟨(n - 1).toNat, by omega⟩
      have hk : k < Q.length := by omega
      have t0 : decide ((Q.length : Int) < (k : Int) + 1) = false := by simp; omega
      have E := Lib.hid (tok_in hk)
      obtain ⟨ga, rfl⟩ := wds_block HV.out (by omega)
      obtain ⟨c0, c1, c2⟩ := wds_word HV.out k hk
      generalize Q[k] = x at *
      simp only [] at c0 c1 c2
      by_cases h3 : x.k = 3
      · have t3 : (x.k != 3) = false := by simp [h3]
        have E2 : Hid (tokB Q ((k : Int) + 1) = false) := Lib.hid (by rw [E.out, t3]; rfl)
        clear h3
        go_enter Tryz.func90, Tryz.ntmps90
        go_wp2
        go_ret
        exact ⟨ret_bool E2.out.symm, rfl⟩
      · have t3 : (x.k != 3) = true := by simp [h3]
        have E2 : Hid (tokB Q ((k : Int) + 1) = (x.k != 5)) := Lib.hid (by rw [E.out, t3]; rfl)
        clear h3
        go_enter Tryz.func90, Tryz.ntmps90
        go_wp2
        go_ret
        exact ⟨ret_bool E2.out.symm, rfl⟩

end Go.Proofs.YthnbaeamekolmaaGreatDoor

namespace Go.Proofs.YthnbaeamekolmaaGreatDoor
open Go.RowKit
set_option linter.unusedVariables false
set_option linter.unusedSimpArgs false

/-- 'copy(own, list)' where own was made of list's length. -/
theorem wpList_copy_whole {P : Program} {w : World} {ops : Array Oper} {rest : List Oper} {o : Oper} {a : Act} {Q : Exit → Act → World → Prop} (hgd : o.guard = none) (d s : Operand) (dT : TypeId)
    (ho : o.op = .call { callee := .builtin .copy, args := #[d, s], argTypes := #[dT, dT] }) (elem : TypeId) (hu : P.underlying dT = some (.slice elem)) (sz : Nat) (hsz : (P.info? elem).map (·.size) = some sz) (h0 : 0 < sz)
    (g n dCap sCap : Nat) (A : Option Addr) (hd : a.eval d = .slice (some ⟨g, 0, none⟩) n dCap) (hs : a.eval s = .slice A n sCap)
    (cur : Array Value) (t : TypeId) (hg : w.heap[g]? = some (.cells cur t (0, 0))) (hcur : cur.size = n * sz) (cs : List Value) (hn : cs.length = n * sz)
    (hpos : 0 < cs.length → ∃ ad, A = some ad ∧ ∀ j v, cs[j]? = some v → w.cell? (ad.add j) = some v) (h1 : ∀ v ∈ cs, v.oneCell' = true)
    (h : ∀ w', w'.heap[g]? = some (.cells cs.toArray t (0, 0)) → w.grownBy w' (some g) → wpList P ops Q rest (a.put o.dst (goInt n)) w') :
    wpList P ops Q (o :: rest) a w := by
  refine wpList_plain hgd fun K hK => ?_
  cases hq : P.info? elem with
  | none => simp [hq] at hsz
  | some i =>
    have hi : i.size = sz := by simpa [hq] using hsz
    have hmin : Nat.min n n = n := Nat.min_self n
    by_cases hz : n = 0
    · subst hz
      have hcs : cs = [] := List.eq_nil_of_length_eq_zero (by rw [hn]; simp)
      have hcu : cur = #[] := Array.eq_empty_of_size_eq_zero (by rw [hcur]; simp)
      subst hcs hcu
      have hl : ∀ (x : Addr), (loadCells x 0).run P w = .ok #[] w := fun x => by simpa using run_loadCells_list (P := P) w x [] (by simp)
      have hrun : (Builtin.copy_ #[dT, dT] o.type #[.slice (some ⟨g, 0, none⟩) 0 dCap, .slice A 0 sCap]).run P w = .ok (goInt 0) w := by
        cases A <;> simp [Builtin.copy_, run_underlying hu, Builtin.lenOf, Builtin.firstCells, sizeOf, typeInfo, hq, hmin, storeCells, hl]
      unfold Oper.wp
      simp [execOp, ho, resolve, invoke, builtin, hd, hs, hrun, Result.andThen]
      exact hK _ _ (h w hg ⟨rfl, rfl, rfl, Nat.le_refl _, fun k hk hne => rfl⟩)
    · have hp : 0 < n * sz := Nat.mul_pos (by omega) h0
      obtain ⟨ad, rfl, hc⟩ := hpos (by omega)
      have hl1 := run_loadCells_list (P := P) w ad cs hc
      have hst := run_storeCells_at P g 0 t cs 0 cur w hg (by rw [hcur, hn]; simp) h1
      rw [hn] at hl1
      simp only [Nat.add_zero, Nat.zero_add, List.take_zero, List.nil_append] at hst
      have hrun : (Builtin.copy_ #[dT, dT] o.type #[.slice (some ⟨g, 0, none⟩) n dCap, .slice (some ad) n sCap]).run P w = .ok (goInt n) (w.setRow g (cs ++ cur.toList.drop cs.length).toArray) := by
        simp [Builtin.copy_, run_underlying hu, Builtin.lenOf, Builtin.firstCells, sizeOf, typeInfo, hq, hi, hmin, hl1, hst, Result.andThen]
      have hdr : cs ++ cur.toList.drop cs.length = cs := by rw [List.drop_of_length_le (by rw [Array.length_toList, hcur, hn]; exact Nat.le_refl _), List.append_nil]
      rw [hdr] at hrun
      unfold Oper.wp
      simp [execOp, ho, resolve, invoke, builtin, hd, hs, hrun, Result.andThen]
      exact hK _ _ (h _ (setRow_heap w g cur _ t _ hg) ⟨rfl, rfl, rfl, by simp [World.setRow], fun k hk hne => setRow_other w g k _ (fun e => hne (by rw [e]))⟩)

theorem info_size1 : (Tryz.prog.info? 4).map (·.size) = some 1 := by kernel_rfl
theorem info_size4 : (Tryz.prog.info? 181).map (·.size) = some 4 := by kernel_rfl

/-- The block of a slice that was just made. -/
theorem own_block {w : World} {base g n sz : Nat} {t : TypeId} {cs : List Value} (h : w.ownsRow base t sz (.slice (some ⟨g, 0, none⟩) n n) n cs) : ∃ cur : Array Value, w.heap[g]? = some (.cells cur t (0, 0)) ∧ cur.size = n * sz := by
  rcases h.2 with ⟨hv, _⟩ | ⟨g', cap, cur, hv, hb, hg, h1, h2, h3, h4⟩
  · cases hv
  · simp only [Value.slice.injEq, Option.some.injEq, Addr.mk.injEq, true_and, and_true] at hv
    obtain ⟨rfl, rfl⟩ := hv
    exact ⟨cur, hg, h3⟩

theorem bols_src {w w1 : World} {A : Option Addr} {ca : Nat} {zs : List Bool} (hv : Bols w (.slice A zs.length ca) zs) (hb : Below w.heap.size w w1) :
    0 < (zs.map Value.bool).length → ∃ ad, A = some ad ∧ ∀ j v, (zs.map Value.bool)[j]? = some v → w1.cell? (ad.add j) = some v := fun hp => by
  obtain ⟨_, A', ca', hv', hc⟩ := bols_below hv hb
  simp only [Value.slice.injEq, true_and] at hv'
  obtain ⟨rfl, rfl⟩ := hv'
  obtain ⟨ad, rfl, hc'⟩ := hc (by simpa using hp)
  refine ⟨ad, rfl, fun j u hu => ?_⟩
  rcases Nat.lt_or_ge j zs.length with hj | hj
  · rw [hc' j hj]; simpa [hj] using hu
  · simp [hj] at hu

theorem dds_src {w w1 : World} {A : Option Addr} {ca : Nat} {Q : List Dd} (hv : Dds w (.slice A Q.length ca) Q) (hb : Below w.heap.size w w1) :
    0 < (dcells Q).length → ∃ ad, A = some ad ∧ ∀ j v, (dcells Q)[j]? = some v → w1.cell? (ad.add j) = some v := fun hp => by
  obtain ⟨_, A', ca', hv', hc⟩ := dds_below hv hb
  simp only [Value.slice.injEq, true_and] at hv'
  obtain ⟨rfl, rfl⟩ := hv'
  obtain ⟨ad, rfl, hc'⟩ := hc (by rw [dcells_len] at hp; omega)
  exact ⟨ad, rfl, fun j u hu => dds_cells hc' j u hu⟩

theorem drow_whole {w : World} {base g : Nat} {Q : List Dd} (h : w.heap[g]? = some (.cells (dcells Q).toArray 181 (0, 0))) (hb : base ≤ g) (hl : Q.length ≤ maxLen) : DRow w base (.slice (some ⟨g, 0, none⟩) Q.length Q.length) Q :=
  ⟨dcells_len Q, .inr ⟨g, Q.length, _, rfl, hb, h, Nat.le_refl _, hl, by simp [dcells_len], by rw [List.toList_toArray, List.take_of_length_le (by rw [dcells_len]; exact Nat.le_refl _)]⟩⟩

end Go.Proofs.YthnbaeamekolmaaGreatDoor

namespace Go.Proofs.YthnbaeamekolmaaGreatDoor
open Go.RowKit
set_option linter.unusedVariables false
set_option linter.unusedSimpArgs false

set_option maxHeartbeats 400000 in
theorem isCap_any (a : Int) (w : World) :
    Calls Tryz.prog 235 #[.int .i64 a] w fun e w' => e = .returned (.bool (inB a 0 3)) ∧ w = w' := by
  by_cases h : 0 ≤ a
  · by_cases h' : a < 4
    · have E : Hid (inB a 0 3 = true) := Lib.hid (inB_of h (by omega))
      go_enter Tryz.func235, Tryz.ntmps235
      go_wp2
      go_ret
      exact ⟨ret_bool (by rw [E.out]), rfl⟩
    · have E : Hid (inB a 0 3 = false) := Lib.hid (by cases q : inB a 0 3; rfl; have := of_inB q; omega)
      go_enter Tryz.func235, Tryz.ntmps235
      go_wp2
      go_ret
      exact ⟨ret_bool (by rw [E.out]), rfl⟩
  · have E : Hid (inB a 0 3 = false) := Lib.hid (by cases q : inB a 0 3; rfl; have := of_inB q; omega)
    have h2 : a < 0 := by omega
    clear h
    go_enter Tryz.func235, Tryz.ntmps235
    go_wp2
    go_ret
    exact ⟨ret_bool (by rw [E.out]), rfl⟩

/-- A store that is valid. -/
def stoB (S : List Int) : Bool := decide (S.length = 8) && cellsB S

set_option maxHeartbeats 400000 in
theorem storeOK_any (v : Value) (S : List Int) (w : World) (hv : Ints w v S) :
    Calls Tryz.prog 212 #[v] w fun e w' => e = .returned (.bool (stoB S)) ∧ w = w' := by
  have HV := Lib.hid hv
  obtain ⟨l1, A1, k1, rfl, _⟩ := hv
  by_cases h : S.length = 8
  · have E : Hid (stoB S = cellsB S) := Lib.hid (by unfold stoB; rw [h]; rfl)
    have u0 : ((S.length : Int) == 8) = true := by rw [beq_iff_eq]; omega
    clear h
    go_enter Tryz.func212, Tryz.ntmps212
    go_wp2_with (go_at_call 68; refine (allCells_any _ S _ HV.out).mono ?_; rintro e w' ⟨rfl, rfl⟩)
    go_ret
    exact ⟨ret_bool E.out.symm, rfl⟩
  · have E : Hid (stoB S = false) := Lib.hid (by unfold stoB; simp [h])
    have u0 : ((S.length : Int) == 8) = false := by rw [beq_eq_false_iff_ne]; omega
    clear h
    go_enter Tryz.func212, Tryz.ntmps212
    go_wp2
    go_ret
    exact ⟨ret_bool E.out.symm, rfl⟩

theorem ddB_of (x : Dd) : ddB x = (inB x.p 0 3 && cellB x.a && cellB x.b && cellB x.r) := rfl

theorem below_alloc' {a b : World} (h : Below a.heap.size a b) (o : Obj) : Below a.heap.size a (b.alloc o) := below_alloc h o

set_option maxRecDepth 100000 in
set_option maxHeartbeats 2000000 in
theorem allDeeds_any (v : Value) (Q : List Dd) (w : World) (hv : Dds w v Q) :
    Calls Tryz.prog 213 #[v] w fun e w' => e = .returned (.bool (ddsB Q)) ∧ Below w.heap.size w w' := by
  have HV := Lib.hid hv
  obtain ⟨l4, A4, k4, rfl, _⟩ := hv
  unfold maxLen at l4
  go_enter Tryz.func213, Tryz.ntmps213
  go_wp2
  go_loopw [4, 7] (fun _ i wr => ∃ k : Nat, k ≤ Q.length ∧ i = .int .i64 k ∧ DdsTo Q k ∧ Below w.heap.size w wr) (fun _ i _ => Q.length - (intOf i).toNat)
  case atStart => exact ⟨0, Nat.zero_le _, rfl, ddsTo_zero _, Below.refl _ _⟩
  case round =>
    obtain ⟨k, hk, rfl, hat, hb⟩ := hrel
    have AT := Lib.hid hat
    have B := Lib.hid hb
    clear hat hb
    by_cases hlt : k < Q.length
    · obtain ⟨_, A', cap', e', hc⟩ := dds_below HV.out B.out
      simp only [Value.slice.injEq, true_and] at e'
      obtain ⟨rfl, rfl⟩ := e'
      obtain ⟨ad, rfl, hd⟩ := hc (by omega)
      obtain ⟨d0, d1, d2, d3⟩ := hd k hlt
      clear hc hd
      have NO := Lib.hid (fun e => dds_not hlt (e := e))
      have NX := Lib.hid (fun e => ddsTo_next AT.out hlt e)
      generalize Q[k] = y at *
      obtain ⟨p, a, b, r⟩ := y
      simp only at *
      have DB := Lib.hid (ddB_of ⟨p, a, b, r⟩)
      simp only at DB
      cases t0 : inB p 0 3
      · have N := Lib.hid (NO.out (by rw [DB.out]; simp [*]))
        go_wp2_with (first | (go_at_call 235; refine (isCap_any _ _).mono ?_; rintro e w' ⟨rfl, rfl⟩) | (go_at_call 140; refine (cellOK_any _ _).mono ?_; rintro e w' ⟨rfl, rfl⟩))
        go_ret
        exact ⟨ret_bool N.out.symm, below_alloc' B.out _⟩
      · cases t1 : cellB a
        · have N := Lib.hid (NO.out (by rw [DB.out]; simp [*]))
          go_wp2_with (first | (go_at_call 235; refine (isCap_any _ _).mono ?_; rintro e w' ⟨rfl, rfl⟩) | (go_at_call 140; refine (cellOK_any _ _).mono ?_; rintro e w' ⟨rfl, rfl⟩))
          go_ret
          exact ⟨ret_bool N.out.symm, below_alloc' B.out _⟩
        · cases t2 : cellB b
          · have N := Lib.hid (NO.out (by rw [DB.out]; simp [*]))
            go_wp2_with (first | (go_at_call 235; refine (isCap_any _ _).mono ?_; rintro e w' ⟨rfl, rfl⟩) | (go_at_call 140; refine (cellOK_any _ _).mono ?_; rintro e w' ⟨rfl, rfl⟩))
            go_ret
            exact ⟨ret_bool N.out.symm, below_alloc' B.out _⟩
          · cases t3 : cellB r
            · have N := Lib.hid (NO.out (by rw [DB.out]; simp [*]))
              go_wp2_with (first | (go_at_call 235; refine (isCap_any _ _).mono ?_; rintro e w' ⟨rfl, rfl⟩) | (go_at_call 140; refine (cellOK_any _ _).mono ?_; rintro e w' ⟨rfl, rfl⟩))
              go_ret
              exact ⟨ret_bool N.out.symm, below_alloc' B.out _⟩
            · have N := Lib.hid (NX.out (by rw [DB.out]; simp [*]))
              go_wp2_with (first | (go_at_call 235; refine (isCap_any _ _).mono ?_; rintro e w' ⟨rfl, rfl⟩) | (go_at_call 140; refine (cellOK_any _ _).mono ?_; rintro e w' ⟨rfl, rfl⟩))
              go_roundw
              case rel => exact ⟨k + 1, by omega, by go_num, N.out, below_alloc' B.out _⟩
              case measure => simp [intOf]; omega
    · obtain rfl : k = Q.length := by omega
      have E := Lib.hid (ddsTo_end AT.out)
      go_wp2
      go_ret
      exact ⟨ret_bool E.out.symm, B.out⟩

set_option maxRecDepth 100000 in
set_option maxHeartbeats 1000000 in
theorem iHOK_0 (v : Value) (h : Ht) (w : World) (hv : HostIn w v h) (h0 : ¬ h.g.length = 4) :
    Calls Tryz.prog 159 #[v] w fun e w' => e = .returned (.bool (false)) ∧ Below w.heap.size w w' := by
  obtain ⟨x, y, z, q, rfl, hx, hy, hz, hq⟩ := hv
  have BB : Hid (∀ (o : Obj), Below w.heap.size w (w.alloc o)) := Lib.hid fun o => below_alloc (Below.refl _ _) _
  have HY : Hid (∀ o : Obj, Ints (w.alloc o) y h.s) := Lib.hid fun o => ints_below hy (BB.out _)
  have HZ : Hid (∀ o : Obj, Ints (w.alloc o) z h.n) := Lib.hid fun o => ints_below hz (BB.out _)
  have HQ : Hid (∀ o : Obj, Dds (w.alloc o) q h.d) := Lib.hid fun o => dds_below hq (BB.out _)
  obtain ⟨l1, A1, k1, rfl, _⟩ := hx
  obtain ⟨l2, A2, k2, rfl, _⟩ := hy
  obtain ⟨l3, A3, k3, rfl, _⟩ := hz
  obtain ⟨l4, A4, k4, rfl, _⟩ := hq
  unfold maxLen at l1 l2 l3 l4
  have u0 : ((h.g.length : Int) == 4) = false := by rw [beq_eq_false_iff_ne]; omega
  clear h0
  go_enter Tryz.func159, Tryz.ntmps159
  go_wp2_with (first | (go_at_call 212; refine (storeOK_any _ h.s _ (HY.out _)).mono ?_; rintro e w' ⟨rfl, rfl⟩) | (go_at_call 68; refine (allCells_any _ h.n _ (HZ.out _)).mono ?_; rintro e w' ⟨rfl, rfl⟩) | (go_at_call 213; refine (allDeeds_any _ h.d _ (HQ.out _)).mono ?_; rintro e w1 ⟨rfl, hb⟩; have B1 := Lib.hid (below_step (BB.out _) hb); clear hb))
  go_ret
  exact ⟨rfl, BB.out _⟩

set_option maxRecDepth 100000 in
set_option maxHeartbeats 1000000 in
theorem iHOK_1 (v : Value) (h : Ht) (w : World) (hv : HostIn w v h) (h0 : h.g.length = 4) (h1 : stoB h.s = false) :
    Calls Tryz.prog 159 #[v] w fun e w' => e = .returned (.bool (false)) ∧ Below w.heap.size w w' := by
  obtain ⟨x, y, z, q, rfl, hx, hy, hz, hq⟩ := hv
  have BB : Hid (∀ (o : Obj), Below w.heap.size w (w.alloc o)) := Lib.hid fun o => below_alloc (Below.refl _ _) _
  have HY : Hid (∀ o : Obj, Ints (w.alloc o) y h.s) := Lib.hid fun o => ints_below hy (BB.out _)
  have HZ : Hid (∀ o : Obj, Ints (w.alloc o) z h.n) := Lib.hid fun o => ints_below hz (BB.out _)
  have HQ : Hid (∀ o : Obj, Dds (w.alloc o) q h.d) := Lib.hid fun o => dds_below hq (BB.out _)
  obtain ⟨l1, A1, k1, rfl, _⟩ := hx
  obtain ⟨l2, A2, k2, rfl, _⟩ := hy
  obtain ⟨l3, A3, k3, rfl, _⟩ := hz
  obtain ⟨l4, A4, k4, rfl, _⟩ := hq
  unfold maxLen at l1 l2 l3 l4
  have u0 : ((h.g.length : Int) == 4) = true := by rw [beq_iff_eq]; omega
  clear h0
  go_enter Tryz.func159, Tryz.ntmps159
  go_wp2_with (first | (go_at_call 212; refine (storeOK_any _ h.s _ (HY.out _)).mono ?_; rintro e w' ⟨rfl, rfl⟩) | (go_at_call 68; refine (allCells_any _ h.n _ (HZ.out _)).mono ?_; rintro e w' ⟨rfl, rfl⟩) | (go_at_call 213; refine (allDeeds_any _ h.d _ (HQ.out _)).mono ?_; rintro e w1 ⟨rfl, hb⟩; have B1 := Lib.hid (below_step (BB.out _) hb); clear hb))
  go_ret
  exact ⟨rfl, BB.out _⟩

set_option maxRecDepth 100000 in
set_option maxHeartbeats 1000000 in
theorem iHOK_2 (v : Value) (h : Ht) (w : World) (hv : HostIn w v h) (h0 : h.g.length = 4) (h1 : stoB h.s = true) (h2 : ¬ h.n.length ≤ 20) :
    Calls Tryz.prog 159 #[v] w fun e w' => e = .returned (.bool (false)) ∧ Below w.heap.size w w' := by
  obtain ⟨x, y, z, q, rfl, hx, hy, hz, hq⟩ := hv
  have BB : Hid (∀ (o : Obj), Below w.heap.size w (w.alloc o)) := Lib.hid fun o => below_alloc (Below.refl _ _) _
  have HY : Hid (∀ o : Obj, Ints (w.alloc o) y h.s) := Lib.hid fun o => ints_below hy (BB.out _)
  have HZ : Hid (∀ o : Obj, Ints (w.alloc o) z h.n) := Lib.hid fun o => ints_below hz (BB.out _)
  have HQ : Hid (∀ o : Obj, Dds (w.alloc o) q h.d) := Lib.hid fun o => dds_below hq (BB.out _)
  obtain ⟨l1, A1, k1, rfl, _⟩ := hx
  obtain ⟨l2, A2, k2, rfl, _⟩ := hy
  obtain ⟨l3, A3, k3, rfl, _⟩ := hz
  obtain ⟨l4, A4, k4, rfl, _⟩ := hq
  unfold maxLen at l1 l2 l3 l4
  have u0 : ((h.g.length : Int) == 4) = true := by rw [beq_iff_eq]; omega
  clear h0
  have q2 : 20 < h.n.length := by omega
  clear h2
  go_enter Tryz.func159, Tryz.ntmps159
  go_wp2_with (first | (go_at_call 212; refine (storeOK_any _ h.s _ (HY.out _)).mono ?_; rintro e w' ⟨rfl, rfl⟩) | (go_at_call 68; refine (allCells_any _ h.n _ (HZ.out _)).mono ?_; rintro e w' ⟨rfl, rfl⟩) | (go_at_call 213; refine (allDeeds_any _ h.d _ (HQ.out _)).mono ?_; rintro e w1 ⟨rfl, hb⟩; have B1 := Lib.hid (below_step (BB.out _) hb); clear hb))
  go_ret
  exact ⟨rfl, BB.out _⟩

set_option maxRecDepth 100000 in
set_option maxHeartbeats 1000000 in
theorem iHOK_3 (v : Value) (h : Ht) (w : World) (hv : HostIn w v h) (h0 : h.g.length = 4) (h1 : stoB h.s = true) (h2 : h.n.length ≤ 20) (h3 : cellsB h.n = false) :
    Calls Tryz.prog 159 #[v] w fun e w' => e = .returned (.bool (false)) ∧ Below w.heap.size w w' := by
  obtain ⟨x, y, z, q, rfl, hx, hy, hz, hq⟩ := hv
  have BB : Hid (∀ (o : Obj), Below w.heap.size w (w.alloc o)) := Lib.hid fun o => below_alloc (Below.refl _ _) _
  have HY : Hid (∀ o : Obj, Ints (w.alloc o) y h.s) := Lib.hid fun o => ints_below hy (BB.out _)
  have HZ : Hid (∀ o : Obj, Ints (w.alloc o) z h.n) := Lib.hid fun o => ints_below hz (BB.out _)
  have HQ : Hid (∀ o : Obj, Dds (w.alloc o) q h.d) := Lib.hid fun o => dds_below hq (BB.out _)
  obtain ⟨l1, A1, k1, rfl, _⟩ := hx
  obtain ⟨l2, A2, k2, rfl, _⟩ := hy
  obtain ⟨l3, A3, k3, rfl, _⟩ := hz
  obtain ⟨l4, A4, k4, rfl, _⟩ := hq
  unfold maxLen at l1 l2 l3 l4
  have u0 : ((h.g.length : Int) == 4) = true := by rw [beq_iff_eq]; omega
  clear h0
  go_enter Tryz.func159, Tryz.ntmps159
  go_wp2_with (first | (go_at_call 212; refine (storeOK_any _ h.s _ (HY.out _)).mono ?_; rintro e w' ⟨rfl, rfl⟩) | (go_at_call 68; refine (allCells_any _ h.n _ (HZ.out _)).mono ?_; rintro e w' ⟨rfl, rfl⟩) | (go_at_call 213; refine (allDeeds_any _ h.d _ (HQ.out _)).mono ?_; rintro e w1 ⟨rfl, hb⟩; have B1 := Lib.hid (below_step (BB.out _) hb); clear hb))
  go_ret
  exact ⟨rfl, BB.out _⟩

set_option maxRecDepth 100000 in
set_option maxHeartbeats 1000000 in
theorem iHOK_4 (v : Value) (h : Ht) (w : World) (hv : HostIn w v h) (h0 : h.g.length = 4) (h1 : stoB h.s = true) (h2 : h.n.length ≤ 20) (h3 : cellsB h.n = true) (h4 : ¬ 0 ≤ h.c) :
    Calls Tryz.prog 159 #[v] w fun e w' => e = .returned (.bool (false)) ∧ Below w.heap.size w w' := by
  obtain ⟨x, y, z, q, rfl, hx, hy, hz, hq⟩ := hv
  have BB : Hid (∀ (o : Obj), Below w.heap.size w (w.alloc o)) := Lib.hid fun o => below_alloc (Below.refl _ _) _
  have HY : Hid (∀ o : Obj, Ints (w.alloc o) y h.s) := Lib.hid fun o => ints_below hy (BB.out _)
  have HZ : Hid (∀ o : Obj, Ints (w.alloc o) z h.n) := Lib.hid fun o => ints_below hz (BB.out _)
  have HQ : Hid (∀ o : Obj, Dds (w.alloc o) q h.d) := Lib.hid fun o => dds_below hq (BB.out _)
  obtain ⟨l1, A1, k1, rfl, _⟩ := hx
  obtain ⟨l2, A2, k2, rfl, _⟩ := hy
  obtain ⟨l3, A3, k3, rfl, _⟩ := hz
  obtain ⟨l4, A4, k4, rfl, _⟩ := hq
  unfold maxLen at l1 l2 l3 l4
  have u0 : ((h.g.length : Int) == 4) = true := by rw [beq_iff_eq]; omega
  clear h0
  have q4 : h.c < 0 := by omega
  clear h4
  go_enter Tryz.func159, Tryz.ntmps159
  go_wp2_with (first | (go_at_call 212; refine (storeOK_any _ h.s _ (HY.out _)).mono ?_; rintro e w' ⟨rfl, rfl⟩) | (go_at_call 68; refine (allCells_any _ h.n _ (HZ.out _)).mono ?_; rintro e w' ⟨rfl, rfl⟩) | (go_at_call 213; refine (allDeeds_any _ h.d _ (HQ.out _)).mono ?_; rintro e w1 ⟨rfl, hb⟩; have B1 := Lib.hid (below_step (BB.out _) hb); clear hb))
  go_ret
  exact ⟨rfl, BB.out _⟩

set_option maxRecDepth 100000 in
set_option maxHeartbeats 1000000 in
theorem iHOK_5 (v : Value) (h : Ht) (w : World) (hv : HostIn w v h) (h0 : h.g.length = 4) (h1 : stoB h.s = true) (h2 : h.n.length ≤ 20) (h3 : cellsB h.n = true) (h4 : 0 ≤ h.c) (h5 : ¬ h.c ≤ 2147483647) :
    Calls Tryz.prog 159 #[v] w fun e w' => e = .returned (.bool (false)) ∧ Below w.heap.size w w' := by
  obtain ⟨x, y, z, q, rfl, hx, hy, hz, hq⟩ := hv
  have BB : Hid (∀ (o : Obj), Below w.heap.size w (w.alloc o)) := Lib.hid fun o => below_alloc (Below.refl _ _) _
  have HY : Hid (∀ o : Obj, Ints (w.alloc o) y h.s) := Lib.hid fun o => ints_below hy (BB.out _)
  have HZ : Hid (∀ o : Obj, Ints (w.alloc o) z h.n) := Lib.hid fun o => ints_below hz (BB.out _)
  have HQ : Hid (∀ o : Obj, Dds (w.alloc o) q h.d) := Lib.hid fun o => dds_below hq (BB.out _)
  obtain ⟨l1, A1, k1, rfl, _⟩ := hx
  obtain ⟨l2, A2, k2, rfl, _⟩ := hy
  obtain ⟨l3, A3, k3, rfl, _⟩ := hz
  obtain ⟨l4, A4, k4, rfl, _⟩ := hq
  unfold maxLen at l1 l2 l3 l4
  have u0 : ((h.g.length : Int) == 4) = true := by rw [beq_iff_eq]; omega
  clear h0
  have q5 : (2147483647 : Int) < h.c := by omega
  clear h5
  go_enter Tryz.func159, Tryz.ntmps159
  go_wp2_with (first | (go_at_call 212; refine (storeOK_any _ h.s _ (HY.out _)).mono ?_; rintro e w' ⟨rfl, rfl⟩) | (go_at_call 68; refine (allCells_any _ h.n _ (HZ.out _)).mono ?_; rintro e w' ⟨rfl, rfl⟩) | (go_at_call 213; refine (allDeeds_any _ h.d _ (HQ.out _)).mono ?_; rintro e w1 ⟨rfl, hb⟩; have B1 := Lib.hid (below_step (BB.out _) hb); clear hb))
  go_ret
  exact ⟨rfl, BB.out _⟩

set_option maxRecDepth 100000 in
set_option maxHeartbeats 1000000 in
theorem iHOK_6 (v : Value) (h : Ht) (w : World) (hv : HostIn w v h) (h0 : h.g.length = 4) (h1 : stoB h.s = true) (h2 : h.n.length ≤ 20) (h3 : cellsB h.n = true) (h4 : 0 ≤ h.c) (h5 : h.c ≤ 2147483647) (h6 : ¬ h.d.length ≤ 40) :
    Calls Tryz.prog 159 #[v] w fun e w' => e = .returned (.bool (false)) ∧ Below w.heap.size w w' := by
  obtain ⟨x, y, z, q, rfl, hx, hy, hz, hq⟩ := hv
  have BB : Hid (∀ (o : Obj), Below w.heap.size w (w.alloc o)) := Lib.hid fun o => below_alloc (Below.refl _ _) _
  have HY : Hid (∀ o : Obj, Ints (w.alloc o) y h.s) := Lib.hid fun o => ints_below hy (BB.out _)
  have HZ : Hid (∀ o : Obj, Ints (w.alloc o) z h.n) := Lib.hid fun o => ints_below hz (BB.out _)
  have HQ : Hid (∀ o : Obj, Dds (w.alloc o) q h.d) := Lib.hid fun o => dds_below hq (BB.out _)
  obtain ⟨l1, A1, k1, rfl, _⟩ := hx
  obtain ⟨l2, A2, k2, rfl, _⟩ := hy
  obtain ⟨l3, A3, k3, rfl, _⟩ := hz
  obtain ⟨l4, A4, k4, rfl, _⟩ := hq
  unfold maxLen at l1 l2 l3 l4
  have u0 : ((h.g.length : Int) == 4) = true := by rw [beq_iff_eq]; omega
  clear h0
  have q6 : 40 < h.d.length := by omega
  clear h6
  go_enter Tryz.func159, Tryz.ntmps159
  go_wp2_with (first | (go_at_call 212; refine (storeOK_any _ h.s _ (HY.out _)).mono ?_; rintro e w' ⟨rfl, rfl⟩) | (go_at_call 68; refine (allCells_any _ h.n _ (HZ.out _)).mono ?_; rintro e w' ⟨rfl, rfl⟩) | (go_at_call 213; refine (allDeeds_any _ h.d _ (HQ.out _)).mono ?_; rintro e w1 ⟨rfl, hb⟩; have B1 := Lib.hid (below_step (BB.out _) hb); clear hb))
  go_ret
  exact ⟨rfl, BB.out _⟩

set_option maxRecDepth 100000 in
set_option maxHeartbeats 1000000 in
theorem iHOK_7 (v : Value) (h : Ht) (w : World) (hv : HostIn w v h) (h0 : h.g.length = 4) (h1 : stoB h.s = true) (h2 : h.n.length ≤ 20) (h3 : cellsB h.n = true) (h4 : 0 ≤ h.c) (h5 : h.c ≤ 2147483647) (h6 : h.d.length ≤ 40) :
    Calls Tryz.prog 159 #[v] w fun e w' => e = .returned (.bool (ddsB h.d)) ∧ Below w.heap.size w w' := by
  obtain ⟨x, y, z, q, rfl, hx, hy, hz, hq⟩ := hv
  have BB : Hid (∀ (o : Obj), Below w.heap.size w (w.alloc o)) := Lib.hid fun o => below_alloc (Below.refl _ _) _
  have HY : Hid (∀ o : Obj, Ints (w.alloc o) y h.s) := Lib.hid fun o => ints_below hy (BB.out _)
  have HZ : Hid (∀ o : Obj, Ints (w.alloc o) z h.n) := Lib.hid fun o => ints_below hz (BB.out _)
  have HQ : Hid (∀ o : Obj, Dds (w.alloc o) q h.d) := Lib.hid fun o => dds_below hq (BB.out _)
  obtain ⟨l1, A1, k1, rfl, _⟩ := hx
  obtain ⟨l2, A2, k2, rfl, _⟩ := hy
  obtain ⟨l3, A3, k3, rfl, _⟩ := hz
  obtain ⟨l4, A4, k4, rfl, _⟩ := hq
  unfold maxLen at l1 l2 l3 l4
  have u0 : ((h.g.length : Int) == 4) = true := by rw [beq_iff_eq]; omega
  clear h0
  go_enter Tryz.func159, Tryz.ntmps159
  go_wp2_with (first | (go_at_call 212; refine (storeOK_any _ h.s _ (HY.out _)).mono ?_; rintro e w' ⟨rfl, rfl⟩) | (go_at_call 68; refine (allCells_any _ h.n _ (HZ.out _)).mono ?_; rintro e w' ⟨rfl, rfl⟩) | (go_at_call 213; refine (allDeeds_any _ h.d _ (HQ.out _)).mono ?_; rintro e w1 ⟨rfl, hb⟩; have B1 := Lib.hid (below_step (BB.out _) hb); clear hb))
  go_ret
  exact ⟨rfl, B1.out⟩

theorem stoB_fine {S : List Int} : stoB S = true ↔ S.length = 8 ∧ cellsB S = true := by unfold stoB; simp

theorem iHOK_any (v : Value) (h : Ht) (w : World) (hv : HostIn w v h) :
    Calls Tryz.prog 159 #[v] w fun e w' => e = .returned (.bool (hOK h)) ∧ Below w.heap.size w w' := by
  by_cases h0 : h.g.length = 4
  rotate_left
  · rw [hOK_false (fun q => absurd (fineH_g q) (by simp [h0]))]; exact iHOK_0 v h w hv h0
  cases h1 : stoB h.s
  · rw [hOK_false (fun q => by have := stoB_fine.2 ⟨fineH_s q, fineH_sc q⟩; rw [h1] at this; cases this)]; exact iHOK_1 v h w hv h0 h1
  by_cases h2 : h.n.length ≤ 20
  rotate_left
  · rw [hOK_false (fun q => absurd (fineH_n q) (by simp [h2]))]; exact iHOK_2 v h w hv h0 h1 h2
  cases h3 : cellsB h.n
  · rw [hOK_false (fun q => absurd (fineH_nc q) (by simp [h3]))]; exact iHOK_3 v h w hv h0 h1 h2 h3
  by_cases h4 : 0 ≤ h.c
  rotate_left
  · rw [hOK_false (fun q => h4 (of_inB (fineH_c q)).1)]; exact iHOK_4 v h w hv h0 h1 h2 h3 h4
  by_cases h5 : h.c ≤ 2147483647
  rotate_left
  · rw [hOK_false (fun q => h5 (of_inB (fineH_c q)).2)]; exact iHOK_5 v h w hv h0 h1 h2 h3 h4 h5
  by_cases h6 : h.d.length ≤ 40
  rotate_left
  · rw [hOK_false (fun q => absurd (fineH_d q) (by simp [h6]))]; exact iHOK_6 v h w hv h0 h1 h2 h3 h4 h5 h6
  have e : hOK h = ddsB h.d := by
    cases h7 : ddsB h.d
    · exact hOK_false fun q => absurd (fineH_dd q) (by simp [h7])
    · exact hOK_true ⟨h0, (stoB_fine.1 h1).1, h2, h6, (stoB_fine.1 h1).2, h3, inB_of h4 h5, h7⟩
  rw [e]
  exact iHOK_7 v h w hv h0 h1 h2 h3 h4 h5 h6

end Go.Proofs.YthnbaeamekolmaaGreatDoor

namespace Go.Proofs.YthnbaeamekolmaaGreatDoor
open Go.RowKit
set_option linter.unusedVariables false
set_option linter.unusedSimpArgs false

/-- The call before this one, or none. -/
def prevC (Q : List Cl) : Nat → Cl
  | 0 => noCl
  | k + 1 => Q.getD k noCl

/-- A call that fits behind the floor of the one before it. -/
def clB (fl bk : Int) (x : Cl) : Bool := inB x.i 0 2147483647 && inB x.f fl bk && (if x.c then inB x.d 0 31 else x.d == 0)

/-- The first calls fit. -/
def CallsTo (bk : Int) (Q : List Cl) (k : Nat) : Prop := ∀ j, j < k → ∀ h : j < Q.length, clB (prevC Q j).f bk Q[j] = true

/-- Calls that fit, none too many, the last one no catch. -/
def callsB (bk : Int) (Q : List Cl) : Bool := decide (Q.length ≤ 16) && (decide (∀ j, ∀ h : j < Q.length, clB (prevC Q j).f bk Q[j] = true) && !(prevC Q Q.length).c)

theorem callsTo_zero (bk : Int) (Q : List Cl) : CallsTo bk Q 0 := fun j h => absurd h (Nat.not_lt_zero _)

theorem callsTo_next {bk : Int} {Q : List Cl} {k : Nat} (h : CallsTo bk Q k) (hk : k < Q.length) (e : clB (prevC Q k).f bk Q[k] = true) : CallsTo bk Q (k + 1) := fun j hj hq => by
  rcases Nat.lt_or_ge j k with hl | hl
  · exact h j hl hq
  · obtain rfl : j = k := by omega
    exact e

theorem callsB_end {bk : Int} {Q : List Cl} (h : CallsTo bk Q Q.length) (hl : Q.length ≤ 16) : callsB bk Q = !(prevC Q Q.length).c := by
  unfold callsB
  rw [decide_eq_true hl, decide_eq_true (fun j hj => h j hj hj)]
  simp

theorem callsB_not {bk : Int} {Q : List Cl} {k : Nat} (hk : k < Q.length) (e : clB (prevC Q k).f bk Q[k] = false) : callsB bk Q = false := by
  have : ¬ (∀ j, ∀ h : j < Q.length, clB (prevC Q j).f bk Q[j] = true) := fun h => by have := h k hk; rw [e] at this; cases this
  unfold callsB
  rw [decide_eq_false this]
  simp

theorem callsB_long {bk : Int} {Q : List Cl} (h : ¬ Q.length ≤ 16) : callsB bk Q = false := by
  unfold callsB
  rw [decide_eq_false h]
  simp

theorem callsB_is {bk : Int} {Q : List Cl} (h : callsB bk Q = true) : Q.length ≤ 16 ∧ (∀ j, ∀ h : j < Q.length, clB (prevC Q j).f bk Q[j] = true) ∧ (prevC Q Q.length).c = false := by
  unfold callsB at h
  simp only [Bool.and_eq_true, decide_eq_true_eq, Bool.not_eq_true'] at h
  exact ⟨h.1, h.2.1, h.2.2⟩

theorem prevC_next {Q : List Cl} {k : Nat} (hk : k < Q.length) : prevC Q (k + 1) = Q[k] := by
  show Q.getD k noCl = Q[k]
  rw [List.getD_eq_getElem?_getD, List.getElem?_eq_getElem hk]; rfl

theorem prevC_last {Q : List Cl} {j n : Nat} (hn : n = j + 1) (hj : j < Q.length) : prevC Q n = Q[j] := by
  subst hn
  exact prevC_next hj

theorem inB_eq {a lo hi : Int} : inB a lo hi = decide (lo ≤ a ∧ a ≤ hi) := rfl

theorem inB_out {a lo hi : Int} (h : ¬ (lo ≤ a ∧ a ≤ hi)) : inB a lo hi = false := decide_eq_false h

/-- A machine is valid. -/
def mOK (m : Mc) : Bool := dictB m.w && (decide (m.k.length ≤ 400) && (cellsB m.k && (dOK m.d && (hOK m.h && (callsB m.d.b.length m.c && (inB m.i 0 2147483647 && inB m.f 0 4000))))))

theorem mOK_is {m : Mc} (h : mOK m = true) : dictB m.w = true ∧ m.k.length ≤ 400 ∧ cellsB m.k = true ∧ dOK m.d = true ∧ hOK m.h = true ∧ callsB m.d.b.length m.c = true ∧ inB m.i 0 2147483647 = true ∧ inB m.f 0 4000 = true := by
  unfold mOK at h
  simp only [Bool.and_eq_true, decide_eq_true_eq] at h
  exact h

set_option maxRecDepth 100000 in
set_option maxHeartbeats 400000 in
theorem isIp_any (a : Int) (w : World) :
    Calls Tryz.prog 161 #[.int .i64 a] w fun e w' => e = .returned (.bool (inB a 0 2147483647)) ∧ w = w' := by
  by_cases h : 0 ≤ a
  · by_cases h' : a ≤ 2147483647
    · have E : Hid (inB a 0 2147483647 = true) := Lib.hid (inB_of h h')
      go_enter Tryz.func161, Tryz.ntmps161
      go_wp2
      go_ret
      exact ⟨ret_bool (by rw [E.out]), rfl⟩
    · have E : Hid (inB a 0 2147483647 = false) := Lib.hid (by cases q : inB a 0 2147483647; rfl; have := of_inB q; omega)
      go_enter Tryz.func161, Tryz.ntmps161
      go_wp2
      go_ret
      exact ⟨ret_bool (by rw [E.out]), rfl⟩
  · have E : Hid (inB a 0 2147483647 = false) := Lib.hid (by cases q : inB a 0 2147483647; rfl; have := of_inB q; omega)
    go_enter Tryz.func161, Tryz.ntmps161
    go_wp2
    go_ret
    exact ⟨ret_bool (by rw [E.out]), rfl⟩

/-- The depth of a call. -/
def depB (x : Cl) : Bool := if x.c then inB x.d 0 31 else x.d == 0

set_option maxRecDepth 100000 in
set_option maxHeartbeats 1000000 in
theorem depthOK_any (x : Cl) (w : World) :
    Calls Tryz.prog 214 #[.agg #[.int .i64 x.i, .int .i64 x.f, .int .i64 x.d, .bool x.c]] w fun e w' => e = .returned (.bool (depB x)) ∧ Below w.heap.size w w' := by
  obtain ⟨i, f, d, c⟩ := x
  cases c
  · have E : Hid (depB ⟨i, f, d, false⟩ = (d == 0)) := Lib.hid rfl
    go_enter Tryz.func214, Tryz.ntmps214
    go_wp2
    go_ret
    exact ⟨ret_bool E.out.symm, below_alloc (Below.refl _ _) _⟩
  · have E : Hid (depB ⟨i, f, d, true⟩ = inB d 0 31) := Lib.hid rfl
    by_cases h : 0 ≤ d
    · by_cases h' : d < 32
      · have F : Hid (inB d 0 31 = true) := Lib.hid (inB_of h (by omega))
        go_enter Tryz.func214, Tryz.ntmps214
        go_wp2
        go_ret
        exact ⟨ret_bool (by rw [E.out, F.out]), below_alloc (Below.refl _ _) _⟩
      · have F : Hid (inB d 0 31 = false) := Lib.hid (by cases q : inB d 0 31; rfl; have := of_inB q; omega)
        go_enter Tryz.func214, Tryz.ntmps214
        go_wp2
        go_ret
        exact ⟨ret_bool (by rw [E.out, F.out]), below_alloc (Below.refl _ _) _⟩
    · have F : Hid (inB d 0 31 = false) := Lib.hid (by cases q : inB d 0 31; rfl; have := of_inB q; omega)
      go_enter Tryz.func214, Tryz.ntmps214
      go_wp2
      go_ret
      exact ⟨ret_bool (by rw [E.out, F.out]), below_alloc (Below.refl _ _) _⟩

theorem clB_of (fl bk : Int) (x : Cl) : clB fl bk x = (inB x.i 0 2147483647 && inB x.f fl bk && depB x) := rfl

set_option maxRecDepth 100000 in
set_option maxHeartbeats 2000000 in
theorem callsOK_any (v : Value) (Q : List Cl) (bk : Nat) (w : World) (hv : Cls w v Q) :
    Calls Tryz.prog 160 #[v, .int .i64 bk] w fun e w' => e = .returned (.bool (callsB bk Q)) ∧ Below w.heap.size w w' := by
  have HV := Lib.hid hv
  obtain ⟨l4, A4, k4, rfl, _⟩ := hv
  unfold maxLen at l4
  by_cases hl : Q.length ≤ 16
  · have HL := Lib.hid hl
    go_enter Tryz.func160, Tryz.ntmps160
    go_wp2
    go_loopw [7, 13] (fun _ i wr => ∃ k : Nat, k ≤ Q.length ∧ i = .int .i64 k ∧ CallsTo bk Q k ∧ Whole wr w.heap.size 140 #[.int .i64 (prevC Q k).i, .int .i64 (prevC Q k).f, .int .i64 (prevC Q k).d, .bool (prevC Q k).c] ∧ Below w.heap.size w wr) (fun _ i _ => Q.length - (intOf i).toNat)
    case atStart => exact ⟨0, Nat.zero_le _, rfl, callsTo_zero _ _, whole_new w _ _, below_alloc (Below.refl _ _) _⟩
    case round =>
      obtain ⟨k, hk, rfl, hat, hw, hb⟩ := hrel
      have AT := Lib.hid hat
      have B := Lib.hid hb
      have WL := Lib.hid hw
      clear hat hb hw
      by_cases hlt : k < Q.length
      · obtain ⟨_, A', cap', e', hc⟩ := cls_below HV.out B.out
        simp only [Value.slice.injEq, true_and] at e'
        obtain ⟨rfl, rfl⟩ := e'
        obtain ⟨ad, rfl, hd⟩ := hc (by omega)
        obtain ⟨d0, d1, d2, d3⟩ := hd k hlt
        clear hc hd
        have NO := Lib.hid (fun e => callsB_not (bk := bk) hlt (e := e))
        have NX := Lib.hid (fun e => callsTo_next AT.out hlt e)
        have PN := Lib.hid (prevC_next hlt)
        generalize Q[k] = y at *
        generalize prevC Q k = u at *
        obtain ⟨i, f, d, c⟩ := y
        obtain ⟨ui, uf, ud, uc⟩ := u
        simp only at *
        have DB := Lib.hid (clB_of uf bk ⟨i, f, d, c⟩)
        simp only at DB
        have zl := whole_lt WL.out
        have l0 := whole_cell WL.out 0
        have l1 := whole_cell WL.out 1
        have l2 := whole_cell WL.out 2
        have l3 := whole_cell WL.out 3
        have lf := whole_free WL.out
        simp at l0 l1 l2 l3
        cases t0 : inB i 0 2147483647
        · have N := Lib.hid (NO.out (by rw [DB.out]; simp [*]))
          go_wp2_with (first | (go_at_call 161; refine (isIp_any _ _).mono ?_; rintro e w' ⟨rfl, rfl⟩))
          go_ret
          exact ⟨ret_bool N.out.symm, below_alloc B.out _⟩
        · by_cases t1 : f < uf
          · have N := Lib.hid (NO.out (by rw [DB.out, t0, inB_eq (a := f), decide_eq_false (by omega)]; rfl))
            go_wp2_with (first | (go_at_call 161; refine (isIp_any _ _).mono ?_; rintro e w' ⟨rfl, rfl⟩))
            go_ret
            exact ⟨ret_bool N.out.symm, below_alloc B.out _⟩
          · by_cases t2 : (bk : Int) < f
            · have N := Lib.hid (NO.out (by rw [DB.out, t0, inB_eq (a := f), decide_eq_false (by omega)]; rfl))
              go_wp2_with (first | (go_at_call 161; refine (isIp_any _ _).mono ?_; rintro e w' ⟨rfl, rfl⟩))
              go_ret
              exact ⟨ret_bool N.out.symm, below_alloc B.out _⟩
            · have DE : Hid (clB uf bk ⟨i, f, d, c⟩ = depB ⟨i, f, d, c⟩) := Lib.hid (by rw [DB.out, t0, inB_eq (a := f), decide_eq_true (by omega)]; simp)
              go_wp2_with (first | (go_at_call 161; refine (isIp_any _ _).mono ?_; rintro e w' ⟨rfl, rfl⟩) | fail)
              refine (depthOK_any ⟨i, f, d, c⟩ _).mono ?_
              rintro e w1 ⟨rfl, hb⟩
              have B1 := Lib.hid (below_step (below_alloc B.out (.cells #[.int .i64 i, .int .i64 f, .int .i64 d, .bool c] 140)) hb)
              have W1 := Lib.hid (whole_b hb (whole_alloc WL.out _))
              have X1 := Lib.hid (whole_b hb (whole_new wr _ _))
              clear hb zl l0 l1 l2 l3 lf
              cases t3 : depB ⟨i, f, d, c⟩
              · have N := Lib.hid (NO.out (by rw [DE.out, t3]))
                go_wp2
                go_ret
                exact ⟨ret_bool N.out.symm, B1.out⟩
              · have N := Lib.hid (NX.out (by rw [DE.out, t3]))
                have zl := whole_lt W1.out
                have zx := whole_lt X1.out
                have l0 := whole_cell W1.out 0
                have l1 := whole_cell W1.out 1
                have l2 := whole_cell W1.out 2
                have l3 := whole_cell W1.out 3
                have lf := whole_free W1.out
                have x0 := whole_cell X1.out 0
                have x1 := whole_cell X1.out 1
                have x2 := whole_cell X1.out 2
                have x3 := whole_cell X1.out 3
                simp at l0 l1 l2 l3 x0 x1 x2 x3
                have SW := Lib.hid (whole_set (whole_set (whole_set (whole_set W1.out 0 (.int .i64 i)) 1 (.int .i64 f)) 2 (.int .i64 d)) 3 (.bool c))
                have SB := Lib.hid ((((B1.out.setCell (p := ⟨w.heap.size, 0, none⟩) (Nat.le_refl _) (.int .i64 i)).setCell (p := ⟨w.heap.size, 1, none⟩) (Nat.le_refl _) (.int .i64 f)).setCell (p := ⟨w.heap.size, 2, none⟩) (Nat.le_refl _) (.int .i64 d)).setCell (p := ⟨w.heap.size, 3, none⟩) (Nat.le_refl _) (.bool c))
                go_wp2
                go_roundw
                case rel => exact ⟨k + 1, by omega, by go_num, N.out, by rw [PN.out]; exact SW.out, SB.out⟩
                case measure => simp [intOf]; omega
      · obtain rfl : k = Q.length := by omega
        have E := Lib.hid (callsB_end AT.out HL.out)
        have zl := whole_lt WL.out
        have l3 := whole_cell WL.out 3
        simp at l3
        go_wp2
        go_ret
        exact ⟨ret_bool E.out.symm, B.out⟩
  · have E := Lib.hid (callsB_long (bk := bk) hl)
    go_enter Tryz.func160, Tryz.ntmps160
    go_wp2
    go_ret
    exact ⟨ret_bool E.out.symm, Below.refl _ _⟩

set_option maxRecDepth 100000 in
set_option maxHeartbeats 4000000 in
theorem iMachineOK_any (v : Value) (m : Mc) (w : World) (hv : MchIn w v m) (ht : Tabs w) :
    Calls Tryz.prog 86 #[v] w fun e w' => e = .returned (.bool (mOK m)) ∧ Below w.heap.size w w' := by
  have HT := Lib.hid ht
  clear ht
  have HM : Hid (mOK m = (dictB m.w && (decide (m.k.length ≤ 400) && (cellsB m.k && (dOK m.d && (hOK m.h && (callsB m.d.b.length m.c && (inB m.i 0 2147483647 && inB m.f 0 4000)))))))) := Lib.hid rfl
  obtain ⟨A1, k1, A2, k2, A3, k3, A4, k4, A5, k5, A6, k6, A7, k7, A8, k8, A9, k9, A0, k0, rfl⟩ := mchIn_form hv
  obtain ⟨x, k, a, b, c, g, s, n, q, z, e, hx, hk, hd, hh, hz⟩ := hv
  simp only [Value.agg.injEq, Array.mk.injEq, List.cons.injEq, and_true, true_and] at e
  obtain ⟨rfl, rfl, rfl, rfl, rfl, rfl, rfl, rfl, rfl, rfl⟩ := e
  have HX := Lib.hid hx
  have HK := Lib.hid hk
  have HD := Lib.hid hd
  have HH := Lib.hid hh
  have HZ := Lib.hid hz
  have lk := hk.1
  have lb : m.d.b.length ≤ maxLen := by
    obtain ⟨_, _, _, e, _, h2, _⟩ := hd
    simp only [Value.agg.injEq, Array.mk.injEq, List.cons.injEq, and_true, true_and] at e
    obtain ⟨rfl, rfl, rfl⟩ := e
    exact h2.1
  have lz := hz.1
  unfold maxLen at lk lb lz
  clear hx hk hd hh hz
  have B0 : Below w.heap.size w (w.alloc (.cells #[.slice A1 m.w.length k1, .slice A2 m.k.length k2, .slice A3 m.d.s.length k3, .slice A4 m.d.b.length k4, .slice A5 m.d.c.length k5, .int .i64 m.d.h, .int .i64 m.d.n, .string m.d.o, .slice A6 m.h.g.length k6, .slice A7 m.h.s.length k7, .slice A8 m.h.n.length k8, .int .i64 m.h.c, .slice A9 m.h.d.length k9, .slice A0 m.c.length k0, .int .i64 m.i, .int .i64 m.f] 46)) := below_alloc (Below.refl _ _) _
  go_enter Tryz.func86, Tryz.ntmps86
  go_wp2_with fail
  refine (iDict_any _ m.w _ (wds_below HX.out B0) (tabs_below HT.out B0)).mono ?_
  rintro e w1 ⟨rfl, hb⟩
  have B1 := Lib.hid (below_step B0 hb)
  have W1 := Lib.hid (whole_b hb (whole_new w _ _))
  clear hb B0
  cases t1 : dictB m.w
  · go_wp2
    go_ret
    exact ⟨ret_bool (by rw [HM.out, t1]; rfl), B1.out⟩
  have zw := whole_lt W1.out
  obtain ⟨c0, c1, c2, c3, c4, c5, c6, c7, c8, c9, c10, c11, c12, c13, c14, c15⟩ := cells_sixteen W1.out
  by_cases t2 : m.k.length ≤ 400
  rotate_left
  · go_wp2
    go_ret
    exact ⟨ret_bool (by rw [HM.out, t1, decide_eq_false t2]; rfl), B1.out⟩
  go_wp2_with fail
  clear zw c0 c1 c2 c3 c4 c5 c6 c7 c8 c9 c10 c11 c12 c13 c14 c15
  refine (allCells_any _ m.k _ (ints_below HK.out B1.out)).mono ?_
  rintro e w2 ⟨rfl, rfl⟩
  cases t3 : cellsB m.k
  · go_wp2
    go_ret
    exact ⟨ret_bool (by rw [HM.out, t1, t3, decide_eq_true t2]; rfl), B1.out⟩
  have zw := whole_lt W1.out
  obtain ⟨c0, c1, c2, c3, c4, c5, c6, c7, c8, c9, c10, c11, c12, c13, c14, c15⟩ := cells_sixteen W1.out
  go_wp2_with fail
  clear zw c0 c1 c2 c3 c4 c5 c6 c7 c8 c9 c10 c11 c12 c13 c14 c15
  refine (dataOK_any _ m.d _ (datIn_below HD.out B1.out)).mono ?_
  rintro e w4 ⟨rfl, hb⟩
  have B4 := Lib.hid (below_step B1.out hb)
  have W4 := Lib.hid (whole_b hb W1.out)
  clear hb
  cases t4 : dOK m.d
  · go_wp2
    go_ret
    exact ⟨ret_bool (by rw [HM.out, t1, t3, t4, decide_eq_true t2]; rfl), B4.out⟩
  have zw := whole_lt W4.out
  obtain ⟨c0, c1, c2, c3, c4, c5, c6, c7, c8, c9, c10, c11, c12, c13, c14, c15⟩ := cells_sixteen W4.out
  go_wp2_with fail
  clear zw c0 c1 c2 c3 c4 c5 c6 c7 c8 c9 c10 c11 c12 c13 c14 c15
  refine (iHOK_any _ m.h _ (hostIn_below HH.out B4.out)).mono ?_
  rintro e w5 ⟨rfl, hb⟩
  have B5 := Lib.hid (below_step B4.out hb)
  have W5 := Lib.hid (whole_b hb W4.out)
  clear hb
  cases t5 : hOK m.h
  · go_wp2
    go_ret
    exact ⟨ret_bool (by rw [HM.out, t1, t3, t4, t5, decide_eq_true t2]; rfl), B5.out⟩
  have zw := whole_lt W5.out
  obtain ⟨c0, c1, c2, c3, c4, c5, c6, c7, c8, c9, c10, c11, c12, c13, c14, c15⟩ := cells_sixteen W5.out
  go_wp2_with fail
  clear zw c0 c1 c2 c3 c4 c5 c6 c7 c8 c9 c10 c11 c12 c13 c14 c15
  refine (callsOK_any _ m.c _ _ (cls_below HZ.out B5.out)).mono ?_
  rintro e w6 ⟨rfl, hb⟩
  have B6 := Lib.hid (below_step B5.out hb)
  have W6 := Lib.hid (whole_b hb W5.out)
  clear hb
  cases t6 : callsB m.d.b.length m.c
  · go_wp2
    go_ret
    exact ⟨ret_bool (by rw [HM.out, t1, t3, t4, t5, t6, decide_eq_true t2]; rfl), B6.out⟩
  have zw := whole_lt W6.out
  obtain ⟨c0, c1, c2, c3, c4, c5, c6, c7, c8, c9, c10, c11, c12, c13, c14, c15⟩ := cells_sixteen W6.out
  go_wp2_with fail
  refine (isIp_any _ _).mono ?_
  rintro e w7 ⟨rfl, rfl⟩
  cases t7 : inB m.i 0 2147483647
  · go_wp2
    go_ret
    exact ⟨ret_bool (by rw [HM.out, t1, t3, t4, t5, t6, t7, decide_eq_true t2]; rfl), B6.out⟩
  by_cases t8 : 0 ≤ m.f
  · by_cases t9 : m.f ≤ 4000
    · go_wp2
      go_ret
      exact ⟨ret_bool (by rw [HM.out, t1, t3, t4, t5, t6, t7, decide_eq_true t2, inB_of t8 t9]; rfl), B6.out⟩
    · go_wp2
      go_ret
      exact ⟨ret_bool (by rw [HM.out, t1, t3, t4, t5, t6, t7, decide_eq_true t2, inB_out (a := m.f) (by omega)]; first | rfl | (simp; omega)), B6.out⟩
  · go_wp2
    go_ret
    exact ⟨ret_bool (by rw [HM.out, t1, t3, t4, t5, t6, t7, decide_eq_true t2, inB_out (a := m.f) (by omega)]; first | rfl | (simp; omega)), B6.out⟩

end Go.Proofs.YthnbaeamekolmaaGreatDoor

namespace Go.Proofs.YthnbaeamekolmaaGreatDoor
open Go.RowKit
set_option linter.unusedVariables false
set_option linter.unusedSimpArgs false

set_option maxRecDepth 100000 in
set_option maxHeartbeats 4000000 in
theorem sCallsM_any (v : Value) (m : Mc) (w : World) (hv : MchIn w v m) :
    Calls Tryz.prog 148 #[v] w fun e w' => e = .returned (.bool (callsB m.d.b.length m.c)) ∧ Below w.heap.size w w' := by
  obtain ⟨A1, k1, A2, k2, A3, k3, A4, k4, A5, k5, A6, k6, A7, k7, A8, k8, A9, k9, A0, k0, rfl⟩ := mchIn_form hv
  obtain ⟨x, k, a, b, c, g, s, n, q, z, e, hx, hk, hd, hh, hz⟩ := hv
  simp only [Value.agg.injEq, Array.mk.injEq, List.cons.injEq, and_true, true_and] at e
  obtain ⟨rfl, rfl, rfl, rfl, rfl, rfl, rfl, rfl, rfl, rfl⟩ := e
  have HX := Lib.hid hx
  have HK := Lib.hid hk
  have HD := Lib.hid hd
  have HH := Lib.hid hh
  have HZ := Lib.hid hz
  have lk := hk.1
  have lb : m.d.b.length ≤ maxLen := by
    obtain ⟨_, _, _, e, _, h2, _⟩ := hd
    simp only [Value.agg.injEq, Array.mk.injEq, List.cons.injEq, and_true, true_and] at e
    obtain ⟨rfl, rfl, rfl⟩ := e
    exact h2.1
  have lz := hz.1
  unfold maxLen at lk lb lz
  clear hx hk hd hh hz
  have W0 := Lib.hid (whole_new w 46 #[.slice A1 m.w.length k1, .slice A2 m.k.length k2, .slice A3 m.d.s.length k3, .slice A4 m.d.b.length k4, .slice A5 m.d.c.length k5, .int .i64 m.d.h, .int .i64 m.d.n, .string m.d.o, .slice A6 m.h.g.length k6, .slice A7 m.h.s.length k7, .slice A8 m.h.n.length k8, .int .i64 m.h.c, .slice A9 m.h.d.length k9, .slice A0 m.c.length k0, .int .i64 m.i, .int .i64 m.f])
  generalize hbk : m.d.b.length = bk at *
  generalize hQ : m.c = Q at *
  by_cases hl : Q.length ≤ 16
  · have HL := Lib.hid hl
    go_enter Tryz.func148, Tryz.ntmps148
    go_wp2
    go_loopw [3, 4, 5] (fun fl i _ wr => ∃ k : Nat, k ≤ Q.length ∧ i = .int .i64 k ∧ CallsTo bk Q k ∧ fl = .int .i64 (prevC Q k).f ∧ Whole wr w.heap.size 46 #[.slice A1 m.w.length k1, .slice A2 m.k.length k2, .slice A3 m.d.s.length k3, .slice A4 bk k4, .slice A5 m.d.c.length k5, .int .i64 m.d.h, .int .i64 m.d.n, .string m.d.o, .slice A6 m.h.g.length k6, .slice A7 m.h.s.length k7, .slice A8 m.h.n.length k8, .int .i64 m.h.c, .slice A9 m.h.d.length k9, .slice A0 Q.length k0, .int .i64 m.i, .int .i64 m.f] ∧ Below w.heap.size w wr) (fun _ i _ _ => Q.length - (intOf i).toNat)
    case atStart => exact ⟨0, Nat.zero_le _, rfl, callsTo_zero _ _, rfl, W0.out, below_alloc (Below.refl _ _) _⟩
    case round =>
      obtain ⟨k, hk, rfl, hat, rfl, hw, hb⟩ := hrel
      have AT := Lib.hid hat
      have B := Lib.hid hb
      have WL := Lib.hid hw
      clear hat hb hw
      have zw := whole_lt WL.out
      obtain ⟨c0, c1, c2, c3, c4, c5, c6, c7, c8, c9, c10, c11, c12, c13, c14, c15⟩ := cells_sixteen WL.out
      by_cases hlt : k < Q.length
      · obtain ⟨_, A', cap', e', hc⟩ := cls_below HZ.out B.out
        simp only [Value.slice.injEq, true_and] at e'
        obtain ⟨rfl, rfl⟩ := e'
        obtain ⟨ad, rfl, hd⟩ := hc (by omega)
        obtain ⟨d0, d1, d2, d3⟩ := hd k hlt
        clear hc hd
        have NO := Lib.hid (fun e => callsB_not (bk := bk) hlt (e := e))
        have NX := Lib.hid (fun e => callsTo_next AT.out hlt e)
        have PN := Lib.hid (prevC_next hlt)
        generalize Q[k] = y at *
        generalize prevC Q k = u at *
        obtain ⟨i, f, d, c⟩ := y
        obtain ⟨ui, uf, ud, uc⟩ := u
        simp only at *
        have DB := Lib.hid (clB_of uf bk ⟨i, f, d, c⟩)
        have DD : Hid (depB ⟨i, f, d, c⟩ = if c then inB d 0 31 else d == 0) := Lib.hid rfl
        simp only at DB
        cases t0 : inB i 0 2147483647
        · have N := Lib.hid (NO.out (by rw [DB.out]; simp [*]))
          go_wp2_with (first | (go_at_call 64; refine (sIn_any _ _ _ _).mono ?_; rintro e w' ⟨rfl, rfl⟩))
          go_ret
          exact ⟨ret_bool N.out.symm, below_alloc B.out _⟩
        · cases t1 : inB f uf bk
          · have N := Lib.hid (NO.out (by rw [DB.out]; simp [*]))
            go_wp2_with (first | (go_at_call 64; refine (sIn_any _ _ _ _).mono ?_; rintro e w' ⟨rfl, rfl⟩))
            go_ret
            exact ⟨ret_bool N.out.symm, below_alloc B.out _⟩
          · cases c
            · cases t2 : (d == 0)
              · have N := Lib.hid (NO.out (by rw [DB.out, DD.out]; simp [*]))
                have t2' : (d != 0) = true := by simp only [bne, t2]; rfl
                go_wp2_with (first | (go_at_call 64; refine (sIn_any _ _ _ _).mono ?_; rintro e w' ⟨rfl, rfl⟩))
                go_ret
                exact ⟨ret_bool N.out.symm, below_alloc B.out _⟩
              · have N := Lib.hid (NX.out (by rw [DB.out, DD.out]; simp [*]))
                have t2' : (d != 0) = false := by simp only [bne, t2]; rfl
                go_wp2_with (first | (go_at_call 64; refine (sIn_any _ _ _ _).mono ?_; rintro e w' ⟨rfl, rfl⟩))
                go_roundw
                case rel => exact ⟨k + 1, by omega, by go_num, N.out, by rw [PN.out], whole_alloc WL.out _, below_alloc B.out _⟩
                case measure => simp [intOf]; omega
            · cases t2 : inB d 0 31
              · have N := Lib.hid (NO.out (by rw [DB.out, DD.out]; simp [*]))
                go_wp2_with (first | (go_at_call 64; refine (sIn_any _ _ _ _).mono ?_; rintro e w' ⟨rfl, rfl⟩))
                go_ret
                exact ⟨ret_bool N.out.symm, below_alloc B.out _⟩
              · have N := Lib.hid (NX.out (by rw [DB.out, DD.out]; simp [*]))
                go_wp2_with (first | (go_at_call 64; refine (sIn_any _ _ _ _).mono ?_; rintro e w' ⟨rfl, rfl⟩))
                go_roundw
                case rel => exact ⟨k + 1, by omega, by go_num, N.out, by rw [PN.out], whole_alloc WL.out _, below_alloc B.out _⟩
                case measure => simp [intOf]; omega
      · obtain rfl : k = Q.length := by omega
        have E := Lib.hid (callsB_end AT.out HL.out)
        by_cases hz0 : Q.length = 0
        · have E0 : Hid (callsB bk Q = true) := Lib.hid (by rw [E.out, hz0]; rfl)
          go_wp2
          go_ret
          exact ⟨ret_bool E0.out.symm, B.out⟩
        · obtain ⟨j, hj⟩ : ∃ j, Q.length = j + 1 := ⟨Q.length - 1, by omega⟩
          obtain ⟨_, A', cap', e', hc⟩ := cls_below HZ.out B.out
          simp only [Value.slice.injEq, true_and] at e'
          obtain ⟨rfl, rfl⟩ := e'
          obtain ⟨ad, rfl, hd⟩ := hc (by omega)
          obtain ⟨d0, d1, d2, d3⟩ := hd j (by omega)
          have E1 : Hid (callsB bk Q = !(Q[j]'(by omega)).c) := Lib.hid (by rw [E.out, prevC_last hj (by omega)])
          clear hc hd
          generalize (Q[j]'(by omega)) = y at *
          obtain ⟨i, f, d, c⟩ := y
          simp only at *
          have ej : Q.length - 1 = j := by omega
          go_wp2
          go_ret
          exact ⟨ret_bool E1.out.symm, B.out⟩
  · have E := Lib.hid (callsB_long (bk := bk) hl)
    go_enter Tryz.func148, Tryz.ntmps148
    go_wp2
    go_ret
    exact ⟨ret_bool E.out.symm, below_alloc (Below.refl _ _) _⟩

set_option maxRecDepth 100000 in
set_option maxHeartbeats 4000000 in
theorem sMachOK_any (v : Value) (m : Mc) (w : World) (hv : MchIn w v m) :
    Calls Tryz.prog 78 #[v] w fun e w' => e = .returned (.bool (mOK m)) ∧ Below w.heap.size w w' := by
  have HM : Hid (mOK m = (dictB m.w && (decide (m.k.length ≤ 400) && (cellsB m.k && (dOK m.d && (hOK m.h && (callsB m.d.b.length m.c && (inB m.i 0 2147483647 && inB m.f 0 4000)))))))) := Lib.hid rfl
  obtain ⟨A1, k1, A2, k2, A3, k3, A4, k4, A5, k5, A6, k6, A7, k7, A8, k8, A9, k9, A0, k0, rfl⟩ := mchIn_form hv
  obtain ⟨x, k, a, b, c, g, s, n, q, z, e, hx, hk, hd, hh, hz⟩ := hv
  simp only [Value.agg.injEq, Array.mk.injEq, List.cons.injEq, and_true, true_and] at e
  obtain ⟨rfl, rfl, rfl, rfl, rfl, rfl, rfl, rfl, rfl, rfl⟩ := e
  have HX := Lib.hid hx
  have HK := Lib.hid hk
  have HD := Lib.hid hd
  have HH := Lib.hid hh
  have HZ := Lib.hid hz
  have lk := hk.1
  have lb : m.d.b.length ≤ maxLen := by
    obtain ⟨_, _, _, e, _, h2, _⟩ := hd
    simp only [Value.agg.injEq, Array.mk.injEq, List.cons.injEq, and_true, true_and] at e
    obtain ⟨rfl, rfl, rfl⟩ := e
    exact h2.1
  have lz := hz.1
  unfold maxLen at lk lb lz
  clear hx hk hd hh hz
  have B0 : Below w.heap.size w (w.alloc (.cells #[.slice A1 m.w.length k1, .slice A2 m.k.length k2, .slice A3 m.d.s.length k3, .slice A4 m.d.b.length k4, .slice A5 m.d.c.length k5, .int .i64 m.d.h, .int .i64 m.d.n, .string m.d.o, .slice A6 m.h.g.length k6, .slice A7 m.h.s.length k7, .slice A8 m.h.n.length k8, .int .i64 m.h.c, .slice A9 m.h.d.length k9, .slice A0 m.c.length k0, .int .i64 m.i, .int .i64 m.f] 46)) := below_alloc (Below.refl _ _) _
  go_enter Tryz.func78, Tryz.ntmps78
  go_wp2_with fail
  refine (sDict_any _ m.w _ (wds_below HX.out B0)).mono ?_
  rintro e w1 ⟨rfl, hb⟩
  have B1 := Lib.hid (below_step B0 hb)
  have W1 := Lib.hid (whole_b hb (whole_new w _ _))
  clear hb B0
  cases t1 : dictB m.w
  · go_wp2
    go_ret
    exact ⟨ret_bool (by rw [HM.out, t1]; rfl), B1.out⟩
  have zw := whole_lt W1.out
  obtain ⟨c0, c1, c2, c3, c4, c5, c6, c7, c8, c9, c10, c11, c12, c13, c14, c15⟩ := cells_sixteen W1.out
  by_cases t2 : m.k.length ≤ 400
  rotate_left
  · go_wp2
    go_ret
    exact ⟨ret_bool (by rw [HM.out, t1, decide_eq_false t2]; rfl), B1.out⟩
  go_wp2_with fail
  clear zw c0 c1 c2 c3 c4 c5 c6 c7 c8 c9 c10 c11 c12 c13 c14 c15
  refine (sCells_any _ m.k _ (ints_below HK.out B1.out)).mono ?_
  rintro e w2 ⟨rfl, rfl⟩
  cases t3 : cellsB m.k
  · go_wp2
    go_ret
    exact ⟨ret_bool (by rw [HM.out, t1, t3, decide_eq_true t2]; rfl), B1.out⟩
  have zw := whole_lt W1.out
  obtain ⟨c0, c1, c2, c3, c4, c5, c6, c7, c8, c9, c10, c11, c12, c13, c14, c15⟩ := cells_sixteen W1.out
  go_wp2_with fail
  clear zw c0 c1 c2 c3 c4 c5 c6 c7 c8 c9 c10 c11 c12 c13 c14 c15
  refine (sOK_any _ m.d _ (datIn_below HD.out B1.out)).mono ?_
  rintro e w4 ⟨rfl, hb⟩
  have B4 := Lib.hid (below_step B1.out hb)
  have W4 := Lib.hid (whole_b hb W1.out)
  clear hb
  cases t4 : dOK m.d
  · go_wp2
    go_ret
    exact ⟨ret_bool (by rw [HM.out, t1, t3, t4, decide_eq_true t2]; rfl), B4.out⟩
  have zw := whole_lt W4.out
  obtain ⟨c0, c1, c2, c3, c4, c5, c6, c7, c8, c9, c10, c11, c12, c13, c14, c15⟩ := cells_sixteen W4.out
  go_wp2_with fail
  clear zw c0 c1 c2 c3 c4 c5 c6 c7 c8 c9 c10 c11 c12 c13 c14 c15
  refine (sHOK_any _ m.h _ (hostIn_below HH.out B4.out)).mono ?_
  rintro e w5 ⟨rfl, hb⟩
  have B5 := Lib.hid (below_step B4.out hb)
  have W5 := Lib.hid (whole_b hb W4.out)
  clear hb
  cases t5 : hOK m.h
  · go_wp2
    go_ret
    exact ⟨ret_bool (by rw [HM.out, t1, t3, t4, t5, decide_eq_true t2]; rfl), B5.out⟩
  have zw := whole_lt W5.out
  obtain ⟨c0, c1, c2, c3, c4, c5, c6, c7, c8, c9, c10, c11, c12, c13, c14, c15⟩ := cells_sixteen W5.out
  go_wp2_with fail
  clear zw c0 c1 c2 c3 c4 c5 c6 c7 c8 c9 c10 c11 c12 c13 c14 c15
  refine (sCallsM_any _ m _ ⟨_, _, _, _, _, _, _, _, _, _, rfl, wds_below HX.out B5.out, ints_below HK.out B5.out, datIn_below HD.out B5.out, hostIn_below HH.out B5.out, cls_below HZ.out B5.out⟩).mono ?_
  rintro e w6 ⟨rfl, hb⟩
  have B6 := Lib.hid (below_step B5.out hb)
  have W6 := Lib.hid (whole_b hb W5.out)
  clear hb
  cases t6 : callsB m.d.b.length m.c
  · go_wp2
    go_ret
    exact ⟨ret_bool (by rw [HM.out, t1, t3, t4, t5, t6, decide_eq_true t2]; rfl), B6.out⟩
  have zw := whole_lt W6.out
  obtain ⟨c0, c1, c2, c3, c4, c5, c6, c7, c8, c9, c10, c11, c12, c13, c14, c15⟩ := cells_sixteen W6.out
  go_wp2_with fail
  refine (sIn_any _ _ _ _).mono ?_
  rintro e w7 ⟨rfl, rfl⟩
  cases t7 : inB m.i 0 2147483647
  · go_wp2
    go_ret
    exact ⟨ret_bool (by rw [HM.out, t1, t3, t4, t5, t6, t7, decide_eq_true t2]; rfl), B6.out⟩
  go_wp2_with fail
  refine (sIn_any _ _ _ _).mono ?_
  rintro e w8 ⟨rfl, rfl⟩
  cases t8 : inB m.f 0 4000
  · go_wp2
    go_ret
    exact ⟨ret_bool (by rw [HM.out, t1, t3, t4, t5, t6, t7, t8, decide_eq_true t2]; rfl), B6.out⟩
  · go_wp2
    go_ret
    exact ⟨ret_bool (by rw [HM.out, t1, t3, t4, t5, t6, t7, t8, decide_eq_true t2]; rfl), B6.out⟩

end Go.Proofs.YthnbaeamekolmaaGreatDoor
