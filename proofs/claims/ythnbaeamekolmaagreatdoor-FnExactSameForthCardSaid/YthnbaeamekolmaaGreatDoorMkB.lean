/- impl's items: valid or not, what is open behind them, their size. -/
import Derived.Test.YthnbaeamekolmaaGreatDoorMkA
namespace Go.Proofs.YthnbaeamekolmaaGreatDoor
open Go.RowKit
set_option linter.unusedVariables false
set_option linter.unusedSimpArgs false

set_option maxHeartbeats 400000 in
theorem wordNumber_any (n : Int) (w : World) :
    Calls Tryz.prog 163 #[.int .i64 n] w fun e w' => e = .returned (.bool (inB n 1 103)) ∧ w = w' := by
  by_cases h : 1 ≤ n
  · by_cases h' : n ≤ 103
    · go_enter Tryz.func163, Tryz.ntmps163
      go_wp2
      go_ret
      exact ⟨ret_bool (by unfold inB; simp [h, h']), rfl⟩
    · go_enter Tryz.func163, Tryz.ntmps163
      go_wp2
      go_ret
      exact ⟨ret_bool (by unfold inB; rw [decide_eq_false (by omega)]), rfl⟩
  · go_enter Tryz.func163, Tryz.ntmps163
    go_wp2
    go_ret
    exact ⟨ret_bool (by unfold inB; rw [decide_eq_false (by omega)]), rfl⟩

set_option maxRecDepth 100000 in
set_option maxHeartbeats 1000000 in
theorem iItemOK_any (x : It) (w : World) :
    Calls Tryz.prog 88 #[.agg #[.int .i64 x.k, .int .i64 x.v]] w fun e w' => e = .returned (.bool (itB x)) ∧ Below w.heap.size w w' := by
  obtain ⟨k, v⟩ := x
  by_cases h1 : k = 1
  · subst h1
    go_enter Tryz.func88, Tryz.ntmps88
    go_wp2_with fail
    refine (wordNumber_any _ _).mono ?_
    rintro e w' ⟨rfl, rfl⟩
    go_wp2
    go_ret
    exact ⟨rfl, below_alloc (Below.refl _ _) _⟩
  by_cases h2 : k = 2
  · subst h2
    go_enter Tryz.func88, Tryz.ntmps88
    go_wp2_with fail
    refine (cellOK_any _ _).mono ?_
    rintro e w' ⟨rfl, rfl⟩
    go_wp2
    go_ret
    exact ⟨rfl, below_alloc (Below.refl _ _) _⟩
  have t1 : (k == 1) = false := by simpa using h1
  have t2 : (k == 2) = false := by simpa using h2
  have E : itB ⟨k, v⟩ = (decide (3 ≤ k ∧ k ≤ 13) && decide (v = 0)) := by unfold itB; simp [h1, h2]
  rw [E]
  clear E h1 h2
  by_cases h3 : 3 ≤ k
  · by_cases h4 : k ≤ 13
    · by_cases h5 : v = 0
      · subst h5
        go_enter Tryz.func88, Tryz.ntmps88
        go_wp2
        go_ret
        exact ⟨ret_bool (by simp [h3, h4]), below_alloc (Below.refl _ _) _⟩
      · have t5 : (v == 0) = false := by simpa using h5
        go_enter Tryz.func88, Tryz.ntmps88
        go_wp2
        go_ret
        exact ⟨ret_bool (by simp [h5]), below_alloc (Below.refl _ _) _⟩
    · have t4 : ¬ k ≤ 13 := h4
      go_enter Tryz.func88, Tryz.ntmps88
      go_wp2
      go_ret
      exact ⟨ret_bool (by rw [decide_eq_false (by omega)]; rfl), below_alloc (Below.refl _ _) _⟩
  · have t3 : ¬ 3 ≤ k := h3
    go_enter Tryz.func88, Tryz.ntmps88
    go_wp2
    go_ret
    exact ⟨ret_bool (by rw [decide_eq_false (by omega)]; rfl), below_alloc (Below.refl _ _) _⟩

set_option maxRecDepth 100000 in
set_option maxHeartbeats 1000000 in
theorem itemsCode_any (v : Value) (Q : List It) (w : World) (hv : Its w v Q) :
    Calls Tryz.prog 45 #[v] w fun e w' => e = .returned (.int .i64 (askI Q)) ∧ Below w.heap.size w w' := by
  have HV := Lib.hid hv
  obtain ⟨hl, A, cap, rfl, _⟩ := hv
  unfold maxLen at hl
  by_cases h1 : 4096 < Q.length
  · have E : Hid (askI Q = 2) := Lib.hid (by unfold askI; rw [if_pos h1])
    have t1 : (4096 : Int) < (Q.length : Int) := by omega
    clear h1
    go_enter Tryz.func45, Tryz.ntmps45
    go_wp2
    go_ret
    exact ⟨ret_int E.out.symm, Below.refl _ _⟩
  have t1 : ¬ (4096 : Int) < (Q.length : Int) := by omega
  by_cases h2 : 60 < Q.length
  · have E : Hid (askI Q = 6) := Lib.hid (by unfold askI; rw [if_neg h1, if_pos h2])
    have t2 : (60 : Int) < (Q.length : Int) := by omega
    clear h1 h2
    go_enter Tryz.func45, Tryz.ntmps45
    go_wp2
    go_ret
    exact ⟨ret_int E.out.symm, Below.refl _ _⟩
  have t2 : ¬ (60 : Int) < (Q.length : Int) := by omega
  have E : Hid (askI Q = if Q.all itB = true then 0 else 1) := Lib.hid (by unfold askI; rw [if_neg h1, if_neg h2])
  have hl2 : Q.length ≤ 60 := by omega
  clear h1 h2
  go_enter Tryz.func45, Tryz.ntmps45
  go_wp2
  go_loopw [13] (fun i wr => ∃ k : Nat, k ≤ Q.length ∧ i = .int .i64 k ∧ (∀ j (h : j < Q.length), j < k → itB Q[j] = true) ∧ Below w.heap.size w wr) (fun i _ => Q.length - (intOf i).toNat)
  case atStart => exact ⟨0, Nat.zero_le _, rfl, fun j _ hj => by omega, Below.refl _ _⟩
  case round =>
    obtain ⟨k, hk, rfl, ha, hb⟩ := hrel
    have HA := Lib.hid ha
    have HB := Lib.hid hb
    clear ha hb
    by_cases hlt : k < Q.length
    · obtain ⟨_, A', ca', e', hc⟩ := its_below HV.out HB.out
      simp only [Value.slice.injEq, true_and] at e'
      obtain ⟨rfl, rfl⟩ := e'
      obtain ⟨ga, rfl, ha⟩ := hc (by omega)
      obtain ⟨c0, c1⟩ := ha k hlt
      clear ha hc
      go_wp2_with fail
      refine (iItemOK_any Q[k] _).mono ?_
      rintro e w2 ⟨rfl, hb2⟩
      have B2 := Lib.hid (below_step (below_alloc HB.out _) hb2)
      clear hb2 c0 c1
      by_cases hi : itB Q[k] = true
      · have HI := Lib.hid hi
        rw [hi]
        clear hi
        go_wp2
        go_roundw
        case rel => exact ⟨k + 1, by omega, by go_num, fun j h hj => by
          rcases Nat.lt_succ_iff_lt_or_eq.1 hj with q | rfl
          · exact HA.out j h q
          · exact HI.out, B2.out⟩
        case measure => simp [intOf]; omega
      · have hi : itB Q[k] = false := by simpa using hi
        have EE : Hid (askI Q = 1) := Lib.hid (by
          rw [E.out, if_neg]
          intro h
          have := List.all_eq_true.1 h Q[k] (List.getElem_mem hlt)
          rw [hi] at this; cases this)
        rw [hi]
        clear hi
        go_wp2
        go_ret
        exact ⟨ret_int EE.out.symm, B2.out⟩
    · obtain rfl : k = Q.length := by omega
      have EE : Hid (askI Q = 0) := Lib.hid (by
        rw [E.out, if_pos]
        exact List.all_eq_true.2 fun x hx => by
          obtain ⟨j, hj, rfl⟩ := List.getElem_of_mem hx
          exact HA.out j hj hj)
      clear hlt
      go_wp2
      go_ret
      exact ⟨ret_int EE.out.symm, HB.out⟩

set_option maxRecDepth 100000 in
set_option maxHeartbeats 1000000 in
theorem sizeOfItem_any (k : Int) (w : World) :
    Calls Tryz.prog 236 #[.int .i64 k] w fun e w' => e = .returned (.int .i64 (cellsI k : Nat)) ∧ w = w' := by
  by_cases h5 : k = 5
  · subst h5
    go_enter Tryz.func236, Tryz.ntmps236
    go_wp2
    go_ret
    exact ⟨rfl, rfl⟩
  by_cases h6 : k = 6
  · subst h6
    go_enter Tryz.func236, Tryz.ntmps236
    go_wp2
    go_ret
    exact ⟨rfl, rfl⟩
  by_cases h1 : k = 1
  · subst h1
    go_enter Tryz.func236, Tryz.ntmps236
    go_wp2
    go_ret
    exact ⟨rfl, rfl⟩
  by_cases h13 : k = 13
  · subst h13
    go_enter Tryz.func236, Tryz.ntmps236
    go_wp2
    go_ret
    exact ⟨rfl, rfl⟩
  by_cases h10 : k = 10
  · subst h10
    go_enter Tryz.func236, Tryz.ntmps236
    go_wp2
    go_ret
    exact ⟨rfl, rfl⟩
  have t5 : (k == 5) = false := by simpa using h5
  have t6 : (k == 6) = false := by simpa using h6
  have t1 : (k == 1) = false := by simpa using h1
  have t13 : (k == 13) = false := by simpa using h13
  have t10 : (k == 10) = false := by simpa using h10
  have E : Hid (cellsI k = 2) := Lib.hid (by unfold cellsI; rw [if_neg (by omega), if_neg (by omega)])
  clear h5 h6 h1 h13 h10
  go_enter Tryz.func236, Tryz.ntmps236
  go_wp2
  go_ret
  exact ⟨ret_int (by rw [E.out]; rfl), rfl⟩

set_option maxRecDepth 100000 in
set_option maxHeartbeats 1000000 in
theorem sizeOfCode_any (v : Value) (Q : List It) (w : World) (hv : Its w v Q) (hl : Q.length ≤ 60) :
    Calls Tryz.prog 216 #[v] w fun e w' => e = .returned (.int .i64 ((sumI Q + 1 : Nat) : Int)) ∧ Below w.heap.size w w' := by
  have HV := Lib.hid hv
  obtain ⟨_, A, cap, rfl, _⟩ := hv
  go_enter Tryz.func216, Tryz.ntmps216
  go_wp2
  go_loopw [3, 8] (fun s i wr => ∃ k : Nat, k ≤ Q.length ∧ i = .int .i64 k ∧ s = .int .i64 ((sumI (Q.take k) + 1 : Nat) : Int) ∧ Below w.heap.size w wr) (fun _ i _ => Q.length - (intOf i).toNat)
  case atStart => exact ⟨0, Nat.zero_le _, rfl, rfl, Below.refl _ _⟩
  case round =>
    obtain ⟨k, hk, rfl, rfl, hb⟩ := hrel
    have HB := Lib.hid hb
    clear hb
    by_cases hlt : k < Q.length
    · obtain ⟨_, A', ca', e', hc⟩ := its_below HV.out HB.out
      simp only [Value.slice.injEq, true_and] at e'
      obtain ⟨rfl, rfl⟩ := e'
      obtain ⟨ga, rfl, ha⟩ := hc (by omega)
      obtain ⟨c0, c1⟩ := ha k hlt
      have ES := Lib.hid (sumI_take hlt)
      have q1 : sumI (Q.take k) ≤ 120 := by have := sumI_le (Q.take k); rw [List.length_take] at this; omega
      have q2 := cellsI_le Q[k].k
      generalize sumI (Q.take k) = s at *
      clear ha hc
      go_wp2_with fail
      refine (sizeOfItem_any _ _).mono ?_
      rintro e w2 ⟨rfl, rfl⟩
      generalize cellsI Q[k].k = c at *
      go_wp2
      go_roundw
      case rel => exact ⟨k + 1, by omega, by go_num, by rw [ES.out]; go_num, below_alloc HB.out _⟩
      case measure => simp [intOf]; omega
    · obtain rfl : k = Q.length := by omega
      clear hlt
      go_wp2
      go_ret
      exact ⟨ret_int (by rw [List.take_length]), HB.out⟩

set_option maxRecDepth 100000 in
set_option maxHeartbeats 400000 in
theorem fits_1 (w : World) (v : Value) (o : List Int) (hv : Ints w v o) (hl : o.length ≤ 1000000) :
    Calls Tryz.prog 164 #[.agg #[v], .int .i64 1] w fun e w' => e = .returned (.bool (fitB o 1)) ∧ Below w.heap.size w w' := by
  have HT := Lib.hid (top_any (w.alloc (.cells #[v] 172)) w.heap.size v o (by rw [whole_cell (whole_new w _ _) 0]; rfl) (ints_below hv (below_alloc (Below.refl _ _) _)) hl)
  obtain ⟨_, A, c, rfl, _⟩ := hv
  have E : Hid (fitB o 1 = true) := Lib.hid rfl
  rw [E.out]
  clear E
  generalize topO o = t at *
  go_enter Tryz.func164, Tryz.ntmps164
  go_wp2_with fail
  refine HT.out.mono ?_
  rintro e w1 ⟨n, rfl, rfl⟩
  go_wp2
  go_ret
  exact ⟨rfl, below_drewN (below_alloc (Below.refl _ _) _) _⟩

set_option maxRecDepth 100000 in
set_option maxHeartbeats 400000 in
theorem fits_2 (w : World) (v : Value) (o : List Int) (hv : Ints w v o) (hl : o.length ≤ 1000000) :
    Calls Tryz.prog 164 #[.agg #[v], .int .i64 2] w fun e w' => e = .returned (.bool (fitB o 2)) ∧ Below w.heap.size w w' := by
  have HT := Lib.hid (top_any (w.alloc (.cells #[v] 172)) w.heap.size v o (by rw [whole_cell (whole_new w _ _) 0]; rfl) (ints_below hv (below_alloc (Below.refl _ _) _)) hl)
  obtain ⟨_, A, c, rfl, _⟩ := hv
  have E : Hid (fitB o 2 = true) := Lib.hid rfl
  rw [E.out]
  clear E
  generalize topO o = t at *
  go_enter Tryz.func164, Tryz.ntmps164
  go_wp2_with fail
  refine HT.out.mono ?_
  rintro e w1 ⟨n, rfl, rfl⟩
  go_wp2
  go_ret
  exact ⟨rfl, below_drewN (below_alloc (Below.refl _ _) _) _⟩

set_option maxRecDepth 100000 in
set_option maxHeartbeats 400000 in
theorem fits_3 (w : World) (v : Value) (o : List Int) (hv : Ints w v o) (hl : o.length ≤ 1000000) :
    Calls Tryz.prog 164 #[.agg #[v], .int .i64 3] w fun e w' => e = .returned (.bool (fitB o 3)) ∧ Below w.heap.size w w' := by
  have HT := Lib.hid (top_any (w.alloc (.cells #[v] 172)) w.heap.size v o (by rw [whole_cell (whole_new w _ _) 0]; rfl) (ints_below hv (below_alloc (Below.refl _ _) _)) hl)
  obtain ⟨_, A, c, rfl, _⟩ := hv
  have E : Hid (fitB o 3 = decide (o.length < 8)) := Lib.hid rfl
  rw [E.out]
  clear E
  generalize topO o = t at *
  go_enter Tryz.func164, Tryz.ntmps164
  go_wp2_with fail
  refine HT.out.mono ?_
  rintro e w1 ⟨n, rfl, rfl⟩
  go_wp2
  go_ret
  exact ⟨ret_bool (by simp only [decide_eq_decide]; omega), below_drewN (below_alloc (Below.refl _ _) _) _⟩

set_option maxRecDepth 100000 in
set_option maxHeartbeats 400000 in
theorem fits_4 (w : World) (v : Value) (o : List Int) (hv : Ints w v o) (hl : o.length ≤ 1000000) :
    Calls Tryz.prog 164 #[.agg #[v], .int .i64 4] w fun e w' => e = .returned (.bool (fitB o 4)) ∧ Below w.heap.size w w' := by
  have HT := Lib.hid (top_any (w.alloc (.cells #[v] 172)) w.heap.size v o (by rw [whole_cell (whole_new w _ _) 0]; rfl) (ints_below hv (below_alloc (Below.refl _ _) _)) hl)
  obtain ⟨_, A, c, rfl, _⟩ := hv
  have E : Hid (fitB o 4 = (topO o == 3)) := Lib.hid rfl
  rw [E.out]
  clear E
  generalize topO o = t at *
  go_enter Tryz.func164, Tryz.ntmps164
  go_wp2_with fail
  refine HT.out.mono ?_
  rintro e w1 ⟨n, rfl, rfl⟩
  go_wp2
  go_ret
  exact ⟨rfl, below_drewN (below_alloc (Below.refl _ _) _) _⟩

set_option maxRecDepth 100000 in
set_option maxHeartbeats 400000 in
theorem fits_5 (w : World) (v : Value) (o : List Int) (hv : Ints w v o) (hl : o.length ≤ 1000000) :
    Calls Tryz.prog 164 #[.agg #[v], .int .i64 5] w fun e w' => e = .returned (.bool (fitB o 5)) ∧ Below w.heap.size w w' := by
  have HT := Lib.hid (top_any (w.alloc (.cells #[v] 172)) w.heap.size v o (by rw [whole_cell (whole_new w _ _) 0]; rfl) (ints_below hv (below_alloc (Below.refl _ _) _)) hl)
  obtain ⟨_, A, c, rfl, _⟩ := hv
  have E : Hid (fitB o 5 = (topO o == 3 || topO o == 4)) := Lib.hid rfl
  rw [E.out]
  clear E
  generalize topO o = t at *
  go_enter Tryz.func164, Tryz.ntmps164
  go_wp2_with fail
  refine HT.out.mono ?_
  rintro e w1 ⟨n, rfl, rfl⟩
  go_wp2
  all_goals
    go_ret
    exact ⟨ret_bool (by simp [*]), below_drewN (below_alloc (Below.refl _ _) _) _⟩

set_option maxRecDepth 100000 in
set_option maxHeartbeats 400000 in
theorem fits_6 (w : World) (v : Value) (o : List Int) (hv : Ints w v o) (hl : o.length ≤ 1000000) :
    Calls Tryz.prog 164 #[.agg #[v], .int .i64 6] w fun e w' => e = .returned (.bool (fitB o 6)) ∧ Below w.heap.size w w' := by
  have HT := Lib.hid (top_any (w.alloc (.cells #[v] 172)) w.heap.size v o (by rw [whole_cell (whole_new w _ _) 0]; rfl) (ints_below hv (below_alloc (Below.refl _ _) _)) hl)
  obtain ⟨_, A, c, rfl, _⟩ := hv
  have E : Hid (fitB o 6 = decide (o.length < 8)) := Lib.hid rfl
  rw [E.out]
  clear E
  generalize topO o = t at *
  go_enter Tryz.func164, Tryz.ntmps164
  go_wp2_with fail
  refine HT.out.mono ?_
  rintro e w1 ⟨n, rfl, rfl⟩
  go_wp2
  go_ret
  exact ⟨ret_bool (by simp only [decide_eq_decide]; omega), below_drewN (below_alloc (Below.refl _ _) _) _⟩

set_option maxRecDepth 100000 in
set_option maxHeartbeats 400000 in
theorem fits_7 (w : World) (v : Value) (o : List Int) (hv : Ints w v o) (hl : o.length ≤ 1000000) :
    Calls Tryz.prog 164 #[.agg #[v], .int .i64 7] w fun e w' => e = .returned (.bool (fitB o 7)) ∧ Below w.heap.size w w' := by
  have HT := Lib.hid (top_any (w.alloc (.cells #[v] 172)) w.heap.size v o (by rw [whole_cell (whole_new w _ _) 0]; rfl) (ints_below hv (below_alloc (Below.refl _ _) _)) hl)
  obtain ⟨_, A, c, rfl, _⟩ := hv
  have E : Hid (fitB o 7 = (topO o == 6)) := Lib.hid rfl
  rw [E.out]
  clear E
  generalize topO o = t at *
  go_enter Tryz.func164, Tryz.ntmps164
  go_wp2_with fail
  refine HT.out.mono ?_
  rintro e w1 ⟨n, rfl, rfl⟩
  go_wp2
  go_ret
  exact ⟨rfl, below_drewN (below_alloc (Below.refl _ _) _) _⟩

set_option maxRecDepth 100000 in
set_option maxHeartbeats 400000 in
theorem fits_8 (w : World) (v : Value) (o : List Int) (hv : Ints w v o) (hl : o.length ≤ 1000000) :
    Calls Tryz.prog 164 #[.agg #[v], .int .i64 8] w fun e w' => e = .returned (.bool (fitB o 8)) ∧ Below w.heap.size w w' := by
  have HT := Lib.hid (top_any (w.alloc (.cells #[v] 172)) w.heap.size v o (by rw [whole_cell (whole_new w _ _) 0]; rfl) (ints_below hv (below_alloc (Below.refl _ _) _)) hl)
  obtain ⟨_, A, c, rfl, _⟩ := hv
  have E : Hid (fitB o 8 = (topO o == 6)) := Lib.hid rfl
  rw [E.out]
  clear E
  generalize topO o = t at *
  go_enter Tryz.func164, Tryz.ntmps164
  go_wp2_with fail
  refine HT.out.mono ?_
  rintro e w1 ⟨n, rfl, rfl⟩
  go_wp2
  go_ret
  exact ⟨rfl, below_drewN (below_alloc (Below.refl _ _) _) _⟩

set_option maxRecDepth 100000 in
set_option maxHeartbeats 400000 in
theorem fits_9 (w : World) (v : Value) (o : List Int) (hv : Ints w v o) (hl : o.length ≤ 1000000) :
    Calls Tryz.prog 164 #[.agg #[v], .int .i64 9] w fun e w' => e = .returned (.bool (fitB o 9)) ∧ Below w.heap.size w w' := by
  have HT := Lib.hid (top_any (w.alloc (.cells #[v] 172)) w.heap.size v o (by rw [whole_cell (whole_new w _ _) 0]; rfl) (ints_below hv (below_alloc (Below.refl _ _) _)) hl)
  obtain ⟨_, A, c, rfl, _⟩ := hv
  have E : Hid (fitB o 9 = (topO o == 8)) := Lib.hid rfl
  rw [E.out]
  clear E
  generalize topO o = t at *
  go_enter Tryz.func164, Tryz.ntmps164
  go_wp2_with fail
  refine HT.out.mono ?_
  rintro e w1 ⟨n, rfl, rfl⟩
  go_wp2
  go_ret
  exact ⟨rfl, below_drewN (below_alloc (Below.refl _ _) _) _⟩

set_option maxRecDepth 100000 in
set_option maxHeartbeats 400000 in
theorem fits_10 (w : World) (v : Value) (o : List Int) (hv : Ints w v o) (hl : o.length ≤ 1000000) :
    Calls Tryz.prog 164 #[.agg #[v], .int .i64 10] w fun e w' => e = .returned (.bool (fitB o 10)) ∧ Below w.heap.size w w' := by
  have HT := Lib.hid (top_any (w.alloc (.cells #[v] 172)) w.heap.size v o (by rw [whole_cell (whole_new w _ _) 0]; rfl) (ints_below hv (below_alloc (Below.refl _ _) _)) hl)
  obtain ⟨_, A, c, rfl, _⟩ := hv
  have E : Hid (fitB o 10 = decide (o.length < 8)) := Lib.hid rfl
  rw [E.out]
  clear E
  generalize topO o = t at *
  go_enter Tryz.func164, Tryz.ntmps164
  go_wp2_with fail
  refine HT.out.mono ?_
  rintro e w1 ⟨n, rfl, rfl⟩
  go_wp2
  go_ret
  exact ⟨ret_bool (by simp only [decide_eq_decide]; omega), below_drewN (below_alloc (Below.refl _ _) _) _⟩

set_option maxRecDepth 100000 in
set_option maxHeartbeats 400000 in
theorem fits_11 (w : World) (v : Value) (o : List Int) (hv : Ints w v o) (hl : o.length ≤ 1000000) :
    Calls Tryz.prog 164 #[.agg #[v], .int .i64 11] w fun e w' => e = .returned (.bool (fitB o 11)) ∧ Below w.heap.size w w' := by
  have HT := Lib.hid (top_any (w.alloc (.cells #[v] 172)) w.heap.size v o (by rw [whole_cell (whole_new w _ _) 0]; rfl) (ints_below hv (below_alloc (Below.refl _ _) _)) hl)
  obtain ⟨_, A, c, rfl, _⟩ := hv
  have E : Hid (fitB o 11 = (topO o == 10)) := Lib.hid rfl
  rw [E.out]
  clear E
  generalize topO o = t at *
  go_enter Tryz.func164, Tryz.ntmps164
  go_wp2_with fail
  refine HT.out.mono ?_
  rintro e w1 ⟨n, rfl, rfl⟩
  go_wp2
  go_ret
  exact ⟨rfl, below_drewN (below_alloc (Below.refl _ _) _) _⟩

set_option maxRecDepth 100000 in
set_option maxHeartbeats 400000 in
theorem fits_12 (w : World) (v : Value) (o : List Int) (hv : Ints w v o) (hl : o.length ≤ 1000000) :
    Calls Tryz.prog 164 #[.agg #[v], .int .i64 12] w fun e w' => e = .returned (.bool (fitB o 12)) ∧ Below w.heap.size w w' := by
  have HT := Lib.hid (top_any (w.alloc (.cells #[v] 172)) w.heap.size v o (by rw [whole_cell (whole_new w _ _) 0]; rfl) (ints_below hv (below_alloc (Below.refl _ _) _)) hl)
  obtain ⟨_, A, c, rfl, _⟩ := hv
  have E : Hid (fitB o 12 = (topO o == 10)) := Lib.hid rfl
  rw [E.out]
  clear E
  generalize topO o = t at *
  go_enter Tryz.func164, Tryz.ntmps164
  go_wp2_with fail
  refine HT.out.mono ?_
  rintro e w1 ⟨n, rfl, rfl⟩
  go_wp2
  go_ret
  exact ⟨rfl, below_drewN (below_alloc (Below.refl _ _) _) _⟩

set_option maxRecDepth 100000 in
set_option maxHeartbeats 400000 in
theorem fits_13 (w : World) (v : Value) (o : List Int) (hv : Ints w v o) (hl : o.length ≤ 1000000) :
    Calls Tryz.prog 164 #[.agg #[v], .int .i64 13] w fun e w' => e = .returned (.bool (fitB o 13)) ∧ Below w.heap.size w w' := by
  have HT := Lib.hid (top_any (w.alloc (.cells #[v] 172)) w.heap.size v o (by rw [whole_cell (whole_new w _ _) 0]; rfl) (ints_below hv (below_alloc (Below.refl _ _) _)) hl)
  obtain ⟨_, A, c, rfl, _⟩ := hv
  have E : Hid (fitB o 13 = true) := Lib.hid rfl
  rw [E.out]
  clear E
  generalize topO o = t at *
  go_enter Tryz.func164, Tryz.ntmps164
  go_wp2_with fail
  refine HT.out.mono ?_
  rintro e w1 ⟨n, rfl, rfl⟩
  go_wp2
  go_ret
  exact ⟨rfl, below_drewN (below_alloc (Below.refl _ _) _) _⟩

theorem fits_any (w : World) (v : Value) (o : List Int) (k : Int) (hv : Ints w v o) (hl : o.length ≤ 1000000) (hk : 1 ≤ k ∧ k ≤ 13) :
    Calls Tryz.prog 164 #[.agg #[v], .int .i64 k] w fun e w' => e = .returned (.bool (fitB o k)) ∧ Below w.heap.size w w' := by
  rcases (by omega : k = 1 ∨ k = 2 ∨ k = 3 ∨ k = 4 ∨ k = 5 ∨ k = 6 ∨ k = 7 ∨ k = 8 ∨ k = 9 ∨ k = 10 ∨ k = 11 ∨ k = 12 ∨ k = 13) with rfl | rfl | rfl | rfl | rfl | rfl | rfl | rfl | rfl | rfl | rfl | rfl | rfl
  · exact fits_1 w v o hv hl
  · exact fits_2 w v o hv hl
  · exact fits_3 w v o hv hl
  · exact fits_4 w v o hv hl
  · exact fits_5 w v o hv hl
  · exact fits_6 w v o hv hl
  · exact fits_7 w v o hv hl
  · exact fits_8 w v o hv hl
  · exact fits_9 w v o hv hl
  · exact fits_10 w v o hv hl
  · exact fits_11 w v o hv hl
  · exact fits_12 w v o hv hl
  · exact fits_13 w v o hv hl

set_option maxRecDepth 100000 in
set_option maxHeartbeats 400000 in
theorem follow_1 (w : World) (lo G : Nat) (v : Value) (o : List Int) (h : MkAt w lo G v o) (hl : o.length ≤ 1000000) :
    Calls Tryz.prog 165 #[.pointer (some ⟨G, 0, none⟩), .int .i64 1] w (PushedOf w lo G (nextO o 1)) := by
  have E : Hid (nextO o 1 = o) := Lib.hid rfl
  rw [E.out]
  have H := Lib.hid h
  have hlo := mkAt_lo h
  clear h
  go_enter Tryz.func165, Tryz.ntmps165
  go_wp2
  go_end0
  exact ⟨rfl, ⟨v, H.out⟩, Below.refl _ _⟩

set_option maxRecDepth 100000 in
set_option maxHeartbeats 400000 in
theorem follow_2 (w : World) (lo G : Nat) (v : Value) (o : List Int) (h : MkAt w lo G v o) (hl : o.length ≤ 1000000) :
    Calls Tryz.prog 165 #[.pointer (some ⟨G, 0, none⟩), .int .i64 2] w (PushedOf w lo G (nextO o 2)) := by
  have E : Hid (nextO o 2 = o) := Lib.hid rfl
  rw [E.out]
  have H := Lib.hid h
  have hlo := mkAt_lo h
  clear h
  go_enter Tryz.func165, Tryz.ntmps165
  go_wp2
  go_end0
  exact ⟨rfl, ⟨v, H.out⟩, Below.refl _ _⟩

set_option maxRecDepth 100000 in
set_option maxHeartbeats 400000 in
theorem follow_3 (w : World) (lo G : Nat) (v : Value) (o : List Int) (h : MkAt w lo G v o) (hl : o.length ≤ 1000000) :
    Calls Tryz.prog 165 #[.pointer (some ⟨G, 0, none⟩), .int .i64 3] w (PushedOf w lo G (nextO o 3)) := by
  have E : Hid (nextO o 3 = o ++ [3]) := Lib.hid rfl
  rw [E.out]
  have H := Lib.hid h
  have hlo := mkAt_lo h
  clear h
  go_enter Tryz.func165, Tryz.ntmps165
  go_wp2_with fail
  refine (push_any w lo G v o 3 H.out hl).mono ?_
  rintro e w1 ⟨rfl, hm, hb⟩
  go_wp2
  go_end0
  exact ⟨rfl, hm, hb⟩

set_option maxRecDepth 100000 in
set_option maxHeartbeats 400000 in
theorem follow_4 (w : World) (lo G : Nat) (v : Value) (o : List Int) (h : MkAt w lo G v o) (hl : o.length ≤ 1000000) :
    Calls Tryz.prog 165 #[.pointer (some ⟨G, 0, none⟩), .int .i64 4] w (PushedOf w lo G (nextO o 4)) := by
  have E : Hid (nextO o 4 = o.dropLast ++ [4]) := Lib.hid rfl
  rw [E.out]
  have H := Lib.hid h
  have hlo := mkAt_lo h
  clear h
  go_enter Tryz.func165, Tryz.ntmps165
  go_wp2_with fail
  refine (pop_any w lo G v o H.out hl).mono ?_
  rintro e w1 ⟨rfl, ⟨v1, hm⟩, hb⟩
  have M := Lib.hid hm
  have B := Lib.hid hb
  clear hm hb
  go_wp2_with fail
  refine (push_any w1 lo G v1 o.dropLast 4 M.out (by rw [List.length_dropLast]; omega)).mono ?_
  rintro e w2 ⟨rfl, hm, hb⟩
  go_wp2
  go_end0
  exact ⟨rfl, hm, B.out.trans hb⟩

set_option maxRecDepth 100000 in
set_option maxHeartbeats 400000 in
theorem follow_5 (w : World) (lo G : Nat) (v : Value) (o : List Int) (h : MkAt w lo G v o) (hl : o.length ≤ 1000000) :
    Calls Tryz.prog 165 #[.pointer (some ⟨G, 0, none⟩), .int .i64 5] w (PushedOf w lo G (nextO o 5)) := by
  have E : Hid (nextO o 5 = o.dropLast) := Lib.hid rfl
  rw [E.out]
  have H := Lib.hid h
  have hlo := mkAt_lo h
  clear h
  go_enter Tryz.func165, Tryz.ntmps165
  go_wp2_with fail
  refine (pop_any w lo G v o H.out hl).mono ?_
  rintro e w1 ⟨rfl, hm, hb⟩
  go_wp2
  go_end0
  exact ⟨rfl, hm, hb⟩

set_option maxRecDepth 100000 in
set_option maxHeartbeats 400000 in
theorem follow_6 (w : World) (lo G : Nat) (v : Value) (o : List Int) (h : MkAt w lo G v o) (hl : o.length ≤ 1000000) :
    Calls Tryz.prog 165 #[.pointer (some ⟨G, 0, none⟩), .int .i64 6] w (PushedOf w lo G (nextO o 6)) := by
  have E : Hid (nextO o 6 = o ++ [6]) := Lib.hid rfl
  rw [E.out]
  have H := Lib.hid h
  have hlo := mkAt_lo h
  clear h
  go_enter Tryz.func165, Tryz.ntmps165
  go_wp2_with fail
  refine (push_any w lo G v o 6 H.out hl).mono ?_
  rintro e w1 ⟨rfl, hm, hb⟩
  go_wp2
  go_end0
  exact ⟨rfl, hm, hb⟩

set_option maxRecDepth 100000 in
set_option maxHeartbeats 400000 in
theorem follow_7 (w : World) (lo G : Nat) (v : Value) (o : List Int) (h : MkAt w lo G v o) (hl : o.length ≤ 1000000) :
    Calls Tryz.prog 165 #[.pointer (some ⟨G, 0, none⟩), .int .i64 7] w (PushedOf w lo G (nextO o 7)) := by
  have E : Hid (nextO o 7 = o.dropLast) := Lib.hid rfl
  rw [E.out]
  have H := Lib.hid h
  have hlo := mkAt_lo h
  clear h
  go_enter Tryz.func165, Tryz.ntmps165
  go_wp2_with fail
  refine (pop_any w lo G v o H.out hl).mono ?_
  rintro e w1 ⟨rfl, hm, hb⟩
  go_wp2
  go_end0
  exact ⟨rfl, hm, hb⟩

set_option maxRecDepth 100000 in
set_option maxHeartbeats 400000 in
theorem follow_8 (w : World) (lo G : Nat) (v : Value) (o : List Int) (h : MkAt w lo G v o) (hl : o.length ≤ 1000000) :
    Calls Tryz.prog 165 #[.pointer (some ⟨G, 0, none⟩), .int .i64 8] w (PushedOf w lo G (nextO o 8)) := by
  have E : Hid (nextO o 8 = o.dropLast ++ [8]) := Lib.hid rfl
  rw [E.out]
  have H := Lib.hid h
  have hlo := mkAt_lo h
  clear h
  go_enter Tryz.func165, Tryz.ntmps165
  go_wp2_with fail
  refine (pop_any w lo G v o H.out hl).mono ?_
  rintro e w1 ⟨rfl, ⟨v1, hm⟩, hb⟩
  have M := Lib.hid hm
  have B := Lib.hid hb
  clear hm hb
  go_wp2_with fail
  refine (push_any w1 lo G v1 o.dropLast 8 M.out (by rw [List.length_dropLast]; omega)).mono ?_
  rintro e w2 ⟨rfl, hm, hb⟩
  go_wp2
  go_end0
  exact ⟨rfl, hm, B.out.trans hb⟩

set_option maxRecDepth 100000 in
set_option maxHeartbeats 400000 in
theorem follow_9 (w : World) (lo G : Nat) (v : Value) (o : List Int) (h : MkAt w lo G v o) (hl : o.length ≤ 1000000) :
    Calls Tryz.prog 165 #[.pointer (some ⟨G, 0, none⟩), .int .i64 9] w (PushedOf w lo G (nextO o 9)) := by
  have E : Hid (nextO o 9 = o.dropLast) := Lib.hid rfl
  rw [E.out]
  have H := Lib.hid h
  have hlo := mkAt_lo h
  clear h
  go_enter Tryz.func165, Tryz.ntmps165
  go_wp2_with fail
  refine (pop_any w lo G v o H.out hl).mono ?_
  rintro e w1 ⟨rfl, hm, hb⟩
  go_wp2
  go_end0
  exact ⟨rfl, hm, hb⟩

set_option maxRecDepth 100000 in
set_option maxHeartbeats 400000 in
theorem follow_10 (w : World) (lo G : Nat) (v : Value) (o : List Int) (h : MkAt w lo G v o) (hl : o.length ≤ 1000000) :
    Calls Tryz.prog 165 #[.pointer (some ⟨G, 0, none⟩), .int .i64 10] w (PushedOf w lo G (nextO o 10)) := by
  have E : Hid (nextO o 10 = o ++ [10]) := Lib.hid rfl
  rw [E.out]
  have H := Lib.hid h
  have hlo := mkAt_lo h
  clear h
  go_enter Tryz.func165, Tryz.ntmps165
  go_wp2_with fail
  refine (push_any w lo G v o 10 H.out hl).mono ?_
  rintro e w1 ⟨rfl, hm, hb⟩
  go_wp2
  go_end0
  exact ⟨rfl, hm, hb⟩

set_option maxRecDepth 100000 in
set_option maxHeartbeats 400000 in
theorem follow_11 (w : World) (lo G : Nat) (v : Value) (o : List Int) (h : MkAt w lo G v o) (hl : o.length ≤ 1000000) :
    Calls Tryz.prog 165 #[.pointer (some ⟨G, 0, none⟩), .int .i64 11] w (PushedOf w lo G (nextO o 11)) := by
  have E : Hid (nextO o 11 = o.dropLast) := Lib.hid rfl
  rw [E.out]
  have H := Lib.hid h
  have hlo := mkAt_lo h
  clear h
  go_enter Tryz.func165, Tryz.ntmps165
  go_wp2_with fail
  refine (pop_any w lo G v o H.out hl).mono ?_
  rintro e w1 ⟨rfl, hm, hb⟩
  go_wp2
  go_end0
  exact ⟨rfl, hm, hb⟩

set_option maxRecDepth 100000 in
set_option maxHeartbeats 400000 in
theorem follow_12 (w : World) (lo G : Nat) (v : Value) (o : List Int) (h : MkAt w lo G v o) (hl : o.length ≤ 1000000) :
    Calls Tryz.prog 165 #[.pointer (some ⟨G, 0, none⟩), .int .i64 12] w (PushedOf w lo G (nextO o 12)) := by
  have E : Hid (nextO o 12 = o.dropLast) := Lib.hid rfl
  rw [E.out]
  have H := Lib.hid h
  have hlo := mkAt_lo h
  clear h
  go_enter Tryz.func165, Tryz.ntmps165
  go_wp2_with fail
  refine (pop_any w lo G v o H.out hl).mono ?_
  rintro e w1 ⟨rfl, hm, hb⟩
  go_wp2
  go_end0
  exact ⟨rfl, hm, hb⟩

set_option maxRecDepth 100000 in
set_option maxHeartbeats 400000 in
theorem follow_13 (w : World) (lo G : Nat) (v : Value) (o : List Int) (h : MkAt w lo G v o) (hl : o.length ≤ 1000000) :
    Calls Tryz.prog 165 #[.pointer (some ⟨G, 0, none⟩), .int .i64 13] w (PushedOf w lo G (nextO o 13)) := by
  have E : Hid (nextO o 13 = o) := Lib.hid rfl
  rw [E.out]
  have H := Lib.hid h
  have hlo := mkAt_lo h
  clear h
  go_enter Tryz.func165, Tryz.ntmps165
  go_wp2
  go_end0
  exact ⟨rfl, ⟨v, H.out⟩, Below.refl _ _⟩

theorem follow_any (w : World) (lo G : Nat) (v : Value) (o : List Int) (k : Int) (h : MkAt w lo G v o) (hl : o.length ≤ 1000000) (hk : 1 ≤ k ∧ k ≤ 13) :
    Calls Tryz.prog 165 #[.pointer (some ⟨G, 0, none⟩), .int .i64 k] w (PushedOf w lo G (nextO o k)) := by
  rcases (by omega : k = 1 ∨ k = 2 ∨ k = 3 ∨ k = 4 ∨ k = 5 ∨ k = 6 ∨ k = 7 ∨ k = 8 ∨ k = 9 ∨ k = 10 ∨ k = 11 ∨ k = 12 ∨ k = 13) with rfl | rfl | rfl | rfl | rfl | rfl | rfl | rfl | rfl | rfl | rfl | rfl | rfl
  · exact follow_1 w lo G v o h hl
  · exact follow_2 w lo G v o h hl
  · exact follow_3 w lo G v o h hl
  · exact follow_4 w lo G v o h hl
  · exact follow_5 w lo G v o h hl
  · exact follow_6 w lo G v o h hl
  · exact follow_7 w lo G v o h hl
  · exact follow_8 w lo G v o h hl
  · exact follow_9 w lo G v o h hl
  · exact follow_10 w lo G v o h hl
  · exact follow_11 w lo G v o h hl
  · exact follow_12 w lo G v o h hl
  · exact follow_13 w lo G v o h hl

end Go.Proofs.YthnbaeamekolmaaGreatDoor
