/- What impl.TwoCells and spec.TwoCells give: contracts of both and of all that they call. -/
import Derived.Test.YtfiildimochcgaaCellsA
namespace Go.Proofs.Ytfiildimochcgaa
open Go.RowKit
set_option linter.unusedVariables false
set_option linter.unusedSimpArgs false

theorem tdiv_wrap (a b : Int) (ha : -2147483648 ≤ a ∧ a ≤ 2147483647) : wrap64 (a.tdiv b) = a.tdiv b :=
  IntWalk.wrap64_in _ (by have := tdiv_bd a b ha; omega)

theorem tdiv_wrap1 (a b : Int) (ha : -2147483648 ≤ a ∧ a ≤ 2147483647) : wrap64 (wrap64 (a.tdiv b) - 1) = a.tdiv b - 1 := by
  rw [tdiv_wrap a b ha]; exact IntWalk.wrap64_in _ (by have := tdiv_bd a b ha; omega)

theorem tmod_sg (a b : Int) (h : a.tmod b ≠ 0) : (a.tmod b < 0 ↔ a < 0) := by
  have := tmod_sign a b; omega

set_option maxHeartbeats 400000 in
theorem floor_any (a b : Int) (w : World) (ha : -2147483648 ≤ a) (ha' : a ≤ 2147483647) (hb0 : ¬ b = 0) :
    Calls Try.prog 45 #[.int .i64 a, .int .i64 b] w fun e w' => e = .returned (.int .i64 (flq a b)) ∧ w = w' := by
  have q1 : a.tmod b = 0 → wrap64 (a.tdiv b) = flq a b := fun h => by rw [tdiv_wrap a b ⟨ha, ha'⟩]; simp [flq, h]
  have q2 : a.tmod b ≠ 0 → (!decide (a < 0) == decide (b < 0)) = true → wrap64 (wrap64 (a.tdiv b) - 1) = flq a b := fun h h' => by
    rw [tdiv_wrap1 a b ⟨ha, ha'⟩]; unfold flq; rw [if_pos ⟨h, by simpa using h'⟩]
  have q3 : (!decide (a < 0) == decide (b < 0)) = false → wrap64 (a.tdiv b) = flq a b := fun h => by
    rw [tdiv_wrap a b ⟨ha, ha'⟩]; unfold flq; rw [if_neg (by rintro ⟨_, h'⟩; apply h'; simpa using h)]
  have Q1 := Lib.hid q1
  have Q2 := Lib.hid q2
  have Q3 := Lib.hid q3
  clear q1 q2 q3
  go_enter Try.func45, Try.ntmps45
  go_wp2
  · go_ret
    exact ⟨ret_int (Q1.out ‹_›), rfl⟩
  · rename_i h0 h1
    go_ret
    exact ⟨ret_int (Q2.out h0 h1.2), rfl⟩
  · rename_i h0 h1
    go_ret
    refine ⟨ret_int ?_, rfl⟩
    rcases h1 with h1 | h1
    · simp [h0] at h1
    · exact Q3.out h1

set_option maxHeartbeats 400000 in
theorem down_any (a b : Int) (w : World) (ha : -2147483648 ≤ a) (ha' : a ≤ 2147483647) (hb1 : -2147483648 ≤ b) (hb' : b ≤ 2147483647) (hb0 : ¬ b = 0) :
    Calls Try.prog 43 #[.int .i64 a, .int .i64 b] w fun e w' => e = .returned (.tuple #[.int .i64 (flq a b), .int .i64 (flr a b)]) ∧ ∃ n, w' = w.drewN n := by
  have qs : a.tmod b ≠ 0 → ((!decide (a.tmod b < 0) == decide (b < 0)) = true ↔ (a < 0) ≠ (b < 0)) := fun h => by
    have := tmod_sg a b h; simp [this]
  have qb := tmod_bd a b hb0
  have q1 : a.tmod b = 0 → wrap64 (a.tdiv b) = flq a b ∧ 0 = flr a b := fun h => by rw [tdiv_wrap a b ⟨ha, ha'⟩]; simp [flq, flr, h]
  have q2 : a.tmod b ≠ 0 → (!decide (a.tmod b < 0) == decide (b < 0)) = true → wrap64 (wrap64 (a.tdiv b) - 1) = flq a b ∧ wrap64 (a.tmod b + b) = flr a b := fun h h' => by
    have h2 := (qs h).1 h'
    rw [tdiv_wrap1 a b ⟨ha, ha'⟩, IntWalk.wrap64_in _ (by omega)]; unfold flq flr; rw [if_pos ⟨h, h2⟩, if_pos ⟨h, h2⟩]; exact ⟨rfl, rfl⟩
  have q3 : a.tmod b ≠ 0 → (!decide (a.tmod b < 0) == decide (b < 0)) = false → wrap64 (a.tdiv b) = flq a b ∧ a.tmod b = flr a b := fun h h' => by
    have h2 : ¬ ((a < 0) ≠ (b < 0)) := fun h3 => by rw [(qs h).2 h3] at h'; cases h'
    rw [tdiv_wrap a b ⟨ha, ha'⟩]; unfold flq flr; rw [if_neg (fun h4 => h2 h4.2), if_neg (fun h4 => h2 h4.2)]; exact ⟨rfl, rfl⟩
  have Q1 := Lib.hid q1
  have Q2 := Lib.hid q2
  have Q3 := Lib.hid q3
  clear q1 q2 q3 qs qb
  go_enter Try.func43, Try.ntmps43
  go_wp2
  go_quiet (fail)
  go_wp2
  · rename_i h0
    go_ret2
    exact ⟨ret_ii (Q1.out h0).1 (Q1.out h0).2, _, rfl⟩
  · rename_i h0 h1
    go_ret2
    exact ⟨ret_ii (Q2.out h0 h1.2).1 (Q2.out h0 h1.2).2, _, rfl⟩
  · rename_i h0 h1
    have h2 : (!decide (a.tmod b < 0) == decide (b < 0)) = false := by
      rcases h1 with h1 | h1
      · simp [h0] at h1
      · exact h1
    go_ret2
    exact ⟨ret_ii (Q3.out h0 h2).1 (Q3.out h0 h2).2, _, rfl⟩

set_option maxHeartbeats 400000 in
theorem shift_out (op a b : Int) (w : World) (hb : b < 0 ∨ 31 < b) :
    Calls Try.prog 44 #[.int .i64 op, .int .i64 a, .int .i64 b] w fun e w' => e = .returned (.int .i64 0) ∧ w = w' := by
  rcases hb with hb | hb
  all_goals
    go_enter Try.func44, Try.ntmps44
    go_wp2
    go_ret
    exact ⟨ret_int rfl, rfl⟩

set_option maxHeartbeats 400000 in
theorem shift_left (a b : Int) (w : World) (hb : 0 ≤ b) (hb' : b ≤ 31) :
    Calls Try.prog 44 #[.int .i64 9, .int .i64 a, .int .i64 b] w fun e w' => e = .returned (.int .i64 (wrap32 (a % 4294967296 * 2 ^ b.toNat % 4294967296))) ∧ w = w' := by
  go_enter Try.func44, Try.ntmps44
  go_wp2_with fail
  refine (lowU_any _ _).mono ?_
  rintro e w' ⟨rfl, rfl⟩
  go_wp2
  go_ret
  exact ⟨ret_int rfl, rfl⟩

set_option maxHeartbeats 400000 in
theorem shift_right (a b : Int) (w : World) (hb : 0 ≤ b) (hb' : b ≤ 31) :
    Calls Try.prog 44 #[.int .i64 10, .int .i64 a, .int .i64 b] w fun e w' => e = .returned (.int .i64 (wrap32 (a % 4294967296 / 2 ^ b.toNat))) ∧ w = w' := by
  go_enter Try.func44, Try.ntmps44
  go_wp2_with fail
  refine (lowU_any _ _).mono ?_
  rintro e w' ⟨rfl, rfl⟩
  go_wp2
  go_ret
  exact ⟨ret_int rfl, rfl⟩

set_option maxHeartbeats 400000 in
theorem comb_any (op a b : Int) (w : World) (ho : 1 ≤ op) (ho' : op ≤ 10) (ha : -2147483648 ≤ a) (ha' : a ≤ 2147483647) (hb : -2147483648 ≤ b) (hb' : b ≤ 2147483647) (hd : (op = 4 ∨ op = 5) → ¬ b = 0) :
    Calls Try.prog 25 #[.int .i64 op, .int .i64 a, .int .i64 b] w fun e w' => e = .returned (.int .i64 (twoW op a b)) ∧ ∃ n, w' = w.drewN n := by
  have cs : op = 1 ∨ op = 2 ∨ op = 3 ∨ op = 4 ∨ op = 5 ∨ op = 6 ∨ op = 7 ∨ op = 8 ∨ op = 9 ∨ op = 10 := by omega
  rcases cs with rfl | rfl | rfl | rfl | rfl | rfl | rfl | rfl | rfl | rfl
  · clear hd
    go_enter Try.func25, Try.ntmps25
    go_wp2_with fail
    refine (lowInt_any _ _).mono ?_
    rintro e w' ⟨rfl, rfl⟩
    go_wp2
    go_ret
    exact ⟨ret_int (by simp [twoW]), 0, rfl⟩
  · clear hd
    go_enter Try.func25, Try.ntmps25
    go_wp2_with fail
    refine (lowInt_any _ _).mono ?_
    rintro e w' ⟨rfl, rfl⟩
    go_wp2
    go_ret
    exact ⟨ret_int (by simp [twoW]), 0, rfl⟩
  · clear hd
    go_enter Try.func25, Try.ntmps25
    go_wp2_with fail
    refine (lowInt_any _ _).mono ?_
    rintro e w' ⟨rfl, rfl⟩
    go_wp2
    go_ret
    exact ⟨ret_int (by simp [twoW, wrap32_wrap64]), 0, rfl⟩
  · have h0 : ¬ b = 0 := hd (by omega)
    clear hd
    go_enter Try.func25, Try.ntmps25
    go_wp2_with fail
    refine (down_any _ _ _ ha ha' hb hb' h0).mono ?_
    rintro e w' ⟨rfl, n, rfl⟩
    go_wp2_with fail
    refine (lowInt_any _ _).mono ?_
    rintro e w' ⟨rfl, rfl⟩
    go_wp2
    go_ret
    exact ⟨ret_int (by simp [twoW, h0]), n, rfl⟩
  · have h0 : ¬ b = 0 := hd (by omega)
    clear hd
    go_enter Try.func25, Try.ntmps25
    go_wp2_with fail
    refine (down_any _ _ _ ha ha' hb hb' h0).mono ?_
    rintro e w' ⟨rfl, n, rfl⟩
    go_wp2
    go_ret
    exact ⟨ret_int (by simp [twoW, h0]), n, rfl⟩
  iterate 3
    · clear hd
      go_enter Try.func25, Try.ntmps25
      go_wp2
      go_ret
      exact ⟨ret_int (by simp [twoW]), 0, rfl⟩
  · clear hd
    by_cases h : b < 0 ∨ 31 < b
    · go_enter Try.func25, Try.ntmps25
      go_wp2_with fail
      refine (shift_out _ _ _ _ h).mono ?_
      rintro e w' ⟨rfl, rfl⟩
      go_wp2
      go_ret
      exact ⟨ret_int (by simp [twoW, h]), 0, rfl⟩
    · go_enter Try.func25, Try.ntmps25
      go_wp2_with fail
      refine (shift_left _ _ _ (by omega) (by omega)).mono ?_
      rintro e w' ⟨rfl, rfl⟩
      go_wp2
      go_ret
      exact ⟨ret_int (by simp [twoW, h]), 0, rfl⟩
  · clear hd
    by_cases h : b < 0 ∨ 31 < b
    · go_enter Try.func25, Try.ntmps25
      go_wp2_with fail
      refine (shift_out _ _ _ _ h).mono ?_
      rintro e w' ⟨rfl, rfl⟩
      go_wp2
      go_ret
      exact ⟨ret_int (by simp [twoW, h]), 0, rfl⟩
    · go_enter Try.func25, Try.ntmps25
      go_wp2_with fail
      refine (shift_right _ _ _ (by omega) (by omega)).mono ?_
      rintro e w' ⟨rfl, rfl⟩
      go_wp2
      go_ret
      exact ⟨ret_int (by simp [twoW, h]), 0, rfl⟩

/-- What the draws of a reckoning leave of the world. -/
theorem two_eq {op a b : Int} : Ending.returned (.tuple #[.int .i64 (twoV op a b), .bool (twoF op a b), .int .i64 (twoC op a b)]) = .returned (.tuple #[.int .i64 (twoV op a b), .bool (twoF op a b), .int .i64 (twoC op a b)]) := rfl

/-- Is the division, if it is one, by another number than 0? -/
def twoR (op b : Int) : Bool := decide (¬ ((op = 4 ∨ op = 5) ∧ b = 0))

theorem two_kind {op a b : Int} (h : op < 1 ∨ 10 < op) : twoC op a b = 9 ∧ twoF op a b = false ∧ twoV op a b = 0 := by
  have hc : twoC op a b = 9 := by unfold twoC; rw [if_pos h]
  refine ⟨hc, ?_, ?_⟩
  · unfold twoF; rw [hc]; simp
  · unfold twoV; rw [hc]; simp

theorem two_range {op a b : Int} (h : ¬ (op < 1 ∨ 10 < op)) (h' : cellB a = false ∨ cellB b = false) : twoC op a b = 4 ∧ twoF op a b = false ∧ twoV op a b = 0 := by
  have hc : twoC op a b = 4 := by unfold twoC; rw [if_neg h]; rcases h' with h' | h' <;> simp [h']
  refine ⟨hc, ?_, ?_⟩
  · unfold twoF; rw [hc]; simp
  · unfold twoV; rw [hc]; simp

theorem two_ok {op a b : Int} (h : ¬ (op < 1 ∨ 10 < op)) (ha : cellB a = true) (hb : cellB b = true) : twoC op a b = 0 ∧ twoF op a b = twoR op b ∧ twoV op a b = twoW op a b := by
  have hc : twoC op a b = 0 := by unfold twoC; rw [if_neg h]; simp [ha, hb]
  refine ⟨hc, ?_, ?_⟩
  · unfold twoF twoR; rw [hc]; simp
  · unfold twoV; rw [hc]; simp

theorem twoW_zero {op b : Int} (a : Int) (h : op = 4 ∨ op = 5) (hb : b = 0) : twoW op a b = 0 := by
  rcases h with rfl | rfl <;> simp [twoW, hb]

set_option maxHeartbeats 1000000 in
theorem two_any (op a b : Int) (w : World) :
    Calls Try.prog 11 #[.int .i64 op, .int .i64 a, .int .i64 b] w fun e w' => e = .returned (.tuple #[.int .i64 (twoV op a b), .bool (twoF op a b), .int .i64 (twoC op a b)]) ∧ ∃ n, w' = w.drewN n := by
  by_cases ho : op < 1 ∨ 10 < op
  · have E := Lib.hid (two_kind (a := a) (b := b) ho)
    rcases ho with ho | ho
    all_goals
      go_enter Try.func11, Try.ntmps11
      go_wp2
      go_ret3
      exact ⟨ret_ibi E.out.2.2.symm E.out.2.1.symm E.out.1.symm, 0, rfl⟩
  · have ho1 : 1 ≤ op := by omega
    have ho2 : op ≤ 10 := by omega
    cases ha : cellB a
    · have E := Lib.hid (two_range (a := a) (b := b) ho (.inl ha))
      clear ho
      go_enter Try.func11, Try.ntmps11
      go_wp2_with (go_at_call 13; refine (cellOK_any _ _).mono ?_; rintro e w' ⟨rfl, rfl⟩)
      go_ret3
      exact ⟨ret_ibi E.out.2.2.symm E.out.2.1.symm E.out.1.symm, 0, rfl⟩
    · cases hb : cellB b
      · have E := Lib.hid (two_range (a := a) (b := b) ho (.inr hb))
        clear ho
        go_enter Try.func11, Try.ntmps11
        go_wp2_with (go_at_call 13; refine (cellOK_any _ _).mono ?_; rintro e w' ⟨rfl, rfl⟩)
        go_ret3
        exact ⟨ret_ibi E.out.2.2.symm E.out.2.1.symm E.out.1.symm, 0, rfl⟩
      · have E := Lib.hid (two_ok ho ha hb)
        have ba := cellB_true.1 ha
        have bb := cellB_true.1 hb
        obtain ⟨a1, a2⟩ := ba
        obtain ⟨b1, b2⟩ := bb
        clear ho
        by_cases hd : (op = 4 ∨ op = 5) ∧ b = 0
        · have E2 := Lib.hid (twoW_zero a hd.1 hd.2)
          have hd' := Lib.hid hd
          obtain ⟨hd1, hd2⟩ := hd
          subst hd2
          rcases hd1 with rfl | rfl
          all_goals
            go_enter Try.func11, Try.ntmps11
            go_wp2_with (go_at_call 13; refine (cellOK_any _ _).mono ?_; rintro e w' ⟨rfl, rfl⟩)
            go_ret3
            exact ⟨ret_ibi (by rw [E.out.2.2, E2.out]) (by rw [E.out.2.1]; simp [twoR]) E.out.1.symm, 0, rfl⟩
        · have hd' := Lib.hid hd
          have F : Hid (twoF op a b = true) := Lib.hid (by rw [E.out.2.1]; unfold twoR; exact decide_eq_true hd)
          by_cases h0 : b = 0
          · have n4 : ¬ op = 4 := fun h => hd ⟨.inl h, h0⟩
            have n5 : ¬ op = 5 := fun h => hd ⟨.inr h, h0⟩
            have m4 : (op == 4) = false := by simpa using n4
            have m5 : (op == 5) = false := by simpa using n5
            clear hd
            subst h0
            go_enter Try.func11, Try.ntmps11
            go_wp2_with (first | (go_at_call 13; refine (cellOK_any _ _).mono ?_; rintro e w' ⟨rfl, rfl⟩) | (go_at_call 25; refine (comb_any _ _ _ _ ho1 ho2 a1 a2 b1 b2 (fun h => absurd h (by omega))).mono ?_; rintro e w' ⟨rfl, n, rfl⟩))
            go_ret3
            exact ⟨ret_ibi E.out.2.2.symm F.out.symm E.out.1.symm, _, rfl⟩
          · clear hd
            have m0 : (b == 0) = false := by simpa using h0
            go_enter Try.func11, Try.ntmps11
            go_wp2_with (first | (go_at_call 13; refine (cellOK_any _ _).mono ?_; rintro e w' ⟨rfl, rfl⟩) | (go_at_call 25; refine (comb_any _ _ _ _ ho1 ho2 a1 a2 b1 b2 (fun _ => h0)).mono ?_; rintro e w' ⟨rfl, n, rfl⟩))
            go_ret3
            exact ⟨ret_ibi E.out.2.2.symm F.out.symm E.out.1.symm, _, rfl⟩

set_option maxHeartbeats 1000000 in
theorem sTwoIn_any (op a b : Int) (w : World) (ho : 1 ≤ op) (ho' : op ≤ 10) (ha : -2147483648 ≤ a) (ha' : a ≤ 2147483647) (hb : -2147483648 ≤ b) (hb' : b ≤ 2147483647) :
    Calls Try.prog 28 #[.int .i64 op, .int .i64 a, .int .i64 b] w fun e w' => e = .returned (.tuple #[.int .i64 (twoW op a b), .bool (twoR op b)]) ∧ w = w' := by
  have cs : op = 1 ∨ op = 2 ∨ op = 3 ∨ op = 4 ∨ op = 5 ∨ op = 6 ∨ op = 7 ∨ op = 8 ∨ op = 9 ∨ op = 10 := by omega
  rcases cs with rfl | rfl | rfl | rfl | rfl | rfl | rfl | rfl | rfl | rfl
  · go_enter Try.func28, Try.ntmps28
    go_wp2_with (go_at_call 30; refine (sWrap_any _ _).mono ?_; rintro e w' ⟨rfl, rfl⟩)
    go_ret2
    exact ⟨ret_ib (by simp [twoW]) (by simp [twoR]), rfl⟩
  · go_enter Try.func28, Try.ntmps28
    go_wp2_with (go_at_call 30; refine (sWrap_any _ _).mono ?_; rintro e w' ⟨rfl, rfl⟩)
    go_ret2
    exact ⟨ret_ib (by simp [twoW]) (by simp [twoR]), rfl⟩
  · go_enter Try.func28, Try.ntmps28
    go_wp2_with (go_at_call 30; refine (sWrap_any _ _).mono ?_; rintro e w' ⟨rfl, rfl⟩)
    go_ret2
    exact ⟨ret_ib (by simp [twoW, wrap32_wrap64]) (by simp [twoR]), rfl⟩
  · by_cases h0 : b = 0
    · subst h0
      go_enter Try.func28, Try.ntmps28
      go_wp2
      go_ret2
      exact ⟨ret_ib (by simp [twoW]) (by simp [twoR]), rfl⟩
    · have m0 : (b == 0) = false := by simpa using h0
      go_enter Try.func28, Try.ntmps28
      go_wp2_with (first | (go_at_call 30; refine (sWrap_any _ _).mono ?_; rintro e w' ⟨rfl, rfl⟩) | (go_at_call 45; refine (floor_any _ _ _ ha ha' h0).mono ?_; rintro e w' ⟨rfl, rfl⟩))
      go_ret2
      exact ⟨ret_ib (by simp [twoW, h0]) (by simp [twoR, h0]), rfl⟩
  · by_cases h0 : b = 0
    · subst h0
      go_enter Try.func28, Try.ntmps28
      go_wp2
      go_ret2
      exact ⟨ret_ib (by simp [twoW]) (by simp [twoR]), rfl⟩
    · have m0 : (b == 0) = false := by simpa using h0
      have fb := flr_bd a b h0 ⟨hb, hb'⟩
      have fq := flr_eq a b
      have e5 : wrap64 (a - wrap64 (flq a b * b)) = twoW 5 a b := by
        have : twoW 5 a b = flr a b := by simp [twoW, h0]
        rw [this, ← fq]
        generalize flq a b * b = x at *
        unfold wrap64
        omega
      have E5 := Lib.hid e5
      clear e5 fq fb
      go_enter Try.func28, Try.ntmps28
      go_wp2_with (first | (go_at_call 30; refine (sWrap_any _ _).mono ?_; rintro e w' ⟨rfl, rfl⟩) | (go_at_call 45; refine (floor_any _ _ _ ha ha' h0).mono ?_; rintro e w' ⟨rfl, rfl⟩))
      go_ret2
      exact ⟨ret_ib E5.out (by simp [twoR, h0]), rfl⟩
  iterate 3
    · go_enter Try.func28, Try.ntmps28
      go_wp2
      go_ret2
      exact ⟨ret_ib (by simp [twoW]) (by simp [twoR]), rfl⟩
  · by_cases h : b < 0 ∨ 31 < b
    · have hi : inB b 0 31 = false := by unfold inB; simp; omega
      go_enter Try.func28, Try.ntmps28
      go_wp2_with (go_at_call 26; refine (sIn_any _ _ _ _).mono ?_; rintro e w' ⟨rfl, rfl⟩)
      go_ret2
      exact ⟨ret_ib (by simp [twoW, h]) (by simp [twoR]), rfl⟩
    · have hi : inB b 0 31 = true := by unfold inB; simp; omega
      have b0 : 0 ≤ b := by omega
      have b1 : b ≤ 31 := by omega
      go_enter Try.func28, Try.ntmps28
      go_wp2_with (go_at_call 26; refine (sIn_any _ _ _ _).mono ?_; rintro e w' ⟨rfl, rfl⟩)
      go_ret2
      exact ⟨ret_ib (by simp [twoW, h, wrap64_wrap32]) (by simp [twoR]), rfl⟩
  · by_cases h : b < 0 ∨ 31 < b
    · have hi : inB b 0 31 = false := by unfold inB; simp; omega
      go_enter Try.func28, Try.ntmps28
      go_wp2_with (go_at_call 26; refine (sIn_any _ _ _ _).mono ?_; rintro e w' ⟨rfl, rfl⟩)
      go_ret2
      exact ⟨ret_ib (by simp [twoW, h]) (by simp [twoR]), rfl⟩
    · have hi : inB b 0 31 = true := by unfold inB; simp; omega
      have b0 : 0 ≤ b := by omega
      have b1 : b ≤ 31 := by omega
      go_enter Try.func28, Try.ntmps28
      go_wp2_with (go_at_call 26; refine (sIn_any _ _ _ _).mono ?_; rintro e w' ⟨rfl, rfl⟩)
      go_ret2
      exact ⟨ret_ib (by simp [twoW, h, wrap64_wrap32]) (by simp [twoR]), rfl⟩

set_option maxHeartbeats 1000000 in
theorem sTwo_any (op a b : Int) (w : World) :
    Calls Try.prog 12 #[.int .i64 op, .int .i64 a, .int .i64 b] w fun e w' => e = .returned (.tuple #[.int .i64 (twoV op a b), .bool (twoF op a b), .int .i64 (twoC op a b)]) ∧ w = w' := by
  by_cases ho : op < 1 ∨ 10 < op
  · have E := Lib.hid (two_kind (a := a) (b := b) ho)
    have hi : inB op 1 10 = false := by unfold inB; simp; omega
    clear ho
    go_enter Try.func12, Try.ntmps12
    go_wp2_with (go_at_call 26; refine (sIn_any _ _ _ _).mono ?_; rintro e w' ⟨rfl, rfl⟩)
    go_ret3
    exact ⟨ret_ibi E.out.2.2.symm E.out.2.1.symm E.out.1.symm, rfl⟩
  · have hi : inB op 1 10 = true := by unfold inB; simp; omega
    have ho1 : 1 ≤ op := by omega
    have ho2 : op ≤ 10 := by omega
    cases ha : cellB a
    · have E := Lib.hid (two_range (a := a) (b := b) ho (.inl ha))
      clear ho
      go_enter Try.func12, Try.ntmps12
      go_wp2_with (first | (go_at_call 26; refine (sIn_any _ _ _ _).mono ?_; rintro e w' ⟨rfl, rfl⟩) | (go_at_call 27; refine (sCell_any _ _).mono ?_; rintro e w' ⟨rfl, rfl⟩))
      go_ret3
      exact ⟨ret_ibi E.out.2.2.symm E.out.2.1.symm E.out.1.symm, rfl⟩
    · cases hb : cellB b
      · have E := Lib.hid (two_range (a := a) (b := b) ho (.inr hb))
        clear ho
        go_enter Try.func12, Try.ntmps12
        go_wp2_with (first | (go_at_call 26; refine (sIn_any _ _ _ _).mono ?_; rintro e w' ⟨rfl, rfl⟩) | (go_at_call 27; refine (sCell_any _ _).mono ?_; rintro e w' ⟨rfl, rfl⟩))
        go_ret3
        exact ⟨ret_ibi E.out.2.2.symm E.out.2.1.symm E.out.1.symm, rfl⟩
      · have E := Lib.hid (two_ok ho ha hb)
        obtain ⟨a1, a2⟩ := cellB_true.1 ha
        obtain ⟨b1, b2⟩ := cellB_true.1 hb
        clear ho
        go_enter Try.func12, Try.ntmps12
        go_wp2_with (first | (go_at_call 26; refine (sIn_any _ _ _ _).mono ?_; rintro e w' ⟨rfl, rfl⟩) | (go_at_call 27; refine (sCell_any _ _).mono ?_; rintro e w' ⟨rfl, rfl⟩) | (go_at_call 28; refine (sTwoIn_any _ _ _ _ ho1 ho2 a1 a2 b1 b2).mono ?_; rintro e w' ⟨rfl, rfl⟩))
        go_ret3
        exact ⟨ret_ibi E.out.2.2.symm E.out.2.1.symm E.out.1.symm, rfl⟩

end Go.Proofs.Ytfiildimochcgaa
