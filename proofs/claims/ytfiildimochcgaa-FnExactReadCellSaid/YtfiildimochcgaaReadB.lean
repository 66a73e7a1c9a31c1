/- What impl.ReadCell and spec.ReadCell give. -/
import Derived.Test.YtfiildimochcgaaReadM
namespace Go.Proofs.Ytfiildimochcgaa
open Go.RowKit
set_option linter.unusedVariables false
set_option linter.unusedSimpArgs false

set_option maxHeartbeats 1000000 in
theorem read_any (s : ByteArray) (base : Int) (w : World) (hs : s.size ≤ maxLen) :
    Calls Try.prog 22 #[.string s, .int .i64 base] w fun e w' => e = .returned (.tuple #[.int .i64 (rcV base s.data.toList), .int .i64 (rcC base s.data.toList)]) ∧ w = w' := by
  have hs' := Lib.hid hs
  unfold maxLen at hs
  by_cases hlong : 65536 < s.size
  · have E := Lib.hid (rc_long (base := base) (l := s.data.toList) (by rw [list_size]; exact hlong))
    go_enter Try.func22, Try.ntmps22
    go_wp2
    go_ret2
    exact ⟨ret_ii E.out.1.symm E.out.2.symm, rfl⟩
  · have HL : Hid (¬ 65536 < s.data.toList.length) := Lib.hid (by rw [list_size]; exact hlong)
    cases hb : inB base 2 16
    · have E := Lib.hid (rc_base (base := base) HL.out hb)
      go_enter Try.func22, Try.ntmps22
      go_wp2_with (go_at_call 37; refine (baseOK_any _ _).mono ?_; rintro e w' ⟨rfl, rfl⟩)
      go_ret2
      exact ⟨ret_ii E.out.1.symm E.out.2.symm, rfl⟩
    · have HB := Lib.hid hb
      have b1 : 2 ≤ base := by unfold inB at hb; simp at hb; omega
      have b2 : base ≤ 16 := by unfold inB at hb; simp at hb; omega
      have hlist := Lib.hid (cutB_list s)
      have hsz := cutB_size s
      have hsm : (cutB s).size ≤ maxLen := by have := hs'.out; omega
      unfold maxLen at hsm
      go_enter Try.func22, Try.ntmps22
      go_wp2_with (first | (go_at_call 37; refine (baseOK_any _ _).mono ?_; rintro e w' ⟨rfl, rfl⟩) | (go_at_call 38; refine (cut_any _ _ hs'.out).mono ?_; rintro e w' ⟨rfl, rfl⟩; generalize cutB s = d at *))
      · have h32 : ¬ (1 ≤ d.size ∧ d.size ≤ 32) := by omega
        have E := Lib.hid (rc_form (base := base) HL.out HB.out (by rw [← hlist.out]; exact readOk_len h32))
        clear h32
        go_ret2
        exact ⟨ret_ii E.out.1.symm E.out.2.symm, rfl⟩
      · have d1 : 1 ≤ d.size := by omega
        have d2 : d.size ≤ 32 := by omega
        clear hb
        go_loop [32, 8] (fun i n => ∃ k : Nat, k ≤ d.size ∧ i = .int .i64 k ∧ n = .int .u32 (sumL base (d.data.toList.take k) % 4294967296) ∧ DigTo base d.data.toList k) (fun i _ => d.size - (intOf i).toNat)
        case atStart => exact ⟨0, Nat.zero_le _, rfl, by simp [sumL_nil], digTo_zero _ _⟩
        case round =>
          obtain ⟨k, hk, rfl, rfl, hok⟩ := hrel
          by_cases hlt : k < d.size
          · have hc : d[k].toNat < 256 := UInt8.toNat_lt _
            have hv0 := digV_bd d[k].toNat
            by_cases hv : 0 ≤ digV d[k].toNat
            · by_cases hvb : digV d[k].toNat < base
              · have O := Lib.hid (digTo_succ hlt hok hv hvb)
                have S := Lib.hid (sumTo_succ (base := base) hlt)
                go_wp2_with (go_at_call 39; refine (digitOf_any _ _ (by omega) (by omega)).mono ?_; rintro e w' ⟨rfl, rfl⟩)
                go_round
                case rel => exact ⟨k + 1, by omega, by go_num, congrArg (Value.int .u32) (by rw [S.out]; simp [Int.add_emod, Int.mul_emod]), O.out⟩
                case measure => simp [intOf]; omega
              · have E := Lib.hid (rc_form (base := base) HL.out HB.out (by rw [← hlist.out]; exact readOk_bad hlt (by omega)))
                go_wp2_with (go_at_call 39; refine (digitOf_any _ _ (by omega) (by omega)).mono ?_; rintro e w' ⟨rfl, rfl⟩)
                go_ret2
                exact ⟨ret_ii E.out.1.symm E.out.2.symm, rfl⟩
            · have E := Lib.hid (rc_form (base := base) HL.out HB.out (by rw [← hlist.out]; exact readOk_bad hlt (by omega)))
              go_wp2_with (go_at_call 39; refine (digitOf_any _ _ (by omega) (by omega)).mono ?_; rintro e w' ⟨rfl, rfl⟩)
              go_ret2
              exact ⟨ret_ii E.out.1.symm E.out.2.symm, rfl⟩
          · obtain rfl : k = d.size := by omega
            have E := Lib.hid (rc_ok (base := base) HL.out HB.out (by rw [← hlist.out]; exact readOk_all d1 d2 hok))
            have T := Lib.hid (sumTo_all (base := base) (s := d))
            cases hm : minL s.data.toList
            · have R : Hid (wrap32 (sumL base (d.data.toList.take d.size) % 4294967296) = rcV base s.data.toList) := Lib.hid (by
                rw [E.out.1]; unfold rdV; rw [if_neg (by rw [hm]; simp), ← hlist.out, T.out, wrap32_mod])
              go_wp2_with (go_at_call 40; refine (lowU_any _ _).mono ?_; rintro e w' ⟨rfl, rfl⟩)
              go_ret2
              exact ⟨ret_ii R.out E.out.2.symm, rfl⟩
            · have R : Hid (wrap32 (-(sumL base (d.data.toList.take d.size) % 4294967296) % 4294967296) = rcV base s.data.toList) := Lib.hid (by
                rw [E.out.1]; unfold rdV; rw [if_pos hm, ← hlist.out, T.out, wrap32_negmod])
              go_wp2_with (go_at_call 40; refine (lowU_any _ _).mono ?_; rintro e w' ⟨rfl, rfl⟩)
              go_ret2
              exact ⟨ret_ii R.out E.out.2.symm, rfl⟩
      · have h32 : ¬ (1 ≤ d.size ∧ d.size ≤ 32) := by omega
        have E := Lib.hid (rc_form (base := base) HL.out HB.out (by rw [← hlist.out]; exact readOk_len h32))
        clear h32
        go_ret2
        exact ⟨ret_ii E.out.1.symm E.out.2.symm, rfl⟩

/-- What spec.l01Read hands back. -/
def srV (base : Int) (l : List UInt8) : Int := if readOk base (stripL l) = true then rdV base l else 0

theorem sr_bad {base : Int} {l : List UInt8} (h : readOk base (stripL l) = false) : srV base l = 0 ∧ readOk base (stripL l) = false :=
  ⟨by unfold srV; rw [h]; rfl, h⟩

theorem sr_ok {base : Int} {l : List UInt8} (h : readOk base (stripL l) = true) : srV base l = rdV base l ∧ readOk base (stripL l) = true :=
  ⟨by unfold srV; rw [if_pos h], h⟩

set_option maxHeartbeats 1000000 in
theorem sReadIn_any (s : ByteArray) (base : Int) (w : World) (hs : s.size ≤ maxLen) (b1 : 2 ≤ base) (b2 : base ≤ 16) :
    Calls Try.prog 36 #[.string s, .int .i64 base] w fun e w' => e = .returned (.tuple #[.int .i64 (srV base s.data.toList), .bool (readOk base (stripL s.data.toList))]) ∧ w = w' := by
  have hs' := Lib.hid hs
  unfold maxLen at hs
  cases hm : minL s.data.toList
  · have HM := Lib.hid hm
    have hcut : cutB s = s := by unfold cutB; rw [hm]; rfl
    have hlist : Hid (s.data.toList = stripL s.data.toList) := Lib.hid (by rw [← cutB_list, hcut])
    clear hcut
    by_cases hp : 0 < s.size
    · have hf : ((s[0].toNat : Int) == 45) = false := by rw [min_first hp, hm]
      have hne : ¬ s = ByteArray.empty := by rintro rfl; simp at hp
      have e1 : ((s.size : Int) == 0) = false := by simp; omega
      by_cases h32 : 32 < s.size
      · have E := Lib.hid (sr_bad (base := base) (l := s.data.toList) (by rw [← hlist.out]; exact readOk_len (by omega)))
        clear hm
        go_enter Try.func36, Try.ntmps36
        go_wp2
        go_ret2
        exact ⟨ret_ib E.out.1.symm E.out.2.symm, rfl⟩
      · obtain ⟨d, hd⟩ : ∃ d, d = s := ⟨_, rfl⟩
        have d1 : 1 ≤ d.size := by rw [hd]; omega
        have d2 : d.size ≤ 32 := by rw [hd]; omega
        have hlist2 : Hid (d.data.toList = stripL s.data.toList) := Lib.hid (by rw [hd]; exact hlist.out)
        clear hlist
        have hlist := hlist2
        clear hlist2
        subst hd
        clear hm
        go_enter Try.func36, Try.ntmps36
        go_wp2
        clear hf hne e1
        go_loop [8, 7] (fun i n => ∃ k : Nat, k ≤ d.size ∧ i = .int .i64 k ∧ n = .int .i64 (wrap32 (sumL base (d.data.toList.take k))) ∧ DigTo base d.data.toList k) (fun i _ => d.size - (intOf i).toNat)
        case atStart => exact ⟨0, Nat.zero_le _, rfl, by rw [List.take_zero, sumL_nil, wrap32_zero], digTo_zero _ _⟩
        case round =>
          obtain ⟨k, hk, rfl, rfl, hok⟩ := hrel
          by_cases hlt : k < d.size
          · have hc : d[k].toNat < 256 := UInt8.toNat_lt _
            have hv0 := digV_bd d[k].toNat
            by_cases hv : 0 ≤ digV d[k].toNat
            · by_cases hvb : digV d[k].toNat < base
              · have O := Lib.hid (digTo_succ hlt hok hv hvb)
                have S := Lib.hid (sumTo_succ (base := base) hlt)
                go_wp2_with (first | (go_at_call 48; refine (sDigitOf_any _ _ (by omega) (by omega)).mono ?_; rintro e w' ⟨rfl, rfl⟩) | (go_at_call 30; refine (sWrap_any _ _).mono ?_; rintro e w' ⟨rfl, rfl⟩))
                go_round
                case rel => exact ⟨k + 1, by omega, by go_num, congrArg (Value.int .i64) (by rw [S.out]; exact w32_step _ _ _), O.out⟩
                case measure => simp [intOf]; omega
              · have E : Hid (srV base d.data.toList = 0 ∧ readOk base (stripL d.data.toList) = false) := Lib.hid (sr_bad (by rw [← hlist.out]; exact readOk_bad hlt (by omega)))
                go_wp2_with (go_at_call 48; refine (sDigitOf_any _ _ (by omega) (by omega)).mono ?_; rintro e w' ⟨rfl, rfl⟩)
                go_ret2
                exact ⟨ret_ib E.out.1.symm E.out.2.symm, rfl⟩
            · have E : Hid (srV base d.data.toList = 0 ∧ readOk base (stripL d.data.toList) = false) := Lib.hid (sr_bad (by rw [← hlist.out]; exact readOk_bad hlt (by omega)))
              go_wp2_with (go_at_call 48; refine (sDigitOf_any _ _ (by omega) (by omega)).mono ?_; rintro e w' ⟨rfl, rfl⟩)
              go_ret2
              exact ⟨ret_ib E.out.1.symm E.out.2.symm, rfl⟩
          · obtain rfl : k = d.size := by omega
            have E : Hid (srV base d.data.toList = rdV base d.data.toList ∧ readOk base (stripL d.data.toList) = true) := Lib.hid (sr_ok (by rw [← hlist.out]; exact readOk_all d1 d2 hok))
            have T := Lib.hid (sumTo_all (base := base) (s := d))
            have WB := wrap32_cell (sumL base (d.data.toList.take d.size))
            have R : Hid (wrap32 (sumL base (d.data.toList.take d.size)) = srV base d.data.toList) := Lib.hid (by
              rw [E.out.1]; unfold rdV; rw [if_neg (by rw [HM.out]; simp), ← hlist.out, T.out])
            go_wp2
            go_ret2
            exact ⟨ret_ib R.out E.out.2.symm, rfl⟩
    · have E := Lib.hid (sr_bad (base := base) (l := s.data.toList) (by rw [← hlist.out]; exact readOk_len (by omega)))
      have he : s = ByteArray.empty := by
        have : s.data.toList = [] := List.eq_nil_of_length_eq_zero (by simpa using (by omega : s.size = 0))
        apply ByteArray.ext; apply Array.ext'; rw [this]; rfl
      clear hm hp
      go_enter Try.func36, Try.ntmps36
      subst he
      go_wp2
      go_ret2
      exact ⟨ret_ib E.out.1.symm E.out.2.symm, rfl⟩
  · have hp := min_pos hm
    have HM := Lib.hid hm
    have hf : ((s[0].toNat : Int) == 45) = true := by rw [min_first hp, hm]
    have hcut : cutB s = s.extract 1 s.size := by unfold cutB; rw [hm]; rfl
    have hlist0 : Hid ((s.extract 1 s.size).data.toList = stripL s.data.toList) := Lib.hid (by rw [← cutB_list, hcut])
    have hsz0 : (s.extract 1 s.size).size = s.size - 1 := by simp
    clear hm hcut
    by_cases h1 : s.size = 1
    · have E := Lib.hid (sr_bad (base := base) (l := s.data.toList) (by rw [← hlist0.out]; exact readOk_len (by omega)))
      have e0 : s.size - 1 = 0 := by omega
      clear hsz0 h1
      go_enter Try.func36, Try.ntmps36
      go_wp2
      go_ret2
      exact ⟨ret_ib E.out.1.symm E.out.2.symm, rfl⟩
    · have e0 : ¬ s.size - 1 = 0 := by omega
      have e1 : (((s.size - 1 : Nat) : Int) == 0) = false := by simp; omega
      by_cases h33 : 33 < s.size
      · have E := Lib.hid (sr_bad (base := base) (l := s.data.toList) (by rw [← hlist0.out]; exact readOk_len (by omega)))
        have e2 : (32 : Int) < ((s.size - 1 : Nat) : Int) := by omega
        clear hsz0 h1
        go_enter Try.func36, Try.ntmps36
        go_wp2
        go_ret2
        exact ⟨ret_ib E.out.1.symm E.out.2.symm, rfl⟩
      · have e2 : ((s.size - 1 : Nat) : Int) ≤ 32 := by omega
        have HZ := Lib.hid hsz0
        clear hsz0
        go_enter Try.func36, Try.ntmps36
        go_wp2
        have hsz1 := HZ.out
        generalize s.extract 1 s.size = d at *
        have d1 : 1 ≤ d.size := by omega
        have d2 : d.size ≤ 32 := by omega
        have hlist := hlist0
        clear hlist0 hsz1 HZ e0 e1 e2 h1 h33 hf
        go_loop [8, 7] (fun i n => ∃ k : Nat, k ≤ d.size ∧ i = .int .i64 k ∧ n = .int .i64 (wrap32 (sumL base (d.data.toList.take k))) ∧ DigTo base d.data.toList k) (fun i _ => d.size - (intOf i).toNat)
        case atStart => exact ⟨0, Nat.zero_le _, rfl, by rw [List.take_zero, sumL_nil, wrap32_zero], digTo_zero _ _⟩
        case round =>
          obtain ⟨k, hk, rfl, rfl, hok⟩ := hrel
          by_cases hlt : k < d.size
          · have hc : d[k].toNat < 256 := UInt8.toNat_lt _
            have hv0 := digV_bd d[k].toNat
            by_cases hv : 0 ≤ digV d[k].toNat
            · by_cases hvb : digV d[k].toNat < base
              · have O := Lib.hid (digTo_succ hlt hok hv hvb)
                have S := Lib.hid (sumTo_succ (base := base) hlt)
                go_wp2_with (first | (go_at_call 48; refine (sDigitOf_any _ _ (by omega) (by omega)).mono ?_; rintro e w' ⟨rfl, rfl⟩) | (go_at_call 30; refine (sWrap_any _ _).mono ?_; rintro e w' ⟨rfl, rfl⟩))
                go_round
                case rel => exact ⟨k + 1, by omega, by go_num, congrArg (Value.int .i64) (by rw [S.out]; exact w32_step _ _ _), O.out⟩
                case measure => simp [intOf]; omega
              · have E : Hid (srV base s.data.toList = 0 ∧ readOk base (stripL s.data.toList) = false) := Lib.hid (sr_bad (by rw [← hlist.out]; exact readOk_bad hlt (by omega)))
                go_wp2_with (go_at_call 48; refine (sDigitOf_any _ _ (by omega) (by omega)).mono ?_; rintro e w' ⟨rfl, rfl⟩)
                go_ret2
                exact ⟨ret_ib E.out.1.symm E.out.2.symm, rfl⟩
            · have E : Hid (srV base s.data.toList = 0 ∧ readOk base (stripL s.data.toList) = false) := Lib.hid (sr_bad (by rw [← hlist.out]; exact readOk_bad hlt (by omega)))
              go_wp2_with (go_at_call 48; refine (sDigitOf_any _ _ (by omega) (by omega)).mono ?_; rintro e w' ⟨rfl, rfl⟩)
              go_ret2
              exact ⟨ret_ib E.out.1.symm E.out.2.symm, rfl⟩
          · obtain rfl : k = d.size := by omega
            have E : Hid (srV base s.data.toList = rdV base s.data.toList ∧ readOk base (stripL s.data.toList) = true) := Lib.hid (sr_ok (by rw [← hlist.out]; exact readOk_all d1 d2 hok))
            have T := Lib.hid (sumTo_all (base := base) (s := d))
            have WB := wrap32_cell (sumL base (d.data.toList.take d.size))
            have R : Hid (wrap32 (-wrap32 (sumL base (d.data.toList.take d.size))) = srV base s.data.toList) := Lib.hid (by
              rw [E.out.1]; unfold rdV; rw [if_pos HM.out, ← hlist.out, T.out, wrap32_negw])
            go_wp2_with (go_at_call 30; refine (sWrap_any _ _).mono ?_; rintro e w' ⟨rfl, rfl⟩)
            go_ret2
            exact ⟨ret_ib R.out E.out.2.symm, rfl⟩

set_option maxHeartbeats 1000000 in
theorem sRead_any (s : ByteArray) (base : Int) (w : World) (hs : s.size ≤ maxLen) :
    Calls Try.prog 21 #[.string s, .int .i64 base] w fun e w' => e = .returned (.tuple #[.int .i64 (rcV base s.data.toList), .int .i64 (rcC base s.data.toList)]) ∧ w = w' := by
  have hs' := Lib.hid hs
  unfold maxLen at hs
  by_cases hlong : 65536 < s.size
  · have E := Lib.hid (rc_long (base := base) (l := s.data.toList) (by rw [list_size]; exact hlong))
    go_enter Try.func21, Try.ntmps21
    go_wp2
    go_ret2
    exact ⟨ret_ii E.out.1.symm E.out.2.symm, rfl⟩
  · have HL : Hid (¬ 65536 < s.data.toList.length) := Lib.hid (by rw [list_size]; exact hlong)
    cases hb : inB base 2 16
    · have E := Lib.hid (rc_base (base := base) HL.out hb)
      go_enter Try.func21, Try.ntmps21
      go_wp2_with (go_at_call 35; refine (sBase_any _ _).mono ?_; rintro e w' ⟨rfl, rfl⟩)
      go_ret2
      exact ⟨ret_ii E.out.1.symm E.out.2.symm, rfl⟩
    · have HB := Lib.hid hb
      have b1 : 2 ≤ base := by unfold inB at hb; simp at hb; omega
      have b2 : base ≤ 16 := by unfold inB at hb; simp at hb; omega
      cases hr : readOk base (stripL s.data.toList)
      · have E := Lib.hid (rc_form (base := base) HL.out HB.out hr)
        have X := Lib.hid (sr_bad hr).1
        go_enter Try.func21, Try.ntmps21
        go_wp2_with (first | (go_at_call 35; refine (sBase_any _ _).mono ?_; rintro e w' ⟨rfl, rfl⟩) | (go_at_call 36; refine (sReadIn_any _ _ _ hs'.out b1 b2).mono ?_; rintro e w' ⟨rfl, rfl⟩))
        go_ret2
        exact ⟨ret_ii E.out.1.symm E.out.2.symm, rfl⟩
      · have E := Lib.hid (rc_ok (base := base) HL.out HB.out hr)
        have X := Lib.hid (sr_ok hr).1
        go_enter Try.func21, Try.ntmps21
        go_wp2_with (first | (go_at_call 35; refine (sBase_any _ _).mono ?_; rintro e w' ⟨rfl, rfl⟩) | (go_at_call 36; refine (sReadIn_any _ _ _ hs'.out b1 b2).mono ?_; rintro e w' ⟨rfl, rfl⟩))
        go_ret2
        exact ⟨ret_ii (by rw [E.out.1, X.out]) E.out.2.symm, rfl⟩

end Go.Proofs.Ytfiildimochcgaa
