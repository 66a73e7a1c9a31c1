/- What impl.ReadCell and spec.ReadCell give. -/
import Derived.Test.YtfiildimochcgaaDoorReadM
namespace Go.Proofs.YtfiildimochcgaaDoor
open Go.RowKit
set_option linter.unusedVariables false
set_option linter.unusedSimpArgs false

set_option maxHeartbeats 1000000 in
theorem read_any (s : ByteArray) (base : Int) (w : World) (hs : s.size ≤ maxLen) :
    Calls Tryd.prog 11 #[.string s, .int .i64 base] w fun e w' => e = .returned (.tuple #[.int .i64 (rcV base s.data.toList), .int .i64 (rcC base s.data.toList)]) ∧ w = w' := by
  have hs' := Lib.hid hs
  unfold maxLen at hs
  by_cases hlong : 65536 < s.size
  · have E := Lib.hid (rc_long (base := base) (l := s.data.toList) (by rw [list_size]; exact hlong))
    go_enter Tryd.func11, Tryd.ntmps11
    go_wp2
    go_ret2
    exact ⟨ret_ii E.out.1.symm E.out.2.symm, rfl⟩
  · have HL : Hid (¬ 65536 < s.data.toList.length) := Lib.hid (by rw [list_size]; exact hlong)
    cases hb : inB base 2 16
    · have E := Lib.hid (rc_base (base := base) HL.out hb)
      go_enter Tryd.func11, Tryd.ntmps11
      go_wp2_with (go_at_call 19; refine (baseOK_any _ _).mono ?_; rintro e w' ⟨rfl, rfl⟩)
      go_ret2
      exact ⟨ret_ii E.out.1.symm E.out.2.symm, rfl⟩
    · have HB := Lib.hid hb
      have b1 : 2 ≤ base := by unfold inB at hb; simp at hb; omega
      have b2 : base ≤ 16 := by unfold inB at hb; simp at hb; omega
      have hlist := Lib.hid (cutB_list s)
      have hsz := cutB_size s
      have hsm : (cutB s).size ≤ maxLen := by have := hs'.out; omega
      unfold maxLen at hsm
      go_enter Tryd.func11, Tryd.ntmps11
      go_wp2_with (first | (go_at_call 19; refine (baseOK_any _ _).mono ?_; rintro e w' ⟨rfl, rfl⟩) | (go_at_call 25; refine (cut_any _ _ hs'.out).mono ?_; rintro e w' ⟨rfl, rfl⟩; generalize cutB s = d at *))
      · have h32 : ¬ (1 ≤ d.size ∧ d.size ≤ 32) := by omega
        have E := Lib.hid (rc_form (base := base) HL.out HB.out (by rw [← hlist.out]; exact readOk_len h32))
        clear h32
        go_ret2
        exact ⟨ret_ii E.out.1.symm E.out.2.symm, rfl⟩
      · have d1 : 1 ≤ d.size := by omega
        have d2 : d.size ≤ 32 := by omega
        clear hb
        go_loop [32, 8] (fun i n => ∃ k : Nat, k ≤ d.size ∧ i = .int .i64 k ∧ n = .int .u32 (sumL base (d.data.toList.take k) % 4294967296) ∧ DigTo base d.data.toList k) (fun i _ => d.size - (intOf i).toNat)
        case atStart => exact ⟨0, Nat.zero_le _, rfl, by simp [sumL_nil], digTo_zero _ _⟩
        case round =>
          obtain ⟨k, hk, rfl, rfl, hok⟩ := hrel
          by_cases hlt : k < d.size
          · have hc : d[k].toNat < 256 := UInt8.toNat_lt _
            have hv0 := digV_bd d[k].toNat
            by_cases hv : 0 ≤ digV d[k].toNat
            · by_cases hvb : digV d[k].toNat < base
              · have O := Lib.hid (digTo_succ hlt hok hv hvb)
                have S := Lib.hid (sumTo_succ (base := base) hlt)
                go_wp2_with (go_at_call 26; refine (digitOf_any _ _ (by omega) (by omega)).mono ?_; rintro e w' ⟨rfl, rfl⟩)
                go_round
                case rel => exact ⟨k + 1, by omega, by go_num, congrArg (Value.int .u32) (by rw [S.out]; simp [Int.add_emod, Int.mul_emod]), O.out⟩
                case measure => simp [intOf]; omega
              · have E := Lib.hid (rc_form (base := base) HL.out HB.out (by rw [← hlist.out]; exact readOk_bad hlt (by omega)))
                go_wp2_with (go_at_call 26; refine (digitOf_any _ _ (by omega) (by omega)).mono ?_; rintro e w' ⟨rfl, rfl⟩)
                go_ret2
                exact ⟨ret_ii E.out.1.symm E.out.2.symm, rfl⟩
            · have E := Lib.hid (rc_form (base := base) HL.out HB.out (by rw [← hlist.out]; exact readOk_bad hlt (by omega)))
              go_wp2_with (go_at_call 26; refine (digitOf_any _ _ (by omega) (by omega)).mono ?_; rintro e w' ⟨rfl, rfl⟩)
              go_ret2
              exact ⟨ret_ii E.out.1.symm E.out.2.symm, rfl⟩
          · obtain rfl : k = d.size := by omega
            have E := Lib.hid (rc_ok (base := base) HL.out HB.out (by rw [← hlist.out]; exact readOk_all d1 d2 hok))
            have T := Lib.hid (sumTo_all (base := base) (s := d))
            cases hm : minL s.data.toList
            · have R : Hid (wrap32 (sumL base (d.data.toList.take d.size) % 4294967296) = rcV base s.data.toList) := Lib.hid (by
                rw [E.out.1]; unfold rdV; rw [if_neg (by rw [hm]; simp), ← hlist.out, T.out, wrap32_mod])
              go_wp2_with (go_at_call 27; refine (lowU_any _ _).mono ?_; rintro e w' ⟨rfl, rfl⟩)
              go_ret2
              exact ⟨ret_ii R.out E.out.2.symm, rfl⟩
            · have R : Hid (wrap32 (-(sumL base (d.data.toList.take d.size) % 4294967296) % 4294967296) = rcV base s.data.toList) := Lib.hid (by
                rw [E.out.1]; unfold rdV; rw [if_pos hm, ← hlist.out, T.out, wrap32_negmod])
              go_wp2_with (go_at_call 27; refine (lowU_any _ _).mono ?_; rintro e w' ⟨rfl, rfl⟩)
              go_ret2
              exact ⟨ret_ii R.out E.out.2.symm, rfl⟩
      · have h32 : ¬ (1 ≤ d.size ∧ d.size ≤ 32) := by omega
        have E := Lib.hid (rc_form (base := base) HL.out HB.out (by rw [← hlist.out]; exact readOk_len h32))
        clear h32
        go_ret2
        exact ⟨ret_ii E.out.1.symm E.out.2.symm, rfl⟩

/-- What spec.l01Read hands back. -/
def srV (base : Int) (l : List UInt8) : Int := if readOk base (stripL l) = true then rdV base l else 0

theorem sr_bad {base : Int} {l : List UInt8} (h : readOk base (stripL l) = false) : srV base l = 0 ∧ readOk base (stripL l) = false :=
  ⟨by unfold srV; rw [h]; rfl, h⟩

theorem sr_ok {base : Int} {l : List UInt8} (h : readOk base (stripL l) = true) : srV base l = rdV base l ∧ readOk base (stripL l) = true :=
  ⟨by unfold srV; rw [if_pos h], h⟩

end Go.Proofs.YtfiildimochcgaaDoor
