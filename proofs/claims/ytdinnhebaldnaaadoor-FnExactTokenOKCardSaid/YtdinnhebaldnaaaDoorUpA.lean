/- What spec's functions on the letters of a name give: l02Upper, l02Word, WordOK, UpperOf, SameWord. -/
import Derived.Test.YtdinnhebaldnaaaDoorOwnA
import Derived.Lib.Strings
namespace Go.Proofs.YtdinnhebaldnaaaDoor
open Go.RowKit
set_option linter.unusedVariables false
set_option linter.unusedSimpArgs false

/-- A byte, large. -/
def upB (c : UInt8) : UInt8 := if 97 ≤ c.toNat ∧ c.toNat ≤ 122 then c - 32 else c

/-- A text, large. -/
def upL (l : List UInt8) : List UInt8 := l.map upB

theorem upB_yes {c : UInt8} (h : 97 ≤ c.toNat) (h' : c.toNat ≤ 122) : (upB c).toNat = c.toNat - 32 := by
  unfold upB
  rw [if_pos ⟨h, h'⟩, UInt8.toNat_sub_of_le _ _ (by rw [UInt8.le_iff_toNat_le]; have : (32 : UInt8).toNat = 32 := rfl; omega)]
  rfl

theorem upB_no {c : UInt8} (h : ¬ (97 ≤ c.toNat ∧ c.toNat ≤ 122)) : upB c = c := by unfold upB; rw [if_neg h]

theorem up_take (s : ByteArray) (k : Nat) (h : k < s.size) : (upL (s.data.toList.take (k + 1))) = upL (s.data.toList.take k) ++ [upB s[k]] := by
  rw [List.take_succ_eq_append_getElem (by simpa using h)]
  unfold upL
  rw [List.map_append]
  rfl

set_option maxRecDepth 100000 in
set_option maxHeartbeats 1000000 in
theorem sUpper_any (s : ByteArray) (w : World) (hs : s.size ≤ 70368744177664) :
    Calls Tryd.prog 68 #[.string s] w fun e w' => e = .returned (.string ⟨(upL s.data.toList).toArray⟩) ∧ Below w.heap.size w w' := by
  obtain ⟨i0, hi, hz0, hz1, hz2⟩ := info_parts own_info5
  go_enter Tryd.func68, Tryd.ntmps68
  go_wp2_with fail
  go_loopw [4, 3] (fun i v wr => ∃ k : Nat, k ≤ s.size ∧ i = .int .i64 k ∧ Owns wr w.heap.size 5 v k ((upL (s.data.toList.take k)).map fun c => .int .u8 (c.toNat : Int)) ∧ Below w.heap.size w wr) (fun i _ _ => s.size - (intOf i).toNat)
  case atStart => exact ⟨0, Nat.zero_le _, rfl, owns_new (Nat.le_refl _), (Below.refl _ _).alloc (Nat.le_refl _) _⟩
  case round =>
    obtain ⟨k, hk, rfl, ho, hbel⟩ := hrel
    have HO := Lib.hid ho
    have HB := Lib.hid hbel
    obtain ⟨hown, hnn⟩ := ho
    have HN := Lib.hid hnn
    clear hbel hnn
    by_cases hlt : k < s.size
    · obtain ⟨c, hc⟩ : ∃ c : UInt8, s[k] = c := ⟨_, rfl⟩
      have h256 : c.toNat < 256 := UInt8.toNat_lt _
      have TK := up_take s k hlt
      rw [hc] at TK
      have T2 := Lib.hid TK
      clear TK
      by_cases hbig : 97 ≤ c.toNat ∧ c.toNat ≤ 122
      · have NXT : Hid (((upL (s.data.toList.take (k + 1))).map fun c => Value.int .u8 (c.toNat : Int)) = ((upL (s.data.toList.take k)).map fun c => Value.int .u8 (c.toNat : Int)) ++ [.int .u8 ((c.toNat : Int) - 32)]) := Lib.hid (by
          rw [T2.out, List.map_append]
          have e := upB_yes hbig.1 hbig.2
          have e2 : ((upB c).toNat : Int) = (c.toNat : Int) - 32 := by omega
          simp [e2])
        obtain ⟨g1, g2⟩ := hbig
        go_wp2_with (at_builtin; refine wpList_append_own _ rfl _ _ 22 rfl w.heap.size 5 i0 (.int .u8 0) 1 1 Tryd.underlying22 hi hz0 hz1 hz2 rfl (by decide) _ _ _ rfl (hown.alloc _) ⟨wr.heap.size, 0, none⟩ 1 1 [.int .u8 ((c.toNat : Int) - 32)] rfl rfl ?c1 ?c2 ?c3 ?c4 ?c5 ?_)
        case c1 => intro j u hu; match j, hu with | 0, hu => (simp at hu; subst hu; simp [Addr.add]) | j + 1, hu => simp at hu
        case c2 => intro u hu; simp at hu; subst hu; rfl
        case c3 => unfold maxLen; omega
        case c4 => omega
        case c5 => have := HB.out.size; simp; omega
        intro v' wx hown' hgrow hnil
        have HX := Lib.hid (owns_below HB.out HO.out.1 hgrow)
        have HOX : Hid (Owns wx w.heap.size 5 v' (k + 1) _) := Lib.hid ⟨hown', hnil⟩
        clear hown' hgrow hown hnil
        go_wp2
        go_roundw
        case rel => exact ⟨k + 1, by omega, by go_num, by rw [NXT.out]; exact HOX.out, HX.out⟩
        case measure => simp [intOf]; omega
      · have NXT : Hid (((upL (s.data.toList.take (k + 1))).map fun c => Value.int .u8 (c.toNat : Int)) = ((upL (s.data.toList.take k)).map fun c => Value.int .u8 (c.toNat : Int)) ++ [.int .u8 (c.toNat : Int)]) := Lib.hid (by
          rw [T2.out, List.map_append, upB_no hbig]; simp)
        by_cases g1 : 97 ≤ c.toNat
        · have g2 : ¬ c.toNat ≤ 122 := fun h => hbig ⟨g1, h⟩
          clear hbig
          go_wp2_with (at_builtin; refine wpList_append_own _ rfl _ _ 22 rfl w.heap.size 5 i0 (.int .u8 0) 1 1 Tryd.underlying22 hi hz0 hz1 hz2 rfl (by decide) _ _ _ rfl (hown.alloc _) ⟨wr.heap.size, 0, none⟩ 1 1 [.int .u8 (c.toNat : Int)] rfl rfl ?d1 ?d2 ?d3 ?d4 ?d5 ?_)
          case d1 => intro j u hu; match j, hu with | 0, hu => (simp at hu; subst hu; simp [Addr.add]) | j + 1, hu => simp at hu
          case d2 => intro u hu; simp at hu; subst hu; rfl
          case d3 => unfold maxLen; omega
          case d4 => omega
          case d5 => have := HB.out.size; simp; omega
          intro v' wx hown' hgrow hnil
          have HX := Lib.hid (owns_below HB.out HO.out.1 hgrow)
          have HOX : Hid (Owns wx w.heap.size 5 v' (k + 1) _) := Lib.hid ⟨hown', hnil⟩
          clear hown' hgrow hown hnil
          go_wp2
          go_roundw
          case rel => exact ⟨k + 1, by omega, by go_num, by rw [NXT.out]; exact HOX.out, HX.out⟩
          case measure => simp [intOf]; omega
        · clear hbig
          go_wp2_with (at_builtin; refine wpList_append_own _ rfl _ _ 22 rfl w.heap.size 5 i0 (.int .u8 0) 1 1 Tryd.underlying22 hi hz0 hz1 hz2 rfl (by decide) _ _ _ rfl (hown.alloc _) ⟨wr.heap.size, 0, none⟩ 1 1 [.int .u8 (c.toNat : Int)] rfl rfl ?e1 ?e2 ?e3 ?e4 ?e5 ?_)
          case e2 => first | rfl | (intro u hu; simp at hu; subst hu; rfl)
          case e3 => unfold maxLen; omega
          case e4 => omega
          case e5 => have := HB.out.size; simp; omega
          intro v' wx hown' hgrow hnil
          have HX := Lib.hid (owns_below HB.out HO.out.1 hgrow)
          have HOX : Hid (Owns wx w.heap.size 5 v' (k + 1) _) := Lib.hid ⟨hown', hnil⟩
          clear hown' hgrow hown hnil
          go_wp2
          go_roundw
          case rel => exact ⟨k + 1, by omega, by go_num, by rw [NXT.out]; exact HOX.out, HX.out⟩
          case measure => simp [intOf]; omega
    · obtain rfl : k = s.size := by omega
      obtain ⟨g, cap, hv, _⟩ := owns_form HO.out
      subst hv
      have hl : s.data.toList.take s.size = s.data.toList := List.take_of_length_le (by simp)
      rw [hl] at hown
      have hcv := owns_text hown (by unfold upL; simp)
      clear hown hl hlt
      go_wp2
      go_ret
      exact ⟨rfl, HB.out⟩

end Go.Proofs.YtdinnhebaldnaaaDoor
