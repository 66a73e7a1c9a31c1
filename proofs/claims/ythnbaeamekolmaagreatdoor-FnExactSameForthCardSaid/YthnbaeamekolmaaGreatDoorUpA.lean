/- What spec's functions on the letters of a name give: l02Upper, l02Word, WordOK, UpperOf, SameWord. -/
import Derived.Test.YthnbaeamekolmaaGreatDoorOwnA
import Derived.Lib.Strings
namespace Go.Proofs.YthnbaeamekolmaaGreatDoor
open Go.RowKit
set_option linter.unusedVariables false
set_option linter.unusedSimpArgs false

/-- A byte, large. -/
def upB (c : UInt8) : UInt8 := if 97 ≤ c.toNat ∧ c.toNat ≤ 122 then c - 32 else c

/-- A text, large. -/
def upL (l : List UInt8) : List UInt8 := l.map upB

theorem upB_yes {c : UInt8} (h : 97 ≤ c.toNat) (h' : c.toNat ≤ 122) : (upB c).toNat = c.toNat - 32 := by
  unfold upB
  rw [if_pos ⟨h, h'⟩, UInt8.toNat_sub_of_le _ _ (by rw [UInt8.le_iff_toNat_le]; have : (32 : UInt8).toNat = 32 := rfl; omega)]
  rfl

theorem upB_no {c : UInt8} (h : ¬ (97 ≤ c.toNat ∧ c.toNat ≤ 122)) : upB c = c := by unfold upB; rw [if_neg h]

theorem up_take (s : ByteArray) (k : Nat) (h : k < s.size) : (upL (s.data.toList.take (k + 1))) = upL (s.data.toList.take k) ++ [upB s[k]] := by
  rw [List.take_succ_eq_append_getElem (by simpa using h)]
  unfold upL
  rw [List.map_append]
  rfl

end Go.Proofs.YthnbaeamekolmaaGreatDoor
