/- What spec's WordOK, UpperOf and SameWord give. -/
import Derived.Test.YthnbaeamekolmaaDoorUpA
namespace Go.Proofs.YthnbaeamekolmaaDoor
open Go.RowKit
set_option linter.unusedVariables false
set_option linter.unusedSimpArgs false

/-- A byte that is seen. -/
def seenB (c : UInt8) : Bool := inB c.toNat 33 126

/-- The name of a word. -/
def wordL (l : List UInt8) : Bool := decide (1 ≤ l.length ∧ l.length ≤ 12) && l.all seenB

/-- The first k bytes are seen. -/
def SeenTo (l : List UInt8) (k : Nat) : Prop := ∀ x ∈ l.take k, seenB x = true

theorem seenTo_zero (l : List UInt8) : SeenTo l 0 := by intro x hx; simp at hx

theorem seenTo_succ {s : ByteArray} {k : Nat} (h : k < s.size) (ho : SeenTo s.data.toList k) (hk : seenB s[k] = true) : SeenTo s.data.toList (k + 1) := by
  intro x hx
  rw [List.take_succ_eq_append_getElem (by simpa using h)] at hx
  rcases List.mem_append.1 hx with hx | hx
  · exact ho x hx
  · rw [List.mem_singleton.1 hx]; exact hk

theorem wordL_all {s : ByteArray} (h1 : 1 ≤ s.size) (h2 : s.size ≤ 12) (ho : SeenTo s.data.toList s.size) : wordL s.data.toList = true := by
  have hl : s.data.toList.length = s.size := by simp
  unfold SeenTo at ho
  rw [List.take_of_length_le (by omega)] at ho
  unfold wordL
  rw [Bool.and_eq_true]
  exact ⟨decide_eq_true (by omega), List.all_eq_true.2 ho⟩

theorem wordL_len {s : ByteArray} (h : ¬ (1 ≤ s.size ∧ s.size ≤ 12)) : wordL s.data.toList = false := by
  have hl : s.data.toList.length = s.size := by simp
  unfold wordL
  rw [hl, decide_eq_false h]; rfl

theorem wordL_bad {s : ByteArray} {k : Nat} (h : k < s.size) (hb : seenB s[k] = false) : wordL s.data.toList = false := by
  have hl : s.data.toList.length = s.size := by simp
  have hm : s[k] ∈ s.data.toList := List.getElem_mem (l := s.data.toList) (n := k) (by omega)
  cases hc : wordL s.data.toList
  · rfl
  · unfold wordL at hc
    rw [Bool.and_eq_true] at hc
    have := List.all_eq_true.1 hc.2 _ hm
    rw [hb] at this; cases this

theorem list_len (s : ByteArray) : s.data.toList.length = s.size := by simp

/-- What WordOK answers: longer texts than a name are none. -/
theorem wordL_long {s : ByteArray} (h : 65536 < s.size) : wordL s.data.toList = false := wordL_len (by omega)

/-- What UpperOf answers: nothing of a text that is too long. -/
def upO (l : List UInt8) : List UInt8 := if 65536 < l.length then [] else upL l

/-- Are these two names of words, equal but for large and small letters? -/
def sameL (a b : List UInt8) : Bool := wordL a && wordL b && upL a == upL b

theorem up_eq (a b : List UInt8) : ((⟨(upL a).toArray⟩ : ByteArray).toList == (⟨(upL b).toArray⟩ : ByteArray).toList) = (upL a == upL b) := by
  rw [Lib.toList_data, Lib.toList_data]

end Go.Proofs.YthnbaeamekolmaaDoor
