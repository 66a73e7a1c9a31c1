/- What spec's WordOK, UpperOf and SameWord give. -/
import Derived.Test.YthnbaeamekolmaaGreatDoorUpA
namespace Go.Proofs.YthnbaeamekolmaaGreatDoor
open Go.RowKit
set_option linter.unusedVariables false
set_option linter.unusedSimpArgs false

/-- A byte that is seen. -/
def seenB (c : UInt8) : Bool := inB c.toNat 33 126

/-- The name of a word. -/
def wordL (l : List UInt8) : Bool := decide (1 ≤ l.length ∧ l.length ≤ 12) && l.all seenB

/-- The first k bytes are seen. -/
def SeenTo (l : List UInt8) (k : Nat) : Prop := ∀ x ∈ l.take k, seenB x = true

theorem seenTo_zero (l : List UInt8) : SeenTo l 0 := by intro x hx; simp at hx

theorem seenTo_succ {s : ByteArray} {k : Nat} (h : k < s.size) (ho : SeenTo s.data.toList k) (hk : seenB s[k] = true) : SeenTo s.data.toList (k + 1) := by
  intro x hx
  rw [List.take_succ_eq_append_getElem (by simpa using h)] at hx
  rcases List.mem_append.1 hx with hx | hx
  · exact ho x hx
  · rw [List.mem_singleton.1 hx]; exact hk

theorem wordL_all {s : ByteArray} (h1 : 1 ≤ s.size) (h2 : s.size ≤ 12) (ho : SeenTo s.data.toList s.size) : wordL s.data.toList = true := by
  have hl : s.data.toList.length = s.size := by simp
  unfold SeenTo at ho
  rw [List.take_of_length_le (by omega)] at ho
  unfold wordL
  rw [Bool.and_eq_true]
  exact ⟨decide_eq_true (by omega), List.all_eq_true.2 ho⟩

theorem wordL_len {s : ByteArray} (h : ¬ (1 ≤ s.size ∧ s.size ≤ 12)) : wordL s.data.toList = false := by
  have hl : s.data.toList.length = s.size := by simp
  unfold wordL
  rw [hl, decide_eq_false h]; rfl

theorem wordL_bad {s : ByteArray} {k : Nat} (h : k < s.size) (hb : seenB s[k] = false) : wordL s.data.toList = false := by
  have hl : s.data.toList.length = s.size := by simp
  have hm : s[k] ∈ s.data.toList := List.getElem_mem (l := s.data.toList) (n := k) (by omega)
  cases hc : wordL s.data.toList
  · rfl
  · unfold wordL at hc
    rw [Bool.and_eq_true] at hc
    have := List.all_eq_true.1 hc.2 _ hm
    rw [hb] at this; cases this

set_option maxRecDepth 100000 in
set_option maxHeartbeats 1000000 in
theorem sWordIn_any (s : ByteArray) (w : World) (hs : s.size ≤ maxLen) :
    Calls Tryz.prog 150 #[.string s] w fun e w' => e = .returned (.bool (wordL s.data.toList)) ∧ w = w' := by
  unfold maxLen at hs
  cases hin : inB s.size 1 12
  · have E := Lib.hid (wordL_len (s := s) (by unfold inB at hin; simp at hin; omega))
    go_enter Tryz.func150, Tryz.ntmps150
    go_wp2_with (go_at_call 64; refine (sIn_any _ _ _ _).mono ?_; rintro e w' ⟨rfl, rfl⟩)
    go_ret
    exact ⟨ret_bool E.out.symm, rfl⟩
  · have b1 : 1 ≤ s.size := by unfold inB at hin; simp at hin; omega
    have b2 : s.size ≤ 12 := by unfold inB at hin; simp at hin; omega
    go_enter Tryz.func150, Tryz.ntmps150
    go_wp2_with (go_at_call 64; refine (sIn_any _ _ _ _).mono ?_; rintro e w' ⟨rfl, rfl⟩)
    clear hin
    go_loop [3] (fun i => ∃ k : Nat, k ≤ s.size ∧ i = .int .i64 k ∧ SeenTo s.data.toList k) (fun i => s.size - (intOf i).toNat)
    case atStart => exact ⟨0, Nat.zero_le _, rfl, seenTo_zero _⟩
    case round =>
      obtain ⟨k, hk, rfl, hok⟩ := hrel
      by_cases hlt : k < s.size
      · have h256 : s[k].toNat < 256 := UInt8.toNat_lt _
        cases hsb : seenB s[k]
        · have E := Lib.hid (wordL_bad hlt hsb)
          unfold seenB at hsb
          go_wp2_with (go_at_call 64; refine (sIn_any _ _ _ _).mono ?_; rintro e w' ⟨rfl, rfl⟩)
          go_ret
          exact ⟨ret_bool E.out.symm, rfl⟩
        · have E := Lib.hid (seenTo_succ hlt hok hsb)
          unfold seenB at hsb
          go_wp2_with (go_at_call 64; refine (sIn_any _ _ _ _).mono ?_; rintro e w' ⟨rfl, rfl⟩)
          go_round
          case rel => exact ⟨k + 1, by omega, by go_num, E.out⟩
          case measure => simp [intOf]; omega
      · obtain rfl : k = s.size := by omega
        have E := Lib.hid (wordL_all b1 b2 hok)
        go_wp2
        go_ret
        exact ⟨ret_bool E.out.symm, rfl⟩

theorem list_len (s : ByteArray) : s.data.toList.length = s.size := by simp

/-- What WordOK answers: longer texts than a name are none. -/
theorem wordL_long {s : ByteArray} (h : 65536 < s.size) : wordL s.data.toList = false := wordL_len (by omega)

/-- What UpperOf answers: nothing of a text that is too long. -/
def upO (l : List UInt8) : List UInt8 := if 65536 < l.length then [] else upL l

/-- Are these two names of words, equal but for large and small letters? -/
def sameL (a b : List UInt8) : Bool := wordL a && wordL b && upL a == upL b

theorem up_eq (a b : List UInt8) : ((⟨(upL a).toArray⟩ : ByteArray).toList == (⟨(upL b).toArray⟩ : ByteArray).toList) = (upL a == upL b) := by
  rw [Lib.toList_data, Lib.toList_data]

end Go.Proofs.YthnbaeamekolmaaGreatDoor
