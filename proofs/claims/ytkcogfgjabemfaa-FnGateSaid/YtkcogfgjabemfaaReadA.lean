/- What the digits' functions give, and the cut of a sign: contracts ahead of ReadCell's. -/
import Derived.Test.YtkcogfgjabemfaaNamesA
import Derived.Lib.Strings
namespace Go.Proofs.Ytkcogfgjabemfaa
open Go.RowKit
set_option linter.unusedVariables false
set_option linter.unusedSimpArgs false

/-- A digit's value, -1 of a byte that is none. -/
def digV (c : Int) : Int := if 48 ≤ c ∧ c ≤ 57 then c - 48 else if 65 ≤ c ∧ c ≤ 70 then c - 55 else if 97 ≤ c ∧ c ≤ 102 then c - 87 else -1

theorem digV_bd (c : Int) : -1 ≤ digV c ∧ digV c ≤ 15 := by unfold digV; split <;> (try split) <;> (try split) <;> omega

theorem dig_cases (c : Int) (h0 : 0 ≤ c) (h1 : c ≤ 255) : (c < 48 ∧ digB c = false ∧ digV c = -1) ∨ (48 ≤ c ∧ c ≤ 57 ∧ digB c = true ∧ digV c = c - 48) ∨ (57 < c ∧ c < 65 ∧ digB c = false ∧ digV c = -1) ∨ (65 ≤ c ∧ c ≤ 70 ∧ digB c = false ∧ digV c = c - 55) ∨ (70 < c ∧ c < 97 ∧ digB c = false ∧ digV c = -1) ∨ (97 ≤ c ∧ c ≤ 102 ∧ digB c = false ∧ digV c = c - 87) ∨ (102 < c ∧ digB c = false ∧ digV c = -1) := by
  have e : digB c = true ↔ 48 ≤ c ∧ c ≤ 57 := by unfold digB; simp
  have e' : digB c = false ↔ ¬ (48 ≤ c ∧ c ≤ 57) := by unfold digB; simp
  rw [e, e']
  unfold digV
  split
  · omega
  · split
    · omega
    · split <;> omega

set_option maxHeartbeats 400000 in
theorem baseOK_any (a : Int) (w : World) :
    Calls Try.prog 100 #[.int .i64 a] w fun e w' => e = .returned (.bool (inB a 2 16)) ∧ w = w' := by
  by_cases h : 2 ≤ a
  · by_cases h' : a ≤ 16
    all_goals
      go_enter Try.func100, Try.ntmps100
      go_wp2
      go_ret
      exact ⟨ret_bool (by unfold inB; simp [h, h']), rfl⟩
  · go_enter Try.func100, Try.ntmps100
    go_wp2
    go_ret
    exact ⟨ret_bool (by unfold inB; simp; omega), rfl⟩

set_option maxHeartbeats 400000 in
theorem sBase_any (a : Int) (w : World) :
    Calls Try.prog 108 #[.int .i64 a] w fun e w' => e = .returned (.bool (inB a 2 16)) ∧ w = w' := by
  go_enter Try.func108, Try.ntmps108
  go_wp2_with (go_at_call 58; refine (sIn_any _ _ _ _).mono ?_; rintro e w' ⟨rfl, rfl⟩)
  go_ret
  exact ⟨rfl, rfl⟩

/-- Does a text begin with a minus sign? -/
def minL (l : List UInt8) : Bool := match l with
  | [] => false
  | c :: _ => c == 45

/-- What stands behind the sign. -/
def stripL (l : List UInt8) : List UInt8 := if minL l = true then l.tail else l

/-- The same of a string. -/
def cutB (s : ByteArray) : ByteArray := if minL s.data.toList = true then s.extract 1 s.size else s

theorem cutB_list (s : ByteArray) : (cutB s).data.toList = stripL s.data.toList := by
  unfold cutB stripL
  split
  · rw [Lib.extract_data]
    cases h : s.data.toList with
    | nil => simp
    | cons c r =>
      have : s.size = r.length + 1 := by
        have h2 : s.data.toList.length = s.size := by simp
        rw [h] at h2; simpa using h2.symm
      simp [this]
  · rfl

theorem stripL_le (l : List UInt8) : (stripL l).length ≤ l.length := by
  unfold stripL; split
  · simp
  · exact Nat.le_refl _

theorem cutB_size (s : ByteArray) : (cutB s).size ≤ s.size := by
  have h1 : (cutB s).data.toList.length = (cutB s).size := by simp
  have h2 : s.data.toList.length = s.size := by simp
  have := stripL_le s.data.toList
  rw [cutB_list] at h1; omega

theorem min_test (s : ByteArray) : ((s.extract 0 1).toList == [45]) = minL s.data.toList := by
  rw [Lib.extract_toList]
  cases s.data.toList with
  | nil => rfl
  | cons c r => simp [minL]

theorem min_zero (s : ByteArray) (h : ¬ 0 < s.size) : minL s.data.toList = false := by
  have : s.data.toList = [] := List.eq_nil_of_length_eq_zero (by simpa using (by omega : s.size = 0))
  rw [this]; rfl

theorem min_first {s : ByteArray} (h : 0 < s.size) : ((s[0].toNat : Int) == 45) = minL s.data.toList := by
  have g : ∀ (l : List UInt8) (h : 0 < l.length), (((l[0]).toNat : Int) == 45) = minL l := by
    intro l h
    cases l with
    | nil => simp at h
    | cons c r =>
      simp [minL]
      rw [Bool.eq_iff_iff]
      simp
      constructor
      · intro h; exact UInt8.toNat_inj.1 (by simp; omega)
      · rintro rfl; rfl
  exact g s.data.toList (by simpa using h)

theorem ret_sb {a b : ByteArray} {c d : Bool} (h : a = b) (h' : c = d) : Ending.returned (.tuple #[.string a, .bool c]) = .returned (.tuple #[.string b, .bool d]) := by rw [h, h']

theorem min_pos {s : ByteArray} (h : minL s.data.toList = true) : 0 < s.size := by
  by_cases h0 : 0 < s.size
  · exact h0
  · rw [min_zero s h0] at h; cases h

end Go.Proofs.Ytkcogfgjabemfaa
