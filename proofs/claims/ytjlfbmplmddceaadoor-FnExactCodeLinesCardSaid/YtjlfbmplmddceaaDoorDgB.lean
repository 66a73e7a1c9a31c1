/- One line of code: what it reads as; both sides' parts. -/
import Derived.Test.YtjlfbmplmddceaaDoorDgA
import Derived.Test.YtjlfbmplmddceaaDoorShelf
import Derived.Test.YtjlfbmplmddceaaDoorKerD
import Derived.Test.YtjlfbmplmddceaaDoorRowB
import Derived.Test.YtjlfbmplmddceaaDoorWoA
import Derived.Lib.SmallJoins
import Derived.Lib.Hide
namespace Go.Proofs.YtjlfbmplmddceaaDoor
open Go.RowKit
set_option linter.unusedVariables false
set_option linter.unusedSimpArgs false

/-- A word with an operand behind it. -/
def opB (n : Int) : Bool := decide (57 ≤ n ∧ n ≤ 62) && n != 60

/-- The start of a line: the address and the word. -/
def lnB (i : Int) (x : Wd) : ByteArray := (⟨(Lib.itoa i).toArray⟩ : ByteArray) ++ ⟨#[32]⟩ ++ x.n

/-- What an operand adds. -/
def lnO (n : Int) : ByteArray := (⟨#[32]⟩ : ByteArray) ++ ⟨(Lib.itoa n).toArray⟩

/-- A text's bytes. -/
def bl (b : ByteArray) : List UInt8 := b.data.toList

theorem bl_str (b : ByteArray) : strV (bl b) = .string b := by
  unfold strV bl
  simp

theorem size_one : (⟨#[32]⟩ : ByteArray).size = 1 := rfl

theorem itoa_len (n : Int) (h0 : -9223372036854775808 ≤ n) (h1 : n ≤ 9223372036854775807) : (Lib.itoa n).length ≤ 20 := by
  unfold Lib.itoa
  by_cases h : n < 0
  · rw [if_pos h, List.length_cons, Lib.decDigits_length]
    by_cases h2 : n = -9223372036854775808
    · subst h2; decide +kernel
    · have := nDigits_small_int n.natAbs (by omega); omega
  · rw [if_neg h, Lib.decDigits_length]
    have := nDigits_small_int n.toNat (by omega); omega

theorem lnB_size (i : Int) (x : Wd) (h0 : -9223372036854775808 ≤ i) (h1 : i ≤ 9223372036854775807) (hx : x.n.size ≤ 12) : (lnB i x).size ≤ 33 := by
  unfold lnB
  rw [ByteArray.size_append, ByteArray.size_append, str_size, size_one]
  have := itoa_len i h0 h1
  omega

set_option maxRecDepth 100000 in
set_option maxHeartbeats 400000 in
theorem hasOperand_any (n : Int) (w : World) : Calls Tryd.prog 81 #[.int .i64 n] w fun e w' => e = .returned (.bool (opB n)) ∧ w = w' := by
  by_cases h1 : 57 ≤ n
  · by_cases h2 : n ≤ 62
    · have E : Hid (opB n = (n != 60)) := Lib.hid (by unfold opB; rw [decide_eq_true ⟨h1, h2⟩]; rfl)
      go_enter Tryd.func81, Tryd.ntmps81
      go_wp2
      go_ret
      exact ⟨ret_bool E.out.symm, rfl⟩
    · have E : Hid (opB n = false) := Lib.hid (by unfold opB; rw [decide_eq_false (by omega)]; rfl)
      go_enter Tryd.func81, Tryd.ntmps81
      go_wp2
      go_ret
      exact ⟨ret_bool E.out.symm, rfl⟩
  · have E : Hid (opB n = false) := Lib.hid (by unfold opB; rw [decide_eq_false (by omega)]; rfl)
    go_enter Tryd.func81, Tryd.ntmps81
    go_wp2
    go_ret
    exact ⟨ret_bool E.out.symm, rfl⟩

/-- The name of the word without an operand among the inner ones. -/
def doN : List UInt8 := [40, 68, 79, 41]

theorem kern_ops : ∀ k, k < 83 → ((kernAt k).k == 3 && ((kernAt k).n.toList != doN)) = opB ((k : Int) + 1) := by decide +kernel

theorem user_kind {x : Wd} (h : userB x = true) : (x.k == 3) = false := by
  unfold userB valB at h
  rw [beq_eq_false_iff_ne]
  intro e
  rw [e] at h
  simp at h

theorem word_ops {Q : List Wd} (h : dictB Q = true) {k : Nat} (hk : k < Q.length) : (Q[k].k == 3 && (Q[k].n.toList != doN)) = opB ((k : Int) + 1) := by
  obtain ⟨h1, h2, h3⟩ := dict_is h
  by_cases h83 : k < 83
  · rw [kernB_at h2 hk h83]; exact kern_ops k h83
  · rw [user_kind (h3 k hk (by omega))]
    unfold opB
    rw [decide_eq_false (by omega)]
    rfl

set_option maxRecDepth 100000 in
set_option maxHeartbeats 2000000 in
theorem sOperand_any (v : Value) (Q : List Wd) (k : Nat) (w : World) (hv : Wds w v Q) (hd : dictB Q = true) (hk : k < Q.length) :
    Calls Tryd.prog 34 #[v, .int .i64 ((k : Int) + 1)] w fun e w' => ∃ n : Nat, e = .returned (.bool (opB ((k : Int) + 1))) ∧ w' = w.drewN n := by
  have W := Lib.hid (word_ops hd hk)
  obtain ⟨A, ca, rfl, hcap, hl, hn⟩ := wds_form hv
  obtain ⟨g, rfl⟩ := wds_block hv (by omega)
  obtain ⟨a0, a1, a2⟩ := wds_word hv k hk
  unfold maxLen at hl
  clear hv hn hcap hd
  generalize Q[k] = x at *
  obtain ⟨nm, kd, vl⟩ := x
  simp only at *
  have n1 : IntKind.i64.wrap ((k : Int) + 1) = (k : Int) + 1 := IntWalk.i64_in _ (by omega)
  have n2 : ((k : Int) + 1) - 1 = k := by omega
  have ib : inB ((k : Int) + 1) 1 (Q.length : Int) = true := decide_eq_true ⟨by omega, by omega⟩
  unfold doN at W
  cases t1 : (kd == 3)
  · have E : Hid (opB ((k : Int) + 1) = false) := Lib.hid (by rw [← W.out, t1]; rfl)
    go_enter Tryd.func34, Tryd.ntmps34
    go_wp2_with (go_at_call 32; refine (sIn_any _ _ _ _).mono ?_; rintro e w' ⟨rfl, rfl⟩)
    go_ret
    exact ⟨0, ret_bool E.out.symm, rfl⟩
  · cases t2 : (nm.toList == [40, 68, 79, 41])
    all_goals
      have E := W.out
      simp only [bne, t1, t2, Bool.true_and] at E
      have E := Lib.hid E
      go_enter Tryd.func34, Tryd.ntmps34
      go_wp2_with (go_at_call 32; refine (sIn_any _ _ _ _).mono ?_; rintro e w' ⟨rfl, rfl⟩)
      go_ret
      exact ⟨0, ret_bool (by rw [← E.out]), rfl⟩

end Go.Proofs.YtjlfbmplmddceaaDoor
