/- PkX: several of my texts, laid together: PriA. -/
import Derived.Test.YthnbaeamekolmaaGreatDoorPkU
import Derived.Test.YthnbaeamekolmaaGreatDoorPkT
import Derived.Test.YthnbaeamekolmaaGreatDoorPkV
namespace Go.Proofs.YthnbaeamekolmaaGreatDoor
open Go.RowKit
set_option linter.unusedVariables false
set_option linter.unusedSimpArgs false

theorem prim_low (d : Dt) (p : Nat) (f : Int) (h : (dPrim d p f).2 = 0) :
    takesP p ≤ d.s.length ∧ d.s.length - takesP p ≤ (dPrim d p f).1.s.length ∧ (dPrim d p f).1.s.take (d.s.length - takesP p) = d.s.take (d.s.length - takesP p) := by
  unfold dPrim at h ⊢
  by_cases h1 : d.s.length < takesP p
  · rw [if_pos h1] at h; simp at h
  by_cases h2 : (d.b.length : Int) - f < needsP p
  · rw [if_neg h1, if_pos h2] at h; simp at h
  rw [if_neg h1, if_neg h2] at h ⊢
  unfold finE at h ⊢
  by_cases h3 : (eff d p).2.2 ≠ 0
  · rw [if_pos h3] at h; exact absurd h h3
  by_cases h4 : 32 < d.s.length - takesP p + (eff d p).2.1.length
  · rw [if_neg h3, if_pos h4] at h; simp at h
  rw [if_neg h3, if_neg h4]
  refine ⟨by omega, by simp, ?_⟩
  have hl : (d.s.take (d.s.length - takesP p)).length = d.s.length - takesP p := by rw [List.length_take]; omega
  show (d.s.take (d.s.length - takesP p) ++ (eff d p).2.1).take (d.s.length - takesP p) = _
  rw [List.take_append_of_le_length (by omega), List.take_of_length_le (by omega)]

/-- What six primitives come to, one by one: all that the law asks of each. -/
theorem prim_key {d : Dt} (hd : DtFine d) (p : Nat) (h1 : 1 ≤ p) (h2 : p ≤ 52) : ∃ r t, dApply d (p : Int) 0 = (r, t, 0) ∧ DtFine r ∧ dTakes (p : Int) = ((takesP p : Int), 0) ∧ (t ≠ 0 → r = d) ∧
    (t = 0 → takesP p ≤ d.s.length ∧ d.s.length - takesP p ≤ r.s.length ∧ r.s.take (d.s.length - takesP p) = d.s.take (d.s.length - takesP p)) := by
  have hi : inB (p : Int) 1 52 = true := inB_of (by omega) (by omega)
  have hf : inB 0 0 (d.b.length : Int) = true := inB_of (by omega) (by omega)
  have e : ((p : Int)).toNat = p := by omega
  refine ⟨(dPrim d p 0).1, (dPrim d p 0).2, ?_, prim_fine hd p 0 h1 h2, ?_, fun h => prim_same d p 0 h, fun h => prim_low d p 0 h⟩
  · unfold dApply
    rw [if_neg (by rw [dOK_true hd]; decide), if_neg (by rw [hi]; decide), if_neg (by rw [hf]; decide), e]
  · unfold dTakes
    rw [if_pos hi, e]

theorem prim_none {d : Dt} (hd : DtFine d) : dApply d 53 0 = (noDt, 0, 9) := by
  unfold dApply
  rw [if_neg (by rw [dOK_true hd]; decide), if_pos (by decide)]

end Go.Proofs.YthnbaeamekolmaaGreatDoor
