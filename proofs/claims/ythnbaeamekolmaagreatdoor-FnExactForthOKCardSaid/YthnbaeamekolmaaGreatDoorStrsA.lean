/- What the laws' helpers on rows of texts give: are two alike; marks laid into one; marks found in one. -/
import Derived.Test.YthnbaeamekolmaaGreatDoorWordsA
import Derived.Deep.QuietTactic
import Derived.BigQuiet
import Derived.Deep.RegionHeld3
namespace Go.Proofs.YthnbaeamekolmaaGreatDoor
open Go.RowKit
set_option linter.unusedVariables false
set_option linter.unusedSimpArgs false

/-- A slice, nil or not, that reads as these texts. -/
def Strs (w : World) (A : Option Addr) (cap : Nat) (Q : List (List UInt8)) : Prop := Q.length ≤ maxLen ∧ (0 < Q.length → ∃ g, A = some ⟨g, 0, none⟩ ∧ ∀ k (h : k < Q.length), w.cell? ⟨g, k, none⟩ = some (.string ⟨Q[k].toArray⟩))

theorem strs_of_own {w : World} {base : Nat} {v : Value} {Q : List (List UInt8)} (h : w.ownsRow base 9 1 v Q.length (Q.map strV)) : ∃ A cap, v = .slice A Q.length cap ∧ Strs w A cap Q := by
  rcases h.2 with ⟨hv, h0⟩ | ⟨g, cap, cur, hv, hb, hg, h1, h2, h3, h4⟩
  · exact ⟨none, 0, by rw [hv, h0], by rw [h0]; exact Nat.zero_le _, fun hp => by omega⟩
  · refine ⟨some ⟨g, 0, none⟩, cap, hv, Nat.le_trans h1 h2, fun _ => ⟨g, rfl, fun k hk => ?_⟩⟩
    subst hv
    rw [h.cellAt k (by omega)]
    simp [strV, hk]

theorem strs_draws {w : World} {A : Option Addr} {cap n : Nat} {Q : List (List UInt8)} (h : Strs w A cap Q) : Strs (w.drewN n) A cap Q := h

/-- The first k texts are alike. -/
def AlikeTo (P Q : List (List UInt8)) (k : Nat) : Prop := P.take k = Q.take k

theorem alike_zero (P Q : List (List UInt8)) : AlikeTo P Q 0 := by unfold AlikeTo; simp

theorem alike_next {P Q : List (List UInt8)} {k : Nat} (h : AlikeTo P Q k) (hp : k < P.length) (hq : k < Q.length) (e : P[k] = Q[k]) : AlikeTo P Q (k + 1) := by
  unfold AlikeTo at *
  rw [List.take_succ_eq_append_getElem hp, List.take_succ_eq_append_getElem hq, h, e]

theorem alike_end {P Q : List (List UInt8)} (hl : P.length = Q.length) (h : AlikeTo P Q P.length) : (P == Q) = true := by
  unfold AlikeTo at h
  rw [List.take_length, hl, List.take_length] at h
  simpa using h

theorem alike_len {P Q : List (List UInt8)} (hl : P.length ≠ Q.length) : (P == Q) = false := by
  rw [beq_eq_false_iff_ne]; intro e; rw [e] at hl; exact hl rfl

theorem alike_not {P Q : List (List UInt8)} {k : Nat} (hp : k < P.length) (hq : k < Q.length) (e : P[k] ≠ Q[k]) : (P == Q) = false := by
  rw [beq_eq_false_iff_ne]; intro h; subst h; exact e rfl

theorem text_eq_test (p q : List UInt8) : ((⟨p.toArray⟩ : ByteArray).toList == (⟨q.toArray⟩ : ByteArray).toList) = (p == q) := by
  rw [Lib.toList_data, Lib.toList_data]

/-- What a comparison leaves: draws alone. -/
def SameOf (w : World) (b : Bool) (e : Ending) (w' : World) : Prop := ∃ n : Nat, e = .returned (.bool b) ∧ w' = w.drewN n

end Go.Proofs.YthnbaeamekolmaaGreatDoor
