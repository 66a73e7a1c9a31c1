/- What the laws' helpers on rows of texts give: are two alike; marks laid into one; marks found in one. -/
import Derived.Test.YtjlfbmplmddceaaDoorWordsA
import Derived.Deep.QuietTactic
import Derived.BigQuiet
import Derived.Deep.RegionHeld3
namespace Go.Proofs.YtjlfbmplmddceaaDoor
open Go.RowKit
set_option linter.unusedVariables false
set_option linter.unusedSimpArgs false

/-- A slice, nil or not, that reads as these texts. -/
def Strs (w : World) (A : Option Addr) (cap : Nat) (Q : List (List UInt8)) : Prop := Q.length ≤ maxLen ∧ (0 < Q.length → ∃ g, A = some ⟨g, 0, none⟩ ∧ ∀ k (h : k < Q.length), w.cell? ⟨g, k, none⟩ = some (.string ⟨Q[k].toArray⟩))

theorem strs_of_own {w : World} {base : Nat} {v : Value} {Q : List (List UInt8)} (h : w.ownsRow base 9 1 v Q.length (Q.map strV)) : ∃ A cap, v = .slice A Q.length cap ∧ Strs w A cap Q := by
  rcases h.2 with ⟨hv, h0⟩ | ⟨g, cap, cur, hv, hb, hg, h1, h2, h3, h4⟩
  · exact ⟨none, 0, by rw [hv, h0], by rw [h0]; exact Nat.zero_le _, fun hp => by omega⟩
  · refine ⟨some ⟨g, 0, none⟩, cap, hv, Nat.le_trans h1 h2, fun _ => ⟨g, rfl, fun k hk => ?_⟩⟩
    subst hv
    rw [h.cellAt k (by omega)]
    simp [strV, hk]

theorem strs_draws {w : World} {A : Option Addr} {cap n : Nat} {Q : List (List UInt8)} (h : Strs w A cap Q) : Strs (w.drewN n) A cap Q := h

/-- The first k texts are alike. -/
def AlikeTo (P Q : List (List UInt8)) (k : Nat) : Prop := P.take k = Q.take k

theorem alike_zero (P Q : List (List UInt8)) : AlikeTo P Q 0 := by unfold AlikeTo; simp

theorem alike_next {P Q : List (List UInt8)} {k : Nat} (h : AlikeTo P Q k) (hp : k < P.length) (hq : k < Q.length) (e : P[k] = Q[k]) : AlikeTo P Q (k + 1) := by
  unfold AlikeTo at *
  rw [List.take_succ_eq_append_getElem hp, List.take_succ_eq_append_getElem hq, h, e]

theorem alike_end {P Q : List (List UInt8)} (hl : P.length = Q.length) (h : AlikeTo P Q P.length) : (P == Q) = true := by
  unfold AlikeTo at h
  rw [List.take_length, hl, List.take_length] at h
  simpa using h

theorem alike_len {P Q : List (List UInt8)} (hl : P.length ≠ Q.length) : (P == Q) = false := by
  rw [beq_eq_false_iff_ne]; intro e; rw [e] at hl; exact hl rfl

theorem alike_not {P Q : List (List UInt8)} {k : Nat} (hp : k < P.length) (hq : k < Q.length) (e : P[k] ≠ Q[k]) : (P == Q) = false := by
  rw [beq_eq_false_iff_ne]; intro h; subst h; exact e rfl

theorem text_eq_test (p q : List UInt8) : ((⟨p.toArray⟩ : ByteArray).toList == (⟨q.toArray⟩ : ByteArray).toList) = (p == q) := by
  rw [Lib.toList_data, Lib.toList_data]

/-- What a comparison leaves: draws alone. -/
def SameOf (w : World) (b : Bool) (e : Ending) (w' : World) : Prop := ∃ n : Nat, e = .returned (.bool b) ∧ w' = w.drewN n

set_option maxRecDepth 100000 in
set_option maxHeartbeats 1000000 in
theorem eqStrs_any (A B : Option Addr) (ca cb : Nat) (P Q : List (List UInt8)) (w : World) (ha : Strs w A ca P) (hb : Strs w B cb Q) :
    Calls Tryd.prog 12 #[.slice A P.length ca, .slice B Q.length cb] w (SameOf w (P == Q)) := by
  obtain ⟨pm, ha⟩ := ha
  obtain ⟨qm, hb⟩ := hb
  unfold maxLen at pm qm
  by_cases hl : P.length = Q.length
  · have z0 : ((P.length : Int) != (Q.length : Int)) = false := by simp [hl]
    have LE := Lib.hid hl
    have hlq : P.length ≤ Q.length := by omega
    have HA := Lib.hid ha
    have HB := Lib.hid hb
    clear hl ha hb
    go_enter Tryd.func12, Tryd.ntmps12
    go_wp2
    clear z0
    go_loopw [5] (fun i wr => ∃ k n : Nat, k ≤ P.length ∧ i = .int .i64 k ∧ AlikeTo P Q k ∧ wr = w.drewN n) (fun i _ => P.length - (intOf i).toNat)
    case atStart => exact ⟨0, 0, Nat.zero_le _, rfl, alike_zero _ _, rfl⟩
    case round =>
      obtain ⟨k, n, hk, rfl, hat, rfl⟩ := hrel
      have AT := Lib.hid hat
      clear hat
      by_cases hlt : k < P.length
      · have hlt2 : k < Q.length := by omega
        obtain ⟨ga, rfl, hca⟩ := HA.out (by omega)
        obtain ⟨gb, rfl, hcb⟩ := HB.out (by omega)
        have ka := hca k hlt
        have kb := hcb k hlt2
        clear hca hcb
        by_cases e : P[k] = Q[k]
        · have t1 : ((⟨P[k].toArray⟩ : ByteArray).toList == (⟨Q[k].toArray⟩ : ByteArray).toList) = true := by rw [text_eq_test, e]; simp
          have NX := Lib.hid (alike_next AT.out hlt hlt2 e)
          clear e
          generalize (⟨P[k].toArray⟩ : ByteArray) = x at *
          generalize (⟨Q[k].toArray⟩ : ByteArray) = y at *
          go_wp2
          go_quiet (fail)
          go_wp2
          go_roundw
          case rel => exact ⟨k + 1, _, by omega, by go_num, NX.out, rfl⟩
          case measure => simp [intOf]; omega
        · have t1 : ((⟨P[k].toArray⟩ : ByteArray).toList == (⟨Q[k].toArray⟩ : ByteArray).toList) = false := by rw [text_eq_test]; simpa using e
          have NO := Lib.hid (alike_not hlt hlt2 e)
          clear e
          generalize (⟨P[k].toArray⟩ : ByteArray) = x at *
          generalize (⟨Q[k].toArray⟩ : ByteArray) = y at *
          go_wp2
          go_quiet (fail)
          go_wp2
          go_ret
          exact ⟨_, ret_bool NO.out.symm, by rw [World.drewN_drewN]⟩
      · obtain rfl : k = P.length := by omega
        have E := Lib.hid (alike_end LE.out AT.out)
        go_wp2
        go_ret
        exact ⟨_, ret_bool E.out.symm, rfl⟩
  · have z0 : ((P.length : Int) != (Q.length : Int)) = true := by rw [bne_iff_ne]; omega
    have E := Lib.hid (alike_len hl)
    clear hl ha hb
    go_enter Tryd.func12, Tryd.ntmps12
    go_wp2
    go_ret
    exact ⟨0, ret_bool E.out.symm, rfl⟩

end Go.Proofs.YtjlfbmplmddceaaDoor
