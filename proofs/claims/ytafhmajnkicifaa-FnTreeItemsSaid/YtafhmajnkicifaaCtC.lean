/- The given side's CheckItems, SizeOf, OpenAt; impl's OpenAt. -/
import Derived.Test.YtafhmajnkicifaaCtB
namespace Go.Proofs.Ytafhmajnkicifaa
open Go.RowKit
set_option linter.unusedVariables false
set_option linter.unusedSimpArgs false

theorem row_fresh (w : World) {base : Nat} (hb : base ≤ w.heap.size) : Row (w.alloc (.cells #[] 3)) base (.slice (some ⟨w.heap.size, 0, none⟩) 0 0) [] :=
  World.ownsRow_made w #[] 0 hb (by unfold maxLen; omega) rfl

theorem irow_room {w : World} {lo n k : Nat} {A : Option Addr} {Q : List It} (h : IRow w lo (.slice A n k) Q) : n ≤ k := by
  rcases h.2 with ⟨hv, h0⟩ | ⟨g', cap', cur, hv, hb', hg, h1, h2, h3, h4⟩
  · simp only [Value.slice.injEq] at hv
    omega
  · simp only [Value.slice.injEq] at hv
    obtain ⟨_, rfl, rfl⟩ := hv
    omega

/-- What l07Check comes to: the first item that does not fit. -/
def placeI (Q : List It) : Int × Int := if (goO Q []).1 < Q.length ∨ 0 < (goO Q []).2.length then (((goO Q []).1 : Int), 12) else (0, 0)

set_option maxRecDepth 100000 in
set_option maxHeartbeats 2000000 in
theorem sPlace_any (v : Value) (Q : List It) (w : World) (hv : Its w v Q) (hl : Q.length ≤ 60) (hq : ∀ x ∈ Q, itB x = true) :
    Calls Try.prog 31 #[v] w (TwoOf w (placeI Q)) := by
  have HV := Lib.hid hv
  have HQ := Lib.hid hq
  obtain ⟨_, A, cap, rfl, _⟩ := hv
  clear hq
  have R0 : Hid (Row (w.alloc (.cells #[] 3)) w.heap.size (.slice (some ⟨w.heap.size, 0, none⟩) 0 0) []) := Lib.hid (row_fresh w (Nat.le_refl _))
  have B0 : Hid (Below w.heap.size w (w.alloc (.cells #[] 3))) := Lib.hid (below_alloc (Below.refl _ _) _)
  go_enter Try.func31, Try.ntmps31
  go_wp2
  go_loopw [4, 5] (fun v i wr => ∃ (k : Nat) (o : List Int), k ≤ Q.length ∧ i = .int .i64 k ∧ Got Q k o ∧ Row wr w.heap.size v o ∧ Below w.heap.size w wr) (fun _ i _ => Q.length - (intOf i).toNat)
  case atStart => exact ⟨0, [], Nat.zero_le _, rfl, got_start Q, R0.out, B0.out⟩
  case round =>
    obtain ⟨k, o, hk, rfl, hg, hm, hb⟩ := hrel
    have HG := Lib.hid hg
    have HM := Lib.hid hm
    have HB := Lib.hid hb
    have zb : w.heap.size ≤ wr.heap.size := hb.size
    have ho : o.length ≤ 60 := by have := got_len hg; omega
    obtain ⟨_, C, c, rfl, _⟩ := row_ints hm
    clear hg hb hm
    by_cases hlt : k < Q.length
    · obtain ⟨_, A', ca', e', hc⟩ := its_below HV.out HB.out
      simp only [Value.slice.injEq, true_and] at e'
      obtain ⟨rfl, rfl⟩ := e'
      obtain ⟨ga, rfl, ha⟩ := hc (by omega)
      obtain ⟨c0, c1⟩ := ha k hlt
      have hi := itB_kind (HQ.out Q[k] (List.getElem_mem hlt))
      clear ha hc
      go_wp2_with fail
      refine (sStep_any _ w.heap.size _ o Q[k].k HM.out (by omega) zb hi).mono ?_
      rintro e w2 ⟨u, rfl, hr2, hb2⟩
      have B2 := Lib.hid (below_step HB.out hb2)
      have R2 := Lib.hid hr2
      clear hb2 c0 c1 hr2
      by_cases hf : fitB o Q[k].k = true
      · have G2 := Lib.hid (got_fit HG.out hlt hf)
        rw [hf]
        clear hf
        go_wp2
        go_roundw
        case rel => exact ⟨k + 1, _, by omega, by go_num, G2.out, R2.out, B2.out⟩
        case measure => simp [intOf]; omega
      · have hf : fitB o Q[k].k = false := by simpa using hf
        have G2 := Lib.hid (got_not HG.out hlt hf)
        have EP : Hid (placeI Q = ((k : Int), 12)) := Lib.hid (by unfold placeI; rw [G2.out]; rw [if_pos (.inl hlt)])
        rw [hf]
        clear hf
        go_wp2
        go_ret2
        exact ⟨by rw [EP.out]; rfl, B2.out⟩
    · obtain rfl : k = Q.length := by omega
      have G2 := Lib.hid (got_end HG.out)
      clear hlt
      by_cases hz : o.length = 0
      · obtain rfl : o = [] := List.eq_nil_of_length_eq_zero hz
        have EP : Hid (placeI Q = (0, 0)) := Lib.hid (by unfold placeI; rw [G2.out]; rw [if_neg (by simp)])
        clear hz ho
        go_wp2
        go_ret2
        exact ⟨by rw [EP.out]; rfl, HB.out⟩
      · have EP : Hid (placeI Q = ((Q.length : Int), 12)) := Lib.hid (by unfold placeI; rw [G2.out]; rw [if_pos (.inr (by simp; omega))])
        have t1 : (0 : Int) < (o.length : Int) := by omega
        clear hz
        go_wp2
        go_ret2
        exact ⟨by rw [EP.out]; rfl, HB.out⟩

/-- A list of numbers and a code. -/
def ListCOf (w : World) (p : List Int × Int) (e : Ending) (w' : World) : Prop := ∃ v, e = .returned (.tuple #[v, .int .i64 p.2]) ∧ Row w' w.heap.size v p.1 ∧ Below w.heap.size w w'

theorem openI_small (Q : List It) (p : Int) : (openI Q p).1.length ≤ 1000 := by
  unfold openI
  by_cases h0 : askI Q = 0
  · obtain ⟨h1, _⟩ := askI_ok h0
    have h2 := goO_len (Q.take p.toNat) []
    rw [List.length_take] at h2
    rw [if_neg (by simpa using h0)]
    split
    · simp
    · split
      · simp
      · show (goO (Q.take p.toNat) []).2.length ≤ 1000
        simp only [List.length_nil, Nat.zero_add] at h2; omega
  · rw [if_pos h0]; simp

end Go.Proofs.Ytafhmajnkicifaa
