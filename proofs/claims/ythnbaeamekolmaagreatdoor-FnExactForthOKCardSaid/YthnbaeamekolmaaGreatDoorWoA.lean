/- The given side's number of a kernel's word. -/
import Derived.Test.YthnbaeamekolmaaGreatDoorKerB
import Derived.Test.YthnbaeamekolmaaGreatDoorDatA
namespace Go.Proofs.YthnbaeamekolmaaGreatDoor
open Go.RowKit
set_option linter.unusedVariables false
set_option linter.unusedSimpArgs false

/-- A number, memory made. -/
def NumOf (w : World) (n : Int) (e : Ending) (w' : World) : Prop := e = .returned (.int .i64 n) ∧ Below w.heap.size w w'

theorem text_eqW {x y : ByteArray} : (x.toList == y.toList) = decide (x = y) := by
  rw [Bool.eq_iff_iff]
  simp only [beq_iff_eq, decide_eq_true_eq]
  constructor
  · intro h
    rw [Lib.toList_data, Lib.toList_data] at h
    exact ByteArray.ext (Array.toList_inj.1 h)
  · rintro rfl; rfl

set_option maxRecDepth 100000 in
set_option maxHeartbeats 1000000 in
theorem sWord_any (nm : ByteArray) (N : Nat) (w : World) (hN : N < 83) (h1 : kname N = nm) (h2 : (kkind N : Int) + 1 ≠ 5) (h3 : ∀ j, j < N → kname j ≠ nm) :
    Calls Tryz.prog 232 #[.string nm] w (NumOf w (N + 1)) := by
  have H1 := Lib.hid h1
  have H2 := Lib.hid h2
  have H3 := Lib.hid h3
  clear h1 h2 h3
  go_enter Tryz.func232, Tryz.ntmps232
  go_wp2_with fail
  refine (sKernel_any _).mono ?_
  rintro e w1 ⟨u, rfl, hr, _, hb⟩
  have KW := Lib.hid (wrow_wds hr)
  have B1 := Lib.hid hb
  obtain ⟨_, _, B, cb, rfl, _, _⟩ := wrow_wds hr
  have KL := Lib.hid kernW_len
  clear hr hb
  rw [kernW_len]
  go_wp2
  go_loop [4] (fun i => ∃ k : Nat, k ≤ N ∧ i = .int .i64 k) (fun i => 83 - (intOf i).toNat)
  case atStart => exact ⟨0, Nat.zero_le _, rfl⟩
  case round =>
    obtain ⟨k, hk, rfl⟩ := hrel
    obtain ⟨_, _, B', cb', e', _, hc⟩ := KW.out
    simp only [Value.slice.injEq, true_and] at e'
    obtain ⟨rfl, rfl⟩ := e'
    obtain ⟨gb, rfl, hb⟩ := hc (by rw [KL.out]; omega)
    have WB := hb k (by rw [KL.out]; omega)
    rw [kernW_at] at WB
    clear hb hc
    obtain ⟨b0, b1, b2⟩ := WB
    simp only [kernAt] at b0 b1 b2
    have hk83 : k < 83 := by omega
    by_cases hlt : k < N
    · have t1 : ((kname k).toList == nm.toList) = false := by rw [text_eqW, decide_eq_false (H3.out k hlt)]
      generalize kname k = x at *
      go_wp2
      go_round
      case rel => exact ⟨k + 1, by omega, by go_num⟩
      case measure => simp [intOf]; omega
    · obtain rfl : k = N := by omega
      have t1 : ((kname k).toList == nm.toList) = true := by rw [text_eqW, decide_eq_true H1.out]
      have t2 : (((kkind k : Int) + 1) != 5) = true := by simpa using H2.out
      clear hlt
      generalize kname k = x at *
      go_wp2
      go_ret
      exact ⟨rfl, B1.out⟩

theorem kname_ne {j : Nat} {l : List UInt8} (h : knames.getD j [] ≠ l) : kname j ≠ ⟨l.toArray⟩ := by
  unfold kname
  intro e
  injection e with e
  exact h (Array.toList_inj.2 e)

theorem sW_LIT (w : World) : Calls Tryz.prog 232 #[.string ⟨#[40, 76, 73, 84, 41]⟩] w (NumOf w 57) :=
  sWord_any ⟨#[40, 76, 73, 84, 41]⟩ 56 w (by decide) (by decide) (by decide) (fun j hj => kname_ne (l := [40, 76, 73, 84, 41]) ((by decide : ∀ j, j < 56 → knames.getD j [] ≠ [40, 76, 73, 84, 41]) j hj))

theorem sW_BRANCH (w : World) : Calls Tryz.prog 232 #[.string ⟨#[40, 66, 82, 65, 78, 67, 72, 41]⟩] w (NumOf w 58) :=
  sWord_any ⟨#[40, 66, 82, 65, 78, 67, 72, 41]⟩ 57 w (by decide) (by decide) (by decide) (fun j hj => kname_ne (l := [40, 66, 82, 65, 78, 67, 72, 41]) ((by decide : ∀ j, j < 57 → knames.getD j [] ≠ [40, 66, 82, 65, 78, 67, 72, 41]) j hj))

theorem sW_ZERO (w : World) : Calls Tryz.prog 232 #[.string ⟨#[40, 48, 66, 82, 65, 78, 67, 72, 41]⟩] w (NumOf w 59) :=
  sWord_any ⟨#[40, 48, 66, 82, 65, 78, 67, 72, 41]⟩ 58 w (by decide) (by decide) (by decide) (fun j hj => kname_ne (l := [40, 48, 66, 82, 65, 78, 67, 72, 41]) ((by decide : ∀ j, j < 58 → knames.getD j [] ≠ [40, 48, 66, 82, 65, 78, 67, 72, 41]) j hj))

theorem sW_DO (w : World) : Calls Tryz.prog 232 #[.string ⟨#[40, 68, 79, 41]⟩] w (NumOf w 60) :=
  sWord_any ⟨#[40, 68, 79, 41]⟩ 59 w (by decide) (by decide) (by decide) (fun j hj => kname_ne (l := [40, 68, 79, 41]) ((by decide : ∀ j, j < 59 → knames.getD j [] ≠ [40, 68, 79, 41]) j hj))

theorem sW_LOOP (w : World) : Calls Tryz.prog 232 #[.string ⟨#[40, 76, 79, 79, 80, 41]⟩] w (NumOf w 61) :=
  sWord_any ⟨#[40, 76, 79, 79, 80, 41]⟩ 60 w (by decide) (by decide) (by decide) (fun j hj => kname_ne (l := [40, 76, 79, 79, 80, 41]) ((by decide : ∀ j, j < 60 → knames.getD j [] ≠ [40, 76, 79, 79, 80, 41]) j hj))

theorem sW_PLUS (w : World) : Calls Tryz.prog 232 #[.string ⟨#[40, 43, 76, 79, 79, 80, 41]⟩] w (NumOf w 62) :=
  sWord_any ⟨#[40, 43, 76, 79, 79, 80, 41]⟩ 61 w (by decide) (by decide) (by decide) (fun j hj => kname_ne (l := [40, 43, 76, 79, 79, 80, 41]) ((by decide : ∀ j, j < 61 → knames.getD j [] ≠ [40, 43, 76, 79, 79, 80, 41]) j hj))

theorem sW_EXIT (w : World) : Calls Tryz.prog 232 #[.string ⟨#[69, 88, 73, 84]⟩] w (NumOf w 53) :=
  sWord_any ⟨#[69, 88, 73, 84]⟩ 52 w (by decide) (by decide) (by decide) (fun j hj => kname_ne (l := [69, 88, 73, 84]) ((by decide : ∀ j, j < 52 → knames.getD j [] ≠ [69, 88, 73, 84]) j hj))

end Go.Proofs.YthnbaeamekolmaaGreatDoor
