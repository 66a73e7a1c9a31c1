/- A new host, the given side. -/
import Derived.Test.YtkcogfgjabemfaaHsF
import Derived.Test.YtkcogfgjabemfaaDatM
import Derived.RegionTactic
import Derived.ChangeAlike
import Derived.BigRegion
import Derived.Deep.OwnRows
namespace Go.Proofs.Ytkcogfgjabemfaa
open Go.RowKit
set_option linter.unusedVariables false
set_option linter.unusedSimpArgs false

/-- A new host. -/
def newHt : Ht := ⟨List.replicate 4 false, List.replicate 8 0, [], 0, []⟩

theorem make_b (W : World) : (Instr.makeSlice 23 (.int .i64 4) (.int .i64 4)).run Try.prog W = .ok (.slice (some ⟨W.heap.size, 0, none⟩) 4 4) (W.alloc (.cells #[.bool false, .bool false, .bool false, .bool false] 4)) :=
  by
    have h := run_make_row' 23 4 (.bool false) 1 Try.underlying23 own_infoB rfl .i64 .i64 4 (by decide) (by decide) W
    rw [show madeCells #[Value.bool false] 4 = #[.bool false, .bool false, .bool false, .bool false] from Array.toList_inj.1 (by rw [toList_madeCells_one]; rfl)] at h
    exact h

theorem make_i (W : World) : (Instr.makeSlice 24 (.int .i64 8) (.int .i64 8)).run Try.prog W = .ok (.slice (some ⟨W.heap.size, 0, none⟩) 8 8) (W.alloc (.cells #[.int .i64 0, .int .i64 0, .int .i64 0, .int .i64 0, .int .i64 0, .int .i64 0, .int .i64 0, .int .i64 0] 3)) :=
  by
    have h := run_make_row' 24 3 (.int .i64 0) 8 Try.underlying24 own_info3 rfl .i64 .i64 8 (by decide) (by decide) W
    rw [show madeCells #[Value.int .i64 0] 8 = #[.int .i64 0, .int .i64 0, .int .i64 0, .int .i64 0, .int .i64 0, .int .i64 0, .int .i64 0, .int .i64 0] from Array.toList_inj.1 (by rw [toList_madeCells_one]; rfl)] at h
    exact h

theorem whole_newAt {w : World} {g : Nat} {t : TypeId} {cs : Array Value} (hg : g = w.heap.size) : Whole (w.alloc (.cells cs t)) g t cs := by
  subst hg
  exact whole_new w t cs

theorem whole_drew {w : World} {g : Nat} {t : TypeId} {cs : Array Value} (h : Whole w g t cs) : Whole w.drew g t cs := h

theorem hnew_fin {w W : World} {g s n d : Nat} (h1 : Whole W g 4 #[.bool false, .bool false, .bool false, .bool false])
    (h2 : Whole W s 3 #[.int .i64 0, .int .i64 0, .int .i64 0, .int .i64 0, .int .i64 0, .int .i64 0, .int .i64 0, .int .i64 0]) (h3 : Whole W n 3 #[]) (h4 : Whole W d 37 #[])
    (l : w.heap.size ≤ g ∧ w.heap.size ≤ s ∧ w.heap.size ≤ n ∧ w.heap.size ≤ d) (e : g ≠ s ∧ g ≠ n ∧ g ≠ d ∧ s ≠ n ∧ s ≠ d ∧ n ≠ d) (hb : Below w.heap.size w W) :
    HCopyOf w newHt (.returned (.agg #[.slice (some ⟨g, 0, none⟩) 4 4, .slice (some ⟨s, 0, none⟩) 8 8, .slice (some ⟨n, 0, none⟩) 0 0, .int .i64 0, .slice (some ⟨d, 0, none⟩) 0 0])) W := by
  obtain ⟨l1, l2, l3, l4⟩ := l
  obtain ⟨e1, e2, e3, e4, e5, e6⟩ := e
  have pt : ∀ (a b la lb : Nat), a ≠ b → Parted (.slice (some ⟨a, 0, none⟩) la la) (.slice (some ⟨b, 0, none⟩) lb lb) := fun a b la lb h k hk hk2 => by
    simp [Value.ownBlock] at hk hk2
    omega
  refine ⟨_, rfl, hostOf_rows (h := newHt) ?_ ?_ ?_ ?_ (pt _ _ _ _ e1) (pt _ _ _ _ e2) (pt _ _ _ _ e3) (pt _ _ _ _ e4) (pt _ _ _ _ e5) (pt _ _ _ _ e6), hb⟩
  · exact borow_whole (zs := List.replicate 4 false) h1 l1 (by unfold maxLen; simp)
  · exact row_whole (zs := List.replicate 8 0) h2 l2 (by unfold maxLen; simp)
  · exact row_empty h3 l3
  · exact ⟨by simp [newHt, dcells], .inr ⟨d, 0, #[], rfl, l4, h4, Nat.le_refl _, by unfold maxLen; simp, by simp [newHt], by simp [newHt, dcells]⟩⟩

set_option maxRecDepth 100000 in
set_option maxHeartbeats 8000000 in
theorem sHNew_any (w : World) : Calls Try.prog 91 #[] w (HCopyOf w newHt) := by
  have mb := make_b
  have mi := make_i
  go_enter Try.func91, Try.ntmps91
  go_wp2
  go_region
  all_goals
    go_wp2
    apply bodyPost_ret
    · simp [results, Try.results91, go_sem, *]
      rfl
    · rfl
    refine hnew_fin ?_ ?_ ?_ ?_ ⟨by omega, by omega, by omega, by omega⟩ ⟨by omega, by omega, by omega, by omega, by omega, by omega⟩ ?_
    · refine whole_drew ?_
      repeat (first | with_reducible exact whole_newAt (by simp) | with_reducible refine whole_alloc ?_ _)
    · refine whole_drew ?_
      repeat (first | with_reducible exact whole_newAt (by simp) | with_reducible refine whole_alloc ?_ _)
    · refine whole_drew ?_
      repeat (first | with_reducible exact whole_newAt (by simp) | with_reducible refine whole_alloc ?_ _)
    · refine whole_drew ?_
      repeat (first | with_reducible exact whole_newAt (by simp) | with_reducible refine whole_alloc ?_ _)
    · repeat (first | with_reducible exact Below.refl _ _ | with_reducible refine below_alloc ?_ _ | with_reducible refine Below.drew ?_)

end Go.Proofs.Ytkcogfgjabemfaa
