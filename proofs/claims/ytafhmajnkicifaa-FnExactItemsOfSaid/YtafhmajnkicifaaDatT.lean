/- spec's inner operations on data: allot; new data. -/
import Derived.Test.YtafhmajnkicifaaDatS
namespace Go.Proofs.Ytafhmajnkicifaa
open Go.RowKit
set_option linter.unusedVariables false
set_option linter.unusedSimpArgs false

theorem zeroN_len {c : List Int} {a k : Nat} (h : a + k ≤ c.length) : (zeroN c a k).length = c.length := by unfold zeroN; simp; omega

theorem zeroN_none (c : List Int) (a : Nat) : zeroN c a 0 = c := by unfold zeroN; simp

theorem zeroN_next {c : List Int} {a k : Nat} (h : a + k < c.length) : (zeroN c a k).set (a + k) 0 = zeroN c a (k + 1) := by
  unfold zeroN
  rw [List.set_append_right _ _ (by simp; omega), List.length_take, Nat.min_eq_left (by omega), show a + k - a = k by omega,
    List.set_append_right _ _ (by simp), List.length_replicate, Nat.sub_self, List.drop_eq_getElem_cons h, List.set_cons_zero, show a + (k + 1) = a + k + 1 by omega,
    List.replicate_succ', List.append_assoc]
  rfl

theorem good_false {d : Dt} {n : Int} (h : ¬ goodMove d n) : n.tmod 4 ≠ 0 ∨ (n.tmod 4 = 0 ∧ inB (d.h + n.tdiv 4) 0 32 = false) := by
  by_cases h1 : n.tmod 4 = 0
  · right
    refine ⟨h1, ?_⟩
    unfold inB
    exact decide_eq_false (fun h2 => h ⟨h1, h2.1, h2.2⟩)
  · exact .inl h1

/-- A row stays when a cell of another block is written. -/
theorem row_apart {w : World} {base g i : Nat} {v u : Value} {zs : List Int} (h : Row w base v zs) (hg : v.ownBlock ≠ some g) : Row (w.setCell ⟨g, i, none⟩ u) base v zs :=
  row_keep h fun k hk => Below.heap_setCell w _ u k (by show k ≠ g; rintro rfl; exact hg hk)

end Go.Proofs.Ytafhmajnkicifaa
