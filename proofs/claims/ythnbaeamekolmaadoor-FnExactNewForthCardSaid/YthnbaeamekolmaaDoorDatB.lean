/- The laws' copy of an argument's data. -/
import Derived.Test.YthnbaeamekolmaaDoorDatA
namespace Go.Proofs.YthnbaeamekolmaaDoor
open Go.RowKit
set_option linter.unusedVariables false
set_option linter.unusedSimpArgs false

theorem whole_new1 (w : World) (o : Obj) (t : TypeId) (cs : Array Value) : Whole ((w.alloc o).alloc (.cells cs t)) (w.heap.size + 1) t cs := by
  simpa using whole_new (w.alloc o) t cs

theorem whole_new2 (w : World) (o o' : Obj) (t : TypeId) (cs : Array Value) : Whole (((w.alloc o).alloc o').alloc (.cells cs t)) (w.heap.size + 1 + 1) t cs := by
  simpa using whole_new ((w.alloc o).alloc o') t cs

/-- A row apart from a block below its base stays when that block is written. -/
theorem row_store {w : World} {lo g i : Nat} {v u : Value} {zs : List Int} (h : Row w lo v zs) (hg : g < lo) : Row (w.setCell ⟨g, i, none⟩ u) lo v zs :=
  row_keep h fun k hk => Below.heap_setCell w _ u k (by have := row_lt h k hk; show k ≠ g; omega)

theorem below_base {a b : World} {n : Nat} (h : Below n a b) (hn : a.heap.size = n) : Below a.heap.size a b := by rw [hn]; exact h

end Go.Proofs.YthnbaeamekolmaaDoor
