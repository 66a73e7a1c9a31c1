/- How many cells a primitive takes, needs and drops. -/
import Derived.Test.YtnbdjnojciifeaaDoorRowA
namespace Go.Proofs.YtnbdjnojciifeaaDoor
open Go.RowKit
set_option linter.unusedVariables false
set_option linter.unusedSimpArgs false

def takesL : List Nat := [1, 1, 2, 2, 3, 2, 2, 1, 2, 2, 0, 1, 0, 0, 2, 2, 2, 2, 2, 2, 2, 2, 2, 2, 1, 1, 1, 1, 1, 2, 2, 2, 2, 2, 2, 2, 1, 1, 1, 2, 2, 0, 1, 1, 1, 1, 0, 0, 0, 0, 0, 0]

def takesP (p : Nat) : Nat := takesL.getD (p - 1) 0

def needsP (p : Nat) : Nat := if p = 13 ∨ p = 14 ∨ p = 51 then 1 else if p = 52 then 2 else 0

def dropsP (p : Nat) : Nat := if p = 13 then 1 else if p = 52 then 2 else 0

theorem below_step {a b c : World} (h : Below a.heap.size a b) (k : Below b.heap.size b c) : Below a.heap.size a c := h.trans (k.mono h.size)

theorem below_alloc {a b : World} (h : Below a.heap.size a b) (o : Obj) : Below a.heap.size a (b.alloc o) := h.alloc h.size o

end Go.Proofs.YtnbdjnojciifeaaDoor
