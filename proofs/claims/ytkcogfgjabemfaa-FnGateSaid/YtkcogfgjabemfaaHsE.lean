/- GrantCap, the given side. -/
import Derived.Test.YtkcogfgjabemfaaHsD
namespace Go.Proofs.Ytkcogfgjabemfaa
open Go.RowKit
set_option linter.unusedVariables false
set_option linter.unusedSimpArgs false

/-- What granting comes to. -/
def hGrant (h : Ht) (c : Int) (yes : Bool) : Ht × Int := if hOK h then if inB c 0 3 then ({ h with g := h.g.set c.toNat yes }, 0) else (noHt, 9) else (noHt, 1)

/-- A host handed back in memory of its own, and a code. -/
def HResOf (w : World) (r : Ht × Int) (e : Ending) (w' : World) : Prop := ∃ u, e = .returned (.tuple #[u, .int .i64 r.2]) ∧ HostOf w' w.heap.size w'.heap.size u r.1 ∧ Below w.heap.size w w'

theorem hres_none {w w' : World} {c : Int} (hb : Below w.heap.size w w') : HResOf w (noHt, c) (.returned (.tuple #[.agg #[.slice none 0 0, .slice none 0 0, .slice none 0 0, .int .i64 0, .slice none 0 0], .int .i64 c])) w' :=
  ⟨_, rfl, hostOf_none _ _ _, hb⟩

end Go.Proofs.Ytkcogfgjabemfaa
