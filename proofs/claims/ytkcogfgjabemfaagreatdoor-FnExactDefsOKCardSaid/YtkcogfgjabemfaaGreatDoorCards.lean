/-
  DERIVED. GIVEN WITH THE SEED: THE CARDS: each row of YtkcogfgjabemfaaGreatDoorRows.lean that lists a variable, with what it lists TIED to the program's text (the seventh form; the later family's looks); each row that meets fmt, with fmt's text TOLD by the authors' own Lean function (tested against real Go, not proved from fmt's source: count such statements apart). THE CARD IS WHAT COUNTS. Prove the row's statement (the work); the ties are given (YtkcogfgjabemfaaGreatDoorTie.lean); close each card by the builder's one call (the guide's Derived/Test/ToyasCard.lean, 'card_holds'). Laid BY PROGRAM, IN A SANDBOX (cutbox-door.mjs). By AI agents, Wed Nov 11 2026. No macro, syntax, notation, axiom, sorry.
-/
import Derived.Test.YtkcogfgjabemfaaGreatDoorRows
import GoSem.ClaimSeven
namespace Go.Proofs.YtkcogfgjabemfaaGreatDoor
namespace Rows

/-- THE TIED CARD OF 'laws.FnExactDefsOK'. -/
def fnExactDefsOKCard : Claim7 := { stood := { row := fnExactDefsOKRow, standIns := [], harness := (true, "6de7af48d646e8ef32e7c7f345a50c7e71ae3e335a2a8185a0d4ff56ccbc8de7"), looks := false }, kinds := [], alts := [], laidByText := true, laidKinds := [.data, .data], laidTests := true, laidLooks := .later }
def FnExactDefsOKCardSaid : Prop := Claim7.holds Tryz.pinned (.plain (OpenSpec.ofChange fnExactDefsOKSpec)) fnExactDefsOKCard

/-- THE SECOND FORM's CARD OF 'laws.FnExactDefsOK'. -/
def fnExactDefsOKUptoCard : Claim7 := { stood := { row := fnExactDefsOKUptoRow, standIns := [], harness := (true, "6de7af48d646e8ef32e7c7f345a50c7e71ae3e335a2a8185a0d4ff56ccbc8de7"), looks := false }, kinds := [], alts := [], laidByText := true, laidKinds := [.data, .data], laidTests := true, laidLooks := .later }
def FnExactDefsOKUptoCardSaid : Prop := Claim7.holds Tryz.pinned (.plain (OpenSpec.upto fnExactDefsOKSpec)) fnExactDefsOKUptoCard
end Rows
end Go.Proofs.YtkcogfgjabemfaaGreatDoor
