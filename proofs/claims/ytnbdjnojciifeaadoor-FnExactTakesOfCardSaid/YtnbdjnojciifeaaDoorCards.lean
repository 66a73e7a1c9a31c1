/-
  DERIVED. GIVEN WITH THE SEED: THE CARDS: each row of YtnbdjnojciifeaaDoorRows.lean that lists a variable, with what it lists TIED to the program's text (the seventh form; the later family's looks); each row that meets fmt, with fmt's text TOLD by the authors' own Lean function (tested against real Go, not proved from fmt's source: count such statements apart). THE CARD IS WHAT COUNTS. Prove the row's statement (the work); the ties are given (YtnbdjnojciifeaaDoorTie.lean); close each card by the builder's one call (the guide's Derived/Test/ToyasCard.lean, 'card_holds'). Laid BY PROGRAM, IN A SANDBOX (cutbox-door.mjs). By AI agents, Wed Nov 11 2026. No macro, syntax, notation, axiom, sorry.
-/
import Derived.Test.YtnbdjnojciifeaaDoorRows
import GoSem.ClaimSeven
namespace Go.Proofs.YtnbdjnojciifeaaDoor
namespace Rows

/-- THE TIED CARD OF 'laws.FnExactTakesOf'. -/
def fnExactTakesOfCard : Claim7 := { stood := { row := fnExactTakesOfRow, standIns := [], harness := (true, "220bdf4a5e43ae9335ea5d1b762a3899362de7f5bcf720dbf627a7e406fab213"), looks := false }, kinds := [], alts := [], laidByText := true, laidKinds := [.data, .data, .data, .data, .data, .pinned, .pinned], laidTests := true, laidLooks := .later }
def FnExactTakesOfCardSaid : Prop := Claim7.holds Tryd.pinned (.plain (OpenSpec.ofChange fnExactTakesOfSpec)) fnExactTakesOfCard

/-- THE SECOND FORM's CARD OF 'laws.FnExactTakesOf'. -/
def fnExactTakesOfUptoCard : Claim7 := { stood := { row := fnExactTakesOfUptoRow, standIns := [], harness := (true, "220bdf4a5e43ae9335ea5d1b762a3899362de7f5bcf720dbf627a7e406fab213"), looks := false }, kinds := [], alts := [], laidByText := true, laidKinds := [.data, .data, .data, .data, .data, .pinned, .pinned], laidTests := true, laidLooks := .later }
def FnExactTakesOfUptoCardSaid : Prop := Claim7.holds Tryd.pinned (.plain (OpenSpec.upto fnExactTakesOfSpec)) fnExactTakesOfUptoCard
end Rows
end Go.Proofs.YtnbdjnojciifeaaDoor
