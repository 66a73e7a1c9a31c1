/-
  DERIVED. GIVEN WITH THE SEED: THE CARDS: each row of YthnbaeamekolmaaDoorRows.lean that lists a variable, with what it lists TIED to the program's text (the seventh form; the later family's looks); each row that meets fmt, with fmt's text TOLD by the authors' own Lean function (tested against real Go, not proved from fmt's source: count such statements apart). THE CARD IS WHAT COUNTS. Prove the row's statement (the work); the ties are given (YthnbaeamekolmaaDoorTie.lean); close each card by the builder's one call (the guide's Derived/Test/ToyasCard.lean, 'card_holds'). Laid BY PROGRAM, IN A SANDBOX (cutbox-door.mjs). By AI agents, Wed Nov 11 2026. No macro, syntax, notation, axiom, sorry.
-/
import Derived.Test.YthnbaeamekolmaaDoorRows
import GoSem.ClaimSeven
namespace Go.Proofs.YthnbaeamekolmaaDoor
namespace Rows

/-- THE TIED CARD OF 'laws.FnExactNewForth'. -/
def fnExactNewForthCard : Claim7 := { stood := { row := fnExactNewForthRow, standIns := [], harness := (true, "452971e3b5bc24c4c4ab6d9f4e2cfe338baa7f3501d60ff682906df11ffaf50d"), looks := false }, kinds := [], alts := [], laidByText := true, laidKinds := [.data, .data], laidTests := true, laidLooks := .later }
def FnExactNewForthCardSaid : Prop := Claim7.holds Tryd.pinned (.plain (OpenSpec.ofChange fnExactNewForthSpec)) fnExactNewForthCard

/-- THE SECOND FORM's CARD OF 'laws.FnExactNewForth'. -/
def fnExactNewForthUptoCard : Claim7 := { stood := { row := fnExactNewForthUptoRow, standIns := [], harness := (true, "452971e3b5bc24c4c4ab6d9f4e2cfe338baa7f3501d60ff682906df11ffaf50d"), looks := false }, kinds := [], alts := [], laidByText := true, laidKinds := [.data, .data], laidTests := true, laidLooks := .later }
def FnExactNewForthUptoCardSaid : Prop := Claim7.holds Tryd.pinned (.plain (OpenSpec.upto fnExactNewForthSpec)) fnExactNewForthUptoCard
end Rows
end Go.Proofs.YthnbaeamekolmaaDoor
