/-
  DERIVED. GIVEN WITH THE SEED: THE CARDS: each row of YtjlfbmplmddceaaDoorRows.lean that lists a variable, with what it lists TIED to the program's text (the seventh form; the later family's looks); each row that meets fmt, with fmt's text TOLD by the authors' own Lean function (tested against real Go, not proved from fmt's source: count such statements apart). THE CARD IS WHAT COUNTS. Prove the row's statement (the work); the ties are given (YtjlfbmplmddceaaDoorTie.lean); close each card by the builder's one call (the guide's Derived/Test/ToyasCard.lean, 'card_holds'). Laid BY PROGRAM, IN A SANDBOX (cutbox-door.mjs). By AI agents, Wed Nov 11 2026. No macro, syntax, notation, axiom, sorry.
-/
import Derived.Test.YtjlfbmplmddceaaDoorRows
import GoSem.ClaimSeven
namespace Go.Proofs.YtjlfbmplmddceaaDoor
namespace Rows

/-- THE TIED CARD OF 'laws.FnExactCodeLines'. -/
def fnExactCodeLinesCard : Claim7 := { stood := { row := fnExactCodeLinesRow, standIns := [], harness := (true, "bdd17dae2d81f410deed05a96fc0d460282cf341edf2345ad319a0d6ac0dec11"), looks := false }, kinds := [], alts := [], laidByText := true, laidKinds := [.data, .data, .data, .data, .data], laidTests := true, laidLooks := .later }
def FnExactCodeLinesCardSaid : Prop := Claim7.holds Tryd.pinned (.plain (OpenSpec.ofChange fnExactCodeLinesSpec)) fnExactCodeLinesCard

/-- THE TIED CARD OF 'laws.FnExactNewMachine'. -/
def fnExactNewMachineCard : Claim7 := { stood := { row := fnExactNewMachineRow, standIns := [], harness := (true, "bdd17dae2d81f410deed05a96fc0d460282cf341edf2345ad319a0d6ac0dec11"), looks := false }, kinds := [], alts := [], laidByText := true, laidKinds := [.data, .data], laidTests := true, laidLooks := .later }
def FnExactNewMachineCardSaid : Prop := Claim7.holds Tryd.pinned (.plain (OpenSpec.ofChange fnExactNewMachineSpec)) fnExactNewMachineCard

/-- THE TIED CARD OF 'laws.FnExactMachineOK'. -/
def fnExactMachineOKCard : Claim7 := { stood := { row := fnExactMachineOKRow, standIns := [], harness := (true, "bdd17dae2d81f410deed05a96fc0d460282cf341edf2345ad319a0d6ac0dec11"), looks := false }, kinds := [], alts := [], laidByText := true, laidKinds := [.data, .data], laidTests := true, laidLooks := .later }
def FnExactMachineOKCardSaid : Prop := Claim7.holds Tryd.pinned (.plain (OpenSpec.ofChange fnExactMachineOKSpec)) fnExactMachineOKCard

/-- THE TIED CARD OF 'laws.FnExactSameMachine'. -/
def fnExactSameMachineCard : Claim7 := { stood := { row := fnExactSameMachineRow, standIns := [], harness := (true, "bdd17dae2d81f410deed05a96fc0d460282cf341edf2345ad319a0d6ac0dec11"), looks := false }, kinds := [], alts := [], laidByText := true, laidKinds := [.data, .data], laidTests := true, laidLooks := .later }
def FnExactSameMachineCardSaid : Prop := Claim7.holds Tryd.pinned (.plain (OpenSpec.ofChange fnExactSameMachineSpec)) fnExactSameMachineCard

/-- THE SECOND FORM's CARD OF 'laws.FnExactCodeLines'. -/
def fnExactCodeLinesUptoCard : Claim7 := { stood := { row := fnExactCodeLinesUptoRow, standIns := [], harness := (true, "bdd17dae2d81f410deed05a96fc0d460282cf341edf2345ad319a0d6ac0dec11"), looks := false }, kinds := [], alts := [], laidByText := true, laidKinds := [.data, .data, .data, .data, .data], laidTests := true, laidLooks := .later }
def FnExactCodeLinesUptoCardSaid : Prop := Claim7.holds Tryd.pinned (.plain (OpenSpec.upto fnExactCodeLinesSpec)) fnExactCodeLinesUptoCard

/-- THE SECOND FORM's CARD OF 'laws.FnExactNewMachine'. -/
def fnExactNewMachineUptoCard : Claim7 := { stood := { row := fnExactNewMachineUptoRow, standIns := [], harness := (true, "bdd17dae2d81f410deed05a96fc0d460282cf341edf2345ad319a0d6ac0dec11"), looks := false }, kinds := [], alts := [], laidByText := true, laidKinds := [.data, .data], laidTests := true, laidLooks := .later }
def FnExactNewMachineUptoCardSaid : Prop := Claim7.holds Tryd.pinned (.plain (OpenSpec.upto fnExactNewMachineSpec)) fnExactNewMachineUptoCard

/-- THE SECOND FORM's CARD OF 'laws.FnExactMachineOK'. -/
def fnExactMachineOKUptoCard : Claim7 := { stood := { row := fnExactMachineOKUptoRow, standIns := [], harness := (true, "bdd17dae2d81f410deed05a96fc0d460282cf341edf2345ad319a0d6ac0dec11"), looks := false }, kinds := [], alts := [], laidByText := true, laidKinds := [.data, .data], laidTests := true, laidLooks := .later }
def FnExactMachineOKUptoCardSaid : Prop := Claim7.holds Tryd.pinned (.plain (OpenSpec.upto fnExactMachineOKSpec)) fnExactMachineOKUptoCard

/-- THE SECOND FORM's CARD OF 'laws.FnExactSameMachine'. -/
def fnExactSameMachineUptoCard : Claim7 := { stood := { row := fnExactSameMachineUptoRow, standIns := [], harness := (true, "bdd17dae2d81f410deed05a96fc0d460282cf341edf2345ad319a0d6ac0dec11"), looks := false }, kinds := [], alts := [], laidByText := true, laidKinds := [.data, .data], laidTests := true, laidLooks := .later }
def FnExactSameMachineUptoCardSaid : Prop := Claim7.holds Tryd.pinned (.plain (OpenSpec.upto fnExactSameMachineSpec)) fnExactSameMachineUptoCard
end Rows
end Go.Proofs.YtjlfbmplmddceaaDoor
