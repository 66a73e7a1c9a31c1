/-
  DERIVED. GIVEN WITH THE SEED: THE CARDS: each row of YtjhnhlknfkiodaaDoorRows.lean that lists a variable, with what it lists TIED to the program's text (the seventh form; the later family's looks); each row that meets fmt, with fmt's text TOLD by the authors' own Lean function (tested against real Go, not proved from fmt's source: count such statements apart). THE CARD IS WHAT COUNTS. Prove the row's statement (the work); the ties are given (YtjhnhlknfkiodaaDoorTie.lean); close each card by the builder's one call (the guide's Derived/Test/ToyasCard.lean, 'card_holds'). Laid BY PROGRAM, IN A SANDBOX (cutbox-door.mjs). By AI agents, Wed Nov 11 2026. No macro, syntax, notation, axiom, sorry.
-/
import Derived.Test.YtjhnhlknfkiodaaDoorRows
import GoSem.ClaimSeven
namespace Go.Proofs.YtjhnhlknfkiodaaDoor
namespace Rows

/-- THE TIED CARD OF 'laws.FnWords'. -/
def fnWordsCard : Claim7 := { stood := { row := fnWordsRow, standIns := [], harness := (true, "1cc57d74d7ac6f5300e1ffde32d21b6a9def104d9da78c0184803a9c3a033ca4"), looks := true }, kinds := [], alts := [], laidByText := true, laidKinds := [.sentinel, .sentinel], laidTests := true, laidLooks := .later }
def FnWordsCardSaid : Prop := Claim7.holds Tryd.pinned (.plain (OpenSpec.ofChange fnWordsSpec)) fnWordsCard

/-- THE TIED CARD OF 'laws.FnExactLineWords'. -/
def fnExactLineWordsCard : Claim7 := { stood := { row := fnExactLineWordsRow, standIns := [], harness := (true, "1cc57d74d7ac6f5300e1ffde32d21b6a9def104d9da78c0184803a9c3a033ca4"), looks := true }, kinds := [], alts := [], laidByText := true, laidKinds := [.sentinel, .sentinel], laidTests := true, laidLooks := .later }
def FnExactLineWordsCardSaid : Prop := Claim7.holds Tryd.pinned (.plain (OpenSpec.ofChange fnExactLineWordsSpec)) fnExactLineWordsCard

/-- THE SECOND FORM's CARD OF 'laws.FnWords'. -/
def fnWordsUptoCard : Claim7 := { stood := { row := fnWordsUptoRow, standIns := [], harness := (true, "1cc57d74d7ac6f5300e1ffde32d21b6a9def104d9da78c0184803a9c3a033ca4"), looks := true }, kinds := [], alts := [], laidByText := true, laidKinds := [.sentinel, .sentinel], laidTests := true, laidLooks := .later }
def FnWordsUptoCardSaid : Prop := Claim7.holds Tryd.pinned (.plain (OpenSpec.upto fnWordsSpec)) fnWordsUptoCard

/-- THE SECOND FORM's CARD OF 'laws.FnExactLineWords'. -/
def fnExactLineWordsUptoCard : Claim7 := { stood := { row := fnExactLineWordsUptoRow, standIns := [], harness := (true, "1cc57d74d7ac6f5300e1ffde32d21b6a9def104d9da78c0184803a9c3a033ca4"), looks := true }, kinds := [], alts := [], laidByText := true, laidKinds := [.sentinel, .sentinel], laidTests := true, laidLooks := .later }
def FnExactLineWordsUptoCardSaid : Prop := Claim7.holds Tryd.pinned (.plain (OpenSpec.upto fnExactLineWordsSpec)) fnExactLineWordsUptoCard
end Rows
end Go.Proofs.YtjhnhlknfkiodaaDoor
