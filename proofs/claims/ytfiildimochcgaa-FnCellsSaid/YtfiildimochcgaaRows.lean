/-
  No cell of these rows narrows 'for every input' (looked for: loops, veiled, ifaces, maps, wideKeys, modest, calm, conditions, laid).
  DERIVED. THE GIVEN ROWS OF THIS SEAT. 7 by the template 'for every input the law returns true; each argument reads behind the call as it read before'; 0 by the template 'total and deterministic' (their statements: YtfiildimochcgaaTotals.lean).
  GIVEN WITH THE SEED: the statements are not yours to turn. If you find one false, say at which input.
  Laid BY PROGRAM, IN A SANDBOX (cutbox-rows.mjs): the forced cells as the released guide's own fill.sh prints them over the translation bdee1364234e3970… (all of the seat's roots in one cut). By AI agents, Wed Nov 11 2026. No macro, syntax, notation, axiom, sorry.
-/
import Derived.Test.YtfiildimochcgaaChecked
import GoSem.Claim
import GoSem.ClaimJoined
import GoSem.ClaimMapViews
import Derived.JoinedTies
import Derived.KernelRfl
namespace Go.Proofs.Ytfiildimochcgaa
/- THE CELL 'sum', in the pinned program and in every row, IS THE sha256 OF THE DUMP (.gsa) THAT YtfiildimochcgaaProg.lean LOADS. Nothing in Lean hashes anything: it is a label: what it is worth is what the hold of that sum in a sandbox is worth. -/
noncomputable def Try.pinned : Pinned := { name := "ytfiildimochcgaa", sum := "bdee1364234e39700f6be38110c05646f7d0e77175716ab5fae6ed5e8e4813a9", checked := Try.checked }
namespace Rows
def none {H : Type} : Left H := { results := [], args := [] }

/-- 'laws.FnCells': WHATEVER THE INPUT: true; the input reads as it did. -/
def fnCellsSpec : ChangeSpec := { name := "fnCells", fn := fun _ => fun
  | [d1, d2] => { results := [.lit (.bool true)], args := [d1, d2] }
  | _ => none }
def fnCellsRow : OpenClaim := { program := "ytfiildimochcgaa", sum := "bdee1364234e39700f6be38110c05646f7d0e77175716ab5fae6ed5e8e4813a9", func := "loop.example/g00787/laws.FnCells", spec := "fnCells", apart := false }
def FnCellsSaid : Prop := fnCellsRow.holds Try.pinned (OpenSpec.ofChange fnCellsSpec)

/-- ITS FALSE NEIGHBOUR: 'it returns false'. Refute it at one input. -/
def fnCellsWrong : ChangeSpec := { name := "fnCells", fn := fun _ => fun
  | [d1, d2] => { results := [.lit (.bool false)], args := [d1, d2] }
  | _ => none }
def FnCellsWrongFalsely : Prop := fnCellsRow.holds Try.pinned (OpenSpec.ofChange fnCellsWrong)

/-- 'laws.FnExactNameOK': WHATEVER THE INPUT: true; the input reads as it did. -/
def fnExactNameOKSpec : ChangeSpec := { name := "fnExactNameOK", fn := fun _ => fun
  | [d] => { results := [.lit (.bool true)], args := [d] }
  | _ => none }
def fnExactNameOKRow : OpenClaim := { program := "ytfiildimochcgaa", sum := "bdee1364234e39700f6be38110c05646f7d0e77175716ab5fae6ed5e8e4813a9", func := "loop.example/g00787/laws.FnExactNameOK", spec := "fnExactNameOK", apart := false }
def FnExactNameOKSaid : Prop := fnExactNameOKRow.holds Try.pinned (OpenSpec.ofChange fnExactNameOKSpec)

/-- ITS FALSE NEIGHBOUR: 'it returns false'. Refute it at one input. -/
def fnExactNameOKWrong : ChangeSpec := { name := "fnExactNameOK", fn := fun _ => fun
  | [d] => { results := [.lit (.bool false)], args := [d] }
  | _ => none }
def FnExactNameOKWrongFalsely : Prop := fnExactNameOKRow.holds Try.pinned (OpenSpec.ofChange fnExactNameOKWrong)

/-- 'laws.FnExactWrapCell': WHATEVER THE INPUT: true; the input reads as it did. -/
def fnExactWrapCellSpec : ChangeSpec := { name := "fnExactWrapCell", fn := fun _ => fun
  | [d] => { results := [.lit (.bool true)], args := [d] }
  | _ => none }
def fnExactWrapCellRow : OpenClaim := { program := "ytfiildimochcgaa", sum := "bdee1364234e39700f6be38110c05646f7d0e77175716ab5fae6ed5e8e4813a9", func := "loop.example/g00787/laws.FnExactWrapCell", spec := "fnExactWrapCell", apart := false }
def FnExactWrapCellSaid : Prop := fnExactWrapCellRow.holds Try.pinned (OpenSpec.ofChange fnExactWrapCellSpec)

/-- ITS FALSE NEIGHBOUR: 'it returns false'. Refute it at one input. -/
def fnExactWrapCellWrong : ChangeSpec := { name := "fnExactWrapCell", fn := fun _ => fun
  | [d] => { results := [.lit (.bool false)], args := [d] }
  | _ => none }
def FnExactWrapCellWrongFalsely : Prop := fnExactWrapCellRow.holds Try.pinned (OpenSpec.ofChange fnExactWrapCellWrong)

/-- 'laws.FnExactCellOK': WHATEVER THE INPUT: true; the input reads as it did. -/
def fnExactCellOKSpec : ChangeSpec := { name := "fnExactCellOK", fn := fun _ => fun
  | [d] => { results := [.lit (.bool true)], args := [d] }
  | _ => none }
def fnExactCellOKRow : OpenClaim := { program := "ytfiildimochcgaa", sum := "bdee1364234e39700f6be38110c05646f7d0e77175716ab5fae6ed5e8e4813a9", func := "loop.example/g00787/laws.FnExactCellOK", spec := "fnExactCellOK", apart := false }
def FnExactCellOKSaid : Prop := fnExactCellOKRow.holds Try.pinned (OpenSpec.ofChange fnExactCellOKSpec)

/-- ITS FALSE NEIGHBOUR: 'it returns false'. Refute it at one input. -/
def fnExactCellOKWrong : ChangeSpec := { name := "fnExactCellOK", fn := fun _ => fun
  | [d] => { results := [.lit (.bool false)], args := [d] }
  | _ => none }
def FnExactCellOKWrongFalsely : Prop := fnExactCellOKRow.holds Try.pinned (OpenSpec.ofChange fnExactCellOKWrong)

/-- 'laws.FnExactTwoCells': WHATEVER THE INPUT: true; the input reads as it did. -/
def fnExactTwoCellsSpec : ChangeSpec := { name := "fnExactTwoCells", fn := fun _ => fun
  | [d1, d2, d3] => { results := [.lit (.bool true)], args := [d1, d2, d3] }
  | _ => none }
def fnExactTwoCellsRow : OpenClaim := { program := "ytfiildimochcgaa", sum := "bdee1364234e39700f6be38110c05646f7d0e77175716ab5fae6ed5e8e4813a9", func := "loop.example/g00787/laws.FnExactTwoCells", spec := "fnExactTwoCells", apart := false }
def FnExactTwoCellsSaid : Prop := fnExactTwoCellsRow.holds Try.pinned (OpenSpec.ofChange fnExactTwoCellsSpec)

/-- ITS FALSE NEIGHBOUR: 'it returns false'. Refute it at one input. -/
def fnExactTwoCellsWrong : ChangeSpec := { name := "fnExactTwoCells", fn := fun _ => fun
  | [d1, d2, d3] => { results := [.lit (.bool false)], args := [d1, d2, d3] }
  | _ => none }
def FnExactTwoCellsWrongFalsely : Prop := fnExactTwoCellsRow.holds Try.pinned (OpenSpec.ofChange fnExactTwoCellsWrong)

/-- 'laws.FnExactUnsigned': WHATEVER THE INPUT: true; the input reads as it did. -/
def fnExactUnsignedSpec : ChangeSpec := { name := "fnExactUnsigned", fn := fun _ => fun
  | [d] => { results := [.lit (.bool true)], args := [d] }
  | _ => none }
def fnExactUnsignedRow : OpenClaim := { program := "ytfiildimochcgaa", sum := "bdee1364234e39700f6be38110c05646f7d0e77175716ab5fae6ed5e8e4813a9", func := "loop.example/g00787/laws.FnExactUnsigned", spec := "fnExactUnsigned", apart := false }
def FnExactUnsignedSaid : Prop := fnExactUnsignedRow.holds Try.pinned (OpenSpec.ofChange fnExactUnsignedSpec)

/-- ITS FALSE NEIGHBOUR: 'it returns false'. Refute it at one input. -/
def fnExactUnsignedWrong : ChangeSpec := { name := "fnExactUnsigned", fn := fun _ => fun
  | [d] => { results := [.lit (.bool false)], args := [d] }
  | _ => none }
def FnExactUnsignedWrongFalsely : Prop := fnExactUnsignedRow.holds Try.pinned (OpenSpec.ofChange fnExactUnsignedWrong)

/-- 'laws.FnExactReadCell': WHATEVER THE INPUT: true; the input reads as it did. -/
def fnExactReadCellSpec : ChangeSpec := { name := "fnExactReadCell", fn := fun _ => fun
  | [d1, d2] => { results := [.lit (.bool true)], args := [d1, d2] }
  | _ => none }
def fnExactReadCellRow : OpenClaim := { program := "ytfiildimochcgaa", sum := "bdee1364234e39700f6be38110c05646f7d0e77175716ab5fae6ed5e8e4813a9", func := "loop.example/g00787/laws.FnExactReadCell", spec := "fnExactReadCell", apart := false }
def FnExactReadCellSaid : Prop := fnExactReadCellRow.holds Try.pinned (OpenSpec.ofChange fnExactReadCellSpec)

/-- ITS FALSE NEIGHBOUR: 'it returns false'. Refute it at one input. -/
def fnExactReadCellWrong : ChangeSpec := { name := "fnExactReadCell", fn := fun _ => fun
  | [d1, d2] => { results := [.lit (.bool false)], args := [d1, d2] }
  | _ => none }
def FnExactReadCellWrongFalsely : Prop := fnExactReadCellRow.holds Try.pinned (OpenSpec.ofChange fnExactReadCellWrong)

/- THE SECOND FORM. 'bulk': how many values and letters a reading holds, each counted each time it is reached (what is shared counts as often as it is met; a slice's spare places count too). A statement '..UptoSaid' is the law's where the arguments, and the package variables that the reading takes, are together of bulk at most 1048576: NARROWER than '..Said'. Prove '..Said' where nothing that the law and all that it calls make is longer than what came in: it says more and counts as full. Else prove '..UptoSaid'. A law counts once. -/
mutual
def uptoBulk {H : Type} : DataW H → Nat
  | .lit (.string bytes) => bytes.length + 1
  | .lit _ => 1
  | .nil => 1
  | .ptr d => uptoBulk d + 1
  | .slice elems spare => uptoBulkAll elems + uptoBulkAll spare + 1
  | .agg parts => uptoBulkAll parts + 1
  | .iface _ d => uptoBulk d + 1
  | .map entries => uptoBulkEntries entries + 1
  | .held _ => 1
def uptoBulkAll {H : Type} : List (DataW H) → Nat
  | [] => 0
  | d :: r => uptoBulk d + uptoBulkAll r
def uptoBulkEntries {H : Type} : List (Lit × DataW H) → Nat
  | [] => 0
  | x :: r => uptoBulkEntry x + uptoBulkEntries r
def uptoBulkEntry {H : Type} : Lit × DataW H → Nat
  | (.string bytes, d) => bytes.length + uptoBulk d + 1
  | (_, d) => uptoBulk d + 1
 end
def uptoSmall : (H : Type) → List (DataW H) → Bool := fun _ ds => decide (uptoBulkAll ds ≤ 1048576)
def OpenSpec.upto (s : _root_.Go.ChangeSpec) : _root_.Go.OpenSpec := { _root_.Go.OpenSpec.ofChange s with cond := some uptoSmall }

/-- 'laws.FnCells', WHERE WHAT IT READS IS OF BULK AT MOST 1048576: true; the input reads as it did. -/
def fnCellsUptoRow : OpenClaim := { program := "ytfiildimochcgaa", sum := "bdee1364234e39700f6be38110c05646f7d0e77175716ab5fae6ed5e8e4813a9", func := "loop.example/g00787/laws.FnCells", spec := "fnCells", apart := false, narrowed := true }
def FnCellsUptoSaid : Prop := fnCellsUptoRow.holds Try.pinned (OpenSpec.upto fnCellsSpec)

/-- 'laws.FnExactNameOK', WHERE WHAT IT READS IS OF BULK AT MOST 1048576: true; the input reads as it did. -/
def fnExactNameOKUptoRow : OpenClaim := { program := "ytfiildimochcgaa", sum := "bdee1364234e39700f6be38110c05646f7d0e77175716ab5fae6ed5e8e4813a9", func := "loop.example/g00787/laws.FnExactNameOK", spec := "fnExactNameOK", apart := false, narrowed := true }
def FnExactNameOKUptoSaid : Prop := fnExactNameOKUptoRow.holds Try.pinned (OpenSpec.upto fnExactNameOKSpec)

/-- 'laws.FnExactWrapCell', WHERE WHAT IT READS IS OF BULK AT MOST 1048576: true; the input reads as it did. -/
def fnExactWrapCellUptoRow : OpenClaim := { program := "ytfiildimochcgaa", sum := "bdee1364234e39700f6be38110c05646f7d0e77175716ab5fae6ed5e8e4813a9", func := "loop.example/g00787/laws.FnExactWrapCell", spec := "fnExactWrapCell", apart := false, narrowed := true }
def FnExactWrapCellUptoSaid : Prop := fnExactWrapCellUptoRow.holds Try.pinned (OpenSpec.upto fnExactWrapCellSpec)

/-- 'laws.FnExactCellOK', WHERE WHAT IT READS IS OF BULK AT MOST 1048576: true; the input reads as it did. -/
def fnExactCellOKUptoRow : OpenClaim := { program := "ytfiildimochcgaa", sum := "bdee1364234e39700f6be38110c05646f7d0e77175716ab5fae6ed5e8e4813a9", func := "loop.example/g00787/laws.FnExactCellOK", spec := "fnExactCellOK", apart := false, narrowed := true }
def FnExactCellOKUptoSaid : Prop := fnExactCellOKUptoRow.holds Try.pinned (OpenSpec.upto fnExactCellOKSpec)

/-- 'laws.FnExactTwoCells', WHERE WHAT IT READS IS OF BULK AT MOST 1048576: true; the input reads as it did. -/
def fnExactTwoCellsUptoRow : OpenClaim := { program := "ytfiildimochcgaa", sum := "bdee1364234e39700f6be38110c05646f7d0e77175716ab5fae6ed5e8e4813a9", func := "loop.example/g00787/laws.FnExactTwoCells", spec := "fnExactTwoCells", apart := false, narrowed := true }
def FnExactTwoCellsUptoSaid : Prop := fnExactTwoCellsUptoRow.holds Try.pinned (OpenSpec.upto fnExactTwoCellsSpec)

/-- 'laws.FnExactUnsigned', WHERE WHAT IT READS IS OF BULK AT MOST 1048576: true; the input reads as it did. -/
def fnExactUnsignedUptoRow : OpenClaim := { program := "ytfiildimochcgaa", sum := "bdee1364234e39700f6be38110c05646f7d0e77175716ab5fae6ed5e8e4813a9", func := "loop.example/g00787/laws.FnExactUnsigned", spec := "fnExactUnsigned", apart := false, narrowed := true }
def FnExactUnsignedUptoSaid : Prop := fnExactUnsignedUptoRow.holds Try.pinned (OpenSpec.upto fnExactUnsignedSpec)

/-- 'laws.FnExactReadCell', WHERE WHAT IT READS IS OF BULK AT MOST 1048576: true; the input reads as it did. -/
def fnExactReadCellUptoRow : OpenClaim := { program := "ytfiildimochcgaa", sum := "bdee1364234e39700f6be38110c05646f7d0e77175716ab5fae6ed5e8e4813a9", func := "loop.example/g00787/laws.FnExactReadCell", spec := "fnExactReadCell", apart := false, narrowed := true }
def FnExactReadCellUptoSaid : Prop := fnExactReadCellUptoRow.holds Try.pinned (OpenSpec.upto fnExactReadCellSpec)

end Rows
end Go.Proofs.Ytfiildimochcgaa
