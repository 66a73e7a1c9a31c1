/-
  No cell of these rows narrows 'for every input' (looked for: loops, veiled, ifaces, maps, wideKeys, modest, calm, conditions, laid).
  DERIVED. THE GIVEN ROWS OF THIS SEAT. 8 by the template 'for every input the law returns true; each argument reads behind the call as it read before'; 0 by the template 'total and deterministic' (their statements: YtficijecpgihnaaTotals.lean).
  GIVEN WITH THE SEED: the statements are not yours to turn. If you find one false, say at which input.
  Laid BY PROGRAM, IN A SANDBOX (cutbox-rows.mjs): the forced cells as the released guide's own fill.sh prints them over the translation 515738394e108e9f… (all of the seat's roots in one cut). By AI agents, Wed Nov 11 2026. No macro, syntax, notation, axiom, sorry.
-/
import Derived.Test.YtficijecpgihnaaChecked
import GoSem.Claim
import GoSem.ClaimJoined
import GoSem.ClaimMapViews
import Derived.JoinedTies
import Derived.KernelRfl
namespace Go.Proofs.Ytficijecpgihnaa
/- THE CELL 'sum', in the pinned program and in every row, IS THE sha256 OF THE DUMP (.gsa) THAT YtficijecpgihnaaProg.lean LOADS. Nothing in Lean hashes anything: it is a label: what it is worth is what the hold of that sum in a sandbox is worth. -/
noncomputable def Try.pinned : Pinned := { name := "ytficijecpgihnaa", sum := "515738394e108e9f8be60e55d2b4ec0909fbb82677d8171ee0b9744bc543aced", checked := Try.checked }
namespace Rows
def none {H : Type} : Left H := { results := [], args := [] }

/-- 'laws.FnItems': WHATEVER THE INPUT: true; the input reads as it did. -/
def fnItemsSpec : ChangeSpec := { name := "fnItems", fn := fun _ => fun
  | [d1, d2] => { results := [.lit (.bool true)], args := [d1, d2] }
  | _ => none }
def fnItemsRow : OpenClaim := { program := "ytficijecpgihnaa", sum := "515738394e108e9f8be60e55d2b4ec0909fbb82677d8171ee0b9744bc543aced", func := "loop.example/g00787/laws.FnItems", spec := "fnItems", recurses := true, apart := false }
def FnItemsSaid : Prop := fnItemsRow.holds Try.pinned (OpenSpec.ofChange fnItemsSpec)

/-- ITS FALSE NEIGHBOUR: 'it returns false'. Refute it at one input. -/
def fnItemsWrong : ChangeSpec := { name := "fnItems", fn := fun _ => fun
  | [d1, d2] => { results := [.lit (.bool false)], args := [d1, d2] }
  | _ => none }
def FnItemsWrongFalsely : Prop := fnItemsRow.holds Try.pinned (OpenSpec.ofChange fnItemsWrong)

/-- 'laws.FnExactItemOK': WHATEVER THE INPUT: true; the input reads as it did. -/
def fnExactItemOKSpec : ChangeSpec := { name := "fnExactItemOK", fn := fun _ => fun
  | [d] => { results := [.lit (.bool true)], args := [d] }
  | _ => none }
def fnExactItemOKRow : OpenClaim := { program := "ytficijecpgihnaa", sum := "515738394e108e9f8be60e55d2b4ec0909fbb82677d8171ee0b9744bc543aced", func := "loop.example/g00787/laws.FnExactItemOK", spec := "fnExactItemOK", apart := false }
def FnExactItemOKSaid : Prop := fnExactItemOKRow.holds Try.pinned (OpenSpec.ofChange fnExactItemOKSpec)

/-- ITS FALSE NEIGHBOUR: 'it returns false'. Refute it at one input. -/
def fnExactItemOKWrong : ChangeSpec := { name := "fnExactItemOK", fn := fun _ => fun
  | [d] => { results := [.lit (.bool false)], args := [d] }
  | _ => none }
def FnExactItemOKWrongFalsely : Prop := fnExactItemOKRow.holds Try.pinned (OpenSpec.ofChange fnExactItemOKWrong)

/-- 'laws.FnExactCheckItems': WHATEVER THE INPUT: true; the input reads as it did. -/
def fnExactCheckItemsSpec : ChangeSpec := { name := "fnExactCheckItems", fn := fun _ => fun
  | [d] => { results := [.lit (.bool true)], args := [d] }
  | _ => none }
def fnExactCheckItemsRow : OpenClaim := { program := "ytficijecpgihnaa", sum := "515738394e108e9f8be60e55d2b4ec0909fbb82677d8171ee0b9744bc543aced", func := "loop.example/g00787/laws.FnExactCheckItems", spec := "fnExactCheckItems", apart := false }
def FnExactCheckItemsSaid : Prop := fnExactCheckItemsRow.holds Try.pinned (OpenSpec.ofChange fnExactCheckItemsSpec)

/-- ITS FALSE NEIGHBOUR: 'it returns false'. Refute it at one input. -/
def fnExactCheckItemsWrong : ChangeSpec := { name := "fnExactCheckItems", fn := fun _ => fun
  | [d] => { results := [.lit (.bool false)], args := [d] }
  | _ => none }
def FnExactCheckItemsWrongFalsely : Prop := fnExactCheckItemsRow.holds Try.pinned (OpenSpec.ofChange fnExactCheckItemsWrong)

/-- 'laws.FnExactSizeOf': WHATEVER THE INPUT: true; the input reads as it did. -/
def fnExactSizeOfSpec : ChangeSpec := { name := "fnExactSizeOf", fn := fun _ => fun
  | [d] => { results := [.lit (.bool true)], args := [d] }
  | _ => none }
def fnExactSizeOfRow : OpenClaim := { program := "ytficijecpgihnaa", sum := "515738394e108e9f8be60e55d2b4ec0909fbb82677d8171ee0b9744bc543aced", func := "loop.example/g00787/laws.FnExactSizeOf", spec := "fnExactSizeOf", apart := false }
def FnExactSizeOfSaid : Prop := fnExactSizeOfRow.holds Try.pinned (OpenSpec.ofChange fnExactSizeOfSpec)

/-- ITS FALSE NEIGHBOUR: 'it returns false'. Refute it at one input. -/
def fnExactSizeOfWrong : ChangeSpec := { name := "fnExactSizeOf", fn := fun _ => fun
  | [d] => { results := [.lit (.bool false)], args := [d] }
  | _ => none }
def FnExactSizeOfWrongFalsely : Prop := fnExactSizeOfRow.holds Try.pinned (OpenSpec.ofChange fnExactSizeOfWrong)

/-- 'laws.FnExactCompileItems': WHATEVER THE INPUT: true; the input reads as it did. -/
def fnExactCompileItemsSpec : ChangeSpec := { name := "fnExactCompileItems", fn := fun _ => fun
  | [d1, d2, d3] => { results := [.lit (.bool true)], args := [d1, d2, d3] }
  | _ => none }
def fnExactCompileItemsRow : OpenClaim := { program := "ytficijecpgihnaa", sum := "515738394e108e9f8be60e55d2b4ec0909fbb82677d8171ee0b9744bc543aced", func := "loop.example/g00787/laws.FnExactCompileItems", spec := "fnExactCompileItems", apart := false }
def FnExactCompileItemsSaid : Prop := fnExactCompileItemsRow.holds Try.pinned (OpenSpec.ofChange fnExactCompileItemsSpec)

/-- ITS FALSE NEIGHBOUR: 'it returns false'. Refute it at one input. -/
def fnExactCompileItemsWrong : ChangeSpec := { name := "fnExactCompileItems", fn := fun _ => fun
  | [d1, d2, d3] => { results := [.lit (.bool false)], args := [d1, d2, d3] }
  | _ => none }
def FnExactCompileItemsWrongFalsely : Prop := fnExactCompileItemsRow.holds Try.pinned (OpenSpec.ofChange fnExactCompileItemsWrong)

/-- 'laws.FnExactOpenAt': WHATEVER THE INPUT: true; the input reads as it did. -/
def fnExactOpenAtSpec : ChangeSpec := { name := "fnExactOpenAt", fn := fun _ => fun
  | [d1, d2] => { results := [.lit (.bool true)], args := [d1, d2] }
  | _ => none }
def fnExactOpenAtRow : OpenClaim := { program := "ytficijecpgihnaa", sum := "515738394e108e9f8be60e55d2b4ec0909fbb82677d8171ee0b9744bc543aced", func := "loop.example/g00787/laws.FnExactOpenAt", spec := "fnExactOpenAt", apart := false }
def FnExactOpenAtSaid : Prop := fnExactOpenAtRow.holds Try.pinned (OpenSpec.ofChange fnExactOpenAtSpec)

/-- ITS FALSE NEIGHBOUR: 'it returns false'. Refute it at one input. -/
def fnExactOpenAtWrong : ChangeSpec := { name := "fnExactOpenAt", fn := fun _ => fun
  | [d1, d2] => { results := [.lit (.bool false)], args := [d1, d2] }
  | _ => none }
def FnExactOpenAtWrongFalsely : Prop := fnExactOpenAtRow.holds Try.pinned (OpenSpec.ofChange fnExactOpenAtWrong)

/-- 'laws.FnExactHostCall': WHATEVER THE INPUT: true; the input reads as it did. -/
def fnExactHostCallSpec : ChangeSpec := { name := "fnExactHostCall", fn := fun _ => fun
  | [d1, d2, d3] => { results := [.lit (.bool true)], args := [d1, d2, d3] }
  | _ => none }
def fnExactHostCallRow : OpenClaim := { program := "ytficijecpgihnaa", sum := "515738394e108e9f8be60e55d2b4ec0909fbb82677d8171ee0b9744bc543aced", func := "loop.example/g00787/laws.FnExactHostCall", spec := "fnExactHostCall", unfollowed := true, recurses := true, apart := false }
def FnExactHostCallSaid : Prop := fnExactHostCallRow.holds Try.pinned (OpenSpec.ofChange fnExactHostCallSpec)

/-- ITS FALSE NEIGHBOUR: 'it returns false'. Refute it at one input. -/
def fnExactHostCallWrong : ChangeSpec := { name := "fnExactHostCall", fn := fun _ => fun
  | [d1, d2, d3] => { results := [.lit (.bool false)], args := [d1, d2, d3] }
  | _ => none }
def FnExactHostCallWrongFalsely : Prop := fnExactHostCallRow.holds Try.pinned (OpenSpec.ofChange fnExactHostCallWrong)

/-- 'laws.FnGate': WHATEVER THE INPUT: true; the input reads as it did. -/
def fnGateSpec : ChangeSpec := { name := "fnGate", fn := fun _ => fun
  | [d1, d2] => { results := [.lit (.bool true)], args := [d1, d2] }
  | _ => none }
def fnGateRow : OpenClaim := { program := "ytficijecpgihnaa", sum := "515738394e108e9f8be60e55d2b4ec0909fbb82677d8171ee0b9744bc543aced", func := "loop.example/g00787/laws.FnGate", spec := "fnGate", unfollowed := true, recurses := true, apart := false }
def FnGateSaid : Prop := fnGateRow.holds Try.pinned (OpenSpec.ofChange fnGateSpec)

/-- ITS FALSE NEIGHBOUR: 'it returns false'. Refute it at one input. -/
def fnGateWrong : ChangeSpec := { name := "fnGate", fn := fun _ => fun
  | [d1, d2] => { results := [.lit (.bool false)], args := [d1, d2] }
  | _ => none }
def FnGateWrongFalsely : Prop := fnGateRow.holds Try.pinned (OpenSpec.ofChange fnGateWrong)

/- THE SECOND FORM. 'bulk': how many values and letters a reading holds, each counted each time it is reached (what is shared counts as often as it is met; a slice's spare places count too). A statement '..UptoSaid' is the law's where the arguments, and the package variables that the reading takes, are together of bulk at most 1048576: NARROWER than '..Said'. Prove '..Said' where nothing that the law and all that it calls make is longer than what came in: it says more and counts as full. Else prove '..UptoSaid'. A law counts once. -/
mutual
def uptoBulk {H : Type} : DataW H → Nat
  | .lit (.string bytes) => bytes.length + 1
  | .lit _ => 1
  | .nil => 1
  | .ptr d => uptoBulk d + 1
  | .slice elems spare => uptoBulkAll elems + uptoBulkAll spare + 1
  | .agg parts => uptoBulkAll parts + 1
  | .iface _ d => uptoBulk d + 1
  | .map entries => uptoBulkEntries entries + 1
  | .held _ => 1
def uptoBulkAll {H : Type} : List (DataW H) → Nat
  | [] => 0
  | d :: r => uptoBulk d + uptoBulkAll r
def uptoBulkEntries {H : Type} : List (Lit × DataW H) → Nat
  | [] => 0
  | x :: r => uptoBulkEntry x + uptoBulkEntries r
def uptoBulkEntry {H : Type} : Lit × DataW H → Nat
  | (.string bytes, d) => bytes.length + uptoBulk d + 1
  | (_, d) => uptoBulk d + 1
 end
def uptoSmall : (H : Type) → List (DataW H) → Bool := fun _ ds => decide (uptoBulkAll ds ≤ 1048576)
def OpenSpec.upto (s : _root_.Go.ChangeSpec) : _root_.Go.OpenSpec := { _root_.Go.OpenSpec.ofChange s with cond := some uptoSmall }

/-- 'laws.FnItems', WHERE WHAT IT READS IS OF BULK AT MOST 1048576: true; the input reads as it did. -/
def fnItemsUptoRow : OpenClaim := { program := "ytficijecpgihnaa", sum := "515738394e108e9f8be60e55d2b4ec0909fbb82677d8171ee0b9744bc543aced", func := "loop.example/g00787/laws.FnItems", spec := "fnItems", recurses := true, apart := false, narrowed := true }
def FnItemsUptoSaid : Prop := fnItemsUptoRow.holds Try.pinned (OpenSpec.upto fnItemsSpec)

/-- 'laws.FnExactItemOK', WHERE WHAT IT READS IS OF BULK AT MOST 1048576: true; the input reads as it did. -/
def fnExactItemOKUptoRow : OpenClaim := { program := "ytficijecpgihnaa", sum := "515738394e108e9f8be60e55d2b4ec0909fbb82677d8171ee0b9744bc543aced", func := "loop.example/g00787/laws.FnExactItemOK", spec := "fnExactItemOK", apart := false, narrowed := true }
def FnExactItemOKUptoSaid : Prop := fnExactItemOKUptoRow.holds Try.pinned (OpenSpec.upto fnExactItemOKSpec)

/-- 'laws.FnExactCheckItems', WHERE WHAT IT READS IS OF BULK AT MOST 1048576: true; the input reads as it did. -/
def fnExactCheckItemsUptoRow : OpenClaim := { program := "ytficijecpgihnaa", sum := "515738394e108e9f8be60e55d2b4ec0909fbb82677d8171ee0b9744bc543aced", func := "loop.example/g00787/laws.FnExactCheckItems", spec := "fnExactCheckItems", apart := false, narrowed := true }
def FnExactCheckItemsUptoSaid : Prop := fnExactCheckItemsUptoRow.holds Try.pinned (OpenSpec.upto fnExactCheckItemsSpec)

/-- 'laws.FnExactSizeOf', WHERE WHAT IT READS IS OF BULK AT MOST 1048576: true; the input reads as it did. -/
def fnExactSizeOfUptoRow : OpenClaim := { program := "ytficijecpgihnaa", sum := "515738394e108e9f8be60e55d2b4ec0909fbb82677d8171ee0b9744bc543aced", func := "loop.example/g00787/laws.FnExactSizeOf", spec := "fnExactSizeOf", apart := false, narrowed := true }
def FnExactSizeOfUptoSaid : Prop := fnExactSizeOfUptoRow.holds Try.pinned (OpenSpec.upto fnExactSizeOfSpec)

/-- 'laws.FnExactCompileItems', WHERE WHAT IT READS IS OF BULK AT MOST 1048576: true; the input reads as it did. -/
def fnExactCompileItemsUptoRow : OpenClaim := { program := "ytficijecpgihnaa", sum := "515738394e108e9f8be60e55d2b4ec0909fbb82677d8171ee0b9744bc543aced", func := "loop.example/g00787/laws.FnExactCompileItems", spec := "fnExactCompileItems", apart := false, narrowed := true }
def FnExactCompileItemsUptoSaid : Prop := fnExactCompileItemsUptoRow.holds Try.pinned (OpenSpec.upto fnExactCompileItemsSpec)

/-- 'laws.FnExactOpenAt', WHERE WHAT IT READS IS OF BULK AT MOST 1048576: true; the input reads as it did. -/
def fnExactOpenAtUptoRow : OpenClaim := { program := "ytficijecpgihnaa", sum := "515738394e108e9f8be60e55d2b4ec0909fbb82677d8171ee0b9744bc543aced", func := "loop.example/g00787/laws.FnExactOpenAt", spec := "fnExactOpenAt", apart := false, narrowed := true }
def FnExactOpenAtUptoSaid : Prop := fnExactOpenAtUptoRow.holds Try.pinned (OpenSpec.upto fnExactOpenAtSpec)

/-- 'laws.FnExactHostCall', WHERE WHAT IT READS IS OF BULK AT MOST 1048576: true; the input reads as it did. -/
def fnExactHostCallUptoRow : OpenClaim := { program := "ytficijecpgihnaa", sum := "515738394e108e9f8be60e55d2b4ec0909fbb82677d8171ee0b9744bc543aced", func := "loop.example/g00787/laws.FnExactHostCall", spec := "fnExactHostCall", unfollowed := true, recurses := true, apart := false, narrowed := true }
def FnExactHostCallUptoSaid : Prop := fnExactHostCallUptoRow.holds Try.pinned (OpenSpec.upto fnExactHostCallSpec)

/-- 'laws.FnGate', WHERE WHAT IT READS IS OF BULK AT MOST 1048576: true; the input reads as it did. -/
def fnGateUptoRow : OpenClaim := { program := "ytficijecpgihnaa", sum := "515738394e108e9f8be60e55d2b4ec0909fbb82677d8171ee0b9744bc543aced", func := "loop.example/g00787/laws.FnGate", spec := "fnGate", unfollowed := true, recurses := true, apart := false, narrowed := true }
def FnGateUptoSaid : Prop := fnGateUptoRow.holds Try.pinned (OpenSpec.upto fnGateSpec)

end Rows
end Go.Proofs.Ytficijecpgihnaa
