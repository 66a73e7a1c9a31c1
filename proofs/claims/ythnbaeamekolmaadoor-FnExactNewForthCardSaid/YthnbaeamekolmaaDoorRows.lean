/-
  NARROWER THAN 'FOR EVERY INPUT', by the rows' own cells (each row's printed sentence says how): FnExactNewForth: laid.
  DERIVED. THE GIVEN ROWS OF THIS SEAT. 1 by the template 'for every input the law returns true; each argument reads behind the call as it read before'; 0 by the template 'total and deterministic' (their statements: YthnbaeamekolmaaDoorTotals.lean).
  GIVEN WITH THE SEED: the statements are not yours to turn. If you find one false, say at which input.
  Laid BY PROGRAM, IN A SANDBOX (cutbox-rows.mjs): the forced cells as the released guide's own fill.sh prints them over the translation 4c593561721f09b0… (all of the seat's roots in one cut). By AI agents, Wed Nov 11 2026. No macro, syntax, notation, axiom, sorry.
-/
import Derived.Test.YthnbaeamekolmaaDoorChecked
import GoSem.Claim
import GoSem.ClaimJoined
import GoSem.ClaimMapViews
import Derived.JoinedTies
import Derived.KernelRfl
namespace Go.Proofs.YthnbaeamekolmaaDoor
/- THE CELL 'sum', in the pinned program and in every row, IS THE sha256 OF THE DUMP (.gsa) THAT YthnbaeamekolmaaDoorProg.lean LOADS. Nothing in Lean hashes anything: it is a label: what it is worth is what the hold of that sum in a sandbox is worth. -/
noncomputable def Tryd.pinned : Pinned := { name := "ythnbaeamekolmaadoor", sum := "4c593561721f09b0fe88d598ed6221c20f47aed4d3bca4599ef96e1e48c7dd21", checked := Tryd.checked }
namespace Rows
def none {H : Type} : Left H := { results := [], args := [] }

/- WHAT THE LISTED PACKAGE-LEVEL VARIABLES READ AS WHEN THE CALL BEGINS. Each datum BY PROGRAM (the guide's laid-datum.mjs) off the statement by which the dump's own 'gosem.cut.vars' lays the variable. In a bare row this is a premise. The card (YthnbaeamekolmaaDoorCards.lean) ties it to the program's text. -/
def laid_loop_example_g00787_impl_kernelNames {H : Type} : DataW H := .agg [.lit (.string [68, 85, 80]), .lit (.string [68, 82, 79, 80]), .lit (.string [83, 87, 65, 80]), .lit (.string [79, 86, 69, 82]), .lit (.string [82, 79, 84]), .lit (.string [78, 73, 80]), .lit (.string [84, 85, 67, 75]), .lit (.string [63, 68, 85, 80]), .lit (.string [50, 68, 85, 80]), .lit (.string [50, 68, 82, 79, 80]), .lit (.string [68, 69, 80, 84, 72]), .lit (.string [62, 82]), .lit (.string [82, 62]), .lit (.string [82, 64]), .lit (.string [43]), .lit (.string [45]), .lit (.string [42]), .lit (.string [47]), .lit (.string [77, 79, 68]), .lit (.string [65, 78, 68]), .lit (.string [79, 82]), .lit (.string [88, 79, 82]), .lit (.string [76, 83, 72, 73, 70, 84]), .lit (.string [82, 83, 72, 73, 70, 84]), .lit (.string [78, 69, 71, 65, 84, 69]), .lit (.string [65, 66, 83]), .lit (.string [73, 78, 86, 69, 82, 84]), .lit (.string [49, 43]), .lit (.string [49, 45]), .lit (.string [77, 73, 78]), .lit (.string [77, 65, 88]), .lit (.string [61]), .lit (.string [60, 62]), .lit (.string [60]), .lit (.string [62]), .lit (.string [85, 60]), .lit (.string [48, 61]), .lit (.string [48, 60]), .lit (.string [64]), .lit (.string [33]), .lit (.string [43, 33]), .lit (.string [72, 69, 82, 69]), .lit (.string [65, 76, 76, 79, 84]), .lit (.string [44]), .lit (.string [69, 77, 73, 84]), .lit (.string [46]), .lit (.string [67, 82]), .lit (.string [83, 80, 65, 67, 69]), .lit (.string [68, 69, 67, 73, 77, 65, 76]), .lit (.string [72, 69, 88]), .lit (.string [73]), .lit (.string [85, 78, 76, 79, 79, 80]), .lit (.string [69, 88, 73, 84]), .lit (.string [69, 88, 69, 67, 85, 84, 69]), .lit (.string [67, 65, 84, 67, 72]), .lit (.string [84, 72, 82, 79, 87]), .lit (.string [40, 76, 73, 84, 41]), .lit (.string [40, 66, 82, 65, 78, 67, 72, 41]), .lit (.string [40, 48, 66, 82, 65, 78, 67, 72, 41]), .lit (.string [40, 68, 79, 41]), .lit (.string [40, 76, 79, 79, 80, 41]), .lit (.string [40, 43, 76, 79, 79, 80, 41]), .lit (.string [72, 82, 69, 65, 68]), .lit (.string [72, 87, 82, 73, 84, 69]), .lit (.string [72, 65, 83, 75]), .lit (.string [72, 84, 73, 77, 69]), .lit (.string [58]), .lit (.string [59]), .lit (.string [73, 70]), .lit (.string [69, 76, 83, 69]), .lit (.string [84, 72, 69, 78]), .lit (.string [66, 69, 71, 73, 78]), .lit (.string [85, 78, 84, 73, 76]), .lit (.string [87, 72, 73, 76, 69]), .lit (.string [82, 69, 80, 69, 65, 84]), .lit (.string [68, 79]), .lit (.string [76, 79, 79, 80]), .lit (.string [43, 76, 79, 79, 80]), .lit (.string [82, 69, 67, 85, 82, 83, 69]), .lit (.string [86, 65, 82, 73, 65, 66, 76, 69]), .lit (.string [67, 79, 78, 83, 84, 65, 78, 84]), .lit (.string [39]), .lit (.string [91, 39, 93])]
def laid_loop_example_g00787_impl_kernelEnds {H : Type} : DataW H := .agg [.lit (.int .i64 0), .lit (.int .i64 52), .lit (.int .i64 56), .lit (.int .i64 62), .lit (.int .i64 66), .lit (.int .i64 83)]

/-- 'laws.FnExactNewForth': WHATEVER THE INPUT: true; the input reads as it did. -/
def fnExactNewForthSpec : ChangeSpec := { name := "fnExactNewForth", vars := ["loop.example/g00787/impl.kernelEnds", "loop.example/g00787/impl.kernelNames"], fn := fun _ => fun
  | [g1, g2] => { results := [.lit (.bool true)], args := [], vars := [g1, g2] }
  | _ => none }
def fnExactNewForthRow : OpenClaim := { program := "ythnbaeamekolmaadoor", sum := "4c593561721f09b0fe88d598ed6221c20f47aed4d3bca4599ef96e1e48c7dd21", func := "loop.example/g00787/laws.FnExactNewForth", spec := "fnExactNewForth", named := ["loop.example/g00787/impl.kernelEnds", "loop.example/g00787/impl.kernelNames"], apart := false, laid := [("loop.example/g00787/impl.kernelNames", laid_loop_example_g00787_impl_kernelNames), ("loop.example/g00787/impl.kernelEnds", laid_loop_example_g00787_impl_kernelEnds)] }
def FnExactNewForthSaid : Prop := fnExactNewForthRow.holds Tryd.pinned (OpenSpec.ofChange fnExactNewForthSpec)

/-- ITS FALSE NEIGHBOUR: 'it returns false'. Refute it at one input. -/
def fnExactNewForthWrong : ChangeSpec := { name := "fnExactNewForth", vars := ["loop.example/g00787/impl.kernelEnds", "loop.example/g00787/impl.kernelNames"], fn := fun _ => fun
  | [g1, g2] => { results := [.lit (.bool false)], args := [], vars := [g1, g2] }
  | _ => none }
def FnExactNewForthWrongFalsely : Prop := fnExactNewForthRow.holds Tryd.pinned (OpenSpec.ofChange fnExactNewForthWrong)

/- THE SECOND FORM. 'bulk': how many values and letters a reading holds, each counted each time it is reached (what is shared counts as often as it is met; a slice's spare places count too). A statement '..UptoSaid' is the law's where the arguments, and the package variables that the reading takes, are together of bulk at most 1048576: NARROWER than '..Said'. Prove '..Said' where nothing that the law and all that it calls make is longer than what came in: it says more and counts as full. Else prove '..UptoSaid'. A law counts once. -/
mutual
def uptoBulk {H : Type} : DataW H → Nat
  | .lit (.string bytes) => bytes.length + 1
  | .lit _ => 1
  | .nil => 1
  | .ptr d => uptoBulk d + 1
  | .slice elems spare => uptoBulkAll elems + uptoBulkAll spare + 1
  | .agg parts => uptoBulkAll parts + 1
  | .iface _ d => uptoBulk d + 1
  | .map entries => uptoBulkEntries entries + 1
  | .held _ => 1
def uptoBulkAll {H : Type} : List (DataW H) → Nat
  | [] => 0
  | d :: r => uptoBulk d + uptoBulkAll r
def uptoBulkEntries {H : Type} : List (Lit × DataW H) → Nat
  | [] => 0
  | x :: r => uptoBulkEntry x + uptoBulkEntries r
def uptoBulkEntry {H : Type} : Lit × DataW H → Nat
  | (.string bytes, d) => bytes.length + uptoBulk d + 1
  | (_, d) => uptoBulk d + 1
 end
def uptoSmall : (H : Type) → List (DataW H) → Bool := fun _ ds => decide (uptoBulkAll ds ≤ 1048576)
def OpenSpec.upto (s : _root_.Go.ChangeSpec) : _root_.Go.OpenSpec := { _root_.Go.OpenSpec.ofChange s with cond := some uptoSmall }

/-- 'laws.FnExactNewForth', WHERE WHAT IT READS IS OF BULK AT MOST 1048576: true; the input reads as it did. -/
def fnExactNewForthUptoRow : OpenClaim := { program := "ythnbaeamekolmaadoor", sum := "4c593561721f09b0fe88d598ed6221c20f47aed4d3bca4599ef96e1e48c7dd21", func := "loop.example/g00787/laws.FnExactNewForth", spec := "fnExactNewForth", named := ["loop.example/g00787/impl.kernelEnds", "loop.example/g00787/impl.kernelNames"], apart := false, laid := [("loop.example/g00787/impl.kernelNames", laid_loop_example_g00787_impl_kernelNames), ("loop.example/g00787/impl.kernelEnds", laid_loop_example_g00787_impl_kernelEnds)], narrowed := true }
def FnExactNewForthUptoSaid : Prop := fnExactNewForthUptoRow.holds Tryd.pinned (OpenSpec.upto fnExactNewForthSpec)

end Rows
end Go.Proofs.YthnbaeamekolmaaDoor
