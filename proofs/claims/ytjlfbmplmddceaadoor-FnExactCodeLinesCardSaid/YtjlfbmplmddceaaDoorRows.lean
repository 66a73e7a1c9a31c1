/-
  NARROWER THAN 'FOR EVERY INPUT', by the rows' own cells (each row's printed sentence says how): FnExactCodeLines: laid · FnExactNewMachine: laid · FnExactMachineOK: laid · FnExactSameMachine: laid.
  DERIVED. THE GIVEN ROWS OF THIS SEAT. 4 by the template 'for every input the law returns true; each argument reads behind the call as it read before'; 0 by the template 'total and deterministic' (their statements: YtjlfbmplmddceaaDoorTotals.lean).
  GIVEN WITH THE SEED: the statements are not yours to turn. If you find one false, say at which input.
  Laid BY PROGRAM, IN A SANDBOX (cutbox-rows.mjs): the forced cells as the released guide's own fill.sh prints them over the translation 3e9d417e804d8c9a… (all of the seat's roots in one cut). By AI agents, Wed Nov 11 2026. No macro, syntax, notation, axiom, sorry.
-/
import Derived.Test.YtjlfbmplmddceaaDoorChecked
import GoSem.Claim
import GoSem.ClaimJoined
import GoSem.ClaimMapViews
import Derived.JoinedTies
import Derived.KernelRfl
namespace Go.Proofs.YtjlfbmplmddceaaDoor
/- THE CELL 'sum', in the pinned program and in every row, IS THE sha256 OF THE DUMP (.gsa) THAT YtjlfbmplmddceaaDoorProg.lean LOADS. Nothing in Lean hashes anything: it is a label: what it is worth is what the hold of that sum in a sandbox is worth. -/
noncomputable def Tryd.pinned : Pinned := { name := "ytjlfbmplmddceaadoor", sum := "3e9d417e804d8c9a7655a9ffbb2081a0704ca190f6b494ca608b2489e3336032", checked := Tryd.checked }
namespace Rows
def none {H : Type} : Left H := { results := [], args := [] }

/- WHAT THE LISTED PACKAGE-LEVEL VARIABLES READ AS WHEN THE CALL BEGINS. Each datum BY PROGRAM (the guide's laid-datum.mjs) off the statement by which the dump's own 'gosem.cut.vars' lays the variable. In a bare row this is a premise. The card (YtjlfbmplmddceaaDoorCards.lean) ties it to the program's text. -/
def laid_math_bits_deBruijn32tab {H : Type} : DataW H := .agg [.lit (.int .u8 0), .lit (.int .u8 1), .lit (.int .u8 28), .lit (.int .u8 2), .lit (.int .u8 29), .lit (.int .u8 14), .lit (.int .u8 24), .lit (.int .u8 3), .lit (.int .u8 30), .lit (.int .u8 22), .lit (.int .u8 20), .lit (.int .u8 15), .lit (.int .u8 25), .lit (.int .u8 17), .lit (.int .u8 4), .lit (.int .u8 8), .lit (.int .u8 31), .lit (.int .u8 27), .lit (.int .u8 13), .lit (.int .u8 23), .lit (.int .u8 21), .lit (.int .u8 19), .lit (.int .u8 16), .lit (.int .u8 7), .lit (.int .u8 26), .lit (.int .u8 12), .lit (.int .u8 18), .lit (.int .u8 6), .lit (.int .u8 11), .lit (.int .u8 5), .lit (.int .u8 10), .lit (.int .u8 9)]
def laid_math_bits_deBruijn64tab {H : Type} : DataW H := .agg [.lit (.int .u8 0), .lit (.int .u8 1), .lit (.int .u8 56), .lit (.int .u8 2), .lit (.int .u8 57), .lit (.int .u8 49), .lit (.int .u8 28), .lit (.int .u8 3), .lit (.int .u8 61), .lit (.int .u8 58), .lit (.int .u8 42), .lit (.int .u8 50), .lit (.int .u8 38), .lit (.int .u8 29), .lit (.int .u8 17), .lit (.int .u8 4), .lit (.int .u8 62), .lit (.int .u8 47), .lit (.int .u8 59), .lit (.int .u8 36), .lit (.int .u8 45), .lit (.int .u8 43), .lit (.int .u8 51), .lit (.int .u8 22), .lit (.int .u8 53), .lit (.int .u8 39), .lit (.int .u8 33), .lit (.int .u8 30), .lit (.int .u8 24), .lit (.int .u8 18), .lit (.int .u8 12), .lit (.int .u8 5), .lit (.int .u8 63), .lit (.int .u8 55), .lit (.int .u8 48), .lit (.int .u8 27), .lit (.int .u8 60), .lit (.int .u8 41), .lit (.int .u8 37), .lit (.int .u8 16), .lit (.int .u8 46), .lit (.int .u8 35), .lit (.int .u8 44), .lit (.int .u8 21), .lit (.int .u8 52), .lit (.int .u8 32), .lit (.int .u8 23), .lit (.int .u8 11), .lit (.int .u8 54), .lit (.int .u8 26), .lit (.int .u8 40), .lit (.int .u8 15), .lit (.int .u8 34), .lit (.int .u8 20), .lit (.int .u8 31), .lit (.int .u8 10), .lit (.int .u8 25), .lit (.int .u8 14), .lit (.int .u8 19), .lit (.int .u8 9), .lit (.int .u8 13), .lit (.int .u8 8), .lit (.int .u8 7), .lit (.int .u8 6)]
def laid_internal_strconv_uint64pow10 {H : Type} : DataW H := .agg [.lit (.int .u64 1), .lit (.int .u64 10), .lit (.int .u64 100), .lit (.int .u64 1000), .lit (.int .u64 10000), .lit (.int .u64 100000), .lit (.int .u64 1000000), .lit (.int .u64 10000000), .lit (.int .u64 100000000), .lit (.int .u64 1000000000), .lit (.int .u64 10000000000), .lit (.int .u64 100000000000), .lit (.int .u64 1000000000000), .lit (.int .u64 10000000000000), .lit (.int .u64 100000000000000), .lit (.int .u64 1000000000000000), .lit (.int .u64 10000000000000000), .lit (.int .u64 100000000000000000), .lit (.int .u64 1000000000000000000), .lit (.int .u64 10000000000000000000)]
def laid_loop_example_g00787_impl_kernelNames {H : Type} : DataW H := .agg [.lit (.string [68, 85, 80]), .lit (.string [68, 82, 79, 80]), .lit (.string [83, 87, 65, 80]), .lit (.string [79, 86, 69, 82]), .lit (.string [82, 79, 84]), .lit (.string [78, 73, 80]), .lit (.string [84, 85, 67, 75]), .lit (.string [63, 68, 85, 80]), .lit (.string [50, 68, 85, 80]), .lit (.string [50, 68, 82, 79, 80]), .lit (.string [68, 69, 80, 84, 72]), .lit (.string [62, 82]), .lit (.string [82, 62]), .lit (.string [82, 64]), .lit (.string [43]), .lit (.string [45]), .lit (.string [42]), .lit (.string [47]), .lit (.string [77, 79, 68]), .lit (.string [65, 78, 68]), .lit (.string [79, 82]), .lit (.string [88, 79, 82]), .lit (.string [76, 83, 72, 73, 70, 84]), .lit (.string [82, 83, 72, 73, 70, 84]), .lit (.string [78, 69, 71, 65, 84, 69]), .lit (.string [65, 66, 83]), .lit (.string [73, 78, 86, 69, 82, 84]), .lit (.string [49, 43]), .lit (.string [49, 45]), .lit (.string [77, 73, 78]), .lit (.string [77, 65, 88]), .lit (.string [61]), .lit (.string [60, 62]), .lit (.string [60]), .lit (.string [62]), .lit (.string [85, 60]), .lit (.string [48, 61]), .lit (.string [48, 60]), .lit (.string [64]), .lit (.string [33]), .lit (.string [43, 33]), .lit (.string [72, 69, 82, 69]), .lit (.string [65, 76, 76, 79, 84]), .lit (.string [44]), .lit (.string [69, 77, 73, 84]), .lit (.string [46]), .lit (.string [67, 82]), .lit (.string [83, 80, 65, 67, 69]), .lit (.string [68, 69, 67, 73, 77, 65, 76]), .lit (.string [72, 69, 88]), .lit (.string [73]), .lit (.string [85, 78, 76, 79, 79, 80]), .lit (.string [69, 88, 73, 84]), .lit (.string [69, 88, 69, 67, 85, 84, 69]), .lit (.string [67, 65, 84, 67, 72]), .lit (.string [84, 72, 82, 79, 87]), .lit (.string [40, 76, 73, 84, 41]), .lit (.string [40, 66, 82, 65, 78, 67, 72, 41]), .lit (.string [40, 48, 66, 82, 65, 78, 67, 72, 41]), .lit (.string [40, 68, 79, 41]), .lit (.string [40, 76, 79, 79, 80, 41]), .lit (.string [40, 43, 76, 79, 79, 80, 41]), .lit (.string [72, 82, 69, 65, 68]), .lit (.string [72, 87, 82, 73, 84, 69]), .lit (.string [72, 65, 83, 75]), .lit (.string [72, 84, 73, 77, 69]), .lit (.string [58]), .lit (.string [59]), .lit (.string [73, 70]), .lit (.string [69, 76, 83, 69]), .lit (.string [84, 72, 69, 78]), .lit (.string [66, 69, 71, 73, 78]), .lit (.string [85, 78, 84, 73, 76]), .lit (.string [87, 72, 73, 76, 69]), .lit (.string [82, 69, 80, 69, 65, 84]), .lit (.string [68, 79]), .lit (.string [76, 79, 79, 80]), .lit (.string [43, 76, 79, 79, 80]), .lit (.string [82, 69, 67, 85, 82, 83, 69]), .lit (.string [86, 65, 82, 73, 65, 66, 76, 69]), .lit (.string [67, 79, 78, 83, 84, 65, 78, 84]), .lit (.string [39]), .lit (.string [91, 39, 93])]
def laid_loop_example_g00787_impl_kernelEnds {H : Type} : DataW H := .agg [.lit (.int .i64 0), .lit (.int .i64 52), .lit (.int .i64 56), .lit (.int .i64 62), .lit (.int .i64 66), .lit (.int .i64 83)]

/-- 'laws.FnExactCodeLines': WHATEVER THE INPUT: true; the input reads as it did. -/
def fnExactCodeLinesSpec : ChangeSpec := { name := "fnExactCodeLines", vars := ["loop.example/g00787/impl.kernelEnds", "loop.example/g00787/impl.kernelNames"], fn := fun _ => fun
  | [d1, d2, d3, g1, g2] => { results := [.lit (.bool true)], args := [d1, d2, d3], vars := [g1, g2] }
  | _ => none }
def fnExactCodeLinesRow : OpenClaim := { program := "ytjlfbmplmddceaadoor", sum := "3e9d417e804d8c9a7655a9ffbb2081a0704ca190f6b494ca608b2489e3336032", func := "loop.example/g00787/laws.FnExactCodeLines", spec := "fnExactCodeLines", unfollowed := true, recurses := true, named := ["loop.example/g00787/impl.kernelEnds", "loop.example/g00787/impl.kernelNames", "internal/strconv.uint64pow10", "math/bits.deBruijn32tab", "math/bits.deBruijn64tab"], apart := false, laid := [("math/bits.deBruijn32tab", laid_math_bits_deBruijn32tab), ("math/bits.deBruijn64tab", laid_math_bits_deBruijn64tab), ("internal/strconv.uint64pow10", laid_internal_strconv_uint64pow10), ("loop.example/g00787/impl.kernelNames", laid_loop_example_g00787_impl_kernelNames), ("loop.example/g00787/impl.kernelEnds", laid_loop_example_g00787_impl_kernelEnds)] }
def FnExactCodeLinesSaid : Prop := fnExactCodeLinesRow.holds Tryd.pinned (OpenSpec.ofChange fnExactCodeLinesSpec)

/-- ITS FALSE NEIGHBOUR: 'it returns false'. Refute it at one input. -/
def fnExactCodeLinesWrong : ChangeSpec := { name := "fnExactCodeLines", vars := ["loop.example/g00787/impl.kernelEnds", "loop.example/g00787/impl.kernelNames"], fn := fun _ => fun
  | [d1, d2, d3, g1, g2] => { results := [.lit (.bool false)], args := [d1, d2, d3], vars := [g1, g2] }
  | _ => none }
def FnExactCodeLinesWrongFalsely : Prop := fnExactCodeLinesRow.holds Tryd.pinned (OpenSpec.ofChange fnExactCodeLinesWrong)

/-- 'laws.FnExactNewMachine': WHATEVER THE INPUT: true; the input reads as it did. -/
def fnExactNewMachineSpec : ChangeSpec := { name := "fnExactNewMachine", vars := ["loop.example/g00787/impl.kernelEnds", "loop.example/g00787/impl.kernelNames"], fn := fun _ => fun
  | [g1, g2] => { results := [.lit (.bool true)], args := [], vars := [g1, g2] }
  | _ => none }
def fnExactNewMachineRow : OpenClaim := { program := "ytjlfbmplmddceaadoor", sum := "3e9d417e804d8c9a7655a9ffbb2081a0704ca190f6b494ca608b2489e3336032", func := "loop.example/g00787/laws.FnExactNewMachine", spec := "fnExactNewMachine", named := ["loop.example/g00787/impl.kernelEnds", "loop.example/g00787/impl.kernelNames"], apart := false, laid := [("loop.example/g00787/impl.kernelNames", laid_loop_example_g00787_impl_kernelNames), ("loop.example/g00787/impl.kernelEnds", laid_loop_example_g00787_impl_kernelEnds)] }
def FnExactNewMachineSaid : Prop := fnExactNewMachineRow.holds Tryd.pinned (OpenSpec.ofChange fnExactNewMachineSpec)

/-- ITS FALSE NEIGHBOUR: 'it returns false'. Refute it at one input. -/
def fnExactNewMachineWrong : ChangeSpec := { name := "fnExactNewMachine", vars := ["loop.example/g00787/impl.kernelEnds", "loop.example/g00787/impl.kernelNames"], fn := fun _ => fun
  | [g1, g2] => { results := [.lit (.bool false)], args := [], vars := [g1, g2] }
  | _ => none }
def FnExactNewMachineWrongFalsely : Prop := fnExactNewMachineRow.holds Tryd.pinned (OpenSpec.ofChange fnExactNewMachineWrong)

/-- 'laws.FnExactMachineOK': WHATEVER THE INPUT: true; the input reads as it did. -/
def fnExactMachineOKSpec : ChangeSpec := { name := "fnExactMachineOK", vars := ["loop.example/g00787/impl.kernelEnds", "loop.example/g00787/impl.kernelNames"], fn := fun _ => fun
  | [d, g1, g2] => { results := [.lit (.bool true)], args := [d], vars := [g1, g2] }
  | _ => none }
def fnExactMachineOKRow : OpenClaim := { program := "ytjlfbmplmddceaadoor", sum := "3e9d417e804d8c9a7655a9ffbb2081a0704ca190f6b494ca608b2489e3336032", func := "loop.example/g00787/laws.FnExactMachineOK", spec := "fnExactMachineOK", unfollowed := true, recurses := true, named := ["loop.example/g00787/impl.kernelEnds", "loop.example/g00787/impl.kernelNames"], apart := false, laid := [("loop.example/g00787/impl.kernelNames", laid_loop_example_g00787_impl_kernelNames), ("loop.example/g00787/impl.kernelEnds", laid_loop_example_g00787_impl_kernelEnds)] }
def FnExactMachineOKSaid : Prop := fnExactMachineOKRow.holds Tryd.pinned (OpenSpec.ofChange fnExactMachineOKSpec)

/-- ITS FALSE NEIGHBOUR: 'it returns false'. Refute it at one input. -/
def fnExactMachineOKWrong : ChangeSpec := { name := "fnExactMachineOK", vars := ["loop.example/g00787/impl.kernelEnds", "loop.example/g00787/impl.kernelNames"], fn := fun _ => fun
  | [d, g1, g2] => { results := [.lit (.bool false)], args := [d], vars := [g1, g2] }
  | _ => none }
def FnExactMachineOKWrongFalsely : Prop := fnExactMachineOKRow.holds Tryd.pinned (OpenSpec.ofChange fnExactMachineOKWrong)

/-- 'laws.FnExactSameMachine': WHATEVER THE INPUT: true; the input reads as it did. -/
def fnExactSameMachineSpec : ChangeSpec := { name := "fnExactSameMachine", vars := ["loop.example/g00787/impl.kernelEnds", "loop.example/g00787/impl.kernelNames"], fn := fun _ => fun
  | [d1, d2, g1, g2] => { results := [.lit (.bool true)], args := [d1, d2], vars := [g1, g2] }
  | _ => none }
def fnExactSameMachineRow : OpenClaim := { program := "ytjlfbmplmddceaadoor", sum := "3e9d417e804d8c9a7655a9ffbb2081a0704ca190f6b494ca608b2489e3336032", func := "loop.example/g00787/laws.FnExactSameMachine", spec := "fnExactSameMachine", unfollowed := true, recurses := true, named := ["loop.example/g00787/impl.kernelEnds", "loop.example/g00787/impl.kernelNames"], apart := false, laid := [("loop.example/g00787/impl.kernelNames", laid_loop_example_g00787_impl_kernelNames), ("loop.example/g00787/impl.kernelEnds", laid_loop_example_g00787_impl_kernelEnds)] }
def FnExactSameMachineSaid : Prop := fnExactSameMachineRow.holds Tryd.pinned (OpenSpec.ofChange fnExactSameMachineSpec)

/-- ITS FALSE NEIGHBOUR: 'it returns false'. Refute it at one input. -/
def fnExactSameMachineWrong : ChangeSpec := { name := "fnExactSameMachine", vars := ["loop.example/g00787/impl.kernelEnds", "loop.example/g00787/impl.kernelNames"], fn := fun _ => fun
  | [d1, d2, g1, g2] => { results := [.lit (.bool false)], args := [d1, d2], vars := [g1, g2] }
  | _ => none }
def FnExactSameMachineWrongFalsely : Prop := fnExactSameMachineRow.holds Tryd.pinned (OpenSpec.ofChange fnExactSameMachineWrong)

/- THE SECOND FORM. 'bulk': how many values and letters a reading holds, each counted each time it is reached (what is shared counts as often as it is met; a slice's spare places count too). A statement '..UptoSaid' is the law's where the arguments, and the package variables that the reading takes, are together of bulk at most 1048576: NARROWER than '..Said'. Prove '..Said' where nothing that the law and all that it calls make is longer than what came in: it says more and counts as full. Else prove '..UptoSaid'. A law counts once. -/
mutual
def uptoBulk {H : Type} : DataW H → Nat
  | .lit (.string bytes) => bytes.length + 1
  | .lit _ => 1
  | .nil => 1
  | .ptr d => uptoBulk d + 1
  | .slice elems spare => uptoBulkAll elems + uptoBulkAll spare + 1
  | .agg parts => uptoBulkAll parts + 1
  | .iface _ d => uptoBulk d + 1
  | .map entries => uptoBulkEntries entries + 1
  | .held _ => 1
def uptoBulkAll {H : Type} : List (DataW H) → Nat
  | [] => 0
  | d :: r => uptoBulk d + uptoBulkAll r
def uptoBulkEntries {H : Type} : List (Lit × DataW H) → Nat
  | [] => 0
  | x :: r => uptoBulkEntry x + uptoBulkEntries r
def uptoBulkEntry {H : Type} : Lit × DataW H → Nat
  | (.string bytes, d) => bytes.length + uptoBulk d + 1
  | (_, d) => uptoBulk d + 1
 end
def uptoSmall : (H : Type) → List (DataW H) → Bool := fun _ ds => decide (uptoBulkAll ds ≤ 1048576)
def OpenSpec.upto (s : _root_.Go.ChangeSpec) : _root_.Go.OpenSpec := { _root_.Go.OpenSpec.ofChange s with cond := some uptoSmall }

/-- 'laws.FnExactCodeLines', WHERE WHAT IT READS IS OF BULK AT MOST 1048576: true; the input reads as it did. -/
def fnExactCodeLinesUptoRow : OpenClaim := { program := "ytjlfbmplmddceaadoor", sum := "3e9d417e804d8c9a7655a9ffbb2081a0704ca190f6b494ca608b2489e3336032", func := "loop.example/g00787/laws.FnExactCodeLines", spec := "fnExactCodeLines", unfollowed := true, recurses := true, named := ["loop.example/g00787/impl.kernelEnds", "loop.example/g00787/impl.kernelNames", "internal/strconv.uint64pow10", "math/bits.deBruijn32tab", "math/bits.deBruijn64tab"], apart := false, laid := [("math/bits.deBruijn32tab", laid_math_bits_deBruijn32tab), ("math/bits.deBruijn64tab", laid_math_bits_deBruijn64tab), ("internal/strconv.uint64pow10", laid_internal_strconv_uint64pow10), ("loop.example/g00787/impl.kernelNames", laid_loop_example_g00787_impl_kernelNames), ("loop.example/g00787/impl.kernelEnds", laid_loop_example_g00787_impl_kernelEnds)], narrowed := true }
def FnExactCodeLinesUptoSaid : Prop := fnExactCodeLinesUptoRow.holds Tryd.pinned (OpenSpec.upto fnExactCodeLinesSpec)

/-- 'laws.FnExactNewMachine', WHERE WHAT IT READS IS OF BULK AT MOST 1048576: true; the input reads as it did. -/
def fnExactNewMachineUptoRow : OpenClaim := { program := "ytjlfbmplmddceaadoor", sum := "3e9d417e804d8c9a7655a9ffbb2081a0704ca190f6b494ca608b2489e3336032", func := "loop.example/g00787/laws.FnExactNewMachine", spec := "fnExactNewMachine", named := ["loop.example/g00787/impl.kernelEnds", "loop.example/g00787/impl.kernelNames"], apart := false, laid := [("loop.example/g00787/impl.kernelNames", laid_loop_example_g00787_impl_kernelNames), ("loop.example/g00787/impl.kernelEnds", laid_loop_example_g00787_impl_kernelEnds)], narrowed := true }
def FnExactNewMachineUptoSaid : Prop := fnExactNewMachineUptoRow.holds Tryd.pinned (OpenSpec.upto fnExactNewMachineSpec)

/-- 'laws.FnExactMachineOK', WHERE WHAT IT READS IS OF BULK AT MOST 1048576: true; the input reads as it did. -/
def fnExactMachineOKUptoRow : OpenClaim := { program := "ytjlfbmplmddceaadoor", sum := "3e9d417e804d8c9a7655a9ffbb2081a0704ca190f6b494ca608b2489e3336032", func := "loop.example/g00787/laws.FnExactMachineOK", spec := "fnExactMachineOK", unfollowed := true, recurses := true, named := ["loop.example/g00787/impl.kernelEnds", "loop.example/g00787/impl.kernelNames"], apart := false, laid := [("loop.example/g00787/impl.kernelNames", laid_loop_example_g00787_impl_kernelNames), ("loop.example/g00787/impl.kernelEnds", laid_loop_example_g00787_impl_kernelEnds)], narrowed := true }
def FnExactMachineOKUptoSaid : Prop := fnExactMachineOKUptoRow.holds Tryd.pinned (OpenSpec.upto fnExactMachineOKSpec)

/-- 'laws.FnExactSameMachine', WHERE WHAT IT READS IS OF BULK AT MOST 1048576: true; the input reads as it did. -/
def fnExactSameMachineUptoRow : OpenClaim := { program := "ytjlfbmplmddceaadoor", sum := "3e9d417e804d8c9a7655a9ffbb2081a0704ca190f6b494ca608b2489e3336032", func := "loop.example/g00787/laws.FnExactSameMachine", spec := "fnExactSameMachine", unfollowed := true, recurses := true, named := ["loop.example/g00787/impl.kernelEnds", "loop.example/g00787/impl.kernelNames"], apart := false, laid := [("loop.example/g00787/impl.kernelNames", laid_loop_example_g00787_impl_kernelNames), ("loop.example/g00787/impl.kernelEnds", laid_loop_example_g00787_impl_kernelEnds)], narrowed := true }
def FnExactSameMachineUptoSaid : Prop := fnExactSameMachineUptoRow.holds Tryd.pinned (OpenSpec.upto fnExactSameMachineSpec)

end Rows
end Go.Proofs.YtjlfbmplmddceaaDoor
