/-
  NARROWER THAN 'FOR EVERY INPUT', by the rows' own cells (each row's printed sentence says how): FnDict: laid · FnExactKernelWords: laid · FnExactDictOK: laid · FnExactFindWord: laid · FnExactAddWord: laid · FnExactTokenOK: laid · FnExactKernelSame: laid.
  DERIVED. THE GIVEN ROWS OF THIS SEAT. 7 by the template 'for every input the law returns true; each argument reads behind the call as it read before'; 0 by the template 'total and deterministic' (their statements: YtdinnhebaldnaaaDoorTotals.lean).
  GIVEN WITH THE SEED: the statements are not yours to turn. If you find one false, say at which input.
  Laid BY PROGRAM, IN A SANDBOX (cutbox-rows.mjs): the forced cells as the released guide's own fill.sh prints them over the translation e369b5d3467a1c83… (all of the seat's roots in one cut). By AI agents, Wed Nov 11 2026. No macro, syntax, notation, axiom, sorry.
-/
import Derived.Test.YtdinnhebaldnaaaDoorChecked
import GoSem.Claim
import GoSem.ClaimJoined
import GoSem.ClaimMapViews
import Derived.JoinedTies
import Derived.KernelRfl
namespace Go.Proofs.YtdinnhebaldnaaaDoor
/- THE CELL 'sum', in the pinned program and in every row, IS THE sha256 OF THE DUMP (.gsa) THAT YtdinnhebaldnaaaDoorProg.lean LOADS. Nothing in Lean hashes anything: it is a label: what it is worth is what the hold of that sum in a sandbox is worth. -/
noncomputable def Tryd.pinned : Pinned := { name := "ytdinnhebaldnaaadoor", sum := "e369b5d3467a1c83dd9ecd3adcfc689dd77eb3fbf1c19e76bb841c03a65904cb", checked := Tryd.checked }
namespace Rows
def none {H : Type} : Left H := { results := [], args := [] }

/- WHAT THE LISTED PACKAGE-LEVEL VARIABLES READ AS WHEN THE CALL BEGINS. Each datum BY PROGRAM (the guide's laid-datum.mjs) off the statement by which the dump's own 'gosem.cut.vars' lays the variable. In a bare row this is a premise. The card (YtdinnhebaldnaaaDoorCards.lean) ties it to the program's text. -/
def laid_loop_example_g00787_impl_kernelNames {H : Type} : DataW H := .agg [.lit (.string [68, 85, 80]), .lit (.string [68, 82, 79, 80]), .lit (.string [83, 87, 65, 80]), .lit (.string [79, 86, 69, 82]), .lit (.string [82, 79, 84]), .lit (.string [78, 73, 80]), .lit (.string [84, 85, 67, 75]), .lit (.string [63, 68, 85, 80]), .lit (.string [50, 68, 85, 80]), .lit (.string [50, 68, 82, 79, 80]), .lit (.string [68, 69, 80, 84, 72]), .lit (.string [62, 82]), .lit (.string [82, 62]), .lit (.string [82, 64]), .lit (.string [43]), .lit (.string [45]), .lit (.string [42]), .lit (.string [47]), .lit (.string [77, 79, 68]), .lit (.string [65, 78, 68]), .lit (.string [79, 82]), .lit (.string [88, 79, 82]), .lit (.string [76, 83, 72, 73, 70, 84]), .lit (.string [82, 83, 72, 73, 70, 84]), .lit (.string [78, 69, 71, 65, 84, 69]), .lit (.string [65, 66, 83]), .lit (.string [73, 78, 86, 69, 82, 84]), .lit (.string [49, 43]), .lit (.string [49, 45]), .lit (.string [77, 73, 78]), .lit (.string [77, 65, 88]), .lit (.string [61]), .lit (.string [60, 62]), .lit (.string [60]), .lit (.string [62]), .lit (.string [85, 60]), .lit (.string [48, 61]), .lit (.string [48, 60]), .lit (.string [64]), .lit (.string [33]), .lit (.string [43, 33]), .lit (.string [72, 69, 82, 69]), .lit (.string [65, 76, 76, 79, 84]), .lit (.string [44]), .lit (.string [69, 77, 73, 84]), .lit (.string [46]), .lit (.string [67, 82]), .lit (.string [83, 80, 65, 67, 69]), .lit (.string [68, 69, 67, 73, 77, 65, 76]), .lit (.string [72, 69, 88]), .lit (.string [73]), .lit (.string [85, 78, 76, 79, 79, 80]), .lit (.string [69, 88, 73, 84]), .lit (.string [69, 88, 69, 67, 85, 84, 69]), .lit (.string [67, 65, 84, 67, 72]), .lit (.string [84, 72, 82, 79, 87]), .lit (.string [40, 76, 73, 84, 41]), .lit (.string [40, 66, 82, 65, 78, 67, 72, 41]), .lit (.string [40, 48, 66, 82, 65, 78, 67, 72, 41]), .lit (.string [40, 68, 79, 41]), .lit (.string [40, 76, 79, 79, 80, 41]), .lit (.string [40, 43, 76, 79, 79, 80, 41]), .lit (.string [72, 82, 69, 65, 68]), .lit (.string [72, 87, 82, 73, 84, 69]), .lit (.string [72, 65, 83, 75]), .lit (.string [72, 84, 73, 77, 69]), .lit (.string [58]), .lit (.string [59]), .lit (.string [73, 70]), .lit (.string [69, 76, 83, 69]), .lit (.string [84, 72, 69, 78]), .lit (.string [66, 69, 71, 73, 78]), .lit (.string [85, 78, 84, 73, 76]), .lit (.string [87, 72, 73, 76, 69]), .lit (.string [82, 69, 80, 69, 65, 84]), .lit (.string [68, 79]), .lit (.string [76, 79, 79, 80]), .lit (.string [43, 76, 79, 79, 80]), .lit (.string [82, 69, 67, 85, 82, 83, 69]), .lit (.string [86, 65, 82, 73, 65, 66, 76, 69]), .lit (.string [67, 79, 78, 83, 84, 65, 78, 84]), .lit (.string [39]), .lit (.string [91, 39, 93])]
def laid_loop_example_g00787_impl_kernelEnds {H : Type} : DataW H := .agg [.lit (.int .i64 0), .lit (.int .i64 52), .lit (.int .i64 56), .lit (.int .i64 62), .lit (.int .i64 66), .lit (.int .i64 83)]

/-- 'laws.FnDict': WHATEVER THE INPUT: true; the input reads as it did. -/
def fnDictSpec : ChangeSpec := { name := "fnDict", vars := ["loop.example/g00787/impl.kernelEnds", "loop.example/g00787/impl.kernelNames"], fn := fun _ => fun
  | [d1, d2, g1, g2] => { results := [.lit (.bool true)], args := [d1, d2], vars := [g1, g2] }
  | _ => none }
def fnDictRow : OpenClaim := { program := "ytdinnhebaldnaaadoor", sum := "e369b5d3467a1c83dd9ecd3adcfc689dd77eb3fbf1c19e76bb841c03a65904cb", func := "loop.example/g00787/laws.FnDict", spec := "fnDict", unfollowed := true, recurses := true, named := ["loop.example/g00787/impl.kernelEnds", "loop.example/g00787/impl.kernelNames"], plainKeys := false, apart := false, laid := [("loop.example/g00787/impl.kernelNames", laid_loop_example_g00787_impl_kernelNames), ("loop.example/g00787/impl.kernelEnds", laid_loop_example_g00787_impl_kernelEnds)] }
def FnDictSaid : Prop := fnDictRow.holds Tryd.pinned (OpenSpec.ofChange fnDictSpec)

/-- ITS FALSE NEIGHBOUR: 'it returns false'. Refute it at one input. -/
def fnDictWrong : ChangeSpec := { name := "fnDict", vars := ["loop.example/g00787/impl.kernelEnds", "loop.example/g00787/impl.kernelNames"], fn := fun _ => fun
  | [d1, d2, g1, g2] => { results := [.lit (.bool false)], args := [d1, d2], vars := [g1, g2] }
  | _ => none }
def FnDictWrongFalsely : Prop := fnDictRow.holds Tryd.pinned (OpenSpec.ofChange fnDictWrong)

/-- 'laws.FnExactKernelWords': WHATEVER THE INPUT: true; the input reads as it did. -/
def fnExactKernelWordsSpec : ChangeSpec := { name := "fnExactKernelWords", vars := ["loop.example/g00787/impl.kernelEnds", "loop.example/g00787/impl.kernelNames"], fn := fun _ => fun
  | [g1, g2] => { results := [.lit (.bool true)], args := [], vars := [g1, g2] }
  | _ => none }
def fnExactKernelWordsRow : OpenClaim := { program := "ytdinnhebaldnaaadoor", sum := "e369b5d3467a1c83dd9ecd3adcfc689dd77eb3fbf1c19e76bb841c03a65904cb", func := "loop.example/g00787/laws.FnExactKernelWords", spec := "fnExactKernelWords", named := ["loop.example/g00787/impl.kernelEnds", "loop.example/g00787/impl.kernelNames"], plainKeys := false, apart := false, laid := [("loop.example/g00787/impl.kernelNames", laid_loop_example_g00787_impl_kernelNames), ("loop.example/g00787/impl.kernelEnds", laid_loop_example_g00787_impl_kernelEnds)] }
def FnExactKernelWordsSaid : Prop := fnExactKernelWordsRow.holds Tryd.pinned (OpenSpec.ofChange fnExactKernelWordsSpec)

/-- ITS FALSE NEIGHBOUR: 'it returns false'. Refute it at one input. -/
def fnExactKernelWordsWrong : ChangeSpec := { name := "fnExactKernelWords", vars := ["loop.example/g00787/impl.kernelEnds", "loop.example/g00787/impl.kernelNames"], fn := fun _ => fun
  | [g1, g2] => { results := [.lit (.bool false)], args := [], vars := [g1, g2] }
  | _ => none }
def FnExactKernelWordsWrongFalsely : Prop := fnExactKernelWordsRow.holds Tryd.pinned (OpenSpec.ofChange fnExactKernelWordsWrong)

/-- 'laws.FnExactDictOK': WHATEVER THE INPUT: true; the input reads as it did. -/
def fnExactDictOKSpec : ChangeSpec := { name := "fnExactDictOK", vars := ["loop.example/g00787/impl.kernelEnds", "loop.example/g00787/impl.kernelNames"], fn := fun _ => fun
  | [d, g1, g2] => { results := [.lit (.bool true)], args := [d], vars := [g1, g2] }
  | _ => none }
def fnExactDictOKRow : OpenClaim := { program := "ytdinnhebaldnaaadoor", sum := "e369b5d3467a1c83dd9ecd3adcfc689dd77eb3fbf1c19e76bb841c03a65904cb", func := "loop.example/g00787/laws.FnExactDictOK", spec := "fnExactDictOK", unfollowed := true, recurses := true, named := ["loop.example/g00787/impl.kernelEnds", "loop.example/g00787/impl.kernelNames"], plainKeys := false, apart := false, laid := [("loop.example/g00787/impl.kernelNames", laid_loop_example_g00787_impl_kernelNames), ("loop.example/g00787/impl.kernelEnds", laid_loop_example_g00787_impl_kernelEnds)] }
def FnExactDictOKSaid : Prop := fnExactDictOKRow.holds Tryd.pinned (OpenSpec.ofChange fnExactDictOKSpec)

/-- ITS FALSE NEIGHBOUR: 'it returns false'. Refute it at one input. -/
def fnExactDictOKWrong : ChangeSpec := { name := "fnExactDictOK", vars := ["loop.example/g00787/impl.kernelEnds", "loop.example/g00787/impl.kernelNames"], fn := fun _ => fun
  | [d, g1, g2] => { results := [.lit (.bool false)], args := [d], vars := [g1, g2] }
  | _ => none }
def FnExactDictOKWrongFalsely : Prop := fnExactDictOKRow.holds Tryd.pinned (OpenSpec.ofChange fnExactDictOKWrong)

/-- 'laws.FnExactFindWord': WHATEVER THE INPUT: true; the input reads as it did. -/
def fnExactFindWordSpec : ChangeSpec := { name := "fnExactFindWord", vars := ["loop.example/g00787/impl.kernelEnds", "loop.example/g00787/impl.kernelNames"], fn := fun _ => fun
  | [d1, d2, g1, g2] => { results := [.lit (.bool true)], args := [d1, d2], vars := [g1, g2] }
  | _ => none }
def fnExactFindWordRow : OpenClaim := { program := "ytdinnhebaldnaaadoor", sum := "e369b5d3467a1c83dd9ecd3adcfc689dd77eb3fbf1c19e76bb841c03a65904cb", func := "loop.example/g00787/laws.FnExactFindWord", spec := "fnExactFindWord", unfollowed := true, recurses := true, named := ["loop.example/g00787/impl.kernelEnds", "loop.example/g00787/impl.kernelNames"], plainKeys := false, apart := false, laid := [("loop.example/g00787/impl.kernelNames", laid_loop_example_g00787_impl_kernelNames), ("loop.example/g00787/impl.kernelEnds", laid_loop_example_g00787_impl_kernelEnds)] }
def FnExactFindWordSaid : Prop := fnExactFindWordRow.holds Tryd.pinned (OpenSpec.ofChange fnExactFindWordSpec)

/-- ITS FALSE NEIGHBOUR: 'it returns false'. Refute it at one input. -/
def fnExactFindWordWrong : ChangeSpec := { name := "fnExactFindWord", vars := ["loop.example/g00787/impl.kernelEnds", "loop.example/g00787/impl.kernelNames"], fn := fun _ => fun
  | [d1, d2, g1, g2] => { results := [.lit (.bool false)], args := [d1, d2], vars := [g1, g2] }
  | _ => none }
def FnExactFindWordWrongFalsely : Prop := fnExactFindWordRow.holds Tryd.pinned (OpenSpec.ofChange fnExactFindWordWrong)

/-- 'laws.FnExactAddWord': WHATEVER THE INPUT: true; the input reads as it did. -/
def fnExactAddWordSpec : ChangeSpec := { name := "fnExactAddWord", vars := ["loop.example/g00787/impl.kernelEnds", "loop.example/g00787/impl.kernelNames"], fn := fun _ => fun
  | [d1, d2, g1, g2] => { results := [.lit (.bool true)], args := [d1, d2], vars := [g1, g2] }
  | _ => none }
def fnExactAddWordRow : OpenClaim := { program := "ytdinnhebaldnaaadoor", sum := "e369b5d3467a1c83dd9ecd3adcfc689dd77eb3fbf1c19e76bb841c03a65904cb", func := "loop.example/g00787/laws.FnExactAddWord", spec := "fnExactAddWord", unfollowed := true, recurses := true, named := ["loop.example/g00787/impl.kernelEnds", "loop.example/g00787/impl.kernelNames"], plainKeys := false, apart := false, laid := [("loop.example/g00787/impl.kernelNames", laid_loop_example_g00787_impl_kernelNames), ("loop.example/g00787/impl.kernelEnds", laid_loop_example_g00787_impl_kernelEnds)] }
def FnExactAddWordSaid : Prop := fnExactAddWordRow.holds Tryd.pinned (OpenSpec.ofChange fnExactAddWordSpec)

/-- ITS FALSE NEIGHBOUR: 'it returns false'. Refute it at one input. -/
def fnExactAddWordWrong : ChangeSpec := { name := "fnExactAddWord", vars := ["loop.example/g00787/impl.kernelEnds", "loop.example/g00787/impl.kernelNames"], fn := fun _ => fun
  | [d1, d2, g1, g2] => { results := [.lit (.bool false)], args := [d1, d2], vars := [g1, g2] }
  | _ => none }
def FnExactAddWordWrongFalsely : Prop := fnExactAddWordRow.holds Tryd.pinned (OpenSpec.ofChange fnExactAddWordWrong)

/-- 'laws.FnExactTokenOK': WHATEVER THE INPUT: true; the input reads as it did. -/
def fnExactTokenOKSpec : ChangeSpec := { name := "fnExactTokenOK", vars := ["loop.example/g00787/impl.kernelEnds", "loop.example/g00787/impl.kernelNames"], fn := fun _ => fun
  | [d1, d2, g1, g2] => { results := [.lit (.bool true)], args := [d1, d2], vars := [g1, g2] }
  | _ => none }
def fnExactTokenOKRow : OpenClaim := { program := "ytdinnhebaldnaaadoor", sum := "e369b5d3467a1c83dd9ecd3adcfc689dd77eb3fbf1c19e76bb841c03a65904cb", func := "loop.example/g00787/laws.FnExactTokenOK", spec := "fnExactTokenOK", unfollowed := true, recurses := true, named := ["loop.example/g00787/impl.kernelEnds", "loop.example/g00787/impl.kernelNames"], plainKeys := false, apart := false, laid := [("loop.example/g00787/impl.kernelNames", laid_loop_example_g00787_impl_kernelNames), ("loop.example/g00787/impl.kernelEnds", laid_loop_example_g00787_impl_kernelEnds)] }
def FnExactTokenOKSaid : Prop := fnExactTokenOKRow.holds Tryd.pinned (OpenSpec.ofChange fnExactTokenOKSpec)

/-- ITS FALSE NEIGHBOUR: 'it returns false'. Refute it at one input. -/
def fnExactTokenOKWrong : ChangeSpec := { name := "fnExactTokenOK", vars := ["loop.example/g00787/impl.kernelEnds", "loop.example/g00787/impl.kernelNames"], fn := fun _ => fun
  | [d1, d2, g1, g2] => { results := [.lit (.bool false)], args := [d1, d2], vars := [g1, g2] }
  | _ => none }
def FnExactTokenOKWrongFalsely : Prop := fnExactTokenOKRow.holds Tryd.pinned (OpenSpec.ofChange fnExactTokenOKWrong)

/-- 'laws.FnExactKernelSame': WHATEVER THE INPUT: true; the input reads as it did. -/
def fnExactKernelSameSpec : ChangeSpec := { name := "fnExactKernelSame", vars := ["loop.example/g00787/impl.kernelEnds", "loop.example/g00787/impl.kernelNames"], fn := fun _ => fun
  | [d, g1, g2] => { results := [.lit (.bool true)], args := [d], vars := [g1, g2] }
  | _ => none }
def fnExactKernelSameRow : OpenClaim := { program := "ytdinnhebaldnaaadoor", sum := "e369b5d3467a1c83dd9ecd3adcfc689dd77eb3fbf1c19e76bb841c03a65904cb", func := "loop.example/g00787/laws.FnExactKernelSame", spec := "fnExactKernelSame", named := ["loop.example/g00787/impl.kernelEnds", "loop.example/g00787/impl.kernelNames"], plainKeys := false, apart := false, laid := [("loop.example/g00787/impl.kernelNames", laid_loop_example_g00787_impl_kernelNames), ("loop.example/g00787/impl.kernelEnds", laid_loop_example_g00787_impl_kernelEnds)] }
def FnExactKernelSameSaid : Prop := fnExactKernelSameRow.holds Tryd.pinned (OpenSpec.ofChange fnExactKernelSameSpec)

/-- ITS FALSE NEIGHBOUR: 'it returns false'. Refute it at one input. -/
def fnExactKernelSameWrong : ChangeSpec := { name := "fnExactKernelSame", vars := ["loop.example/g00787/impl.kernelEnds", "loop.example/g00787/impl.kernelNames"], fn := fun _ => fun
  | [d, g1, g2] => { results := [.lit (.bool false)], args := [d], vars := [g1, g2] }
  | _ => none }
def FnExactKernelSameWrongFalsely : Prop := fnExactKernelSameRow.holds Tryd.pinned (OpenSpec.ofChange fnExactKernelSameWrong)

/- THE SECOND FORM. 'bulk': how many values and letters a reading holds, each counted each time it is reached (what is shared counts as often as it is met; a slice's spare places count too). A statement '..UptoSaid' is the law's where the arguments, and the package variables that the reading takes, are together of bulk at most 1048576: NARROWER than '..Said'. Prove '..Said' where nothing that the law and all that it calls make is longer than what came in: it says more and counts as full. Else prove '..UptoSaid'. A law counts once. -/
mutual
def uptoBulk {H : Type} : DataW H → Nat
  | .lit (.string bytes) => bytes.length + 1
  | .lit _ => 1
  | .nil => 1
  | .ptr d => uptoBulk d + 1
  | .slice elems spare => uptoBulkAll elems + uptoBulkAll spare + 1
  | .agg parts => uptoBulkAll parts + 1
  | .iface _ d => uptoBulk d + 1
  | .map entries => uptoBulkEntries entries + 1
  | .held _ => 1
def uptoBulkAll {H : Type} : List (DataW H) → Nat
  | [] => 0
  | d :: r => uptoBulk d + uptoBulkAll r
def uptoBulkEntries {H : Type} : List (Lit × DataW H) → Nat
  | [] => 0
  | x :: r => uptoBulkEntry x + uptoBulkEntries r
def uptoBulkEntry {H : Type} : Lit × DataW H → Nat
  | (.string bytes, d) => bytes.length + uptoBulk d + 1
  | (_, d) => uptoBulk d + 1
 end
def uptoSmall : (H : Type) → List (DataW H) → Bool := fun _ ds => decide (uptoBulkAll ds ≤ 1048576)
def OpenSpec.upto (s : _root_.Go.ChangeSpec) : _root_.Go.OpenSpec := { _root_.Go.OpenSpec.ofChange s with cond := some uptoSmall }

/-- 'laws.FnDict', WHERE WHAT IT READS IS OF BULK AT MOST 1048576: true; the input reads as it did. -/
def fnDictUptoRow : OpenClaim := { program := "ytdinnhebaldnaaadoor", sum := "e369b5d3467a1c83dd9ecd3adcfc689dd77eb3fbf1c19e76bb841c03a65904cb", func := "loop.example/g00787/laws.FnDict", spec := "fnDict", unfollowed := true, recurses := true, named := ["loop.example/g00787/impl.kernelEnds", "loop.example/g00787/impl.kernelNames"], plainKeys := false, apart := false, laid := [("loop.example/g00787/impl.kernelNames", laid_loop_example_g00787_impl_kernelNames), ("loop.example/g00787/impl.kernelEnds", laid_loop_example_g00787_impl_kernelEnds)], narrowed := true }
def FnDictUptoSaid : Prop := fnDictUptoRow.holds Tryd.pinned (OpenSpec.upto fnDictSpec)

/-- 'laws.FnExactKernelWords', WHERE WHAT IT READS IS OF BULK AT MOST 1048576: true; the input reads as it did. -/
def fnExactKernelWordsUptoRow : OpenClaim := { program := "ytdinnhebaldnaaadoor", sum := "e369b5d3467a1c83dd9ecd3adcfc689dd77eb3fbf1c19e76bb841c03a65904cb", func := "loop.example/g00787/laws.FnExactKernelWords", spec := "fnExactKernelWords", named := ["loop.example/g00787/impl.kernelEnds", "loop.example/g00787/impl.kernelNames"], plainKeys := false, apart := false, laid := [("loop.example/g00787/impl.kernelNames", laid_loop_example_g00787_impl_kernelNames), ("loop.example/g00787/impl.kernelEnds", laid_loop_example_g00787_impl_kernelEnds)], narrowed := true }
def FnExactKernelWordsUptoSaid : Prop := fnExactKernelWordsUptoRow.holds Tryd.pinned (OpenSpec.upto fnExactKernelWordsSpec)

/-- 'laws.FnExactDictOK', WHERE WHAT IT READS IS OF BULK AT MOST 1048576: true; the input reads as it did. -/
def fnExactDictOKUptoRow : OpenClaim := { program := "ytdinnhebaldnaaadoor", sum := "e369b5d3467a1c83dd9ecd3adcfc689dd77eb3fbf1c19e76bb841c03a65904cb", func := "loop.example/g00787/laws.FnExactDictOK", spec := "fnExactDictOK", unfollowed := true, recurses := true, named := ["loop.example/g00787/impl.kernelEnds", "loop.example/g00787/impl.kernelNames"], plainKeys := false, apart := false, laid := [("loop.example/g00787/impl.kernelNames", laid_loop_example_g00787_impl_kernelNames), ("loop.example/g00787/impl.kernelEnds", laid_loop_example_g00787_impl_kernelEnds)], narrowed := true }
def FnExactDictOKUptoSaid : Prop := fnExactDictOKUptoRow.holds Tryd.pinned (OpenSpec.upto fnExactDictOKSpec)

/-- 'laws.FnExactFindWord', WHERE WHAT IT READS IS OF BULK AT MOST 1048576: true; the input reads as it did. -/
def fnExactFindWordUptoRow : OpenClaim := { program := "ytdinnhebaldnaaadoor", sum := "e369b5d3467a1c83dd9ecd3adcfc689dd77eb3fbf1c19e76bb841c03a65904cb", func := "loop.example/g00787/laws.FnExactFindWord", spec := "fnExactFindWord", unfollowed := true, recurses := true, named := ["loop.example/g00787/impl.kernelEnds", "loop.example/g00787/impl.kernelNames"], plainKeys := false, apart := false, laid := [("loop.example/g00787/impl.kernelNames", laid_loop_example_g00787_impl_kernelNames), ("loop.example/g00787/impl.kernelEnds", laid_loop_example_g00787_impl_kernelEnds)], narrowed := true }
def FnExactFindWordUptoSaid : Prop := fnExactFindWordUptoRow.holds Tryd.pinned (OpenSpec.upto fnExactFindWordSpec)

/-- 'laws.FnExactAddWord', WHERE WHAT IT READS IS OF BULK AT MOST 1048576: true; the input reads as it did. -/
def fnExactAddWordUptoRow : OpenClaim := { program := "ytdinnhebaldnaaadoor", sum := "e369b5d3467a1c83dd9ecd3adcfc689dd77eb3fbf1c19e76bb841c03a65904cb", func := "loop.example/g00787/laws.FnExactAddWord", spec := "fnExactAddWord", unfollowed := true, recurses := true, named := ["loop.example/g00787/impl.kernelEnds", "loop.example/g00787/impl.kernelNames"], plainKeys := false, apart := false, laid := [("loop.example/g00787/impl.kernelNames", laid_loop_example_g00787_impl_kernelNames), ("loop.example/g00787/impl.kernelEnds", laid_loop_example_g00787_impl_kernelEnds)], narrowed := true }
def FnExactAddWordUptoSaid : Prop := fnExactAddWordUptoRow.holds Tryd.pinned (OpenSpec.upto fnExactAddWordSpec)

/-- 'laws.FnExactTokenOK', WHERE WHAT IT READS IS OF BULK AT MOST 1048576: true; the input reads as it did. -/
def fnExactTokenOKUptoRow : OpenClaim := { program := "ytdinnhebaldnaaadoor", sum := "e369b5d3467a1c83dd9ecd3adcfc689dd77eb3fbf1c19e76bb841c03a65904cb", func := "loop.example/g00787/laws.FnExactTokenOK", spec := "fnExactTokenOK", unfollowed := true, recurses := true, named := ["loop.example/g00787/impl.kernelEnds", "loop.example/g00787/impl.kernelNames"], plainKeys := false, apart := false, laid := [("loop.example/g00787/impl.kernelNames", laid_loop_example_g00787_impl_kernelNames), ("loop.example/g00787/impl.kernelEnds", laid_loop_example_g00787_impl_kernelEnds)], narrowed := true }
def FnExactTokenOKUptoSaid : Prop := fnExactTokenOKUptoRow.holds Tryd.pinned (OpenSpec.upto fnExactTokenOKSpec)

/-- 'laws.FnExactKernelSame', WHERE WHAT IT READS IS OF BULK AT MOST 1048576: true; the input reads as it did. -/
def fnExactKernelSameUptoRow : OpenClaim := { program := "ytdinnhebaldnaaadoor", sum := "e369b5d3467a1c83dd9ecd3adcfc689dd77eb3fbf1c19e76bb841c03a65904cb", func := "loop.example/g00787/laws.FnExactKernelSame", spec := "fnExactKernelSame", named := ["loop.example/g00787/impl.kernelEnds", "loop.example/g00787/impl.kernelNames"], plainKeys := false, apart := false, laid := [("loop.example/g00787/impl.kernelNames", laid_loop_example_g00787_impl_kernelNames), ("loop.example/g00787/impl.kernelEnds", laid_loop_example_g00787_impl_kernelEnds)], narrowed := true }
def FnExactKernelSameUptoSaid : Prop := fnExactKernelSameUptoRow.holds Tryd.pinned (OpenSpec.upto fnExactKernelSameSpec)

end Rows
end Go.Proofs.YtdinnhebaldnaaaDoor
