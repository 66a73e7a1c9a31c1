/-
  NARROWER THAN 'FOR EVERY INPUT', by the rows' own cells (each row's printed sentence says how): FnExactForthOK: laid · FnExactSameForth: laid · FnPrims: laid · FnIdentities: laid · FnExactApplyPrim: laid · FnExactApplyAll: laid.
  DERIVED. THE GIVEN ROWS OF THIS SEAT. 6 by the template 'for every input the law returns true; each argument reads behind the call as it read before'; 0 by the template 'total and deterministic' (their statements: YthnbaeamekolmaaGreatDoorTotals.lean).
  GIVEN WITH THE SEED: the statements are not yours to turn. If you find one false, say at which input.
  Laid BY PROGRAM, IN A SANDBOX (cutbox-rows.mjs): the forced cells as the released guide's own fill.sh prints them over the translation ede41cde339267e7… (all of the seat's roots in one cut). By AI agents, Wed Nov 11 2026. No macro, syntax, notation, axiom, sorry.
-/
import Derived.Test.YthnbaeamekolmaaGreatDoorChecked
import GoSem.PinnedTables
import GoSem.Claim
import GoSem.ClaimJoined
import GoSem.ClaimMapViews
import Derived.JoinedTies
import Derived.KernelRfl
namespace Go.Proofs.YthnbaeamekolmaaGreatDoor
/- THE CELL 'sum', in the pinned program and in every row, IS THE sha256 OF THE DUMP (.gsa) THAT YthnbaeamekolmaaGreatDoorProg.lean LOADS. Nothing in Lean hashes anything: it is a label: what it is worth is what the hold of that sum in a sandbox is worth. -/
noncomputable def Tryz.pinned : Pinned := { name := "ythnbaeamekolmaagreatdoor", sum := "ede41cde339267e716043f7627b74d53880860d21b039341e2dcda98a7971ee7", checked := Tryz.checked }
namespace Rows
def none {H : Type} : Left H := { results := [], args := [] }

/- WHAT THE LISTED PACKAGE-LEVEL VARIABLES READ AS WHEN THE CALL BEGINS. Each datum BY PROGRAM (the guide's laid-datum.mjs) off the statement by which the dump's own 'gosem.cut.vars' lays the variable. In a bare row this is a premise. The card (YthnbaeamekolmaaGreatDoorCards.lean) ties it to the program's text. -/
def laid_loop_example_g00787_impl_kernelNames {H : Type} : DataW H := .agg [.lit (.string [68, 85, 80]), .lit (.string [68, 82, 79, 80]), .lit (.string [83, 87, 65, 80]), .lit (.string [79, 86, 69, 82]), .lit (.string [82, 79, 84]), .lit (.string [78, 73, 80]), .lit (.string [84, 85, 67, 75]), .lit (.string [63, 68, 85, 80]), .lit (.string [50, 68, 85, 80]), .lit (.string [50, 68, 82, 79, 80]), .lit (.string [68, 69, 80, 84, 72]), .lit (.string [62, 82]), .lit (.string [82, 62]), .lit (.string [82, 64]), .lit (.string [43]), .lit (.string [45]), .lit (.string [42]), .lit (.string [47]), .lit (.string [77, 79, 68]), .lit (.string [65, 78, 68]), .lit (.string [79, 82]), .lit (.string [88, 79, 82]), .lit (.string [76, 83, 72, 73, 70, 84]), .lit (.string [82, 83, 72, 73, 70, 84]), .lit (.string [78, 69, 71, 65, 84, 69]), .lit (.string [65, 66, 83]), .lit (.string [73, 78, 86, 69, 82, 84]), .lit (.string [49, 43]), .lit (.string [49, 45]), .lit (.string [77, 73, 78]), .lit (.string [77, 65, 88]), .lit (.string [61]), .lit (.string [60, 62]), .lit (.string [60]), .lit (.string [62]), .lit (.string [85, 60]), .lit (.string [48, 61]), .lit (.string [48, 60]), .lit (.string [64]), .lit (.string [33]), .lit (.string [43, 33]), .lit (.string [72, 69, 82, 69]), .lit (.string [65, 76, 76, 79, 84]), .lit (.string [44]), .lit (.string [69, 77, 73, 84]), .lit (.string [46]), .lit (.string [67, 82]), .lit (.string [83, 80, 65, 67, 69]), .lit (.string [68, 69, 67, 73, 77, 65, 76]), .lit (.string [72, 69, 88]), .lit (.string [73]), .lit (.string [85, 78, 76, 79, 79, 80]), .lit (.string [69, 88, 73, 84]), .lit (.string [69, 88, 69, 67, 85, 84, 69]), .lit (.string [67, 65, 84, 67, 72]), .lit (.string [84, 72, 82, 79, 87]), .lit (.string [40, 76, 73, 84, 41]), .lit (.string [40, 66, 82, 65, 78, 67, 72, 41]), .lit (.string [40, 48, 66, 82, 65, 78, 67, 72, 41]), .lit (.string [40, 68, 79, 41]), .lit (.string [40, 76, 79, 79, 80, 41]), .lit (.string [40, 43, 76, 79, 79, 80, 41]), .lit (.string [72, 82, 69, 65, 68]), .lit (.string [72, 87, 82, 73, 84, 69]), .lit (.string [72, 65, 83, 75]), .lit (.string [72, 84, 73, 77, 69]), .lit (.string [58]), .lit (.string [59]), .lit (.string [73, 70]), .lit (.string [69, 76, 83, 69]), .lit (.string [84, 72, 69, 78]), .lit (.string [66, 69, 71, 73, 78]), .lit (.string [85, 78, 84, 73, 76]), .lit (.string [87, 72, 73, 76, 69]), .lit (.string [82, 69, 80, 69, 65, 84]), .lit (.string [68, 79]), .lit (.string [76, 79, 79, 80]), .lit (.string [43, 76, 79, 79, 80]), .lit (.string [82, 69, 67, 85, 82, 83, 69]), .lit (.string [86, 65, 82, 73, 65, 66, 76, 69]), .lit (.string [67, 79, 78, 83, 84, 65, 78, 84]), .lit (.string [39]), .lit (.string [91, 39, 93])]
def laid_loop_example_g00787_impl_kernelEnds {H : Type} : DataW H := .agg [.lit (.int .i64 0), .lit (.int .i64 52), .lit (.int .i64 56), .lit (.int .i64 62), .lit (.int .i64 66), .lit (.int .i64 83)]
def laid_math_bits_deBruijn32tab {H : Type} : DataW H := .agg [.lit (.int .u8 0), .lit (.int .u8 1), .lit (.int .u8 28), .lit (.int .u8 2), .lit (.int .u8 29), .lit (.int .u8 14), .lit (.int .u8 24), .lit (.int .u8 3), .lit (.int .u8 30), .lit (.int .u8 22), .lit (.int .u8 20), .lit (.int .u8 15), .lit (.int .u8 25), .lit (.int .u8 17), .lit (.int .u8 4), .lit (.int .u8 8), .lit (.int .u8 31), .lit (.int .u8 27), .lit (.int .u8 13), .lit (.int .u8 23), .lit (.int .u8 21), .lit (.int .u8 19), .lit (.int .u8 16), .lit (.int .u8 7), .lit (.int .u8 26), .lit (.int .u8 12), .lit (.int .u8 18), .lit (.int .u8 6), .lit (.int .u8 11), .lit (.int .u8 5), .lit (.int .u8 10), .lit (.int .u8 9)]
def laid_math_bits_deBruijn64tab {H : Type} : DataW H := .agg [.lit (.int .u8 0), .lit (.int .u8 1), .lit (.int .u8 56), .lit (.int .u8 2), .lit (.int .u8 57), .lit (.int .u8 49), .lit (.int .u8 28), .lit (.int .u8 3), .lit (.int .u8 61), .lit (.int .u8 58), .lit (.int .u8 42), .lit (.int .u8 50), .lit (.int .u8 38), .lit (.int .u8 29), .lit (.int .u8 17), .lit (.int .u8 4), .lit (.int .u8 62), .lit (.int .u8 47), .lit (.int .u8 59), .lit (.int .u8 36), .lit (.int .u8 45), .lit (.int .u8 43), .lit (.int .u8 51), .lit (.int .u8 22), .lit (.int .u8 53), .lit (.int .u8 39), .lit (.int .u8 33), .lit (.int .u8 30), .lit (.int .u8 24), .lit (.int .u8 18), .lit (.int .u8 12), .lit (.int .u8 5), .lit (.int .u8 63), .lit (.int .u8 55), .lit (.int .u8 48), .lit (.int .u8 27), .lit (.int .u8 60), .lit (.int .u8 41), .lit (.int .u8 37), .lit (.int .u8 16), .lit (.int .u8 46), .lit (.int .u8 35), .lit (.int .u8 44), .lit (.int .u8 21), .lit (.int .u8 52), .lit (.int .u8 32), .lit (.int .u8 23), .lit (.int .u8 11), .lit (.int .u8 54), .lit (.int .u8 26), .lit (.int .u8 40), .lit (.int .u8 15), .lit (.int .u8 34), .lit (.int .u8 20), .lit (.int .u8 31), .lit (.int .u8 10), .lit (.int .u8 25), .lit (.int .u8 14), .lit (.int .u8 19), .lit (.int .u8 9), .lit (.int .u8 13), .lit (.int .u8 8), .lit (.int .u8 7), .lit (.int .u8 6)]
def laid_internal_strconv_uint64pow10 {H : Type} : DataW H := .agg [.lit (.int .u64 1), .lit (.int .u64 10), .lit (.int .u64 100), .lit (.int .u64 1000), .lit (.int .u64 10000), .lit (.int .u64 100000), .lit (.int .u64 1000000), .lit (.int .u64 10000000), .lit (.int .u64 100000000), .lit (.int .u64 1000000000), .lit (.int .u64 10000000000), .lit (.int .u64 100000000000), .lit (.int .u64 1000000000000), .lit (.int .u64 10000000000000), .lit (.int .u64 100000000000000), .lit (.int .u64 1000000000000000), .lit (.int .u64 10000000000000000), .lit (.int .u64 100000000000000000), .lit (.int .u64 1000000000000000000), .lit (.int .u64 10000000000000000000)]
def laid_unicode_utf8_acceptRanges {H : Type} : DataW H := .agg [.agg [.lit (.int .u8 128), .lit (.int .u8 191)], .agg [.lit (.int .u8 160), .lit (.int .u8 191)], .agg [.lit (.int .u8 128), .lit (.int .u8 159)], .agg [.lit (.int .u8 144), .lit (.int .u8 191)], .agg [.lit (.int .u8 128), .lit (.int .u8 143)], .agg [.lit (.int .u8 0), .lit (.int .u8 0)], .agg [.lit (.int .u8 0), .lit (.int .u8 0)], .agg [.lit (.int .u8 0), .lit (.int .u8 0)], .agg [.lit (.int .u8 0), .lit (.int .u8 0)], .agg [.lit (.int .u8 0), .lit (.int .u8 0)], .agg [.lit (.int .u8 0), .lit (.int .u8 0)], .agg [.lit (.int .u8 0), .lit (.int .u8 0)], .agg [.lit (.int .u8 0), .lit (.int .u8 0)], .agg [.lit (.int .u8 0), .lit (.int .u8 0)], .agg [.lit (.int .u8 0), .lit (.int .u8 0)], .agg [.lit (.int .u8 0), .lit (.int .u8 0)]]
def laid_loop_example_g00787_impl_flags {H : Type} : DataW H := .agg [.agg [.lit (.int .i64 0), .lit (.int .i64 (-1)), .lit (.int .i64 0)], .agg [.lit (.int .i64 (-1)), .lit (.int .i64 0), .lit (.int .i64 (-1))], .agg [.lit (.int .i64 (-1)), .lit (.int .i64 0), .lit (.int .i64 0)], .agg [.lit (.int .i64 0), .lit (.int .i64 0), .lit (.int .i64 (-1))]]
/-- One of Go's own tables, pinned by name: the form's constant. -/
def laid_unicode_CaseRanges : DataW Unit := Go.Pinned.caseRanges
/-- One of Go's own tables, pinned by name: the form's constant. -/
def laid_unicode_utf8_first : DataW Unit := Go.Pinned.utf8First

/-- 'laws.FnExactForthOK': WHATEVER THE INPUT: true; the input reads as it did. -/
def fnExactForthOKSpec : ChangeSpec := { name := "fnExactForthOK", vars := ["loop.example/g00787/impl.kernelEnds", "loop.example/g00787/impl.kernelNames"], fn := fun _ => fun
  | [d, g1, g2] => { results := [.lit (.bool true)], args := [d], vars := [g1, g2] }
  | _ => none }
def fnExactForthOKRow : OpenClaim := { program := "ythnbaeamekolmaagreatdoor", sum := "ede41cde339267e716043f7627b74d53880860d21b039341e2dcda98a7971ee7", func := "loop.example/g00787/laws.FnExactForthOK", spec := "fnExactForthOK", unfollowed := true, recurses := true, named := ["loop.example/g00787/impl.kernelEnds", "loop.example/g00787/impl.kernelNames"], apart := false, laid := [("loop.example/g00787/impl.kernelNames", laid_loop_example_g00787_impl_kernelNames), ("loop.example/g00787/impl.kernelEnds", laid_loop_example_g00787_impl_kernelEnds)] }
def FnExactForthOKSaid : Prop := fnExactForthOKRow.holds Tryz.pinned (OpenSpec.ofChange fnExactForthOKSpec)

/-- ITS FALSE NEIGHBOUR: 'it returns false'. Refute it at one input. -/
def fnExactForthOKWrong : ChangeSpec := { name := "fnExactForthOK", vars := ["loop.example/g00787/impl.kernelEnds", "loop.example/g00787/impl.kernelNames"], fn := fun _ => fun
  | [d, g1, g2] => { results := [.lit (.bool false)], args := [d], vars := [g1, g2] }
  | _ => none }
def FnExactForthOKWrongFalsely : Prop := fnExactForthOKRow.holds Tryz.pinned (OpenSpec.ofChange fnExactForthOKWrong)

/-- 'laws.FnExactSameForth': WHATEVER THE INPUT: true; the input reads as it did. -/
def fnExactSameForthSpec : ChangeSpec := { name := "fnExactSameForth", vars := ["loop.example/g00787/impl.kernelEnds", "loop.example/g00787/impl.kernelNames"], fn := fun _ => fun
  | [d1, d2, g1, g2] => { results := [.lit (.bool true)], args := [d1, d2], vars := [g1, g2] }
  | _ => none }
def fnExactSameForthRow : OpenClaim := { program := "ythnbaeamekolmaagreatdoor", sum := "ede41cde339267e716043f7627b74d53880860d21b039341e2dcda98a7971ee7", func := "loop.example/g00787/laws.FnExactSameForth", spec := "fnExactSameForth", unfollowed := true, recurses := true, named := ["loop.example/g00787/impl.kernelEnds", "loop.example/g00787/impl.kernelNames"], apart := false, laid := [("loop.example/g00787/impl.kernelNames", laid_loop_example_g00787_impl_kernelNames), ("loop.example/g00787/impl.kernelEnds", laid_loop_example_g00787_impl_kernelEnds)] }
def FnExactSameForthSaid : Prop := fnExactSameForthRow.holds Tryz.pinned (OpenSpec.ofChange fnExactSameForthSpec)

/-- ITS FALSE NEIGHBOUR: 'it returns false'. Refute it at one input. -/
def fnExactSameForthWrong : ChangeSpec := { name := "fnExactSameForth", vars := ["loop.example/g00787/impl.kernelEnds", "loop.example/g00787/impl.kernelNames"], fn := fun _ => fun
  | [d1, d2, g1, g2] => { results := [.lit (.bool false)], args := [d1, d2], vars := [g1, g2] }
  | _ => none }
def FnExactSameForthWrongFalsely : Prop := fnExactSameForthRow.holds Tryz.pinned (OpenSpec.ofChange fnExactSameForthWrong)

/-- 'laws.FnPrims': WHATEVER THE INPUT: true; the input reads as it did. -/
def fnPrimsSpec : ChangeSpec := { name := "fnPrims", vars := ["loop.example/g00787/impl.flags"], fn := fun _ => fun
  | [d1, d2, g1] => { results := [.lit (.bool true)], args := [d1, d2], vars := [g1] }
  | _ => none }
def fnPrimsRow : OpenClaim := { program := "ythnbaeamekolmaagreatdoor", sum := "ede41cde339267e716043f7627b74d53880860d21b039341e2dcda98a7971ee7", func := "loop.example/g00787/laws.FnPrims", spec := "fnPrims", inPlace := ["internal/abi.NoEscape", "internal/bytealg.MakeNoZero"], unfollowed := true, recurses := true, named := ["loop.example/g00787/impl.flags", "internal/strconv.uint64pow10", "math/bits.deBruijn32tab", "math/bits.deBruijn64tab", "unicode/utf8.first", "unicode/utf8.acceptRanges", "unicode.CaseRanges"], apart := false, laid := [("math/bits.deBruijn32tab", laid_math_bits_deBruijn32tab), ("math/bits.deBruijn64tab", laid_math_bits_deBruijn64tab), ("internal/strconv.uint64pow10", laid_internal_strconv_uint64pow10), ("unicode/utf8.acceptRanges", laid_unicode_utf8_acceptRanges), ("loop.example/g00787/impl.flags", laid_loop_example_g00787_impl_flags), ("unicode.CaseRanges", laid_unicode_CaseRanges), ("unicode/utf8.first", laid_unicode_utf8_first)] }
def FnPrimsSaid : Prop := fnPrimsRow.holds Tryz.pinned (OpenSpec.ofChange fnPrimsSpec)

/-- ITS FALSE NEIGHBOUR: 'it returns false'. Refute it at one input. -/
def fnPrimsWrong : ChangeSpec := { name := "fnPrims", vars := ["loop.example/g00787/impl.flags"], fn := fun _ => fun
  | [d1, d2, g1] => { results := [.lit (.bool false)], args := [d1, d2], vars := [g1] }
  | _ => none }
def FnPrimsWrongFalsely : Prop := fnPrimsRow.holds Tryz.pinned (OpenSpec.ofChange fnPrimsWrong)

/-- 'laws.FnIdentities': WHATEVER THE INPUT: true; the input reads as it did. -/
def fnIdentitiesSpec : ChangeSpec := { name := "fnIdentities", vars := ["loop.example/g00787/impl.flags"], fn := fun _ => fun
  | [d1, d2, g1] => { results := [.lit (.bool true)], args := [d1, d2], vars := [g1] }
  | _ => none }
def fnIdentitiesRow : OpenClaim := { program := "ythnbaeamekolmaagreatdoor", sum := "ede41cde339267e716043f7627b74d53880860d21b039341e2dcda98a7971ee7", func := "loop.example/g00787/laws.FnIdentities", spec := "fnIdentities", inPlace := ["internal/abi.NoEscape", "internal/bytealg.MakeNoZero"], unfollowed := true, recurses := true, named := ["loop.example/g00787/impl.flags", "internal/strconv.uint64pow10", "math/bits.deBruijn32tab", "math/bits.deBruijn64tab", "unicode/utf8.first", "unicode/utf8.acceptRanges", "unicode.CaseRanges"], apart := false, laid := [("math/bits.deBruijn32tab", laid_math_bits_deBruijn32tab), ("math/bits.deBruijn64tab", laid_math_bits_deBruijn64tab), ("internal/strconv.uint64pow10", laid_internal_strconv_uint64pow10), ("unicode/utf8.acceptRanges", laid_unicode_utf8_acceptRanges), ("loop.example/g00787/impl.flags", laid_loop_example_g00787_impl_flags), ("unicode.CaseRanges", laid_unicode_CaseRanges), ("unicode/utf8.first", laid_unicode_utf8_first)] }
def FnIdentitiesSaid : Prop := fnIdentitiesRow.holds Tryz.pinned (OpenSpec.ofChange fnIdentitiesSpec)

/-- ITS FALSE NEIGHBOUR: 'it returns false'. Refute it at one input. -/
def fnIdentitiesWrong : ChangeSpec := { name := "fnIdentities", vars := ["loop.example/g00787/impl.flags"], fn := fun _ => fun
  | [d1, d2, g1] => { results := [.lit (.bool false)], args := [d1, d2], vars := [g1] }
  | _ => none }
def FnIdentitiesWrongFalsely : Prop := fnIdentitiesRow.holds Tryz.pinned (OpenSpec.ofChange fnIdentitiesWrong)

/-- 'laws.FnExactApplyPrim': WHATEVER THE INPUT: true; the input reads as it did. -/
def fnExactApplyPrimSpec : ChangeSpec := { name := "fnExactApplyPrim", vars := ["loop.example/g00787/impl.flags"], fn := fun _ => fun
  | [d1, d2, d3, g1] => { results := [.lit (.bool true)], args := [d1, d2, d3], vars := [g1] }
  | _ => none }
def fnExactApplyPrimRow : OpenClaim := { program := "ythnbaeamekolmaagreatdoor", sum := "ede41cde339267e716043f7627b74d53880860d21b039341e2dcda98a7971ee7", func := "loop.example/g00787/laws.FnExactApplyPrim", spec := "fnExactApplyPrim", inPlace := ["internal/abi.NoEscape", "internal/bytealg.MakeNoZero"], unfollowed := true, recurses := true, named := ["loop.example/g00787/impl.flags", "internal/strconv.uint64pow10", "math/bits.deBruijn32tab", "math/bits.deBruijn64tab", "unicode/utf8.first", "unicode/utf8.acceptRanges", "unicode.CaseRanges"], apart := false, laid := [("math/bits.deBruijn32tab", laid_math_bits_deBruijn32tab), ("math/bits.deBruijn64tab", laid_math_bits_deBruijn64tab), ("internal/strconv.uint64pow10", laid_internal_strconv_uint64pow10), ("unicode/utf8.acceptRanges", laid_unicode_utf8_acceptRanges), ("loop.example/g00787/impl.flags", laid_loop_example_g00787_impl_flags), ("unicode.CaseRanges", laid_unicode_CaseRanges), ("unicode/utf8.first", laid_unicode_utf8_first)] }
def FnExactApplyPrimSaid : Prop := fnExactApplyPrimRow.holds Tryz.pinned (OpenSpec.ofChange fnExactApplyPrimSpec)

/-- ITS FALSE NEIGHBOUR: 'it returns false'. Refute it at one input. -/
def fnExactApplyPrimWrong : ChangeSpec := { name := "fnExactApplyPrim", vars := ["loop.example/g00787/impl.flags"], fn := fun _ => fun
  | [d1, d2, d3, g1] => { results := [.lit (.bool false)], args := [d1, d2, d3], vars := [g1] }
  | _ => none }
def FnExactApplyPrimWrongFalsely : Prop := fnExactApplyPrimRow.holds Tryz.pinned (OpenSpec.ofChange fnExactApplyPrimWrong)

/-- 'laws.FnExactApplyAll': WHATEVER THE INPUT: true; the input reads as it did. -/
def fnExactApplyAllSpec : ChangeSpec := { name := "fnExactApplyAll", vars := ["loop.example/g00787/impl.flags"], fn := fun _ => fun
  | [d1, d2, g1] => { results := [.lit (.bool true)], args := [d1, d2], vars := [g1] }
  | _ => none }
def fnExactApplyAllRow : OpenClaim := { program := "ythnbaeamekolmaagreatdoor", sum := "ede41cde339267e716043f7627b74d53880860d21b039341e2dcda98a7971ee7", func := "loop.example/g00787/laws.FnExactApplyAll", spec := "fnExactApplyAll", inPlace := ["internal/abi.NoEscape", "internal/bytealg.MakeNoZero"], unfollowed := true, recurses := true, named := ["loop.example/g00787/impl.flags", "internal/strconv.uint64pow10", "math/bits.deBruijn32tab", "math/bits.deBruijn64tab", "unicode/utf8.first", "unicode/utf8.acceptRanges", "unicode.CaseRanges"], apart := false, laid := [("math/bits.deBruijn32tab", laid_math_bits_deBruijn32tab), ("math/bits.deBruijn64tab", laid_math_bits_deBruijn64tab), ("internal/strconv.uint64pow10", laid_internal_strconv_uint64pow10), ("unicode/utf8.acceptRanges", laid_unicode_utf8_acceptRanges), ("loop.example/g00787/impl.flags", laid_loop_example_g00787_impl_flags), ("unicode.CaseRanges", laid_unicode_CaseRanges), ("unicode/utf8.first", laid_unicode_utf8_first)] }
def FnExactApplyAllSaid : Prop := fnExactApplyAllRow.holds Tryz.pinned (OpenSpec.ofChange fnExactApplyAllSpec)

/-- ITS FALSE NEIGHBOUR: 'it returns false'. Refute it at one input. -/
def fnExactApplyAllWrong : ChangeSpec := { name := "fnExactApplyAll", vars := ["loop.example/g00787/impl.flags"], fn := fun _ => fun
  | [d1, d2, g1] => { results := [.lit (.bool false)], args := [d1, d2], vars := [g1] }
  | _ => none }
def FnExactApplyAllWrongFalsely : Prop := fnExactApplyAllRow.holds Tryz.pinned (OpenSpec.ofChange fnExactApplyAllWrong)

/- THE SECOND FORM. 'bulk': how many values and letters a reading holds, each counted each time it is reached (what is shared counts as often as it is met; a slice's spare places count too). A statement '..UptoSaid' is the law's where the arguments, and the package variables that the reading takes, are together of bulk at most 1048576: NARROWER than '..Said'. Prove '..Said' where nothing that the law and all that it calls make is longer than what came in: it says more and counts as full. Else prove '..UptoSaid'. A law counts once. -/
mutual
def uptoBulk {H : Type} : DataW H → Nat
  | .lit (.string bytes) => bytes.length + 1
  | .lit _ => 1
  | .nil => 1
  | .ptr d => uptoBulk d + 1
  | .slice elems spare => uptoBulkAll elems + uptoBulkAll spare + 1
  | .agg parts => uptoBulkAll parts + 1
  | .iface _ d => uptoBulk d + 1
  | .map entries => uptoBulkEntries entries + 1
  | .held _ => 1
def uptoBulkAll {H : Type} : List (DataW H) → Nat
  | [] => 0
  | d :: r => uptoBulk d + uptoBulkAll r
def uptoBulkEntries {H : Type} : List (Lit × DataW H) → Nat
  | [] => 0
  | x :: r => uptoBulkEntry x + uptoBulkEntries r
def uptoBulkEntry {H : Type} : Lit × DataW H → Nat
  | (.string bytes, d) => bytes.length + uptoBulk d + 1
  | (_, d) => uptoBulk d + 1
 end
def uptoSmall : (H : Type) → List (DataW H) → Bool := fun _ ds => decide (uptoBulkAll ds ≤ 1048576)
def OpenSpec.upto (s : _root_.Go.ChangeSpec) : _root_.Go.OpenSpec := { _root_.Go.OpenSpec.ofChange s with cond := some uptoSmall }

/-- 'laws.FnExactForthOK', WHERE WHAT IT READS IS OF BULK AT MOST 1048576: true; the input reads as it did. -/
def fnExactForthOKUptoRow : OpenClaim := { program := "ythnbaeamekolmaagreatdoor", sum := "ede41cde339267e716043f7627b74d53880860d21b039341e2dcda98a7971ee7", func := "loop.example/g00787/laws.FnExactForthOK", spec := "fnExactForthOK", unfollowed := true, recurses := true, named := ["loop.example/g00787/impl.kernelEnds", "loop.example/g00787/impl.kernelNames"], apart := false, laid := [("loop.example/g00787/impl.kernelNames", laid_loop_example_g00787_impl_kernelNames), ("loop.example/g00787/impl.kernelEnds", laid_loop_example_g00787_impl_kernelEnds)], narrowed := true }
def FnExactForthOKUptoSaid : Prop := fnExactForthOKUptoRow.holds Tryz.pinned (OpenSpec.upto fnExactForthOKSpec)

/-- 'laws.FnExactSameForth', WHERE WHAT IT READS IS OF BULK AT MOST 1048576: true; the input reads as it did. -/
def fnExactSameForthUptoRow : OpenClaim := { program := "ythnbaeamekolmaagreatdoor", sum := "ede41cde339267e716043f7627b74d53880860d21b039341e2dcda98a7971ee7", func := "loop.example/g00787/laws.FnExactSameForth", spec := "fnExactSameForth", unfollowed := true, recurses := true, named := ["loop.example/g00787/impl.kernelEnds", "loop.example/g00787/impl.kernelNames"], apart := false, laid := [("loop.example/g00787/impl.kernelNames", laid_loop_example_g00787_impl_kernelNames), ("loop.example/g00787/impl.kernelEnds", laid_loop_example_g00787_impl_kernelEnds)], narrowed := true }
def FnExactSameForthUptoSaid : Prop := fnExactSameForthUptoRow.holds Tryz.pinned (OpenSpec.upto fnExactSameForthSpec)

/-- 'laws.FnPrims', WHERE WHAT IT READS IS OF BULK AT MOST 1048576: true; the input reads as it did. -/
def fnPrimsUptoRow : OpenClaim := { program := "ythnbaeamekolmaagreatdoor", sum := "ede41cde339267e716043f7627b74d53880860d21b039341e2dcda98a7971ee7", func := "loop.example/g00787/laws.FnPrims", spec := "fnPrims", inPlace := ["internal/abi.NoEscape", "internal/bytealg.MakeNoZero"], unfollowed := true, recurses := true, named := ["loop.example/g00787/impl.flags", "internal/strconv.uint64pow10", "math/bits.deBruijn32tab", "math/bits.deBruijn64tab", "unicode/utf8.first", "unicode/utf8.acceptRanges", "unicode.CaseRanges"], apart := false, laid := [("math/bits.deBruijn32tab", laid_math_bits_deBruijn32tab), ("math/bits.deBruijn64tab", laid_math_bits_deBruijn64tab), ("internal/strconv.uint64pow10", laid_internal_strconv_uint64pow10), ("unicode/utf8.acceptRanges", laid_unicode_utf8_acceptRanges), ("loop.example/g00787/impl.flags", laid_loop_example_g00787_impl_flags), ("unicode.CaseRanges", laid_unicode_CaseRanges), ("unicode/utf8.first", laid_unicode_utf8_first)], narrowed := true }
def FnPrimsUptoSaid : Prop := fnPrimsUptoRow.holds Tryz.pinned (OpenSpec.upto fnPrimsSpec)

/-- 'laws.FnIdentities', WHERE WHAT IT READS IS OF BULK AT MOST 1048576: true; the input reads as it did. -/
def fnIdentitiesUptoRow : OpenClaim := { program := "ythnbaeamekolmaagreatdoor", sum := "ede41cde339267e716043f7627b74d53880860d21b039341e2dcda98a7971ee7", func := "loop.example/g00787/laws.FnIdentities", spec := "fnIdentities", inPlace := ["internal/abi.NoEscape", "internal/bytealg.MakeNoZero"], unfollowed := true, recurses := true, named := ["loop.example/g00787/impl.flags", "internal/strconv.uint64pow10", "math/bits.deBruijn32tab", "math/bits.deBruijn64tab", "unicode/utf8.first", "unicode/utf8.acceptRanges", "unicode.CaseRanges"], apart := false, laid := [("math/bits.deBruijn32tab", laid_math_bits_deBruijn32tab), ("math/bits.deBruijn64tab", laid_math_bits_deBruijn64tab), ("internal/strconv.uint64pow10", laid_internal_strconv_uint64pow10), ("unicode/utf8.acceptRanges", laid_unicode_utf8_acceptRanges), ("loop.example/g00787/impl.flags", laid_loop_example_g00787_impl_flags), ("unicode.CaseRanges", laid_unicode_CaseRanges), ("unicode/utf8.first", laid_unicode_utf8_first)], narrowed := true }
def FnIdentitiesUptoSaid : Prop := fnIdentitiesUptoRow.holds Tryz.pinned (OpenSpec.upto fnIdentitiesSpec)

/-- 'laws.FnExactApplyPrim', WHERE WHAT IT READS IS OF BULK AT MOST 1048576: true; the input reads as it did. -/
def fnExactApplyPrimUptoRow : OpenClaim := { program := "ythnbaeamekolmaagreatdoor", sum := "ede41cde339267e716043f7627b74d53880860d21b039341e2dcda98a7971ee7", func := "loop.example/g00787/laws.FnExactApplyPrim", spec := "fnExactApplyPrim", inPlace := ["internal/abi.NoEscape", "internal/bytealg.MakeNoZero"], unfollowed := true, recurses := true, named := ["loop.example/g00787/impl.flags", "internal/strconv.uint64pow10", "math/bits.deBruijn32tab", "math/bits.deBruijn64tab", "unicode/utf8.first", "unicode/utf8.acceptRanges", "unicode.CaseRanges"], apart := false, laid := [("math/bits.deBruijn32tab", laid_math_bits_deBruijn32tab), ("math/bits.deBruijn64tab", laid_math_bits_deBruijn64tab), ("internal/strconv.uint64pow10", laid_internal_strconv_uint64pow10), ("unicode/utf8.acceptRanges", laid_unicode_utf8_acceptRanges), ("loop.example/g00787/impl.flags", laid_loop_example_g00787_impl_flags), ("unicode.CaseRanges", laid_unicode_CaseRanges), ("unicode/utf8.first", laid_unicode_utf8_first)], narrowed := true }
def FnExactApplyPrimUptoSaid : Prop := fnExactApplyPrimUptoRow.holds Tryz.pinned (OpenSpec.upto fnExactApplyPrimSpec)

/-- 'laws.FnExactApplyAll', WHERE WHAT IT READS IS OF BULK AT MOST 1048576: true; the input reads as it did. -/
def fnExactApplyAllUptoRow : OpenClaim := { program := "ythnbaeamekolmaagreatdoor", sum := "ede41cde339267e716043f7627b74d53880860d21b039341e2dcda98a7971ee7", func := "loop.example/g00787/laws.FnExactApplyAll", spec := "fnExactApplyAll", inPlace := ["internal/abi.NoEscape", "internal/bytealg.MakeNoZero"], unfollowed := true, recurses := true, named := ["loop.example/g00787/impl.flags", "internal/strconv.uint64pow10", "math/bits.deBruijn32tab", "math/bits.deBruijn64tab", "unicode/utf8.first", "unicode/utf8.acceptRanges", "unicode.CaseRanges"], apart := false, laid := [("math/bits.deBruijn32tab", laid_math_bits_deBruijn32tab), ("math/bits.deBruijn64tab", laid_math_bits_deBruijn64tab), ("internal/strconv.uint64pow10", laid_internal_strconv_uint64pow10), ("unicode/utf8.acceptRanges", laid_unicode_utf8_acceptRanges), ("loop.example/g00787/impl.flags", laid_loop_example_g00787_impl_flags), ("unicode.CaseRanges", laid_unicode_CaseRanges), ("unicode/utf8.first", laid_unicode_utf8_first)], narrowed := true }
def FnExactApplyAllUptoSaid : Prop := fnExactApplyAllUptoRow.holds Tryz.pinned (OpenSpec.upto fnExactApplyAllSpec)

end Rows
end Go.Proofs.YthnbaeamekolmaaGreatDoor
