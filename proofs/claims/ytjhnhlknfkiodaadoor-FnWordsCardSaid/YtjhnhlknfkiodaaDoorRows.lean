/-
  NARROWER THAN 'FOR EVERY INPUT', by the rows' own cells (each row's printed sentence says how): FnWords: ifaces, laid · FnExactLineWords: ifaces, laid.
  DERIVED. THE GIVEN ROWS OF THIS SEAT. 2 by the template 'for every input the law returns true; each argument reads behind the call as it read before'; 0 by the template 'total and deterministic' (their statements: YtjhnhlknfkiodaaDoorTotals.lean).
  GIVEN WITH THE SEED: the statements are not yours to turn. If you find one false, say at which input.
  Laid BY PROGRAM, IN A SANDBOX (cutbox-rows.mjs): the forced cells as the released guide's own fill.sh prints them over the translation 6371e62024893e01… (all of the seat's roots in one cut). By AI agents, Wed Nov 11 2026. No macro, syntax, notation, axiom, sorry.
-/
import Derived.Test.YtjhnhlknfkiodaaDoorChecked
import GoSem.Claim
import GoSem.ClaimJoined
import GoSem.ClaimMapViews
import Derived.JoinedTies
import Derived.KernelRfl
namespace Go.Proofs.YtjhnhlknfkiodaaDoor
/- THE CELL 'sum', in the pinned program and in every row, IS THE sha256 OF THE DUMP (.gsa) THAT YtjhnhlknfkiodaaDoorProg.lean LOADS. Nothing in Lean hashes anything: it is a label: what it is worth is what the hold of that sum in a sandbox is worth. -/
noncomputable def Tryd.pinned : Pinned := { name := "ytjhnhlknfkiodaadoor", sum := "6371e62024893e0147e33911363ebafcd85560f3e2affac02b0ddb1fd4700bc8", checked := Tryd.checked }
namespace Rows
def none {H : Type} : Left H := { results := [], args := [] }

/- WHAT THE LISTED PACKAGE-LEVEL VARIABLES READ AS WHEN THE CALL BEGINS. Each datum BY PROGRAM (the guide's laid-datum.mjs) off the statement by which the dump's own 'gosem.cut.vars' lays the variable. In a bare row this is a premise. The card (YtjhnhlknfkiodaaDoorCards.lean) ties it to the program's text. -/
def laid_loop_example_g00787_impl_errLineSize {H : Type} : DataW H := .iface "*errors.errorString" (.ptr (.agg [.lit (.string [116, 104, 101, 32, 108, 105, 110, 101, 32, 105, 115, 32, 116, 111, 111, 32, 108, 111, 110, 103])]))
def laid_loop_example_g00787_impl_errOpenComment {H : Type} : DataW H := .iface "*errors.errorString" (.ptr (.agg [.lit (.string [116, 104, 101, 32, 99, 111, 109, 109, 101, 110, 116, 32, 105, 115, 32, 110, 111, 116, 32, 99, 108, 111, 115, 101, 100])]))

/-- 'laws.FnWords': WHATEVER THE INPUT: true; the input reads as it did. -/
def fnWordsSpec : ChangeSpec := { name := "fnWords", vars := ["loop.example/g00787/impl.errLineSize", "loop.example/g00787/impl.errOpenComment"], fn := fun _ => fun
  | [d1, d2, g1, g2] => { results := [.lit (.bool true)], args := [d1, d2], vars := [g1, g2] }
  | _ => none }
def fnWordsRow : OpenClaim := { program := "ytjhnhlknfkiodaadoor", sum := "6371e62024893e0147e33911363ebafcd85560f3e2affac02b0ddb1fd4700bc8", func := "loop.example/g00787/laws.FnWords", spec := "fnWords", inPlace := ["internal/reflectlite.TypeOf"], unfollowed := true, recurses := true, named := ["loop.example/g00787/impl.errLineSize", "loop.example/g00787/impl.errOpenComment"], ifaces := true, apart := false, laid := [("loop.example/g00787/impl.errLineSize", laid_loop_example_g00787_impl_errLineSize), ("loop.example/g00787/impl.errOpenComment", laid_loop_example_g00787_impl_errOpenComment)] }
def FnWordsSaid : Prop := fnWordsRow.holds Tryd.pinned (OpenSpec.ofChange fnWordsSpec)

/-- ITS FALSE NEIGHBOUR: 'it returns false'. Refute it at one input. -/
def fnWordsWrong : ChangeSpec := { name := "fnWords", vars := ["loop.example/g00787/impl.errLineSize", "loop.example/g00787/impl.errOpenComment"], fn := fun _ => fun
  | [d1, d2, g1, g2] => { results := [.lit (.bool false)], args := [d1, d2], vars := [g1, g2] }
  | _ => none }
def FnWordsWrongFalsely : Prop := fnWordsRow.holds Tryd.pinned (OpenSpec.ofChange fnWordsWrong)

/-- 'laws.FnExactLineWords': WHATEVER THE INPUT: true; the input reads as it did. -/
def fnExactLineWordsSpec : ChangeSpec := { name := "fnExactLineWords", vars := ["loop.example/g00787/impl.errLineSize", "loop.example/g00787/impl.errOpenComment"], fn := fun _ => fun
  | [d, g1, g2] => { results := [.lit (.bool true)], args := [d], vars := [g1, g2] }
  | _ => none }
def fnExactLineWordsRow : OpenClaim := { program := "ytjhnhlknfkiodaadoor", sum := "6371e62024893e0147e33911363ebafcd85560f3e2affac02b0ddb1fd4700bc8", func := "loop.example/g00787/laws.FnExactLineWords", spec := "fnExactLineWords", inPlace := ["internal/reflectlite.TypeOf"], unfollowed := true, recurses := true, named := ["loop.example/g00787/impl.errLineSize", "loop.example/g00787/impl.errOpenComment"], ifaces := true, apart := false, laid := [("loop.example/g00787/impl.errLineSize", laid_loop_example_g00787_impl_errLineSize), ("loop.example/g00787/impl.errOpenComment", laid_loop_example_g00787_impl_errOpenComment)] }
def FnExactLineWordsSaid : Prop := fnExactLineWordsRow.holds Tryd.pinned (OpenSpec.ofChange fnExactLineWordsSpec)

/-- ITS FALSE NEIGHBOUR: 'it returns false'. Refute it at one input. -/
def fnExactLineWordsWrong : ChangeSpec := { name := "fnExactLineWords", vars := ["loop.example/g00787/impl.errLineSize", "loop.example/g00787/impl.errOpenComment"], fn := fun _ => fun
  | [d, g1, g2] => { results := [.lit (.bool false)], args := [d], vars := [g1, g2] }
  | _ => none }
def FnExactLineWordsWrongFalsely : Prop := fnExactLineWordsRow.holds Tryd.pinned (OpenSpec.ofChange fnExactLineWordsWrong)

/- THE SECOND FORM. 'bulk': how many values and letters a reading holds, each counted each time it is reached (what is shared counts as often as it is met; a slice's spare places count too). A statement '..UptoSaid' is the law's where the arguments, and the package variables that the reading takes, are together of bulk at most 1048576: NARROWER than '..Said'. Prove '..Said' where nothing that the law and all that it calls make is longer than what came in: it says more and counts as full. Else prove '..UptoSaid'. A law counts once. -/
mutual
def uptoBulk {H : Type} : DataW H → Nat
  | .lit (.string bytes) => bytes.length + 1
  | .lit _ => 1
  | .nil => 1
  | .ptr d => uptoBulk d + 1
  | .slice elems spare => uptoBulkAll elems + uptoBulkAll spare + 1
  | .agg parts => uptoBulkAll parts + 1
  | .iface _ d => uptoBulk d + 1
  | .map entries => uptoBulkEntries entries + 1
  | .held _ => 1
def uptoBulkAll {H : Type} : List (DataW H) → Nat
  | [] => 0
  | d :: r => uptoBulk d + uptoBulkAll r
def uptoBulkEntries {H : Type} : List (Lit × DataW H) → Nat
  | [] => 0
  | x :: r => uptoBulkEntry x + uptoBulkEntries r
def uptoBulkEntry {H : Type} : Lit × DataW H → Nat
  | (.string bytes, d) => bytes.length + uptoBulk d + 1
  | (_, d) => uptoBulk d + 1
 end
def uptoSmall : (H : Type) → List (DataW H) → Bool := fun _ ds => decide (uptoBulkAll ds ≤ 1048576)
def OpenSpec.upto (s : _root_.Go.ChangeSpec) : _root_.Go.OpenSpec := { _root_.Go.OpenSpec.ofChange s with cond := some uptoSmall }

/-- 'laws.FnWords', WHERE WHAT IT READS IS OF BULK AT MOST 1048576: true; the input reads as it did. -/
def fnWordsUptoRow : OpenClaim := { program := "ytjhnhlknfkiodaadoor", sum := "6371e62024893e0147e33911363ebafcd85560f3e2affac02b0ddb1fd4700bc8", func := "loop.example/g00787/laws.FnWords", spec := "fnWords", inPlace := ["internal/reflectlite.TypeOf"], unfollowed := true, recurses := true, named := ["loop.example/g00787/impl.errLineSize", "loop.example/g00787/impl.errOpenComment"], ifaces := true, apart := false, laid := [("loop.example/g00787/impl.errLineSize", laid_loop_example_g00787_impl_errLineSize), ("loop.example/g00787/impl.errOpenComment", laid_loop_example_g00787_impl_errOpenComment)], narrowed := true }
def FnWordsUptoSaid : Prop := fnWordsUptoRow.holds Tryd.pinned (OpenSpec.upto fnWordsSpec)

/-- 'laws.FnExactLineWords', WHERE WHAT IT READS IS OF BULK AT MOST 1048576: true; the input reads as it did. -/
def fnExactLineWordsUptoRow : OpenClaim := { program := "ytjhnhlknfkiodaadoor", sum := "6371e62024893e0147e33911363ebafcd85560f3e2affac02b0ddb1fd4700bc8", func := "loop.example/g00787/laws.FnExactLineWords", spec := "fnExactLineWords", inPlace := ["internal/reflectlite.TypeOf"], unfollowed := true, recurses := true, named := ["loop.example/g00787/impl.errLineSize", "loop.example/g00787/impl.errOpenComment"], ifaces := true, apart := false, laid := [("loop.example/g00787/impl.errLineSize", laid_loop_example_g00787_impl_errLineSize), ("loop.example/g00787/impl.errOpenComment", laid_loop_example_g00787_impl_errOpenComment)], narrowed := true }
def FnExactLineWordsUptoSaid : Prop := fnExactLineWordsUptoRow.holds Tryd.pinned (OpenSpec.upto fnExactLineWordsSpec)

end Rows
end Go.Proofs.YtjhnhlknfkiodaaDoor
