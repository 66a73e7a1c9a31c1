/-
  No cell of these rows narrows 'for every input' (looked for: loops, veiled, ifaces, maps, wideKeys, modest, calm, conditions, laid).
  DERIVED. THE GIVEN ROWS OF THIS SEAT. 8 by the template 'for every input the law returns true; each argument reads behind the call as it read before'; 0 by the template 'total and deterministic' (their statements: YthhaimolcgkpaaaTotals.lean).
  GIVEN WITH THE SEED: the statements are not yours to turn. If you find one false, say at which input.
  Laid BY PROGRAM, IN A SANDBOX (cutbox-rows.mjs): the forced cells as the released guide's own fill.sh prints them over the translation 17ac692d00bb77e9… (all of the seat's roots in one cut). By AI agents, Wed Nov 11 2026. No macro, syntax, notation, axiom, sorry.
-/
import Derived.Test.YthhaimolcgkpaaaChecked
import GoSem.Claim
import GoSem.ClaimJoined
import GoSem.ClaimMapViews
import Derived.JoinedTies
import Derived.KernelRfl
namespace Go.Proofs.Ythhaimolcgkpaaa
/- THE CELL 'sum', in the pinned program and in every row, IS THE sha256 OF THE DUMP (.gsa) THAT YthhaimolcgkpaaaProg.lean LOADS. Nothing in Lean hashes anything: it is a label: what it is worth is what the hold of that sum in a sandbox is worth. -/
noncomputable def Try.pinned : Pinned := { name := "ythhaimolcgkpaaa", sum := "17ac692d00bb77e9fd985a2fda4b79fc396be3e8d4f3d0e3da5462af6def4db8", checked := Try.checked }
namespace Rows
def none {H : Type} : Left H := { results := [], args := [] }

/-- 'laws.FnGate': WHATEVER THE INPUT: true; the input reads as it did. -/
def fnGateSpec : ChangeSpec := { name := "fnGate", fn := fun _ => fun
  | [d1, d2] => { results := [.lit (.bool true)], args := [d1, d2] }
  | _ => none }
def fnGateRow : OpenClaim := { program := "ythhaimolcgkpaaa", sum := "17ac692d00bb77e9fd985a2fda4b79fc396be3e8d4f3d0e3da5462af6def4db8", func := "loop.example/g00787/laws.FnGate", spec := "fnGate", unfollowed := true, recurses := true, plainKeys := false, apart := false }
def FnGateSaid : Prop := fnGateRow.holds Try.pinned (OpenSpec.ofChange fnGateSpec)

/-- ITS FALSE NEIGHBOUR: 'it returns false'. Refute it at one input. -/
def fnGateWrong : ChangeSpec := { name := "fnGate", fn := fun _ => fun
  | [d1, d2] => { results := [.lit (.bool false)], args := [d1, d2] }
  | _ => none }
def FnGateWrongFalsely : Prop := fnGateRow.holds Try.pinned (OpenSpec.ofChange fnGateWrong)

/-- 'laws.FnExactNewHost': WHATEVER THE INPUT: true; the input reads as it did. -/
def fnExactNewHostSpec : ChangeSpec := { name := "fnExactNewHost", fn := fun _ => fun
  | [] => { results := [.lit (.bool true)], args := [] }
  | _ => none }
def fnExactNewHostRow : OpenClaim := { program := "ythhaimolcgkpaaa", sum := "17ac692d00bb77e9fd985a2fda4b79fc396be3e8d4f3d0e3da5462af6def4db8", func := "loop.example/g00787/laws.FnExactNewHost", spec := "fnExactNewHost", plainKeys := false, apart := false }
def FnExactNewHostSaid : Prop := fnExactNewHostRow.holds Try.pinned (OpenSpec.ofChange fnExactNewHostSpec)

/-- ITS FALSE NEIGHBOUR: 'it returns false'. Refute it at one input. -/
def fnExactNewHostWrong : ChangeSpec := { name := "fnExactNewHost", fn := fun _ => fun
  | [] => { results := [.lit (.bool false)], args := [] }
  | _ => none }
def FnExactNewHostWrongFalsely : Prop := fnExactNewHostRow.holds Try.pinned (OpenSpec.ofChange fnExactNewHostWrong)

/-- 'laws.FnExactHostOK': WHATEVER THE INPUT: true; the input reads as it did. -/
def fnExactHostOKSpec : ChangeSpec := { name := "fnExactHostOK", fn := fun _ => fun
  | [d] => { results := [.lit (.bool true)], args := [d] }
  | _ => none }
def fnExactHostOKRow : OpenClaim := { program := "ythhaimolcgkpaaa", sum := "17ac692d00bb77e9fd985a2fda4b79fc396be3e8d4f3d0e3da5462af6def4db8", func := "loop.example/g00787/laws.FnExactHostOK", spec := "fnExactHostOK", plainKeys := false, apart := false }
def FnExactHostOKSaid : Prop := fnExactHostOKRow.holds Try.pinned (OpenSpec.ofChange fnExactHostOKSpec)

/-- ITS FALSE NEIGHBOUR: 'it returns false'. Refute it at one input. -/
def fnExactHostOKWrong : ChangeSpec := { name := "fnExactHostOK", fn := fun _ => fun
  | [d] => { results := [.lit (.bool false)], args := [d] }
  | _ => none }
def FnExactHostOKWrongFalsely : Prop := fnExactHostOKRow.holds Try.pinned (OpenSpec.ofChange fnExactHostOKWrong)

/-- 'laws.FnExactGrantCap': WHATEVER THE INPUT: true; the input reads as it did. -/
def fnExactGrantCapSpec : ChangeSpec := { name := "fnExactGrantCap", fn := fun _ => fun
  | [d1, d2, d3] => { results := [.lit (.bool true)], args := [d1, d2, d3] }
  | _ => none }
def fnExactGrantCapRow : OpenClaim := { program := "ythhaimolcgkpaaa", sum := "17ac692d00bb77e9fd985a2fda4b79fc396be3e8d4f3d0e3da5462af6def4db8", func := "loop.example/g00787/laws.FnExactGrantCap", spec := "fnExactGrantCap", plainKeys := false, apart := false }
def FnExactGrantCapSaid : Prop := fnExactGrantCapRow.holds Try.pinned (OpenSpec.ofChange fnExactGrantCapSpec)

/-- ITS FALSE NEIGHBOUR: 'it returns false'. Refute it at one input. -/
def fnExactGrantCapWrong : ChangeSpec := { name := "fnExactGrantCap", fn := fun _ => fun
  | [d1, d2, d3] => { results := [.lit (.bool false)], args := [d1, d2, d3] }
  | _ => none }
def FnExactGrantCapWrongFalsely : Prop := fnExactGrantCapRow.holds Try.pinned (OpenSpec.ofChange fnExactGrantCapWrong)

/-- 'laws.FnExactAnswerHost': WHATEVER THE INPUT: true; the input reads as it did. -/
def fnExactAnswerHostSpec : ChangeSpec := { name := "fnExactAnswerHost", fn := fun _ => fun
  | [d1, d2] => { results := [.lit (.bool true)], args := [d1, d2] }
  | _ => none }
def fnExactAnswerHostRow : OpenClaim := { program := "ythhaimolcgkpaaa", sum := "17ac692d00bb77e9fd985a2fda4b79fc396be3e8d4f3d0e3da5462af6def4db8", func := "loop.example/g00787/laws.FnExactAnswerHost", spec := "fnExactAnswerHost", plainKeys := false, apart := false }
def FnExactAnswerHostSaid : Prop := fnExactAnswerHostRow.holds Try.pinned (OpenSpec.ofChange fnExactAnswerHostSpec)

/-- ITS FALSE NEIGHBOUR: 'it returns false'. Refute it at one input. -/
def fnExactAnswerHostWrong : ChangeSpec := { name := "fnExactAnswerHost", fn := fun _ => fun
  | [d1, d2] => { results := [.lit (.bool false)], args := [d1, d2] }
  | _ => none }
def FnExactAnswerHostWrongFalsely : Prop := fnExactAnswerHostRow.holds Try.pinned (OpenSpec.ofChange fnExactAnswerHostWrong)

/-- 'laws.FnExactHostCall': WHATEVER THE INPUT: true; the input reads as it did. -/
def fnExactHostCallSpec : ChangeSpec := { name := "fnExactHostCall", fn := fun _ => fun
  | [d1, d2, d3] => { results := [.lit (.bool true)], args := [d1, d2, d3] }
  | _ => none }
def fnExactHostCallRow : OpenClaim := { program := "ythhaimolcgkpaaa", sum := "17ac692d00bb77e9fd985a2fda4b79fc396be3e8d4f3d0e3da5462af6def4db8", func := "loop.example/g00787/laws.FnExactHostCall", spec := "fnExactHostCall", unfollowed := true, recurses := true, plainKeys := false, apart := false }
def FnExactHostCallSaid : Prop := fnExactHostCallRow.holds Try.pinned (OpenSpec.ofChange fnExactHostCallSpec)

/-- ITS FALSE NEIGHBOUR: 'it returns false'. Refute it at one input. -/
def fnExactHostCallWrong : ChangeSpec := { name := "fnExactHostCall", fn := fun _ => fun
  | [d1, d2, d3] => { results := [.lit (.bool false)], args := [d1, d2, d3] }
  | _ => none }
def FnExactHostCallWrongFalsely : Prop := fnExactHostCallRow.holds Try.pinned (OpenSpec.ofChange fnExactHostCallWrong)

/-- 'laws.FnExactFoldDeeds': WHATEVER THE INPUT: true; the input reads as it did. -/
def fnExactFoldDeedsSpec : ChangeSpec := { name := "fnExactFoldDeeds", fn := fun _ => fun
  | [d1, d2] => { results := [.lit (.bool true)], args := [d1, d2] }
  | _ => none }
def fnExactFoldDeedsRow : OpenClaim := { program := "ythhaimolcgkpaaa", sum := "17ac692d00bb77e9fd985a2fda4b79fc396be3e8d4f3d0e3da5462af6def4db8", func := "loop.example/g00787/laws.FnExactFoldDeeds", spec := "fnExactFoldDeeds", plainKeys := false, apart := false }
def FnExactFoldDeedsSaid : Prop := fnExactFoldDeedsRow.holds Try.pinned (OpenSpec.ofChange fnExactFoldDeedsSpec)

/-- ITS FALSE NEIGHBOUR: 'it returns false'. Refute it at one input. -/
def fnExactFoldDeedsWrong : ChangeSpec := { name := "fnExactFoldDeeds", fn := fun _ => fun
  | [d1, d2] => { results := [.lit (.bool false)], args := [d1, d2] }
  | _ => none }
def FnExactFoldDeedsWrongFalsely : Prop := fnExactFoldDeedsRow.holds Try.pinned (OpenSpec.ofChange fnExactFoldDeedsWrong)

/-- 'laws.FnExactSameHost': WHATEVER THE INPUT: true; the input reads as it did. -/
def fnExactSameHostSpec : ChangeSpec := { name := "fnExactSameHost", fn := fun _ => fun
  | [d1, d2] => { results := [.lit (.bool true)], args := [d1, d2] }
  | _ => none }
def fnExactSameHostRow : OpenClaim := { program := "ythhaimolcgkpaaa", sum := "17ac692d00bb77e9fd985a2fda4b79fc396be3e8d4f3d0e3da5462af6def4db8", func := "loop.example/g00787/laws.FnExactSameHost", spec := "fnExactSameHost", plainKeys := false, apart := false }
def FnExactSameHostSaid : Prop := fnExactSameHostRow.holds Try.pinned (OpenSpec.ofChange fnExactSameHostSpec)

/-- ITS FALSE NEIGHBOUR: 'it returns false'. Refute it at one input. -/
def fnExactSameHostWrong : ChangeSpec := { name := "fnExactSameHost", fn := fun _ => fun
  | [d1, d2] => { results := [.lit (.bool false)], args := [d1, d2] }
  | _ => none }
def FnExactSameHostWrongFalsely : Prop := fnExactSameHostRow.holds Try.pinned (OpenSpec.ofChange fnExactSameHostWrong)

/- THE SECOND FORM. 'bulk': how many values and letters a reading holds, each counted each time it is reached (what is shared counts as often as it is met; a slice's spare places count too). A statement '..UptoSaid' is the law's where the arguments, and the package variables that the reading takes, are together of bulk at most 1048576: NARROWER than '..Said'. Prove '..Said' where nothing that the law and all that it calls make is longer than what came in: it says more and counts as full. Else prove '..UptoSaid'. A law counts once. -/
mutual
def uptoBulk {H : Type} : DataW H → Nat
  | .lit (.string bytes) => bytes.length + 1
  | .lit _ => 1
  | .nil => 1
  | .ptr d => uptoBulk d + 1
  | .slice elems spare => uptoBulkAll elems + uptoBulkAll spare + 1
  | .agg parts => uptoBulkAll parts + 1
  | .iface _ d => uptoBulk d + 1
  | .map entries => uptoBulkEntries entries + 1
  | .held _ => 1
def uptoBulkAll {H : Type} : List (DataW H) → Nat
  | [] => 0
  | d :: r => uptoBulk d + uptoBulkAll r
def uptoBulkEntries {H : Type} : List (Lit × DataW H) → Nat
  | [] => 0
  | x :: r => uptoBulkEntry x + uptoBulkEntries r
def uptoBulkEntry {H : Type} : Lit × DataW H → Nat
  | (.string bytes, d) => bytes.length + uptoBulk d + 1
  | (_, d) => uptoBulk d + 1
 end
def uptoSmall : (H : Type) → List (DataW H) → Bool := fun _ ds => decide (uptoBulkAll ds ≤ 1048576)
def OpenSpec.upto (s : _root_.Go.ChangeSpec) : _root_.Go.OpenSpec := { _root_.Go.OpenSpec.ofChange s with cond := some uptoSmall }

/-- 'laws.FnGate', WHERE WHAT IT READS IS OF BULK AT MOST 1048576: true; the input reads as it did. -/
def fnGateUptoRow : OpenClaim := { program := "ythhaimolcgkpaaa", sum := "17ac692d00bb77e9fd985a2fda4b79fc396be3e8d4f3d0e3da5462af6def4db8", func := "loop.example/g00787/laws.FnGate", spec := "fnGate", unfollowed := true, recurses := true, plainKeys := false, apart := false, narrowed := true }
def FnGateUptoSaid : Prop := fnGateUptoRow.holds Try.pinned (OpenSpec.upto fnGateSpec)

/-- 'laws.FnExactNewHost', WHERE WHAT IT READS IS OF BULK AT MOST 1048576: true; the input reads as it did. -/
def fnExactNewHostUptoRow : OpenClaim := { program := "ythhaimolcgkpaaa", sum := "17ac692d00bb77e9fd985a2fda4b79fc396be3e8d4f3d0e3da5462af6def4db8", func := "loop.example/g00787/laws.FnExactNewHost", spec := "fnExactNewHost", plainKeys := false, apart := false, narrowed := true }
def FnExactNewHostUptoSaid : Prop := fnExactNewHostUptoRow.holds Try.pinned (OpenSpec.upto fnExactNewHostSpec)

/-- 'laws.FnExactHostOK', WHERE WHAT IT READS IS OF BULK AT MOST 1048576: true; the input reads as it did. -/
def fnExactHostOKUptoRow : OpenClaim := { program := "ythhaimolcgkpaaa", sum := "17ac692d00bb77e9fd985a2fda4b79fc396be3e8d4f3d0e3da5462af6def4db8", func := "loop.example/g00787/laws.FnExactHostOK", spec := "fnExactHostOK", plainKeys := false, apart := false, narrowed := true }
def FnExactHostOKUptoSaid : Prop := fnExactHostOKUptoRow.holds Try.pinned (OpenSpec.upto fnExactHostOKSpec)

/-- 'laws.FnExactGrantCap', WHERE WHAT IT READS IS OF BULK AT MOST 1048576: true; the input reads as it did. -/
def fnExactGrantCapUptoRow : OpenClaim := { program := "ythhaimolcgkpaaa", sum := "17ac692d00bb77e9fd985a2fda4b79fc396be3e8d4f3d0e3da5462af6def4db8", func := "loop.example/g00787/laws.FnExactGrantCap", spec := "fnExactGrantCap", plainKeys := false, apart := false, narrowed := true }
def FnExactGrantCapUptoSaid : Prop := fnExactGrantCapUptoRow.holds Try.pinned (OpenSpec.upto fnExactGrantCapSpec)

/-- 'laws.FnExactAnswerHost', WHERE WHAT IT READS IS OF BULK AT MOST 1048576: true; the input reads as it did. -/
def fnExactAnswerHostUptoRow : OpenClaim := { program := "ythhaimolcgkpaaa", sum := "17ac692d00bb77e9fd985a2fda4b79fc396be3e8d4f3d0e3da5462af6def4db8", func := "loop.example/g00787/laws.FnExactAnswerHost", spec := "fnExactAnswerHost", plainKeys := false, apart := false, narrowed := true }
def FnExactAnswerHostUptoSaid : Prop := fnExactAnswerHostUptoRow.holds Try.pinned (OpenSpec.upto fnExactAnswerHostSpec)

/-- 'laws.FnExactHostCall', WHERE WHAT IT READS IS OF BULK AT MOST 1048576: true; the input reads as it did. -/
def fnExactHostCallUptoRow : OpenClaim := { program := "ythhaimolcgkpaaa", sum := "17ac692d00bb77e9fd985a2fda4b79fc396be3e8d4f3d0e3da5462af6def4db8", func := "loop.example/g00787/laws.FnExactHostCall", spec := "fnExactHostCall", unfollowed := true, recurses := true, plainKeys := false, apart := false, narrowed := true }
def FnExactHostCallUptoSaid : Prop := fnExactHostCallUptoRow.holds Try.pinned (OpenSpec.upto fnExactHostCallSpec)

/-- 'laws.FnExactFoldDeeds', WHERE WHAT IT READS IS OF BULK AT MOST 1048576: true; the input reads as it did. -/
def fnExactFoldDeedsUptoRow : OpenClaim := { program := "ythhaimolcgkpaaa", sum := "17ac692d00bb77e9fd985a2fda4b79fc396be3e8d4f3d0e3da5462af6def4db8", func := "loop.example/g00787/laws.FnExactFoldDeeds", spec := "fnExactFoldDeeds", plainKeys := false, apart := false, narrowed := true }
def FnExactFoldDeedsUptoSaid : Prop := fnExactFoldDeedsUptoRow.holds Try.pinned (OpenSpec.upto fnExactFoldDeedsSpec)

/-- 'laws.FnExactSameHost', WHERE WHAT IT READS IS OF BULK AT MOST 1048576: true; the input reads as it did. -/
def fnExactSameHostUptoRow : OpenClaim := { program := "ythhaimolcgkpaaa", sum := "17ac692d00bb77e9fd985a2fda4b79fc396be3e8d4f3d0e3da5462af6def4db8", func := "loop.example/g00787/laws.FnExactSameHost", spec := "fnExactSameHost", plainKeys := false, apart := false, narrowed := true }
def FnExactSameHostUptoSaid : Prop := fnExactSameHostUptoRow.holds Try.pinned (OpenSpec.upto fnExactSameHostSpec)

end Rows
end Go.Proofs.Ythhaimolcgkpaaa
