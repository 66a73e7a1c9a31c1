/-
  DERIVED. GIVEN WITH THE SEED: THE PROGRAM's TIES (one call each: nine closed facts by the kernel) AND EACH ROW's TIE, after the 31st guide's Derived/Test/Toyas{Tie, Card}.lean. No idea stands in it: it is a product of the set-up. Laid BY PROGRAM, IN A SANDBOX (cutbox-door.mjs). By AI agents, Wed Nov 11 2026. No macro, syntax, notation, axiom, sorry.
-/
import Derived.Test.YtjlfbmplmddceaaDoorRows
import Derived.LaidByTextLater
import Derived.SevenTiedAt
import Derived.LaidSub
import Derived.LaidOnce
namespace Go.Proofs.YtjlfbmplmddceaaDoor
open Go
set_option maxRecDepth 100000
theorem seatTie1 : Tryd.prog.laidByTextLater [("math/bits.deBruijn32tab", Rows.laid_math_bits_deBruijn32tab), ("math/bits.deBruijn64tab", Rows.laid_math_bits_deBruijn64tab), ("internal/strconv.uint64pow10", Rows.laid_internal_strconv_uint64pow10), ("loop.example/g00787/impl.kernelNames", Rows.laid_loop_example_g00787_impl_kernelNames), ("loop.example/g00787/impl.kernelEnds", Rows.laid_loop_example_g00787_impl_kernelEnds)] [.data, .data, .data, .data, .data] true :=
  Program.laidByTextLater_by_one 34 8 84 (by kernel_rfl) (by kernel_rfl) (by kernel_rfl) (by kernel_rfl) (by kernel_rfl) (by kernel_rfl) (fun _ _ => by kernel_rfl)
theorem noOwnUnsafe : Tryd.pinned.checked.prog.headLifts.contains "ownunsafe" = false := by kernel_rfl
theorem tie : Tryd.prog.laidByTextLater [("math/bits.deBruijn32tab", Rows.laid_math_bits_deBruijn32tab), ("math/bits.deBruijn64tab", Rows.laid_math_bits_deBruijn64tab), ("internal/strconv.uint64pow10", Rows.laid_internal_strconv_uint64pow10), ("loop.example/g00787/impl.kernelNames", Rows.laid_loop_example_g00787_impl_kernelNames), ("loop.example/g00787/impl.kernelEnds", Rows.laid_loop_example_g00787_impl_kernelEnds)] [.data, .data, .data, .data, .data] true :=
  Program.laidByTextLater.sub seatTie1 ["math/bits.deBruijn32tab", "math/bits.deBruijn64tab", "internal/strconv.uint64pow10", "loop.example/g00787/impl.kernelNames", "loop.example/g00787/impl.kernelEnds"] (by kernel_rfl) (by kernel_rfl)
theorem fnExactCodeLines_row_tie : Rows.fnExactCodeLinesRow.laidByTextAt .later Tryd.pinned [.data, .data, .data, .data, .data] true :=
  OpenClaim.laidByTextAt_later rfl rfl tie noOwnUnsafe
theorem tie2 : Tryd.prog.laidByTextLater [("loop.example/g00787/impl.kernelNames", Rows.laid_loop_example_g00787_impl_kernelNames), ("loop.example/g00787/impl.kernelEnds", Rows.laid_loop_example_g00787_impl_kernelEnds)] [.data, .data] true :=
  Program.laidByTextLater.sub seatTie1 ["loop.example/g00787/impl.kernelNames", "loop.example/g00787/impl.kernelEnds"] (by kernel_rfl) (by kernel_rfl)
theorem fnExactNewMachine_row_tie : Rows.fnExactNewMachineRow.laidByTextAt .later Tryd.pinned [.data, .data] true :=
  OpenClaim.laidByTextAt_later rfl rfl tie2 noOwnUnsafe
theorem fnExactMachineOK_row_tie : Rows.fnExactMachineOKRow.laidByTextAt .later Tryd.pinned [.data, .data] true :=
  OpenClaim.laidByTextAt_later rfl rfl tie2 noOwnUnsafe
theorem fnExactSameMachine_row_tie : Rows.fnExactSameMachineRow.laidByTextAt .later Tryd.pinned [.data, .data] true :=
  OpenClaim.laidByTextAt_later rfl rfl tie2 noOwnUnsafe
theorem fnExactCodeLinesUpto_row_tie : Rows.fnExactCodeLinesUptoRow.laidByTextAt .later Tryd.pinned [.data, .data, .data, .data, .data] true :=
  OpenClaim.laidByTextAt_later rfl rfl tie noOwnUnsafe
theorem fnExactNewMachineUpto_row_tie : Rows.fnExactNewMachineUptoRow.laidByTextAt .later Tryd.pinned [.data, .data] true :=
  OpenClaim.laidByTextAt_later rfl rfl tie2 noOwnUnsafe
theorem fnExactMachineOKUpto_row_tie : Rows.fnExactMachineOKUptoRow.laidByTextAt .later Tryd.pinned [.data, .data] true :=
  OpenClaim.laidByTextAt_later rfl rfl tie2 noOwnUnsafe
theorem fnExactSameMachineUpto_row_tie : Rows.fnExactSameMachineUptoRow.laidByTextAt .later Tryd.pinned [.data, .data] true :=
  OpenClaim.laidByTextAt_later rfl rfl tie2 noOwnUnsafe
end Go.Proofs.YtjlfbmplmddceaaDoor
