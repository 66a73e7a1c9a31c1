/- What spec's operations on a script's data hand back. -/
import Derived.Test.YthnbaeamekolmaaGreatDoorDatP
namespace Go.Proofs.YthnbaeamekolmaaGreatDoor
open Go.RowKit
set_option linter.unusedVariables false
set_option linter.unusedSimpArgs false

theorem one_i64 (n : Int) (rest : List Int) : (Value.int .i64 n :: rest.map (Value.int .i64)) = (n :: rest).map (Value.int .i64) := rfl

end Go.Proofs.YthnbaeamekolmaaGreatDoor
