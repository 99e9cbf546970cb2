/- Plain mathematics, and what is kept, of SumsHold. -/
import Derived.Test.YtbglnebmfnoenaaGreatDoorOwn16
import Derived.Test.YtbglnebmfnoenaaGreatDoorSumsVoid
namespace Go.Proofs.YtbglnebmfnoenaaGreatDoor.SumsHold
set_option linter.unusedVariables false
open Go.ChangeShapes Go.WideShapes Go.ChangeAt Go.RowKit Go.PlainAid
end Go.Proofs.YtbglnebmfnoenaaGreatDoor.SumsHold
