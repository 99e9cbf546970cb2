/- A text that is nothing but bytes 0: strings.Trim at the byte 0. -/
import Derived.Test.YtbpicngbjggblaaGreatDoorGb
namespace Go.Proofs.YtbpicngbjggblaaGreatDoor
set_option linter.unusedVariables false
set_option linter.unusedSimpArgs false
open Go.ChangeShapes Go.WideShapes Go.ChangeAt Go.RowKit Go.PlainAid
end Go.Proofs.YtbpicngbjggblaaGreatDoor
