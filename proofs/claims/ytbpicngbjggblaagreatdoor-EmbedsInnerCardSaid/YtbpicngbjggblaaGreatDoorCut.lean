/- A slice of integers, cut. -/
import Derived.Test.YtbpicngbjggblaaGreatDoorGa
import Derived.Laws.Slices
namespace Go.Proofs.YtbpicngbjggblaaGreatDoor
open Go.ChangeShapes Go.WideShapes Go.ChangeAt Go.RowKit Go.PlainAid
end Go.Proofs.YtbpicngbjggblaaGreatDoor
