/- A slice of integers, cut. -/
import Derived.Test.YtbglnebmfnoenaaGreatDoorGa
import Derived.Laws.Slices
namespace Go.Proofs.YtbglnebmfnoenaaGreatDoor
open Go.ChangeShapes Go.WideShapes Go.ChangeAt Go.RowKit Go.PlainAid
end Go.Proofs.YtbglnebmfnoenaaGreatDoor
