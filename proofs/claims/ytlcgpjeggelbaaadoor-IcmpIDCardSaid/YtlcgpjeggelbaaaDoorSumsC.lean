/- Contracts of the document's answers for layer 2. -/
import Derived.Test.YtlcgpjeggelbaaaDoorSumsB
namespace Go.Proofs.YtlcgpjeggelbaaaDoor
open Go.ChangeShapes Go.WideShapes Go.ChangeAt Go.RowKit Go.PlainAid
end Go.Proofs.YtlcgpjeggelbaaaDoor
