/- Contracts of the document's answers for layer 2. -/
import Derived.Test.YtghicdajcmkfjaaSumsB
namespace Go.Proofs.Ytghicdajcmkfjaa
open Go.ChangeShapes Go.WideShapes Go.ChangeAt Go.RowKit Go.PlainAid
end Go.Proofs.Ytghicdajcmkfjaa
