/- Contracts of the document's answers for layer 2. -/
import Derived.Test.YtmephmjlajaopaaSumsB
namespace Go.Proofs.Ytmephmjlajaopaa
open Go.ChangeShapes Go.WideShapes Go.ChangeAt Go.RowKit Go.PlainAid
end Go.Proofs.Ytmephmjlajaopaa
