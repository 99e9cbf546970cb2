/- Contracts of the document's answers for layer 2. -/
import Derived.Test.YtijippfcobgidaaSumsB
namespace Go.Proofs.Ytijippfcobgidaa
open Go.ChangeShapes Go.WideShapes Go.ChangeAt Go.RowKit Go.PlainAid
end Go.Proofs.Ytijippfcobgidaa
