/- Contracts of the document's answers for layer 2. -/
import Derived.Test.YtlnbjpabcldmnaaSumsB
namespace Go.Proofs.Ytlnbjpabcldmnaa
open Go.ChangeShapes Go.WideShapes Go.ChangeAt Go.RowKit Go.PlainAid
end Go.Proofs.Ytlnbjpabcldmnaa
