/- The chapter's examples, and the contract of the function that asks them. -/
import Derived.Test.YtmephmjlajaopaaFieldsD
namespace Go.Proofs.Ytmephmjlajaopaa
open Go.ChangeShapes Go.WideShapes Go.ChangeAt Go.RowKit Go.PlainAid
namespace FieldsLaid
end FieldsLaid
end Go.Proofs.Ytmephmjlajaopaa
