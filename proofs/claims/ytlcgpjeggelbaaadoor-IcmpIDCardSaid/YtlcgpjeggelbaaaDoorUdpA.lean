/- Contracts of the document's answers for layer 5. -/
import Derived.Test.YtlcgpjeggelbaaaDoorUdpP
import Derived.Test.YtlcgpjeggelbaaaDoorBox4
import Derived.Test.YtlcgpjeggelbaaaDoorLead
import Derived.Test.YtlcgpjeggelbaaaDoorSumsLaid
import Derived.Deep.RegionHeld3
namespace Go.Proofs.YtlcgpjeggelbaaaDoor
set_option linter.unusedVariables false
set_option linter.unusedSimpArgs false
open Go.ChangeShapes Go.WideShapes Go.ChangeAt Go.RowKit Go.PlainAid
attribute [local go_sem ↓] Go.wp_at_zero Go.wp_at_succ
end Go.Proofs.YtlcgpjeggelbaaaDoor
