/- Contracts of the document's answers for layer 5. -/
import Derived.Test.YtlcgpjeggelbaaaUdpP
import Derived.Test.YtlcgpjeggelbaaaBox4
import Derived.Test.YtlcgpjeggelbaaaLead
import Derived.Test.YtlcgpjeggelbaaaSumsLaid
import Derived.Deep.RegionHeld3
namespace Go.Proofs.Ytlcgpjeggelbaaa
set_option linter.unusedVariables false
set_option linter.unusedSimpArgs false
open Go.ChangeShapes Go.WideShapes Go.ChangeAt Go.RowKit Go.PlainAid
attribute [local go_sem ↓] Go.wp_at_zero Go.wp_at_succ
end Go.Proofs.Ytlcgpjeggelbaaa
