/- Texts of this proof, together: TupB, TupE, TupQA, TupU, TupC, TupO. -/
import Derived.Test.YtbglnebmfnoenaaGreatDoorGm
import Derived.Test.YtbglnebmfnoenaaGreatDoorGc
import Derived.Test.YtbglnebmfnoenaaGreatDoorGf
import Derived.Test.YtbglnebmfnoenaaGreatDoorGh
import Derived.Test.YtbglnebmfnoenaaGreatDoorGj
import Derived.BigRegion
namespace Go.Proofs.YtbglnebmfnoenaaGreatDoor
set_option linter.unusedVariables false
set_option linter.unusedSimpArgs false
open Go.ChangeShapes Go.WideShapes Go.ChangeAt Go.RowKit Go.PlainAid
attribute [local go_sem ↓] Go.wp_at_zero Go.wp_at_succ

end Go.Proofs.YtbglnebmfnoenaaGreatDoor

namespace Go.Proofs.YtbglnebmfnoenaaGreatDoor
set_option linter.unusedVariables false
set_option linter.unusedSimpArgs false
open Go.ChangeShapes Go.WideShapes Go.ChangeAt Go.RowKit Go.PlainAid
attribute [local go_sem ↓] Go.wp_at_zero Go.wp_at_succ

end Go.Proofs.YtbglnebmfnoenaaGreatDoor

namespace Go.Proofs.YtbglnebmfnoenaaGreatDoor
set_option linter.unusedVariables false
set_option linter.unusedSimpArgs false
open Go.ChangeShapes Go.WideShapes Go.ChangeAt Go.RowKit Go.PlainAid
attribute [local go_sem ↓] Go.wp_at_zero Go.wp_at_succ

end Go.Proofs.YtbglnebmfnoenaaGreatDoor

namespace Go.Proofs.YtbglnebmfnoenaaGreatDoor
set_option linter.unusedVariables false
set_option linter.unusedSimpArgs false
open Go.ChangeShapes Go.WideShapes Go.ChangeAt Go.RowKit Go.PlainAid
attribute [local go_sem ↓] Go.wp_at_zero Go.wp_at_succ

end Go.Proofs.YtbglnebmfnoenaaGreatDoor

namespace Go.Proofs.YtbglnebmfnoenaaGreatDoor
set_option linter.unusedVariables false
set_option linter.unusedSimpArgs false
open Go.ChangeShapes Go.WideShapes Go.ChangeAt Go.RowKit Go.PlainAid
attribute [local go_sem ↓] Go.wp_at_zero Go.wp_at_succ

end Go.Proofs.YtbglnebmfnoenaaGreatDoor

namespace Go.Proofs.YtbglnebmfnoenaaGreatDoor
set_option linter.unusedVariables false
set_option linter.unusedSimpArgs false
open Go.ChangeShapes Go.WideShapes Go.ChangeAt Go.RowKit Go.PlainAid
end Go.Proofs.YtbglnebmfnoenaaGreatDoor
