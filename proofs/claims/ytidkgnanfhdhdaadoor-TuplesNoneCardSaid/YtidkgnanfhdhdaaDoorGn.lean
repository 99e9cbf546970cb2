/- Texts of this proof, together: TupB, TupE, TupQA, TupU, TupC, TupO. -/
import Derived.Test.YtidkgnanfhdhdaaDoorGm
import Derived.Test.YtidkgnanfhdhdaaDoorGc
import Derived.Test.YtidkgnanfhdhdaaDoorGf
import Derived.Test.YtidkgnanfhdhdaaDoorGh
import Derived.Test.YtidkgnanfhdhdaaDoorGj
import Derived.BigRegion
namespace Go.Proofs.YtidkgnanfhdhdaaDoor
set_option linter.unusedVariables false
set_option linter.unusedSimpArgs false
open Go.ChangeShapes Go.WideShapes Go.ChangeAt Go.RowKit Go.PlainAid
attribute [local go_sem ↓] Go.wp_at_zero Go.wp_at_succ

end Go.Proofs.YtidkgnanfhdhdaaDoor

namespace Go.Proofs.YtidkgnanfhdhdaaDoor
set_option linter.unusedVariables false
set_option linter.unusedSimpArgs false
open Go.ChangeShapes Go.WideShapes Go.ChangeAt Go.RowKit Go.PlainAid
attribute [local go_sem ↓] Go.wp_at_zero Go.wp_at_succ

end Go.Proofs.YtidkgnanfhdhdaaDoor

namespace Go.Proofs.YtidkgnanfhdhdaaDoor
set_option linter.unusedVariables false
set_option linter.unusedSimpArgs false
open Go.ChangeShapes Go.WideShapes Go.ChangeAt Go.RowKit Go.PlainAid
attribute [local go_sem ↓] Go.wp_at_zero Go.wp_at_succ

end Go.Proofs.YtidkgnanfhdhdaaDoor

namespace Go.Proofs.YtidkgnanfhdhdaaDoor
set_option linter.unusedVariables false
set_option linter.unusedSimpArgs false
open Go.ChangeShapes Go.WideShapes Go.ChangeAt Go.RowKit Go.PlainAid
attribute [local go_sem ↓] Go.wp_at_zero Go.wp_at_succ

end Go.Proofs.YtidkgnanfhdhdaaDoor

namespace Go.Proofs.YtidkgnanfhdhdaaDoor
set_option linter.unusedVariables false
set_option linter.unusedSimpArgs false
open Go.ChangeShapes Go.WideShapes Go.ChangeAt Go.RowKit Go.PlainAid
attribute [local go_sem ↓] Go.wp_at_zero Go.wp_at_succ

end Go.Proofs.YtidkgnanfhdhdaaDoor

namespace Go.Proofs.YtidkgnanfhdhdaaDoor
set_option linter.unusedVariables false
set_option linter.unusedSimpArgs false
open Go.ChangeShapes Go.WideShapes Go.ChangeAt Go.RowKit Go.PlainAid
end Go.Proofs.YtidkgnanfhdhdaaDoor
