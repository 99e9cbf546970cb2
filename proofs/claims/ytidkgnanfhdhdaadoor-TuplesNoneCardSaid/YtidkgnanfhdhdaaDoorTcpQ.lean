/- Plain: what is parsed of what was put, and put of what was parsed (layer 6). -/
import Derived.Test.YtidkgnanfhdhdaaDoorGh
namespace Go.Proofs.YtidkgnanfhdhdaaDoor
set_option linter.unusedVariables false
set_option linter.unusedSimpArgs false
open Go.ChangeShapes Go.WideShapes Go.ChangeAt Go.RowKit Go.PlainAid
end Go.Proofs.YtidkgnanfhdhdaaDoor
