/- Contracts of package ip: get16, address, lengths, read, refused, Parse. -/
import Derived.Test.YtckcdmijhemchaaIpC
import Derived.Test.YtckcdmijhemchaaShelfStr
import Derived.Test.YtckcdmijhemchaaLead
import Derived.Test.YtckcdmijhemchaaIpF
import Derived.Lib.VarintBits
namespace Go.Proofs.Ytckcdmijhemchaa
set_option linter.unusedVariables false
set_option linter.unusedSimpArgs false
open Go.ChangeShapes Go.WideShapes Go.ChangeAt Go.RowKit Go.PlainAid
theorem u8_and15 (x : Int) (h0 : 0 ≤ x) (h1 : x ≤ 255) : bits .and .u8 x 15 = x % 16 := bits_mask .u8 8 (by decide) wraps_u8 4 (by decide) x h0 (by omega)
end Go.Proofs.Ytckcdmijhemchaa
