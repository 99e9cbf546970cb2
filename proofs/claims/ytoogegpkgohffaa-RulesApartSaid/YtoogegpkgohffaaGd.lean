/- Texts of this proof, together: IpA, IpB, IpC. -/
import Derived.Test.YtoogegpkgohffaaGb
import Derived.Test.YtoogegpkgohffaaGa
import Derived.Deep.RegionWith
import Derived.Deep.RegionHeld3
import Derived.Deep.DrawnRows
