/- Texts of this proof, together: IpA, IpB, IpC. -/
import Derived.Test.YtoogegpkgohffaaTb
import Derived.Test.YtoogegpkgohffaaTa
import Derived.Deep.RegionWith
import Derived.Deep.RegionHeld3
import Derived.Deep.DrawnRows
