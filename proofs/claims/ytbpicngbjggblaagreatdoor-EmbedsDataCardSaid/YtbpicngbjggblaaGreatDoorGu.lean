/- What the laws of layer 9 ask of package rewrite (RwOk: proved of the code elsewhere); taken, right. -/
import Derived.Test.YtbpicngbjggblaaGreatDoorGs
import Derived.Test.YtbpicngbjggblaaGreatDoorGr
import Derived.Test.YtbpicngbjggblaaGreatDoorGi
import Derived.Test.YtbpicngbjggblaaGreatDoorGg
import Derived.Test.YtbpicngbjggblaaGreatDoorGl
import Derived.Test.YtbpicngbjggblaaGreatDoorSumsVoid
import Derived.Test.YtbpicngbjggblaaGreatDoorGc
