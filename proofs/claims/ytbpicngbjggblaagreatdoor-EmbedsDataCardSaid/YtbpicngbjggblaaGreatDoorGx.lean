/- Plain mathematics, and what is kept, of SumsHold. -/
import Derived.Test.YtbpicngbjggblaaGreatDoorOwn16
import Derived.Test.YtbpicngbjggblaaGreatDoorSumsVoid
