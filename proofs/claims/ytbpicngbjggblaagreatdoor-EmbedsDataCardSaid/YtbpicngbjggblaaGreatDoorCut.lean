/- A slice of integers, cut. -/
import Derived.Test.YtbpicngbjggblaaGreatDoorGa
import Derived.Laws.Slices
