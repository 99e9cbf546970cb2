/- A text that is nothing but bytes 0: strings.Trim at the byte 0. -/
import Derived.Test.YtbpicngbjggblaaGreatDoorGb
