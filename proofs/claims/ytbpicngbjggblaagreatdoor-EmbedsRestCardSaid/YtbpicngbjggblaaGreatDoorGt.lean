/- Texts of this proof, together: RewD, RewE, RewF. -/
import Derived.Test.YtbpicngbjggblaaGreatDoorGs
import Derived.Test.YtbpicngbjggblaaGreatDoorGa
import Derived.Test.YtbpicngbjggblaaGreatDoorGb
import Derived.Test.YtbpicngbjggblaaGreatDoorGf
import Derived.Test.YtbpicngbjggblaaGreatDoorGc
import Derived.Test.YtbpicngbjggblaaGreatDoorGn
import Derived.BigRegion
import Derived.Deep.DeepCutAuto
namespace Go.Proofs.YtbpicngbjggblaaGreatDoor
set_option linter.unusedVariables false
set_option linter.unusedSimpArgs false
open Go.ChangeShapes Go.WideShapes Go.ChangeAt Go.RowKit Go.PlainAid
attribute [local go_sem ↓] Go.wp_at_zero Go.wp_at_succ
theorem v16_at {s : ByteArray} {i : Int} {k : Nat} (hi : i = (k : Int)) (h : k + 2 ≤ s.size) : v16 s i = g16 s k := by
  have e : okAt s k 2 = true := okAt_yes (m := 2) (by omega)
  unfold v16
  rw [hi, if_pos e, Int.toNat_natCast]
end Go.Proofs.YtbpicngbjggblaaGreatDoor

namespace Go.Proofs.YtbpicngbjggblaaGreatDoor
set_option linter.unusedVariables false
set_option linter.unusedSimpArgs false
open Go.ChangeShapes Go.WideShapes Go.ChangeAt Go.RowKit Go.PlainAid
attribute [local go_sem ↓] Go.wp_at_zero Go.wp_at_succ
end Go.Proofs.YtbpicngbjggblaaGreatDoor

namespace Go.Proofs.YtbpicngbjggblaaGreatDoor
set_option linter.unusedVariables false
set_option linter.unusedSimpArgs false
open Go.ChangeShapes Go.WideShapes Go.ChangeAt Go.RowKit Go.PlainAid
attribute [local go_sem ↓] Go.wp_at_zero Go.wp_at_succ
end Go.Proofs.YtbpicngbjggblaaGreatDoor
