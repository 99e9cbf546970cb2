/- The library's table of powers of ten, out of the list that a row bears. -/
import Derived.Test.YtbpicngbjggblaaGreatDoorGk
import Derived.Test.YtbpicngbjggblaaGreatDoorCards
import Derived.LaidSub
import Derived.MakeChecks
import Derived.Lib.LaidTab
namespace Go.Proofs.YtbpicngbjggblaaGreatDoor
open Go.ChangeShapes Go.WideShapes Go.ChangeAt Go.RowKit
theorem tab_of_laid {l : List (String × DataW Unit)} {W : World} (hf : l.filter (fun x => x.1 == "internal/strconv.uint64pow10") = [("internal/strconv.uint64pow10", Lib.tabData .u64 Lib.pow10Tab)]) (h : laidMetH Tryz.prog l W) : Tab W := by
  have h2 := laidMetH.filter (fun x => x.1 == "internal/strconv.uint64pow10") h
  rw [hf, MakeChecks.laidMetH_plain _ _ _ (by kernel_rfl)] at h2
  exact Lib.tabIs_of_head (g := 0) (t := 207) (e := 194) (n := 20) (by kernel_rfl) (by kernel_rfl) Tryz.underlying207 Tryz.underlying194 (by kernel_rfl) (by kernel_rfl) h2
end Go.Proofs.YtbpicngbjggblaaGreatDoor
