/- Plain mathematics, and what is kept, of SumsHold. -/
import Derived.Test.YtbpicngbjggblaaGreatDoorOwn16
import Derived.Test.YtbpicngbjggblaaGreatDoorSumsVoid
namespace Go.Proofs.YtbpicngbjggblaaGreatDoor.SumsHold
set_option linter.unusedVariables false
open Go.ChangeShapes Go.WideShapes Go.ChangeAt Go.RowKit Go.PlainAid
/-- The row that is made, and the sum that goes along, after some words. -/
structure Inv (w wr : World) (g len k fr : Nat) (ys : List Int) (i : Nat) (u : Int) (ns : List Int) : Prop where
  u0 : 0 ≤ u
  u1 : u ≤ 65535
  wf : ∀ n ∈ ns, 0 ≤ n ∧ n ≤ 65535
  own : OwnR .u16 wr g len ns
  bel : Below w.heap.size w wr
  same : (u + ns.sum - ns.getD k 0) % 65535 = ys.sum % 65535
  rest : ∀ j, i ≤ j → fr + j < len → ns.getD (fr + j) 0 = ys.getD (fr + j) 0
theorem Inv.skip {w wr : World} {g len k fr : Nat} {ys : List Int} {i : Nat} {u : Int} {ns : List Int} (h : Inv w wr g len k fr ys i u ns) : Inv w wr g len k fr ys (i + 1) u ns :=
  ⟨h.u0, h.u1, h.wf, h.own, h.bel, h.same, fun j hj hjl => h.rest j (by omega) hjl⟩
end Go.Proofs.YtbpicngbjggblaaGreatDoor.SumsHold
