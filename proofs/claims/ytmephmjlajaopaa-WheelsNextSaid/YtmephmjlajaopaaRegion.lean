/- A region that draws its order, whose own operations only read, and whose callees may make memory: one walk of the order of the text, in the class of all worlds that are as one is below its own size. -/
import Derived.Test.YtmephmjlajaopaaFieldsA
namespace Go.Proofs.Ytmephmjlajaopaa
open Go.ChangeShapes Go.WideShapes Go.ChangeAt Go.RowKit
/-- A world that is as 'w' is below block 'B'. -/
structure Later (B : Nat) (w : World) where
  u : World
  h : Below B w u
instance laterAny {B : Nat} {w : World} : Nonempty (Later B w) := ⟨⟨w, Below.refl B w⟩⟩
theorem Later.block {B : Nat} {w : World} (x : Later B w) {a : Addr} {v : Value} (ha : a.block < B) (h : w.cell? a = some v) : x.u.cell? a = some v := (x.h.cell ha).trans h
theorem region_later {P : Program} {id B : Nat} {Q : Exit → Act → World → Prop} {a : Act} {w : World} {l : List Oper} (hm : P.follows .mixedOrders = true) (hB : Region.lexB .any l.toArray = true)
    (h : wpQuiet P l.toArray (fun w' => ∃ x : Later B w, w' = x.u) (fun a' => ∀ w', (∃ x : Later B w, w' = x.u) → Q .normal a' w') l a) : (Code.region id l.toArray true).wp P Q a w :=
  wp_region_quiet (C := fun w' => ∃ x : Later B w, w' = x.u) hm hB ⟨⟨w.drew, (Below.refl B w).drew⟩, rfl⟩ (by simpa using h)
theorem later_end {P : Program} {ops : Array Oper} {C : World → Prop} {B : Nat} {Q : Exit → Act → World → Prop} {a : Act} {w : World} (h : ∀ w', Below B w w' → Q .normal a w') :
    wpQuiet P ops C (fun a' => ∀ w', (∃ x : Later B w, w' = x.u) → Q .normal a' w') [] a := wpQuiet_nil fun w' ⟨x, e⟩ => by subst e; exact h _ x.h
/-- A callee's contract, met in such a world. -/
theorem later_of {P : Program} {f : FuncId} {args : Array Value} {B : Nat} {w : World} {v : Value} (x : Later B w) (hB : B ≤ w.heap.size)
    (h : Calls P f args x.u fun e w' => e = .returned v ∧ Below x.u.heap.size x.u w') : Calls P f args x.u fun e w'' => e = .returned v ∧ ∃ y : Later B w, w'' = y.u :=
  h.mono fun _ w' ⟨he, hb⟩ => ⟨he, ⟨w', x.h.trans (hb.mono (Nat.le_trans hB x.h.size))⟩, rfl⟩
theorem later_same {P : Program} {f : FuncId} {args : Array Value} {B : Nat} {w : World} {v : Value} (x : Later B w)
    (h : Calls P f args x.u fun e w' => e = .returned v ∧ x.u = w') : Calls P f args x.u fun e w'' => e = .returned v ∧ ∃ y : Later B w, w'' = y.u :=
  h.mono fun _ _ ⟨he, hb⟩ => ⟨he, x, hb.symm⟩
end Go.Proofs.Ytmephmjlajaopaa
