/- Contracts of the document's answers for layer 8: Parse. -/
import Derived.Test.YtbpicngbjggblaaGreatDoorGm
import Derived.Test.YtbpicngbjggblaaGreatDoorGo
import Derived.Test.YtbpicngbjggblaaGreatDoorGc
import Derived.Test.YtbpicngbjggblaaGreatDoorGk
import Derived.BigRegion
namespace Go.Proofs.YtbpicngbjggblaaGreatDoor
set_option maxHeartbeats 8000000
set_option maxRecDepth 100000
set_option linter.unusedVariables false
set_option linter.unusedSimpArgs false
open Go.ChangeShapes Go.WideShapes Go.ChangeAt Go.RowKit Go.PlainAid
/-- A box of 3 cells. -/
def Box3 (w : World) (b : Nat) (v0 v1 v2 : Value) : Prop :=
  b < w.heap.size ∧ w.cell? ⟨b, 0, none⟩ = some v0 ∧ w.cell? ⟨b, 1, none⟩ = some v1 ∧ w.cell? ⟨b, 2, none⟩ = some v2
theorem Box3.on {w w' : World} {b : Nat} {v0 v1 v2 : Value} (h : Box3 w b v0 v1 v2) (hb : Below w.heap.size w w') : Box3 w' b v0 v1 v2 := by
  obtain ⟨h, h0, h1, h2⟩ := h
  exact ⟨Nat.lt_of_lt_of_le h hb.size, (hb.cell (p := ⟨b, 0, none⟩) h).trans h0, (hb.cell (p := ⟨b, 1, none⟩) h).trans h1, (hb.cell (p := ⟨b, 2, none⟩) h).trans h2⟩
theorem Box3.make (w : World) (v0 v1 v2 : Value) (t : TypeId) : Box3 (w.alloc (.cells #[v0, v1, v2] t)) w.heap.size v0 v1 v2 :=
  ⟨by simp, by simp [go_sem], by simp [go_sem], by simp [go_sem]⟩
theorem Box3.past {w : World} {o : Obj} {b : Nat} {v0 v1 v2 : Value} (h : Box3 w b v0 v1 v2) : Box3 (w.alloc o) b v0 v1 v2 := h.on ((Below.refl _ _).alloc (Nat.le_refl _) _)
theorem Box3.far {W X : World} {a b : Nat} {v0 v1 v2 : Value} (h : Box3 W a v0 v1 v2) (hf : ∀ p : Addr, ¬ b = p.block → X.cell? p = W.cell? p) (hn : ¬ b = a) : Box3 X a v0 v1 v2 := by
  obtain ⟨h, h0, h1, h2⟩ := h
  have k0 := (hf ⟨a, 0, none⟩ hn).trans h0
  exact ⟨World.block_lt_of_cell? _ _ k0, k0, (hf ⟨a, 1, none⟩ hn).trans h1, (hf ⟨a, 2, none⟩ hn).trans h2⟩
theorem Box3.some {W : World} {a : Nat} {v0 v1 v2 : Value} (h : Box3 W a v0 v1 v2) : ∀ j, j < 3 → (W.cell? ⟨a, j, none⟩).isSome = true := by
  obtain ⟨h, h0, h1, h2⟩ := h
  intro j hj
  match j, hj with
  | 0, _ => rw [h0]; rfl
  | 1, _ => rw [h1]; rfl
  | 2, _ => rw [h2]; rfl

attribute [local go_sem ↓] Go.wp_at_zero Go.wp_at_succ
end Go.Proofs.YtbpicngbjggblaaGreatDoor
