/- A row of numbers of the call's own. -/
import Derived.Test.YtbpicngbjggblaaGreatDoorCut
import Derived.Test.YtbpicngbjggblaaGreatDoorGb
import Derived.Laws.OwnMore
import Derived.Deep.AppendLies
namespace Go.Proofs.YtbpicngbjggblaaGreatDoor
open Go.ChangeShapes Go.WideShapes Go.ChangeAt Go.RowKit Go.PlainAid
/-- A block whose first cells are these numbers, and may be written. -/
def OwnR (k : IntKind) (w : World) (g len : Nat) (zs : List Int) : Prop :=
  zs.length = len ∧ g < w.heap.size ∧ ∀ j, j < len → w.cell? ⟨g, j, none⟩ = some (.int k (zs.getD j 0)) ∧ w.frozen? ⟨g, j, none⟩ = false
theorem OwnR.of {kd : IntKind} {w : World} {base : Nat} {e : TypeId} {v : Value} {len : Nat} {zs : List Int} (h : w.ownsRow base e 1 v len (zs.map (Value.int kd))) (hl : zs.length = len) (h0 : 0 < len) :
    ∃ g c, v = .slice (some ⟨g, 0, none⟩) len c ∧ base ≤ g ∧ OwnR kd w g len zs := by
  obtain ⟨g, c, rfl, h1, h2⟩ := h.form h0
  refine ⟨g, c, rfl, h1, hl, h2, fun j hj => ⟨?_, h.frozenAt j⟩⟩
  rw [h.cellAt j (by omega)]
  simp [List.getD, show j < zs.length by omega]
theorem OwnR.set {kd : IntKind} {w : World} {g len : Nat} {zs : List Int} (h : OwnR kd w g len zs) (k : Nat) (hk : k < len) (v : Int) : OwnR kd (w.setCell ⟨g, k, none⟩ (.int kd v)) g len (zs.set k v) := by
  refine ⟨by rw [List.length_set]; exact h.1, by simpa using h.2.1, fun j hj => ?_⟩
  obtain ⟨h1, h2⟩ := h.2.2 j hj
  obtain ⟨h3, h4⟩ := h.2.2 k hk
  refine ⟨?_, by simpa using h2⟩
  by_cases e : k = j
  · subst e
    have : k < zs.length := by rw [h.1]; exact hk
    rw [World.cell?_setCell_same' _ _ _ (by rw [h3]; rfl)]
    simp [List.getD, this]
  · rw [World.cell?_setCell_other _ _ _ _ (by intro he; injection he with h5 h6; exact e h6)]
    rw [h1]
    simp [List.getD, e]
theorem OwnR.row {kd : IntKind} {w : World} {g len : Nat} {zs : List Int} (h : OwnR kd w g len zs) : Row kd w (some ⟨g, 0, none⟩) len zs :=
  ⟨h.1, .inr ⟨g, 0, rfl, h.2.1, fun t ht => by rw [Nat.zero_add]; exact (h.2.2 t ht).1⟩⟩
end Go.Proofs.YtbpicngbjggblaaGreatDoor
