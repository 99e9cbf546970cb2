/- Boxes of ten cells. -/
import Derived.Test.YtckcdmijhemchaaBox4
namespace Go.Proofs.Ytckcdmijhemchaa
set_option linter.unusedVariables false
set_option linter.unusedSimpArgs false
open Go.ChangeShapes Go.WideShapes Go.ChangeAt Go.RowKit Go.PlainAid
/-- A box of 10 cells that is written whole. -/
theorem box10_ {W0 W : World} {b n : Nat} {v0 v1 v2 v3 v4 v5 v6 v7 v8 v9 : Value} {M : World → Prop} (h : ∀ j, j < 10 → (W.cell? ⟨b, j, none⟩).isSome = true) (hb : Below n W0 W) (hn : n ≤ b)
    (k : ∀ X : World, X.cell? ⟨b, 0, none⟩ = some v0 → X.cell? ⟨b, 1, none⟩ = some v1 → X.cell? ⟨b, 2, none⟩ = some v2 → X.cell? ⟨b, 3, none⟩ = some v3 → X.cell? ⟨b, 4, none⟩ = some v4 → X.cell? ⟨b, 5, none⟩ = some v5 → X.cell? ⟨b, 6, none⟩ = some v6 → X.cell? ⟨b, 7, none⟩ = some v7 → X.cell? ⟨b, 8, none⟩ = some v8 → X.cell? ⟨b, 9, none⟩ = some v9 → Below n W0 X → (∀ a : Addr, ¬ b = a.block → X.cell? a = W.cell? a) → X.heap.size = W.heap.size → M X) :
    M ((((((((((W.setCell ⟨b, 0, none⟩ v0).setCell ⟨b, 1, none⟩ v1).setCell ⟨b, 2, none⟩ v2).setCell ⟨b, 3, none⟩ v3).setCell ⟨b, 4, none⟩ v4).setCell ⟨b, 5, none⟩ v5).setCell ⟨b, 6, none⟩ v6).setCell ⟨b, 7, none⟩ v7).setCell ⟨b, 8, none⟩ v8).setCell ⟨b, 9, none⟩ v9) := by
  have c := World.cell?_setCells_in b [v0, v1, v2, v3, v4, v5, v6, v7, v8, v9] 0 W (by intro j hj; rw [Nat.zero_add]; exact h j hj)
  refine k _ (c 0 (by simp)) (c 1 (by simp)) (c 2 (by simp)) (c 3 (by simp)) (c 4 (by simp)) (c 5 (by simp)) (c 6 (by simp)) (c 7 (by simp)) (c 8 (by simp)) (c 9 (by simp)) ?_ ?_ (by simp)
  rotate_left
  · intro a ha
    rw [World.cell?_setCell_far _ _ _ _ ha, World.cell?_setCell_far _ _ _ _ ha, World.cell?_setCell_far _ _ _ _ ha, World.cell?_setCell_far _ _ _ _ ha, World.cell?_setCell_far _ _ _ _ ha, World.cell?_setCell_far _ _ _ _ ha, World.cell?_setCell_far _ _ _ _ ha, World.cell?_setCell_far _ _ _ _ ha, World.cell?_setCell_far _ _ _ _ ha, World.cell?_setCell_far _ _ _ _ ha]
  exact (((((((((hb.setCell hn _).setCell hn _).setCell hn _).setCell hn _).setCell hn _).setCell hn _).setCell hn _).setCell hn _).setCell hn _).setCell hn _
theorem box10_is {W w1 : World} {b : Nat} {v0 v1 v2 v3 v4 v5 v6 v7 v8 v9 : Value} {t : TypeId} (hb : b = W.heap.size) (hc : ∀ b o, b < (W.alloc (.cells #[v0, v1, v2, v3, v4, v5, v6, v7, v8, v9] t)).heap.size → w1.cell? ⟨b, o, none⟩ = (W.alloc (.cells #[v0, v1, v2, v3, v4, v5, v6, v7, v8, v9] t)).cell? ⟨b, o, none⟩) : ∀ j, j < 10 → (w1.cell? ⟨b, j, none⟩).isSome = true := by
  subst hb
  intro j hj
  rw [hc _ _ (by simp)]
  match j, hj with
  | 0, _ => simp [go_sem]
  | 1, _ => simp [go_sem]
  | 2, _ => simp [go_sem]
  | 3, _ => simp [go_sem]
  | 4, _ => simp [go_sem]
  | 5, _ => simp [go_sem]
  | 6, _ => simp [go_sem]
  | 7, _ => simp [go_sem]
  | 8, _ => simp [go_sem]
  | 9, _ => simp [go_sem]
/-- A box of 10 cells. -/
def Box10 (w : World) (b : Nat) (v0 v1 v2 v3 v4 v5 v6 v7 v8 v9 : Value) : Prop :=
  b < w.heap.size ∧ w.cell? ⟨b, 0, none⟩ = some v0 ∧ w.cell? ⟨b, 1, none⟩ = some v1 ∧ w.cell? ⟨b, 2, none⟩ = some v2 ∧ w.cell? ⟨b, 3, none⟩ = some v3 ∧ w.cell? ⟨b, 4, none⟩ = some v4 ∧ w.cell? ⟨b, 5, none⟩ = some v5 ∧ w.cell? ⟨b, 6, none⟩ = some v6 ∧ w.cell? ⟨b, 7, none⟩ = some v7 ∧ w.cell? ⟨b, 8, none⟩ = some v8 ∧ w.cell? ⟨b, 9, none⟩ = some v9
theorem Box10.on {w w' : World} {b : Nat} {v0 v1 v2 v3 v4 v5 v6 v7 v8 v9 : Value} (h : Box10 w b v0 v1 v2 v3 v4 v5 v6 v7 v8 v9) (hb : Below w.heap.size w w') : Box10 w' b v0 v1 v2 v3 v4 v5 v6 v7 v8 v9 := by
  obtain ⟨h, h0, h1, h2, h3, h4, h5, h6, h7, h8, h9⟩ := h
  exact ⟨Nat.lt_of_lt_of_le h hb.size, (hb.cell (p := ⟨b, 0, none⟩) h).trans h0, (hb.cell (p := ⟨b, 1, none⟩) h).trans h1, (hb.cell (p := ⟨b, 2, none⟩) h).trans h2, (hb.cell (p := ⟨b, 3, none⟩) h).trans h3, (hb.cell (p := ⟨b, 4, none⟩) h).trans h4, (hb.cell (p := ⟨b, 5, none⟩) h).trans h5, (hb.cell (p := ⟨b, 6, none⟩) h).trans h6, (hb.cell (p := ⟨b, 7, none⟩) h).trans h7, (hb.cell (p := ⟨b, 8, none⟩) h).trans h8, (hb.cell (p := ⟨b, 9, none⟩) h).trans h9⟩
theorem Box10.make (w : World) (v0 v1 v2 v3 v4 v5 v6 v7 v8 v9 : Value) (t : TypeId) : Box10 (w.alloc (.cells #[v0, v1, v2, v3, v4, v5, v6, v7, v8, v9] t)) w.heap.size v0 v1 v2 v3 v4 v5 v6 v7 v8 v9 :=
  ⟨by simp, by simp [go_sem], by simp [go_sem], by simp [go_sem], by simp [go_sem], by simp [go_sem], by simp [go_sem], by simp [go_sem], by simp [go_sem], by simp [go_sem], by simp [go_sem]⟩
theorem Box10.past {w : World} {o : Obj} {b : Nat} {v0 v1 v2 v3 v4 v5 v6 v7 v8 v9 : Value} (h : Box10 w b v0 v1 v2 v3 v4 v5 v6 v7 v8 v9) : Box10 (w.alloc o) b v0 v1 v2 v3 v4 v5 v6 v7 v8 v9 := h.on ((Below.refl _ _).alloc (Nat.le_refl _) _)
theorem Box10.far {W X : World} {a b : Nat} {v0 v1 v2 v3 v4 v5 v6 v7 v8 v9 : Value} (h : Box10 W a v0 v1 v2 v3 v4 v5 v6 v7 v8 v9) (hf : ∀ p : Addr, ¬ b = p.block → X.cell? p = W.cell? p) (hn : ¬ b = a) : Box10 X a v0 v1 v2 v3 v4 v5 v6 v7 v8 v9 := by
  obtain ⟨h, h0, h1, h2, h3, h4, h5, h6, h7, h8, h9⟩ := h
  have k0 := (hf ⟨a, 0, none⟩ hn).trans h0
  exact ⟨World.block_lt_of_cell? _ _ k0, k0, (hf ⟨a, 1, none⟩ hn).trans h1, (hf ⟨a, 2, none⟩ hn).trans h2, (hf ⟨a, 3, none⟩ hn).trans h3, (hf ⟨a, 4, none⟩ hn).trans h4, (hf ⟨a, 5, none⟩ hn).trans h5, (hf ⟨a, 6, none⟩ hn).trans h6, (hf ⟨a, 7, none⟩ hn).trans h7, (hf ⟨a, 8, none⟩ hn).trans h8, (hf ⟨a, 9, none⟩ hn).trans h9⟩
theorem Box10.some {W : World} {a : Nat} {v0 v1 v2 v3 v4 v5 v6 v7 v8 v9 : Value} (h : Box10 W a v0 v1 v2 v3 v4 v5 v6 v7 v8 v9) : ∀ j, j < 10 → (W.cell? ⟨a, j, none⟩).isSome = true := by
  obtain ⟨h, h0, h1, h2, h3, h4, h5, h6, h7, h8, h9⟩ := h
  intro j hj
  match j, hj with
  | 0, _ => rw [h0]; rfl
  | 1, _ => rw [h1]; rfl
  | 2, _ => rw [h2]; rfl
  | 3, _ => rw [h3]; rfl
  | 4, _ => rw [h4]; rfl
  | 5, _ => rw [h5]; rfl
  | 6, _ => rw [h6]; rfl
  | 7, _ => rw [h7]; rfl
  | 8, _ => rw [h8]; rfl
  | 9, _ => rw [h9]; rfl
theorem new10_ {W : World} {v0 v1 v2 v3 v4 v5 v6 v7 v8 v9 : Value} {t : TypeId} {M : World → Prop}
    (k : ∀ X : World, X.cell? ⟨W.heap.size, 0, none⟩ = some v0 → X.cell? ⟨W.heap.size, 1, none⟩ = some v1 → X.cell? ⟨W.heap.size, 2, none⟩ = some v2 → X.cell? ⟨W.heap.size, 3, none⟩ = some v3 → X.cell? ⟨W.heap.size, 4, none⟩ = some v4 → X.cell? ⟨W.heap.size, 5, none⟩ = some v5 → X.cell? ⟨W.heap.size, 6, none⟩ = some v6 → X.cell? ⟨W.heap.size, 7, none⟩ = some v7 → X.cell? ⟨W.heap.size, 8, none⟩ = some v8 → X.cell? ⟨W.heap.size, 9, none⟩ = some v9 → Below W.heap.size W X → W.heap.size < X.heap.size → M X) :
    M (W.alloc (.cells #[v0, v1, v2, v3, v4, v5, v6, v7, v8, v9] t)).drew :=
  k _ (by simp [go_sem]) (by simp [go_sem]) (by simp [go_sem]) (by simp [go_sem]) (by simp [go_sem]) (by simp [go_sem]) (by simp [go_sem]) (by simp [go_sem]) (by simp [go_sem]) (by simp [go_sem]) ((Below.refl _ _).alloc (Nat.le_refl _) _).drew (by simp)
theorem box10d_ {W0 W : World} {b n : Nat} {v0 v1 v2 v3 v4 v5 v6 v7 v8 v9 : Value} {M : World → Prop} (h : ∀ j, j < 10 → (W.cell? ⟨b, j, none⟩).isSome = true) (hb : Below n W0 W) (hn : n ≤ b)
    (k : ∀ X : World, X.cell? ⟨b, 0, none⟩ = some v0 → X.cell? ⟨b, 1, none⟩ = some v1 → X.cell? ⟨b, 2, none⟩ = some v2 → X.cell? ⟨b, 3, none⟩ = some v3 → X.cell? ⟨b, 4, none⟩ = some v4 → X.cell? ⟨b, 5, none⟩ = some v5 → X.cell? ⟨b, 6, none⟩ = some v6 → X.cell? ⟨b, 7, none⟩ = some v7 → X.cell? ⟨b, 8, none⟩ = some v8 → X.cell? ⟨b, 9, none⟩ = some v9 → Below n W0 X → (∀ a : Addr, ¬ b = a.block → X.cell? a = W.cell? a) → M X) :
    M ((((((((((W.setCell ⟨b, 0, none⟩ v0).setCell ⟨b, 1, none⟩ v1).setCell ⟨b, 2, none⟩ v2).setCell ⟨b, 3, none⟩ v3).setCell ⟨b, 4, none⟩ v4).setCell ⟨b, 5, none⟩ v5).setCell ⟨b, 6, none⟩ v6).setCell ⟨b, 7, none⟩ v7).setCell ⟨b, 8, none⟩ v8).setCell ⟨b, 9, none⟩ v9).drew := by
  refine box10_ (M := fun X => M X.drew) h hb hn fun X x0 x1 x2 x3 x4 x5 x6 x7 x8 x9 B f _ => ?_
  exact k X.drew x0 x1 x2 x3 x4 x5 x6 x7 x8 x9 B.drew f
end Go.Proofs.Ytckcdmijhemchaa
