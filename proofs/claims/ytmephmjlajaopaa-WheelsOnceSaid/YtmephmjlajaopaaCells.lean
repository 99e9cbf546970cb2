/- Slices of structs that came in: each element's cells (open_cells), a list by places (list_of): for every layer. -/
import Derived.Test.YtmephmjlajaopaaOpenNest
import Derived.Test.YtmephmjlajaopaaFieldsE
import Derived.ChangeArms
namespace Go.Proofs.Ytmephmjlajaopaa
set_option linter.unusedVariables false
set_option linter.unusedSimpArgs false
open Go.ChangeShapes Go.WideShapes Go.ChangeAt Go.RowKit
theorem listOf {α : Type} (z : α) (Q : Nat → α → Prop) : ∀ n, (∀ i, i < n → ∃ d, Q i d) → ∃ ds : List α, ds.length = n ∧ ∀ i, i < n → Q i (ds.getD i z)
  | 0, _ => ⟨[], rfl, fun i hi => by omega⟩
  | n + 1, h => by
    obtain ⟨ds, hl, hq⟩ := listOf z Q n (fun i hi => h i (by omega))
    obtain ⟨d, hd⟩ := h n (by omega)
    refine ⟨ds ++ [d], by simp [hl], fun i hi => ?_⟩
    by_cases e : i = n
    · subst e
      rw [← hl, List.getD_eq_getElem?_getD, List.getElem?_append_right (Nat.le_refl _)]
      simpa [hl] using hd
    · have := hq i (by omega)
      rw [List.getD_eq_getElem?_getD, List.getElem?_append_left (by omega), ← List.getD_eq_getElem?_getD]
      exact this
section
variable {H : Type} {enc : TypeId × Value → H} {P : Program} {w : World} {base : Nat} {spare : Nat → Bool} {held : Bool}
/-- A slice whose elements have N cells: nil, or each element's cells. -/
theorem openCells {t e : TypeId} {fuel : Nat} {N : Nat} {cs : List Value} {x : DataW H × List MemPlace} (ht : P.underlying t = some (.slice e)) (hc : P.cellsOf e = N) (hN : 0 < N) (h : DataW.trod enc P w base spare held fuel t cs = some x) :
    cs = [.slice none 0 0] ∨ ∃ (a : Addr) (len cap : Nat), cs = [.slice (some a) len cap] ∧ len ≤ cap ∧ cap ≤ maxLen ∧
      (len = 0 ∨ ∃ b off, a = ⟨b, off, none⟩ ∧ b < w.heap.size ∧ ∃ n, ∀ i, i < len → ∃ (zs : List Value) (y : DataW H × List MemPlace), zs.length = N ∧ (∀ j, j < N → w.cell? ⟨b, off + i * N + j, none⟩ = zs[j]?) ∧ DataW.trod enc P w base spare held n e zs = some y) := by
  rcases DataW.trod_slice ht h with ⟨h0, _⟩ | ⟨a, len, cap, elems, rest, n, _, rfl, _, hb, hl, hm, hlen, hel, _, _⟩
  · exact .inl h0
  · refine .inr ⟨a, len, cap, rfl, hl, hm, ?_⟩
    by_cases h0 : len = 0
    · exact .inl h0
    right
    rw [hc] at hel
    have each : ∀ i, i < len → ∃ (zs : List Value) (y : DataW H × List MemPlace), zs.length = N ∧ (∀ j, j < N → w.cell? ((a.add (i * N)).add j) = zs[j]?) ∧ DataW.trod enc P w base spare held n e zs = some y := by
      intro i hi
      have k := hel i hi
      rw [List.getElem?_eq_getElem (by omega), Option.bind_eq_some_iff] at k
      obtain ⟨zs, h1, h2⟩ := k
      obtain ⟨_, g1, g2⟩ := World.cells?_some h1
      exact ⟨zs, _, g1, g2, h2⟩
    obtain ⟨b, off, spot⟩ := a
    obtain ⟨zs, _, l0, c0, _⟩ := each 0 (by omega)
    have k0 := c0 0 hN
    rw [List.getElem?_eq_getElem (by omega)] at k0
    have hspot : spot = none := by simpa [Addr.add] using World.cell?_spot k0
    subst hspot
    have hlt : b < w.heap.size := by
      have := World.block_lt_of_cell? w _ k0
      simpa [addr_add] using this
    refine ⟨b, off, rfl, hlt, n, fun i hi => ?_⟩
    obtain ⟨zs, y, l1, c1, t1⟩ := each i hi
    refine ⟨zs, y, l1, fun j hj => ?_, t1⟩
    have := c1 j hj
    rw [addr_add, addr_add] at this
    exact this
end
end Go.Proofs.Ytmephmjlajaopaa
