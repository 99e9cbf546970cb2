/- A text, both bytes of each word having changed places. -/
import Derived.Test.YtbpicngbjggblaaGreatDoorGb
import Derived.Laws.IdiomStrings
namespace Go.Proofs.YtbpicngbjggblaaGreatDoor
open Go.ChangeShapes Go.WideShapes Go.ChangeAt Go.RowKit Go.PlainAid
/-- The bytes that stand in a block from its beginning on. -/
def Bts (w : World) (b n : Nat) (f : Nat → Int) : Prop := ∀ j, j < n → w.cell? ⟨b, j, none⟩ = some (.int .u8 (f j)) ∧ w.frozen? ⟨b, j, none⟩ = false
theorem Bts.set {w : World} {b n : Nat} {f : Nat → Int} (h : Bts w b n f) (k : Nat) (v : Int) (hk : k < n) : Bts (w.setCell ⟨b, k, none⟩ (.int .u8 v)) b n (fun j => if j = k then v else f j) := by
  intro j hj
  obtain ⟨h1, h2⟩ := h j hj
  obtain ⟨h3, h4⟩ := h k hk
  refine ⟨?_, by simpa using h2⟩
  show _ = some (Value.int .u8 (if j = k then v else f j))
  by_cases e : j = k
  · subst e
    rw [if_pos rfl]
    exact World.cell?_setCell_same' _ _ _ (by rw [h3]; rfl)
  · rw [if_neg e, World.cell?_setCell_other _ _ _ _ (by intro he; injection he with h5 h6; exact e h6.symm)]
    exact h1
theorem Bts.congr {w : World} {b n : Nat} {f g : Nat → Int} (h : Bts w b n f) (e : ∀ j, j < n → f j = g j) : Bts w b n g := fun j hj => by rw [← e j hj]; exact h j hj
theorem bytes_of_string (s : ByteArray) (w : World) : ∃ (w1 : World) (c : Nat), (convert 9 45 (.string s)).run Tryz.prog w = .ok (.slice (some ⟨w.heap.size, 0, none⟩) s.size c) w1 ∧ Below w.heap.size w w1 ∧
    w.heap.size < w1.heap.size ∧ Bts w1 w.heap.size s.size (bt s) := by
  refine ⟨_, _, run_bytes_of_string w _ _ 5 s Tryz.underlying9 Tryz.underlying45 Tryz.underlying5, ((Below.refl _ _).drew).alloc (by simp) _, by simp, ?_⟩
  intro j hj
  have hl : (bytesRow s (grownCap w s.size 0 5))[j]? = some (.int .u8 (bt s j)) := by
    have hj' : j < s.data.size := hj
    unfold bytesRow
    rw [Array.getElem?_append_left (by simpa using hj')]
    have : s.data[j]? = some s.data[j] := Array.getElem?_eq_getElem hj'
    simp [this]
    unfold bt
    rw [dif_pos hj]
    rfl
  constructor
  · have := World.cell?_alloc_mark w.drew (bytesRow s (grownCap w s.size 0 5)) 5 ((bytesRow s (grownCap w s.size 0 5)).size, (bytesRow s (grownCap w s.size 0 5)).size + 1) j
    rw [hl] at this
    exact this
  · have := World.frozen?_alloc_mark w.drew (bytesRow s (grownCap w s.size 0 5)) 5 (bytesRow s (grownCap w s.size 0 5)).size ((bytesRow s (grownCap w s.size 0 5)).size + 1) j
    have hlt : j < (bytesRow s (grownCap w s.size 0 5)).size := by
      rcases Nat.lt_or_ge j (bytesRow s (grownCap w s.size 0 5)).size with h | h
      · exact h
      · rw [Array.getElem?_eq_none h] at hl; cases hl
    refine this.trans ?_
    simp; omega
end Go.Proofs.YtbpicngbjggblaaGreatDoor
