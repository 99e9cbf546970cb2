/- Arrays of bools of the call's own, in memory: made, read, written (for every layer). -/
import Derived.Test.YtmephmjlajaopaaBeside
namespace Go.Proofs.Ytmephmjlajaopaa
set_option linter.unusedVariables false
set_option linter.unusedSimpArgs false
open Go.ChangeShapes Go.WideShapes Go.ChangeAt Go.RowKit
/-- So many cells, all false. -/
def boolsZ (n : Nat) : Array Value := Array.replicate n (.bool false)
theorem boolsZ_size (n : Nat) : (boolsZ n).size = n := by simp [boolsZ]
theorem boolsZ_at {n i : Nat} (h : i < n) : (boolsZ n)[i]? = some (.bool false) := by simp [boolsZ, h]
/-- An array of bools: its cells by a function. -/
structure ArrB (w : World) (g n : Nat) (f : Nat → Bool) : Prop where
  lt : g < w.heap.size
  at_ : ∀ j, j < n → w.cell? ⟨g, j, none⟩ = some (.bool (f j))
  frz : ∀ j, j < n → w.frozen? ⟨g, j, none⟩ = false
theorem ArrB.on {w w' : World} {g n : Nat} {f : Nat → Bool} (h : ArrB w g n f) (hb : Below w.heap.size w w') : ArrB w' g n f :=
  ⟨Nat.lt_of_lt_of_le h.lt hb.size, fun j hj => (hb.cell (p := ⟨g, j, none⟩) h.lt).trans (h.at_ j hj), fun j hj => (hb.frozen (p := ⟨g, j, none⟩) h.lt).trans (h.frz j hj)⟩
theorem ArrB.by {S : Nat → Prop} {w w' : World} {g n : Nat} {f : Nat → Bool} (h : ArrB w g n f) (hb : Beside S w w') (hn : ¬ S g) : ArrB w' g n f :=
  ⟨Nat.lt_of_lt_of_le h.lt hb.size, fun j hj => (hb.cell (p := ⟨g, j, none⟩) h.lt hn).trans (h.at_ j hj), fun j hj => (hb.frozen (p := ⟨g, j, none⟩) h.lt hn).trans (h.frz j hj)⟩
theorem ArrB.keep {w w' : World} {g n : Nat} {f : Nat → Bool} (h : ArrB w g n f) (hs : w.heap.size ≤ w'.heap.size) (hb : w'.heap[g]? = w.heap[g]?) : ArrB w' g n f :=
  ⟨Nat.lt_of_lt_of_le h.lt hs, fun j hj => (World.cell?_of_block (w := w) (a := ⟨g, j, none⟩) hb).trans (h.at_ j hj), fun j hj => (World.frozen?_of_block (w := w) (a := ⟨g, j, none⟩) hb).trans (h.frz j hj)⟩
theorem ArrB.congr {w : World} {g n : Nat} {f f' : Nat → Bool} (h : ArrB w g n f) (e : ∀ j, j < n → f j = f' j) : ArrB w g n f' := ⟨h.lt, fun j hj => by rw [← e j hj]; exact h.at_ j hj, h.frz⟩
/-- One of them is told anew. -/
theorem ArrB.set {w : World} {g n : Nat} {f : Nat → Bool} (h : ArrB w g n f) (k : Nat) (hk : k < n) (z : Bool) : ArrB (w.setCell ⟨g, k, none⟩ (.bool z)) g n (fun j => if j = k then z else f j) := by
  refine ⟨by simpa [World.setCell] using h.lt, fun j hj => ?_, fun j hj => by rw [World.frozen?_setCell]; exact h.frz j hj⟩
  show _ = some (Value.bool (if j = k then z else f j))
  by_cases e : j = k
  · subst e; rw [if_pos rfl]; exact World.cell?_setCell_same' _ _ _ (by rw [h.at_ j hj]; rfl)
  · rw [if_neg e, World.cell?_setCell_other _ _ _ _ (by intro he; injection he with h5 h6; omega)]; exact h.at_ j hj
/-- It is made. -/
theorem ArrB.made (w : World) (n : Nat) (T : TypeId) : ArrB (w.alloc (.cells (boolsZ n) T)) w.heap.size n (fun _ => false) := by
  refine ⟨by simp, fun j hj => ?_, fun j hj => ?_⟩
  · have k := World.cell?_alloc_mark w (boolsZ n) T (0, 0) j
    rw [boolsZ_at hj] at k
    exact k
  · refine (World.frozen?_alloc_mark w (boolsZ n) T 0 0 j).trans ?_
    simp
/-- So many cells, all zero. -/
def intsZ (n : Nat) : Array Value := Array.replicate n (.int .i64 0)
theorem intsZ_size (n : Nat) : (intsZ n).size = n := by simp [intsZ]
theorem intsZ_at {n i : Nat} (h : i < n) : (intsZ n)[i]? = some (.int .i64 0) := by simp [intsZ, h]
/-- An array of integers: its cells by a function. -/
structure ArrI (w : World) (g n : Nat) (f : Nat → Int) : Prop where
  lt : g < w.heap.size
  at_ : ∀ j, j < n → w.cell? ⟨g, j, none⟩ = some (.int .i64 (f j))
  frz : ∀ j, j < n → w.frozen? ⟨g, j, none⟩ = false
theorem ArrI.on {w w' : World} {g n : Nat} {f : Nat → Int} (h : ArrI w g n f) (hb : Below w.heap.size w w') : ArrI w' g n f :=
  ⟨Nat.lt_of_lt_of_le h.lt hb.size, fun j hj => (hb.cell (p := ⟨g, j, none⟩) h.lt).trans (h.at_ j hj), fun j hj => (hb.frozen (p := ⟨g, j, none⟩) h.lt).trans (h.frz j hj)⟩
theorem ArrI.by {S : Nat → Prop} {w w' : World} {g n : Nat} {f : Nat → Int} (h : ArrI w g n f) (hb : Beside S w w') (hn : ¬ S g) : ArrI w' g n f :=
  ⟨Nat.lt_of_lt_of_le h.lt hb.size, fun j hj => (hb.cell (p := ⟨g, j, none⟩) h.lt hn).trans (h.at_ j hj), fun j hj => (hb.frozen (p := ⟨g, j, none⟩) h.lt hn).trans (h.frz j hj)⟩
theorem ArrI.keep {w w' : World} {g n : Nat} {f : Nat → Int} (h : ArrI w g n f) (hs : w.heap.size ≤ w'.heap.size) (hb : w'.heap[g]? = w.heap[g]?) : ArrI w' g n f :=
  ⟨Nat.lt_of_lt_of_le h.lt hs, fun j hj => (World.cell?_of_block (w := w) (a := ⟨g, j, none⟩) hb).trans (h.at_ j hj), fun j hj => (World.frozen?_of_block (w := w) (a := ⟨g, j, none⟩) hb).trans (h.frz j hj)⟩
theorem ArrI.congr {w : World} {g n : Nat} {f f' : Nat → Int} (h : ArrI w g n f) (e : ∀ j, j < n → f j = f' j) : ArrI w g n f' := ⟨h.lt, fun j hj => by rw [← e j hj]; exact h.at_ j hj, h.frz⟩
/-- One of them is told anew. -/
theorem ArrI.set {w : World} {g n : Nat} {f : Nat → Int} (h : ArrI w g n f) (k : Nat) (hk : k < n) (z : Int) : ArrI (w.setCell ⟨g, k, none⟩ (.int .i64 z)) g n (fun j => if j = k then z else f j) := by
  refine ⟨by simpa [World.setCell] using h.lt, fun j hj => ?_, fun j hj => by rw [World.frozen?_setCell]; exact h.frz j hj⟩
  show _ = some (Value.int .i64 (if j = k then z else f j))
  by_cases e : j = k
  · subst e; rw [if_pos rfl]; exact World.cell?_setCell_same' _ _ _ (by rw [h.at_ j hj]; rfl)
  · rw [if_neg e, World.cell?_setCell_other _ _ _ _ (by intro he; injection he with h5 h6; omega)]; exact h.at_ j hj
/-- It is made. -/
theorem ArrI.made (w : World) (n : Nat) (T : TypeId) : ArrI (w.alloc (.cells (intsZ n) T)) w.heap.size n (fun _ => 0) := by
  refine ⟨by simp, fun j hj => ?_, fun j hj => ?_⟩
  · have k := World.cell?_alloc_mark w (intsZ n) T (0, 0) j
    rw [intsZ_at hj] at k
    exact k
  · refine (World.frozen?_alloc_mark w (intsZ n) T 0 0 j).trans ?_
    simp
end Go.Proofs.Ytmephmjlajaopaa
