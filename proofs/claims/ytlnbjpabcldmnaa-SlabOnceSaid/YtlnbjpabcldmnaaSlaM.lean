/- The document's slab in memory (layer 13). -/
import Derived.Test.YtlnbjpabcldmnaaSlaP
import Derived.Test.YtlnbjpabcldmnaaBeside
namespace Go.Proofs.Ytlnbjpabcldmnaa
set_option linter.unusedVariables false
set_option linter.unusedSimpArgs false
open Go.ChangeShapes Go.WideShapes Go.ChangeAt Go.RowKit Go.PlainAid
/-- Pairs in a block, from its beginning on: a number, a number of 32 bits each. -/
structure PairsAt (w : World) (b : Nat) (t : Sl) : Prop where
  bl : b < w.heap.size
  cs : ∀ i, i < t.length → w.cell? ⟨b, i * 2, none⟩ = some (.int .i64 ((slS t i : Nat) : Int)) ∧ w.cell? ⟨b, i * 2 + 1, none⟩ = some (.int .u32 ((slG t i : Nat) : Int))
  fz : ∀ i, i < t.length → w.frozen? ⟨b, i * 2, none⟩ = false ∧ w.frozen? ⟨b, i * 2 + 1, none⟩ = false
theorem PairsAt.keep {w w' : World} {b : Nat} {t : Sl} (h : PairsAt w b t) (hs : w.heap.size ≤ w'.heap.size) (hb : w'.heap[b]? = w.heap[b]?) : PairsAt w' b t :=
  ⟨Nat.lt_of_lt_of_le h.bl hs,
    fun i hi => ⟨(World.cell?_of_block (w := w) (a := ⟨b, i * 2, none⟩) hb).trans (h.cs i hi).1, (World.cell?_of_block (w := w) (a := ⟨b, i * 2 + 1, none⟩) hb).trans (h.cs i hi).2⟩,
    fun i hi => ⟨(World.frozen?_of_block (w := w) (a := ⟨b, i * 2, none⟩) hb).trans (h.fz i hi).1, (World.frozen?_of_block (w := w) (a := ⟨b, i * 2 + 1, none⟩) hb).trans (h.fz i hi).2⟩⟩
theorem PairsAt.on {w w' : World} {b : Nat} {t : Sl} (h : PairsAt w b t) (hb : Below w.heap.size w w') : PairsAt w' b t := h.keep hb.size (hb.block b h.bl)
theorem PairsAt.beside {S : Nat → Prop} {w w' : World} {b : Nat} {t : Sl} (h : PairsAt w b t) (hb : Beside S w w') (hn : ¬ S b) : PairsAt w' b t := h.keep hb.size (hb.block b h.bl hn)
theorem PairsAt.setS {w : World} {b : Nat} {t : Sl} (h : PairsAt w b t) (i s : Nat) (hi : i < t.length) : PairsAt (w.setCell ⟨b, i * 2, none⟩ (.int .i64 (s : Int))) b (slPut t i s (slG t i)) := by
  refine ⟨by simpa [World.setCell] using h.bl, fun j hj => ?_, fun j hj => ?_⟩
  · rw [slPut_len] at hj
    rw [slPut_S _ _ _ _ _ hi, slPut_G _ _ _ _ _ hi]
    obtain ⟨h1, h2⟩ := h.cs j hj
    obtain ⟨h3, h4⟩ := h.cs i hi
    constructor
    · by_cases e : j = i
      · subst e; rw [if_pos rfl]; exact World.cell?_setCell_same' _ _ _ (by rw [h3]; rfl)
      · rw [if_neg e, World.cell?_setCell_other _ _ _ _ (by intro he; injection he with h5 h6; omega)]; exact h1
    · rw [World.cell?_setCell_other _ _ _ _ (by intro he; injection he with h5 h6; omega)]
      split
      · rename_i e; subst e; exact h2
      · exact h2
  · rw [slPut_len] at hj
    rw [World.frozen?_setCell, World.frozen?_setCell]
    exact h.fz j hj
theorem PairsAt.setG {w : World} {b : Nat} {t : Sl} (h : PairsAt w b t) (i g : Nat) (hi : i < t.length) : PairsAt (w.setCell ⟨b, i * 2 + 1, none⟩ (.int .u32 (g : Int))) b (slPut t i (slS t i) g) := by
  refine ⟨by simpa [World.setCell] using h.bl, fun j hj => ?_, fun j hj => ?_⟩
  · rw [slPut_len] at hj
    rw [slPut_S _ _ _ _ _ hi, slPut_G _ _ _ _ _ hi]
    obtain ⟨h1, h2⟩ := h.cs j hj
    obtain ⟨h3, h4⟩ := h.cs i hi
    constructor
    · rw [World.cell?_setCell_other _ _ _ _ (by intro he; injection he with h5 h6; omega)]
      split
      · rename_i e; subst e; exact h1
      · exact h1
    · by_cases e : j = i
      · subst e; rw [if_pos rfl]; exact World.cell?_setCell_same' _ _ _ (by rw [h4]; rfl)
      · rw [if_neg e, World.cell?_setCell_other _ _ _ _ (by intro he; injection he with h5 h6; omega)]; exact h2
  · rw [slPut_len] at hj
    rw [World.frozen?_setCell, World.frozen?_setCell]
    exact h.fz j hj
theorem slPut_put (t : Sl) (i s g s' g' : Nat) : slPut (slPut t i s g) i s' g' = slPut t i s' g' := by unfold slPut; rw [List.set_set]
theorem slPut_at (t : Sl) (i s g : Nat) (h : i < t.length) : slS (slPut t i s g) i = s ∧ slG (slPut t i s g) i = g := by
  rw [slPut_S _ _ _ _ _ h, slPut_G _ _ _ _ _ h, if_pos rfl, if_pos rfl]; exact ⟨rfl, rfl⟩
/-- Both numbers of a pair written. -/
theorem PairsAt.set {w : World} {b : Nat} {t : Sl} (h : PairsAt w b t) (i s g : Nat) (hi : i < t.length) : PairsAt ((w.setCell ⟨b, i * 2, none⟩ (.int .i64 (s : Int))).setCell ⟨b, i * 2 + 1, none⟩ (.int .u32 (g : Int))) b (slPut t i s g) := by
  have k := (h.setS i s hi).setG i g (by rw [slPut_len]; exact hi)
  rw [(slPut_at t i s (slG t i) hi).1, slPut_put] at k
  exact k
/-- The document's slab: a block of one cell, and the slots' block. -/
structure SlD (w : World) (p b c : Nat) (t : Sl) : Prop where
  pl : p < w.heap.size
  ne : p ≠ b
  head : w.cell? ⟨p, 0, none⟩ = some (.slice (some ⟨b, 0, none⟩) t.length c)
  row : PairsAt w b t
  ok : t.Ok
theorem SlD.on {w w' : World} {p b c : Nat} {t : Sl} (h : SlD w p b c t) (hb : Below w.heap.size w w') : SlD w' p b c t :=
  ⟨Nat.lt_of_lt_of_le h.pl hb.size, h.ne, (hb.cell (p := ⟨p, 0, none⟩) h.pl).trans h.head, h.row.on hb, h.ok⟩
theorem SlD.beside {S : Nat → Prop} {w w' : World} {p b c : Nat} {t : Sl} (h : SlD w p b c t) (hb : Beside S w w') (hp : ¬ S p) (hn : ¬ S b) : SlD w' p b c t :=
  ⟨Nat.lt_of_lt_of_le h.pl hb.size, h.ne, (hb.cell (p := ⟨p, 0, none⟩) h.pl hp).trans h.head, h.row.beside hb hn, h.ok⟩
theorem SlD.put {w w' : World} {p b c i s g : Nat} {t : Sl} (h : SlD w p b c t) (hi : i < t.length) (hs : s ≤ 2) (hg : g < 4294967296) (hb : Beside (fun k => k = b) w w') (hr : PairsAt w' b (slPut t i s g)) : SlD w' p b c (slPut t i s g) :=
  ⟨Nat.lt_of_lt_of_le h.pl hb.size, h.ne, by rw [slPut_len]; exact (hb.cell (p := ⟨p, 0, none⟩) h.pl h.ne).trans h.head, hr, slPut_ok h.ok hi hs hg⟩
end Go.Proofs.Ytlnbjpabcldmnaa
