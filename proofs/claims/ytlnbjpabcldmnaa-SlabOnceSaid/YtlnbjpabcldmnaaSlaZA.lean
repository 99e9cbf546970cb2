/- The code's slab in memory (layer 13): one block; none, Size, used, State. -/
import Derived.Test.YtlnbjpabcldmnaaSlaM
import Derived.Test.YtlnbjpabcldmnaaRegion
import Derived.BigRegion
import Derived.Deep.DeepCutAuto
namespace Go.Proofs.Ytlnbjpabcldmnaa
set_option linter.unusedVariables false
set_option linter.unusedSimpArgs false
open Go.ChangeShapes Go.WideShapes Go.ChangeAt Go.RowKit Go.PlainAid
attribute [local go_sem ↓] Go.wp_at_zero Go.wp_at_succ
/-- The code's slab: a block: how many slots there are; then each slot's two numbers. -/
structure SlC (w : World) (p : Nat) (t : Sl) : Prop where
  bl : p < w.heap.size
  pos : 1 ≤ t.length
  head : w.cell? ⟨p, 0, none⟩ = some (.int .i64 (t.length : Int))
  cs : ∀ i, i < t.length → w.cell? ⟨p, 1 + i * 2, none⟩ = some (.int .i64 ((slS t i : Nat) : Int)) ∧ w.cell? ⟨p, 1 + i * 2 + 1, none⟩ = some (.int .u32 ((slG t i : Nat) : Int))
  fz : ∀ i, i < t.length → w.frozen? ⟨p, 1 + i * 2, none⟩ = false ∧ w.frozen? ⟨p, 1 + i * 2 + 1, none⟩ = false
  ok : t.Ok
theorem SlC.keep {w w' : World} {p : Nat} {t : Sl} (h : SlC w p t) (hs : w.heap.size ≤ w'.heap.size) (hb : w'.heap[p]? = w.heap[p]?) : SlC w' p t :=
  ⟨Nat.lt_of_lt_of_le h.bl hs, h.pos, (World.cell?_of_block (w := w) (a := ⟨p, 0, none⟩) hb).trans h.head,
    fun i hi => ⟨(World.cell?_of_block (w := w) (a := ⟨p, 1 + i * 2, none⟩) hb).trans (h.cs i hi).1, (World.cell?_of_block (w := w) (a := ⟨p, 1 + i * 2 + 1, none⟩) hb).trans (h.cs i hi).2⟩,
    fun i hi => ⟨(World.frozen?_of_block (w := w) (a := ⟨p, 1 + i * 2, none⟩) hb).trans (h.fz i hi).1, (World.frozen?_of_block (w := w) (a := ⟨p, 1 + i * 2 + 1, none⟩) hb).trans (h.fz i hi).2⟩, h.ok⟩
theorem SlC.on {w w' : World} {p : Nat} {t : Sl} (h : SlC w p t) (hb : Below w.heap.size w w') : SlC w' p t := h.keep hb.size (hb.block p h.bl)
theorem SlC.setS {w : World} {p : Nat} {t : Sl} (h : SlC w p t) (i s : Nat) (hi : i < t.length) (hs : s ≤ 2) : SlC (w.setCell ⟨p, 1 + i * 2, none⟩ (.int .i64 (s : Int))) p (slPut t i s (slG t i)) := by
  refine ⟨by simpa [World.setCell] using h.bl, by rw [slPut_len]; exact h.pos, ?_, fun j hj => ?_, fun j hj => ?_, slPut_ok h.ok hi hs (h.ok.2 i).2⟩
  · rw [slPut_len, World.cell?_setCell_other _ _ _ _ (by intro he; injection he with h5 h6; omega)]; exact h.head
  · rw [slPut_len] at hj
    rw [slPut_S _ _ _ _ _ hi, slPut_G _ _ _ _ _ hi]
    obtain ⟨h1, h2⟩ := h.cs j hj
    obtain ⟨h3, h4⟩ := h.cs i hi
    constructor
    · by_cases e : j = i
      · subst e; rw [if_pos rfl]; exact World.cell?_setCell_same' _ _ _ (by rw [h3]; rfl)
      · rw [if_neg e, World.cell?_setCell_other _ _ _ _ (by intro he; injection he with h5 h6; omega)]; exact h1
    · rw [World.cell?_setCell_other _ _ _ _ (by intro he; injection he with h5 h6; omega)]
      split
      · rename_i e; subst e; exact h2
      · exact h2
  · rw [slPut_len] at hj
    rw [World.frozen?_setCell, World.frozen?_setCell]
    exact h.fz j hj
theorem SlC.setG {w : World} {p : Nat} {t : Sl} (h : SlC w p t) (i g : Nat) (hi : i < t.length) (hg : g < 4294967296) : SlC (w.setCell ⟨p, 1 + i * 2 + 1, none⟩ (.int .u32 (g : Int))) p (slPut t i (slS t i) g) := by
  refine ⟨by simpa [World.setCell] using h.bl, by rw [slPut_len]; exact h.pos, ?_, fun j hj => ?_, fun j hj => ?_, slPut_ok h.ok hi (h.ok.2 i).1 hg⟩
  · rw [slPut_len, World.cell?_setCell_other _ _ _ _ (by intro he; injection he with h5 h6; omega)]; exact h.head
  · rw [slPut_len] at hj
    rw [slPut_S _ _ _ _ _ hi, slPut_G _ _ _ _ _ hi]
    obtain ⟨h1, h2⟩ := h.cs j hj
    obtain ⟨h3, h4⟩ := h.cs i hi
    constructor
    · rw [World.cell?_setCell_other _ _ _ _ (by intro he; injection he with h5 h6; omega)]
      split
      · rename_i e; subst e; exact h1
      · exact h1
    · by_cases e : j = i
      · subst e; rw [if_pos rfl]; exact World.cell?_setCell_same' _ _ _ (by rw [h4]; rfl)
      · rw [if_neg e, World.cell?_setCell_other _ _ _ _ (by intro he; injection he with h5 h6; omega)]; exact h2
  · rw [slPut_len] at hj
    rw [World.frozen?_setCell, World.frozen?_setCell]
    exact h.fz j hj
/-- A pointer that is nil, or at a slab of no slots. -/
def NoC (w : World) (v : Value) : Prop := v = .pointer none ∨ ∃ p, v = .pointer (some ⟨p, 0, none⟩) ∧ p < w.heap.size ∧ w.cell? ⟨p, 0, none⟩ = some (.int .i64 0)
theorem NoC.on {w w' : World} {v : Value} (h : NoC w v) (hb : Below w.heap.size w w') : NoC w' v := by
  rcases h with h | ⟨p, h1, h2, h3⟩
  · exact .inl h
  · exact .inr ⟨p, h1, Nat.lt_of_lt_of_le h2 hb.size, (hb.cell (p := ⟨p, 0, none⟩) h2).trans h3⟩
set_option maxHeartbeats 1000000 in
set_option maxRecDepth 100000 in
theorem none13_ (p : Nat) (t : Sl) (w : World) (H : SlC w p t) :
    Calls Try.prog 26 #[.pointer (some ⟨p, 0, none⟩)] w fun e w' => e = .returned (.bool false) ∧ w = w' := by
  have hd := H.head
  have h1 : ((t.length : Int) == 0) = false := beq_false_of_ne (by have := H.pos; omega)
  clear H
  go_enter Try.func26, Try.ntmps26
  go_wp2
  go_ret
  exact ⟨rfl, rfl⟩
set_option maxHeartbeats 1000000 in
set_option maxRecDepth 100000 in
theorem noneN13_ (v : Value) (w : World) (H : NoC w v) :
    Calls Try.prog 26 #[v] w fun e w' => e = .returned (.bool true) ∧ w = w' := by
  rcases H with rfl | ⟨p, rfl, h2, hd⟩
  · go_enter Try.func26, Try.ntmps26
    go_wp2
    go_ret
    exact ⟨rfl, rfl⟩
  · go_enter Try.func26, Try.ntmps26
    go_wp2
    go_ret
    exact ⟨rfl, rfl⟩
set_option maxHeartbeats 1000000 in
set_option maxRecDepth 100000 in
theorem size13_ (p : Nat) (t : Sl) (w : World) (H : SlC w p t) :
    Calls Try.prog 24 #[.pointer (some ⟨p, 0, none⟩)] w fun e w' => e = .returned (.int .i64 (t.length : Int)) ∧ w = w' := by
  have hd := H.head
  have c1 := none13_ p t w H
  clear H
  go_enter Try.func24, Try.ntmps24
  go_wp2_with fail
  refine c1.mono ?_; rintro e w1 ⟨rfl, rfl⟩
  go_wp2
  go_ret
  exact ⟨rfl, rfl⟩
set_option maxHeartbeats 1000000 in
set_option maxRecDepth 100000 in
theorem sizeN13_ (v : Value) (w : World) (H : NoC w v) :
    Calls Try.prog 24 #[v] w fun e w' => e = .returned (.int .i64 0) ∧ w = w' := by
  have c1 := noneN13_ v w H
  clear H
  go_enter Try.func24, Try.ntmps24
  go_wp2_with fail
  refine c1.mono ?_; rintro e w1 ⟨rfl, rfl⟩
  go_wp2
  go_ret
  exact ⟨rfl, rfl⟩
set_option maxHeartbeats 1000000 in
set_option maxRecDepth 100000 in
theorem used13_ (p : Nat) (t : Sl) (w : World) (H : SlC w p t) :
    Calls Try.prog 25 #[.pointer (some ⟨p, 0, none⟩)] w fun e w' => e = .returned (.slice (some ⟨p, 1, none⟩) t.length 256) ∧ w.drew = w' := by
  have hd := H.head
  have c1 := none13_ p t w H
  have l1 : (0 : Int) ≤ (t.length : Int) := by omega
  have l2 : (t.length : Int) ≤ 256 := by have := H.ok.1; omega
  have l3 : t.length ≤ 256 := H.ok.1
  clear H
  go_enter Try.func25, Try.ntmps25
  go_wp2_with fail
  refine c1.mono ?_; rintro e w1 ⟨rfl, rfl⟩
  go_wp2
  go_region
  go_wp2
  go_ret
  exact ⟨rfl, rfl⟩
set_option maxHeartbeats 1000000 in
set_option maxRecDepth 100000 in
theorem usedN13_ (v : Value) (w : World) (H : NoC w v) :
    Calls Try.prog 25 #[v] w fun e w' => e = .returned (.slice none 0 0) ∧ w = w' := by
  have c1 := noneN13_ v w H
  clear H
  go_enter Try.func25, Try.ntmps25
  go_wp2_with fail
  refine c1.mono ?_; rintro e w1 ⟨rfl, rfl⟩
  go_wp2
  go_ret
  exact ⟨rfl, rfl⟩
end Go.Proofs.Ytlnbjpabcldmnaa
