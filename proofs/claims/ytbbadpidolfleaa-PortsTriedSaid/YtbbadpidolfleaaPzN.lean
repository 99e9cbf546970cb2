/- The code's ports (layer 16): New, and a map's copy. -/
import Derived.Test.YtbbadpidolfleaaVb
import Derived.Carry
import Derived.RangeFuncRecord
import Derived.Laws.Externs
import Derived.Shelf.SlMaps.Clone
namespace Go.Proofs.Ytbbadpidolfleaa
set_option linter.unusedVariables false
set_option maxRecDepth 100000
set_option linter.unusedSimpArgs false
open Go.ChangeShapes Go.WideShapes Go.ChangeAt Go.RowKit Go.PlainAid
attribute [local go_sem ↓] Go.wp_at_zero Go.wp_at_succ
theorem three_made (w : World) (o1 o2 : Obj) (u v : Value) (t : TypeId) : (((w.alloc o1).alloc o2).alloc (.cells #[u, v] t)).heap[w.heap.size]? = some o1 ∧ (((w.alloc o1).alloc o2).alloc (.cells #[u, v] t)).heap[w.heap.size + 1]? = some o2 ∧ Below w.heap.size w (((w.alloc o1).alloc o2).alloc (.cells #[u, v] t)) ∧ w.heap.size + 1 + 1 < (((w.alloc o1).alloc o2).alloc (.cells #[u, v] t)).heap.size ∧ (((w.alloc o1).alloc o2).alloc (.cells #[u, v] t)).cell? ⟨w.heap.size + 1 + 1, 0, none⟩ = some u ∧ (((w.alloc o1).alloc o2).alloc (.cells #[u, v] t)).cell? ⟨w.heap.size + 1 + 1, 1, none⟩ = some v := by
  have e1 : (w.alloc o1).heap.size = w.heap.size + 1 := by simp
  have e2 : ((w.alloc o1).alloc o2).heap.size = w.heap.size + 1 + 1 := by simp
  have c := fun j => World.cell?_alloc_mark ((w.alloc o1).alloc o2) #[u, v] t (0, 0) j
  rw [e2] at c
  refine ⟨?_, ?_, (((Below.refl _ w).alloc (Nat.le_refl _) _).alloc (by simp) _).alloc (by simp; omega) _, by simp, c 0, c 1⟩
  · rw [Below.heap_alloc _ _ _ (by omega), Below.heap_alloc _ _ _ (by omega)]
    exact World.alloc_heap_new w o1
  · rw [Below.heap_alloc _ _ _ (by omega), ← e1]
    exact World.alloc_heap_new _ o2
theorem PzI.copied {w w' : World} {p rb ob q a b : Nat} {x : Po} (H : PzI w p rb ob x) (hq : q < w'.heap.size) (c0 : w'.cell? ⟨q, 0, none⟩ = some (.map (some a))) (c1 : w'.cell? ⟨q, 1, none⟩ = some (.map (some b))) (ha : w'.heap[a]? = w.heap[rb]?) (hb : w'.heap[b]? = w.heap[ob]?) (ne : a ≠ b) : PzI w' q a b x := ⟨H.ok, hq, c0, c1, H.mr.copy ha, H.mo.copy hb, ne⟩
set_option maxHeartbeats 1000000 in
theorem pz_cloneR_ {w : World} {b : Nat} {es : Array MapEntry} {clock : Nat} (hb : w.heap[b]? = some (.map es clock)) : Calls Try.prog 30 #[.map (some b)] w fun e w' => e = .returned (.map (some w.heap.size)) ∧ w' = w.alloc (.map es clock) := by
  have hq := fun u => run_eql_map_none (P := Try.prog) _ _ _ (some b) Try.underlying60 u
  go_enter Try.func30, Try.ntmps30
  go_wp2
  rw [run_callFunc_extern Try.func46 (by kernel_rfl) (by kernel_rfl) (by kernel_rfl) (e := Extern.MapsClone.clone) (by kernel_rfl), run_maps_clone_sl w 60 hb]
  simp only [Result.andThen]
  rw [Oper.upon_value]
  go_wp2
  rw [run_typeAssert_map_sl _ 60 _ _ _ _ Try.underlying60]
  simp only [Result.andThen]
  rw [Oper.upon_value]
  go_wp2
  go_ret
  exact ⟨rfl, rfl⟩
set_option maxHeartbeats 1000000 in
theorem pz_cloneO_ {w : World} {b : Nat} {es : Array MapEntry} {clock : Nat} (hb : w.heap[b]? = some (.map es clock)) : Calls Try.prog 31 #[.map (some b)] w fun e w' => e = .returned (.map (some w.heap.size)) ∧ w' = w.alloc (.map es clock) := by
  have hq := fun u => run_eql_map_none (P := Try.prog) _ _ _ (some b) Try.underlying61 u
  go_enter Try.func31, Try.ntmps31
  go_wp2
  rw [run_callFunc_extern Try.func46 (by kernel_rfl) (by kernel_rfl) (by kernel_rfl) (e := Extern.MapsClone.clone) (by kernel_rfl), run_maps_clone_sl w 61 hb]
  simp only [Result.andThen]
  rw [Oper.upon_value]
  go_wp2
  rw [run_typeAssert_map_sl _ 61 _ _ _ _ Try.underlying61]
  simp only [Result.andThen]
  rw [Oper.upon_value]
  go_wp2
  go_ret
  exact ⟨rfl, rfl⟩
set_option maxHeartbeats 2000000 in
/-- (*Ports).Copy. -/
theorem pz_copy_ {w : World} {p rb ob : Nat} {x : Po} (h : PzI w p rb ob x) : Calls Try.prog 10 #[.pointer (some ⟨p, 0, none⟩)] w fun e w' => ∃ q a b, e = .returned (.pointer (some ⟨q, 0, none⟩)) ∧ Below w.heap.size w w' ∧ w.heap.size ≤ q ∧ w.heap.size ≤ a ∧ w.heap.size ≤ b ∧ PzI w' q a b x := by
  have kn := pz_none_ h
  obtain ⟨es1, t1, hb1⟩ := h.mr.block
  obtain ⟨es2, t2, hb2⟩ := h.mo.block
  have c0 := h.c0
  have c1 := h.c1
  have l1 := h.mr.lt
  have l2 := h.mo.lt
  have k1 : Calls Try.prog 30 #[.map (some rb)] w.drew fun e w' => e = .returned (.map (some w.heap.size)) ∧ w' = w.drew.alloc (.map es1 t1) := pz_cloneR_ (w := w.drew) hb1
  have k2 : Calls Try.prog 31 #[.map (some ob)] w.drew fun e w' => e = .returned (.map (some w.heap.size)) ∧ w' = w.drew.alloc (.map es2 t2) := pz_cloneO_ (w := w.drew) hb2
  have k1' := pz_cloneR_ (w := w.drew.alloc (.map es2 t2)) ((Below.heap_alloc w.drew _ rb l1).trans hb1)
  have k2' := pz_cloneO_ (w := w.drew.alloc (.map es1 t1)) ((Below.heap_alloc w.drew _ ob l2).trans hb2)
  have H := Lib.hid h
  have HB := Lib.hid (And.intro hb1 (And.intro hb2 (And.intro l1 l2)))
  have lp := h.lp
  have LP := Lib.hid lp
  have d0 : ∀ o, (w.alloc o).cell? ⟨p, 0, none⟩ = some (.map (some rb)) := fun o => (World.cell?_of_block (w := w) (a := ⟨p, 0, none⟩) (Below.heap_alloc w o p lp)).trans c0
  have d1 : ∀ o, (w.alloc o).cell? ⟨p, 1, none⟩ = some (.map (some ob)) := fun o => (World.cell?_of_block (w := w) (a := ⟨p, 1, none⟩) (Below.heap_alloc w o p lp)).trans c1
  clear h hb1 hb2 l1 l2 lp
  go_enter Try.func10, Try.ntmps10
  go_upto_region 3 with (go_at_call 29; refine kn.mono ?_; rintro e w2 ⟨rfl, hw⟩; obtain rfl : w = w2 := hw.symm)
  go_region_with (first
    | (go_at_call 30; refine k1.mono ?_; rintro e w2 ⟨rfl, rfl⟩)
    | (go_at_call 30; refine k1'.mono ?_; rintro e w2 ⟨rfl, rfl⟩)
    | (go_at_call 31; refine k2.mono ?_; rintro e w2 ⟨rfl, rfl⟩)
    | (go_at_call 31; refine k2'.mono ?_; rintro e w2 ⟨rfl, rfl⟩))
  all_goals
    go_wp2
    go_ret
    first
      | (obtain ⟨a1, a2, a3, a4, a5, a6⟩ := three_made w (.map es1 t1) (.map es2 t2) (.map (some w.heap.size)) (.map (some (w.heap.size + 1))) 63
         exact ⟨_, _, _, rfl, a3.drew, Nat.le_add_right _ 2, Nat.le_refl _, Nat.le_add_right _ 1, H.out.copied a4 a5 a6 (a1.trans HB.out.1.symm) (a2.trans HB.out.2.1.symm) (Nat.ne_of_lt (Nat.lt_succ_self _))⟩)
      | (obtain ⟨a1, a2, a3, a4, a5, a6⟩ := three_made w (.map es2 t2) (.map es1 t1) (.map (some (w.heap.size + 1))) (.map (some w.heap.size)) 63
         exact ⟨_, _, _, rfl, a3.drew, Nat.le_add_right _ 2, Nat.le_add_right _ 1, Nat.le_refl _, H.out.copied a4 a5 a6 (a2.trans HB.out.1.symm) (a1.trans HB.out.2.1.symm) (Nat.ne_of_gt (Nat.lt_succ_self _))⟩)
set_option maxHeartbeats 1000000 in
/-- New. -/
theorem pz_new_ (w : World) : Calls Try.prog 9 #[] w fun e w' => ∃ q a b, e = .returned (.pointer (some ⟨q, 0, none⟩)) ∧ Below w.heap.size w w' ∧ w.heap.size ≤ q ∧ w.heap.size ≤ a ∧ w.heap.size ≤ b ∧ PzI w' q a b Po.new := by
  have hmm := @run_makeMap Try.prog
  go_enter Try.func9, Try.ntmps9
  go_wp2
  go_ret
  obtain ⟨a1, a2, a3, a4, a5, a6⟩ := three_made w (.map #[] 0) (.map #[] 0) (.map (some w.heap.size)) (.map (some (w.heap.size + 1))) 63
  refine ⟨_, _, _, rfl, a3, Nat.le_add_right _ 2, Nat.le_refl _, Nat.le_add_right _ 1, ⟨Po.Ok.new, a4, a5, a6, ?_, ?_, Nat.ne_of_lt (Nat.lt_succ_self _)⟩⟩
  · exact (KeyK.Map.made enK w).copy (a1.trans (World.alloc_heap_new w _).symm)
  · exact (KeyK.Map.made enK w).copy (a2.trans (World.alloc_heap_new w _).symm)
end Go.Proofs.Ytbbadpidolfleaa
