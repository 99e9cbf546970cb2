/- Contracts of the document's answers for layer 5. -/
import Derived.Test.YtkfbkdgfpipdkaaUdpP
import Derived.Test.YtkfbkdgfpipdkaaBox4
import Derived.Test.YtkfbkdgfpipdkaaLead
import Derived.Test.YtkfbkdgfpipdkaaSumsLaid
import Derived.Deep.RegionHeld3
namespace Go.Proofs.Ytkfbkdgfpipdkaa
set_option linter.unusedVariables false
set_option linter.unusedSimpArgs false
open Go.ChangeShapes Go.WideShapes Go.ChangeAt Go.RowKit Go.PlainAid
attribute [local go_sem ↓] Go.wp_at_zero Go.wp_at_succ
set_option maxHeartbeats 400000 in
theorem word5_ (s : ByteArray) (k : Nat) (w : World) (hs : s.size ≤ maxLen) (h : k + 2 ≤ s.size) :
    Calls Try.prog 20 #[.string s, .int .i64 (k : Int)] w fun e w' => e = .returned (.int .u16 (g16 s k)) ∧ w = w' := by
  go_enter Try.func20, Try.ntmps20
  go_wp2_with fail
  refine (rget16_yes s k _ hs h).mono ?_; rintro e w' ⟨rfl, rfl⟩
  go_wp2
  go_ret
  exact ⟨rfl, rfl⟩
set_option maxHeartbeats 2000000 in
set_option maxRecDepth 100000 in
theorem rparse5_ (s : ByteArray) (w : World) (hs : s.size ≤ 1000000) :
    Calls Try.prog 10 #[.string s] w fun e w' => e = .returned (.tuple #[.agg #[.int .u16 (uI s (g16 s 0)), .int .u16 (uI s (g16 s 2)), .int .u16 (uI s (g16 s 4)), .int .u16 (uI s (g16 s 6))], .string (uP s), .bool (uOk s)]) ∧ Below w.heap.size w w' := by
  have hs2 : s.size ≤ maxLen := by unfold maxLen; omega
  by_cases h8 : s.size < 8
  · have hk : uOk s = false := by unfold uOk; simp; omega
    obtain ⟨y1, y2⟩ := uOk_no hk
    rw [y1, y1, y1, y1, y2, hk]
    have e1 : decide ((s.size : Int) < 8) = true := by simp; omega
    clear h8 hk y1 y2
    go_enter Try.func10, Try.ntmps10
    go_wp2
    refine bodyPost_ret (v := .tuple #[.agg #[.int .u16 0, .int .u16 0, .int .u16 0, .int .u16 0], .string ⟨#[]⟩, .bool false]) (by simp [results, Try.results10, go_sem]) rfl ?_
    exact ⟨rfl, (Below.refl _ _).alloc (Nat.le_refl _) _⟩
  have e1 : decide ((s.size : Int) < 8) = false := by simp; omega
  have c4 := fun u => word5_ s 4 u hs2 (by omega)
  by_cases h4 : g16 s 4 = (s.size : Int)
  rotate_left
  · have hk : uOk s = false := by unfold uOk; simp [h4]
    obtain ⟨y1, y2⟩ := uOk_no hk
    rw [y1, y1, y1, y1, y2, hk]
    obtain ⟨z, hz⟩ : ∃ z : Int, z = g16 s 4 := ⟨_, rfl⟩
    have z0 := g16_nonneg s 4
    have z1 := g16_le s 4
    rw [← hz] at h4 c4 z0 z1
    have e2 : (z == (s.size : Int)) = false := by simpa using h4
    have e3 : (z != (s.size : Int)) = true := by simpa using h4
    clear h8 hk y1 y2 h4 hz
    go_enter Try.func10, Try.ntmps10
    go_wp2_with fail
    refine (c4 _).mono ?_; rintro e w1 ⟨rfl, rfl⟩
    go_wp2
    refine bodyPost_ret (v := .tuple #[.agg #[.int .u16 0, .int .u16 0, .int .u16 0, .int .u16 0], .string ⟨#[]⟩, .bool false]) (by simp [results, Try.results10, go_sem]) rfl ?_
    exact ⟨rfl, (Below.refl _ _).alloc (Nat.le_refl _) _⟩
  have hk : uOk s = true := by unfold uOk; simp [h4]; omega
  obtain ⟨_, _, y1, y2⟩ := uOk_yes hk
  rw [y1, y1, y1, y1, y2, hk]
  have c0 := fun u => word5_ s 0 u hs2 (by omega)
  have c2 := fun u => word5_ s 2 u hs2 (by omega)
  have c6 := fun u => word5_ s 6 u hs2 (by omega)
  have e2 : ((s.size : Int) == (s.size : Int)) = true := by simp
  have i8 : (8 : Int) ≤ (s.size : Int) := by omega
  have hb : (s.size : Int) ≤ 65535 := by rw [← h4]; exact g16_le s 4
  rw [h4] at c4 ⊢
  generalize g16 s 0 = v0 at *
  generalize g16 s 2 = v2 at *
  generalize g16 s 6 = v6 at *
  clear h8 hk y1 y2 h4
  go_enter Try.func10, Try.ntmps10
  go_wp2_with fail
  refine (c4 _).mono ?_; rintro e w1 ⟨rfl, rfl⟩
  go_wp2_with fail
  obtain ⟨w1, hw1⟩ : ∃ w1, w1 = w.alloc (.cells #[.int .u16 0, .int .u16 0, .int .u16 0, .int .u16 0] 28) := ⟨_, rfl⟩
  rw [← hw1]
  refine wp_region_noPanic (wp_region_any (by kernel_rfl) ?_)
  show wpAny _ _ _ _ _ _ _ (World.drew _)
  refine wpAny_take (i := 9) (v := ?_) rfl (by kernel_rfl) (by kernel_rfl) (by kernel_rfl) (fun _ _ _ h => h) (Or.inl ⟨by rfl, ?_⟩) ?_
  rotate_left
  · intro w
    go_simp
    with_reducible rfl
  simp only [List.getElem_toArray, List.getElem_cons_succ, List.getElem_cons_zero, Act.put, List.setIfInBounds_toArray, List.set_cons_zero, List.set_cons_succ]
  refine wpAny_take (i := 10) (v := ?_) rfl (by kernel_rfl) (by kernel_rfl) (by kernel_rfl) (fun _ _ _ h => h) (Or.inl ⟨by rfl, ?_⟩) ?_
  rotate_left
  · intro w
    go_simp
    with_reducible rfl
  simp only [List.getElem_toArray, List.getElem_cons_succ, List.getElem_cons_zero, Act.put, List.setIfInBounds_toArray, List.set_cons_zero, List.set_cons_succ]
  refine any_lead (B := w1.heap.size) 9 3 #[true, true, false, false, false] rfl (by kernel_rfl) (by kernel_rfl) (by kernel_rfl) (by kernel_rfl) ?_
  simp only [List.take_succ_cons, List.take_zero]
  repeat (go_big_quiet_step (first
    | (go_at_call_of 20 (0 : Int); exact later_same _ (c0 _))
    | (go_at_call_of 20 (2 : Int); exact later_same _ (c2 _))
    | (go_at_call_of 20 (4 : Int); exact later_same _ (c4 _))
    | (go_at_call_of 20 (6 : Int); exact later_same _ (c6 _))))
  refine lead_tail (fin := #[true, true, true, true, true, true, true, true, true, true, true, false, false, false]) (by kernel_rfl) fun f w3 b3 => ?_
  subst hw1
  obtain ⟨hc, hf⟩ := bcell4_ b3
  have hz : w.heap.size < w3.heap.size := by have := b3.size; simp at this; omega
  have B3 : Below w.heap.size w w3 := ((Below.refl _ _).alloc (Nat.le_refl _) _).trans (b3.mono (by simp))
  have hz2 := B3.size
  refine wpAny_ready (rs := [11]) (by kernel_rfl) (by simp) (AllReady.cons rfl (fun K hK => ?_) AllReady.nil)
  go_simp
  refine hK _ _ ?_
  clear hK K
  refine box4_ (b := w.heap.size) (box4_is rfl hc) B3 (Nat.le_refl _) fun w9 x0 x1 x2 x3 B9 _ _ => ?_
  clear hc hf b3 B3
  refine wpAny_ready (rs := [12]) (by kernel_rfl) (by simp) (AllReady.cons rfl (fun K hK => ?_) AllReady.nil)
  go_simp
  refine hK _ _ ?_
  clear hK K
  refine wpAny_ready (rs := [13]) (by kernel_rfl) (by simp) (AllReady.cons rfl (fun K hK => ?_) AllReady.nil)
  go_simp
  refine hK _ _ ?_
  clear hK K
  refine wpAny_done (by kernel_rfl) (NoPanic.normal ?_) _
  go_wp2
  refine bodyPost_ret (v := .tuple #[.agg #[.int .u16 v0, .int .u16 v2, .int .u16 (s.size : Int), .int .u16 v6], .string (s.extract 8 s.size), .bool true]) (by simp [results, Try.results10, go_sem, x0, x1, x2, x3]) rfl ?_
  exact ⟨rfl, B9⟩
end Go.Proofs.Ytkfbkdgfpipdkaa
