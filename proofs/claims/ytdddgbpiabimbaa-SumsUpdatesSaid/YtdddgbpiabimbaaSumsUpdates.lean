/- The walk of SumsUpdates. -/
import Derived.Test.YtdddgbpiabimbaaSumsC
import Derived.Test.YtdddgbpiabimbaaSumsLaid
import Derived.Test.YtdddgbpiabimbaaRegion
namespace Go.Proofs.Ytdddgbpiabimbaa.SumsUpdates
open Go.ChangeShapes Go.WideShapes Go.ChangeAt Go.RowKit Go.PlainAid
set_option maxRecDepth 100000 in
set_option maxHeartbeats 1000000 in
theorem walk (x y z : Int) (f t : ByteArray) (w : World) (hx : (Lit.int .u16 x).wf = true) (hy : (Lit.int .u16 y).wf = true) (hz : (Lit.int .u16 z).wf = true) (hf : f.size ≤ maxLen) (ht : t.size ≤ maxLen) :
    Calls Try.prog 8 #[.agg #[.int .u16 x, .int .u16 y, .int .u16 z], .string f, .string t] w fun e w' => e = .returned (.bool true) ∧ Below w.heap.size w w' := by
  obtain ⟨x0, x1⟩ := bounds_u16 hx
  obtain ⟨y0, y1⟩ := bounds_u16 hy
  obtain ⟨z0, z1⟩ := bounds_u16 hz
  clear hx hy hz
  have hbox : ∀ o : Obj, Below w.heap.size w (w.alloc o) := fun o => (Below.refl _ _).alloc (Nat.le_refl _) _
  by_cases hg : greatV [f, t] = true
  · clear hbox
    go_enter Try.func8, Try.ntmps8
    go_wp2_with fail
    refine (great_ _ _ _ [f, t] _ (rowS2 (by simp) (by simp) (by simp) hf ht)).mono ?_; rintro e w1 ⟨rfl, rfl⟩
    go_wp2_with fail
    refine (summed_ _).mono ?_; rintro e w2 ⟨rfl, b2⟩
    have B2 : Below w.heap.size w w2 := (((Below.refl _ _).alloc (Nat.le_refl _) _).alloc (by simp) _).trans (b2.mono (by simp; omega))
    clear b2
    go_wp2
    go_ret
    exact ⟨rfl, B2⟩
  · have hg : greatV [f, t] = false := by simpa using hg
    have hf' : f.size < maxLen := Nat.lt_of_le_of_lt ((greatV_no hg).2 f (by simp)) (by unfold maxLen; omega)
    have ht' : t.size < maxLen := Nat.lt_of_le_of_lt ((greatV_no hg).2 t (by simp)) (by unfold maxLen; omega)
    clear hbox
    go_enter Try.func8, Try.ntmps8
    go_wp2_with fail
    refine (great_ _ _ _ [f, t] _ (rowS2 (by simp) (by simp) (by simp) hf ht)).mono ?_; rintro e w1 ⟨rfl, hw1⟩
    have B1 : Below w.heap.size w w1 := by rw [← hw1]; exact ((Below.refl _ _).alloc (Nat.le_refl _) _).alloc (by simp) _
    have s1 : w.heap.size < w1.heap.size := by rw [← hw1]; simp; omega
    have c0 : w1.cell? ⟨w.heap.size, 0, none⟩ = some (.int .u16 x) := by rw [← hw1]; simp
    have c1 : w1.cell? ⟨w.heap.size, 1, none⟩ = some (.int .u16 y) := by rw [← hw1]; simp
    have c2 : w1.cell? ⟨w.heap.size, 2, none⟩ = some (.int .u16 z) := by rw [← hw1]; simp
    clear hw1
    go_wp2_with fail
    have d0 : ∀ q : Later w1.heap.size w1, q.u.cell? ⟨w.heap.size, 0, none⟩ = some (.int .u16 x) := fun q => q.block s1 c0
    have d1 : ∀ q : Later w1.heap.size w1, q.u.cell? ⟨w.heap.size, 1, none⟩ = some (.int .u16 y) := fun q => q.block s1 c1
    have d2 : ∀ q : Later w1.heap.size w1, q.u.cell? ⟨w.heap.size, 2, none⟩ = some (.int .u16 z) := fun q => q.block s1 c2
    refine region_later (B := w1.heap.size) (by kernel_rfl) (by kernel_rfl) ?_
    repeat (go_big_quiet_step (first
      | (go_at_call 32; exact later_same _ (update_ _ _ _ _ x0 x1 y0 y1 z0 z1))
      | (go_at_call 33; exact later_same _ (rupdate_ _ _ _ _ x0 x1 y0 y1 z0 z1))
      | (go_at_call 34; exact later_of _ (Nat.le_refl _) (updates_ _ _ _ _ x0 x1 hf ht))
      | (go_at_call 35; exact later_same _ (rupdates_ _ _ _ _ x0 x1 hf' ht'))
      | (go_at_call 25; exact later_of _ (Nat.le_refl _) (summed_ _))))
    refine later_end fun w2 b2 => ?_
    have B2 := B1.trans (b2.mono B1.size)
    clear d0 d1 d2 c0 c1 c2 b2
    go_wp2
    go_ret
    exact ⟨rfl, B2⟩
end Go.Proofs.Ytdddgbpiabimbaa.SumsUpdates
