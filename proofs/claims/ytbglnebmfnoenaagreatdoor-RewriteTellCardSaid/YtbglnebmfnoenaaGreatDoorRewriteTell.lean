/- The walk of RewriteTell. -/
import Derived.Test.YtbglnebmfnoenaaGreatDoorGu
import Derived.Test.YtbglnebmfnoenaaGreatDoorGt
namespace Go.Proofs.YtbglnebmfnoenaaGreatDoor.RewriteTell
set_option linter.unusedVariables false
set_option linter.unusedSimpArgs false
open Go.ChangeShapes Go.WideShapes Go.ChangeAt Go.RowKit Go.PlainAid
attribute [local go_sem ↓] Go.wp_at_zero Go.wp_at_succ
set_option maxHeartbeats 4000000 in
set_option maxRecDepth 100000 in
theorem walk_ (K : RwOk) (s : ByteArray) (a m b n : Int) (w : World) (ht : Tab w) (hs : s.size ≤ maxLen) (ha : (Lit.int .u32 a).wf = true) (hm : (Lit.int .u16 m).wf = true) (hb : (Lit.int .u32 b).wf = true) (hn : (Lit.int .u16 n).wf = true) :
    Calls Tryz.prog 3 #[.string s, .agg #[.int .u32 a, .int .u16 m, .int .u32 b, .int .u16 n]] w fun e w' => e = .returned (.bool true) ∧ Below w.heap.size w w' := by
  clear hs
  have hc : okC a m b n := ⟨(bounds_u32 ha).1, (bounds_u32 ha).2, (bounds_u16 hm).1, (bounds_u16 hm).2, (bounds_u32 hb).1, (bounds_u32 hb).2, (bounds_u16 hn).1, (bounds_u16 hn).2⟩
  clear ha hm hb hn
  by_cases h1 : 2500 < s.size
  · have e1 : decide (2500 < s.size) = true := by simpa using h1
    have e2 : decide ((2500 : Int) < (s.size : Int)) = true := by simp; omega
    have B0 := (Below.refl w.heap.size w).alloc (Nat.le_refl _) (.cells #[.int .u32 a, .int .u16 m, .int .u32 b, .int .u16 n] 28)
    clear hc h1
    go_enter Tryz.func3, Tryz.ntmps3
    go_wp2_with fail
    refine (examples9_ K _ (ht.on B0)).mono ?_; rintro e w1 ⟨rfl, b1⟩
    go_wp2
    go_ret
    exact ⟨rfl, B0.trans (b1.mono B0.size)⟩
  have e1 : decide (2500 < s.size) = false := by simpa using h1
  have e2 : decide ((2500 : Int) < (s.size : Int)) = false := by simp; omega
  have ca := fun u hu => K.applies s a m b n u (by omega) hc hu
  have cr := fun u => rapply9_ s a m b n u (by omega) hc
  generalize rwB s a m b n = R at *
  generalize rwR s = q at *
  clear h1 hc
  go_enter Tryz.func3, Tryz.ntmps3
  have B1 := Below.refl w.heap.size w
  go_wp2_with fail
  have C_2 := Box4.make w (.int .u32 a) (.int .u16 m) (.int .u32 b) (.int .u16 n) 28
  have B3 := B1.alloc B1.size (.cells #[.int .u32 a, .int .u16 m, .int .u32 b, .int .u16 n] 28)
  clear B1
  refine (ca _ (ht.on B3)).mono ?_; rintro e w1 ⟨rfl, x1⟩
  have C_4 := C_2.on x1
  have B5 := B3.trans (x1.mono B3.size)
  clear C_2 B3 x1
  clear ca
  obtain ⟨_, c1_0, c1_1, c1_2, c1_3⟩ := id C_4
  go_wp2_with fail
  refine (cr _).mono ?_; rintro e w2 ⟨rfl, x2⟩
  have C_6 := C_4.on x2
  have B7 := B5.trans (x2.mono B5.size)
  clear c1_0 c1_1 c1_2 c1_3 C_4 B5 x2
  clear cr
  go_wp2_with fail
  refine (examples9_ K _ (ht.on B7)).mono ?_; rintro e w3 ⟨rfl, x3⟩
  have C_8 := C_6.on x3
  have B9 := B7.trans (x3.mono B7.size)
  clear C_6 B7 x3
  go_wp2
  go_ret
  exact ⟨rfl, B9⟩
end Go.Proofs.YtbglnebmfnoenaaGreatDoor.RewriteTell
