/- The walk of EmbedsTell, the chapter's examples (J) being a premise. -/
import Derived.Test.YtbpicngbjggblaaGreatDoorHb
import Derived.Test.YtbpicngbjggblaaGreatDoorHa
import Derived.Test.YtbpicngbjggblaaGreatDoorGc
namespace Go.Proofs.YtbpicngbjggblaaGreatDoor
set_option maxHeartbeats 4000000
set_option maxRecDepth 100000
set_option linter.unusedVariables false
set_option linter.unusedSimpArgs false
open Go.ChangeShapes Go.WideShapes Go.ChangeAt Go.RowKit Go.PlainAid
attribute [local go_sem ↓] Go.wp_at_zero Go.wp_at_succ
theorem tell10_ (K : EmOk) (J : ∀ u : World, Tab u → Calls Tryz.prog 8 #[] u fun e w' => e = .returned (.bool true) ∧ Below u.heap.size u w') (s : ByteArray) (a m b n c k d l : Int) (w : World) (ht : Tab w) (hc : okC a m b n) (hd : okC c k d l) :
    Cw_ 3 #[.string s, .agg #[.int .u32 a, .int .u16 m, .int .u32 b, .int .u16 n, .int .u32 c, .int .u16 k, .int .u32 d, .int .u16 l]] (.bool true) w := by
  by_cases h1 : 2500 < s.size
  · have e1 : decide (2500 < s.size) = true := by simpa using h1
    have e2 : decide ((2500 : Int) < (s.size : Int)) = true := by simp; omega
    have B0 := (Below.refl w.heap.size w).alloc (Nat.le_refl _) (.cells #[.int .u32 a, .int .u16 m, .int .u32 b, .int .u16 n, .int .u32 c, .int .u16 k, .int .u32 d, .int .u16 l] 30)
    clear hc hd h1
    go_enter Tryz.func3, Tryz.ntmps3
    go_wp2_with fail
    refine (J _ (ht.on B0)).mono ?_; rintro e w1 ⟨rfl, b1⟩
    go_wp2
    go_ret
    exact ⟨rfl, B0.trans (b1.mono B0.size)⟩
  have e1 : decide (2500 < s.size) = false := by simpa using h1
  have e2 : decide ((2500 : Int) < (s.size : Int)) = false := by simp; omega
  have ci := fun u hu => K.inners s u (by omega) hu
  have cj := fun u => rinner10_ s u (by omega)
  have ca := fun u hu => K.translates s a m b n c k d l u (by omega) hc hd hu
  have cr := fun u => rtranslate10_ s a m b n c k d l u (by omega) hc hd
  generalize trB s a m b n c k d l = R at *
  generalize trR s = r at *
  generalize iI s (bt (eD s) 9) = t0 at *
  generalize iI s (g32 (eD s) 12) = t1 at *
  generalize iI s (inM (eD s)) = t2 at *
  generalize iI s (g32 (eD s) 16) = t3 at *
  generalize iI s (inN (eD s)) = t4 at *
  generalize inR s = q at *
  clear h1 hc hd
  go_enter Tryz.func3, Tryz.ntmps3
  have B1 := Below.refl w.heap.size w
  go_wp2_with fail
  have C_2 := Box8.make w (.int .u32 a) (.int .u16 m) (.int .u32 b) (.int .u16 n) (.int .u32 c) (.int .u16 k) (.int .u32 d) (.int .u16 l) 30
  have B3 := B1.alloc B1.size (.cells #[.int .u32 a, .int .u16 m, .int .u32 b, .int .u16 n, .int .u32 c, .int .u16 k, .int .u32 d, .int .u16 l] 30)
  clear B1
  refine (ci _ (ht.on B3)).mono ?_; rintro e w1 ⟨rfl, x1⟩
  have C_4 := C_2.on x1
  have B5 := B3.trans (x1.mono B3.size)
  clear C_2 B3 x1
  clear ci
  have al := alO_ B5 (.cells #[.int .u8 t0, .int .u32 t1, .int .u16 t2, .int .u32 t3, .int .u16 t4] 33)
  have C_6 := C_4.on al
  have X_7 := Box5.make w1 (.int .u8 t0) (.int .u32 t1) (.int .u16 t2) (.int .u32 t3) (.int .u16 t4) 33
  have B8 := B5.trans (al.mono B5.size)
  clear al
  clear C_4 B5
  go_wp2_with fail
  refine (cj _).mono ?_; rintro e w2 ⟨rfl, x2⟩
  have C_9 := C_6.on x2
  have X_10 := X_7.on x2
  have B11 := B8.trans (x2.mono B8.size)
  clear C_6 X_7 B8 x2
  clear cj
  have al := alO_ B11 (.cells #[.int .u8 t0, .int .u32 t1, .int .u16 t2, .int .u32 t3, .int .u16 t4] 33)
  have C_12 := C_9.on al
  have X_13 := X_10.on al
  have Y_14 := Box5.make w2 (.int .u8 t0) (.int .u32 t1) (.int .u16 t2) (.int .u32 t3) (.int .u16 t4) 33
  have B15 := B11.trans (al.mono B11.size)
  clear al
  clear C_9 X_10 B11
  obtain ⟨_, c1_0, c1_1, c1_2, c1_3, c1_4, c1_5, c1_6, c1_7⟩ := id C_12
  go_wp2_with fail
  refine (ca _ (ht.on B15)).mono ?_; rintro e w3 ⟨rfl, x3⟩
  have C_16 := C_12.on x3
  have X_17 := X_13.on x3
  have Y_18 := Y_14.on x3
  have B19 := B15.trans (x3.mono B15.size)
  clear c1_0 c1_1 c1_2 c1_3 c1_4 c1_5 c1_6 c1_7 C_12 X_13 Y_14 B15 x3
  clear ca
  obtain ⟨_, c2_0, c2_1, c2_2, c2_3, c2_4, c2_5, c2_6, c2_7⟩ := id C_16
  go_wp2_with fail
  refine (cr _).mono ?_; rintro e w4 ⟨rfl, x4⟩
  have C_20 := C_16.on x4
  have X_21 := X_17.on x4
  have Y_22 := Y_18.on x4
  have B23 := B19.trans (x4.mono B19.size)
  clear c2_0 c2_1 c2_2 c2_3 c2_4 c2_5 c2_6 c2_7 C_16 X_17 Y_18 B19 x4
  clear cr
  obtain ⟨_, x3_0, x3_1, x3_2, x3_3, x3_4⟩ := id X_21
  obtain ⟨_, y4_0, y4_1, y4_2, y4_3, y4_4⟩ := id Y_22
  go_wp2_with fail
  refine (J _ (ht.on B23)).mono ?_; rintro e w5 ⟨rfl, x5⟩
  have C_24 := C_20.on x5
  have X_25 := X_21.on x5
  have Y_26 := Y_22.on x5
  have B27 := B23.trans (x5.mono B23.size)
  clear x3_0 x3_1 x3_2 x3_3 x3_4 y4_0 y4_1 y4_2 y4_3 y4_4 C_20 X_21 Y_22 B23 x5
  go_wp2
  go_ret
  exact ⟨rfl, B27⟩
end Go.Proofs.YtbpicngbjggblaaGreatDoor
