/- The walk of EmbedsRest, kind p. -/
import Derived.Test.YtbpicngbjggblaaGreatDoorHb
import Derived.Test.YtbpicngbjggblaaGreatDoorHf
import Derived.Test.YtbpicngbjggblaaGreatDoorGu
import Derived.Test.YtbpicngbjggblaaGreatDoorGc
import Derived.Test.YtbpicngbjggblaaGreatDoorGb
import Derived.BigRegion
import Derived.Deep.DeepCutAuto
namespace Go.Proofs.YtbpicngbjggblaaGreatDoor
set_option linter.unusedVariables false
set_option linter.unusedSimpArgs false
open Go.ChangeShapes Go.WideShapes Go.ChangeAt Go.RowKit Go.PlainAid
attribute [local go_sem ↓] Go.wp_at_zero Go.wp_at_succ
set_option maxHeartbeats 16000000 in
set_option maxRecDepth 100000 in
theorem rest10_p (J : ∀ u : World, Tab u → Calls Tryz.prog 8 #[] u fun e w' => e = .returned (.bool true) ∧ Below u.heap.size u w') (s U V D X : ByteArray) (a m b n c k8 d l pr t0 t1 t2 t3 t4 : Int) (o os k : Nat) (P1 P2 : ByteArray) (e1 : decide (2500 < s.size) = false) (e2 : decide ((2500 : Int) < (s.size : Int)) = false) (zn : (U.size != V.size) = false) (zi : ((U.size : Int) != (V.size : Int)) = false) (z36 : decide (U.size < 36) = false) (y36 : decide ((U.size : Int) < 36) = false) (i0 : (0 : Int) < (U.size : Int)) (f3 : bt U 0 % 16 * 4 = (os : Int)) (q2_ : wrap64 ((os : Int) + 2) = (os : Int) + 2) (q4_ : wrap64 ((os : Int) + 4) = (os : Int) + 4) (q8_ : wrap64 ((os : Int) + 8) = (os : Int) + 8) (l8 : decide ((U.size : Int) < (os : Int) + 8) = false) (m8 : decide (U.size < os + 8) = false) (a2_ : (os : Int) + 2 ≤ (U.size : Int)) (c2_ : (os : Int) + 2 ≤ (V.size : Int)) (a8_ : (os : Int) + 8 ≤ (U.size : Int)) (c8_ : (os : Int) + 8 ≤ (V.size : Int)) (p48 : (os : Int) + 4 ≤ (os : Int) + 8) (r1 : U.extract 0 (os + 2) = P1) (r2 : V.extract 0 (os + 2) = P1) (r3 : U.extract (os + 4) (os + 8) = P2) (r4 : V.extract (os + 4) (os + 8) = P2) (xn : (D.size != X.size) = false) (xi : ((D.size : Int) != (X.size : Int)) = false) (HXD : Hid (X.size = D.size)) (z28 : decide (D.size < 28) = false) (y28 : decide ((D.size : Int) < 28) = false) (ew : wrap64 ((o : Int) + 8) = (o : Int) + 8) (zo : decide ((D.size : Int) < (o : Int) + 8) = false) (HS : Hid (28 ≤ D.size ∧ D.size ≤ 2500 ∧ 20 ≤ o ∧ o + 8 ≤ D.size ∧ k + 2 ≤ D.size ∧ o + 4 ≤ k)) (e9 : bt D 9 = pr) (i9 : (9 : Int) < (D.size : Int)) (p1 : (pr == 1) = false) (pn : (pr != 1) = true) (hU : (pr == 17) = false ∨ ((pr == 17) = true ∧ (bt D k == 0) = false) ∨ ((pr == 17) = true ∧ (bt D k == 0) = true ∧ (bt D (k + 1) == 0) = false) ∨ ((pr == 17) = true ∧ (bt D k == 0) = true ∧ (bt D (k + 1) == 0) = true ∧ (bt X k != 0) = false ∧ (bt X (k + 1) != 0) = false)) (hz : Hid (∀ i : Nat, i < D.size → bt D i = bt X i ∨ i = 10 ∨ i = 11 ∨ (12 ≤ i ∧ i < 20) ∨ (o ≤ i ∧ i < o + 4) ∨ i = k ∨ i = k + 1)) (ck : ∀ u : World, Tab u → Calls Tryz.prog 14 #[.string s, .int .u8 1] u fun e w' => e = .returned (.tuple #[.agg #[.int .u8 t0, .int .u32 t1, .int .u16 t2, .int .u32 t3, .int .u16 t4], .bool true]) ∧ Below u.heap.size u w') (ca : ∀ u : World, Tab u → Calls Tryz.prog 11 #[.string s, .agg #[.int .u32 a, .int .u16 m, .int .u32 b, .int .u16 n], .agg #[.int .u32 c, .int .u16 k8, .int .u32 d, .int .u16 l]] u fun e w' => e = .returned (.tuple #[.string U, .int .i64 0]) ∧ Below u.heap.size u w') (cv : ∀ u : World, Calls Tryz.prog 22 #[.string s, .agg #[.int .u32 a, .int .u16 m, .int .u32 b, .int .u16 n]] u fun e w' => e = .returned (.tuple #[.string V, .int .i64 0]) ∧ Below u.heap.size u w') (cd : ∀ u : World, Calls Tryz.prog 16 #[.string s] u fun e w' => e = .returned (.string D) ∧ Below u.heap.size u w') (cx : ∀ u : World, Calls Tryz.prog 16 #[.string U] u fun e w' => e = .returned (.string X) ∧ Below u.heap.size u w') (hD : ∀ u : World, Calls Tryz.prog 17 #[.string D] u fun e w' => e = .returned (.int .i64 (o : Int)) ∧ Below u.heap.size u w') (hS : ∀ u : World, Calls Tryz.prog 23 #[.string D] u fun e w' => e = .returned (.int .i64 (k : Int)) ∧ Below u.heap.size u w') (w : World) (ht : Tab w) :
    Calls Tryz.prog 6 #[.string s, .agg #[.int .u32 a, .int .u16 m, .int .u32 b, .int .u16 n, .int .u32 c, .int .u16 k8, .int .u32 d, .int .u16 l]] w fun e w' => e = .returned (.bool true) ∧ Below w.heap.size w w' := by
  have hgU := get_bt U
  have b0 := bt_nonneg U 0
  have b1 := bt_le U 0
  have e5 := u8_and15 (bt U 0) b0 b1
  go_enter Tryz.func6, Tryz.ntmps6
  have B1 := Below.refl w.heap.size w
  go_wp2_with fail
  have C_2 := Box8.make w (.int .u32 a) (.int .u16 m) (.int .u32 b) (.int .u16 n) (.int .u32 c) (.int .u16 k8) (.int .u32 d) (.int .u16 l) 30
  have B3 := B1.alloc B1.size (.cells #[.int .u32 a, .int .u16 m, .int .u32 b, .int .u16 n, .int .u32 c, .int .u16 k8, .int .u32 d, .int .u16 l] 30)
  clear B1
  refine (ck _ (ht.on B3)).mono ?_; rintro e w1 ⟨rfl, x1⟩
  have C_4 := C_2.on x1
  have B5 := B3.trans (x1.mono B3.size)
  clear C_2 B3 x1
  clear ck
  have C_6 := C_4.past (o := (.cells #[.int .u8 t0, .int .u32 t1, .int .u16 t2, .int .u32 t3, .int .u16 t4] 33))
  have B7 := B5.alloc B5.size (.cells #[.int .u8 t0, .int .u32 t1, .int .u16 t2, .int .u32 t3, .int .u16 t4] 33)
  clear C_4 B5
  obtain ⟨_, c1_0, c1_1, c1_2, c1_3, c1_4, c1_5, c1_6, c1_7⟩ := id C_6
  go_wp2_with fail
  refine (ca _ (ht.on B7)).mono ?_; rintro e w2 ⟨rfl, x2⟩
  have C_8 := C_6.on x2
  have B9 := B7.trans (x2.mono B7.size)
  clear c1_0 c1_1 c1_2 c1_3 c1_4 c1_5 c1_6 c1_7 C_6 B7 x2
  clear ca
  obtain ⟨_, c2_0, c2_1, c2_2, c2_3, c2_4, c2_5, c2_6, c2_7⟩ := id C_8
  go_wp2_with fail
  refine (cv _).mono ?_; rintro e w3 ⟨rfl, x3⟩
  have C_10 := C_8.on x3
  have B11 := B9.trans (x3.mono B9.size)
  clear c2_0 c2_1 c2_2 c2_3 c2_4 c2_5 c2_6 c2_7 C_8 B9 x3
  clear cv
  clear C_10
  go_wp2_with fail
  refine (cd _).mono ?_; rintro e w4 ⟨rfl, x4⟩
  have B12 := B11.trans (x4.mono B11.size)
  clear B11 x4
  clear cd
  go_wp2_with fail
  refine (cx _).mono ?_; rintro e w5 ⟨rfl, x5⟩
  have B13 := B12.trans (x5.mono B12.size)
  clear B12 x5
  clear cx
  go_wp2_with fail
  refine region_later (B := w5.heap.size) (by kernel_rfl) (by kernel_rfl) ?_
  repeat (go_big_quiet_step (first
    | (go_at_call 17; exact later_of _ (Nat.le_refl _) (hD _))))
  refine later_end fun w6 x6 => ?_
  have B14 := B13.trans (x6.mono B13.size)
  clear B13 x6
  go_wp2_with fail
  refine (hD _).mono ?_; rintro e w7 ⟨rfl, x7⟩
  have B15 := B14.trans (x7.mono B14.size)
  clear B14 x7
  clear hD
  go_wp2_with fail
  refine (hS _).mono ?_; rintro e w8 ⟨rfl, x8⟩
  have B16 := B15.trans (x8.mono B15.size)
  clear B15 x8
  clear hS
  clear hgU b0 b1 e5 f3 zn zi z36 y36 i0 q2_ q4_ q8_ l8 m8 a2_ c2_ a8_ c8_ p48 r1 r2 r3 r4 xn xi z28 y28 ew zo
  have hgD := get_bt D
  have hgX := get_bt X
  have wo4 : wrap64 ((o : Int) + 4) = (o : Int) + 4 := wrap64_in_ _ (by have := HS.out; omega) (by omega)
  have wo6 : wrap64 ((o : Int) + 6) = (o : Int) + 6 := wrap64_in_ _ (by have := HS.out; omega) (by omega)
  have wk1 : wrap64 ((k : Int) + 1) = (k : Int) + 1 := wrap64_in_ _ (by have := HS.out; omega) (by omega)
  have kz_ : decide ((0 : Int) < (k : Int)) = true := by have := HS.out; simp; omega
  have ky_ : decide (0 < k) = true := by have := HS.out; simp; omega
  have jk0 : (k : Int) < (D.size : Int) := by have := HS.out; omega
  have jk1 : (k : Int) + 1 < (D.size : Int) := by have := HS.out; omega
  have jx0 : (k : Int) < (X.size : Int) := by have := HS.out; have := HXD.out; omega
  have jx1 : (k : Int) + 1 < (X.size : Int) := by have := HS.out; have := HXD.out; omega
  go_wp2_with fail
  go_loopw [16] (fun si wr => ∃ i : Nat, i ≤ D.size ∧ si = .int .i64 (i : Int) ∧ Below w8.heap.size w8 wr) (fun si _ => D.size - (intOf si).toNat)
  case atStart => exact ⟨0, Nat.zero_le _, rfl, Below.refl _ _⟩
  case round =>
    obtain ⟨i, hi, rfl, bb⟩ := hrel
    by_cases hlt : i < D.size
    rotate_left
    · have e10 : decide ((i : Int) < (D.size : Int)) = false := by simp; omega
      have e11 : decide (i < D.size) = false := by simp; omega
      rcases hU with a1 | ⟨a1, a2⟩ | ⟨a1, a2, a3⟩ | ⟨a1, a2, a3, a4, a5⟩
      · skip
        have BW := B16.trans (bb.mono B16.size)
        clear hi hlt hz HS HXD bb B16
        go_wp2_with fail
        refine (J _ (ht.on BW)).mono ?_; rintro e w1 ⟨rfl, x1⟩
        have B301 := BW.trans (x1.mono BW.size)
        clear BW x1
        go_wp2
        go_ret
        exact ⟨rfl, B301⟩
      · skip
        have BW := B16.trans (bb.mono B16.size)
        clear hi hlt hz HS HXD bb B16
        go_wp2_with fail
        refine (J _ (ht.on BW)).mono ?_; rintro e w1 ⟨rfl, x1⟩
        have B301 := BW.trans (x1.mono BW.size)
        clear BW x1
        go_wp2
        go_ret
        exact ⟨rfl, B301⟩
      · skip
        have BW := B16.trans (bb.mono B16.size)
        clear hi hlt hz HS HXD bb B16
        go_wp2_with fail
        refine (J _ (ht.on BW)).mono ?_; rintro e w1 ⟨rfl, x1⟩
        have B301 := BW.trans (x1.mono BW.size)
        clear BW x1
        go_wp2
        go_ret
        exact ⟨rfl, B301⟩
      · skip
        have BW := B16.trans (bb.mono B16.size)
        clear hi hlt hz HS HXD bb B16
        go_wp2_with fail
        refine (J _ (ht.on BW)).mono ?_; rintro e w1 ⟨rfl, x1⟩
        have B301 := BW.trans (x1.mono BW.size)
        clear BW x1
        go_wp2
        go_ret
        exact ⟨rfl, B301⟩
    have HL := Lib.hid hlt
    have e10 : decide ((i : Int) < (D.size : Int)) = true := by simp; omega
    have e11 : decide (i < D.size) = true := by simp; omega
    have e12 : (i : Int) < (D.size : Int) := by omega
    have e14 : (i : Int) < (X.size : Int) := by have := HXD.out; omega
    have e13 : (i : Int) + 1 ≤ 100000 := by have := HS.out; omega
    have zz := hz.out i hlt
    have o20_ := HS.out
    clear hU
    by_cases heq : bt D i = bt X i
    · have m1 : (bt D i != bt X i) = false := by simpa using heq
      have hk : (i < 10) ∨ (i = 10) ∨ (i = 11) ∨ (12 ≤ i ∧ i < 20) ∨ (20 ≤ i ∧ i < o) ∨ (o ≤ i ∧ i < o + 4) ∨ (o + 4 ≤ i ∧ ¬ i = k ∧ ¬ i = k + 1) ∨ (i = k) ∨ (i = k + 1) := by omega
      rcases hk with h1 | h1 | h1 | h1 | h1 | h1 | h1 | h1 | h1
      · have g0 : decide ((12 : Int) ≤ (i : Int)) = false := by simp; omega
        have g1 : decide (12 ≤ i) = false := by simp; omega
        have g2 : decide ((o : Int) ≤ (i : Int)) = false := by simp; omega
        have g3 : decide (o ≤ i) = false := by simp; omega
        have g4 : ((i : Int) == 10) = false := by simpa using (show ¬ (i : Int) = 10 by omega)
        have g5 : (i == 10) = false := by simpa using (show ¬ i = 10 by omega)
        have g6 : ((i : Int) == 11) = false := by simpa using (show ¬ (i : Int) = 11 by omega)
        have g7 : (i == 11) = false := by simpa using (show ¬ i = 11 by omega)
        have g8 : ((i : Int) == (k : Int)) = false := by simpa using (show ¬ (i : Int) = (k : Int) by omega)
        have g9 : (i == k) = false := by simpa using (show ¬ i = k by omega)
        have g10 : ((i : Int) == (k : Int) + 1) = false := by simpa using (show ¬ (i : Int) = (k : Int) + 1 by omega)
        have g11 : (i == k + 1) = false := by simpa using (show ¬ i = k + 1 by omega)
        clear zz o20_ h1 heq hi hlt hz HS HXD B16
        go_upto_region 20 with fail
        refine region_later (B := wr.heap.size) (by kernel_rfl) (by kernel_rfl) ?_
        repeat (go_big_quiet_step (fail))
        refine later_end fun w51 x51 => ?_
        have B401 := bb.trans (x51.mono bb.size)
        clear bb x51
        go_wp2_with fail
        go_roundw
        case rel => exact ⟨i + 1, HL.out, by go_num, B401⟩
        case measure => have := HL.out; simp [intOf]; omega
      · have g0 : decide ((12 : Int) ≤ (i : Int)) = false := by simp; omega
        have g1 : decide (12 ≤ i) = false := by simp; omega
        have g2 : decide ((o : Int) ≤ (i : Int)) = false := by simp; omega
        have g3 : decide (o ≤ i) = false := by simp; omega
        have g4 : ((i : Int) == 10) = true := by simpa using (show (i : Int) = 10 by omega)
        have g5 : (i == 10) = true := by simpa using (show i = 10 by omega)
        clear zz o20_ h1 heq hi hlt hz HS HXD B16
        go_upto_region 20 with fail
        refine region_later (B := wr.heap.size) (by kernel_rfl) (by kernel_rfl) ?_
        repeat (go_big_quiet_step (fail))
        refine later_end fun w51 x51 => ?_
        have B401 := bb.trans (x51.mono bb.size)
        clear bb x51
        go_wp2_with fail
        go_roundw
        case rel => exact ⟨i + 1, HL.out, by go_num, B401⟩
        case measure => have := HL.out; simp [intOf]; omega
      · have g0 : decide ((12 : Int) ≤ (i : Int)) = false := by simp; omega
        have g1 : decide (12 ≤ i) = false := by simp; omega
        have g2 : decide ((o : Int) ≤ (i : Int)) = false := by simp; omega
        have g3 : decide (o ≤ i) = false := by simp; omega
        have g4 : ((i : Int) == 10) = false := by simpa using (show ¬ (i : Int) = 10 by omega)
        have g5 : (i == 10) = false := by simpa using (show ¬ i = 10 by omega)
        have g6 : ((i : Int) == 11) = true := by simpa using (show (i : Int) = 11 by omega)
        have g7 : (i == 11) = true := by simpa using (show i = 11 by omega)
        clear zz o20_ h1 heq hi hlt hz HS HXD B16
        go_upto_region 20 with fail
        refine region_later (B := wr.heap.size) (by kernel_rfl) (by kernel_rfl) ?_
        repeat (go_big_quiet_step (fail))
        refine later_end fun w51 x51 => ?_
        have B401 := bb.trans (x51.mono bb.size)
        clear bb x51
        go_wp2_with fail
        go_roundw
        case rel => exact ⟨i + 1, HL.out, by go_num, B401⟩
        case measure => have := HL.out; simp [intOf]; omega
      · have g0 : decide ((12 : Int) ≤ (i : Int)) = true := by simp; omega
        have g1 : decide (12 ≤ i) = true := by simp; omega
        have g2 : decide ((i : Int) < 20) = true := by simp; omega
        have g3 : decide (i < 20) = true := by simp; omega
        clear zz o20_ h1 heq hi hlt hz HS HXD B16
        go_upto_region 20 with fail
        refine region_later (B := wr.heap.size) (by kernel_rfl) (by kernel_rfl) ?_
        repeat (go_big_quiet_step (fail))
        refine later_end fun w51 x51 => ?_
        have B401 := bb.trans (x51.mono bb.size)
        clear bb x51
        go_wp2_with fail
        go_roundw
        case rel => exact ⟨i + 1, HL.out, by go_num, B401⟩
        case measure => have := HL.out; simp [intOf]; omega
      · have g0 : decide ((12 : Int) ≤ (i : Int)) = true := by simp; omega
        have g1 : decide (12 ≤ i) = true := by simp; omega
        have g2 : decide ((i : Int) < 20) = false := by simp; omega
        have g3 : decide (i < 20) = false := by simp; omega
        have g4 : decide ((o : Int) ≤ (i : Int)) = false := by simp; omega
        have g5 : decide (o ≤ i) = false := by simp; omega
        have g6 : ((i : Int) == 10) = false := by simpa using (show ¬ (i : Int) = 10 by omega)
        have g7 : (i == 10) = false := by simpa using (show ¬ i = 10 by omega)
        have g8 : ((i : Int) == 11) = false := by simpa using (show ¬ (i : Int) = 11 by omega)
        have g9 : (i == 11) = false := by simpa using (show ¬ i = 11 by omega)
        have g10 : ((i : Int) == (k : Int)) = false := by simpa using (show ¬ (i : Int) = (k : Int) by omega)
        have g11 : (i == k) = false := by simpa using (show ¬ i = k by omega)
        have g12 : ((i : Int) == (k : Int) + 1) = false := by simpa using (show ¬ (i : Int) = (k : Int) + 1 by omega)
        have g13 : (i == k + 1) = false := by simpa using (show ¬ i = k + 1 by omega)
        clear zz o20_ h1 heq hi hlt hz HS HXD B16
        go_upto_region 20 with fail
        refine region_later (B := wr.heap.size) (by kernel_rfl) (by kernel_rfl) ?_
        repeat (go_big_quiet_step (fail))
        refine later_end fun w51 x51 => ?_
        have B401 := bb.trans (x51.mono bb.size)
        clear bb x51
        go_wp2_with fail
        go_roundw
        case rel => exact ⟨i + 1, HL.out, by go_num, B401⟩
        case measure => have := HL.out; simp [intOf]; omega
      · have g0 : decide ((12 : Int) ≤ (i : Int)) = true := by simp; omega
        have g1 : decide (12 ≤ i) = true := by simp; omega
        have g2 : decide ((i : Int) < 20) = false := by simp; omega
        have g3 : decide (i < 20) = false := by simp; omega
        have g4 : decide ((o : Int) ≤ (i : Int)) = true := by simp; omega
        have g5 : decide (o ≤ i) = true := by simp; omega
        have g6 : decide ((i : Int) < (o : Int) + 4) = true := by simp; omega
        have g7 : decide (i < o + 4) = true := by simp; omega
        clear zz o20_ h1 heq hi hlt hz HS HXD B16
        go_upto_region 20 with fail
        refine region_later (B := wr.heap.size) (by kernel_rfl) (by kernel_rfl) ?_
        repeat (go_big_quiet_step (fail))
        refine later_end fun w51 x51 => ?_
        have B401 := bb.trans (x51.mono bb.size)
        clear bb x51
        go_wp2_with fail
        go_roundw
        case rel => exact ⟨i + 1, HL.out, by go_num, B401⟩
        case measure => have := HL.out; simp [intOf]; omega
      · have g0 : decide ((12 : Int) ≤ (i : Int)) = true := by simp; omega
        have g1 : decide (12 ≤ i) = true := by simp; omega
        have g2 : decide ((i : Int) < 20) = false := by simp; omega
        have g3 : decide (i < 20) = false := by simp; omega
        have g4 : decide ((o : Int) ≤ (i : Int)) = true := by simp; omega
        have g5 : decide (o ≤ i) = true := by simp; omega
        have g6 : decide ((i : Int) < (o : Int) + 4) = false := by simp; omega
        have g7 : decide (i < o + 4) = false := by simp; omega
        have g8 : ((i : Int) == 10) = false := by simpa using (show ¬ (i : Int) = 10 by omega)
        have g9 : (i == 10) = false := by simpa using (show ¬ i = 10 by omega)
        have g10 : ((i : Int) == 11) = false := by simpa using (show ¬ (i : Int) = 11 by omega)
        have g11 : (i == 11) = false := by simpa using (show ¬ i = 11 by omega)
        have g12 : ((i : Int) == (k : Int)) = false := by simpa using (show ¬ (i : Int) = (k : Int) by omega)
        have g13 : (i == k) = false := by simpa using (show ¬ i = k by omega)
        have g14 : ((i : Int) == (k : Int) + 1) = false := by simpa using (show ¬ (i : Int) = (k : Int) + 1 by omega)
        have g15 : (i == k + 1) = false := by simpa using (show ¬ i = k + 1 by omega)
        clear zz o20_ h1 heq hi hlt hz HS HXD B16
        go_upto_region 20 with fail
        refine region_later (B := wr.heap.size) (by kernel_rfl) (by kernel_rfl) ?_
        repeat (go_big_quiet_step (fail))
        refine later_end fun w51 x51 => ?_
        have B401 := bb.trans (x51.mono bb.size)
        clear bb x51
        go_wp2_with fail
        go_roundw
        case rel => exact ⟨i + 1, HL.out, by go_num, B401⟩
        case measure => have := HL.out; simp [intOf]; omega
      · have g0 : decide ((12 : Int) ≤ (i : Int)) = true := by simp; omega
        have g1 : decide (12 ≤ i) = true := by simp; omega
        have g2 : decide ((i : Int) < 20) = false := by simp; omega
        have g3 : decide (i < 20) = false := by simp; omega
        have g4 : decide ((o : Int) ≤ (i : Int)) = true := by simp; omega
        have g5 : decide (o ≤ i) = true := by simp; omega
        have g6 : decide ((i : Int) < (o : Int) + 4) = false := by simp; omega
        have g7 : decide (i < o + 4) = false := by simp; omega
        have g8 : ((i : Int) == 10) = false := by simpa using (show ¬ (i : Int) = 10 by omega)
        have g9 : (i == 10) = false := by simpa using (show ¬ i = 10 by omega)
        have g10 : ((i : Int) == 11) = false := by simpa using (show ¬ (i : Int) = 11 by omega)
        have g11 : (i == 11) = false := by simpa using (show ¬ i = 11 by omega)
        have g12 : ((i : Int) == (k : Int)) = true := by simpa using (show (i : Int) = (k : Int) by omega)
        have g13 : (i == k) = true := by simpa using (show i = k by omega)
        clear zz o20_ h1 heq hi hlt hz HS HXD B16
        go_upto_region 20 with fail
        refine region_later (B := wr.heap.size) (by kernel_rfl) (by kernel_rfl) ?_
        repeat (go_big_quiet_step (fail))
        refine later_end fun w51 x51 => ?_
        have B401 := bb.trans (x51.mono bb.size)
        clear bb x51
        go_wp2_with fail
        go_roundw
        case rel => exact ⟨i + 1, HL.out, by go_num, B401⟩
        case measure => have := HL.out; simp [intOf]; omega
      · have g0 : decide ((12 : Int) ≤ (i : Int)) = true := by simp; omega
        have g1 : decide (12 ≤ i) = true := by simp; omega
        have g2 : decide ((i : Int) < 20) = false := by simp; omega
        have g3 : decide (i < 20) = false := by simp; omega
        have g4 : decide ((o : Int) ≤ (i : Int)) = true := by simp; omega
        have g5 : decide (o ≤ i) = true := by simp; omega
        have g6 : decide ((i : Int) < (o : Int) + 4) = false := by simp; omega
        have g7 : decide (i < o + 4) = false := by simp; omega
        have g8 : ((i : Int) == 10) = false := by simpa using (show ¬ (i : Int) = 10 by omega)
        have g9 : (i == 10) = false := by simpa using (show ¬ i = 10 by omega)
        have g10 : ((i : Int) == 11) = false := by simpa using (show ¬ (i : Int) = 11 by omega)
        have g11 : (i == 11) = false := by simpa using (show ¬ i = 11 by omega)
        have g12 : ((i : Int) == (k : Int)) = false := by simpa using (show ¬ (i : Int) = (k : Int) by omega)
        have g13 : (i == k) = false := by simpa using (show ¬ i = k by omega)
        have g14 : ((i : Int) == (k : Int) + 1) = true := by simpa using (show (i : Int) = (k : Int) + 1 by omega)
        have g15 : (i == k + 1) = true := by simpa using (show i = k + 1 by omega)
        clear zz o20_ h1 heq hi hlt hz HS HXD B16
        go_upto_region 20 with fail
        refine region_later (B := wr.heap.size) (by kernel_rfl) (by kernel_rfl) ?_
        repeat (go_big_quiet_step (fail))
        refine later_end fun w51 x51 => ?_
        have B401 := bb.trans (x51.mono bb.size)
        clear bb x51
        go_wp2_with fail
        go_roundw
        case rel => exact ⟨i + 1, HL.out, by go_num, B401⟩
        case measure => have := HL.out; simp [intOf]; omega
    · have m1 : (bt D i != bt X i) = true := by simpa using heq
      have hk : (i = 10) ∨ (i = 11) ∨ (12 ≤ i ∧ i < 20) ∨ (o ≤ i ∧ i < o + 4) ∨ (i = k) ∨ (i = k + 1) := by omega
      rcases hk with h1 | h1 | h1 | h1 | h1 | h1
      · have g0 : decide ((12 : Int) ≤ (i : Int)) = false := by simp; omega
        have g1 : decide (12 ≤ i) = false := by simp; omega
        have g2 : decide ((o : Int) ≤ (i : Int)) = false := by simp; omega
        have g3 : decide (o ≤ i) = false := by simp; omega
        have g4 : ((i : Int) == 10) = true := by simpa using (show (i : Int) = 10 by omega)
        have g5 : (i == 10) = true := by simpa using (show i = 10 by omega)
        clear zz o20_ h1 heq hi hlt hz HS HXD B16
        go_upto_region 20 with fail
        refine region_later (B := wr.heap.size) (by kernel_rfl) (by kernel_rfl) ?_
        repeat (go_big_quiet_step (fail))
        refine later_end fun w51 x51 => ?_
        have B401 := bb.trans (x51.mono bb.size)
        clear bb x51
        go_wp2_with fail
        go_roundw
        case rel => exact ⟨i + 1, HL.out, by go_num, B401⟩
        case measure => have := HL.out; simp [intOf]; omega
      · have g0 : decide ((12 : Int) ≤ (i : Int)) = false := by simp; omega
        have g1 : decide (12 ≤ i) = false := by simp; omega
        have g2 : decide ((o : Int) ≤ (i : Int)) = false := by simp; omega
        have g3 : decide (o ≤ i) = false := by simp; omega
        have g4 : ((i : Int) == 10) = false := by simpa using (show ¬ (i : Int) = 10 by omega)
        have g5 : (i == 10) = false := by simpa using (show ¬ i = 10 by omega)
        have g6 : ((i : Int) == 11) = true := by simpa using (show (i : Int) = 11 by omega)
        have g7 : (i == 11) = true := by simpa using (show i = 11 by omega)
        clear zz o20_ h1 heq hi hlt hz HS HXD B16
        go_upto_region 20 with fail
        refine region_later (B := wr.heap.size) (by kernel_rfl) (by kernel_rfl) ?_
        repeat (go_big_quiet_step (fail))
        refine later_end fun w51 x51 => ?_
        have B401 := bb.trans (x51.mono bb.size)
        clear bb x51
        go_wp2_with fail
        go_roundw
        case rel => exact ⟨i + 1, HL.out, by go_num, B401⟩
        case measure => have := HL.out; simp [intOf]; omega
      · have g0 : decide ((12 : Int) ≤ (i : Int)) = true := by simp; omega
        have g1 : decide (12 ≤ i) = true := by simp; omega
        have g2 : decide ((i : Int) < 20) = true := by simp; omega
        have g3 : decide (i < 20) = true := by simp; omega
        clear zz o20_ h1 heq hi hlt hz HS HXD B16
        go_upto_region 20 with fail
        refine region_later (B := wr.heap.size) (by kernel_rfl) (by kernel_rfl) ?_
        repeat (go_big_quiet_step (fail))
        refine later_end fun w51 x51 => ?_
        have B401 := bb.trans (x51.mono bb.size)
        clear bb x51
        go_wp2_with fail
        go_roundw
        case rel => exact ⟨i + 1, HL.out, by go_num, B401⟩
        case measure => have := HL.out; simp [intOf]; omega
      · have g0 : decide ((12 : Int) ≤ (i : Int)) = true := by simp; omega
        have g1 : decide (12 ≤ i) = true := by simp; omega
        have g2 : decide ((i : Int) < 20) = false := by simp; omega
        have g3 : decide (i < 20) = false := by simp; omega
        have g4 : decide ((o : Int) ≤ (i : Int)) = true := by simp; omega
        have g5 : decide (o ≤ i) = true := by simp; omega
        have g6 : decide ((i : Int) < (o : Int) + 4) = true := by simp; omega
        have g7 : decide (i < o + 4) = true := by simp; omega
        clear zz o20_ h1 heq hi hlt hz HS HXD B16
        go_upto_region 20 with fail
        refine region_later (B := wr.heap.size) (by kernel_rfl) (by kernel_rfl) ?_
        repeat (go_big_quiet_step (fail))
        refine later_end fun w51 x51 => ?_
        have B401 := bb.trans (x51.mono bb.size)
        clear bb x51
        go_wp2_with fail
        go_roundw
        case rel => exact ⟨i + 1, HL.out, by go_num, B401⟩
        case measure => have := HL.out; simp [intOf]; omega
      · have g0 : decide ((12 : Int) ≤ (i : Int)) = true := by simp; omega
        have g1 : decide (12 ≤ i) = true := by simp; omega
        have g2 : decide ((i : Int) < 20) = false := by simp; omega
        have g3 : decide (i < 20) = false := by simp; omega
        have g4 : decide ((o : Int) ≤ (i : Int)) = true := by simp; omega
        have g5 : decide (o ≤ i) = true := by simp; omega
        have g6 : decide ((i : Int) < (o : Int) + 4) = false := by simp; omega
        have g7 : decide (i < o + 4) = false := by simp; omega
        have g8 : ((i : Int) == 10) = false := by simpa using (show ¬ (i : Int) = 10 by omega)
        have g9 : (i == 10) = false := by simpa using (show ¬ i = 10 by omega)
        have g10 : ((i : Int) == 11) = false := by simpa using (show ¬ (i : Int) = 11 by omega)
        have g11 : (i == 11) = false := by simpa using (show ¬ i = 11 by omega)
        have g12 : ((i : Int) == (k : Int)) = true := by simpa using (show (i : Int) = (k : Int) by omega)
        have g13 : (i == k) = true := by simpa using (show i = k by omega)
        clear zz o20_ h1 heq hi hlt hz HS HXD B16
        go_upto_region 20 with fail
        refine region_later (B := wr.heap.size) (by kernel_rfl) (by kernel_rfl) ?_
        repeat (go_big_quiet_step (fail))
        refine later_end fun w51 x51 => ?_
        have B401 := bb.trans (x51.mono bb.size)
        clear bb x51
        go_wp2_with fail
        go_roundw
        case rel => exact ⟨i + 1, HL.out, by go_num, B401⟩
        case measure => have := HL.out; simp [intOf]; omega
      · have g0 : decide ((12 : Int) ≤ (i : Int)) = true := by simp; omega
        have g1 : decide (12 ≤ i) = true := by simp; omega
        have g2 : decide ((i : Int) < 20) = false := by simp; omega
        have g3 : decide (i < 20) = false := by simp; omega
        have g4 : decide ((o : Int) ≤ (i : Int)) = true := by simp; omega
        have g5 : decide (o ≤ i) = true := by simp; omega
        have g6 : decide ((i : Int) < (o : Int) + 4) = false := by simp; omega
        have g7 : decide (i < o + 4) = false := by simp; omega
        have g8 : ((i : Int) == 10) = false := by simpa using (show ¬ (i : Int) = 10 by omega)
        have g9 : (i == 10) = false := by simpa using (show ¬ i = 10 by omega)
        have g10 : ((i : Int) == 11) = false := by simpa using (show ¬ (i : Int) = 11 by omega)
        have g11 : (i == 11) = false := by simpa using (show ¬ i = 11 by omega)
        have g12 : ((i : Int) == (k : Int)) = false := by simpa using (show ¬ (i : Int) = (k : Int) by omega)
        have g13 : (i == k) = false := by simpa using (show ¬ i = k by omega)
        have g14 : ((i : Int) == (k : Int) + 1) = true := by simpa using (show (i : Int) = (k : Int) + 1 by omega)
        have g15 : (i == k + 1) = true := by simpa using (show i = k + 1 by omega)
        clear zz o20_ h1 heq hi hlt hz HS HXD B16
        go_upto_region 20 with fail
        refine region_later (B := wr.heap.size) (by kernel_rfl) (by kernel_rfl) ?_
        repeat (go_big_quiet_step (fail))
        refine later_end fun w51 x51 => ?_
        have B401 := bb.trans (x51.mono bb.size)
        clear bb x51
        go_wp2_with fail
        go_roundw
        case rel => exact ⟨i + 1, HL.out, by go_num, B401⟩
        case measure => have := HL.out; simp [intOf]; omega
end Go.Proofs.YtbpicngbjggblaaGreatDoor
