/- RewriteSeen, case E. -/
import Derived.Test.YtbglnebmfnoenaaGreatDoorGu
namespace Go.Proofs.YtbglnebmfnoenaaGreatDoor.RewriteSeen
set_option linter.unusedVariables false
set_option linter.unusedSimpArgs false
open Go.ChangeShapes Go.WideShapes Go.ChangeAt Go.RowKit Go.PlainAid
attribute [local go_sem ↓] Go.wp_at_zero Go.wp_at_succ
set_option maxHeartbeats 16000000 in
set_option maxRecDepth 100000 in
theorem seen_E (K : RwOk) (s T : ByteArray) (v1 v2 v3 v4 v6 v8 a m b n : Int) (v7 : Bool) (o : Nat) (w : World) (ht : Tab w) (e1 : decide (2500 < s.size) = false) (e2 : decide ((2500 : Int) < (s.size : Int)) = false) (ok1 : s.size ≤ 2500) (o20 : 20 ≤ o) (o60 : o ≤ 60) (oT : o ≤ T.size) (Ts : T.size ≤ s.size) (w8 : IntKind.u8.wrap (v8 - 1) = v8 - 1) (f3 : bt T 0 % 16 * 4 = (o : Int))
    (ck : ∀ u : World, Calls Tryz.prog 11 #[.string s, .int .u8 1] u fun e w' => e = .returned (.tuple #[.agg #[.int .u8 1, .int .u32 v1, .int .u16 v2, .int .u32 v3, .int .u16 v4, .int .i64 3, .int .u8 v6, .bool v7, .int .u8 v8], .bool true]) ∧ Below u.heap.size u w')
    (ca : ∀ u : World, Tab u → Calls Tryz.prog 9 #[.string s, .agg #[.int .u32 a, .int .u16 m, .int .u32 b, .int .u16 n]] u fun e w' => e = .returned (.tuple #[.string T, .int .i64 0]) ∧ Below u.heap.size u w')
    (co : ∀ u : World, Calls Tryz.prog 14 #[.string T] u fun e w' => e = .returned (.tuple #[.agg #[.int .u8 1, .int .u32 a, .int .u16 v2, .int .u32 b, .int .u16 v4, .int .i64 3, .int .u8 v6, .bool v7, .int .u8 (v8 - 1)], .int .i64 0]) ∧ Below u.heap.size u w')
    (cs : ∀ u : World, Calls Tryz.prog 15 #[.string T] u fun e w' => e = .returned (.int .i64 0) ∧ Below u.heap.size u w')
    (hz : Hid (∀ i : Nat, i < T.size → (i < 8 ∧ bt s i = bt T i) ∨ (8 ≤ i ∧ i < 20 ∧ ¬ i = 9) ∨ (i = 9 ∧ bt s i = bt T i) ∨ (20 ≤ i ∧ i < o + 4 ∧ (bt s i = bt T i ∨ (0 < 0 ∧ i = 0) ∨ (0 < 0 ∧ i = 0 + 1))) ∨ (o + 4 ≤ i ∧ i < o + 4 + 2 ∧ 0 < 0) ∨ (20 ≤ i ∧ o + 4 + 2 ≤ i ∧ (bt s i = bt T i ∨ (0 < 0 ∧ i = 0) ∨ (0 < 0 ∧ i = 0 + 1))) ∨ (o + 4 ≤ i ∧ i < o + 4 + 2 ∧ 20 ≤ i ∧ 0 = 0 ∧ bt s i = bt T i))) :
    Calls Tryz.prog 5 #[.string s, .agg #[.int .u32 a, .int .u16 m, .int .u32 b, .int .u16 n]] w fun e w' => e = .returned (.bool true) ∧ Below w.heap.size w w' := by
  have b0 := bt_nonneg T 0
  have b1 := bt_le T 0
  have e5 := u8_and15 (bt T 0) b0 b1
  have hgT := get_bt T
  have HS := Lib.hid (And.intro ok1 (And.intro o20 (And.intro oT Ts)))
  have e6 : decide (T.size < 20) = false := by simp; omega
  have e7 : decide ((T.size : Int) < 20) = false := by simp; omega
  have e8 : decide (s.size < T.size) = false := by simp; omega
  have e9 : decide ((s.size : Int) < (T.size : Int)) = false := by simp; omega
  have i0 : (0 : Int) < (T.size : Int) := by omega
  have i3 : (T.size : Int) ≤ (s.size : Int) := by omega
  have zx := size_extract' s 0 T.size (Nat.zero_le _) Ts
  have HX := Lib.hid (fun (i : Nat) (hi : i < T.size) => bt_ext0 s T.size i hi Ts)
  rw [Nat.sub_zero] at zx
  clear ok1 o20 oT Ts
  go_enter Tryz.func5, Tryz.ntmps5
  have B1 := Below.refl w.heap.size w
  go_wp2_with fail
  have C_2 := Box4.make w (.int .u32 a) (.int .u16 m) (.int .u32 b) (.int .u16 n) 28
  have B3 := B1.alloc B1.size (.cells #[.int .u32 a, .int .u16 m, .int .u32 b, .int .u16 n] 28)
  clear B1
  refine (ck _).mono ?_; rintro e w1 ⟨rfl, x1⟩
  have C_4 := C_2.on x1
  have B5 := B3.trans (x1.mono B3.size)
  clear C_2 B3 x1
  clear ck
  have LX := Lib.hid (show w.heap.size < w1.heap.size from C_4.1)
  have C_6 := C_4.past (o := (.cells #[.int .u8 1, .int .u32 v1, .int .u16 v2, .int .u32 v3, .int .u16 v4, .int .i64 3, .int .u8 v6, .bool v7, .int .u8 v8] 38))
  have X_7 := Box9.make w1 (.int .u8 1) (.int .u32 v1) (.int .u16 v2) (.int .u32 v3) (.int .u16 v4) (.int .i64 3) (.int .u8 v6) (.bool v7) (.int .u8 v8) 38
  have B8 := B5.alloc B5.size (.cells #[.int .u8 1, .int .u32 v1, .int .u16 v2, .int .u32 v3, .int .u16 v4, .int .i64 3, .int .u8 v6, .bool v7, .int .u8 v8] 38)
  clear C_4 B5
  have fzX_9 : ∀ i, (w1.alloc (.cells #[.int .u8 1, .int .u32 v1, .int .u16 v2, .int .u32 v3, .int .u16 v4, .int .i64 3, .int .u8 v6, .bool v7, .int .u8 v8] 38)).frozen? ⟨w1.heap.size, i, none⟩ = false := by intro i; simp [go_sem]
  obtain ⟨_, c1_0, c1_1, c1_2, c1_3⟩ := id C_6
  go_wp2_with fail
  refine (ca _ (ht.on B8)).mono ?_; rintro e w2 ⟨rfl, x2⟩
  have fzX_10 : ∀ i, w2.frozen? ⟨w1.heap.size, i, none⟩ = false := fun i => (x2.frozen (p := ⟨_, i, none⟩) X_7.1).trans (fzX_9 i)
  clear fzX_9
  have C_11 := C_6.on x2
  have X_12 := X_7.on x2
  have B13 := B8.trans (x2.mono B8.size)
  clear c1_0 c1_1 c1_2 c1_3 C_6 X_7 B8 x2
  clear ca
  go_wp2_with fail
  refine (co _).mono ?_; rintro e w3 ⟨rfl, x3⟩
  have fzX_14 : ∀ i, w3.frozen? ⟨w1.heap.size, i, none⟩ = false := fun i => (x3.frozen (p := ⟨_, i, none⟩) X_12.1).trans (fzX_10 i)
  clear fzX_10
  have C_15 := C_11.on x3
  have X_16 := X_12.on x3
  have B17 := B13.trans (x3.mono B13.size)
  clear C_11 X_12 B13 x3
  clear co
  have LY := Lib.hid (show w1.heap.size < w3.heap.size from X_16.1)
  have fzX_18 : ∀ i, (w3.alloc (.cells #[.int .u8 1, .int .u32 a, .int .u16 v2, .int .u32 b, .int .u16 v4, .int .i64 3, .int .u8 v6, .bool v7, .int .u8 (v8 - 1)] 38)).frozen? ⟨w1.heap.size, i, none⟩ = false := fun i => (((Below.refl w3.heap.size w3).alloc (Nat.le_refl _) (.cells #[.int .u8 1, .int .u32 a, .int .u16 v2, .int .u32 b, .int .u16 v4, .int .i64 3, .int .u8 v6, .bool v7, .int .u8 (v8 - 1)] 38)).frozen (p := ⟨_, i, none⟩) X_16.1).trans (fzX_14 i)
  clear fzX_14
  have C_19 := C_15.past (o := (.cells #[.int .u8 1, .int .u32 a, .int .u16 v2, .int .u32 b, .int .u16 v4, .int .i64 3, .int .u8 v6, .bool v7, .int .u8 (v8 - 1)] 38))
  have X_20 := X_16.past (o := (.cells #[.int .u8 1, .int .u32 a, .int .u16 v2, .int .u32 b, .int .u16 v4, .int .i64 3, .int .u8 v6, .bool v7, .int .u8 (v8 - 1)] 38))
  have Y_21 := Box9.make w3 (.int .u8 1) (.int .u32 a) (.int .u16 v2) (.int .u32 b) (.int .u16 v4) (.int .i64 3) (.int .u8 v6) (.bool v7) (.int .u8 (v8 - 1)) 38
  have B22 := B17.alloc B17.size (.cells #[.int .u8 1, .int .u32 a, .int .u16 v2, .int .u32 b, .int .u16 v4, .int .i64 3, .int .u8 v6, .bool v7, .int .u8 (v8 - 1)] 38)
  clear C_15 X_16 B17
  obtain ⟨_, x2_0, x2_1, x2_2, x2_3, x2_4, x2_5, x2_6, x2_7, x2_8⟩ := id X_20
  go_upto_region 10 with fail
  clear x2_0 x2_1 x2_2 x2_3 x2_4 x2_5 x2_6 x2_7 x2_8
  obtain ⟨u4, hu4⟩ : ∃ x, x = w3.alloc (.cells #[.int .u8 1, .int .u32 a, .int .u16 v2, .int .u32 b, .int .u16 v4, .int .i64 3, .int .u8 v6, .bool v7, .int .u8 (v8 - 1)] 38) := ⟨_, rfl⟩
  rw [← hu4] at C_19 X_20 Y_21 fzX_18 B22 ⊢
  clear hu4
  have ne1_ : ¬ w1.heap.size = w3.heap.size := by have := LY.out; omega
  have ne2_ : ¬ w3.heap.size = w1.heap.size := by have := LY.out; omega
  have ne3_ : ¬ w.heap.size = w1.heap.size := by have := LX.out; omega
  have ne4_ : ¬ w1.heap.size = w.heap.size := by have := LX.out; omega
  have LE : Hid (w.heap.size ≤ w1.heap.size) := Nat.le_of_lt LX.out
  obtain ⟨_, x3_0, x3_1, x3_2, x3_3, x3_4, x3_5, x3_6, x3_7, x3_8⟩ := id X_20
  go_upto_region 11 with fail
  clear x3_0 x3_1 x3_2 x3_3 x3_4 x3_5 x3_6 x3_7 x3_8
  obtain ⟨_, c4_0, c4_1, c4_2, c4_3⟩ := id C_19
  obtain ⟨_, x5_0, x5_1, x5_2, x5_3, x5_4, x5_5, x5_6, x5_7, x5_8⟩ := id X_20
  obtain ⟨_, y6_0, y6_1, y6_2, y6_3, y6_4, y6_5, y6_6, y6_7, y6_8⟩ := id Y_21
  have B23 := (B22.setCell (p := ⟨w1.heap.size, 8, none⟩) LE.out (.int .u8 (v8 - 1)))
  have C_24 : Box4 (u4.setCell ⟨w1.heap.size, 8, none⟩ (.int .u8 (v8 - 1))) w.heap.size (.int .u32 a) (.int .u16 m) (.int .u32 b) (.int .u16 n) := ⟨by have := C_19.1; simpa using this, by simp [go_sem, c4_0, c4_1, c4_2, c4_3, x5_0, x5_1, x5_2, x5_3, x5_4, x5_5, x5_6, x5_7, x5_8, y6_0, y6_1, y6_2, y6_3, y6_4, y6_5, y6_6, y6_7, y6_8], by simp [go_sem, c4_0, c4_1, c4_2, c4_3, x5_0, x5_1, x5_2, x5_3, x5_4, x5_5, x5_6, x5_7, x5_8, y6_0, y6_1, y6_2, y6_3, y6_4, y6_5, y6_6, y6_7, y6_8], by simp [go_sem, c4_0, c4_1, c4_2, c4_3, x5_0, x5_1, x5_2, x5_3, x5_4, x5_5, x5_6, x5_7, x5_8, y6_0, y6_1, y6_2, y6_3, y6_4, y6_5, y6_6, y6_7, y6_8], by simp [go_sem, c4_0, c4_1, c4_2, c4_3, x5_0, x5_1, x5_2, x5_3, x5_4, x5_5, x5_6, x5_7, x5_8, y6_0, y6_1, y6_2, y6_3, y6_4, y6_5, y6_6, y6_7, y6_8]⟩
  have X_25 : Box9 (u4.setCell ⟨w1.heap.size, 8, none⟩ (.int .u8 (v8 - 1))) w1.heap.size (.int .u8 1) (.int .u32 v1) (.int .u16 v2) (.int .u32 v3) (.int .u16 v4) (.int .i64 3) (.int .u8 v6) (.bool v7) (.int .u8 (v8 - 1)) := ⟨by have := X_20.1; simpa using this, by simp [go_sem, c4_0, c4_1, c4_2, c4_3, x5_0, x5_1, x5_2, x5_3, x5_4, x5_5, x5_6, x5_7, x5_8, y6_0, y6_1, y6_2, y6_3, y6_4, y6_5, y6_6, y6_7, y6_8], by simp [go_sem, c4_0, c4_1, c4_2, c4_3, x5_0, x5_1, x5_2, x5_3, x5_4, x5_5, x5_6, x5_7, x5_8, y6_0, y6_1, y6_2, y6_3, y6_4, y6_5, y6_6, y6_7, y6_8], by simp [go_sem, c4_0, c4_1, c4_2, c4_3, x5_0, x5_1, x5_2, x5_3, x5_4, x5_5, x5_6, x5_7, x5_8, y6_0, y6_1, y6_2, y6_3, y6_4, y6_5, y6_6, y6_7, y6_8], by simp [go_sem, c4_0, c4_1, c4_2, c4_3, x5_0, x5_1, x5_2, x5_3, x5_4, x5_5, x5_6, x5_7, x5_8, y6_0, y6_1, y6_2, y6_3, y6_4, y6_5, y6_6, y6_7, y6_8], by simp [go_sem, c4_0, c4_1, c4_2, c4_3, x5_0, x5_1, x5_2, x5_3, x5_4, x5_5, x5_6, x5_7, x5_8, y6_0, y6_1, y6_2, y6_3, y6_4, y6_5, y6_6, y6_7, y6_8], by simp [go_sem, c4_0, c4_1, c4_2, c4_3, x5_0, x5_1, x5_2, x5_3, x5_4, x5_5, x5_6, x5_7, x5_8, y6_0, y6_1, y6_2, y6_3, y6_4, y6_5, y6_6, y6_7, y6_8], by simp [go_sem, c4_0, c4_1, c4_2, c4_3, x5_0, x5_1, x5_2, x5_3, x5_4, x5_5, x5_6, x5_7, x5_8, y6_0, y6_1, y6_2, y6_3, y6_4, y6_5, y6_6, y6_7, y6_8], by simp [go_sem, c4_0, c4_1, c4_2, c4_3, x5_0, x5_1, x5_2, x5_3, x5_4, x5_5, x5_6, x5_7, x5_8, y6_0, y6_1, y6_2, y6_3, y6_4, y6_5, y6_6, y6_7, y6_8], by simp [go_sem, c4_0, c4_1, c4_2, c4_3, x5_0, x5_1, x5_2, x5_3, x5_4, x5_5, x5_6, x5_7, x5_8, y6_0, y6_1, y6_2, y6_3, y6_4, y6_5, y6_6, y6_7, y6_8]⟩
  have Y_26 : Box9 (u4.setCell ⟨w1.heap.size, 8, none⟩ (.int .u8 (v8 - 1))) w3.heap.size (.int .u8 1) (.int .u32 a) (.int .u16 v2) (.int .u32 b) (.int .u16 v4) (.int .i64 3) (.int .u8 v6) (.bool v7) (.int .u8 (v8 - 1)) := ⟨by have := Y_21.1; simpa using this, by simp [go_sem, c4_0, c4_1, c4_2, c4_3, x5_0, x5_1, x5_2, x5_3, x5_4, x5_5, x5_6, x5_7, x5_8, y6_0, y6_1, y6_2, y6_3, y6_4, y6_5, y6_6, y6_7, y6_8], by simp [go_sem, c4_0, c4_1, c4_2, c4_3, x5_0, x5_1, x5_2, x5_3, x5_4, x5_5, x5_6, x5_7, x5_8, y6_0, y6_1, y6_2, y6_3, y6_4, y6_5, y6_6, y6_7, y6_8], by simp [go_sem, c4_0, c4_1, c4_2, c4_3, x5_0, x5_1, x5_2, x5_3, x5_4, x5_5, x5_6, x5_7, x5_8, y6_0, y6_1, y6_2, y6_3, y6_4, y6_5, y6_6, y6_7, y6_8], by simp [go_sem, c4_0, c4_1, c4_2, c4_3, x5_0, x5_1, x5_2, x5_3, x5_4, x5_5, x5_6, x5_7, x5_8, y6_0, y6_1, y6_2, y6_3, y6_4, y6_5, y6_6, y6_7, y6_8], by simp [go_sem, c4_0, c4_1, c4_2, c4_3, x5_0, x5_1, x5_2, x5_3, x5_4, x5_5, x5_6, x5_7, x5_8, y6_0, y6_1, y6_2, y6_3, y6_4, y6_5, y6_6, y6_7, y6_8], by simp [go_sem, c4_0, c4_1, c4_2, c4_3, x5_0, x5_1, x5_2, x5_3, x5_4, x5_5, x5_6, x5_7, x5_8, y6_0, y6_1, y6_2, y6_3, y6_4, y6_5, y6_6, y6_7, y6_8], by simp [go_sem, c4_0, c4_1, c4_2, c4_3, x5_0, x5_1, x5_2, x5_3, x5_4, x5_5, x5_6, x5_7, x5_8, y6_0, y6_1, y6_2, y6_3, y6_4, y6_5, y6_6, y6_7, y6_8], by simp [go_sem, c4_0, c4_1, c4_2, c4_3, x5_0, x5_1, x5_2, x5_3, x5_4, x5_5, x5_6, x5_7, x5_8, y6_0, y6_1, y6_2, y6_3, y6_4, y6_5, y6_6, y6_7, y6_8], by simp [go_sem, c4_0, c4_1, c4_2, c4_3, x5_0, x5_1, x5_2, x5_3, x5_4, x5_5, x5_6, x5_7, x5_8, y6_0, y6_1, y6_2, y6_3, y6_4, y6_5, y6_6, y6_7, y6_8]⟩
  have fzX_27 : ∀ i, (u4.setCell ⟨w1.heap.size, 8, none⟩ (.int .u8 (v8 - 1))).frozen? ⟨w1.heap.size, i, none⟩ = false := by intro i; simp [fzX_18]
  clear c4_0 c4_1 c4_2 c4_3 x5_0 x5_1 x5_2 x5_3 x5_4 x5_5 x5_6 x5_7 x5_8 y6_0 y6_1 y6_2 y6_3 y6_4 y6_5 y6_6 y6_7 y6_8 C_19 X_20 Y_21 fzX_18 B22
  obtain ⟨u5, hu5⟩ : ∃ x, x = (u4.setCell ⟨w1.heap.size, 8, none⟩ (.int .u8 (v8 - 1))) := ⟨_, rfl⟩
  rw [← hu5] at C_24 X_25 Y_26 fzX_27 B23 ⊢
  clear hu5
  obtain ⟨_, c7_0, c7_1, c7_2, c7_3⟩ := id C_24
  obtain ⟨_, x8_0, x8_1, x8_2, x8_3, x8_4, x8_5, x8_6, x8_7, x8_8⟩ := id X_25
  go_region
  clear c7_0 c7_1 c7_2 c7_3 x8_0 x8_1 x8_2 x8_3 x8_4 x8_5 x8_6 x8_7 x8_8
  obtain ⟨_, c9_0, c9_1, c9_2, c9_3⟩ := id C_24
  obtain ⟨_, x10_0, x10_1, x10_2, x10_3, x10_4, x10_5, x10_6, x10_7, x10_8⟩ := id X_25
  obtain ⟨_, y11_0, y11_1, y11_2, y11_3, y11_4, y11_5, y11_6, y11_7, y11_8⟩ := id Y_26
  have B28 := ((B23.setCell (p := ⟨w1.heap.size, 1, none⟩) LE.out (.int .u32 a)).setCell (p := ⟨w1.heap.size, 3, none⟩) LE.out (.int .u32 b)).drew
  have C_29 : Box4 ((u5.setCell ⟨w1.heap.size, 1, none⟩ (.int .u32 a)).setCell ⟨w1.heap.size, 3, none⟩ (.int .u32 b)).drew w.heap.size (.int .u32 a) (.int .u16 m) (.int .u32 b) (.int .u16 n) := ⟨by have := C_24.1; simpa using this, by simp [go_sem, c9_0, c9_1, c9_2, c9_3, x10_0, x10_1, x10_2, x10_3, x10_4, x10_5, x10_6, x10_7, x10_8, y11_0, y11_1, y11_2, y11_3, y11_4, y11_5, y11_6, y11_7, y11_8], by simp [go_sem, c9_0, c9_1, c9_2, c9_3, x10_0, x10_1, x10_2, x10_3, x10_4, x10_5, x10_6, x10_7, x10_8, y11_0, y11_1, y11_2, y11_3, y11_4, y11_5, y11_6, y11_7, y11_8], by simp [go_sem, c9_0, c9_1, c9_2, c9_3, x10_0, x10_1, x10_2, x10_3, x10_4, x10_5, x10_6, x10_7, x10_8, y11_0, y11_1, y11_2, y11_3, y11_4, y11_5, y11_6, y11_7, y11_8], by simp [go_sem, c9_0, c9_1, c9_2, c9_3, x10_0, x10_1, x10_2, x10_3, x10_4, x10_5, x10_6, x10_7, x10_8, y11_0, y11_1, y11_2, y11_3, y11_4, y11_5, y11_6, y11_7, y11_8]⟩
  have X_30 : Box9 ((u5.setCell ⟨w1.heap.size, 1, none⟩ (.int .u32 a)).setCell ⟨w1.heap.size, 3, none⟩ (.int .u32 b)).drew w1.heap.size (.int .u8 1) (.int .u32 a) (.int .u16 v2) (.int .u32 b) (.int .u16 v4) (.int .i64 3) (.int .u8 v6) (.bool v7) (.int .u8 (v8 - 1)) := ⟨by have := X_25.1; simpa using this, by simp [go_sem, c9_0, c9_1, c9_2, c9_3, x10_0, x10_1, x10_2, x10_3, x10_4, x10_5, x10_6, x10_7, x10_8, y11_0, y11_1, y11_2, y11_3, y11_4, y11_5, y11_6, y11_7, y11_8], by simp [go_sem, c9_0, c9_1, c9_2, c9_3, x10_0, x10_1, x10_2, x10_3, x10_4, x10_5, x10_6, x10_7, x10_8, y11_0, y11_1, y11_2, y11_3, y11_4, y11_5, y11_6, y11_7, y11_8], by simp [go_sem, c9_0, c9_1, c9_2, c9_3, x10_0, x10_1, x10_2, x10_3, x10_4, x10_5, x10_6, x10_7, x10_8, y11_0, y11_1, y11_2, y11_3, y11_4, y11_5, y11_6, y11_7, y11_8], by simp [go_sem, c9_0, c9_1, c9_2, c9_3, x10_0, x10_1, x10_2, x10_3, x10_4, x10_5, x10_6, x10_7, x10_8, y11_0, y11_1, y11_2, y11_3, y11_4, y11_5, y11_6, y11_7, y11_8], by simp [go_sem, c9_0, c9_1, c9_2, c9_3, x10_0, x10_1, x10_2, x10_3, x10_4, x10_5, x10_6, x10_7, x10_8, y11_0, y11_1, y11_2, y11_3, y11_4, y11_5, y11_6, y11_7, y11_8], by simp [go_sem, c9_0, c9_1, c9_2, c9_3, x10_0, x10_1, x10_2, x10_3, x10_4, x10_5, x10_6, x10_7, x10_8, y11_0, y11_1, y11_2, y11_3, y11_4, y11_5, y11_6, y11_7, y11_8], by simp [go_sem, c9_0, c9_1, c9_2, c9_3, x10_0, x10_1, x10_2, x10_3, x10_4, x10_5, x10_6, x10_7, x10_8, y11_0, y11_1, y11_2, y11_3, y11_4, y11_5, y11_6, y11_7, y11_8], by simp [go_sem, c9_0, c9_1, c9_2, c9_3, x10_0, x10_1, x10_2, x10_3, x10_4, x10_5, x10_6, x10_7, x10_8, y11_0, y11_1, y11_2, y11_3, y11_4, y11_5, y11_6, y11_7, y11_8], by simp [go_sem, c9_0, c9_1, c9_2, c9_3, x10_0, x10_1, x10_2, x10_3, x10_4, x10_5, x10_6, x10_7, x10_8, y11_0, y11_1, y11_2, y11_3, y11_4, y11_5, y11_6, y11_7, y11_8]⟩
  have Y_31 : Box9 ((u5.setCell ⟨w1.heap.size, 1, none⟩ (.int .u32 a)).setCell ⟨w1.heap.size, 3, none⟩ (.int .u32 b)).drew w3.heap.size (.int .u8 1) (.int .u32 a) (.int .u16 v2) (.int .u32 b) (.int .u16 v4) (.int .i64 3) (.int .u8 v6) (.bool v7) (.int .u8 (v8 - 1)) := ⟨by have := Y_26.1; simpa using this, by simp [go_sem, c9_0, c9_1, c9_2, c9_3, x10_0, x10_1, x10_2, x10_3, x10_4, x10_5, x10_6, x10_7, x10_8, y11_0, y11_1, y11_2, y11_3, y11_4, y11_5, y11_6, y11_7, y11_8], by simp [go_sem, c9_0, c9_1, c9_2, c9_3, x10_0, x10_1, x10_2, x10_3, x10_4, x10_5, x10_6, x10_7, x10_8, y11_0, y11_1, y11_2, y11_3, y11_4, y11_5, y11_6, y11_7, y11_8], by simp [go_sem, c9_0, c9_1, c9_2, c9_3, x10_0, x10_1, x10_2, x10_3, x10_4, x10_5, x10_6, x10_7, x10_8, y11_0, y11_1, y11_2, y11_3, y11_4, y11_5, y11_6, y11_7, y11_8], by simp [go_sem, c9_0, c9_1, c9_2, c9_3, x10_0, x10_1, x10_2, x10_3, x10_4, x10_5, x10_6, x10_7, x10_8, y11_0, y11_1, y11_2, y11_3, y11_4, y11_5, y11_6, y11_7, y11_8], by simp [go_sem, c9_0, c9_1, c9_2, c9_3, x10_0, x10_1, x10_2, x10_3, x10_4, x10_5, x10_6, x10_7, x10_8, y11_0, y11_1, y11_2, y11_3, y11_4, y11_5, y11_6, y11_7, y11_8], by simp [go_sem, c9_0, c9_1, c9_2, c9_3, x10_0, x10_1, x10_2, x10_3, x10_4, x10_5, x10_6, x10_7, x10_8, y11_0, y11_1, y11_2, y11_3, y11_4, y11_5, y11_6, y11_7, y11_8], by simp [go_sem, c9_0, c9_1, c9_2, c9_3, x10_0, x10_1, x10_2, x10_3, x10_4, x10_5, x10_6, x10_7, x10_8, y11_0, y11_1, y11_2, y11_3, y11_4, y11_5, y11_6, y11_7, y11_8], by simp [go_sem, c9_0, c9_1, c9_2, c9_3, x10_0, x10_1, x10_2, x10_3, x10_4, x10_5, x10_6, x10_7, x10_8, y11_0, y11_1, y11_2, y11_3, y11_4, y11_5, y11_6, y11_7, y11_8], by simp [go_sem, c9_0, c9_1, c9_2, c9_3, x10_0, x10_1, x10_2, x10_3, x10_4, x10_5, x10_6, x10_7, x10_8, y11_0, y11_1, y11_2, y11_3, y11_4, y11_5, y11_6, y11_7, y11_8]⟩
  have fzX_32 : ∀ i, ((u5.setCell ⟨w1.heap.size, 1, none⟩ (.int .u32 a)).setCell ⟨w1.heap.size, 3, none⟩ (.int .u32 b)).drew.frozen? ⟨w1.heap.size, i, none⟩ = false := by intro i; simp [fzX_27]
  clear c9_0 c9_1 c9_2 c9_3 x10_0 x10_1 x10_2 x10_3 x10_4 x10_5 x10_6 x10_7 x10_8 y11_0 y11_1 y11_2 y11_3 y11_4 y11_5 y11_6 y11_7 y11_8 C_24 X_25 Y_26 fzX_27 B23
  obtain ⟨u6, hu6⟩ : ∃ x, x = ((u5.setCell ⟨w1.heap.size, 1, none⟩ (.int .u32 a)).setCell ⟨w1.heap.size, 3, none⟩ (.int .u32 b)).drew := ⟨_, rfl⟩
  rw [← hu6] at C_29 X_30 Y_31 fzX_32 B28 ⊢
  clear hu6
  obtain ⟨_, x12_0, x12_1, x12_2, x12_3, x12_4, x12_5, x12_6, x12_7, x12_8⟩ := id X_30
  go_upto_region 18 with fail
  clear x12_0 x12_1 x12_2 x12_3 x12_4 x12_5 x12_6 x12_7 x12_8
  clear C_29
  clear ne1_ ne2_ ne3_ ne4_
  obtain ⟨wa, kA, hconvA, BA, hltA, HA⟩ := bytes_of_string (s.extract 0 T.size) u6
  have HA := Lib.hid HA
  have fzX_33 : ∀ i, wa.frozen? ⟨w1.heap.size, i, none⟩ = false := fun i => (BA.frozen (p := ⟨_, i, none⟩) X_30.1).trans (fzX_32 i)
  clear fzX_32
  have X_34 := X_30.on BA
  have Y_35 := Y_31.on BA
  have B36 := B28.trans (BA.mono B28.size)
  clear X_30 Y_31 B28 BA
  obtain ⟨wb, kB, hconvB, BB, hltB, HB⟩ := bytes_of_string T wa
  rw [zx] at HA hconvA
  have HA : Hid (Bts wb u6.heap.size T.size (bt (s.extract 0 T.size))) := fun i hi => ⟨(BB.cell (p := ⟨_, i, none⟩) hltA).trans (HA.out i hi).1, (BB.frozen (p := ⟨_, i, none⟩) hltA).trans (HA.out i hi).2⟩
  have hltA2 : u6.heap.size < wb.heap.size := Nat.lt_of_lt_of_le hltA BB.size
  have HB := Lib.hid HB
  have hltA := Lib.hid hltA2
  have hltB := Lib.hid hltB
  clear hltA2
  have fzX_37 : ∀ i, wb.frozen? ⟨w1.heap.size, i, none⟩ = false := fun i => (BB.frozen (p := ⟨_, i, none⟩) X_34.1).trans (fzX_33 i)
  clear fzX_33
  have X_38 := X_34.on BB
  have Y_39 := Y_35.on BB
  have B40 := B36.trans (BB.mono B36.size)
  clear X_34 Y_35 B36 BB
  go_upto_region 19 with fail
  clear hconvA hconvB
  refine region_later (B := wb.heap.size) (by kernel_rfl) (by kernel_rfl) ?_
  repeat (go_big_quiet_step (first
    | (go_at_call 15; exact later_of _ (Nat.le_refl _) (cs _))))
  refine later_end fun wc xc => ?_
  have HC : Hid (Bts wc u6.heap.size T.size (bt (s.extract 0 T.size))) := fun i hi => ⟨(xc.cell (p := ⟨_, i, none⟩) hltA.out).trans (HA.out i hi).1, (xc.frozen (p := ⟨_, i, none⟩) hltA.out).trans (HA.out i hi).2⟩
  have HD : Hid (Bts wc wa.heap.size T.size (bt T)) := fun i hi => ⟨(xc.cell (p := ⟨_, i, none⟩) hltB.out).trans (HB.out i hi).1, (xc.frozen (p := ⟨_, i, none⟩) hltB.out).trans (HB.out i hi).2⟩
  have LB := Lib.hid xc.size
  clear HA HB
  have fzX_41 : ∀ i, wc.frozen? ⟨w1.heap.size, i, none⟩ = false := fun i => (xc.frozen (p := ⟨_, i, none⟩) X_38.1).trans (fzX_37 i)
  clear fzX_37
  have X_42 := X_38.on xc
  have Y_43 := Y_39.on xc
  have B44 := B40.trans (xc.mono B40.size)
  clear X_38 Y_39 B40 xc
  go_wp2_with fail
  go_loopw [15] (fun si wr => ∃ i : Nat, i ≤ T.size ∧ si = .int .i64 (i : Int) ∧ Below wc.heap.size wc wr) (fun si _ => T.size - (intOf si).toNat)
  case atStart => exact ⟨0, Nat.zero_le _, rfl, Below.refl _ _⟩
  case round =>
    obtain ⟨i, hi, rfl, bb⟩ := hrel
    by_cases hlt : i < T.size
    rotate_left
    · have e10 : decide ((i : Int) < (T.size : Int)) = false := by simp; omega
      have e11 : decide (i < T.size) = false := by simp; omega
      clear hi hlt HC HD HX hz HS cs
      have X_300 := X_42.on bb
      have Y_300 := Y_43.on bb
      have BW := B44.trans (bb.mono B44.size)
      clear X_42 Y_43
      obtain ⟨_, x1_0, x1_1, x1_2, x1_3, x1_4, x1_5, x1_6, x1_7, x1_8⟩ := id X_300
      obtain ⟨_, y2_0, y2_1, y2_2, y2_3, y2_4, y2_5, y2_6, y2_7, y2_8⟩ := id Y_300
      go_wp2_with fail
      refine (examples9_ K _ (ht.on BW)).mono ?_; rintro e w1 ⟨rfl, x1⟩
      have X_301 := X_300.on x1
      have Y_302 := Y_300.on x1
      have B303 := BW.trans (x1.mono BW.size)
      clear x1_0 x1_1 x1_2 x1_3 x1_4 x1_5 x1_6 x1_7 x1_8 y2_0 y2_1 y2_2 y2_3 y2_4 y2_5 y2_6 y2_7 y2_8 X_300 Y_300 BW x1
      obtain ⟨_, x3_0, x3_1, x3_2, x3_3, x3_4, x3_5, x3_6, x3_7, x3_8⟩ := id X_301
      obtain ⟨_, y4_0, y4_1, y4_2, y4_3, y4_4, y4_5, y4_6, y4_7, y4_8⟩ := id Y_302
      go_wp2
      go_ret
      exact ⟨rfl, B303⟩
    have HL := Lib.hid hlt
    have e10 : decide ((i : Int) < (T.size : Int)) = true := by simp; omega
    have e11 : decide (i < T.size) = true := by simp; omega
    have e12 : (i : Int) < (T.size : Int) := by omega
    have e13 : (i : Int) + 1 ≤ 100000 := by have := HS.out.1; have := HS.out.2.2.2; omega
    have kA_ : wr.cell? ⟨u6.heap.size, i, none⟩ = some (.int .u8 (bt s i)) := by rw [← HX.out i hlt]; exact (bb.cell (p := ⟨_, i, none⟩) (Nat.lt_of_lt_of_le hltA.out LB.out)).trans (HC.out i hlt).1
    have kB_ : wr.cell? ⟨wa.heap.size, i, none⟩ = some (.int .u8 (bt T i)) := (bb.cell (p := ⟨_, i, none⟩) (Nat.lt_of_lt_of_le hltB.out LB.out)).trans (HD.out i hlt).1
    have lA : u6.heap.size < wr.heap.size := Nat.lt_of_lt_of_le (Nat.lt_of_lt_of_le hltA.out LB.out) bb.size
    have lB : wa.heap.size < wr.heap.size := Nat.lt_of_lt_of_le (Nat.lt_of_lt_of_le hltB.out LB.out) bb.size
    have zz := hz.out i hlt
    by_cases heq : bt s i = bt T i
    · clear zz
      have hk : (i < 8) ∨ (8 ≤ i ∧ i < 20 ∧ ¬ i = 9) ∨ (i = 9) ∨ (20 ≤ i) := by omega
      rcases hk with h1 | h1 | h1 | h1
      · skip
        have o20_ := HS.out.2.1
        have g0 : decide ((8 : Int) ≤ (i : Int)) = false := by simp; omega
        have g1 : decide (8 ≤ i) = false := by simp; omega
        rw [heq] at kA_
        clear heq
        clear hi hlt HC HD HX hz HS cs h1 o20_
        generalize bt T i = y at *
        have X_400 := X_42.on bb
        obtain ⟨_, x1_0, x1_1, x1_2, x1_3, x1_4, x1_5, x1_6, x1_7, x1_8⟩ := id X_400
        go_upto_region 25 with fail
        clear x1_0 x1_1 x1_2 x1_3 x1_4 x1_5 x1_6 x1_7 x1_8
        have FA : ∀ z_ : Later wr.heap.size wr, z_.u.cell? ⟨u6.heap.size, i, none⟩ = some (.int .u8 y) := fun z_ => z_.block lA kA_
        have FB : ∀ z_ : Later wr.heap.size wr, z_.u.cell? ⟨wa.heap.size, i, none⟩ = some (.int .u8 y) := fun z_ => z_.block lB kB_
        refine region_later (B := wr.heap.size) (by kernel_rfl) (by kernel_rfl) ?_
        repeat (go_big_quiet_step (fail))
        refine later_end fun w51 x51 => ?_
        have X_401 := X_400.on x51
        have B402 := bb.trans (x51.mono bb.size)
        clear X_400 bb x51
        clear FA FB kA_ kB_ lA lB
        go_wp2_with fail
        go_roundw
        case rel => exact ⟨i + 1, HL.out, by go_num, B402⟩
        case measure => have := HL.out; simp [intOf]; omega
      · skip
        have o20_ := HS.out.2.1
        have g0 : decide ((8 : Int) ≤ (i : Int)) = true := by simp; omega
        have g1 : decide (8 ≤ i) = true := by simp; omega
        have g2 : decide ((i : Int) < 20) = true := by simp; omega
        have g3 : decide (i < 20) = true := by simp; omega
        have g4 : ((i : Int) != 9) = true := by simpa using (show ¬ (i : Int) = 9 by omega)
        have g5 : (i != 9) = true := by simpa using (show ¬ i = 9 by omega)
        rw [heq] at kA_
        clear heq
        clear hi hlt HC HD HX hz HS cs h1 o20_
        generalize bt T i = y at *
        have X_400 := X_42.on bb
        obtain ⟨_, x1_0, x1_1, x1_2, x1_3, x1_4, x1_5, x1_6, x1_7, x1_8⟩ := id X_400
        go_upto_region 25 with fail
        clear x1_0 x1_1 x1_2 x1_3 x1_4 x1_5 x1_6 x1_7 x1_8
        have FA : ∀ z_ : Later wr.heap.size wr, z_.u.cell? ⟨u6.heap.size, i, none⟩ = some (.int .u8 y) := fun z_ => z_.block lA kA_
        have FB : ∀ z_ : Later wr.heap.size wr, z_.u.cell? ⟨wa.heap.size, i, none⟩ = some (.int .u8 y) := fun z_ => z_.block lB kB_
        refine region_later (B := wr.heap.size) (by kernel_rfl) (by kernel_rfl) ?_
        repeat (go_big_quiet_step (fail))
        refine later_end fun w51 x51 => ?_
        have X_401 := X_400.on x51
        have B402 := bb.trans (x51.mono bb.size)
        clear X_400 bb x51
        clear FA FB kA_ kB_ lA lB
        go_wp2_with fail
        go_roundw
        case rel => exact ⟨i + 1, HL.out, by go_num, B402⟩
        case measure => have := HL.out; simp [intOf]; omega
      · skip
        have o20_ := HS.out.2.1
        have g0 : decide ((8 : Int) ≤ (i : Int)) = true := by simp; omega
        have g1 : decide (8 ≤ i) = true := by simp; omega
        have g2 : decide ((i : Int) < 20) = true := by simp; omega
        have g3 : decide (i < 20) = true := by simp; omega
        have g4 : ((i : Int) != 9) = false := by simpa using (show (i : Int) = 9 by omega)
        have g5 : (i != 9) = false := by simpa using (show i = 9 by omega)
        rw [heq] at kA_
        clear heq
        clear hi hlt HC HD HX hz HS cs h1 o20_
        generalize bt T i = y at *
        have X_400 := X_42.on bb
        obtain ⟨_, x1_0, x1_1, x1_2, x1_3, x1_4, x1_5, x1_6, x1_7, x1_8⟩ := id X_400
        go_upto_region 25 with fail
        clear x1_0 x1_1 x1_2 x1_3 x1_4 x1_5 x1_6 x1_7 x1_8
        have FA : ∀ z_ : Later wr.heap.size wr, z_.u.cell? ⟨u6.heap.size, i, none⟩ = some (.int .u8 y) := fun z_ => z_.block lA kA_
        have FB : ∀ z_ : Later wr.heap.size wr, z_.u.cell? ⟨wa.heap.size, i, none⟩ = some (.int .u8 y) := fun z_ => z_.block lB kB_
        refine region_later (B := wr.heap.size) (by kernel_rfl) (by kernel_rfl) ?_
        repeat (go_big_quiet_step (fail))
        refine later_end fun w51 x51 => ?_
        have X_401 := X_400.on x51
        have B402 := bb.trans (x51.mono bb.size)
        clear X_400 bb x51
        clear FA FB kA_ kB_ lA lB
        go_wp2_with fail
        go_roundw
        case rel => exact ⟨i + 1, HL.out, by go_num, B402⟩
        case measure => have := HL.out; simp [intOf]; omega
      · skip
        have o20_ := HS.out.2.1
        have g0 : decide ((8 : Int) ≤ (i : Int)) = true := by simp; omega
        have g1 : decide (8 ≤ i) = true := by simp; omega
        have g2 : decide ((i : Int) < 20) = false := by simp; omega
        have g3 : decide (i < 20) = false := by simp; omega
        rw [heq] at kA_
        clear heq
        clear hi hlt HC HD HX hz HS cs h1 o20_
        generalize bt T i = y at *
        have X_400 := X_42.on bb
        obtain ⟨_, x1_0, x1_1, x1_2, x1_3, x1_4, x1_5, x1_6, x1_7, x1_8⟩ := id X_400
        go_upto_region 25 with fail
        clear x1_0 x1_1 x1_2 x1_3 x1_4 x1_5 x1_6 x1_7 x1_8
        have FA : ∀ z_ : Later wr.heap.size wr, z_.u.cell? ⟨u6.heap.size, i, none⟩ = some (.int .u8 y) := fun z_ => z_.block lA kA_
        have FB : ∀ z_ : Later wr.heap.size wr, z_.u.cell? ⟨wa.heap.size, i, none⟩ = some (.int .u8 y) := fun z_ => z_.block lB kB_
        refine region_later (B := wr.heap.size) (by kernel_rfl) (by kernel_rfl) ?_
        repeat (go_big_quiet_step (fail))
        refine later_end fun w51 x51 => ?_
        have X_401 := X_400.on x51
        have B402 := bb.trans (x51.mono bb.size)
        clear X_400 bb x51
        clear FA FB kA_ kB_ lA lB
        go_wp2_with fail
        go_roundw
        case rel => exact ⟨i + 1, HL.out, by go_num, B402⟩
        case measure => have := HL.out; simp [intOf]; omega
    · have hk : (8 ≤ i ∧ i < 20 ∧ ¬ i = 9) := by
        have o20_ := HS.out.2.1
        omega
      clear zz
      have h1 := hk
      clear hk
      · skip
        have o20_ := HS.out.2.1
        have g0 : decide ((8 : Int) ≤ (i : Int)) = true := by simp; omega
        have g1 : decide (8 ≤ i) = true := by simp; omega
        have g2 : decide ((i : Int) < 20) = true := by simp; omega
        have g3 : decide (i < 20) = true := by simp; omega
        have g4 : ((i : Int) != 9) = true := by simpa using (show ¬ (i : Int) = 9 by omega)
        have g5 : (i != 9) = true := by simpa using (show ¬ i = 9 by omega)
        have m1 : (bt s i != bt T i) = true := by simpa using heq
        clear hi hlt HC HD HX hz HS cs h1 heq o20_
        generalize bt T i = y at *
        generalize bt s i = x at *
        have X_400 := X_42.on bb
        obtain ⟨_, x1_0, x1_1, x1_2, x1_3, x1_4, x1_5, x1_6, x1_7, x1_8⟩ := id X_400
        go_upto_region 25 with fail
        clear x1_0 x1_1 x1_2 x1_3 x1_4 x1_5 x1_6 x1_7 x1_8
        have FA : ∀ z_ : Later wr.heap.size wr, z_.u.cell? ⟨u6.heap.size, i, none⟩ = some (.int .u8 x) := fun z_ => z_.block lA kA_
        have FB : ∀ z_ : Later wr.heap.size wr, z_.u.cell? ⟨wa.heap.size, i, none⟩ = some (.int .u8 y) := fun z_ => z_.block lB kB_
        refine region_later (B := wr.heap.size) (by kernel_rfl) (by kernel_rfl) ?_
        repeat (go_big_quiet_step (fail))
        refine later_end fun w51 x51 => ?_
        have X_401 := X_400.on x51
        have B402 := bb.trans (x51.mono bb.size)
        clear X_400 bb x51
        clear FA FB kA_ kB_ lA lB
        go_wp2_with fail
        go_roundw
        case rel => exact ⟨i + 1, HL.out, by go_num, B402⟩
        case measure => have := HL.out; simp [intOf]; omega
end Go.Proofs.YtbglnebmfnoenaaGreatDoor.RewriteSeen
