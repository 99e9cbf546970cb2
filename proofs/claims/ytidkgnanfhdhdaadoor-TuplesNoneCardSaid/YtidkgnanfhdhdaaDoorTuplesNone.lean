/- The walk of TuplesNone. -/
import Derived.Test.YtidkgnanfhdhdaaDoorGo
import Derived.Test.YtidkgnanfhdhdaaDoorGm
namespace Go.Proofs.YtidkgnanfhdhdaaDoor.TuplesNone
set_option linter.unusedVariables false
set_option linter.unusedSimpArgs false
open Go.ChangeShapes Go.WideShapes Go.ChangeAt Go.RowKit Go.PlainAid
theorem idM_r (r : ByteArray) : 0 ≤ idM r ∧ idM r ≤ 65535 := idM_bd r
theorem oM_r (pr : Int) (L : ByteArray) : 0 ≤ oM pr L ∧ oM pr L ≤ 65535 := by
  have h1 := idM_r (mR L); have h2 := g16_nonneg L 0; have h3 := g16_le L 0
  unfold oM
  split
  · split <;> omega
  · omega
theorem oN_r (pr : Int) (L : ByteArray) : 0 ≤ oN pr L ∧ oN pr L ≤ 65535 := by
  have h1 := idM_r (mR L); have h2 := g16_nonneg L 2; have h3 := g16_le L 2
  unfold oN
  split
  · split <;> omega
  · omega
theorem g32_r (s : ByteArray) (k : Nat) : 0 ≤ g32 s k ∧ g32 s k ≤ 4294967295 := by
  have h1 := g16_nonneg s k; have h2 := g16_le s k; have h3 := g16_nonneg s (k + 2); have h4 := g16_le s (k + 2)
  rw [g32_two]; omega
set_option maxRecDepth 100000 in
set_option maxHeartbeats 8000000 in
theorem walk_ (K : TupOk) (s : ByteArray) (c : Int) (w : World) (ht : Tab w) (hs : s.size ≤ maxLen) (hc : (Lit.int .u8 c).wf = true) :
    Calls Tryd.prog 3 #[.string s, .int .u8 c] w fun e w' => e = .returned (.bool true) ∧ Below w.heap.size w w' := by
  clear hs
  obtain ⟨c0, c1⟩ := bounds_u8 hc
  clear hc
  by_cases h1 : 2500 < s.size
  · have e1 : decide (2500 < s.size) = true := by simpa using h1
    have e2 : decide ((2500 : Int) < (s.size : Int)) = true := by simp; omega
    go_enter Tryd.func3, Tryd.ntmps3
    go_wp2_with fail
    refine (watched_ K _ ht).mono ?_; rintro e w1 ⟨rfl, b1⟩
    go_wp2
    go_ret
    exact ⟨rfl, b1⟩
  have e1 : decide (2500 < s.size) = false := by simpa using h1
  have e2 : decide ((2500 : Int) < (s.size : Int)) = false := by simp; omega
  have cO := fun u hu => K.ofs s u (by omega) hu
  by_cases hR : seenR s = 0
  rotate_left
  · obtain ⟨n1, n2⟩ := s_no hR
    have hq := seenR_range s
    obtain ⟨q, hqq⟩ : ∃ q, seenR s = q := ⟨_, rfl⟩
    rw [n1, n1, n1, n1, n1, n1, n1, n1, n2, hqq] at cO
    rw [hqq] at hq hR
    have e3 : (q != 0) = true := by simpa using hR
    have e4 : (q == 0) = false := by simpa using hR
    have e5 : decide (0 < q) = true := by simp; omega
    clear n1 n2 hR hqq hq h1
    go_enter Tryd.func3, Tryd.ntmps3
    have B1 := Below.refl w.heap.size w
    go_wp2_with fail
    refine (cO _ ht).mono ?_; rintro e w1 ⟨rfl, x1⟩
    have B2 := B1.trans (x1.mono B1.size)
    clear B1 x1
    clear cO
    have X_3 := Box9.make w1 (.int .u8 0) (.int .u32 0) (.int .u16 0) (.int .u32 0) (.int .u16 0) (.int .i64 0) (.int .u8 0) (.bool false) (.int .u8 0) 31
    have B4 := B2.alloc B2.size (.cells #[.int .u8 0, .int .u32 0, .int .u16 0, .int .u32 0, .int .u16 0, .int .i64 0, .int .u8 0, .bool false, .int .u8 0] 31)
    clear B2
    obtain ⟨_, x1_0, x1_1, x1_2, x1_3, x1_4, x1_5, x1_6, x1_7, x1_8⟩ := id X_3
    go_wp2_with fail
    refine (watched_ K _ (ht.on B4)).mono ?_; rintro e w2 ⟨rfl, x2⟩
    have X_5 := X_3.on x2
    have B6 := B4.trans (x2.mono B4.size)
    clear x1_0 x1_1 x1_2 x1_3 x1_4 x1_5 x1_6 x1_7 x1_8 X_3 B4 x2
    go_wp2
    go_ret
    exact ⟨rfl, B6⟩
  obtain ⟨hi, hO⟩ := seen_ip hR
  obtain ⟨may, k1, k3⟩ := o_may hO
  obtain ⟨f1, f2, f3, f4, f5, f6, f7, f8, f9⟩ := ip_facts hi
  obtain ⟨M, hM⟩ : ∃ M : Nat, g16 s 2 = (M : Int) := ⟨(g16 s 2).toNat, by omega⟩
  obtain ⟨a1, a2, a3, a4, a5, a6, a7, a8⟩ := ip_all hi M hM
  have hT : seenR (s.extract 0 M) = 0 := seen_of a3 (by rw [a4, a8]; exact hO)
  obtain ⟨x1, x2⟩ := s_yes hR
  obtain ⟨z1, z2⟩ := s_yes hT
  have zt : (s.extract 0 M).size = M := by rw [size_extract' s 0 M (Nat.zero_le _) a1]; omega
  have cT := fun u hu => K.ofs (s.extract 0 M) u (by omega) hu
  rw [z1, z1, z1, z1, z1, z1, z1, z1, z2, hT, a4, a5, a6, a7, a8] at cT
  rw [x1, x1, x1, x1, x1, x1, x1, x1, x2, hR] at cO
  obtain ⟨j, hj⟩ : ∃ j : Nat, max ((M : Int) - 1 - c) 0 = (j : Int) := ⟨(max ((M : Int) - 1 - c) 0).toNat, by omega⟩
  have hjM : j < M := by omega
  have hC : ¬ seenR (s.extract 0 j) = 0 := fun h => ip_cut hi M j hM hjM (seen_ip h).1
  obtain ⟨n1, n2⟩ := s_no hC
  have zc : (s.extract 0 j).size = j := by rw [size_extract' s 0 j (Nat.zero_le _) (by omega)]; omega
  have cC := fun u hu => K.ofs (s.extract 0 j) u (by omega) hu
  obtain ⟨q, hq⟩ : ∃ q, seenR (s.extract 0 j) = q := ⟨_, rfl⟩
  rw [n1, n1, n1, n1, n1, n1, n1, n1, n2, hq] at cC
  rw [hq] at hC
  have e3 : (q != 0) = true := by simpa using hC
  have e4 : (q == 0) = false := by simpa using hC
  have cM := fun u hu => K.mays (bt s 9) (g32 s 12) (oM (bt s 9) (pP s)) (g32 s 16) (oN (bt s 9) (pP s)) u (bt_nonneg s 9) (bt_le s 9) (g32_r s 12).1 (g32_r s 12).2 (oM_r _ _).1 (oM_r _ _).2 (g32_r s 16).1 (g32_r s 16).2 (oN_r _ _).1 (oN_r _ _).2 hu
  rw [may] at cM
  have t0 := bt_nonneg s 2; have t1 := bt_le s 2; have t2 := bt_nonneg s 3; have t3 := bt_le s 3
  have g0 := bt_nonneg s 2
  have hb := get_bt s
  have hg : bt s 2 * 256 + bt s 3 = (M : Int) := by rw [← hM]; rfl
  generalize bt s 9 = v0 at *
  generalize g32 s 12 = v1 at *
  generalize oM v0 (pP s) = v2 at *
  generalize g32 s 16 = v3 at *
  generalize oN v0 (pP s) = v4 at *
  generalize oK v0 (pP s) = v5 at *
  generalize oF v0 (pP s) = v6 at *
  generalize oA v0 (pP s) = v7 at *
  generalize bt s 8 = v8 at *
  have e5 : decide (v5 < 1) = false := by simp; omega
  have e6 : decide (3 < v5) = false := by simp; omega
  have e7 : decide ((s.size : Int) < 20) = false := by simp; omega
  have e8 : decide (s.size < 20) = false := by simp; omega
  have i2 : (2 : Int) < (s.size : Int) := by omega
  have i3 : (3 : Int) < (s.size : Int) := by omega
  have e9 : decide ((s.size : Int) < (M : Int)) = false := by simp; omega
  have e10 : decide (s.size < M) = false := by simp; omega
  have i4 : (M : Int) ≤ (s.size : Int) := by omega
  have i5 : (j : Int) ≤ (s.size : Int) := by omega
  clear hR hi hO may k1 k3 f1 f2 f3 f4 f5 f6 f7 f8 f9 a1 a2 a3 a4 a5 a6 a7 a8 hT x1 x2 z1 z2 zt n1 n2 zc hq hC hM h1
  go_enter Tryd.func3, Tryd.ntmps3
  have B1 := Below.refl w.heap.size w
  go_wp2_with fail
  refine (cO _ ht).mono ?_; rintro e w1 ⟨rfl, x1⟩
  have B2 := B1.trans (x1.mono B1.size)
  clear B1 x1
  clear cO
  have X_3 := Box9.make w1 (.int .u8 v0) (.int .u32 v1) (.int .u16 v2) (.int .u32 v3) (.int .u16 v4) (.int .i64 v5) (.int .u8 v6) (.bool v7) (.int .u8 v8) 31
  have B4 := B2.alloc B2.size (.cells #[.int .u8 v0, .int .u32 v1, .int .u16 v2, .int .u32 v3, .int .u16 v4, .int .i64 v5, .int .u8 v6, .bool v7, .int .u8 v8] 31)
  clear B2
  obtain ⟨_, x1_0, x1_1, x1_2, x1_3, x1_4, x1_5, x1_6, x1_7, x1_8⟩ := id X_3
  go_wp2_with fail
  refine (cM _ (ht.on B4)).mono ?_; rintro e w2 ⟨rfl, x2⟩
  have X_5 := X_3.on x2
  have B6 := B4.trans (x2.mono B4.size)
  clear x1_0 x1_1 x1_2 x1_3 x1_4 x1_5 x1_6 x1_7 x1_8 X_3 B4 x2
  clear cM
  obtain ⟨_, x2_0, x2_1, x2_2, x2_3, x2_4, x2_5, x2_6, x2_7, x2_8⟩ := id X_5
  go_wp2_with fail
  clear x2_0 x2_1 x2_2 x2_3 x2_4 x2_5 x2_6 x2_7 x2_8
  refine region_later (B := w2.heap.size) (by kernel_rfl) (by kernel_rfl) ?_
  repeat (go_big_quiet_step (fail))
  refine later_end fun w3 x3 => ?_
  have X_7 := X_5.on x3
  have B8 := B6.trans (x3.mono B6.size)
  clear X_5 B6 x3
  go_wp2_with fail
  refine (cT _ (ht.on B8)).mono ?_; rintro e w4 ⟨rfl, x4⟩
  have X_9 := X_7.on x4
  have B10 := B8.trans (x4.mono B8.size)
  clear X_7 B8 x4
  clear cT
  have X_11 := X_9.past (o := (.cells #[.int .u8 v0, .int .u32 v1, .int .u16 v2, .int .u32 v3, .int .u16 v4, .int .i64 v5, .int .u8 v6, .bool v7, .int .u8 v8] 31))
  have Y_12 := Box9.make w4 (.int .u8 v0) (.int .u32 v1) (.int .u16 v2) (.int .u32 v3) (.int .u16 v4) (.int .i64 v5) (.int .u8 v6) (.bool v7) (.int .u8 v8) 31
  have B13 := B10.alloc B10.size (.cells #[.int .u8 v0, .int .u32 v1, .int .u16 v2, .int .u32 v3, .int .u16 v4, .int .i64 v5, .int .u8 v6, .bool v7, .int .u8 v8] 31)
  clear X_9 B10
  go_wp2_with fail
  refine (cC _ (ht.on B13)).mono ?_; rintro e w5 ⟨rfl, x5⟩
  have X_14 := X_11.on x5
  have Y_15 := Y_12.on x5
  have B16 := B13.trans (x5.mono B13.size)
  clear X_11 Y_12 B13 x5
  clear cC
  have X_17 := X_14.past (o := (.cells #[.int .u8 0, .int .u32 0, .int .u16 0, .int .u32 0, .int .u16 0, .int .i64 0, .int .u8 0, .bool false, .int .u8 0] 31))
  have Y_18 := Y_15.past (o := (.cells #[.int .u8 0, .int .u32 0, .int .u16 0, .int .u32 0, .int .u16 0, .int .i64 0, .int .u8 0, .bool false, .int .u8 0] 31))
  have B19 := B16.alloc B16.size (.cells #[.int .u8 0, .int .u32 0, .int .u16 0, .int .u32 0, .int .u16 0, .int .i64 0, .int .u8 0, .bool false, .int .u8 0] 31)
  clear X_14 Y_15 B16
  obtain ⟨_, x3_0, x3_1, x3_2, x3_3, x3_4, x3_5, x3_6, x3_7, x3_8⟩ := id X_17
  obtain ⟨_, y4_0, y4_1, y4_2, y4_3, y4_4, y4_5, y4_6, y4_7, y4_8⟩ := id Y_18
  go_wp2_with fail
  refine (watched_ K _ (ht.on B19)).mono ?_; rintro e w6 ⟨rfl, x6⟩
  have X_20 := X_17.on x6
  have Y_21 := Y_18.on x6
  have B22 := B19.trans (x6.mono B19.size)
  clear x3_0 x3_1 x3_2 x3_3 x3_4 x3_5 x3_6 x3_7 x3_8 y4_0 y4_1 y4_2 y4_3 y4_4 y4_5 y4_6 y4_7 y4_8 X_17 Y_18 B19 x6
  go_wp2
  go_ret
  exact ⟨rfl, B22⟩
end Go.Proofs.YtidkgnanfhdhdaaDoor.TuplesNone
