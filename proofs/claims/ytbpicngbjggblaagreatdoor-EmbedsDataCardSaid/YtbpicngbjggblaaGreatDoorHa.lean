/- Texts of this proof, together: EmbD, EmbE, EmbF, EmbG, EmbH, EmbI, EmbJ. -/
import Derived.Test.YtbpicngbjggblaaGreatDoorTake
import Derived.Test.YtbpicngbjggblaaGreatDoorGz
import Derived.Test.YtbpicngbjggblaaGreatDoorGt
import Derived.Test.YtbpicngbjggblaaGreatDoorGc
import Derived.Test.YtbpicngbjggblaaGreatDoorGj
import Derived.Test.YtbpicngbjggblaaGreatDoorGn
import Derived.Test.YtbpicngbjggblaaGreatDoorGs
import Derived.Test.YtbpicngbjggblaaGreatDoorGo
import Derived.BigRegion
import Derived.Deep.DeepCutAuto
import Derived.Deep.RegionHeld3
import Derived.Deep.DrawnRows
namespace Go.Proofs.YtbpicngbjggblaaGreatDoor
set_option maxHeartbeats 4000000
set_option maxRecDepth 100000
set_option linter.unusedVariables false
set_option linter.unusedSimpArgs false
open Go.ChangeShapes Go.WideShapes Go.ChangeAt Go.RowKit Go.PlainAid
attribute [local go_sem ↓] Go.wp_at_zero Go.wp_at_succ
theorem v32_at {s : ByteArray} {i : Int} {k : Nat} (hi : i = (k : Int)) (h : k + 4 ≤ s.size) : v32 s i = g32 s k := by
  have e : okAt s k 4 = true := okAt_yes (m := 4) (by omega)
  unfold v32
  rw [hi, if_pos e, Int.toNat_natCast]
theorem addr10_ (s : ByteArray) (i : Int) (k : Nat) (w : World) (hi : i = (k : Int)) (hs : s.size ≤ 1000000) (h : k + 4 ≤ s.size) :
    Calls Tryz.prog 72 #[.string s, .int .i64 i] w fun e w' => e = .returned (.int .u32 (g32 s k)) ∧ w = w' := by
  have c := fun u => rget32_any s i u (by unfold maxLen; omega)
  rw [v32_at hi h] at c
  generalize g32 s k = R at *
  generalize okAt s i 4 = y at *
  clear hi h hs
  go_enter Tryz.func72, Tryz.ntmps72
  go_wp2_with fail
  refine (c _).mono ?_; rintro e w1 ⟨rfl, rfl⟩
  go_wp2
  go_ret
  exact ⟨rfl, rfl⟩
theorem look10_short (D : ByteArray) (e1 : decide (D.size < 20) = true) (e2 : decide ((D.size : Int) < 20) = true) (w : World) :
    Cw_ 32 #[.string D] (.agg #[.int .i64 0, .int .u8 0, .int .u32 0, .int .u16 0, .int .u32 0, .int .u16 0, .bool false, .int .i64 15]) w := by
  have hb := get_bt D
  have b0 := bt_nonneg D 0
  have b1 := bt_le D 0
  go_enter Tryz.func32, Tryz.ntmps32
  have B1 := Below.refl w.heap.size w
  go_upto_region 1 with fail
  have R_2 := Box8.make w (.int .i64 0) (.int .u8 0) (.int .u32 0) (.int .u16 0) (.int .u32 0) (.int .u16 0) (.bool false) (.int .i64 0) 85
  have B3 := B1.alloc B1.size (.cells #[.int .i64 0, .int .u8 0, .int .u32 0, .int .u16 0, .int .u32 0, .int .u16 0, .bool false, .int .i64 0] 85)
  clear B1
  have fzR_4 : ∀ i, (w.alloc (.cells #[.int .i64 0, .int .u8 0, .int .u32 0, .int .u16 0, .int .u32 0, .int .u16 0, .bool false, .int .i64 0] 85)).frozen? ⟨w.heap.size, i, none⟩ = false := by intro i; simp [go_sem]
  obtain ⟨u1, hu1⟩ : ∃ x_ : World, x_ = w.alloc (.cells #[.int .i64 0, .int .u8 0, .int .u32 0, .int .u16 0, .int .u32 0, .int .u16 0, .bool false, .int .i64 0] 85) := ⟨_, rfl⟩
  rw [← hu1] at R_2 fzR_4 B3 ⊢
  clear hu1
  obtain ⟨_, r1_0, r1_1, r1_2, r1_3, r1_4, r1_5, r1_6, r1_7⟩ := id R_2
  go_wp2
  refine box8_ (b := w.heap.size) R_2.some B3 (Nat.le_refl _) fun Z x0 x1 x2 x3 x4 x5 x6 x7 BZ _ => ?_
  refine bodyPost_ret (v := .agg #[.int .i64 0, .int .u8 0, .int .u32 0, .int .u16 0, .int .u32 0, .int .u16 0, .bool false, .int .i64 15]) (by simp [results, Tryz.results32, go_sem, x0, x1, x2, x3, x4, x5, x6, x7]) rfl ?_
  exact ⟨rfl, BZ⟩
theorem look10_ver (D : ByteArray) (e1 : decide (D.size < 20) = false) (e2 : decide ((D.size : Int) < 20) = false) (i0 : (0 : Int) < (D.size : Int)) (e3 : (bt D 0 / 16 == 4) = false) (e4 : (bt D 0 / 16 != 4) = true) (w : World) :
    Cw_ 32 #[.string D] (.agg #[.int .i64 0, .int .u8 0, .int .u32 0, .int .u16 0, .int .u32 0, .int .u16 0, .bool false, .int .i64 15]) w := by
  have hb := get_bt D
  have b0 := bt_nonneg D 0
  have b1 := bt_le D 0
  go_enter Tryz.func32, Tryz.ntmps32
  have B1 := Below.refl w.heap.size w
  go_upto_region 1 with fail
  have R_2 := Box8.make w (.int .i64 0) (.int .u8 0) (.int .u32 0) (.int .u16 0) (.int .u32 0) (.int .u16 0) (.bool false) (.int .i64 0) 85
  have B3 := B1.alloc B1.size (.cells #[.int .i64 0, .int .u8 0, .int .u32 0, .int .u16 0, .int .u32 0, .int .u16 0, .bool false, .int .i64 0] 85)
  clear B1
  have fzR_4 : ∀ i, (w.alloc (.cells #[.int .i64 0, .int .u8 0, .int .u32 0, .int .u16 0, .int .u32 0, .int .u16 0, .bool false, .int .i64 0] 85)).frozen? ⟨w.heap.size, i, none⟩ = false := by intro i; simp [go_sem]
  obtain ⟨u1, hu1⟩ : ∃ x_ : World, x_ = w.alloc (.cells #[.int .i64 0, .int .u8 0, .int .u32 0, .int .u16 0, .int .u32 0, .int .u16 0, .bool false, .int .i64 0] 85) := ⟨_, rfl⟩
  rw [← hu1] at R_2 fzR_4 B3 ⊢
  clear hu1
  obtain ⟨_, r1_0, r1_1, r1_2, r1_3, r1_4, r1_5, r1_6, r1_7⟩ := id R_2
  go_wp2
  refine box8_ (b := w.heap.size) R_2.some B3 (Nat.le_refl _) fun Z x0 x1 x2 x3 x4 x5 x6 x7 BZ _ => ?_
  refine bodyPost_ret (v := .agg #[.int .i64 0, .int .u8 0, .int .u32 0, .int .u16 0, .int .u32 0, .int .u16 0, .bool false, .int .i64 15]) (by simp [results, Tryz.results32, go_sem, x0, x1, x2, x3, x4, x5, x6, x7]) rfl ?_
  exact ⟨rfl, BZ⟩
theorem look10_end1 (D : ByteArray) (o : Nat) (e1 : decide (D.size < 20) = false) (e2 : decide ((D.size : Int) < 20) = false) (i0 : (0 : Int) < (D.size : Int)) (e3 : (bt D 0 / 16 == 4) = true) (e4 : (bt D 0 / 16 != 4) = false) (e5 : bt D 0 % 16 * 4 = (o : Int)) (o60 : o ≤ 60) (e6 : decide (o < 20) = true) (e7 : decide ((o : Int) < 20) = true) (w : World) :
    Cw_ 32 #[.string D] (.agg #[.int .i64 0, .int .u8 0, .int .u32 0, .int .u16 0, .int .u32 0, .int .u16 0, .bool false, .int .i64 15]) w := by
  have hb := get_bt D
  have b0 := bt_nonneg D 0
  have b1 := bt_le D 0
  go_enter Tryz.func32, Tryz.ntmps32
  have B1 := Below.refl w.heap.size w
  go_upto_region 1 with fail
  have R_2 := Box8.make w (.int .i64 0) (.int .u8 0) (.int .u32 0) (.int .u16 0) (.int .u32 0) (.int .u16 0) (.bool false) (.int .i64 0) 85
  have B3 := B1.alloc B1.size (.cells #[.int .i64 0, .int .u8 0, .int .u32 0, .int .u16 0, .int .u32 0, .int .u16 0, .bool false, .int .i64 0] 85)
  clear B1
  have fzR_4 : ∀ i, (w.alloc (.cells #[.int .i64 0, .int .u8 0, .int .u32 0, .int .u16 0, .int .u32 0, .int .u16 0, .bool false, .int .i64 0] 85)).frozen? ⟨w.heap.size, i, none⟩ = false := by intro i; simp [go_sem]
  obtain ⟨u1, hu1⟩ : ∃ x_ : World, x_ = w.alloc (.cells #[.int .i64 0, .int .u8 0, .int .u32 0, .int .u16 0, .int .u32 0, .int .u16 0, .bool false, .int .i64 0] 85) := ⟨_, rfl⟩
  rw [← hu1] at R_2 fzR_4 B3 ⊢
  clear hu1
  obtain ⟨_, r1_0, r1_1, r1_2, r1_3, r1_4, r1_5, r1_6, r1_7⟩ := id R_2
  go_wp2
  refine box8_ (b := w.heap.size) R_2.some B3 (Nat.le_refl _) fun Z x0 x1 x2 x3 x4 x5 x6 x7 BZ _ => ?_
  refine bodyPost_ret (v := .agg #[.int .i64 0, .int .u8 0, .int .u32 0, .int .u16 0, .int .u32 0, .int .u16 0, .bool false, .int .i64 15]) (by simp [results, Tryz.results32, go_sem, x0, x1, x2, x3, x4, x5, x6, x7]) rfl ?_
  exact ⟨rfl, BZ⟩
theorem look10_end2 (D : ByteArray) (o : Nat) (e1 : decide (D.size < 20) = false) (e2 : decide ((D.size : Int) < 20) = false) (i0 : (0 : Int) < (D.size : Int)) (e3 : (bt D 0 / 16 == 4) = true) (e4 : (bt D 0 / 16 != 4) = false) (e5 : bt D 0 % 16 * 4 = (o : Int)) (o60 : o ≤ 60) (e6 : decide (o < 20) = false) (e7 : decide ((o : Int) < 20) = false) (e8 : decide (D.size < o) = true) (e9 : decide ((D.size : Int) < (o : Int)) = true) (w : World) :
    Cw_ 32 #[.string D] (.agg #[.int .i64 0, .int .u8 0, .int .u32 0, .int .u16 0, .int .u32 0, .int .u16 0, .bool false, .int .i64 15]) w := by
  have hb := get_bt D
  have b0 := bt_nonneg D 0
  have b1 := bt_le D 0
  go_enter Tryz.func32, Tryz.ntmps32
  have B1 := Below.refl w.heap.size w
  go_upto_region 1 with fail
  have R_2 := Box8.make w (.int .i64 0) (.int .u8 0) (.int .u32 0) (.int .u16 0) (.int .u32 0) (.int .u16 0) (.bool false) (.int .i64 0) 85
  have B3 := B1.alloc B1.size (.cells #[.int .i64 0, .int .u8 0, .int .u32 0, .int .u16 0, .int .u32 0, .int .u16 0, .bool false, .int .i64 0] 85)
  clear B1
  have fzR_4 : ∀ i, (w.alloc (.cells #[.int .i64 0, .int .u8 0, .int .u32 0, .int .u16 0, .int .u32 0, .int .u16 0, .bool false, .int .i64 0] 85)).frozen? ⟨w.heap.size, i, none⟩ = false := by intro i; simp [go_sem]
  obtain ⟨u1, hu1⟩ : ∃ x_ : World, x_ = w.alloc (.cells #[.int .i64 0, .int .u8 0, .int .u32 0, .int .u16 0, .int .u32 0, .int .u16 0, .bool false, .int .i64 0] 85) := ⟨_, rfl⟩
  rw [← hu1] at R_2 fzR_4 B3 ⊢
  clear hu1
  obtain ⟨_, r1_0, r1_1, r1_2, r1_3, r1_4, r1_5, r1_6, r1_7⟩ := id R_2
  go_wp2
  refine box8_ (b := w.heap.size) R_2.some B3 (Nat.le_refl _) fun Z x0 x1 x2 x3 x4 x5 x6 x7 BZ _ => ?_
  refine bodyPost_ret (v := .agg #[.int .i64 0, .int .u8 0, .int .u32 0, .int .u16 0, .int .u32 0, .int .u16 0, .bool false, .int .i64 15]) (by simp [results, Tryz.results32, go_sem, x0, x1, x2, x3, x4, x5, x6, x7]) rfl ?_
  exact ⟨rfl, BZ⟩
theorem look10_piece (D : ByteArray) (o : Nat) (e1 : decide (D.size < 20) = false) (e2 : decide ((D.size : Int) < 20) = false) (i0 : (0 : Int) < (D.size : Int)) (e3 : (bt D 0 / 16 == 4) = true) (e4 : (bt D 0 / 16 != 4) = false) (e5 : bt D 0 % 16 * 4 = (o : Int)) (o60 : o ≤ 60) (e6 : decide (o < 20) = false) (e7 : decide ((o : Int) < 20) = false) (e8 : decide (D.size < o) = false) (e9 : decide ((D.size : Int) < (o : Int)) = false) (q : Int) (q0 : 0 ≤ q) (q1 : q ≤ 65535) (cw : ∀ u : World, Calls Tryz.prog 71 #[.string D, .int .i64 6] u fun e w' => e = .returned (.int .u16 q) ∧ u = w') (ea : (q % 8192 == 0) = false) (eb : (q % 8192 != 0) = true) (w : World) :
    Cw_ 32 #[.string D] (.agg #[.int .i64 0, .int .u8 0, .int .u32 0, .int .u16 0, .int .u32 0, .int .u16 0, .bool false, .int .i64 15]) w := by
  have hb := get_bt D
  have b0 := bt_nonneg D 0
  have b1 := bt_le D 0
  go_enter Tryz.func32, Tryz.ntmps32
  have B1 := Below.refl w.heap.size w
  go_upto_region 1 with fail
  have R_2 := Box8.make w (.int .i64 0) (.int .u8 0) (.int .u32 0) (.int .u16 0) (.int .u32 0) (.int .u16 0) (.bool false) (.int .i64 0) 85
  have B3 := B1.alloc B1.size (.cells #[.int .i64 0, .int .u8 0, .int .u32 0, .int .u16 0, .int .u32 0, .int .u16 0, .bool false, .int .i64 0] 85)
  clear B1
  have fzR_4 : ∀ i, (w.alloc (.cells #[.int .i64 0, .int .u8 0, .int .u32 0, .int .u16 0, .int .u32 0, .int .u16 0, .bool false, .int .i64 0] 85)).frozen? ⟨w.heap.size, i, none⟩ = false := by intro i; simp [go_sem]
  obtain ⟨u1, hu1⟩ : ∃ x_ : World, x_ = w.alloc (.cells #[.int .i64 0, .int .u8 0, .int .u32 0, .int .u16 0, .int .u32 0, .int .u16 0, .bool false, .int .i64 0] 85) := ⟨_, rfl⟩
  rw [← hu1] at R_2 fzR_4 B3 ⊢
  clear hu1
  go_wp2_with fail
  refine (cw _).mono ?_; rintro e w2 ⟨rfl, rfl⟩
  obtain ⟨_, r1_0, r1_1, r1_2, r1_3, r1_4, r1_5, r1_6, r1_7⟩ := id R_2
  go_wp2
  refine box8_ (b := w.heap.size) R_2.some B3 (Nat.le_refl _) fun Z x0 x1 x2 x3 x4 x5 x6 x7 BZ _ => ?_
  refine bodyPost_ret (v := .agg #[.int .i64 0, .int .u8 0, .int .u32 0, .int .u16 0, .int .u32 0, .int .u16 0, .bool false, .int .i64 15]) (by simp [results, Tryz.results32, go_sem, x0, x1, x2, x3, x4, x5, x6, x7]) rfl ?_
  exact ⟨rfl, BZ⟩
theorem look10_few (D : ByteArray) (o : Nat) (e1 : decide (D.size < 20) = false) (e2 : decide ((D.size : Int) < 20) = false) (i0 : (0 : Int) < (D.size : Int)) (e3 : (bt D 0 / 16 == 4) = true) (e4 : (bt D 0 / 16 != 4) = false) (e5 : bt D 0 % 16 * 4 = (o : Int)) (o60 : o ≤ 60) (e6 : decide (o < 20) = false) (e7 : decide ((o : Int) < 20) = false) (e8 : decide (D.size < o) = false) (e9 : decide ((D.size : Int) < (o : Int)) = false) (q : Int) (q0 : 0 ≤ q) (q1 : q ≤ 65535) (cw : ∀ u : World, Calls Tryz.prog 71 #[.string D, .int .i64 6] u fun e w' => e = .returned (.int .u16 q) ∧ u = w') (ea : (q % 8192 == 0) = true) (eb : (q % 8192 != 0) = false) (r : Int) (ew : wrap64 ((D.size : Int) - (o : Int)) = r) (ec : decide (r < 8) = true) (w : World) :
    Cw_ 32 #[.string D] (.agg #[.int .i64 0, .int .u8 0, .int .u32 0, .int .u16 0, .int .u32 0, .int .u16 0, .bool false, .int .i64 15]) w := by
  have hb := get_bt D
  have b0 := bt_nonneg D 0
  have b1 := bt_le D 0
  go_enter Tryz.func32, Tryz.ntmps32
  have B1 := Below.refl w.heap.size w
  go_upto_region 1 with fail
  have R_2 := Box8.make w (.int .i64 0) (.int .u8 0) (.int .u32 0) (.int .u16 0) (.int .u32 0) (.int .u16 0) (.bool false) (.int .i64 0) 85
  have B3 := B1.alloc B1.size (.cells #[.int .i64 0, .int .u8 0, .int .u32 0, .int .u16 0, .int .u32 0, .int .u16 0, .bool false, .int .i64 0] 85)
  clear B1
  have fzR_4 : ∀ i, (w.alloc (.cells #[.int .i64 0, .int .u8 0, .int .u32 0, .int .u16 0, .int .u32 0, .int .u16 0, .bool false, .int .i64 0] 85)).frozen? ⟨w.heap.size, i, none⟩ = false := by intro i; simp [go_sem]
  obtain ⟨u1, hu1⟩ : ∃ x_ : World, x_ = w.alloc (.cells #[.int .i64 0, .int .u8 0, .int .u32 0, .int .u16 0, .int .u32 0, .int .u16 0, .bool false, .int .i64 0] 85) := ⟨_, rfl⟩
  rw [← hu1] at R_2 fzR_4 B3 ⊢
  clear hu1
  go_wp2_with fail
  refine (cw _).mono ?_; rintro e w2 ⟨rfl, rfl⟩
  obtain ⟨_, r1_0, r1_1, r1_2, r1_3, r1_4, r1_5, r1_6, r1_7⟩ := id R_2
  go_wp2
  refine box8_ (b := w.heap.size) R_2.some B3 (Nat.le_refl _) fun Z x0 x1 x2 x3 x4 x5 x6 x7 BZ _ => ?_
  refine bodyPost_ret (v := .agg #[.int .i64 0, .int .u8 0, .int .u32 0, .int .u16 0, .int .u32 0, .int .u16 0, .bool false, .int .i64 15]) (by simp [results, Tryz.results32, go_sem, x0, x1, x2, x3, x4, x5, x6, x7]) rfl ?_
  exact ⟨rfl, BZ⟩
theorem look10_none (D : ByteArray) (o : Nat) (e1 : decide (D.size < 20) = false) (e2 : decide ((D.size : Int) < 20) = false) (i0 : (0 : Int) < (D.size : Int)) (e3 : (bt D 0 / 16 == 4) = true) (e4 : (bt D 0 / 16 != 4) = false) (e5 : bt D 0 % 16 * 4 = (o : Int)) (o60 : o ≤ 60) (e6 : decide (o < 20) = false) (e7 : decide ((o : Int) < 20) = false) (e8 : decide (D.size < o) = false) (e9 : decide ((D.size : Int) < (o : Int)) = false) (q : Int) (q0 : 0 ≤ q) (q1 : q ≤ 65535) (cw : ∀ u : World, Calls Tryz.prog 71 #[.string D, .int .i64 6] u fun e w' => e = .returned (.int .u16 q) ∧ u = w') (ea : (q % 8192 == 0) = true) (eb : (q % 8192 != 0) = false) (r : Int) (ew : wrap64 ((D.size : Int) - (o : Int)) = r) (ec : decide (r < 8) = false) (io : (o : Int) ≤ (D.size : Int)) (i9 : (9 : Int) < (D.size : Int)) (v1 v3 : Int) (c12 : ∀ u : World, Calls Tryz.prog 72 #[.string D, .int .i64 12] u fun e w' => e = .returned (.int .u32 v1) ∧ u = w') (c16 : ∀ u : World, Calls Tryz.prog 72 #[.string D, .int .i64 16] u fun e w' => e = .returned (.int .u32 v3) ∧ u = w') (pr : Int) (ep : bt D 9 = pr) (n6 : (pr == 6) = false) (n17 : (pr == 17) = false) (n1 : (pr == 1) = false) (n1b : (pr != 1) = true) (w : World) :
    Cw_ 32 #[.string D] (.agg #[.int .i64 0, .int .u8 0, .int .u32 0, .int .u16 0, .int .u32 0, .int .u16 0, .bool false, .int .i64 6]) w := by
  have hb := get_bt D
  have b0 := bt_nonneg D 0
  have b1 := bt_le D 0
  go_enter Tryz.func32, Tryz.ntmps32
  have B1 := Below.refl w.heap.size w
  go_upto_region 1 with fail
  have R_2 := Box8.make w (.int .i64 0) (.int .u8 0) (.int .u32 0) (.int .u16 0) (.int .u32 0) (.int .u16 0) (.bool false) (.int .i64 0) 85
  have B3 := B1.alloc B1.size (.cells #[.int .i64 0, .int .u8 0, .int .u32 0, .int .u16 0, .int .u32 0, .int .u16 0, .bool false, .int .i64 0] 85)
  clear B1
  have fzR_4 : ∀ i, (w.alloc (.cells #[.int .i64 0, .int .u8 0, .int .u32 0, .int .u16 0, .int .u32 0, .int .u16 0, .bool false, .int .i64 0] 85)).frozen? ⟨w.heap.size, i, none⟩ = false := by intro i; simp [go_sem]
  obtain ⟨u1, hu1⟩ : ∃ x_ : World, x_ = w.alloc (.cells #[.int .i64 0, .int .u8 0, .int .u32 0, .int .u16 0, .int .u32 0, .int .u16 0, .bool false, .int .i64 0] 85) := ⟨_, rfl⟩
  rw [← hu1] at R_2 fzR_4 B3 ⊢
  clear hu1
  have LR := Lib.hid (R_2.1)
  have ne1_ : ¬ u1.heap.size = w.heap.size := by have := LR.out; omega
  have ne2_ : ¬ w.heap.size = u1.heap.size := by have := LR.out; omega
  go_wp2_with fail
  refine (cw _).mono ?_; rintro e w1 ⟨rfl, rfl⟩
  clear cw
  go_upto_region 6 with fail
  refine wp_region_noPanic ?_
  refine wp_region_held_drew (S := (fun w' => True)) (by kernel_rfl) trivial (fun hHeld => ?_)
  refine tk_ 0 (v := ?_) (by assumption) ?_ ?_
  rotate_left
  · intro w hSw
    (try dsimp only at hSw)
    go_simp
    with_reducible rfl
  try simp only [Act.put, puS_]
  refine tk_ 1 (v := ?_) (by assumption) ?_ ?_
  rotate_left
  · intro w hSw
    (try dsimp only at hSw)
    go_simp
    with_reducible rfl
  try simp only [Act.put, puS_]
  refine tk_ 3 (v := ?_) (by assumption) ?_ ?_
  rotate_left
  · intro w hSw
    (try dsimp only at hSw)
    go_simp
    with_reducible rfl
  try simp only [Act.put, puS_]
  refine tk_ 6 (v := ?_) (by assumption) ?_ ?_
  rotate_left
  · intro w hSw
    (try dsimp only at hSw)
    go_simp
    with_reducible rfl
  try simp only [Act.put, puS_]
  refine tk_ 2 (v := ?_) (by assumption) ?_ ?_
  rotate_left
  · intro w hSw
    (try dsimp only at hSw)
    go_simp
    with_reducible rfl
  try simp only [Act.put, puS_]
  apply pqk_
  · intro tail
    apply pqk_
    · intro tail
      refine wpAnyH_ready (rs := [4, 11]) (by kernel_rfl) (by simp) ?_
      refine AllReadyH.cons (o := _) rfl (fun K hK => ?_) ?_
      · go_simp
        refine (c12 _).mono ?_
        rintro e w5 ⟨rfl, rfl⟩
        show K _ _
        refine hK.out _ _ trivial (fun _ => ?_)
        clear hK K
        try simp only [Act.put, puS_]
        refine tk_ 5 (v := ?_) (by assumption) ?_ ?_
        rotate_left
        · intro w hSw
          (try dsimp only at hSw)
          go_simp
          with_reducible rfl
        try simp only [Act.put, puS_]
        refine wpAnyH_ready (rs := [7, 11]) (by kernel_rfl) (by simp) ?_
        refine AllReadyH.cons (o := _) rfl (fun K hK => ?_) ?_
        · go_simp
          refine (c16 _).mono ?_
          rintro e w5 ⟨rfl, rfl⟩
          show K _ _
          refine hK.out _ _ trivial (fun _ => ?_)
          clear hK K
          try simp only [Act.put, puS_]
          refine tk_ 8 (v := ?_) (by assumption) ?_ ?_
          rotate_left
          · intro w hSw
            (try dsimp only at hSw)
            go_simp
            with_reducible rfl
          try simp only [Act.put, puS_]
          refine tk_ 9 (v := ?_) (by assumption) ?_ ?_
          rotate_left
          · intro w hSw
            (try dsimp only at hSw)
            go_simp
            with_reducible rfl
          try simp only [Act.put, puS_]
          refine tk_ 10 (v := ?_) (by assumption) ?_ ?_
          rotate_left
          · intro w hSw
            (try dsimp only at hSw)
            go_simp
            with_reducible rfl
          try simp only [Act.put, puS_]
          refine wpAnyH_ready (rs := [11]) (by kernel_rfl) (by simp) ?_
          refine AllReadyH.cons (o := _) rfl (fun K hK => ?_) ?_
          · go_simp
            refine hK.out _ _ trivial (fun _ => ?_)
            clear hK K
            try simp only [Act.put, puS_]
            refine wpAnyH_ready (rs := [12]) (by kernel_rfl) (by simp) ?_
            refine AllReadyH.cons (o := _) rfl (fun K hK => ?_) ?_
            · go_simp
              refine hK.out _ _ trivial (fun _ => ?_)
              clear hK K
              try simp only [Act.put, puS_]
              refine wpAnyH_done (by kernel_rfl) (NoPanic.normal ?_) _
              exact tail
            exact AllReadyH.nil
          exact AllReadyH.nil
        refine AllReadyH.cons (o := _) rfl (fun K hK => ?_) ?_
        · go_simp
          refine hK.out _ _ trivial (fun _ => ?_)
          clear hK K
          try simp only [Act.put, puS_]
          refine wpAnyH_ready (rs := [7]) (by kernel_rfl) (by simp) ?_
          refine AllReadyH.cons (o := _) rfl (fun K hK => ?_) ?_
          · go_simp
            refine (c16 _).mono ?_
            rintro e w5 ⟨rfl, rfl⟩
            show K _ _
            refine hK.out _ _ trivial (fun _ => ?_)
            clear hK K
            try simp only [Act.put, puS_]
            refine tk_ 8 (v := ?_) (by assumption) ?_ ?_
            rotate_left
            · intro w hSw
              (try dsimp only at hSw)
              go_simp
              with_reducible rfl
            try simp only [Act.put, puS_]
            refine tk_ 9 (v := ?_) (by assumption) ?_ ?_
            rotate_left
            · intro w hSw
              (try dsimp only at hSw)
              go_simp
              with_reducible rfl
            try simp only [Act.put, puS_]
            refine tk_ 10 (v := ?_) (by assumption) ?_ ?_
            rotate_left
            · intro w hSw
              (try dsimp only at hSw)
              go_simp
              with_reducible rfl
            try simp only [Act.put, puS_]
            refine wpAnyH_ready (rs := [12]) (by kernel_rfl) (by simp) ?_
            refine AllReadyH.cons (o := _) rfl (fun K hK => ?_) ?_
            · go_simp
              refine hK.out _ _ trivial (fun _ => ?_)
              clear hK K
              try simp only [Act.put, puS_]
              refine wpAnyH_done (by kernel_rfl) (NoPanic.normal ?_) _
              exact tail
            exact AllReadyH.nil
          exact AllReadyH.nil
        exact AllReadyH.nil
      refine AllReadyH.cons (o := _) rfl (fun K hK => ?_) ?_
      · go_simp
        refine hK.out _ _ trivial (fun _ => ?_)
        clear hK K
        try simp only [Act.put, puS_]
        refine wpAnyH_ready (rs := [4]) (by kernel_rfl) (by simp) ?_
        refine AllReadyH.cons (o := _) rfl (fun K hK => ?_) ?_
        · go_simp
          refine (c12 _).mono ?_
          rintro e w5 ⟨rfl, rfl⟩
          show K _ _
          refine hK.out _ _ trivial (fun _ => ?_)
          clear hK K
          try simp only [Act.put, puS_]
          refine tk_ 5 (v := ?_) (by assumption) ?_ ?_
          rotate_left
          · intro w hSw
            (try dsimp only at hSw)
            go_simp
            with_reducible rfl
          try simp only [Act.put, puS_]
          refine wpAnyH_ready (rs := [7]) (by kernel_rfl) (by simp) ?_
          refine AllReadyH.cons (o := _) rfl (fun K hK => ?_) ?_
          · go_simp
            refine (c16 _).mono ?_
            rintro e w5 ⟨rfl, rfl⟩
            show K _ _
            refine hK.out _ _ trivial (fun _ => ?_)
            clear hK K
            try simp only [Act.put, puS_]
            refine tk_ 8 (v := ?_) (by assumption) ?_ ?_
            rotate_left
            · intro w hSw
              (try dsimp only at hSw)
              go_simp
              with_reducible rfl
            try simp only [Act.put, puS_]
            refine tk_ 9 (v := ?_) (by assumption) ?_ ?_
            rotate_left
            · intro w hSw
              (try dsimp only at hSw)
              go_simp
              with_reducible rfl
            try simp only [Act.put, puS_]
            refine tk_ 10 (v := ?_) (by assumption) ?_ ?_
            rotate_left
            · intro w hSw
              (try dsimp only at hSw)
              go_simp
              with_reducible rfl
            try simp only [Act.put, puS_]
            refine wpAnyH_ready (rs := [12]) (by kernel_rfl) (by simp) ?_
            refine AllReadyH.cons (o := _) rfl (fun K hK => ?_) ?_
            · go_simp
              refine hK.out _ _ trivial (fun _ => ?_)
              clear hK K
              try simp only [Act.put, puS_]
              refine wpAnyH_done (by kernel_rfl) (NoPanic.normal ?_) _
              exact tail
            exact AllReadyH.nil
          exact AllReadyH.nil
        exact AllReadyH.nil
      exact AllReadyH.nil
    exact tail
  clear hHeld
  have al := alO_ B3 (.cells #[.int .i64 (o : Int), .int .u8 pr, .int .u32 v1, .int .u16 0, .int .u32 v3, .int .u16 0, .bool false, .int .i64 0] 85)
  have fzR_5 := fzB_ al R_2.1 fzR_4
  clear fzR_4
  have R_6 := R_2.on al
  have X_7 := Box8.make u1 (.int .i64 (o : Int)) (.int .u8 pr) (.int .u32 v1) (.int .u16 0) (.int .u32 v3) (.int .u16 0) (.bool false) (.int .i64 0) 85
  have B8 := B3.trans (al.mono B3.size)
  clear al
  clear R_2 B3
  have fzX_9 : ∀ i, (u1.alloc (.cells #[.int .i64 (o : Int), .int .u8 pr, .int .u32 v1, .int .u16 0, .int .u32 v3, .int .u16 0, .bool false, .int .i64 0] 85)).frozen? ⟨u1.heap.size, i, none⟩ = false := by intro i; simp [go_sem]
  have fzR_10 := fzD_ R_6.1 fzR_5
  have fzX_11 := fzD_ X_7.1 fzX_9
  clear fzR_5 fzX_9
  have R_12 := R_6.on ((Below.refl _ _).drew)
  have X_13 := X_7.on ((Below.refl _ _).drew)
  have B14 := B8.drew
  clear R_6 X_7 B8
  obtain ⟨u2, hu2⟩ : ∃ x_ : World, x_ = (u1.alloc (.cells #[.int .i64 (o : Int), .int .u8 pr, .int .u32 v1, .int .u16 0, .int .u32 v3, .int .u16 0, .bool false, .int .i64 0] 85)).drew := ⟨_, rfl⟩
  rw [← hu2] at R_12 X_13 fzR_10 fzX_11 B14 ⊢
  clear hu2
  obtain ⟨_, x1_0, x1_1, x1_2, x1_3, x1_4, x1_5, x1_6, x1_7⟩ := id X_13
  obtain ⟨_, r2_0, r2_1, r2_2, r2_3, r2_4, r2_5, r2_6, r2_7⟩ := id R_12
  go_wp2
  refine box8_ (b := w.heap.size) R_12.some B14 (Nat.le_refl _) fun Z x0 x1 x2 x3 x4 x5 x6 x7 BZ _ => ?_
  refine bodyPost_ret (v := .agg #[.int .i64 0, .int .u8 0, .int .u32 0, .int .u16 0, .int .u32 0, .int .u16 0, .bool false, .int .i64 6]) (by simp [results, Tryz.results32, go_sem, x0, x1, x2, x3, x4, x5, x6, x7]) rfl ?_
  exact ⟨rfl, BZ⟩
theorem look10_6 (D : ByteArray) (o : Nat) (e1 : decide (D.size < 20) = false) (e2 : decide ((D.size : Int) < 20) = false) (i0 : (0 : Int) < (D.size : Int)) (e3 : (bt D 0 / 16 == 4) = true) (e4 : (bt D 0 / 16 != 4) = false) (e5 : bt D 0 % 16 * 4 = (o : Int)) (o60 : o ≤ 60) (e6 : decide (o < 20) = false) (e7 : decide ((o : Int) < 20) = false) (e8 : decide (D.size < o) = false) (e9 : decide ((D.size : Int) < (o : Int)) = false) (q : Int) (q0 : 0 ≤ q) (q1 : q ≤ 65535) (cw : ∀ u : World, Calls Tryz.prog 71 #[.string D, .int .i64 6] u fun e w' => e = .returned (.int .u16 q) ∧ u = w') (ea : (q % 8192 == 0) = true) (eb : (q % 8192 != 0) = false) (r : Int) (ew : wrap64 ((D.size : Int) - (o : Int)) = r) (ec : decide (r < 8) = false) (io : (o : Int) ≤ (D.size : Int)) (i9 : (9 : Int) < (D.size : Int)) (v1 v3 : Int) (c12 : ∀ u : World, Calls Tryz.prog 72 #[.string D, .int .i64 12] u fun e w' => e = .returned (.int .u32 v1) ∧ u = w') (c16 : ∀ u : World, Calls Tryz.prog 72 #[.string D, .int .i64 16] u fun e w' => e = .returned (.int .u32 v3) ∧ u = w') (ep : bt D 9 = 6) (m n : Int) (cm : ∀ u : World, Calls Tryz.prog 71 #[.string (D.extract o D.size), .int .i64 0] u fun e w' => e = .returned (.int .u16 m) ∧ u = w') (cn : ∀ u : World, Calls Tryz.prog 71 #[.string (D.extract o D.size), .int .i64 2] u fun e w' => e = .returned (.int .u16 n) ∧ u = w') (w : World) :
    Cw_ 32 #[.string D] (.agg #[.int .i64 (o : Int), .int .u8 6, .int .u32 v1, .int .u16 m, .int .u32 v3, .int .u16 n, .bool false, .int .i64 0]) w := by
  have hb := get_bt D
  have b0 := bt_nonneg D 0
  have b1 := bt_le D 0
  go_enter Tryz.func32, Tryz.ntmps32
  have B1 := Below.refl w.heap.size w
  go_upto_region 1 with fail
  have R_2 := Box8.make w (.int .i64 0) (.int .u8 0) (.int .u32 0) (.int .u16 0) (.int .u32 0) (.int .u16 0) (.bool false) (.int .i64 0) 85
  have B3 := B1.alloc B1.size (.cells #[.int .i64 0, .int .u8 0, .int .u32 0, .int .u16 0, .int .u32 0, .int .u16 0, .bool false, .int .i64 0] 85)
  clear B1
  have fzR_4 : ∀ i, (w.alloc (.cells #[.int .i64 0, .int .u8 0, .int .u32 0, .int .u16 0, .int .u32 0, .int .u16 0, .bool false, .int .i64 0] 85)).frozen? ⟨w.heap.size, i, none⟩ = false := by intro i; simp [go_sem]
  obtain ⟨u1, hu1⟩ : ∃ x_ : World, x_ = w.alloc (.cells #[.int .i64 0, .int .u8 0, .int .u32 0, .int .u16 0, .int .u32 0, .int .u16 0, .bool false, .int .i64 0] 85) := ⟨_, rfl⟩
  rw [← hu1] at R_2 fzR_4 B3 ⊢
  clear hu1
  have LR := Lib.hid (R_2.1)
  have ne1_ : ¬ u1.heap.size = w.heap.size := by have := LR.out; omega
  have ne2_ : ¬ w.heap.size = u1.heap.size := by have := LR.out; omega
  go_wp2_with fail
  refine (cw _).mono ?_; rintro e w1 ⟨rfl, rfl⟩
  clear cw
  go_upto_region 6 with fail
  refine wp_region_noPanic ?_
  refine wp_region_held_drew (S := (fun w' => True)) (by kernel_rfl) trivial (fun hHeld => ?_)
  refine tk_ 0 (v := ?_) (by assumption) ?_ ?_
  rotate_left
  · intro w hSw
    (try dsimp only at hSw)
    go_simp
    with_reducible rfl
  try simp only [Act.put, puS_]
  refine tk_ 1 (v := ?_) (by assumption) ?_ ?_
  rotate_left
  · intro w hSw
    (try dsimp only at hSw)
    go_simp
    with_reducible rfl
  try simp only [Act.put, puS_]
  refine tk_ 3 (v := ?_) (by assumption) ?_ ?_
  rotate_left
  · intro w hSw
    (try dsimp only at hSw)
    go_simp
    with_reducible rfl
  try simp only [Act.put, puS_]
  refine tk_ 6 (v := ?_) (by assumption) ?_ ?_
  rotate_left
  · intro w hSw
    (try dsimp only at hSw)
    go_simp
    with_reducible rfl
  try simp only [Act.put, puS_]
  refine tk_ 2 (v := ?_) (by assumption) ?_ ?_
  rotate_left
  · intro w hSw
    (try dsimp only at hSw)
    go_simp
    with_reducible rfl
  try simp only [Act.put, puS_]
  apply pqk_
  · intro tail
    apply pqk_
    · intro tail
      refine wpAnyH_ready (rs := [4, 11]) (by kernel_rfl) (by simp) ?_
      refine AllReadyH.cons (o := _) rfl (fun K hK => ?_) ?_
      · go_simp
        refine (c12 _).mono ?_
        rintro e w5 ⟨rfl, rfl⟩
        show K _ _
        refine hK.out _ _ trivial (fun _ => ?_)
        clear hK K
        try simp only [Act.put, puS_]
        refine tk_ 5 (v := ?_) (by assumption) ?_ ?_
        rotate_left
        · intro w hSw
          (try dsimp only at hSw)
          go_simp
          with_reducible rfl
        try simp only [Act.put, puS_]
        refine wpAnyH_ready (rs := [7, 11]) (by kernel_rfl) (by simp) ?_
        refine AllReadyH.cons (o := _) rfl (fun K hK => ?_) ?_
        · go_simp
          refine (c16 _).mono ?_
          rintro e w5 ⟨rfl, rfl⟩
          show K _ _
          refine hK.out _ _ trivial (fun _ => ?_)
          clear hK K
          try simp only [Act.put, puS_]
          refine tk_ 8 (v := ?_) (by assumption) ?_ ?_
          rotate_left
          · intro w hSw
            (try dsimp only at hSw)
            go_simp
            with_reducible rfl
          try simp only [Act.put, puS_]
          refine tk_ 9 (v := ?_) (by assumption) ?_ ?_
          rotate_left
          · intro w hSw
            (try dsimp only at hSw)
            go_simp
            with_reducible rfl
          try simp only [Act.put, puS_]
          refine tk_ 10 (v := ?_) (by assumption) ?_ ?_
          rotate_left
          · intro w hSw
            (try dsimp only at hSw)
            go_simp
            with_reducible rfl
          try simp only [Act.put, puS_]
          refine wpAnyH_ready (rs := [11]) (by kernel_rfl) (by simp) ?_
          refine AllReadyH.cons (o := _) rfl (fun K hK => ?_) ?_
          · go_simp
            refine hK.out _ _ trivial (fun _ => ?_)
            clear hK K
            try simp only [Act.put, puS_]
            refine wpAnyH_ready (rs := [12]) (by kernel_rfl) (by simp) ?_
            refine AllReadyH.cons (o := _) rfl (fun K hK => ?_) ?_
            · go_simp
              refine hK.out _ _ trivial (fun _ => ?_)
              clear hK K
              try simp only [Act.put, puS_]
              refine wpAnyH_done (by kernel_rfl) (NoPanic.normal ?_) _
              exact tail
            exact AllReadyH.nil
          exact AllReadyH.nil
        refine AllReadyH.cons (o := _) rfl (fun K hK => ?_) ?_
        · go_simp
          refine hK.out _ _ trivial (fun _ => ?_)
          clear hK K
          try simp only [Act.put, puS_]
          refine wpAnyH_ready (rs := [7]) (by kernel_rfl) (by simp) ?_
          refine AllReadyH.cons (o := _) rfl (fun K hK => ?_) ?_
          · go_simp
            refine (c16 _).mono ?_
            rintro e w5 ⟨rfl, rfl⟩
            show K _ _
            refine hK.out _ _ trivial (fun _ => ?_)
            clear hK K
            try simp only [Act.put, puS_]
            refine tk_ 8 (v := ?_) (by assumption) ?_ ?_
            rotate_left
            · intro w hSw
              (try dsimp only at hSw)
              go_simp
              with_reducible rfl
            try simp only [Act.put, puS_]
            refine tk_ 9 (v := ?_) (by assumption) ?_ ?_
            rotate_left
            · intro w hSw
              (try dsimp only at hSw)
              go_simp
              with_reducible rfl
            try simp only [Act.put, puS_]
            refine tk_ 10 (v := ?_) (by assumption) ?_ ?_
            rotate_left
            · intro w hSw
              (try dsimp only at hSw)
              go_simp
              with_reducible rfl
            try simp only [Act.put, puS_]
            refine wpAnyH_ready (rs := [12]) (by kernel_rfl) (by simp) ?_
            refine AllReadyH.cons (o := _) rfl (fun K hK => ?_) ?_
            · go_simp
              refine hK.out _ _ trivial (fun _ => ?_)
              clear hK K
              try simp only [Act.put, puS_]
              refine wpAnyH_done (by kernel_rfl) (NoPanic.normal ?_) _
              exact tail
            exact AllReadyH.nil
          exact AllReadyH.nil
        exact AllReadyH.nil
      refine AllReadyH.cons (o := _) rfl (fun K hK => ?_) ?_
      · go_simp
        refine hK.out _ _ trivial (fun _ => ?_)
        clear hK K
        try simp only [Act.put, puS_]
        refine wpAnyH_ready (rs := [4]) (by kernel_rfl) (by simp) ?_
        refine AllReadyH.cons (o := _) rfl (fun K hK => ?_) ?_
        · go_simp
          refine (c12 _).mono ?_
          rintro e w5 ⟨rfl, rfl⟩
          show K _ _
          refine hK.out _ _ trivial (fun _ => ?_)
          clear hK K
          try simp only [Act.put, puS_]
          refine tk_ 5 (v := ?_) (by assumption) ?_ ?_
          rotate_left
          · intro w hSw
            (try dsimp only at hSw)
            go_simp
            with_reducible rfl
          try simp only [Act.put, puS_]
          refine wpAnyH_ready (rs := [7]) (by kernel_rfl) (by simp) ?_
          refine AllReadyH.cons (o := _) rfl (fun K hK => ?_) ?_
          · go_simp
            refine (c16 _).mono ?_
            rintro e w5 ⟨rfl, rfl⟩
            show K _ _
            refine hK.out _ _ trivial (fun _ => ?_)
            clear hK K
            try simp only [Act.put, puS_]
            refine tk_ 8 (v := ?_) (by assumption) ?_ ?_
            rotate_left
            · intro w hSw
              (try dsimp only at hSw)
              go_simp
              with_reducible rfl
            try simp only [Act.put, puS_]
            refine tk_ 9 (v := ?_) (by assumption) ?_ ?_
            rotate_left
            · intro w hSw
              (try dsimp only at hSw)
              go_simp
              with_reducible rfl
            try simp only [Act.put, puS_]
            refine tk_ 10 (v := ?_) (by assumption) ?_ ?_
            rotate_left
            · intro w hSw
              (try dsimp only at hSw)
              go_simp
              with_reducible rfl
            try simp only [Act.put, puS_]
            refine wpAnyH_ready (rs := [12]) (by kernel_rfl) (by simp) ?_
            refine AllReadyH.cons (o := _) rfl (fun K hK => ?_) ?_
            · go_simp
              refine hK.out _ _ trivial (fun _ => ?_)
              clear hK K
              try simp only [Act.put, puS_]
              refine wpAnyH_done (by kernel_rfl) (NoPanic.normal ?_) _
              exact tail
            exact AllReadyH.nil
          exact AllReadyH.nil
        exact AllReadyH.nil
      exact AllReadyH.nil
    exact tail
  clear hHeld
  have al := alO_ B3 (.cells #[.int .i64 (o : Int), .int .u8 6, .int .u32 v1, .int .u16 0, .int .u32 v3, .int .u16 0, .bool false, .int .i64 0] 85)
  have fzR_5 := fzB_ al R_2.1 fzR_4
  clear fzR_4
  have R_6 := R_2.on al
  have X_7 := Box8.make u1 (.int .i64 (o : Int)) (.int .u8 6) (.int .u32 v1) (.int .u16 0) (.int .u32 v3) (.int .u16 0) (.bool false) (.int .i64 0) 85
  have B8 := B3.trans (al.mono B3.size)
  clear al
  clear R_2 B3
  have fzX_9 : ∀ i, (u1.alloc (.cells #[.int .i64 (o : Int), .int .u8 6, .int .u32 v1, .int .u16 0, .int .u32 v3, .int .u16 0, .bool false, .int .i64 0] 85)).frozen? ⟨u1.heap.size, i, none⟩ = false := by intro i; simp [go_sem]
  have fzR_10 := fzD_ R_6.1 fzR_5
  have fzX_11 := fzD_ X_7.1 fzX_9
  clear fzR_5 fzX_9
  have R_12 := R_6.on ((Below.refl _ _).drew)
  have X_13 := X_7.on ((Below.refl _ _).drew)
  have B14 := B8.drew
  clear R_6 X_7 B8
  obtain ⟨u2, hu2⟩ : ∃ x_ : World, x_ = (u1.alloc (.cells #[.int .i64 (o : Int), .int .u8 6, .int .u32 v1, .int .u16 0, .int .u32 v3, .int .u16 0, .bool false, .int .i64 0] 85)).drew := ⟨_, rfl⟩
  rw [← hu2] at R_12 X_13 fzR_10 fzX_11 B14 ⊢
  clear hu2
  obtain ⟨_, x1_0, x1_1, x1_2, x1_3, x1_4, x1_5, x1_6, x1_7⟩ := id X_13
  go_wp2_with fail
  refine (cm _).mono ?_; rintro e w20 ⟨rfl, rfl⟩
  go_wp2_with fail
  refine (cn _).mono ?_; rintro e w21 ⟨rfl, rfl⟩
  go_upto_region 10 with fail
  clear x1_0 x1_1 x1_2 x1_3 x1_4 x1_5 x1_6 x1_7
  obtain ⟨_, r2_0, r2_1, r2_2, r2_3, r2_4, r2_5, r2_6, r2_7⟩ := id R_12
  obtain ⟨_, x3_0, x3_1, x3_2, x3_3, x3_4, x3_5, x3_6, x3_7⟩ := id X_13
  have B15 := ((B14.setCell (p := ⟨u1.heap.size, 3, none⟩) (Nat.le_of_lt LR.out) (.int .u16 m)).setCell (p := ⟨u1.heap.size, 5, none⟩) (Nat.le_of_lt LR.out) (.int .u16 n))
  have R_16 : Box8 ((u2.setCell ⟨u1.heap.size, 3, none⟩ (.int .u16 m)).setCell ⟨u1.heap.size, 5, none⟩ (.int .u16 n)) w.heap.size (.int .i64 0) (.int .u8 0) (.int .u32 0) (.int .u16 0) (.int .u32 0) (.int .u16 0) (.bool false) (.int .i64 0) := ⟨by have := R_12.1; simpa using this, by simp [go_sem, r2_0, r2_1, r2_2, r2_3, r2_4, r2_5, r2_6, r2_7, x3_0, x3_1, x3_2, x3_3, x3_4, x3_5, x3_6, x3_7]⟩
  have X_17 : Box8 ((u2.setCell ⟨u1.heap.size, 3, none⟩ (.int .u16 m)).setCell ⟨u1.heap.size, 5, none⟩ (.int .u16 n)) u1.heap.size (.int .i64 (o : Int)) (.int .u8 6) (.int .u32 v1) (.int .u16 m) (.int .u32 v3) (.int .u16 n) (.bool false) (.int .i64 0) := ⟨by have := X_13.1; simpa using this, by simp [go_sem, r2_0, r2_1, r2_2, r2_3, r2_4, r2_5, r2_6, r2_7, x3_0, x3_1, x3_2, x3_3, x3_4, x3_5, x3_6, x3_7]⟩
  have fzR_18 : ∀ i, ((u2.setCell ⟨u1.heap.size, 3, none⟩ (.int .u16 m)).setCell ⟨u1.heap.size, 5, none⟩ (.int .u16 n)).frozen? ⟨w.heap.size, i, none⟩ = false := by intro i; simp [fzR_10]
  have fzX_19 : ∀ i, ((u2.setCell ⟨u1.heap.size, 3, none⟩ (.int .u16 m)).setCell ⟨u1.heap.size, 5, none⟩ (.int .u16 n)).frozen? ⟨u1.heap.size, i, none⟩ = false := by intro i; simp [fzX_11]
  clear r2_0 r2_1 r2_2 r2_3 r2_4 r2_5 r2_6 r2_7 x3_0 x3_1 x3_2 x3_3 x3_4 x3_5 x3_6 x3_7 R_12 X_13 fzR_10 fzX_11 B14
  obtain ⟨u11, hu11⟩ : ∃ x_ : World, x_ = ((u2.setCell ⟨u1.heap.size, 3, none⟩ (.int .u16 m)).setCell ⟨u1.heap.size, 5, none⟩ (.int .u16 n)) := ⟨_, rfl⟩
  rw [← hu11] at R_16 X_17 fzR_18 fzX_19 B15 ⊢
  clear hu11
  obtain ⟨_, x4_0, x4_1, x4_2, x4_3, x4_4, x4_5, x4_6, x4_7⟩ := id X_17
  obtain ⟨_, r5_0, r5_1, r5_2, r5_3, r5_4, r5_5, r5_6, r5_7⟩ := id R_16
  go_wp2
  refine box8_ (b := w.heap.size) R_16.some B15 (Nat.le_refl _) fun Z x0 x1 x2 x3 x4 x5 x6 x7 BZ _ => ?_
  refine bodyPost_ret (v := .agg #[.int .i64 (o : Int), .int .u8 6, .int .u32 v1, .int .u16 m, .int .u32 v3, .int .u16 n, .bool false, .int .i64 0]) (by simp [results, Tryz.results32, go_sem, x0, x1, x2, x3, x4, x5, x6, x7]) rfl ?_
  exact ⟨rfl, BZ⟩
theorem look10_17 (D : ByteArray) (o : Nat) (e1 : decide (D.size < 20) = false) (e2 : decide ((D.size : Int) < 20) = false) (i0 : (0 : Int) < (D.size : Int)) (e3 : (bt D 0 / 16 == 4) = true) (e4 : (bt D 0 / 16 != 4) = false) (e5 : bt D 0 % 16 * 4 = (o : Int)) (o60 : o ≤ 60) (e6 : decide (o < 20) = false) (e7 : decide ((o : Int) < 20) = false) (e8 : decide (D.size < o) = false) (e9 : decide ((D.size : Int) < (o : Int)) = false) (q : Int) (q0 : 0 ≤ q) (q1 : q ≤ 65535) (cw : ∀ u : World, Calls Tryz.prog 71 #[.string D, .int .i64 6] u fun e w' => e = .returned (.int .u16 q) ∧ u = w') (ea : (q % 8192 == 0) = true) (eb : (q % 8192 != 0) = false) (r : Int) (ew : wrap64 ((D.size : Int) - (o : Int)) = r) (ec : decide (r < 8) = false) (io : (o : Int) ≤ (D.size : Int)) (i9 : (9 : Int) < (D.size : Int)) (v1 v3 : Int) (c12 : ∀ u : World, Calls Tryz.prog 72 #[.string D, .int .i64 12] u fun e w' => e = .returned (.int .u32 v1) ∧ u = w') (c16 : ∀ u : World, Calls Tryz.prog 72 #[.string D, .int .i64 16] u fun e w' => e = .returned (.int .u32 v3) ∧ u = w') (ep : bt D 9 = 17) (m n : Int) (cm : ∀ u : World, Calls Tryz.prog 71 #[.string (D.extract o D.size), .int .i64 0] u fun e w' => e = .returned (.int .u16 m) ∧ u = w') (cn : ∀ u : World, Calls Tryz.prog 71 #[.string (D.extract o D.size), .int .i64 2] u fun e w' => e = .returned (.int .u16 n) ∧ u = w') (w : World) :
    Cw_ 32 #[.string D] (.agg #[.int .i64 (o : Int), .int .u8 17, .int .u32 v1, .int .u16 m, .int .u32 v3, .int .u16 n, .bool false, .int .i64 0]) w := by
  have hb := get_bt D
  have b0 := bt_nonneg D 0
  have b1 := bt_le D 0
  go_enter Tryz.func32, Tryz.ntmps32
  have B1 := Below.refl w.heap.size w
  go_upto_region 1 with fail
  have R_2 := Box8.make w (.int .i64 0) (.int .u8 0) (.int .u32 0) (.int .u16 0) (.int .u32 0) (.int .u16 0) (.bool false) (.int .i64 0) 85
  have B3 := B1.alloc B1.size (.cells #[.int .i64 0, .int .u8 0, .int .u32 0, .int .u16 0, .int .u32 0, .int .u16 0, .bool false, .int .i64 0] 85)
  clear B1
  have fzR_4 : ∀ i, (w.alloc (.cells #[.int .i64 0, .int .u8 0, .int .u32 0, .int .u16 0, .int .u32 0, .int .u16 0, .bool false, .int .i64 0] 85)).frozen? ⟨w.heap.size, i, none⟩ = false := by intro i; simp [go_sem]
  obtain ⟨u1, hu1⟩ : ∃ x_ : World, x_ = w.alloc (.cells #[.int .i64 0, .int .u8 0, .int .u32 0, .int .u16 0, .int .u32 0, .int .u16 0, .bool false, .int .i64 0] 85) := ⟨_, rfl⟩
  rw [← hu1] at R_2 fzR_4 B3 ⊢
  clear hu1
  have LR := Lib.hid (R_2.1)
  have ne1_ : ¬ u1.heap.size = w.heap.size := by have := LR.out; omega
  have ne2_ : ¬ w.heap.size = u1.heap.size := by have := LR.out; omega
  go_wp2_with fail
  refine (cw _).mono ?_; rintro e w1 ⟨rfl, rfl⟩
  clear cw
  go_upto_region 6 with fail
  refine wp_region_noPanic ?_
  refine wp_region_held_drew (S := (fun w' => True)) (by kernel_rfl) trivial (fun hHeld => ?_)
  refine tk_ 0 (v := ?_) (by assumption) ?_ ?_
  rotate_left
  · intro w hSw
    (try dsimp only at hSw)
    go_simp
    with_reducible rfl
  try simp only [Act.put, puS_]
  refine tk_ 1 (v := ?_) (by assumption) ?_ ?_
  rotate_left
  · intro w hSw
    (try dsimp only at hSw)
    go_simp
    with_reducible rfl
  try simp only [Act.put, puS_]
  refine tk_ 3 (v := ?_) (by assumption) ?_ ?_
  rotate_left
  · intro w hSw
    (try dsimp only at hSw)
    go_simp
    with_reducible rfl
  try simp only [Act.put, puS_]
  refine tk_ 6 (v := ?_) (by assumption) ?_ ?_
  rotate_left
  · intro w hSw
    (try dsimp only at hSw)
    go_simp
    with_reducible rfl
  try simp only [Act.put, puS_]
  refine tk_ 2 (v := ?_) (by assumption) ?_ ?_
  rotate_left
  · intro w hSw
    (try dsimp only at hSw)
    go_simp
    with_reducible rfl
  try simp only [Act.put, puS_]
  apply pqk_
  · intro tail
    apply pqk_
    · intro tail
      refine wpAnyH_ready (rs := [4, 11]) (by kernel_rfl) (by simp) ?_
      refine AllReadyH.cons (o := _) rfl (fun K hK => ?_) ?_
      · go_simp
        refine (c12 _).mono ?_
        rintro e w5 ⟨rfl, rfl⟩
        show K _ _
        refine hK.out _ _ trivial (fun _ => ?_)
        clear hK K
        try simp only [Act.put, puS_]
        refine tk_ 5 (v := ?_) (by assumption) ?_ ?_
        rotate_left
        · intro w hSw
          (try dsimp only at hSw)
          go_simp
          with_reducible rfl
        try simp only [Act.put, puS_]
        refine wpAnyH_ready (rs := [7, 11]) (by kernel_rfl) (by simp) ?_
        refine AllReadyH.cons (o := _) rfl (fun K hK => ?_) ?_
        · go_simp
          refine (c16 _).mono ?_
          rintro e w5 ⟨rfl, rfl⟩
          show K _ _
          refine hK.out _ _ trivial (fun _ => ?_)
          clear hK K
          try simp only [Act.put, puS_]
          refine tk_ 8 (v := ?_) (by assumption) ?_ ?_
          rotate_left
          · intro w hSw
            (try dsimp only at hSw)
            go_simp
            with_reducible rfl
          try simp only [Act.put, puS_]
          refine tk_ 9 (v := ?_) (by assumption) ?_ ?_
          rotate_left
          · intro w hSw
            (try dsimp only at hSw)
            go_simp
            with_reducible rfl
          try simp only [Act.put, puS_]
          refine tk_ 10 (v := ?_) (by assumption) ?_ ?_
          rotate_left
          · intro w hSw
            (try dsimp only at hSw)
            go_simp
            with_reducible rfl
          try simp only [Act.put, puS_]
          refine wpAnyH_ready (rs := [11]) (by kernel_rfl) (by simp) ?_
          refine AllReadyH.cons (o := _) rfl (fun K hK => ?_) ?_
          · go_simp
            refine hK.out _ _ trivial (fun _ => ?_)
            clear hK K
            try simp only [Act.put, puS_]
            refine wpAnyH_ready (rs := [12]) (by kernel_rfl) (by simp) ?_
            refine AllReadyH.cons (o := _) rfl (fun K hK => ?_) ?_
            · go_simp
              refine hK.out _ _ trivial (fun _ => ?_)
              clear hK K
              try simp only [Act.put, puS_]
              refine wpAnyH_done (by kernel_rfl) (NoPanic.normal ?_) _
              exact tail
            exact AllReadyH.nil
          exact AllReadyH.nil
        refine AllReadyH.cons (o := _) rfl (fun K hK => ?_) ?_
        · go_simp
          refine hK.out _ _ trivial (fun _ => ?_)
          clear hK K
          try simp only [Act.put, puS_]
          refine wpAnyH_ready (rs := [7]) (by kernel_rfl) (by simp) ?_
          refine AllReadyH.cons (o := _) rfl (fun K hK => ?_) ?_
          · go_simp
            refine (c16 _).mono ?_
            rintro e w5 ⟨rfl, rfl⟩
            show K _ _
            refine hK.out _ _ trivial (fun _ => ?_)
            clear hK K
            try simp only [Act.put, puS_]
            refine tk_ 8 (v := ?_) (by assumption) ?_ ?_
            rotate_left
            · intro w hSw
              (try dsimp only at hSw)
              go_simp
              with_reducible rfl
            try simp only [Act.put, puS_]
            refine tk_ 9 (v := ?_) (by assumption) ?_ ?_
            rotate_left
            · intro w hSw
              (try dsimp only at hSw)
              go_simp
              with_reducible rfl
            try simp only [Act.put, puS_]
            refine tk_ 10 (v := ?_) (by assumption) ?_ ?_
            rotate_left
            · intro w hSw
              (try dsimp only at hSw)
              go_simp
              with_reducible rfl
            try simp only [Act.put, puS_]
            refine wpAnyH_ready (rs := [12]) (by kernel_rfl) (by simp) ?_
            refine AllReadyH.cons (o := _) rfl (fun K hK => ?_) ?_
            · go_simp
              refine hK.out _ _ trivial (fun _ => ?_)
              clear hK K
              try simp only [Act.put, puS_]
              refine wpAnyH_done (by kernel_rfl) (NoPanic.normal ?_) _
              exact tail
            exact AllReadyH.nil
          exact AllReadyH.nil
        exact AllReadyH.nil
      refine AllReadyH.cons (o := _) rfl (fun K hK => ?_) ?_
      · go_simp
        refine hK.out _ _ trivial (fun _ => ?_)
        clear hK K
        try simp only [Act.put, puS_]
        refine wpAnyH_ready (rs := [4]) (by kernel_rfl) (by simp) ?_
        refine AllReadyH.cons (o := _) rfl (fun K hK => ?_) ?_
        · go_simp
          refine (c12 _).mono ?_
          rintro e w5 ⟨rfl, rfl⟩
          show K _ _
          refine hK.out _ _ trivial (fun _ => ?_)
          clear hK K
          try simp only [Act.put, puS_]
          refine tk_ 5 (v := ?_) (by assumption) ?_ ?_
          rotate_left
          · intro w hSw
            (try dsimp only at hSw)
            go_simp
            with_reducible rfl
          try simp only [Act.put, puS_]
          refine wpAnyH_ready (rs := [7]) (by kernel_rfl) (by simp) ?_
          refine AllReadyH.cons (o := _) rfl (fun K hK => ?_) ?_
          · go_simp
            refine (c16 _).mono ?_
            rintro e w5 ⟨rfl, rfl⟩
            show K _ _
            refine hK.out _ _ trivial (fun _ => ?_)
            clear hK K
            try simp only [Act.put, puS_]
            refine tk_ 8 (v := ?_) (by assumption) ?_ ?_
            rotate_left
            · intro w hSw
              (try dsimp only at hSw)
              go_simp
              with_reducible rfl
            try simp only [Act.put, puS_]
            refine tk_ 9 (v := ?_) (by assumption) ?_ ?_
            rotate_left
            · intro w hSw
              (try dsimp only at hSw)
              go_simp
              with_reducible rfl
            try simp only [Act.put, puS_]
            refine tk_ 10 (v := ?_) (by assumption) ?_ ?_
            rotate_left
            · intro w hSw
              (try dsimp only at hSw)
              go_simp
              with_reducible rfl
            try simp only [Act.put, puS_]
            refine wpAnyH_ready (rs := [12]) (by kernel_rfl) (by simp) ?_
            refine AllReadyH.cons (o := _) rfl (fun K hK => ?_) ?_
            · go_simp
              refine hK.out _ _ trivial (fun _ => ?_)
              clear hK K
              try simp only [Act.put, puS_]
              refine wpAnyH_done (by kernel_rfl) (NoPanic.normal ?_) _
              exact tail
            exact AllReadyH.nil
          exact AllReadyH.nil
        exact AllReadyH.nil
      exact AllReadyH.nil
    exact tail
  clear hHeld
  have al := alO_ B3 (.cells #[.int .i64 (o : Int), .int .u8 17, .int .u32 v1, .int .u16 0, .int .u32 v3, .int .u16 0, .bool false, .int .i64 0] 85)
  have fzR_5 := fzB_ al R_2.1 fzR_4
  clear fzR_4
  have R_6 := R_2.on al
  have X_7 := Box8.make u1 (.int .i64 (o : Int)) (.int .u8 17) (.int .u32 v1) (.int .u16 0) (.int .u32 v3) (.int .u16 0) (.bool false) (.int .i64 0) 85
  have B8 := B3.trans (al.mono B3.size)
  clear al
  clear R_2 B3
  have fzX_9 : ∀ i, (u1.alloc (.cells #[.int .i64 (o : Int), .int .u8 17, .int .u32 v1, .int .u16 0, .int .u32 v3, .int .u16 0, .bool false, .int .i64 0] 85)).frozen? ⟨u1.heap.size, i, none⟩ = false := by intro i; simp [go_sem]
  have fzR_10 := fzD_ R_6.1 fzR_5
  have fzX_11 := fzD_ X_7.1 fzX_9
  clear fzR_5 fzX_9
  have R_12 := R_6.on ((Below.refl _ _).drew)
  have X_13 := X_7.on ((Below.refl _ _).drew)
  have B14 := B8.drew
  clear R_6 X_7 B8
  obtain ⟨u2, hu2⟩ : ∃ x_ : World, x_ = (u1.alloc (.cells #[.int .i64 (o : Int), .int .u8 17, .int .u32 v1, .int .u16 0, .int .u32 v3, .int .u16 0, .bool false, .int .i64 0] 85)).drew := ⟨_, rfl⟩
  rw [← hu2] at R_12 X_13 fzR_10 fzX_11 B14 ⊢
  clear hu2
  obtain ⟨_, x1_0, x1_1, x1_2, x1_3, x1_4, x1_5, x1_6, x1_7⟩ := id X_13
  go_wp2_with fail
  refine (cm _).mono ?_; rintro e w20 ⟨rfl, rfl⟩
  go_wp2_with fail
  refine (cn _).mono ?_; rintro e w21 ⟨rfl, rfl⟩
  go_upto_region 10 with fail
  clear x1_0 x1_1 x1_2 x1_3 x1_4 x1_5 x1_6 x1_7
  obtain ⟨_, r2_0, r2_1, r2_2, r2_3, r2_4, r2_5, r2_6, r2_7⟩ := id R_12
  obtain ⟨_, x3_0, x3_1, x3_2, x3_3, x3_4, x3_5, x3_6, x3_7⟩ := id X_13
  have B15 := ((B14.setCell (p := ⟨u1.heap.size, 3, none⟩) (Nat.le_of_lt LR.out) (.int .u16 m)).setCell (p := ⟨u1.heap.size, 5, none⟩) (Nat.le_of_lt LR.out) (.int .u16 n))
  have R_16 : Box8 ((u2.setCell ⟨u1.heap.size, 3, none⟩ (.int .u16 m)).setCell ⟨u1.heap.size, 5, none⟩ (.int .u16 n)) w.heap.size (.int .i64 0) (.int .u8 0) (.int .u32 0) (.int .u16 0) (.int .u32 0) (.int .u16 0) (.bool false) (.int .i64 0) := ⟨by have := R_12.1; simpa using this, by simp [go_sem, r2_0, r2_1, r2_2, r2_3, r2_4, r2_5, r2_6, r2_7, x3_0, x3_1, x3_2, x3_3, x3_4, x3_5, x3_6, x3_7]⟩
  have X_17 : Box8 ((u2.setCell ⟨u1.heap.size, 3, none⟩ (.int .u16 m)).setCell ⟨u1.heap.size, 5, none⟩ (.int .u16 n)) u1.heap.size (.int .i64 (o : Int)) (.int .u8 17) (.int .u32 v1) (.int .u16 m) (.int .u32 v3) (.int .u16 n) (.bool false) (.int .i64 0) := ⟨by have := X_13.1; simpa using this, by simp [go_sem, r2_0, r2_1, r2_2, r2_3, r2_4, r2_5, r2_6, r2_7, x3_0, x3_1, x3_2, x3_3, x3_4, x3_5, x3_6, x3_7]⟩
  have fzR_18 : ∀ i, ((u2.setCell ⟨u1.heap.size, 3, none⟩ (.int .u16 m)).setCell ⟨u1.heap.size, 5, none⟩ (.int .u16 n)).frozen? ⟨w.heap.size, i, none⟩ = false := by intro i; simp [fzR_10]
  have fzX_19 : ∀ i, ((u2.setCell ⟨u1.heap.size, 3, none⟩ (.int .u16 m)).setCell ⟨u1.heap.size, 5, none⟩ (.int .u16 n)).frozen? ⟨u1.heap.size, i, none⟩ = false := by intro i; simp [fzX_11]
  clear r2_0 r2_1 r2_2 r2_3 r2_4 r2_5 r2_6 r2_7 x3_0 x3_1 x3_2 x3_3 x3_4 x3_5 x3_6 x3_7 R_12 X_13 fzR_10 fzX_11 B14
  obtain ⟨u11, hu11⟩ : ∃ x_ : World, x_ = ((u2.setCell ⟨u1.heap.size, 3, none⟩ (.int .u16 m)).setCell ⟨u1.heap.size, 5, none⟩ (.int .u16 n)) := ⟨_, rfl⟩
  rw [← hu11] at R_16 X_17 fzR_18 fzX_19 B15 ⊢
  clear hu11
  obtain ⟨_, x4_0, x4_1, x4_2, x4_3, x4_4, x4_5, x4_6, x4_7⟩ := id X_17
  obtain ⟨_, r5_0, r5_1, r5_2, r5_3, r5_4, r5_5, r5_6, r5_7⟩ := id R_16
  go_wp2
  refine box8_ (b := w.heap.size) R_16.some B15 (Nat.le_refl _) fun Z x0 x1 x2 x3 x4 x5 x6 x7 BZ _ => ?_
  refine bodyPost_ret (v := .agg #[.int .i64 (o : Int), .int .u8 17, .int .u32 v1, .int .u16 m, .int .u32 v3, .int .u16 n, .bool false, .int .i64 0]) (by simp [results, Tryz.results32, go_sem, x0, x1, x2, x3, x4, x5, x6, x7]) rfl ?_
  exact ⟨rfl, BZ⟩
theorem look10_odd (D : ByteArray) (o : Nat) (e1 : decide (D.size < 20) = false) (e2 : decide ((D.size : Int) < 20) = false) (i0 : (0 : Int) < (D.size : Int)) (e3 : (bt D 0 / 16 == 4) = true) (e4 : (bt D 0 / 16 != 4) = false) (e5 : bt D 0 % 16 * 4 = (o : Int)) (o60 : o ≤ 60) (e6 : decide (o < 20) = false) (e7 : decide ((o : Int) < 20) = false) (e8 : decide (D.size < o) = false) (e9 : decide ((D.size : Int) < (o : Int)) = false) (q : Int) (q0 : 0 ≤ q) (q1 : q ≤ 65535) (cw : ∀ u : World, Calls Tryz.prog 71 #[.string D, .int .i64 6] u fun e w' => e = .returned (.int .u16 q) ∧ u = w') (ea : (q % 8192 == 0) = true) (eb : (q % 8192 != 0) = false) (r : Int) (ew : wrap64 ((D.size : Int) - (o : Int)) = r) (ec : decide (r < 8) = false) (io : (o : Int) ≤ (D.size : Int)) (i9 : (9 : Int) < (D.size : Int)) (v1 v3 : Int) (c12 : ∀ u : World, Calls Tryz.prog 72 #[.string D, .int .i64 12] u fun e w' => e = .returned (.int .u32 v1) ∧ u = w') (c16 : ∀ u : World, Calls Tryz.prog 72 #[.string D, .int .i64 16] u fun e w' => e = .returned (.int .u32 v3) ∧ u = w') (L : ByteArray) (hL : D.extract o D.size = L) (ep : bt D 9 = 1) (cq : Cb_ 73 #[.agg #[.int .u8 (bt L 0), .int .u8 (bt L 1), .int .u16 0, .string ⟨#[]⟩, .string ⟨#[]⟩]] (.tuple #[.bool false, .bool false])) (l0 : (0 : Int) < (L.size : Int)) (l1 : (1 : Int) < (L.size : Int))  (w : World) :
    Cw_ 32 #[.string D] (.agg #[.int .i64 0, .int .u8 0, .int .u32 0, .int .u16 0, .int .u32 0, .int .u16 0, .bool false, .int .i64 15]) w := by
  have hb := get_bt D
  have b0 := bt_nonneg D 0
  have b1 := bt_le D 0
  go_enter Tryz.func32, Tryz.ntmps32
  have B1 := Below.refl w.heap.size w
  go_upto_region 1 with fail
  have R_2 := Box8.make w (.int .i64 0) (.int .u8 0) (.int .u32 0) (.int .u16 0) (.int .u32 0) (.int .u16 0) (.bool false) (.int .i64 0) 85
  have B3 := B1.alloc B1.size (.cells #[.int .i64 0, .int .u8 0, .int .u32 0, .int .u16 0, .int .u32 0, .int .u16 0, .bool false, .int .i64 0] 85)
  clear B1
  have fzR_4 : ∀ i, (w.alloc (.cells #[.int .i64 0, .int .u8 0, .int .u32 0, .int .u16 0, .int .u32 0, .int .u16 0, .bool false, .int .i64 0] 85)).frozen? ⟨w.heap.size, i, none⟩ = false := by intro i; simp [go_sem]
  obtain ⟨u1, hu1⟩ : ∃ x_ : World, x_ = w.alloc (.cells #[.int .i64 0, .int .u8 0, .int .u32 0, .int .u16 0, .int .u32 0, .int .u16 0, .bool false, .int .i64 0] 85) := ⟨_, rfl⟩
  rw [← hu1] at R_2 fzR_4 B3 ⊢
  clear hu1
  have LR := Lib.hid (R_2.1)
  have ne1_ : ¬ u1.heap.size = w.heap.size := by have := LR.out; omega
  have ne2_ : ¬ w.heap.size = u1.heap.size := by have := LR.out; omega
  go_wp2_with fail
  refine (cw _).mono ?_; rintro e w1 ⟨rfl, rfl⟩
  clear cw
  go_upto_region 6 with fail
  refine wp_region_noPanic ?_
  refine wp_region_held_drew (S := (fun w' => True)) (by kernel_rfl) trivial (fun hHeld => ?_)
  refine tk_ 0 (v := ?_) (by assumption) ?_ ?_
  rotate_left
  · intro w hSw
    (try dsimp only at hSw)
    go_simp
    with_reducible rfl
  try simp only [Act.put, puS_]
  refine tk_ 1 (v := ?_) (by assumption) ?_ ?_
  rotate_left
  · intro w hSw
    (try dsimp only at hSw)
    go_simp
    with_reducible rfl
  try simp only [Act.put, puS_]
  refine tk_ 3 (v := ?_) (by assumption) ?_ ?_
  rotate_left
  · intro w hSw
    (try dsimp only at hSw)
    go_simp
    with_reducible rfl
  try simp only [Act.put, puS_]
  refine tk_ 6 (v := ?_) (by assumption) ?_ ?_
  rotate_left
  · intro w hSw
    (try dsimp only at hSw)
    go_simp
    with_reducible rfl
  try simp only [Act.put, puS_]
  refine tk_ 2 (v := ?_) (by assumption) ?_ ?_
  rotate_left
  · intro w hSw
    (try dsimp only at hSw)
    go_simp
    with_reducible rfl
  try simp only [Act.put, puS_]
  apply pqk_
  · intro tail
    apply pqk_
    · intro tail
      refine wpAnyH_ready (rs := [4, 11]) (by kernel_rfl) (by simp) ?_
      refine AllReadyH.cons (o := _) rfl (fun K hK => ?_) ?_
      · go_simp
        refine (c12 _).mono ?_
        rintro e w5 ⟨rfl, rfl⟩
        show K _ _
        refine hK.out _ _ trivial (fun _ => ?_)
        clear hK K
        try simp only [Act.put, puS_]
        refine tk_ 5 (v := ?_) (by assumption) ?_ ?_
        rotate_left
        · intro w hSw
          (try dsimp only at hSw)
          go_simp
          with_reducible rfl
        try simp only [Act.put, puS_]
        refine wpAnyH_ready (rs := [7, 11]) (by kernel_rfl) (by simp) ?_
        refine AllReadyH.cons (o := _) rfl (fun K hK => ?_) ?_
        · go_simp
          refine (c16 _).mono ?_
          rintro e w5 ⟨rfl, rfl⟩
          show K _ _
          refine hK.out _ _ trivial (fun _ => ?_)
          clear hK K
          try simp only [Act.put, puS_]
          refine tk_ 8 (v := ?_) (by assumption) ?_ ?_
          rotate_left
          · intro w hSw
            (try dsimp only at hSw)
            go_simp
            with_reducible rfl
          try simp only [Act.put, puS_]
          refine tk_ 9 (v := ?_) (by assumption) ?_ ?_
          rotate_left
          · intro w hSw
            (try dsimp only at hSw)
            go_simp
            with_reducible rfl
          try simp only [Act.put, puS_]
          refine tk_ 10 (v := ?_) (by assumption) ?_ ?_
          rotate_left
          · intro w hSw
            (try dsimp only at hSw)
            go_simp
            with_reducible rfl
          try simp only [Act.put, puS_]
          refine wpAnyH_ready (rs := [11]) (by kernel_rfl) (by simp) ?_
          refine AllReadyH.cons (o := _) rfl (fun K hK => ?_) ?_
          · go_simp
            refine hK.out _ _ trivial (fun _ => ?_)
            clear hK K
            try simp only [Act.put, puS_]
            refine wpAnyH_ready (rs := [12]) (by kernel_rfl) (by simp) ?_
            refine AllReadyH.cons (o := _) rfl (fun K hK => ?_) ?_
            · go_simp
              refine hK.out _ _ trivial (fun _ => ?_)
              clear hK K
              try simp only [Act.put, puS_]
              refine wpAnyH_done (by kernel_rfl) (NoPanic.normal ?_) _
              exact tail
            exact AllReadyH.nil
          exact AllReadyH.nil
        refine AllReadyH.cons (o := _) rfl (fun K hK => ?_) ?_
        · go_simp
          refine hK.out _ _ trivial (fun _ => ?_)
          clear hK K
          try simp only [Act.put, puS_]
          refine wpAnyH_ready (rs := [7]) (by kernel_rfl) (by simp) ?_
          refine AllReadyH.cons (o := _) rfl (fun K hK => ?_) ?_
          · go_simp
            refine (c16 _).mono ?_
            rintro e w5 ⟨rfl, rfl⟩
            show K _ _
            refine hK.out _ _ trivial (fun _ => ?_)
            clear hK K
            try simp only [Act.put, puS_]
            refine tk_ 8 (v := ?_) (by assumption) ?_ ?_
            rotate_left
            · intro w hSw
              (try dsimp only at hSw)
              go_simp
              with_reducible rfl
            try simp only [Act.put, puS_]
            refine tk_ 9 (v := ?_) (by assumption) ?_ ?_
            rotate_left
            · intro w hSw
              (try dsimp only at hSw)
              go_simp
              with_reducible rfl
            try simp only [Act.put, puS_]
            refine tk_ 10 (v := ?_) (by assumption) ?_ ?_
            rotate_left
            · intro w hSw
              (try dsimp only at hSw)
              go_simp
              with_reducible rfl
            try simp only [Act.put, puS_]
            refine wpAnyH_ready (rs := [12]) (by kernel_rfl) (by simp) ?_
            refine AllReadyH.cons (o := _) rfl (fun K hK => ?_) ?_
            · go_simp
              refine hK.out _ _ trivial (fun _ => ?_)
              clear hK K
              try simp only [Act.put, puS_]
              refine wpAnyH_done (by kernel_rfl) (NoPanic.normal ?_) _
              exact tail
            exact AllReadyH.nil
          exact AllReadyH.nil
        exact AllReadyH.nil
      refine AllReadyH.cons (o := _) rfl (fun K hK => ?_) ?_
      · go_simp
        refine hK.out _ _ trivial (fun _ => ?_)
        clear hK K
        try simp only [Act.put, puS_]
        refine wpAnyH_ready (rs := [4]) (by kernel_rfl) (by simp) ?_
        refine AllReadyH.cons (o := _) rfl (fun K hK => ?_) ?_
        · go_simp
          refine (c12 _).mono ?_
          rintro e w5 ⟨rfl, rfl⟩
          show K _ _
          refine hK.out _ _ trivial (fun _ => ?_)
          clear hK K
          try simp only [Act.put, puS_]
          refine tk_ 5 (v := ?_) (by assumption) ?_ ?_
          rotate_left
          · intro w hSw
            (try dsimp only at hSw)
            go_simp
            with_reducible rfl
          try simp only [Act.put, puS_]
          refine wpAnyH_ready (rs := [7]) (by kernel_rfl) (by simp) ?_
          refine AllReadyH.cons (o := _) rfl (fun K hK => ?_) ?_
          · go_simp
            refine (c16 _).mono ?_
            rintro e w5 ⟨rfl, rfl⟩
            show K _ _
            refine hK.out _ _ trivial (fun _ => ?_)
            clear hK K
            try simp only [Act.put, puS_]
            refine tk_ 8 (v := ?_) (by assumption) ?_ ?_
            rotate_left
            · intro w hSw
              (try dsimp only at hSw)
              go_simp
              with_reducible rfl
            try simp only [Act.put, puS_]
            refine tk_ 9 (v := ?_) (by assumption) ?_ ?_
            rotate_left
            · intro w hSw
              (try dsimp only at hSw)
              go_simp
              with_reducible rfl
            try simp only [Act.put, puS_]
            refine tk_ 10 (v := ?_) (by assumption) ?_ ?_
            rotate_left
            · intro w hSw
              (try dsimp only at hSw)
              go_simp
              with_reducible rfl
            try simp only [Act.put, puS_]
            refine wpAnyH_ready (rs := [12]) (by kernel_rfl) (by simp) ?_
            refine AllReadyH.cons (o := _) rfl (fun K hK => ?_) ?_
            · go_simp
              refine hK.out _ _ trivial (fun _ => ?_)
              clear hK K
              try simp only [Act.put, puS_]
              refine wpAnyH_done (by kernel_rfl) (NoPanic.normal ?_) _
              exact tail
            exact AllReadyH.nil
          exact AllReadyH.nil
        exact AllReadyH.nil
      exact AllReadyH.nil
    exact tail
  clear hHeld
  have al := alO_ B3 (.cells #[.int .i64 (o : Int), .int .u8 1, .int .u32 v1, .int .u16 0, .int .u32 v3, .int .u16 0, .bool false, .int .i64 0] 85)
  have fzR_5 := fzB_ al R_2.1 fzR_4
  clear fzR_4
  have R_6 := R_2.on al
  have X_7 := Box8.make u1 (.int .i64 (o : Int)) (.int .u8 1) (.int .u32 v1) (.int .u16 0) (.int .u32 v3) (.int .u16 0) (.bool false) (.int .i64 0) 85
  have B8 := B3.trans (al.mono B3.size)
  clear al
  clear R_2 B3
  have fzX_9 : ∀ i, (u1.alloc (.cells #[.int .i64 (o : Int), .int .u8 1, .int .u32 v1, .int .u16 0, .int .u32 v3, .int .u16 0, .bool false, .int .i64 0] 85)).frozen? ⟨u1.heap.size, i, none⟩ = false := by intro i; simp [go_sem]
  have fzR_10 := fzD_ R_6.1 fzR_5
  have fzX_11 := fzD_ X_7.1 fzX_9
  clear fzR_5 fzX_9
  have R_12 := R_6.on ((Below.refl _ _).drew)
  have X_13 := X_7.on ((Below.refl _ _).drew)
  have B14 := B8.drew
  clear R_6 X_7 B8
  obtain ⟨u2, hu2⟩ : ∃ x_ : World, x_ = (u1.alloc (.cells #[.int .i64 (o : Int), .int .u8 1, .int .u32 v1, .int .u16 0, .int .u32 v3, .int .u16 0, .bool false, .int .i64 0] 85)).drew := ⟨_, rfl⟩
  rw [← hu2] at R_12 X_13 fzR_10 fzX_11 B14 ⊢
  clear hu2
  have hgL := get_bt L
  obtain ⟨_, x1_0, x1_1, x1_2, x1_3, x1_4, x1_5, x1_6, x1_7⟩ := id X_13
  go_upto_region 13 with fail
  clear x1_0 x1_1 x1_2 x1_3 x1_4 x1_5 x1_6 x1_7
  refine region_later (B := u2.heap.size) (by kernel_rfl) (by kernel_rfl) ?_
  repeat (go_big_quiet_step (first
    | (go_at_call 73; exact later_of _ (Nat.le_refl _) (cq _))))
  refine later_end fun w11 x11 => ?_
  have fzR_15 := fzB_ x11 R_12.1 fzR_10
  have fzX_16 := fzB_ x11 X_13.1 fzX_11
  clear fzR_10 fzX_11
  have R_17 := R_12.on x11
  have X_18 := X_13.on x11
  have B19 := B14.trans (x11.mono B14.size)
  clear R_12 X_13 B14 x11
  obtain ⟨_, x2_0, x2_1, x2_2, x2_3, x2_4, x2_5, x2_6, x2_7⟩ := id X_18
  obtain ⟨_, r3_0, r3_1, r3_2, r3_3, r3_4, r3_5, r3_6, r3_7⟩ := id R_17
  go_wp2
  refine box8_ (b := w.heap.size) R_17.some B19 (Nat.le_refl _) fun Z x0 x1 x2 x3 x4 x5 x6 x7 BZ _ => ?_
  refine bodyPost_ret (v := .agg #[.int .i64 0, .int .u8 0, .int .u32 0, .int .u16 0, .int .u32 0, .int .u16 0, .bool false, .int .i64 15]) (by simp [results, Tryz.results32, go_sem, x0, x1, x2, x3, x4, x5, x6, x7]) rfl ?_
  exact ⟨rfl, BZ⟩
theorem look10_ask (D : ByteArray) (o : Nat) (e1 : decide (D.size < 20) = false) (e2 : decide ((D.size : Int) < 20) = false) (i0 : (0 : Int) < (D.size : Int)) (e3 : (bt D 0 / 16 == 4) = true) (e4 : (bt D 0 / 16 != 4) = false) (e5 : bt D 0 % 16 * 4 = (o : Int)) (o60 : o ≤ 60) (e6 : decide (o < 20) = false) (e7 : decide ((o : Int) < 20) = false) (e8 : decide (D.size < o) = false) (e9 : decide ((D.size : Int) < (o : Int)) = false) (q : Int) (q0 : 0 ≤ q) (q1 : q ≤ 65535) (cw : ∀ u : World, Calls Tryz.prog 71 #[.string D, .int .i64 6] u fun e w' => e = .returned (.int .u16 q) ∧ u = w') (ea : (q % 8192 == 0) = true) (eb : (q % 8192 != 0) = false) (r : Int) (ew : wrap64 ((D.size : Int) - (o : Int)) = r) (ec : decide (r < 8) = false) (io : (o : Int) ≤ (D.size : Int)) (i9 : (9 : Int) < (D.size : Int)) (v1 v3 : Int) (c12 : ∀ u : World, Calls Tryz.prog 72 #[.string D, .int .i64 12] u fun e w' => e = .returned (.int .u32 v1) ∧ u = w') (c16 : ∀ u : World, Calls Tryz.prog 72 #[.string D, .int .i64 16] u fun e w' => e = .returned (.int .u32 v3) ∧ u = w') (L : ByteArray) (hL : D.extract o D.size = L) (ep : bt D 9 = 1) (cq : Cb_ 73 #[.agg #[.int .u8 (bt L 0), .int .u8 (bt L 1), .int .u16 0, .string ⟨#[]⟩, .string ⟨#[]⟩]] (.tuple #[.bool true, .bool true])) (l0 : (0 : Int) < (L.size : Int)) (l1 : (1 : Int) < (L.size : Int)) (j : Int) (cj : ∀ u : World, Calls Tryz.prog 71 #[.string L, .int .i64 4] u fun e w' => e = .returned (.int .u16 j) ∧ u = w') (w : World) :
    Cw_ 32 #[.string D] (.agg #[.int .i64 (o : Int), .int .u8 1, .int .u32 v1, .int .u16 j, .int .u32 v3, .int .u16 0, .bool true, .int .i64 0]) w := by
  have hb := get_bt D
  have b0 := bt_nonneg D 0
  have b1 := bt_le D 0
  go_enter Tryz.func32, Tryz.ntmps32
  have B1 := Below.refl w.heap.size w
  go_upto_region 1 with fail
  have R_2 := Box8.make w (.int .i64 0) (.int .u8 0) (.int .u32 0) (.int .u16 0) (.int .u32 0) (.int .u16 0) (.bool false) (.int .i64 0) 85
  have B3 := B1.alloc B1.size (.cells #[.int .i64 0, .int .u8 0, .int .u32 0, .int .u16 0, .int .u32 0, .int .u16 0, .bool false, .int .i64 0] 85)
  clear B1
  have fzR_4 : ∀ i, (w.alloc (.cells #[.int .i64 0, .int .u8 0, .int .u32 0, .int .u16 0, .int .u32 0, .int .u16 0, .bool false, .int .i64 0] 85)).frozen? ⟨w.heap.size, i, none⟩ = false := by intro i; simp [go_sem]
  obtain ⟨u1, hu1⟩ : ∃ x_ : World, x_ = w.alloc (.cells #[.int .i64 0, .int .u8 0, .int .u32 0, .int .u16 0, .int .u32 0, .int .u16 0, .bool false, .int .i64 0] 85) := ⟨_, rfl⟩
  rw [← hu1] at R_2 fzR_4 B3 ⊢
  clear hu1
  have LR := Lib.hid (R_2.1)
  have ne1_ : ¬ u1.heap.size = w.heap.size := by have := LR.out; omega
  have ne2_ : ¬ w.heap.size = u1.heap.size := by have := LR.out; omega
  go_wp2_with fail
  refine (cw _).mono ?_; rintro e w1 ⟨rfl, rfl⟩
  clear cw
  go_upto_region 6 with fail
  refine wp_region_noPanic ?_
  refine wp_region_held_drew (S := (fun w' => True)) (by kernel_rfl) trivial (fun hHeld => ?_)
  refine tk_ 0 (v := ?_) (by assumption) ?_ ?_
  rotate_left
  · intro w hSw
    (try dsimp only at hSw)
    go_simp
    with_reducible rfl
  try simp only [Act.put, puS_]
  refine tk_ 1 (v := ?_) (by assumption) ?_ ?_
  rotate_left
  · intro w hSw
    (try dsimp only at hSw)
    go_simp
    with_reducible rfl
  try simp only [Act.put, puS_]
  refine tk_ 3 (v := ?_) (by assumption) ?_ ?_
  rotate_left
  · intro w hSw
    (try dsimp only at hSw)
    go_simp
    with_reducible rfl
  try simp only [Act.put, puS_]
  refine tk_ 6 (v := ?_) (by assumption) ?_ ?_
  rotate_left
  · intro w hSw
    (try dsimp only at hSw)
    go_simp
    with_reducible rfl
  try simp only [Act.put, puS_]
  refine tk_ 2 (v := ?_) (by assumption) ?_ ?_
  rotate_left
  · intro w hSw
    (try dsimp only at hSw)
    go_simp
    with_reducible rfl
  try simp only [Act.put, puS_]
  apply pqk_
  · intro tail
    apply pqk_
    · intro tail
      refine wpAnyH_ready (rs := [4, 11]) (by kernel_rfl) (by simp) ?_
      refine AllReadyH.cons (o := _) rfl (fun K hK => ?_) ?_
      · go_simp
        refine (c12 _).mono ?_
        rintro e w5 ⟨rfl, rfl⟩
        show K _ _
        refine hK.out _ _ trivial (fun _ => ?_)
        clear hK K
        try simp only [Act.put, puS_]
        refine tk_ 5 (v := ?_) (by assumption) ?_ ?_
        rotate_left
        · intro w hSw
          (try dsimp only at hSw)
          go_simp
          with_reducible rfl
        try simp only [Act.put, puS_]
        refine wpAnyH_ready (rs := [7, 11]) (by kernel_rfl) (by simp) ?_
        refine AllReadyH.cons (o := _) rfl (fun K hK => ?_) ?_
        · go_simp
          refine (c16 _).mono ?_
          rintro e w5 ⟨rfl, rfl⟩
          show K _ _
          refine hK.out _ _ trivial (fun _ => ?_)
          clear hK K
          try simp only [Act.put, puS_]
          refine tk_ 8 (v := ?_) (by assumption) ?_ ?_
          rotate_left
          · intro w hSw
            (try dsimp only at hSw)
            go_simp
            with_reducible rfl
          try simp only [Act.put, puS_]
          refine tk_ 9 (v := ?_) (by assumption) ?_ ?_
          rotate_left
          · intro w hSw
            (try dsimp only at hSw)
            go_simp
            with_reducible rfl
          try simp only [Act.put, puS_]
          refine tk_ 10 (v := ?_) (by assumption) ?_ ?_
          rotate_left
          · intro w hSw
            (try dsimp only at hSw)
            go_simp
            with_reducible rfl
          try simp only [Act.put, puS_]
          refine wpAnyH_ready (rs := [11]) (by kernel_rfl) (by simp) ?_
          refine AllReadyH.cons (o := _) rfl (fun K hK => ?_) ?_
          · go_simp
            refine hK.out _ _ trivial (fun _ => ?_)
            clear hK K
            try simp only [Act.put, puS_]
            refine wpAnyH_ready (rs := [12]) (by kernel_rfl) (by simp) ?_
            refine AllReadyH.cons (o := _) rfl (fun K hK => ?_) ?_
            · go_simp
              refine hK.out _ _ trivial (fun _ => ?_)
              clear hK K
              try simp only [Act.put, puS_]
              refine wpAnyH_done (by kernel_rfl) (NoPanic.normal ?_) _
              exact tail
            exact AllReadyH.nil
          exact AllReadyH.nil
        refine AllReadyH.cons (o := _) rfl (fun K hK => ?_) ?_
        · go_simp
          refine hK.out _ _ trivial (fun _ => ?_)
          clear hK K
          try simp only [Act.put, puS_]
          refine wpAnyH_ready (rs := [7]) (by kernel_rfl) (by simp) ?_
          refine AllReadyH.cons (o := _) rfl (fun K hK => ?_) ?_
          · go_simp
            refine (c16 _).mono ?_
            rintro e w5 ⟨rfl, rfl⟩
            show K _ _
            refine hK.out _ _ trivial (fun _ => ?_)
            clear hK K
            try simp only [Act.put, puS_]
            refine tk_ 8 (v := ?_) (by assumption) ?_ ?_
            rotate_left
            · intro w hSw
              (try dsimp only at hSw)
              go_simp
              with_reducible rfl
            try simp only [Act.put, puS_]
            refine tk_ 9 (v := ?_) (by assumption) ?_ ?_
            rotate_left
            · intro w hSw
              (try dsimp only at hSw)
              go_simp
              with_reducible rfl
            try simp only [Act.put, puS_]
            refine tk_ 10 (v := ?_) (by assumption) ?_ ?_
            rotate_left
            · intro w hSw
              (try dsimp only at hSw)
              go_simp
              with_reducible rfl
            try simp only [Act.put, puS_]
            refine wpAnyH_ready (rs := [12]) (by kernel_rfl) (by simp) ?_
            refine AllReadyH.cons (o := _) rfl (fun K hK => ?_) ?_
            · go_simp
              refine hK.out _ _ trivial (fun _ => ?_)
              clear hK K
              try simp only [Act.put, puS_]
              refine wpAnyH_done (by kernel_rfl) (NoPanic.normal ?_) _
              exact tail
            exact AllReadyH.nil
          exact AllReadyH.nil
        exact AllReadyH.nil
      refine AllReadyH.cons (o := _) rfl (fun K hK => ?_) ?_
      · go_simp
        refine hK.out _ _ trivial (fun _ => ?_)
        clear hK K
        try simp only [Act.put, puS_]
        refine wpAnyH_ready (rs := [4]) (by kernel_rfl) (by simp) ?_
        refine AllReadyH.cons (o := _) rfl (fun K hK => ?_) ?_
        · go_simp
          refine (c12 _).mono ?_
          rintro e w5 ⟨rfl, rfl⟩
          show K _ _
          refine hK.out _ _ trivial (fun _ => ?_)
          clear hK K
          try simp only [Act.put, puS_]
          refine tk_ 5 (v := ?_) (by assumption) ?_ ?_
          rotate_left
          · intro w hSw
            (try dsimp only at hSw)
            go_simp
            with_reducible rfl
          try simp only [Act.put, puS_]
          refine wpAnyH_ready (rs := [7]) (by kernel_rfl) (by simp) ?_
          refine AllReadyH.cons (o := _) rfl (fun K hK => ?_) ?_
          · go_simp
            refine (c16 _).mono ?_
            rintro e w5 ⟨rfl, rfl⟩
            show K _ _
            refine hK.out _ _ trivial (fun _ => ?_)
            clear hK K
            try simp only [Act.put, puS_]
            refine tk_ 8 (v := ?_) (by assumption) ?_ ?_
            rotate_left
            · intro w hSw
              (try dsimp only at hSw)
              go_simp
              with_reducible rfl
            try simp only [Act.put, puS_]
            refine tk_ 9 (v := ?_) (by assumption) ?_ ?_
            rotate_left
            · intro w hSw
              (try dsimp only at hSw)
              go_simp
              with_reducible rfl
            try simp only [Act.put, puS_]
            refine tk_ 10 (v := ?_) (by assumption) ?_ ?_
            rotate_left
            · intro w hSw
              (try dsimp only at hSw)
              go_simp
              with_reducible rfl
            try simp only [Act.put, puS_]
            refine wpAnyH_ready (rs := [12]) (by kernel_rfl) (by simp) ?_
            refine AllReadyH.cons (o := _) rfl (fun K hK => ?_) ?_
            · go_simp
              refine hK.out _ _ trivial (fun _ => ?_)
              clear hK K
              try simp only [Act.put, puS_]
              refine wpAnyH_done (by kernel_rfl) (NoPanic.normal ?_) _
              exact tail
            exact AllReadyH.nil
          exact AllReadyH.nil
        exact AllReadyH.nil
      exact AllReadyH.nil
    exact tail
  clear hHeld
  have al := alO_ B3 (.cells #[.int .i64 (o : Int), .int .u8 1, .int .u32 v1, .int .u16 0, .int .u32 v3, .int .u16 0, .bool false, .int .i64 0] 85)
  have fzR_5 := fzB_ al R_2.1 fzR_4
  clear fzR_4
  have R_6 := R_2.on al
  have X_7 := Box8.make u1 (.int .i64 (o : Int)) (.int .u8 1) (.int .u32 v1) (.int .u16 0) (.int .u32 v3) (.int .u16 0) (.bool false) (.int .i64 0) 85
  have B8 := B3.trans (al.mono B3.size)
  clear al
  clear R_2 B3
  have fzX_9 : ∀ i, (u1.alloc (.cells #[.int .i64 (o : Int), .int .u8 1, .int .u32 v1, .int .u16 0, .int .u32 v3, .int .u16 0, .bool false, .int .i64 0] 85)).frozen? ⟨u1.heap.size, i, none⟩ = false := by intro i; simp [go_sem]
  have fzR_10 := fzD_ R_6.1 fzR_5
  have fzX_11 := fzD_ X_7.1 fzX_9
  clear fzR_5 fzX_9
  have R_12 := R_6.on ((Below.refl _ _).drew)
  have X_13 := X_7.on ((Below.refl _ _).drew)
  have B14 := B8.drew
  clear R_6 X_7 B8
  obtain ⟨u2, hu2⟩ : ∃ x_ : World, x_ = (u1.alloc (.cells #[.int .i64 (o : Int), .int .u8 1, .int .u32 v1, .int .u16 0, .int .u32 v3, .int .u16 0, .bool false, .int .i64 0] 85)).drew := ⟨_, rfl⟩
  rw [← hu2] at R_12 X_13 fzR_10 fzX_11 B14 ⊢
  clear hu2
  have hgL := get_bt L
  obtain ⟨_, x1_0, x1_1, x1_2, x1_3, x1_4, x1_5, x1_6, x1_7⟩ := id X_13
  go_upto_region 13 with fail
  clear x1_0 x1_1 x1_2 x1_3 x1_4 x1_5 x1_6 x1_7
  refine region_later (B := u2.heap.size) (by kernel_rfl) (by kernel_rfl) ?_
  repeat (go_big_quiet_step (first
    | (go_at_call 73; exact later_of _ (Nat.le_refl _) (cq _))))
  refine later_end fun w11 x11 => ?_
  have fzR_15 := fzB_ x11 R_12.1 fzR_10
  have fzX_16 := fzB_ x11 X_13.1 fzX_11
  clear fzR_10 fzX_11
  have R_17 := R_12.on x11
  have X_18 := X_13.on x11
  have B19 := B14.trans (x11.mono B14.size)
  clear R_12 X_13 B14 x11
  obtain ⟨_, x2_0, x2_1, x2_2, x2_3, x2_4, x2_5, x2_6, x2_7⟩ := id X_18
  go_upto_region 17 with fail
  clear x2_0 x2_1 x2_2 x2_3 x2_4 x2_5 x2_6 x2_7
  obtain ⟨_, r3_0, r3_1, r3_2, r3_3, r3_4, r3_5, r3_6, r3_7⟩ := id R_17
  obtain ⟨_, x4_0, x4_1, x4_2, x4_3, x4_4, x4_5, x4_6, x4_7⟩ := id X_18
  have B20 := (B19.setCell (p := ⟨u1.heap.size, 6, none⟩) (Nat.le_of_lt LR.out) (.bool true))
  have R_21 : Box8 (w11.setCell ⟨u1.heap.size, 6, none⟩ (.bool true)) w.heap.size (.int .i64 0) (.int .u8 0) (.int .u32 0) (.int .u16 0) (.int .u32 0) (.int .u16 0) (.bool false) (.int .i64 0) := ⟨by have := R_17.1; simpa using this, by simp [go_sem, r3_0, r3_1, r3_2, r3_3, r3_4, r3_5, r3_6, r3_7, x4_0, x4_1, x4_2, x4_3, x4_4, x4_5, x4_6, x4_7]⟩
  have X_22 : Box8 (w11.setCell ⟨u1.heap.size, 6, none⟩ (.bool true)) u1.heap.size (.int .i64 (o : Int)) (.int .u8 1) (.int .u32 v1) (.int .u16 0) (.int .u32 v3) (.int .u16 0) (.bool true) (.int .i64 0) := ⟨by have := X_18.1; simpa using this, by simp [go_sem, r3_0, r3_1, r3_2, r3_3, r3_4, r3_5, r3_6, r3_7, x4_0, x4_1, x4_2, x4_3, x4_4, x4_5, x4_6, x4_7]⟩
  have fzR_23 : ∀ i, (w11.setCell ⟨u1.heap.size, 6, none⟩ (.bool true)).frozen? ⟨w.heap.size, i, none⟩ = false := by intro i; simp [fzR_15]
  have fzX_24 : ∀ i, (w11.setCell ⟨u1.heap.size, 6, none⟩ (.bool true)).frozen? ⟨u1.heap.size, i, none⟩ = false := by intro i; simp [fzX_16]
  clear r3_0 r3_1 r3_2 r3_3 r3_4 r3_5 r3_6 r3_7 x4_0 x4_1 x4_2 x4_3 x4_4 x4_5 x4_6 x4_7 R_17 X_18 fzR_15 fzX_16 B19
  obtain ⟨u12, hu12⟩ : ∃ x_ : World, x_ = (w11.setCell ⟨u1.heap.size, 6, none⟩ (.bool true)) := ⟨_, rfl⟩
  rw [← hu12] at R_21 X_22 fzR_23 fzX_24 B20 ⊢
  clear hu12
  obtain ⟨_, x5_0, x5_1, x5_2, x5_3, x5_4, x5_5, x5_6, x5_7⟩ := id X_22
  go_wp2_with fail
  refine (cj _).mono ?_; rintro e w21 ⟨rfl, rfl⟩
  go_upto_region 20 with fail
  clear x5_0 x5_1 x5_2 x5_3 x5_4 x5_5 x5_6 x5_7
  obtain ⟨_, r6_0, r6_1, r6_2, r6_3, r6_4, r6_5, r6_6, r6_7⟩ := id R_21
  obtain ⟨_, x7_0, x7_1, x7_2, x7_3, x7_4, x7_5, x7_6, x7_7⟩ := id X_22
  have B25 := (B20.setCell (p := ⟨u1.heap.size, 3, none⟩) (Nat.le_of_lt LR.out) (.int .u16 j))
  have R_26 : Box8 (u12.setCell ⟨u1.heap.size, 3, none⟩ (.int .u16 j)) w.heap.size (.int .i64 0) (.int .u8 0) (.int .u32 0) (.int .u16 0) (.int .u32 0) (.int .u16 0) (.bool false) (.int .i64 0) := ⟨by have := R_21.1; simpa using this, by simp [go_sem, r6_0, r6_1, r6_2, r6_3, r6_4, r6_5, r6_6, r6_7, x7_0, x7_1, x7_2, x7_3, x7_4, x7_5, x7_6, x7_7]⟩
  have X_27 : Box8 (u12.setCell ⟨u1.heap.size, 3, none⟩ (.int .u16 j)) u1.heap.size (.int .i64 (o : Int)) (.int .u8 1) (.int .u32 v1) (.int .u16 j) (.int .u32 v3) (.int .u16 0) (.bool true) (.int .i64 0) := ⟨by have := X_22.1; simpa using this, by simp [go_sem, r6_0, r6_1, r6_2, r6_3, r6_4, r6_5, r6_6, r6_7, x7_0, x7_1, x7_2, x7_3, x7_4, x7_5, x7_6, x7_7]⟩
  have fzR_28 : ∀ i, (u12.setCell ⟨u1.heap.size, 3, none⟩ (.int .u16 j)).frozen? ⟨w.heap.size, i, none⟩ = false := by intro i; simp [fzR_23]
  have fzX_29 : ∀ i, (u12.setCell ⟨u1.heap.size, 3, none⟩ (.int .u16 j)).frozen? ⟨u1.heap.size, i, none⟩ = false := by intro i; simp [fzX_24]
  clear r6_0 r6_1 r6_2 r6_3 r6_4 r6_5 r6_6 r6_7 x7_0 x7_1 x7_2 x7_3 x7_4 x7_5 x7_6 x7_7 R_21 X_22 fzR_23 fzX_24 B20
  obtain ⟨u13, hu13⟩ : ∃ x_ : World, x_ = (u12.setCell ⟨u1.heap.size, 3, none⟩ (.int .u16 j)) := ⟨_, rfl⟩
  rw [← hu13] at R_26 X_27 fzR_28 fzX_29 B25 ⊢
  clear hu13
  obtain ⟨_, x8_0, x8_1, x8_2, x8_3, x8_4, x8_5, x8_6, x8_7⟩ := id X_27
  obtain ⟨_, r9_0, r9_1, r9_2, r9_3, r9_4, r9_5, r9_6, r9_7⟩ := id R_26
  go_wp2
  refine box8_ (b := w.heap.size) R_26.some B25 (Nat.le_refl _) fun Z x0 x1 x2 x3 x4 x5 x6 x7 BZ _ => ?_
  refine bodyPost_ret (v := .agg #[.int .i64 (o : Int), .int .u8 1, .int .u32 v1, .int .u16 j, .int .u32 v3, .int .u16 0, .bool true, .int .i64 0]) (by simp [results, Tryz.results32, go_sem, x0, x1, x2, x3, x4, x5, x6, x7]) rfl ?_
  exact ⟨rfl, BZ⟩
theorem look10_told (D : ByteArray) (o : Nat) (e1 : decide (D.size < 20) = false) (e2 : decide ((D.size : Int) < 20) = false) (i0 : (0 : Int) < (D.size : Int)) (e3 : (bt D 0 / 16 == 4) = true) (e4 : (bt D 0 / 16 != 4) = false) (e5 : bt D 0 % 16 * 4 = (o : Int)) (o60 : o ≤ 60) (e6 : decide (o < 20) = false) (e7 : decide ((o : Int) < 20) = false) (e8 : decide (D.size < o) = false) (e9 : decide ((D.size : Int) < (o : Int)) = false) (q : Int) (q0 : 0 ≤ q) (q1 : q ≤ 65535) (cw : ∀ u : World, Calls Tryz.prog 71 #[.string D, .int .i64 6] u fun e w' => e = .returned (.int .u16 q) ∧ u = w') (ea : (q % 8192 == 0) = true) (eb : (q % 8192 != 0) = false) (r : Int) (ew : wrap64 ((D.size : Int) - (o : Int)) = r) (ec : decide (r < 8) = false) (io : (o : Int) ≤ (D.size : Int)) (i9 : (9 : Int) < (D.size : Int)) (v1 v3 : Int) (c12 : ∀ u : World, Calls Tryz.prog 72 #[.string D, .int .i64 12] u fun e w' => e = .returned (.int .u32 v1) ∧ u = w') (c16 : ∀ u : World, Calls Tryz.prog 72 #[.string D, .int .i64 16] u fun e w' => e = .returned (.int .u32 v3) ∧ u = w') (L : ByteArray) (hL : D.extract o D.size = L) (ep : bt D 9 = 1) (cq : Cb_ 73 #[.agg #[.int .u8 (bt L 0), .int .u8 (bt L 1), .int .u16 0, .string ⟨#[]⟩, .string ⟨#[]⟩]] (.tuple #[.bool false, .bool true])) (l0 : (0 : Int) < (L.size : Int)) (l1 : (1 : Int) < (L.size : Int)) (j : Int) (cj : ∀ u : World, Calls Tryz.prog 71 #[.string L, .int .i64 4] u fun e w' => e = .returned (.int .u16 j) ∧ u = w') (w : World) :
    Cw_ 32 #[.string D] (.agg #[.int .i64 (o : Int), .int .u8 1, .int .u32 v1, .int .u16 0, .int .u32 v3, .int .u16 j, .bool false, .int .i64 0]) w := by
  have hb := get_bt D
  have b0 := bt_nonneg D 0
  have b1 := bt_le D 0
  go_enter Tryz.func32, Tryz.ntmps32
  have B1 := Below.refl w.heap.size w
  go_upto_region 1 with fail
  have R_2 := Box8.make w (.int .i64 0) (.int .u8 0) (.int .u32 0) (.int .u16 0) (.int .u32 0) (.int .u16 0) (.bool false) (.int .i64 0) 85
  have B3 := B1.alloc B1.size (.cells #[.int .i64 0, .int .u8 0, .int .u32 0, .int .u16 0, .int .u32 0, .int .u16 0, .bool false, .int .i64 0] 85)
  clear B1
  have fzR_4 : ∀ i, (w.alloc (.cells #[.int .i64 0, .int .u8 0, .int .u32 0, .int .u16 0, .int .u32 0, .int .u16 0, .bool false, .int .i64 0] 85)).frozen? ⟨w.heap.size, i, none⟩ = false := by intro i; simp [go_sem]
  obtain ⟨u1, hu1⟩ : ∃ x_ : World, x_ = w.alloc (.cells #[.int .i64 0, .int .u8 0, .int .u32 0, .int .u16 0, .int .u32 0, .int .u16 0, .bool false, .int .i64 0] 85) := ⟨_, rfl⟩
  rw [← hu1] at R_2 fzR_4 B3 ⊢
  clear hu1
  have LR := Lib.hid (R_2.1)
  have ne1_ : ¬ u1.heap.size = w.heap.size := by have := LR.out; omega
  have ne2_ : ¬ w.heap.size = u1.heap.size := by have := LR.out; omega
  go_wp2_with fail
  refine (cw _).mono ?_; rintro e w1 ⟨rfl, rfl⟩
  clear cw
  go_upto_region 6 with fail
  refine wp_region_noPanic ?_
  refine wp_region_held_drew (S := (fun w' => True)) (by kernel_rfl) trivial (fun hHeld => ?_)
  refine tk_ 0 (v := ?_) (by assumption) ?_ ?_
  rotate_left
  · intro w hSw
    (try dsimp only at hSw)
    go_simp
    with_reducible rfl
  try simp only [Act.put, puS_]
  refine tk_ 1 (v := ?_) (by assumption) ?_ ?_
  rotate_left
  · intro w hSw
    (try dsimp only at hSw)
    go_simp
    with_reducible rfl
  try simp only [Act.put, puS_]
  refine tk_ 3 (v := ?_) (by assumption) ?_ ?_
  rotate_left
  · intro w hSw
    (try dsimp only at hSw)
    go_simp
    with_reducible rfl
  try simp only [Act.put, puS_]
  refine tk_ 6 (v := ?_) (by assumption) ?_ ?_
  rotate_left
  · intro w hSw
    (try dsimp only at hSw)
    go_simp
    with_reducible rfl
  try simp only [Act.put, puS_]
  refine tk_ 2 (v := ?_) (by assumption) ?_ ?_
  rotate_left
  · intro w hSw
    (try dsimp only at hSw)
    go_simp
    with_reducible rfl
  try simp only [Act.put, puS_]
  apply pqk_
  · intro tail
    apply pqk_
    · intro tail
      refine wpAnyH_ready (rs := [4, 11]) (by kernel_rfl) (by simp) ?_
      refine AllReadyH.cons (o := _) rfl (fun K hK => ?_) ?_
      · go_simp
        refine (c12 _).mono ?_
        rintro e w5 ⟨rfl, rfl⟩
        show K _ _
        refine hK.out _ _ trivial (fun _ => ?_)
        clear hK K
        try simp only [Act.put, puS_]
        refine tk_ 5 (v := ?_) (by assumption) ?_ ?_
        rotate_left
        · intro w hSw
          (try dsimp only at hSw)
          go_simp
          with_reducible rfl
        try simp only [Act.put, puS_]
        refine wpAnyH_ready (rs := [7, 11]) (by kernel_rfl) (by simp) ?_
        refine AllReadyH.cons (o := _) rfl (fun K hK => ?_) ?_
        · go_simp
          refine (c16 _).mono ?_
          rintro e w5 ⟨rfl, rfl⟩
          show K _ _
          refine hK.out _ _ trivial (fun _ => ?_)
          clear hK K
          try simp only [Act.put, puS_]
          refine tk_ 8 (v := ?_) (by assumption) ?_ ?_
          rotate_left
          · intro w hSw
            (try dsimp only at hSw)
            go_simp
            with_reducible rfl
          try simp only [Act.put, puS_]
          refine tk_ 9 (v := ?_) (by assumption) ?_ ?_
          rotate_left
          · intro w hSw
            (try dsimp only at hSw)
            go_simp
            with_reducible rfl
          try simp only [Act.put, puS_]
          refine tk_ 10 (v := ?_) (by assumption) ?_ ?_
          rotate_left
          · intro w hSw
            (try dsimp only at hSw)
            go_simp
            with_reducible rfl
          try simp only [Act.put, puS_]
          refine wpAnyH_ready (rs := [11]) (by kernel_rfl) (by simp) ?_
          refine AllReadyH.cons (o := _) rfl (fun K hK => ?_) ?_
          · go_simp
            refine hK.out _ _ trivial (fun _ => ?_)
            clear hK K
            try simp only [Act.put, puS_]
            refine wpAnyH_ready (rs := [12]) (by kernel_rfl) (by simp) ?_
            refine AllReadyH.cons (o := _) rfl (fun K hK => ?_) ?_
            · go_simp
              refine hK.out _ _ trivial (fun _ => ?_)
              clear hK K
              try simp only [Act.put, puS_]
              refine wpAnyH_done (by kernel_rfl) (NoPanic.normal ?_) _
              exact tail
            exact AllReadyH.nil
          exact AllReadyH.nil
        refine AllReadyH.cons (o := _) rfl (fun K hK => ?_) ?_
        · go_simp
          refine hK.out _ _ trivial (fun _ => ?_)
          clear hK K
          try simp only [Act.put, puS_]
          refine wpAnyH_ready (rs := [7]) (by kernel_rfl) (by simp) ?_
          refine AllReadyH.cons (o := _) rfl (fun K hK => ?_) ?_
          · go_simp
            refine (c16 _).mono ?_
            rintro e w5 ⟨rfl, rfl⟩
            show K _ _
            refine hK.out _ _ trivial (fun _ => ?_)
            clear hK K
            try simp only [Act.put, puS_]
            refine tk_ 8 (v := ?_) (by assumption) ?_ ?_
            rotate_left
            · intro w hSw
              (try dsimp only at hSw)
              go_simp
              with_reducible rfl
            try simp only [Act.put, puS_]
            refine tk_ 9 (v := ?_) (by assumption) ?_ ?_
            rotate_left
            · intro w hSw
              (try dsimp only at hSw)
              go_simp
              with_reducible rfl
            try simp only [Act.put, puS_]
            refine tk_ 10 (v := ?_) (by assumption) ?_ ?_
            rotate_left
            · intro w hSw
              (try dsimp only at hSw)
              go_simp
              with_reducible rfl
            try simp only [Act.put, puS_]
            refine wpAnyH_ready (rs := [12]) (by kernel_rfl) (by simp) ?_
            refine AllReadyH.cons (o := _) rfl (fun K hK => ?_) ?_
            · go_simp
              refine hK.out _ _ trivial (fun _ => ?_)
              clear hK K
              try simp only [Act.put, puS_]
              refine wpAnyH_done (by kernel_rfl) (NoPanic.normal ?_) _
              exact tail
            exact AllReadyH.nil
          exact AllReadyH.nil
        exact AllReadyH.nil
      refine AllReadyH.cons (o := _) rfl (fun K hK => ?_) ?_
      · go_simp
        refine hK.out _ _ trivial (fun _ => ?_)
        clear hK K
        try simp only [Act.put, puS_]
        refine wpAnyH_ready (rs := [4]) (by kernel_rfl) (by simp) ?_
        refine AllReadyH.cons (o := _) rfl (fun K hK => ?_) ?_
        · go_simp
          refine (c12 _).mono ?_
          rintro e w5 ⟨rfl, rfl⟩
          show K _ _
          refine hK.out _ _ trivial (fun _ => ?_)
          clear hK K
          try simp only [Act.put, puS_]
          refine tk_ 5 (v := ?_) (by assumption) ?_ ?_
          rotate_left
          · intro w hSw
            (try dsimp only at hSw)
            go_simp
            with_reducible rfl
          try simp only [Act.put, puS_]
          refine wpAnyH_ready (rs := [7]) (by kernel_rfl) (by simp) ?_
          refine AllReadyH.cons (o := _) rfl (fun K hK => ?_) ?_
          · go_simp
            refine (c16 _).mono ?_
            rintro e w5 ⟨rfl, rfl⟩
            show K _ _
            refine hK.out _ _ trivial (fun _ => ?_)
            clear hK K
            try simp only [Act.put, puS_]
            refine tk_ 8 (v := ?_) (by assumption) ?_ ?_
            rotate_left
            · intro w hSw
              (try dsimp only at hSw)
              go_simp
              with_reducible rfl
            try simp only [Act.put, puS_]
            refine tk_ 9 (v := ?_) (by assumption) ?_ ?_
            rotate_left
            · intro w hSw
              (try dsimp only at hSw)
              go_simp
              with_reducible rfl
            try simp only [Act.put, puS_]
            refine tk_ 10 (v := ?_) (by assumption) ?_ ?_
            rotate_left
            · intro w hSw
              (try dsimp only at hSw)
              go_simp
              with_reducible rfl
            try simp only [Act.put, puS_]
            refine wpAnyH_ready (rs := [12]) (by kernel_rfl) (by simp) ?_
            refine AllReadyH.cons (o := _) rfl (fun K hK => ?_) ?_
            · go_simp
              refine hK.out _ _ trivial (fun _ => ?_)
              clear hK K
              try simp only [Act.put, puS_]
              refine wpAnyH_done (by kernel_rfl) (NoPanic.normal ?_) _
              exact tail
            exact AllReadyH.nil
          exact AllReadyH.nil
        exact AllReadyH.nil
      exact AllReadyH.nil
    exact tail
  clear hHeld
  have al := alO_ B3 (.cells #[.int .i64 (o : Int), .int .u8 1, .int .u32 v1, .int .u16 0, .int .u32 v3, .int .u16 0, .bool false, .int .i64 0] 85)
  have fzR_5 := fzB_ al R_2.1 fzR_4
  clear fzR_4
  have R_6 := R_2.on al
  have X_7 := Box8.make u1 (.int .i64 (o : Int)) (.int .u8 1) (.int .u32 v1) (.int .u16 0) (.int .u32 v3) (.int .u16 0) (.bool false) (.int .i64 0) 85
  have B8 := B3.trans (al.mono B3.size)
  clear al
  clear R_2 B3
  have fzX_9 : ∀ i, (u1.alloc (.cells #[.int .i64 (o : Int), .int .u8 1, .int .u32 v1, .int .u16 0, .int .u32 v3, .int .u16 0, .bool false, .int .i64 0] 85)).frozen? ⟨u1.heap.size, i, none⟩ = false := by intro i; simp [go_sem]
  have fzR_10 := fzD_ R_6.1 fzR_5
  have fzX_11 := fzD_ X_7.1 fzX_9
  clear fzR_5 fzX_9
  have R_12 := R_6.on ((Below.refl _ _).drew)
  have X_13 := X_7.on ((Below.refl _ _).drew)
  have B14 := B8.drew
  clear R_6 X_7 B8
  obtain ⟨u2, hu2⟩ : ∃ x_ : World, x_ = (u1.alloc (.cells #[.int .i64 (o : Int), .int .u8 1, .int .u32 v1, .int .u16 0, .int .u32 v3, .int .u16 0, .bool false, .int .i64 0] 85)).drew := ⟨_, rfl⟩
  rw [← hu2] at R_12 X_13 fzR_10 fzX_11 B14 ⊢
  clear hu2
  have hgL := get_bt L
  obtain ⟨_, x1_0, x1_1, x1_2, x1_3, x1_4, x1_5, x1_6, x1_7⟩ := id X_13
  go_upto_region 13 with fail
  clear x1_0 x1_1 x1_2 x1_3 x1_4 x1_5 x1_6 x1_7
  refine region_later (B := u2.heap.size) (by kernel_rfl) (by kernel_rfl) ?_
  repeat (go_big_quiet_step (first
    | (go_at_call 73; exact later_of _ (Nat.le_refl _) (cq _))))
  refine later_end fun w11 x11 => ?_
  have fzR_15 := fzB_ x11 R_12.1 fzR_10
  have fzX_16 := fzB_ x11 X_13.1 fzX_11
  clear fzR_10 fzX_11
  have R_17 := R_12.on x11
  have X_18 := X_13.on x11
  have B19 := B14.trans (x11.mono B14.size)
  clear R_12 X_13 B14 x11
  obtain ⟨_, x2_0, x2_1, x2_2, x2_3, x2_4, x2_5, x2_6, x2_7⟩ := id X_18
  go_upto_region 17 with fail
  clear x2_0 x2_1 x2_2 x2_3 x2_4 x2_5 x2_6 x2_7
  obtain ⟨_, r3_0, r3_1, r3_2, r3_3, r3_4, r3_5, r3_6, r3_7⟩ := id R_17
  obtain ⟨_, x4_0, x4_1, x4_2, x4_3, x4_4, x4_5, x4_6, x4_7⟩ := id X_18
  have B20 := (B19.setCell (p := ⟨u1.heap.size, 6, none⟩) (Nat.le_of_lt LR.out) (.bool false))
  have R_21 : Box8 (w11.setCell ⟨u1.heap.size, 6, none⟩ (.bool false)) w.heap.size (.int .i64 0) (.int .u8 0) (.int .u32 0) (.int .u16 0) (.int .u32 0) (.int .u16 0) (.bool false) (.int .i64 0) := ⟨by have := R_17.1; simpa using this, by simp [go_sem, r3_0, r3_1, r3_2, r3_3, r3_4, r3_5, r3_6, r3_7, x4_0, x4_1, x4_2, x4_3, x4_4, x4_5, x4_6, x4_7]⟩
  have X_22 : Box8 (w11.setCell ⟨u1.heap.size, 6, none⟩ (.bool false)) u1.heap.size (.int .i64 (o : Int)) (.int .u8 1) (.int .u32 v1) (.int .u16 0) (.int .u32 v3) (.int .u16 0) (.bool false) (.int .i64 0) := ⟨by have := X_18.1; simpa using this, by simp [go_sem, r3_0, r3_1, r3_2, r3_3, r3_4, r3_5, r3_6, r3_7, x4_0, x4_1, x4_2, x4_3, x4_4, x4_5, x4_6, x4_7]⟩
  have fzR_23 : ∀ i, (w11.setCell ⟨u1.heap.size, 6, none⟩ (.bool false)).frozen? ⟨w.heap.size, i, none⟩ = false := by intro i; simp [fzR_15]
  have fzX_24 : ∀ i, (w11.setCell ⟨u1.heap.size, 6, none⟩ (.bool false)).frozen? ⟨u1.heap.size, i, none⟩ = false := by intro i; simp [fzX_16]
  clear r3_0 r3_1 r3_2 r3_3 r3_4 r3_5 r3_6 r3_7 x4_0 x4_1 x4_2 x4_3 x4_4 x4_5 x4_6 x4_7 R_17 X_18 fzR_15 fzX_16 B19
  obtain ⟨u12, hu12⟩ : ∃ x_ : World, x_ = (w11.setCell ⟨u1.heap.size, 6, none⟩ (.bool false)) := ⟨_, rfl⟩
  rw [← hu12] at R_21 X_22 fzR_23 fzX_24 B20 ⊢
  clear hu12
  obtain ⟨_, x5_0, x5_1, x5_2, x5_3, x5_4, x5_5, x5_6, x5_7⟩ := id X_22
  go_wp2_with fail
  refine (cj _).mono ?_; rintro e w21 ⟨rfl, rfl⟩
  go_upto_region 20 with fail
  clear x5_0 x5_1 x5_2 x5_3 x5_4 x5_5 x5_6 x5_7
  obtain ⟨_, r6_0, r6_1, r6_2, r6_3, r6_4, r6_5, r6_6, r6_7⟩ := id R_21
  obtain ⟨_, x7_0, x7_1, x7_2, x7_3, x7_4, x7_5, x7_6, x7_7⟩ := id X_22
  have B25 := (B20.setCell (p := ⟨u1.heap.size, 5, none⟩) (Nat.le_of_lt LR.out) (.int .u16 j))
  have R_26 : Box8 (u12.setCell ⟨u1.heap.size, 5, none⟩ (.int .u16 j)) w.heap.size (.int .i64 0) (.int .u8 0) (.int .u32 0) (.int .u16 0) (.int .u32 0) (.int .u16 0) (.bool false) (.int .i64 0) := ⟨by have := R_21.1; simpa using this, by simp [go_sem, r6_0, r6_1, r6_2, r6_3, r6_4, r6_5, r6_6, r6_7, x7_0, x7_1, x7_2, x7_3, x7_4, x7_5, x7_6, x7_7]⟩
  have X_27 : Box8 (u12.setCell ⟨u1.heap.size, 5, none⟩ (.int .u16 j)) u1.heap.size (.int .i64 (o : Int)) (.int .u8 1) (.int .u32 v1) (.int .u16 0) (.int .u32 v3) (.int .u16 j) (.bool false) (.int .i64 0) := ⟨by have := X_22.1; simpa using this, by simp [go_sem, r6_0, r6_1, r6_2, r6_3, r6_4, r6_5, r6_6, r6_7, x7_0, x7_1, x7_2, x7_3, x7_4, x7_5, x7_6, x7_7]⟩
  have fzR_28 : ∀ i, (u12.setCell ⟨u1.heap.size, 5, none⟩ (.int .u16 j)).frozen? ⟨w.heap.size, i, none⟩ = false := by intro i; simp [fzR_23]
  have fzX_29 : ∀ i, (u12.setCell ⟨u1.heap.size, 5, none⟩ (.int .u16 j)).frozen? ⟨u1.heap.size, i, none⟩ = false := by intro i; simp [fzX_24]
  clear r6_0 r6_1 r6_2 r6_3 r6_4 r6_5 r6_6 r6_7 x7_0 x7_1 x7_2 x7_3 x7_4 x7_5 x7_6 x7_7 R_21 X_22 fzR_23 fzX_24 B20
  obtain ⟨u13, hu13⟩ : ∃ x_ : World, x_ = (u12.setCell ⟨u1.heap.size, 5, none⟩ (.int .u16 j)) := ⟨_, rfl⟩
  rw [← hu13] at R_26 X_27 fzR_28 fzX_29 B25 ⊢
  clear hu13
  obtain ⟨_, x8_0, x8_1, x8_2, x8_3, x8_4, x8_5, x8_6, x8_7⟩ := id X_27
  obtain ⟨_, r9_0, r9_1, r9_2, r9_3, r9_4, r9_5, r9_6, r9_7⟩ := id R_26
  go_wp2
  refine box8_ (b := w.heap.size) R_26.some B25 (Nat.le_refl _) fun Z x0 x1 x2 x3 x4 x5 x6 x7 BZ _ => ?_
  refine bodyPost_ret (v := .agg #[.int .i64 (o : Int), .int .u8 1, .int .u32 v1, .int .u16 0, .int .u32 v3, .int .u16 j, .bool false, .int .i64 0]) (by simp [results, Tryz.results32, go_sem, x0, x1, x2, x3, x4, x5, x6, x7]) rfl ?_
  exact ⟨rfl, BZ⟩
def lkI (D : ByteArray) (v : Int) : Int := if lkR D = 0 then v else 0
def lkB (D : ByteArray) : Bool := decide (lkR D = 0) && decide (bt D 9 = 1) && inAsk D
theorem lk_no {D : ByteArray} (h : ¬ lkR D = 0) : (∀ v, lkI D v = 0) ∧ lkB D = false := ⟨fun v => by unfold lkI; rw [if_neg h], by unfold lkB; rw [decide_eq_false h]; rfl⟩
theorem lk_yes {D : ByteArray} (h : lkR D = 0) : (∀ v, lkI D v = v) ∧ lkB D = (decide (bt D 9 = 1) && inAsk D) := ⟨fun v => by unfold lkI; rw [if_pos h], by unfold lkB; rw [decide_eq_true h]; rfl⟩
theorem rlook10_ (D : ByteArray) (w : World) (hs : D.size ≤ 1000000) :
    Cw_ 32 #[.string D] (.agg #[.int .i64 (lkI D (ownN D : Int)), .int .u8 (lkI D (bt D 9)), .int .u32 (lkI D (g32 D 12)), .int .u16 (lkI D (inM D)), .int .u32 (lkI D (g32 D 16)), .int .u16 (lkI D (inN D)), .bool (lkB D), .int .i64 (lkR D)]) w := by
  have b0 := bt_nonneg D 0
  have b1 := bt_le D 0
  by_cases h20 : D.size < 20
  · have hR : lkR D = 15 := by unfold lkR; rw [if_pos (.inl h20)]
    obtain ⟨n1, n2⟩ := lk_no (D := D) (by rw [hR]; decide)
    rw [n1, n1, n1, n1, n1, n1, n2, hR]
    exact look10_short D (by simpa using h20) (by simp; omega) w
  have e1 : decide (D.size < 20) = false := by simpa using h20
  have e2 : decide ((D.size : Int) < 20) = false := by simp; omega
  have i0 : (0 : Int) < (D.size : Int) := by omega
  by_cases h4 : bt D 0 / 16 = 4
  rotate_left
  · have hR : lkR D = 15 := by unfold lkR; rw [if_pos (.inr h4)]
    obtain ⟨n1, n2⟩ := lk_no (D := D) (by rw [hR]; decide)
    rw [n1, n1, n1, n1, n1, n1, n2, hR]
    exact look10_ver D e1 e2 i0 (by simpa using h4) (by simpa using h4) w
  have e3 : (bt D 0 / 16 == 4) = true := by simpa using h4
  have e4 : (bt D 0 / 16 != 4) = false := by simpa using h4
  have e5 : bt D 0 % 16 * 4 = (ownN D : Int) := by unfold ownN; omega
  have o60 : ownN D ≤ 60 := by omega
  have hno : (ownN D < 20 ∨ D.size < ownN D + 8 ∨ ¬ g16 D 6 % 8192 = 0) → lkR D = 15 := fun h => by unfold lkR; rw [if_neg (by omega), if_pos h]
  by_cases c1 : ownN D < 20
  · have hR := hno (.inl c1)
    obtain ⟨n1, n2⟩ := lk_no (D := D) (by rw [hR]; decide)
    rw [n1, n1, n1, n1, n1, n1, n2, hR]
    exact look10_end1 D (ownN D) e1 e2 i0 e3 e4 e5 o60 (by simpa using c1) (by simp; omega) w
  have e6 : decide (ownN D < 20) = false := by simpa using c1
  have e7 : decide ((ownN D : Int) < 20) = false := by simp; omega
  by_cases c2 : D.size < ownN D
  · have hR := hno (.inr (.inl (by omega)))
    obtain ⟨n1, n2⟩ := lk_no (D := D) (by rw [hR]; decide)
    rw [n1, n1, n1, n1, n1, n1, n2, hR]
    exact look10_end2 D (ownN D) e1 e2 i0 e3 e4 e5 o60 e6 e7 (by simpa using c2) (by simp; omega) w
  have e8 : decide (D.size < ownN D) = false := by simpa using c2
  have e9 : decide ((D.size : Int) < (ownN D : Int)) = false := by simp; omega
  have cw := fun u => word9_ D 6 6 u rfl hs (by omega)
  have q0 := g16_nonneg D 6
  have q1 := g16_le D 6
  by_cases c3 : g16 D 6 % 8192 = 0
  rotate_left
  · have hR := hno (.inr (.inr c3))
    obtain ⟨n1, n2⟩ := lk_no (D := D) (by rw [hR]; decide)
    rw [n1, n1, n1, n1, n1, n1, n2, hR]
    exact look10_piece D (ownN D) e1 e2 i0 e3 e4 e5 o60 e6 e7 e8 e9 (g16 D 6) q0 q1 cw (by simpa using c3) (by simpa using c3) w
  have ea : (g16 D 6 % 8192 == 0) = true := by simpa using c3
  have eb : (g16 D 6 % 8192 != 0) = false := by simpa using c3
  have ew : wrap64 ((D.size : Int) - (ownN D : Int)) = (D.size : Int) - (ownN D : Int) := by unfold wrap64; omega
  by_cases c4 : D.size < ownN D + 8
  · have hR := hno (.inr (.inl c4))
    obtain ⟨n1, n2⟩ := lk_no (D := D) (by rw [hR]; decide)
    rw [n1, n1, n1, n1, n1, n1, n2, hR]
    exact look10_few D (ownN D) e1 e2 i0 e3 e4 e5 o60 e6 e7 e8 e9 (g16 D 6) q0 q1 cw ea eb _ ew (by simp; omega) w
  have ec : decide ((D.size : Int) - (ownN D : Int) < 8) = false := by simp; omega
  have io : (ownN D : Int) ≤ (D.size : Int) := by omega
  have i9 : (9 : Int) < (D.size : Int) := by omega
  have c12 := fun u => addr10_ D 12 12 u rfl hs (by omega)
  have c16 := fun u => addr10_ D 16 16 u rfl hs (by omega)
  have hL : D.extract (ownN D) D.size = inL D := rfl
  have zL := inL_size (D := D) (by omega)
  have gL := inL_g16 D
  have tail : lkR D = if bt D 9 = 6 ∨ bt D 9 = 17 then 0 else if ¬ bt D 9 = 1 then 6 else if qIs (bt D (ownN D)) (bt D (ownN D + 1)) = true then 0 else 15 := by unfold lkR; rw [if_neg (by omega), if_neg (by omega)]
  by_cases p6 : bt D 9 = 6
  · have hR : lkR D = 0 := by rw [tail, if_pos (.inl p6)]
    obtain ⟨n1, n2⟩ := lk_yes hR
    have eM : inM D = g16 (inL D) 0 := by unfold inM; rw [if_neg (by omega), gL, Nat.add_zero]
    have eN : inN D = g16 (inL D) 2 := by unfold inN; rw [if_neg (by omega), gL]
    have k0 := fun u => word9_ (inL D) 0 0 u rfl (by omega) (by omega)
    have k2 := fun u => word9_ (inL D) 2 2 u rfl (by omega) (by omega)
    rw [n1, n1, n1, n1, n1, n1, n2, hR, eM, eN, p6, show (decide ((6 : Int) = 1) && inAsk D) = false by simp]
    exact look10_6 D (ownN D) e1 e2 i0 e3 e4 e5 o60 e6 e7 e8 e9 (g16 D 6) q0 q1 cw ea eb _ ew ec io i9 _ _ c12 c16 p6 _ _ k0 k2 w
  by_cases p17 : bt D 9 = 17
  · have hR : lkR D = 0 := by rw [tail, if_pos (.inr p17)]
    obtain ⟨n1, n2⟩ := lk_yes hR
    have eM : inM D = g16 (inL D) 0 := by unfold inM; rw [if_neg (by omega), gL, Nat.add_zero]
    have eN : inN D = g16 (inL D) 2 := by unfold inN; rw [if_neg (by omega), gL]
    have k0 := fun u => word9_ (inL D) 0 0 u rfl (by omega) (by omega)
    have k2 := fun u => word9_ (inL D) 2 2 u rfl (by omega) (by omega)
    rw [n1, n1, n1, n1, n1, n1, n2, hR, eM, eN, p17, show (decide ((17 : Int) = 1) && inAsk D) = false by simp]
    exact look10_17 D (ownN D) e1 e2 i0 e3 e4 e5 o60 e6 e7 e8 e9 (g16 D 6) q0 q1 cw ea eb _ ew ec io i9 _ _ c12 c16 p17 _ _ k0 k2 w
  rw [if_neg (by omega)] at tail
  by_cases p1 : bt D 9 = 1
  rotate_left
  · rw [if_pos p1] at tail
    obtain ⟨n1, n2⟩ := lk_no (D := D) (by rw [tail]; decide)
    rw [n1, n1, n1, n1, n1, n1, n2, tail]
    exact look10_none D (ownN D) e1 e2 i0 e3 e4 e5 o60 e6 e7 e8 e9 (g16 D 6) q0 q1 cw ea eb _ ew ec io i9 _ _ c12 c16 _ rfl (by simpa using p6) (by simpa using p17) (by simpa using p1) (by simpa using p1) w
  rw [if_neg (by omega)] at tail
  have x0 : bt (inL D) 0 = bt D (ownN D) := inL_bt D 0
  have x1 : bt (inL D) 1 = bt D (ownN D + 1) := inL_bt D 1
  have cq := fun u => rquery7_ (bt (inL D) 0) (bt (inL D) 1) 0 ⟨#[]⟩ ⟨#[]⟩ u (bt_nonneg _ _) (bt_le _ _) (bt_nonneg _ _) (bt_le _ _)
  have l0 : (0 : Int) < ((inL D).size : Int) := by omega
  have l1 : (1 : Int) < ((inL D).size : Int) := by omega
  have k4 := fun u => word9_ (inL D) 4 4 u rfl (by omega) (by omega)
  have hsub := @q_sub (bt D (ownN D)) (bt D (ownN D + 1))
  have eA : inAsk D = qAsk (bt D (ownN D)) (bt D (ownN D + 1)) := rfl
  cases hq : qIs (bt D (ownN D)) (bt D (ownN D + 1)) with
  | false =>
    have ha : qAsk (bt D (ownN D)) (bt D (ownN D + 1)) = false := by
      cases e : qAsk (bt D (ownN D)) (bt D (ownN D + 1)) with
      | false => rfl
      | true => rw [hsub e] at hq; cases hq
    rw [hq, if_neg (by decide)] at tail
    obtain ⟨n1, n2⟩ := lk_no (D := D) (by rw [tail]; decide)
    rw [n1, n1, n1, n1, n1, n1, n2, tail]
    have cq' := cq
    rw [show qAsk (bt (inL D) 0) (bt (inL D) 1) = false by rw [x0, x1]; exact ha, show qIs (bt (inL D) 0) (bt (inL D) 1) = false by rw [x0, x1]; exact hq] at cq'
    exact look10_odd D (ownN D) e1 e2 i0 e3 e4 e5 o60 e6 e7 e8 e9 (g16 D 6) q0 q1 cw ea eb _ ew ec io i9 _ _ c12 c16 (inL D) hL p1 cq' l0 l1 w
  | true =>
    rw [hq, if_pos rfl] at tail
    obtain ⟨n1, n2⟩ := lk_yes tail
    have cq' := cq
    rw [x0, x1, hq] at cq'
    cases ha : qAsk (bt D (ownN D)) (bt D (ownN D + 1)) with
    | true =>
      have eM : inM D = g16 (inL D) 4 := by unfold inM; rw [if_pos p1, eA, ha, if_pos rfl, gL]
      have eN : inN D = 0 := by unfold inN; rw [if_pos p1, eA, ha, if_pos rfl]
      rw [ha, ← x0, ← x1] at cq'
      rw [n1, n1, n1, n1, n1, n1, n2, tail, eM, eN, p1, eA, ha, show (decide ((1 : Int) = 1) && true) = true by simp]
      exact look10_ask D (ownN D) e1 e2 i0 e3 e4 e5 o60 e6 e7 e8 e9 (g16 D 6) q0 q1 cw ea eb _ ew ec io i9 _ _ c12 c16 (inL D) hL p1 cq' l0 l1 _ k4 w
    | false =>
      have eM : inM D = 0 := by unfold inM; rw [if_pos p1, eA, ha, if_neg (by decide)]
      have eN : inN D = g16 (inL D) 4 := by unfold inN; rw [if_pos p1, eA, ha, if_neg (by decide), gL]
      rw [ha, ← x0, ← x1] at cq'
      rw [n1, n1, n1, n1, n1, n1, n2, tail, eM, eN, p1, eA, ha, show (decide ((1 : Int) = 1) && false) = false by simp]
      exact look10_told D (ownN D) e1 e2 i0 e3 e4 e5 o60 e6 e7 e8 e9 (g16 D 6) q0 q1 cw ea eb _ ew ec io i9 _ _ c12 c16 (inL D) hL p1 cq' l0 l1 _ k4 w
theorem mess10_refused (s : ByteArray) (q : Int) (e1 : (q != 0) = true) (co : Cb_ 68 #[.string s] (.tuple #[.agg #[.int .u8 0, .int .u32 0, .int .u16 0, .int .u32 0, .int .u16 0, .int .i64 0, .int .u8 0, .bool false, .int .u8 0], .int .i64 q])) (w : World) :
    Cw_ 31 #[.string s] (.tuple #[.agg #[.int .u8 0, .int .u8 0, .int .u16 0, .string ⟨#[]⟩, .string ⟨#[]⟩], .int .i64 q]) w := by
  go_enter Tryz.func31, Tryz.ntmps31
  have B1 := Below.refl w.heap.size w
  go_wp2_with fail
  have R_2 := Box5.make w (.int .u8 0) (.int .u8 0) (.int .u16 0) (.string ⟨#[]⟩) (.string ⟨#[]⟩) 81
  have B3 := B1.alloc B1.size (.cells #[.int .u8 0, .int .u8 0, .int .u16 0, .string ⟨#[]⟩, .string ⟨#[]⟩] 81)
  clear B1
  have fzR_4 : ∀ i, (w.alloc (.cells #[.int .u8 0, .int .u8 0, .int .u16 0, .string ⟨#[]⟩, .string ⟨#[]⟩] 81)).frozen? ⟨w.heap.size, i, none⟩ = false := by intro i; simp [go_sem]
  refine (co _).mono ?_; rintro e w1 ⟨rfl, x1⟩
  have fzR_5 := fzB_ x1 R_2.1 fzR_4
  clear fzR_4
  have R_6 := R_2.on x1
  have B7 := B3.trans (x1.mono B3.size)
  clear R_2 B3 x1
  clear co
  have al := alO_ B7 (.cells #[.int .u8 0, .int .u32 0, .int .u16 0, .int .u32 0, .int .u16 0, .int .i64 0, .int .u8 0, .bool false, .int .u8 0] 120)
  have fzR_8 := fzB_ al R_6.1 fzR_5
  clear fzR_5
  have R_9 := R_6.on al
  have X_10 := Box9.make w1 (.int .u8 0) (.int .u32 0) (.int .u16 0) (.int .u32 0) (.int .u16 0) (.int .i64 0) (.int .u8 0) (.bool false) (.int .u8 0) 120
  have B11 := B7.trans (al.mono B7.size)
  clear al
  clear R_6 B7
  obtain ⟨_, r1_0, r1_1, r1_2, r1_3, r1_4⟩ := id R_9
  go_wp2
  refine box5_ (b := w.heap.size) R_9.some B11 (Nat.le_refl _) fun Z x0 x1 x2 x3 x4 BZ _ _ => ?_
  refine bodyPost_ret (v := .tuple #[.agg #[.int .u8 0, .int .u8 0, .int .u16 0, .string ⟨#[]⟩, .string ⟨#[]⟩], .int .i64 q]) (by simp [results, Tryz.results31, go_sem, x0, x1, x2, x3, x4]) rfl ?_
  exact ⟨rfl, BZ⟩
theorem mess10_other (s : ByteArray) (v0 v1 v2 v3 v4 v5 v6 v8 : Int) (v7 : Bool) (e1 : (v5 == 3) = false) (e2 : (v5 != 3) = true) (co : Cb_ 68 #[.string s] (.tuple #[.agg #[.int .u8 v0, .int .u32 v1, .int .u16 v2, .int .u32 v3, .int .u16 v4, .int .i64 v5, .int .u8 v6, .bool v7, .int .u8 v8], .int .i64 0])) (w : World) :
    Cw_ 31 #[.string s] (.tuple #[.agg #[.int .u8 0, .int .u8 0, .int .u16 0, .string ⟨#[]⟩, .string ⟨#[]⟩], .int .i64 15]) w := by
  go_enter Tryz.func31, Tryz.ntmps31
  have B1 := Below.refl w.heap.size w
  go_wp2_with fail
  have R_2 := Box5.make w (.int .u8 0) (.int .u8 0) (.int .u16 0) (.string ⟨#[]⟩) (.string ⟨#[]⟩) 81
  have B3 := B1.alloc B1.size (.cells #[.int .u8 0, .int .u8 0, .int .u16 0, .string ⟨#[]⟩, .string ⟨#[]⟩] 81)
  clear B1
  have fzR_4 : ∀ i, (w.alloc (.cells #[.int .u8 0, .int .u8 0, .int .u16 0, .string ⟨#[]⟩, .string ⟨#[]⟩] 81)).frozen? ⟨w.heap.size, i, none⟩ = false := by intro i; simp [go_sem]
  refine (co _).mono ?_; rintro e w1 ⟨rfl, x1⟩
  have fzR_5 := fzB_ x1 R_2.1 fzR_4
  clear fzR_4
  have R_6 := R_2.on x1
  have B7 := B3.trans (x1.mono B3.size)
  clear R_2 B3 x1
  clear co
  have al := alO_ B7 (.cells #[.int .u8 v0, .int .u32 v1, .int .u16 v2, .int .u32 v3, .int .u16 v4, .int .i64 v5, .int .u8 v6, .bool v7, .int .u8 v8] 120)
  have fzR_8 := fzB_ al R_6.1 fzR_5
  clear fzR_5
  have R_9 := R_6.on al
  have X_10 := Box9.make w1 (.int .u8 v0) (.int .u32 v1) (.int .u16 v2) (.int .u32 v3) (.int .u16 v4) (.int .i64 v5) (.int .u8 v6) (.bool v7) (.int .u8 v8) 120
  have B11 := B7.trans (al.mono B7.size)
  clear al
  clear R_6 B7
  obtain ⟨_, r1_0, r1_1, r1_2, r1_3, r1_4⟩ := id R_9
  obtain ⟨_, x2_0, x2_1, x2_2, x2_3, x2_4, x2_5, x2_6, x2_7, x2_8⟩ := id X_10
  go_wp2
  refine box5_ (b := w.heap.size) R_9.some B11 (Nat.le_refl _) fun Z x0 x1 x2 x3 x4 BZ _ _ => ?_
  refine bodyPost_ret (v := .tuple #[.agg #[.int .u8 0, .int .u8 0, .int .u16 0, .string ⟨#[]⟩, .string ⟨#[]⟩], .int .i64 15]) (by simp [results, Tryz.results31, go_sem, x0, x1, x2, x3, x4]) rfl ?_
  exact ⟨rfl, BZ⟩
theorem mess10_ok (s : ByteArray) (v0 v1 v2 v3 v4 v6 v8 h0 h1 h3 h4 h5 h6 m0 m1 m2 q : Int) (v7 h2 y : Bool) (h7 m3 m4 L : ByteArray) (co : Cb_ 68 #[.string s] (.tuple #[.agg #[.int .u8 v0, .int .u32 v1, .int .u16 v2, .int .u32 v3, .int .u16 v4, .int .i64 3, .int .u8 v6, .bool v7, .int .u8 v8], .int .i64 0])) (cp : Cb_ 69 #[.string s] (.tuple #[.agg #[.int .u8 h0, .int .u16 h1, .bool h2, .int .u8 h3, .int .u8 h4, .int .u32 h5, .int .u32 h6, .string h7], .string L, .int .i64 q])) (cm : Cb_ 70 #[.string L] (.tuple #[.agg #[.int .u8 m0, .int .u8 m1, .int .u16 m2, .string m3, .string m4], .bool y])) (w : World) :
    Cw_ 31 #[.string s] (.tuple #[.agg #[.int .u8 m0, .int .u8 m1, .int .u16 m2, .string m3, .string m4], .int .i64 0]) w := by
  go_enter Tryz.func31, Tryz.ntmps31
  have B1 := Below.refl w.heap.size w
  go_wp2_with fail
  have R_2 := Box5.make w (.int .u8 0) (.int .u8 0) (.int .u16 0) (.string ⟨#[]⟩) (.string ⟨#[]⟩) 81
  have B3 := B1.alloc B1.size (.cells #[.int .u8 0, .int .u8 0, .int .u16 0, .string ⟨#[]⟩, .string ⟨#[]⟩] 81)
  clear B1
  have fzR_4 : ∀ i, (w.alloc (.cells #[.int .u8 0, .int .u8 0, .int .u16 0, .string ⟨#[]⟩, .string ⟨#[]⟩] 81)).frozen? ⟨w.heap.size, i, none⟩ = false := by intro i; simp [go_sem]
  refine (co _).mono ?_; rintro e w1 ⟨rfl, x1⟩
  have fzR_5 := fzB_ x1 R_2.1 fzR_4
  clear fzR_4
  have R_6 := R_2.on x1
  have B7 := B3.trans (x1.mono B3.size)
  clear R_2 B3 x1
  clear co
  have al := alO_ B7 (.cells #[.int .u8 v0, .int .u32 v1, .int .u16 v2, .int .u32 v3, .int .u16 v4, .int .i64 3, .int .u8 v6, .bool v7, .int .u8 v8] 120)
  have fzR_8 := fzB_ al R_6.1 fzR_5
  clear fzR_5
  have R_9 := R_6.on al
  have X_10 := Box9.make w1 (.int .u8 v0) (.int .u32 v1) (.int .u16 v2) (.int .u32 v3) (.int .u16 v4) (.int .i64 3) (.int .u8 v6) (.bool v7) (.int .u8 v8) 120
  have B11 := B7.trans (al.mono B7.size)
  clear al
  clear R_6 B7
  obtain ⟨_, x1_0, x1_1, x1_2, x1_3, x1_4, x1_5, x1_6, x1_7, x1_8⟩ := id X_10
  go_wp2_with fail
  refine (cp _).mono ?_; rintro e w2 ⟨rfl, x2⟩
  have fzR_12 := fzB_ x2 R_9.1 fzR_8
  clear fzR_8
  have R_13 := R_9.on x2
  have X_14 := X_10.on x2
  have B15 := B11.trans (x2.mono B11.size)
  clear x1_0 x1_1 x1_2 x1_3 x1_4 x1_5 x1_6 x1_7 x1_8 R_9 X_10 B11 x2
  clear cp
  have al := alO_ B15 (.cells #[.int .u8 h0, .int .u16 h1, .bool h2, .int .u8 h3, .int .u8 h4, .int .u32 h5, .int .u32 h6, .string h7] 50)
  have fzR_16 := fzB_ al R_13.1 fzR_12
  clear fzR_12
  have R_17 := R_13.on al
  have X_18 := X_14.on al
  have B19 := B15.trans (al.mono B15.size)
  clear al
  clear R_13 X_14 B15
  go_wp2_with fail
  refine (cm _).mono ?_; rintro e w3 ⟨rfl, x3⟩
  have fzR_20 := fzB_ x3 R_17.1 fzR_16
  clear fzR_16
  have R_21 := R_17.on x3
  have X_22 := X_18.on x3
  have B23 := B19.trans (x3.mono B19.size)
  clear R_17 X_18 B19 x3
  clear cm
  have LM := Lib.hid (R_21.1)
  have al := alO_ B23 (.cells #[.int .u8 m0, .int .u8 m1, .int .u16 m2, .string m3, .string m4] 81)
  have fzR_24 := fzB_ al R_21.1 fzR_20
  clear fzR_20
  have R_25 := R_21.on al
  have X_26 := X_22.on al
  have M_27 := Box5.make w3 (.int .u8 m0) (.int .u8 m1) (.int .u16 m2) (.string m3) (.string m4) 81
  have B28 := B23.trans (al.mono B23.size)
  clear al
  clear R_21 X_22 B23
  have ne1_ : ¬ w3.heap.size = w.heap.size := by have := LM.out; omega
  have ne2_ : ¬ w.heap.size = w3.heap.size := by have := LM.out; omega
  obtain ⟨_, m2_0, m2_1, m2_2, m2_3, m2_4⟩ := id M_27
  obtain ⟨_, r3_0, r3_1, r3_2, r3_3, r3_4⟩ := id R_25
  go_wp2
  refine box5_ (b := w.heap.size) R_25.some B28 (Nat.le_refl _) fun Z x0 x1 x2 x3 x4 BZ _ _ => ?_
  refine bodyPost_ret (v := .tuple #[.agg #[.int .u8 m0, .int .u8 m1, .int .u16 m2, .string m3, .string m4], .int .i64 0]) (by simp [results, Tryz.results31, go_sem, x0, x1, x2, x3, x4]) rfl ?_
  exact ⟨rfl, BZ⟩
def meR (s : ByteArray) : Int := if seenR s = 0 then (if oK (bt s 9) (pP s) = 3 then 0 else 15) else seenR s
def meI (s : ByteArray) (v : Int) : Int := if meR s = 0 then v else 0
def meS (s : ByteArray) (v : ByteArray) : ByteArray := if meR s = 0 then v else ⟨#[]⟩
theorem me_no {s : ByteArray} (h : ¬ meR s = 0) : (∀ v, meI s v = 0) ∧ (∀ v, meS s v = ⟨#[]⟩) := ⟨fun v => by unfold meI; rw [if_neg h], fun v => by unfold meS; rw [if_neg h]⟩
theorem me_yes {s : ByteArray} (h : meR s = 0) : (∀ v, meI s v = v) ∧ (∀ v, meS s v = v) := ⟨fun v => by unfold meI; rw [if_pos h], fun v => by unfold meS; rw [if_pos h]⟩
theorem rmess10_ (s : ByteArray) (w : World) (hs : s.size ≤ 1000000) :
    Cw_ 31 #[.string s] (.tuple #[.agg #[.int .u8 (meI s (bt (pP s) 0)), .int .u8 (meI s (bt (pP s) 1)), .int .u16 (meI s (g16 (pP s) 2)), .string (meS s (mR (pP s))), .string (meS s (eD s))], .int .i64 (meR s)]) w := by
  have co := fun u => rof8_ s u hs
  by_cases hr : seenR s = 0
  rotate_left
  · have hR : meR s = seenR s := by unfold meR; rw [if_neg hr]
    obtain ⟨n1, n2⟩ := s_no (s := s) hr
    obtain ⟨m1, m2⟩ := me_no (s := s) (by rw [hR]; exact hr)
    rw [n1, n1, n1, n1, n1, n1, n1, n1, n2] at co
    rw [m1, m1, m1, m2, m2, hR]
    exact mess10_refused s (seenR s) (by simpa using hr) co w
  obtain ⟨n1, n2⟩ := s_yes (s := s) hr
  rw [n1, n1, n1, n1, n1, n1, n1, n1, n2, hr] at co
  by_cases h3 : oK (bt s 9) (pP s) = 3
  rotate_left
  · have hR : meR s = 15 := by unfold meR; rw [if_pos hr, if_neg h3]
    obtain ⟨m1, m2⟩ := me_no (s := s) (by rw [hR]; decide)
    rw [m1, m1, m1, m2, m2, hR]
    exact mess10_other s _ _ _ _ _ _ _ _ _ (by simpa using h3) (by simpa using h3) co w
  have hR : meR s = 0 := by unfold meR; rw [if_pos hr, if_pos h3]
  obtain ⟨m1, m2⟩ := me_yes hR
  have cp := fun u => rparse4_ s u (by unfold maxLen; omega)
  have hp := (seen_ip hr).1
  have t1 := (err_kind hr h3).2.1
  have hL : (pP s).size ≤ 1000000 := by rw [(p_yes hp).2.2.2, ByteArray.size_extract]; omega
  have cm := fun u => rparse7_ (pP s) u hL
  have y1 := (mOk_yes t1).2.1
  rw [y1, y1, y1] at cm
  rw [m1, m1, m1, m2, m2, hR]
  rw [h3] at co
  exact mess10_ok s _ _ _ _ _ _ _ _ _ _ _ _ _ _ _ _ _ _ _ _ _ _ _ (pP s) co cp cm w
theorem inner10_refused (s : ByteArray) (q : Int) (e1 : (q != 0) = true) (cm : Cb_ 31 #[.string s] (.tuple #[.agg #[.int .u8 0, .int .u8 0, .int .u16 0, .string ⟨#[]⟩, .string ⟨#[]⟩], .int .i64 q])) (w : World) :
    Cw_ 10 #[.string s] (.tuple #[.agg #[.int .u8 0, .int .u32 0, .int .u16 0, .int .u32 0, .int .u16 0], .int .i64 q]) w := by
  go_enter Tryz.func10, Tryz.ntmps10
  have B1 := Below.refl w.heap.size w
  go_wp2_with fail
  have R_2 := Box5.make w (.int .u8 0) (.int .u32 0) (.int .u16 0) (.int .u32 0) (.int .u16 0) 33
  have B3 := B1.alloc B1.size (.cells #[.int .u8 0, .int .u32 0, .int .u16 0, .int .u32 0, .int .u16 0] 33)
  clear B1
  have fzR_4 : ∀ i, (w.alloc (.cells #[.int .u8 0, .int .u32 0, .int .u16 0, .int .u32 0, .int .u16 0] 33)).frozen? ⟨w.heap.size, i, none⟩ = false := by intro i; simp [go_sem]
  refine (cm _).mono ?_; rintro e w1 ⟨rfl, x1⟩
  have fzR_5 := fzB_ x1 R_2.1 fzR_4
  clear fzR_4
  have R_6 := R_2.on x1
  have B7 := B3.trans (x1.mono B3.size)
  clear R_2 B3 x1
  clear cm
  have al := alO_ B7 (.cells #[.int .u8 0, .int .u8 0, .int .u16 0, .string ⟨#[]⟩, .string ⟨#[]⟩] 81)
  have fzR_8 := fzB_ al R_6.1 fzR_5
  clear fzR_5
  have R_9 := R_6.on al
  have M_10 := Box5.make w1 (.int .u8 0) (.int .u8 0) (.int .u16 0) (.string ⟨#[]⟩) (.string ⟨#[]⟩) 81
  have B11 := B7.trans (al.mono B7.size)
  clear al
  clear R_6 B7
  obtain ⟨_, r1_0, r1_1, r1_2, r1_3, r1_4⟩ := id R_9
  go_wp2
  refine box5_ (b := w.heap.size) R_9.some B11 (Nat.le_refl _) fun Z x0 x1 x2 x3 x4 BZ _ _ => ?_
  refine bodyPost_ret (v := .tuple #[.agg #[.int .u8 0, .int .u32 0, .int .u16 0, .int .u32 0, .int .u16 0], .int .i64 q]) (by simp [results, Tryz.results10, go_sem, x0, x1, x2, x3, x4]) rfl ?_
  exact ⟨rfl, BZ⟩
theorem inner10_ok (s : ByteArray) (m0 m1 m2 f0 f1 f2 f3 f4 f5 f7 : Int) (m3 m4 : ByteArray) (f6 : Bool) (cm : Cb_ 31 #[.string s] (.tuple #[.agg #[.int .u8 m0, .int .u8 m1, .int .u16 m2, .string m3, .string m4], .int .i64 0])) (cl : Cb_ 32 #[.string m4] (.agg #[.int .i64 f0, .int .u8 f1, .int .u32 f2, .int .u16 f3, .int .u32 f4, .int .u16 f5, .bool f6, .int .i64 f7])) (w : World) :
    Cw_ 10 #[.string s] (.tuple #[.agg #[.int .u8 f1, .int .u32 f2, .int .u16 f3, .int .u32 f4, .int .u16 f5], .int .i64 f7]) w := by
  go_enter Tryz.func10, Tryz.ntmps10
  have B1 := Below.refl w.heap.size w
  go_wp2_with fail
  have R_2 := Box5.make w (.int .u8 0) (.int .u32 0) (.int .u16 0) (.int .u32 0) (.int .u16 0) 33
  have B3 := B1.alloc B1.size (.cells #[.int .u8 0, .int .u32 0, .int .u16 0, .int .u32 0, .int .u16 0] 33)
  clear B1
  have fzR_4 : ∀ i, (w.alloc (.cells #[.int .u8 0, .int .u32 0, .int .u16 0, .int .u32 0, .int .u16 0] 33)).frozen? ⟨w.heap.size, i, none⟩ = false := by intro i; simp [go_sem]
  refine (cm _).mono ?_; rintro e w1 ⟨rfl, x1⟩
  have fzR_5 := fzB_ x1 R_2.1 fzR_4
  clear fzR_4
  have R_6 := R_2.on x1
  have B7 := B3.trans (x1.mono B3.size)
  clear R_2 B3 x1
  clear cm
  have al := alO_ B7 (.cells #[.int .u8 m0, .int .u8 m1, .int .u16 m2, .string m3, .string m4] 81)
  have fzR_8 := fzB_ al R_6.1 fzR_5
  clear fzR_5
  have R_9 := R_6.on al
  have M_10 := Box5.make w1 (.int .u8 m0) (.int .u8 m1) (.int .u16 m2) (.string m3) (.string m4) 81
  have B11 := B7.trans (al.mono B7.size)
  clear al
  clear R_6 B7
  obtain ⟨_, m1_0, m1_1, m1_2, m1_3, m1_4⟩ := id M_10
  go_wp2_with fail
  refine (cl _).mono ?_; rintro e w2 ⟨rfl, x2⟩
  have fzR_12 := fzB_ x2 R_9.1 fzR_8
  clear fzR_8
  have R_13 := R_9.on x2
  have M_14 := M_10.on x2
  have B15 := B11.trans (x2.mono B11.size)
  clear m1_0 m1_1 m1_2 m1_3 m1_4 R_9 M_10 B11 x2
  clear cl
  have LM := Lib.hid (R_13.1)
  have al := alO_ B15 (.cells #[.int .i64 f0, .int .u8 f1, .int .u32 f2, .int .u16 f3, .int .u32 f4, .int .u16 f5, .bool f6, .int .i64 f7] 85)
  have fzR_16 := fzB_ al R_13.1 fzR_12
  clear fzR_12
  have R_17 := R_13.on al
  have M_18 := M_14.on al
  have F_19 := Box8.make w2 (.int .i64 f0) (.int .u8 f1) (.int .u32 f2) (.int .u16 f3) (.int .u32 f4) (.int .u16 f5) (.bool f6) (.int .i64 f7) 85
  have B20 := B15.trans (al.mono B15.size)
  clear al
  clear R_13 M_14 B15
  have ne1_ : ¬ w2.heap.size = w.heap.size := by have := LM.out; omega
  have ne2_ : ¬ w.heap.size = w2.heap.size := by have := LM.out; omega
  go_wp2_with fail
  obtain ⟨u3, hu3⟩ : ∃ x, x = w2.alloc (.cells #[.int .i64 f0, .int .u8 f1, .int .u32 f2, .int .u16 f3, .int .u32 f4, .int .u16 f5, .bool f6, .int .i64 f7] 85) := ⟨_, rfl⟩
  rw [← hu3] at R_17 M_18 F_19 fzR_16 B20 ⊢
  clear hu3
  obtain ⟨_, f2_0, f2_1, f2_2, f2_3, f2_4, f2_5, f2_6, f2_7⟩ := id F_19
  obtain ⟨_, r3_0, r3_1, r3_2, r3_3, r3_4⟩ := id R_17
  go_region
  go_wp2
  exact box5_ (M := fun X => bodyPost Tryz.prog Tryz.f10 _ Exit.ret _ X.drew) (b := w.heap.size) R_17.some B20 (Nat.le_refl _) fun Z x0 x1 x2 x3 x4 BZ _ _ => bodyPost_ret (v := .tuple #[.agg #[.int .u8 f1, .int .u32 f2, .int .u16 f3, .int .u32 f4, .int .u16 f5], .int .i64 f7]) (by simp [results, Tryz.results10, go_sem, x0, x1, x2, x3, x4]) rfl ⟨rfl, BZ.drew⟩
def iI (s : ByteArray) (v : Int) : Int := if inR s = 0 then v else 0
theorem rinner10_ (s : ByteArray) (w : World) (hs : s.size ≤ 1000000) :
    Cw_ 10 #[.string s] (.tuple #[.agg #[.int .u8 (iI s (bt (eD s) 9)), .int .u32 (iI s (g32 (eD s) 12)), .int .u16 (iI s (inM (eD s))), .int .u32 (iI s (g32 (eD s) 16)), .int .u16 (iI s (inN (eD s)))], .int .i64 (inR s)]) w := by
  have cm := fun u => rmess10_ s u hs
  by_cases hR : meR s = 0
  rotate_left
  · have e : inR s = meR s := by
      unfold inR
      by_cases h : seenR s = 0
      · by_cases h3 : oK (bt s 9) (pP s) = 3
        · exact absurd (by unfold meR; rw [if_pos h, if_pos h3]) hR
        · rw [if_pos h, if_neg h3]; unfold meR; rw [if_pos h, if_neg h3]
      · rw [if_neg h]; unfold meR; rw [if_neg h]
    obtain ⟨m1, m2⟩ := me_no hR
    have hi : ∀ v, iI s v = 0 := fun v => by unfold iI; rw [if_neg (by rw [e]; exact hR)]
    rw [m1, m1, m1, m2, m2] at cm
    rw [hi, hi, hi, hi, hi, e]
    exact inner10_refused s (meR s) (by simpa using hR) cm w
  obtain ⟨m1, m2⟩ := me_yes hR
  rw [m1, m1, m1, m2, m2, hR] at cm
  have e : inR s = lkR (eD s) := by
    unfold meR at hR
    unfold inR
    split at hR
    · next h =>
      split at hR
      · next h3 => rw [if_pos h, if_pos h3]
      · omega
    · omega
  have hi : ∀ v, iI s v = lkI (eD s) v := fun v => by unfold iI lkI; rw [e]
  have hz : (eD s).size ≤ 1000000 := by
    unfold eD mD
    split
    · rw [ByteArray.size_extract]
      unfold pP
      split
      · rw [ByteArray.size_extract]; omega
      · show min 0 _ - _ ≤ _; omega
    · show 0 ≤ _; omega
  have ck := fun u => rlook10_ (eD s) u hz
  rw [hi, hi, hi, hi, hi, e]
  exact inner10_ok s _ _ _ _ _ _ _ _ _ _ _ _ _ cm ck w
theorem ports10_tcp (L : ByteArray) (oa ob a m b n : Int) (w : World) (ho : okC oa 0 ob 0) (hc : okC a m b n) (hz : L.size ≤ 1000000) (h : 18 ≤ L.size) :
    Cw_ 83 #[.string L, .string (strOfNums (wordL (adW oa ob))), .agg #[.int .u32 a, .int .u16 m, .int .u32 b, .int .u16 n], .int .i64 16] (.string (ptC L 16 m n (pSum L 16 oa ob a m b n))) w := by
  have bd := pSum_bd (L := L) (k := 16) ho hc
  have g0 := g16_nonneg L 16
  have g1 := g16_le L 16
  obtain ⟨h0, h1, h2, h3, h4, h5, h6, h7⟩ := id hc
  have zA : (strOfNums (wordL (adW oa ob))).size = 8 := by rw [size_W]; rfl
  have zB : (strOfNums (wordL (adW a b))).size = 8 := by rw [size_W]; rfl
  have zP : (strOfNums (wordL [m, n])).size = 4 := by rw [size_W]; rfl
  have zE := size_extract' L 0 4 (by omega) (by omega)
  have zW := size_withB L 0 (strOfNums (wordL [m, n])) (by omega)
  have cw := fun u => word9_ L 16 16 u rfl hz (by omega)
  have cp := fun u => pair9_ a m b n u hc
  have HR : Hid (∀ u (q : Nat), q < u.heap.size → u.cell? ⟨q, 0, none⟩ = some (.int .u16 m) → u.cell? ⟨q, 1, none⟩ = some (.int .u16 n) → Calls Tryz.prog 91 #[.slice (some ⟨q, 0, none⟩) 2 2] u fun e w' => e = .returned (.string (strOfNums (wordL [m, n]))) ∧ Below u.heap.size u w') := fun u q hq e0 e1 => rword_any _ 2 2 [m, n] u (row2 hq e0 e1) (by omega) (two_wf h2 h3 h6 h7)
  have cu := fun u => rupdates_ (g16 L 16) (strOfNums (wordL (adW oa ob)) ++ L.extract 0 4) (strOfNums (wordL (adW a b)) ++ strOfNums (wordL [m, n])) u g0 g1 (by rw [ByteArray.size_append]; unfold maxLen; omega) (by rw [ByteArray.size_append]; unfold maxLen; omega)
  rw [pSum_V (by omega) ho hc] at cu
  have x1 := fun u => with9_ L (strOfNums (wordL [m, n])) 0 0 u rfl hz (by omega) (by omega)
  have q1 : (strOfNums (wordL (adW oa ob))).size + (L.extract 0 4).size ≤ 9223372036854775807 := by omega
  have q2 : (strOfNums (wordL (adW a b))).size + (strOfNums (wordL [m, n])).size ≤ 9223372036854775807 := by omega
  have i4 : (4 : Int) ≤ (L.size : Int) := by omega
  have cq := fun u => rput16 (pSum L 16 oa ob a m b n) u bd.1 bd.2
  have zQ : (strOfNums (wordL [pSum L 16 oa ob a m b n])).size = 2 := by rw [size_W]; rfl
  have x2 := fun u => with9_ (withB L 0 (strOfNums (wordL [m, n]))) (strOfNums (wordL [pSum L 16 oa ob a m b n])) 16 16 u rfl (by omega) (by omega) (by omega)
  have HV : Hid (withB (withB L 0 (strOfNums (wordL [m, n]))) 16 (strOfNums (wordL [pSum L 16 oa ob a m b n])) = ptC L 16 m n (pSum L 16 oa ob a m b n)) := rfl
  generalize strOfNums (wordL [pSum L 16 oa ob a m b n]) = Q at *
  generalize ptC L 16 m n (pSum L 16 oa ob a m b n) = RR at *
  generalize pSum L 16 oa ob a m b n = v at *
  generalize withB (withB L 0 (strOfNums (wordL [m, n]))) 16 Q = R at *
  generalize withB L 0 (strOfNums (wordL [m, n])) = X at *
  generalize strOfNums (wordL [m, n]) = PT at *
  generalize strOfNums (wordL (adW a b)) = PR at *
  generalize strOfNums (wordL (adW oa ob)) = OA at *
  generalize g16 L 16 = g at *
  clear bd g0 g1 h0 h1 h2 h3 h4 h5 h6 h7 zA zB zP zE zW zQ ho hc h hz
  go_enter Tryz.func83, Tryz.ntmps83
  have B1 := Below.refl w.heap.size w
  go_wp2_with fail
  have C_2 := Box4.make w (.int .u32 a) (.int .u16 m) (.int .u32 b) (.int .u16 n) 39
  have B3 := B1.alloc B1.size (.cells #[.int .u32 a, .int .u16 m, .int .u32 b, .int .u16 n] 39)
  clear B1
  have al := alO_ B3 (.cells #[.int .u16 m, .int .u16 n] 24)
  have C_4 := C_2.on al
  have B5 := B3.trans (al.mono B3.size)
  clear al
  clear C_2 B3
  refine (HR.out _ (w.heap.size + 1) (by simp) (by simp [go_sem]) (by simp [go_sem])).mono ?_; rintro e w1 ⟨rfl, x_1⟩
  have C_6 := C_4.on x_1
  have B7 := B5.trans (x_1.mono B5.size)
  clear C_4 B5 x_1
  go_wp2_with fail
  refine (cw _).mono ?_; rintro e w2 ⟨rfl, rfl⟩
  go_wp2_with fail
  obtain ⟨zc, gc0, gc1, gc2, gc3⟩ := id C_6
  have Fc0 := lat_ gc0 zc
  have Fc1 := lat_ gc1 zc
  have Fc2 := lat_ gc2 zc
  have Fc3 := lat_ gc3 zc
  clear gc0 gc1 gc2 gc3
  refine region_later (B := w1.heap.size) (by kernel_rfl) (by kernel_rfl) ?_
  repeat (go_big_quiet_step (first
    | (go_at_call 85; exact later_of _ (Nat.le_refl _) (cp _))
    | (go_at_call 39; exact later_same _ (cu _))))
  refine later_end fun w3 x3 => ?_
  have C_8 := C_6.on x3
  have B9 := B7.trans (x3.mono B7.size)
  clear Fc0 Fc1 Fc2 Fc3 zc C_6 B7 x3
  go_wp2_with fail
  refine (x1 _).mono ?_; rintro e w4 ⟨rfl, x4⟩
  have C_10 := C_8.on x4
  have B11 := B9.trans (x4.mono B9.size)
  clear C_8 B9 x4
  go_wp2_with fail
  refine (cq _).mono ?_; rintro e w5 ⟨rfl, x5⟩
  have C_12 := C_10.on x5
  have B13 := B11.trans (x5.mono B11.size)
  clear C_10 B11 x5
  go_wp2_with fail
  refine (x2 _).mono ?_; rintro e w6 ⟨rfl, x6⟩
  have C_14 := C_12.on x6
  have B15 := B13.trans (x6.mono B13.size)
  clear C_12 B13 x6
  go_wp2
  go_ret
  rw [HV.out]
  exact ⟨rfl, B15⟩
theorem carr10_17 (L A R : ByteArray) (e0 e2 e3 e4 e5 e7 a m b n : Int) (ask : Bool) (cp : Cb_ 83 #[.string L, .string A, .agg #[.int .u32 a, .int .u16 m, .int .u32 b, .int .u16 n], .int .i64 6] (.string R)) (w : World) :
    Cw_ 86 #[.string L, .string A, .agg #[.int .i64 e0, .int .u8 17, .int .u32 e2, .int .u16 e3, .int .u32 e4, .int .u16 e5, .bool ask, .int .i64 e7], .agg #[.int .u32 a, .int .u16 m, .int .u32 b, .int .u16 n]] (.string R) w := by
  go_enter Tryz.func86, Tryz.ntmps86
  have B1 := Below.refl w.heap.size w
  go_upto_region 1 with fail
  have F_2 := Box8.make w (.int .i64 e0) (.int .u8 17) (.int .u32 e2) (.int .u16 e3) (.int .u32 e4) (.int .u16 e5) (.bool ask) (.int .i64 e7) 85
  have B3 := B1.alloc B1.size (.cells #[.int .i64 e0, .int .u8 17, .int .u32 e2, .int .u16 e3, .int .u32 e4, .int .u16 e5, .bool ask, .int .i64 e7] 85)
  clear B1
  have al := alO_ B3 (.cells #[.int .u32 a, .int .u16 m, .int .u32 b, .int .u16 n] 39)
  have F_4 := F_2.on al
  have hs_ : (w.alloc (.cells #[.int .i64 e0, .int .u8 17, .int .u32 e2, .int .u16 e3, .int .u32 e4, .int .u16 e5, .bool ask, .int .i64 e7] 85)).heap.size = w.heap.size + 1 := by simp
  have C_5 := Box4.make (w.alloc (.cells #[.int .i64 e0, .int .u8 17, .int .u32 e2, .int .u16 e3, .int .u32 e4, .int .u16 e5, .bool ask, .int .i64 e7] 85)) (.int .u32 a) (.int .u16 m) (.int .u32 b) (.int .u16 n) 39
  rw [hs_] at C_5
  clear hs_
  have B6 := B3.trans (al.mono B3.size)
  clear al
  clear F_2 B3
  obtain ⟨u1, hu1⟩ : ∃ x, x = (w.alloc (.cells #[.int .i64 e0, .int .u8 17, .int .u32 e2, .int .u16 e3, .int .u32 e4, .int .u16 e5, .bool ask, .int .i64 e7] 85)).alloc (.cells #[.int .u32 a, .int .u16 m, .int .u32 b, .int .u16 n] 39) := ⟨_, rfl⟩
  rw [← hu1] at F_4 C_5 B6 ⊢
  clear hu1
  obtain ⟨_, f1_0, f1_1, f1_2, f1_3, f1_4, f1_5, f1_6, f1_7⟩ := id F_4
  obtain ⟨_, c2_0, c2_1, c2_2, c2_3⟩ := id C_5
  go_wp2_with fail
  refine (cp _).mono ?_; rintro e w1 ⟨rfl, x1⟩
  have F_7 := F_4.on x1
  have C_8 := C_5.on x1
  have B9 := B6.trans (x1.mono B6.size)
  clear f1_0 f1_1 f1_2 f1_3 f1_4 f1_5 f1_6 f1_7 c2_0 c2_1 c2_2 c2_3 F_4 C_5 B6 x1
  go_wp2
  go_ret
  exact ⟨rfl, B9⟩
theorem carr10_6 (L A R : ByteArray) (e0 e2 e3 e4 e5 e7 a m b n : Int) (ask : Bool) (g1 : decide ((18 : Int) ≤ (L.size : Int)) = true) (g2 : decide (18 ≤ L.size) = true) (cp : Cb_ 83 #[.string L, .string A, .agg #[.int .u32 a, .int .u16 m, .int .u32 b, .int .u16 n], .int .i64 16] (.string R)) (w : World) :
    Cw_ 86 #[.string L, .string A, .agg #[.int .i64 e0, .int .u8 6, .int .u32 e2, .int .u16 e3, .int .u32 e4, .int .u16 e5, .bool ask, .int .i64 e7], .agg #[.int .u32 a, .int .u16 m, .int .u32 b, .int .u16 n]] (.string R) w := by
  go_enter Tryz.func86, Tryz.ntmps86
  have B1 := Below.refl w.heap.size w
  go_upto_region 1 with fail
  have F_2 := Box8.make w (.int .i64 e0) (.int .u8 6) (.int .u32 e2) (.int .u16 e3) (.int .u32 e4) (.int .u16 e5) (.bool ask) (.int .i64 e7) 85
  have B3 := B1.alloc B1.size (.cells #[.int .i64 e0, .int .u8 6, .int .u32 e2, .int .u16 e3, .int .u32 e4, .int .u16 e5, .bool ask, .int .i64 e7] 85)
  clear B1
  have al := alO_ B3 (.cells #[.int .u32 a, .int .u16 m, .int .u32 b, .int .u16 n] 39)
  have F_4 := F_2.on al
  have hs_ : (w.alloc (.cells #[.int .i64 e0, .int .u8 6, .int .u32 e2, .int .u16 e3, .int .u32 e4, .int .u16 e5, .bool ask, .int .i64 e7] 85)).heap.size = w.heap.size + 1 := by simp
  have C_5 := Box4.make (w.alloc (.cells #[.int .i64 e0, .int .u8 6, .int .u32 e2, .int .u16 e3, .int .u32 e4, .int .u16 e5, .bool ask, .int .i64 e7] 85)) (.int .u32 a) (.int .u16 m) (.int .u32 b) (.int .u16 n) 39
  rw [hs_] at C_5
  clear hs_
  have B6 := B3.trans (al.mono B3.size)
  clear al
  clear F_2 B3
  obtain ⟨u1, hu1⟩ : ∃ x, x = (w.alloc (.cells #[.int .i64 e0, .int .u8 6, .int .u32 e2, .int .u16 e3, .int .u32 e4, .int .u16 e5, .bool ask, .int .i64 e7] 85)).alloc (.cells #[.int .u32 a, .int .u16 m, .int .u32 b, .int .u16 n] 39) := ⟨_, rfl⟩
  rw [← hu1] at F_4 C_5 B6 ⊢
  clear hu1
  obtain ⟨_, f1_0, f1_1, f1_2, f1_3, f1_4, f1_5, f1_6, f1_7⟩ := id F_4
  obtain ⟨_, c2_0, c2_1, c2_2, c2_3⟩ := id C_5
  go_wp2_with fail
  refine (cp _).mono ?_; rintro e w1 ⟨rfl, x1⟩
  have F_7 := F_4.on x1
  have C_8 := C_5.on x1
  have B9 := B6.trans (x1.mono B6.size)
  clear f1_0 f1_1 f1_2 f1_3 f1_4 f1_5 f1_6 f1_7 c2_0 c2_1 c2_2 c2_3 F_4 C_5 B6 x1
  go_wp2
  go_ret
  exact ⟨rfl, B9⟩
theorem carr10_6s (L A R : ByteArray) (e0 e2 e3 e4 e5 e7 a m b n : Int) (ask : Bool) (P : ByteArray) (g1 : decide ((18 : Int) ≤ (L.size : Int)) = false) (g2 : decide (18 ≤ L.size) = false) (HR : Hid (∀ (u : World) (q : Nat), q < u.heap.size → u.cell? ⟨q, 0, none⟩ = some (.int .u16 m) → u.cell? ⟨q, 1, none⟩ = some (.int .u16 n) → Calls Tryz.prog 91 #[.slice (some ⟨q, 0, none⟩) 2 2] u fun e w' => e = .returned (.string P) ∧ Below u.heap.size u w')) (cx : Cb_ 40 #[.string L, .int .i64 0, .string P] (.string R)) (w : World) :
    Cw_ 86 #[.string L, .string A, .agg #[.int .i64 e0, .int .u8 6, .int .u32 e2, .int .u16 e3, .int .u32 e4, .int .u16 e5, .bool ask, .int .i64 e7], .agg #[.int .u32 a, .int .u16 m, .int .u32 b, .int .u16 n]] (.string R) w := by
  go_enter Tryz.func86, Tryz.ntmps86
  have B1 := Below.refl w.heap.size w
  go_upto_region 1 with fail
  have F_2 := Box8.make w (.int .i64 e0) (.int .u8 6) (.int .u32 e2) (.int .u16 e3) (.int .u32 e4) (.int .u16 e5) (.bool ask) (.int .i64 e7) 85
  have B3 := B1.alloc B1.size (.cells #[.int .i64 e0, .int .u8 6, .int .u32 e2, .int .u16 e3, .int .u32 e4, .int .u16 e5, .bool ask, .int .i64 e7] 85)
  clear B1
  have al := alO_ B3 (.cells #[.int .u32 a, .int .u16 m, .int .u32 b, .int .u16 n] 39)
  have F_4 := F_2.on al
  have hs_ : (w.alloc (.cells #[.int .i64 e0, .int .u8 6, .int .u32 e2, .int .u16 e3, .int .u32 e4, .int .u16 e5, .bool ask, .int .i64 e7] 85)).heap.size = w.heap.size + 1 := by simp
  have C_5 := Box4.make (w.alloc (.cells #[.int .i64 e0, .int .u8 6, .int .u32 e2, .int .u16 e3, .int .u32 e4, .int .u16 e5, .bool ask, .int .i64 e7] 85)) (.int .u32 a) (.int .u16 m) (.int .u32 b) (.int .u16 n) 39
  rw [hs_] at C_5
  clear hs_
  have B6 := B3.trans (al.mono B3.size)
  clear al
  clear F_2 B3
  obtain ⟨u1, hu1⟩ : ∃ x, x = (w.alloc (.cells #[.int .i64 e0, .int .u8 6, .int .u32 e2, .int .u16 e3, .int .u32 e4, .int .u16 e5, .bool ask, .int .i64 e7] 85)).alloc (.cells #[.int .u32 a, .int .u16 m, .int .u32 b, .int .u16 n] 39) := ⟨_, rfl⟩
  rw [← hu1] at F_4 C_5 B6 ⊢
  clear hu1
  obtain ⟨_, f1_0, f1_1, f1_2, f1_3, f1_4, f1_5, f1_6, f1_7⟩ := id F_4
  obtain ⟨_, c2_0, c2_1, c2_2, c2_3⟩ := id C_5
  go_wp2_with fail
  clear f1_0 f1_1 f1_2 f1_3 f1_4 f1_5 f1_6 f1_7 c2_0 c2_1 c2_2 c2_3
  have al := alO_ B6 (.cells #[.int .u16 m, .int .u16 n] 24)
  have F_7 := F_4.on al
  have C_8 := C_5.on al
  have B9 := B6.trans (al.mono B6.size)
  clear al
  clear F_4 C_5 B6
  refine (HR.out _ (u1.heap.size) (by simp) (by simp [go_sem]) (by simp [go_sem])).mono ?_; rintro e w1 ⟨rfl, x_1⟩
  have F_10 := F_7.on x_1
  have C_11 := C_8.on x_1
  have B12 := B9.trans (x_1.mono B9.size)
  clear F_7 C_8 B9 x_1
  go_wp2_with fail
  refine (cx _).mono ?_; rintro e w2 ⟨rfl, x2⟩
  have F_13 := F_10.on x2
  have C_14 := C_11.on x2
  have B15 := B12.trans (x2.mono B12.size)
  clear F_10 C_11 B12 x2
  go_wp2
  go_ret
  exact ⟨rfl, B15⟩
theorem carr10_ask (L A R : ByteArray) (e0 e2 e3 e4 e5 e7 a m b n : Int)  (cy : Cb_ 84 #[.string L, .int .u16 m] (.string R)) (w : World) :
    Cw_ 86 #[.string L, .string A, .agg #[.int .i64 e0, .int .u8 1, .int .u32 e2, .int .u16 e3, .int .u32 e4, .int .u16 e5, .bool true, .int .i64 e7], .agg #[.int .u32 a, .int .u16 m, .int .u32 b, .int .u16 n]] (.string R) w := by
  go_enter Tryz.func86, Tryz.ntmps86
  have B1 := Below.refl w.heap.size w
  go_upto_region 1 with fail
  have F_2 := Box8.make w (.int .i64 e0) (.int .u8 1) (.int .u32 e2) (.int .u16 e3) (.int .u32 e4) (.int .u16 e5) (.bool true) (.int .i64 e7) 85
  have B3 := B1.alloc B1.size (.cells #[.int .i64 e0, .int .u8 1, .int .u32 e2, .int .u16 e3, .int .u32 e4, .int .u16 e5, .bool true, .int .i64 e7] 85)
  clear B1
  have al := alO_ B3 (.cells #[.int .u32 a, .int .u16 m, .int .u32 b, .int .u16 n] 39)
  have F_4 := F_2.on al
  have hs_ : (w.alloc (.cells #[.int .i64 e0, .int .u8 1, .int .u32 e2, .int .u16 e3, .int .u32 e4, .int .u16 e5, .bool true, .int .i64 e7] 85)).heap.size = w.heap.size + 1 := by simp
  have C_5 := Box4.make (w.alloc (.cells #[.int .i64 e0, .int .u8 1, .int .u32 e2, .int .u16 e3, .int .u32 e4, .int .u16 e5, .bool true, .int .i64 e7] 85)) (.int .u32 a) (.int .u16 m) (.int .u32 b) (.int .u16 n) 39
  rw [hs_] at C_5
  clear hs_
  have B6 := B3.trans (al.mono B3.size)
  clear al
  clear F_2 B3
  obtain ⟨u1, hu1⟩ : ∃ x, x = (w.alloc (.cells #[.int .i64 e0, .int .u8 1, .int .u32 e2, .int .u16 e3, .int .u32 e4, .int .u16 e5, .bool true, .int .i64 e7] 85)).alloc (.cells #[.int .u32 a, .int .u16 m, .int .u32 b, .int .u16 n] 39) := ⟨_, rfl⟩
  rw [← hu1] at F_4 C_5 B6 ⊢
  clear hu1
  obtain ⟨_, f1_0, f1_1, f1_2, f1_3, f1_4, f1_5, f1_6, f1_7⟩ := id F_4
  obtain ⟨_, c2_0, c2_1, c2_2, c2_3⟩ := id C_5
  go_wp2_with fail
  refine (cy _).mono ?_; rintro e w1 ⟨rfl, x1⟩
  have F_7 := F_4.on x1
  have C_8 := C_5.on x1
  have B9 := B6.trans (x1.mono B6.size)
  clear f1_0 f1_1 f1_2 f1_3 f1_4 f1_5 f1_6 f1_7 c2_0 c2_1 c2_2 c2_3 F_4 C_5 B6 x1
  go_wp2
  go_ret
  exact ⟨rfl, B9⟩
theorem carr10_told (L A R : ByteArray) (e0 e2 e3 e4 e5 e7 a m b n : Int)  (cy : Cb_ 84 #[.string L, .int .u16 n] (.string R)) (w : World) :
    Cw_ 86 #[.string L, .string A, .agg #[.int .i64 e0, .int .u8 1, .int .u32 e2, .int .u16 e3, .int .u32 e4, .int .u16 e5, .bool false, .int .i64 e7], .agg #[.int .u32 a, .int .u16 m, .int .u32 b, .int .u16 n]] (.string R) w := by
  go_enter Tryz.func86, Tryz.ntmps86
  have B1 := Below.refl w.heap.size w
  go_upto_region 1 with fail
  have F_2 := Box8.make w (.int .i64 e0) (.int .u8 1) (.int .u32 e2) (.int .u16 e3) (.int .u32 e4) (.int .u16 e5) (.bool false) (.int .i64 e7) 85
  have B3 := B1.alloc B1.size (.cells #[.int .i64 e0, .int .u8 1, .int .u32 e2, .int .u16 e3, .int .u32 e4, .int .u16 e5, .bool false, .int .i64 e7] 85)
  clear B1
  have al := alO_ B3 (.cells #[.int .u32 a, .int .u16 m, .int .u32 b, .int .u16 n] 39)
  have F_4 := F_2.on al
  have hs_ : (w.alloc (.cells #[.int .i64 e0, .int .u8 1, .int .u32 e2, .int .u16 e3, .int .u32 e4, .int .u16 e5, .bool false, .int .i64 e7] 85)).heap.size = w.heap.size + 1 := by simp
  have C_5 := Box4.make (w.alloc (.cells #[.int .i64 e0, .int .u8 1, .int .u32 e2, .int .u16 e3, .int .u32 e4, .int .u16 e5, .bool false, .int .i64 e7] 85)) (.int .u32 a) (.int .u16 m) (.int .u32 b) (.int .u16 n) 39
  rw [hs_] at C_5
  clear hs_
  have B6 := B3.trans (al.mono B3.size)
  clear al
  clear F_2 B3
  obtain ⟨u1, hu1⟩ : ∃ x, x = (w.alloc (.cells #[.int .i64 e0, .int .u8 1, .int .u32 e2, .int .u16 e3, .int .u32 e4, .int .u16 e5, .bool false, .int .i64 e7] 85)).alloc (.cells #[.int .u32 a, .int .u16 m, .int .u32 b, .int .u16 n] 39) := ⟨_, rfl⟩
  rw [← hu1] at F_4 C_5 B6 ⊢
  clear hu1
  obtain ⟨_, f1_0, f1_1, f1_2, f1_3, f1_4, f1_5, f1_6, f1_7⟩ := id F_4
  obtain ⟨_, c2_0, c2_1, c2_2, c2_3⟩ := id C_5
  go_wp2_with fail
  refine (cy _).mono ?_; rintro e w1 ⟨rfl, x1⟩
  have F_7 := F_4.on x1
  have C_8 := C_5.on x1
  have B9 := B6.trans (x1.mono B6.size)
  clear f1_0 f1_1 f1_2 f1_3 f1_4 f1_5 f1_6 f1_7 c2_0 c2_1 c2_2 c2_3 F_4 C_5 B6 x1
  go_wp2
  go_ret
  exact ⟨rfl, B9⟩
theorem rcarr10_ (pr : Int) (ask : Bool) (L : ByteArray) (oa ob e0 e2 e3 e4 e5 e7 a m b n : Int) (w : World) (hp : pr = 6 ∨ pr = 17 ∨ pr = 1) (hz : L.size ≤ 1000000) (h8 : 8 ≤ L.size) (ho : okC oa 0 ob 0) (hc : okC a m b n) :
    Cw_ 86 #[.string L, .string (strOfNums (wordL (adW oa ob))), .agg #[.int .i64 e0, .int .u8 pr, .int .u32 e2, .int .u16 e3, .int .u32 e4, .int .u16 e5, .bool ask, .int .i64 e7], .agg #[.int .u32 a, .int .u16 m, .int .u32 b, .int .u16 n]] (.string (emL pr ask L oa ob a m b n)) w := by
  obtain ⟨h0, h1, h2, h3, h4, h5, h6, h7⟩ := id hc
  unfold emL
  rcases hp with rfl | rfl | rfl
  · rw [if_neg (by omega), if_pos rfl]
    by_cases c : 18 ≤ L.size
    · rw [if_pos c]
      exact carr10_6 L _ _ e0 e2 e3 e4 e5 e7 a m b n ask (by simp; omega) (by simpa using c) (fun u => ports10_tcp L oa ob a m b n u ho hc hz c) w
    · rw [if_neg c]
      exact carr10_6s L _ _ e0 e2 e3 e4 e5 e7 a m b n ask (strOfNums (wordL [m, n])) (by simp; omega) (by simpa using c) (fun u q hq z0 z1 => rword_any _ 2 2 [m, n] u (row2 hq z0 z1) (by omega) (two_wf h2 h3 h6 h7)) (fun u => with9_ L (strOfNums (wordL [m, n])) 0 0 u rfl hz (by rw [size_W]; show 2 * 2 ≤ _; omega) (by rw [size_W]; show 0 + 2 * 2 ≤ _; omega)) w
  · rw [if_pos rfl]
    exact carr10_17 L _ _ e0 e2 e3 e4 e5 e7 a m b n ask (fun u => ports9_udp L oa ob a m b n u ho hc hz h8) w
  · rw [if_neg (by omega), if_neg (by omega)]
    cases ask with
    | true => rw [if_pos rfl]; exact carr10_ask L _ _ e0 e2 e3 e4 e5 e7 a m b n (fun u => query9_ L m u hz h8 h2 h3) w
    | false => rw [if_neg (by decide)]; exact carr10_told L _ _ e0 e2 e3 e4 e5 e7 a m b n (fun u => query9_ L n u hz h8 h6 h7) w
theorem emS_V {D : ByteArray} {a b : Int} (h : 20 ≤ D.size) (hc : okC a 0 b 0) : updV (g16 D 10) (strOfNums (wordL (adW (g32 D 12) (g32 D 16)))) (strOfNums (wordL (adW a b))) = emS D a b := by
  rw [updV_L _ (adW (g32 D 12) (g32 D 16)) (adW a b) (by rfl) (adW_wf (okC_of D)) (adW_wf hc)]
  rfl
theorem data10_ (D H1 H2 L LB OA PR S : ByteArray) (o : Nat) (f1 f2 f3 f4 f5 g x a m b n : Int) (f6 : Bool) (w : World) (io : (o : Int) ≤ (D.size : Int)) (i20 : (20 : Int) ≤ (D.size : Int)) (h20 : (20 : Int) ≤ (H1.size : Int)) (z : H2.size + LB.size ≤ 9223372036854775807)
    (eO : D.extract 12 20 = OA) (eH : H1.extract 12 20 = PR) (eL : D.extract o D.size = L) (cl : Cb_ 32 #[.string D] (.agg #[.int .i64 (o : Int), .int .u8 f1, .int .u32 f2, .int .u16 f3, .int .u32 f4, .int .u16 f5, .bool f6, .int .i64 0])) (cp : Cb_ 85 #[.agg #[.int .u32 a, .int .u16 m, .int .u32 b, .int .u16 n]] (.string PR)) (c1 : Cb_ 40 #[.string (D.extract 0 o), .int .i64 12, .string PR] (.string H1)) (cw : ∀ u : World, Calls Tryz.prog 71 #[.string D, .int .i64 10] u fun e w' => e = .returned (.int .u16 g) ∧ u = w') (cu : ∀ u : World, Calls Tryz.prog 39 #[.int .u16 g, .string OA, .string PR] u fun e w' => e = .returned (.int .u16 x) ∧ u = w') (cq : Cb_ 41 #[.int .u16 x] (.string S)) (c2 : Cb_ 40 #[.string H1, .int .i64 10, .string S] (.string H2)) (cc : Cb_ 86 #[.string L, .string OA, .agg #[.int .i64 (o : Int), .int .u8 f1, .int .u32 f2, .int .u16 f3, .int .u32 f4, .int .u16 f5, .bool f6, .int .i64 0], .agg #[.int .u32 a, .int .u16 m, .int .u32 b, .int .u16 n]] (.string LB)) :
    Cw_ 38 #[.string D, .agg #[.int .u32 a, .int .u16 m, .int .u32 b, .int .u16 n]] (.string (H2 ++ LB)) w := by
  go_enter Tryz.func38, Tryz.ntmps38
  have B1 := Below.refl w.heap.size w
  go_wp2_with fail
  have C_2 := Box4.make w (.int .u32 a) (.int .u16 m) (.int .u32 b) (.int .u16 n) 39
  have B3 := B1.alloc B1.size (.cells #[.int .u32 a, .int .u16 m, .int .u32 b, .int .u16 n] 39)
  clear B1
  refine (cl _).mono ?_; rintro e w1 ⟨rfl, x1⟩
  have C_4 := C_2.on x1
  have B5 := B3.trans (x1.mono B3.size)
  clear C_2 B3 x1
  clear cl
  have al := alO_ B5 (.cells #[.int .i64 (o : Int), .int .u8 f1, .int .u32 f2, .int .u16 f3, .int .u32 f4, .int .u16 f5, .bool f6, .int .i64 0] 85)
  have C_6 := C_4.on al
  have F_7 := Box8.make w1 (.int .i64 (o : Int)) (.int .u8 f1) (.int .u32 f2) (.int .u16 f3) (.int .u32 f4) (.int .u16 f5) (.bool f6) (.int .i64 0) 85
  have B8 := B5.trans (al.mono B5.size)
  clear al
  clear C_4 B5
  go_wp2_with fail
  obtain ⟨u2, hu2⟩ : ∃ x, x = w1.alloc (.cells #[.int .i64 (o : Int), .int .u8 f1, .int .u32 f2, .int .u16 f3, .int .u32 f4, .int .u16 f5, .bool f6, .int .i64 0] 85) := ⟨_, rfl⟩
  rw [← hu2] at C_6 F_7 B8 ⊢
  clear hu2
  obtain ⟨zc, gc0, gc1, gc2, gc3⟩ := id C_6
  have Fc0 := lat_ gc0 zc
  have Fc1 := lat_ gc1 zc
  have Fc2 := lat_ gc2 zc
  have Fc3 := lat_ gc3 zc
  clear gc0 gc1 gc2 gc3
  obtain ⟨zf, gf0, gf1, gf2, gf3, gf4, gf5, gf6, gf7⟩ := id F_7
  have Ff0 := lat_ gf0 zf
  have Ff1 := lat_ gf1 zf
  have Ff2 := lat_ gf2 zf
  have Ff3 := lat_ gf3 zf
  have Ff4 := lat_ gf4 zf
  have Ff5 := lat_ gf5 zf
  have Ff6 := lat_ gf6 zf
  have Ff7 := lat_ gf7 zf
  clear gf0 gf1 gf2 gf3 gf4 gf5 gf6 gf7
  refine region_later (B := u2.heap.size) (by kernel_rfl) (by kernel_rfl) ?_
  repeat (go_big_quiet_step (first
    | (go_at_call 85; exact later_of _ (Nat.le_refl _) (cp _))
    | (go_at_call 40; exact later_of _ (Nat.le_refl _) (c1 _))))
  refine later_end fun w3 x3 => ?_
  have C_9 := C_6.on x3
  have F_10 := F_7.on x3
  have B11 := B8.trans (x3.mono B8.size)
  clear Fc0 Fc1 Fc2 Fc3 zc Ff0 Ff1 Ff2 Ff3 Ff4 Ff5 Ff6 Ff7 zf C_6 F_7 B8 x3
  clear cp c1
  go_wp2_with fail
  refine region_later (B := w3.heap.size) (by kernel_rfl) (by kernel_rfl) ?_
  repeat (go_big_quiet_step (first
    | (go_at_call 71; exact later_same _ (cw _))
    | (go_at_call 39; exact later_same _ (cu _))))
  refine later_end fun w4 x4 => ?_
  have C_12 := C_9.on x4
  have F_13 := F_10.on x4
  have B14 := B11.trans (x4.mono B11.size)
  clear C_9 F_10 B11 x4
  clear cw cu
  go_wp2_with fail
  refine (cq _).mono ?_; rintro e w5 ⟨rfl, x5⟩
  have C_15 := C_12.on x5
  have F_16 := F_13.on x5
  have B17 := B14.trans (x5.mono B14.size)
  clear C_12 F_13 B14 x5
  go_wp2_with fail
  refine (c2 _).mono ?_; rintro e w6 ⟨rfl, x6⟩
  have C_18 := C_15.on x6
  have F_19 := F_16.on x6
  have B20 := B17.trans (x6.mono B17.size)
  clear C_15 F_16 B17 x6
  clear cq c2
  go_wp2_with fail
  obtain ⟨zc, gc0, gc1, gc2, gc3⟩ := id C_18
  have Fc0 := lat_ gc0 zc
  have Fc1 := lat_ gc1 zc
  have Fc2 := lat_ gc2 zc
  have Fc3 := lat_ gc3 zc
  clear gc0 gc1 gc2 gc3
  obtain ⟨zf, gf0, gf1, gf2, gf3, gf4, gf5, gf6, gf7⟩ := id F_19
  have Ff0 := lat_ gf0 zf
  have Ff1 := lat_ gf1 zf
  have Ff2 := lat_ gf2 zf
  have Ff3 := lat_ gf3 zf
  have Ff4 := lat_ gf4 zf
  have Ff5 := lat_ gf5 zf
  have Ff6 := lat_ gf6 zf
  have Ff7 := lat_ gf7 zf
  clear gf0 gf1 gf2 gf3 gf4 gf5 gf6 gf7
  refine region_later (B := w6.heap.size) (by kernel_rfl) (by kernel_rfl) ?_
  repeat (go_big_quiet_step (first
    | (go_at_call 86; exact later_of _ (Nat.le_refl _) (cc _))))
  refine later_end fun w7 x7 => ?_
  have C_21 := C_18.on x7
  have F_22 := F_19.on x7
  have B23 := B20.trans (x7.mono B20.size)
  clear Fc0 Fc1 Fc2 Fc3 zc Ff0 Ff1 Ff2 Ff3 Ff4 Ff5 Ff6 Ff7 zf C_18 F_19 B20 x7
  go_wp2
  go_ret
  exact ⟨rfl, B23⟩
theorem emL_ask {D : ByteArray} {oa ob a m b n : Int} (hp : bt D 9 = 6 ∨ bt D 9 = 17 ∨ bt D 9 = 1) : emL (bt D 9) (decide (bt D 9 = 1) && inAsk D) (inL D) oa ob a m b n = emL (bt D 9) (inAsk D) (inL D) oa ob a m b n := by
  by_cases k : bt D 9 = 1
  · rw [decide_eq_true k, Bool.true_and]
  · rw [decide_eq_false k, Bool.false_and]
    unfold emL
    by_cases k17 : bt D 9 = 17
    · rw [if_pos k17, if_pos k17]
    · by_cases k6 : bt D 9 = 6
      · rw [if_neg k17, if_neg k17, if_pos k6, if_pos k6]
      · exact absurd hp (by omega)
theorem rdata10_ (D : ByteArray) (a m b n : Int) (w : World) (h : lkR D = 0) (hs : D.size ≤ 1000000) (hc : okC a m b n) :
    Cw_ 38 #[.string D, .agg #[.int .u32 a, .int .u16 m, .int .u32 b, .int .u16 n]] (.string (emD D a m b n)) w := by
  obtain ⟨h0, h1, h2, h3, h4, h5⟩ := lk_zero h
  have hp : bt D 9 = 6 ∨ bt D 9 = 17 ∨ bt D 9 = 1 := h5.elim .inl (fun k => k.elim (fun k => .inr (.inl k)) (fun k => .inr (.inr k.1)))
  have ho := okC_of D
  have hcd := okC_ad hc
  have bd := emS_bd (D := D) hcd
  have ck := fun u => rlook10_ D u hs
  obtain ⟨n1, n2⟩ := lk_yes h
  rw [n1, n1, n1, n1, n1, n1, n2, h] at ck
  have zo := size_extract' D 0 (ownN D) (Nat.zero_le _) (by omega)
  have zP : (strOfNums (wordL (adW a b))).size = 8 := by rw [size_W]; rfl
  have zS : (strOfNums (wordL [emS D a b])).size = 2 := by rw [size_W]; rfl
  have z1 : (withB (D.extract 0 (ownN D)) 12 (strOfNums (wordL (adW a b)))).size = ownN D := by rw [size_withB _ _ _ (by rw [zP, zo]; omega), zo]; omega
  have zH := emH_size (D := D) (a := a) (b := b) h2 (by omega)
  have zL := inL_size (D := D) (by omega)
  have zE := emL_size h ho hc
  have cu := fun u => rupdates_ (g16 D 10) (strOfNums (wordL (adW (g32 D 12) (g32 D 16)))) (strOfNums (wordL (adW a b))) u (g16_nonneg _ _) (g16_le _ _) (by rw [size_W]; show 2 * 4 < _; unfold maxLen; omega) (by rw [zP]; unfold maxLen; omega)
  rw [emS_V h0 hcd] at cu
  have cc := fun u => rcarr10_ (bt D 9) (decide (bt D 9 = 1) && inAsk D) (inL D) (g32 D 12) (g32 D 16) (ownN D) (g32 D 12) (inM D) (g32 D 16) (inN D) 0 a m b n u hp (by omega) (by omega) ho hc
  rw [emL_ask hp] at cc
  exact data10_ D (withB (D.extract 0 (ownN D)) 12 (strOfNums (wordL (adW a b)))) (emH D a b) (inL D) (emL (bt D 9) (inAsk D) (inL D) (g32 D 12) (g32 D 16) a m b n) (strOfNums (wordL (adW (g32 D 12) (g32 D 16)))) (strOfNums (wordL (adW a b))) (strOfNums (wordL [emS D a b])) (ownN D) _ _ _ _ _ (g16 D 10) (emS D a b) a m b n _ w (by omega) (by omega) (by omega) (by omega)
    (ext_addrs h0) (by have k := withB_there (D.extract 0 (ownN D)) 12 (strOfNums (wordL (adW a b))) (by rw [zP, zo]; omega); rw [zP] at k; exact k) rfl ck (fun u => pair9_ a m b n u hc) (fun u => with9_ _ _ 12 12 u rfl (by omega) (by omega) (by omega)) (fun u => word9_ D 10 10 u rfl hs (by omega)) cu (fun u => rput16 (emS D a b) u bd.1 bd.2) (fun u => with9_ _ _ 10 10 u rfl (by omega) (by omega) (by omega)) cc
theorem tr10_refused (s : ByteArray) (a m b n c k d l : Int) (q : Int) (e1 : (q != 0) = true) (ci : Cb_ 10 #[.string s] (.tuple #[.agg #[.int .u8 0, .int .u32 0, .int .u16 0, .int .u32 0, .int .u16 0], .int .i64 q])) (w : World) :
    Cw_ 12 #[.string s, .agg #[.int .u32 a, .int .u16 m, .int .u32 b, .int .u16 n], .agg #[.int .u32 c, .int .u16 k, .int .u32 d, .int .u16 l]] (.tuple #[.string ⟨#[]⟩, .int .i64 q]) w := by
  go_enter Tryz.func12, Tryz.ntmps12
  have B1 := Below.refl w.heap.size w
  go_upto_region 1 with fail
  have A_2 := Box4.make w (.int .u32 a) (.int .u16 m) (.int .u32 b) (.int .u16 n) 39
  have B3 := B1.alloc B1.size (.cells #[.int .u32 a, .int .u16 m, .int .u32 b, .int .u16 n] 39)
  clear B1
  have al := alO_ B3 (.cells #[.int .u32 c, .int .u16 k, .int .u32 d, .int .u16 l] 39)
  have A_4 := A_2.on al
  have hs_ : (w.alloc (.cells #[.int .u32 a, .int .u16 m, .int .u32 b, .int .u16 n] 39)).heap.size = w.heap.size + 1 := by simp
  have B_5 := Box4.make (w.alloc (.cells #[.int .u32 a, .int .u16 m, .int .u32 b, .int .u16 n] 39)) (.int .u32 c) (.int .u16 k) (.int .u32 d) (.int .u16 l) 39
  rw [hs_] at B_5
  clear hs_
  have B6 := B3.trans (al.mono B3.size)
  clear al
  clear A_2 B3
  obtain ⟨u1, hu1⟩ : ∃ x, x = (w.alloc (.cells #[.int .u32 a, .int .u16 m, .int .u32 b, .int .u16 n] 39)).alloc (.cells #[.int .u32 c, .int .u16 k, .int .u32 d, .int .u16 l] 39) := ⟨_, rfl⟩
  rw [← hu1] at A_4 B_5 B6 ⊢
  clear hu1
  have A_l : Box4 u1 w.heap.size (.int .u32 a) (.int .u16 m) (.int .u32 b) (.int .u16 n) := A_4
  have B_l : Box4 u1 (w.heap.size + 1) (.int .u32 c) (.int .u16 k) (.int .u32 d) (.int .u16 l) := B_5
  clear A_4 B_5
  go_wp2_with fail
  refine (ci _).mono ?_; rintro e w1 ⟨rfl, x1⟩
  have A_7 := A_l.on x1
  have B_8 := B_l.on x1
  have B9 := B6.trans (x1.mono B6.size)
  clear A_l B_l B6 x1
  clear ci
  have al := alO_ B9 (.cells #[.int .u8 0, .int .u32 0, .int .u16 0, .int .u32 0, .int .u16 0] 33)
  have A_10 := A_7.on al
  have B_11 := B_8.on al
  have T_12 := Box5.make w1 (.int .u8 0) (.int .u32 0) (.int .u16 0) (.int .u32 0) (.int .u16 0) 33
  have B13 := B9.trans (al.mono B9.size)
  clear al
  clear A_7 B_8 B9
  go_wp2
  go_ret2
  exact ⟨rfl, B13⟩
theorem tr10_ttl (s : ByteArray) (a m b n c k d l : Int) (t0 t1 t2 t3 t4 q : Int) (e1 : (q != 0) = true) (ci : Cb_ 10 #[.string s] (.tuple #[.agg #[.int .u8 t0, .int .u32 t1, .int .u16 t2, .int .u32 t3, .int .u16 t4], .int .i64 0])) (ca : Cb_ 37 #[.string s, .agg #[.int .u32 a, .int .u16 m, .int .u32 b, .int .u16 n]] (.tuple #[.string ⟨#[]⟩, .int .i64 q])) (w : World) :
    Cw_ 12 #[.string s, .agg #[.int .u32 a, .int .u16 m, .int .u32 b, .int .u16 n], .agg #[.int .u32 c, .int .u16 k, .int .u32 d, .int .u16 l]] (.tuple #[.string ⟨#[]⟩, .int .i64 q]) w := by
  go_enter Tryz.func12, Tryz.ntmps12
  have B1 := Below.refl w.heap.size w
  go_upto_region 1 with fail
  have A_2 := Box4.make w (.int .u32 a) (.int .u16 m) (.int .u32 b) (.int .u16 n) 39
  have B3 := B1.alloc B1.size (.cells #[.int .u32 a, .int .u16 m, .int .u32 b, .int .u16 n] 39)
  clear B1
  have al := alO_ B3 (.cells #[.int .u32 c, .int .u16 k, .int .u32 d, .int .u16 l] 39)
  have A_4 := A_2.on al
  have hs_ : (w.alloc (.cells #[.int .u32 a, .int .u16 m, .int .u32 b, .int .u16 n] 39)).heap.size = w.heap.size + 1 := by simp
  have B_5 := Box4.make (w.alloc (.cells #[.int .u32 a, .int .u16 m, .int .u32 b, .int .u16 n] 39)) (.int .u32 c) (.int .u16 k) (.int .u32 d) (.int .u16 l) 39
  rw [hs_] at B_5
  clear hs_
  have B6 := B3.trans (al.mono B3.size)
  clear al
  clear A_2 B3
  obtain ⟨u1, hu1⟩ : ∃ x, x = (w.alloc (.cells #[.int .u32 a, .int .u16 m, .int .u32 b, .int .u16 n] 39)).alloc (.cells #[.int .u32 c, .int .u16 k, .int .u32 d, .int .u16 l] 39) := ⟨_, rfl⟩
  rw [← hu1] at A_4 B_5 B6 ⊢
  clear hu1
  have A_l : Box4 u1 w.heap.size (.int .u32 a) (.int .u16 m) (.int .u32 b) (.int .u16 n) := A_4
  have B_l : Box4 u1 (w.heap.size + 1) (.int .u32 c) (.int .u16 k) (.int .u32 d) (.int .u16 l) := B_5
  clear A_4 B_5
  go_wp2_with fail
  refine (ci _).mono ?_; rintro e w1 ⟨rfl, x1⟩
  have A_7 := A_l.on x1
  have B_8 := B_l.on x1
  have B9 := B6.trans (x1.mono B6.size)
  clear A_l B_l B6 x1
  clear ci
  have al := alO_ B9 (.cells #[.int .u8 t0, .int .u32 t1, .int .u16 t2, .int .u32 t3, .int .u16 t4] 33)
  have A_10 := A_7.on al
  have B_11 := B_8.on al
  have T_12 := Box5.make w1 (.int .u8 t0) (.int .u32 t1) (.int .u16 t2) (.int .u32 t3) (.int .u16 t4) 33
  have B13 := B9.trans (al.mono B9.size)
  clear al
  clear A_7 B_8 B9
  obtain ⟨_, a1_0, a1_1, a1_2, a1_3⟩ := id A_10
  go_wp2_with fail
  refine (ca _).mono ?_; rintro e w2 ⟨rfl, x2⟩
  have A_14 := A_10.on x2
  have B_15 := B_11.on x2
  have T_16 := T_12.on x2
  have B17 := B13.trans (x2.mono B13.size)
  clear a1_0 a1_1 a1_2 a1_3 A_10 B_11 T_12 B13 x2
  go_wp2
  go_ret2
  exact ⟨rfl, B17⟩
theorem tr10_ok (s : ByteArray) (a m b n c k d l : Int) (t0 t1 t2 t3 t4 m0 m1 m2 x : Int) (m3 m4 O D S O1 O2 : ByteArray) (o e : Nat) (i0 : (0 : Int) < (s.size : Int)) (e4 : bt s 0 % 16 * 4 = (o : Int)) (o60 : o ≤ 60) (zD : D.size ≤ 1000000) (ee : (D.size : Int) / 2 * 2 = (e : Int)) (e60 : e ≤ 1000000) (eD_ : (e : Int) ≤ (D.size : Int)) (em : (e : Int) ≤ (m4.size : Int)) (ci : Cb_ 10 #[.string s] (.tuple #[.agg #[.int .u8 t0, .int .u32 t1, .int .u16 t2, .int .u32 t3, .int .u16 t4], .int .i64 0])) (ca : Cb_ 37 #[.string s, .agg #[.int .u32 a, .int .u16 m, .int .u32 b, .int .u16 n]] (.tuple #[.string O, .int .i64 0])) (cm : Cb_ 31 #[.string s] (.tuple #[.agg #[.int .u8 m0, .int .u8 m1, .int .u16 m2, .string m3, .string m4], .int .i64 0])) (cd : Cb_ 38 #[.string m4, .agg #[.int .u32 c, .int .u16 k, .int .u32 d, .int .u16 l]] (.string D)) (cu : ∀ u : World, Calls Tryz.prog 39 #[.int .u16 m2, .string (m4.extract 0 e), .string (D.extract 0 e)] u fun e w' => e = .returned (.int .u16 x) ∧ u = w') (cq : Cb_ 41 #[.int .u16 x] (.string S)) (c1 : Cb_ 40 #[.string O, .int .i64 ((o : Int) + 2), .string S] (.string O1)) (c2 : Cb_ 40 #[.string O1, .int .i64 ((o : Int) + 8), .string D] (.string O2)) (w : World) :
    Cw_ 12 #[.string s, .agg #[.int .u32 a, .int .u16 m, .int .u32 b, .int .u16 n], .agg #[.int .u32 c, .int .u16 k, .int .u32 d, .int .u16 l]] (.tuple #[.string O2, .int .i64 0]) w := by
  have hb := get_bt s
  have b0 := bt_nonneg s 0
  have b1 := bt_le s 0
  go_enter Tryz.func12, Tryz.ntmps12
  have B1 := Below.refl w.heap.size w
  go_upto_region 1 with fail
  have A_2 := Box4.make w (.int .u32 a) (.int .u16 m) (.int .u32 b) (.int .u16 n) 39
  have B3 := B1.alloc B1.size (.cells #[.int .u32 a, .int .u16 m, .int .u32 b, .int .u16 n] 39)
  clear B1
  have al := alO_ B3 (.cells #[.int .u32 c, .int .u16 k, .int .u32 d, .int .u16 l] 39)
  have A_4 := A_2.on al
  have hs_ : (w.alloc (.cells #[.int .u32 a, .int .u16 m, .int .u32 b, .int .u16 n] 39)).heap.size = w.heap.size + 1 := by simp
  have B_5 := Box4.make (w.alloc (.cells #[.int .u32 a, .int .u16 m, .int .u32 b, .int .u16 n] 39)) (.int .u32 c) (.int .u16 k) (.int .u32 d) (.int .u16 l) 39
  rw [hs_] at B_5
  clear hs_
  have B6 := B3.trans (al.mono B3.size)
  clear al
  clear A_2 B3
  obtain ⟨u1, hu1⟩ : ∃ x, x = (w.alloc (.cells #[.int .u32 a, .int .u16 m, .int .u32 b, .int .u16 n] 39)).alloc (.cells #[.int .u32 c, .int .u16 k, .int .u32 d, .int .u16 l] 39) := ⟨_, rfl⟩
  rw [← hu1] at A_4 B_5 B6 ⊢
  clear hu1
  have A_l : Box4 u1 w.heap.size (.int .u32 a) (.int .u16 m) (.int .u32 b) (.int .u16 n) := A_4
  have B_l : Box4 u1 (w.heap.size + 1) (.int .u32 c) (.int .u16 k) (.int .u32 d) (.int .u16 l) := B_5
  clear A_4 B_5
  go_wp2_with fail
  refine (ci _).mono ?_; rintro e w1 ⟨rfl, x1⟩
  have A_7 := A_l.on x1
  have B_8 := B_l.on x1
  have B9 := B6.trans (x1.mono B6.size)
  clear A_l B_l B6 x1
  clear ci
  have al := alO_ B9 (.cells #[.int .u8 t0, .int .u32 t1, .int .u16 t2, .int .u32 t3, .int .u16 t4] 33)
  have A_10 := A_7.on al
  have B_11 := B_8.on al
  have T_12 := Box5.make w1 (.int .u8 t0) (.int .u32 t1) (.int .u16 t2) (.int .u32 t3) (.int .u16 t4) 33
  have B13 := B9.trans (al.mono B9.size)
  clear al
  clear A_7 B_8 B9
  obtain ⟨_, a1_0, a1_1, a1_2, a1_3⟩ := id A_10
  go_wp2_with fail
  refine (ca _).mono ?_; rintro e w2 ⟨rfl, x2⟩
  have A_14 := A_10.on x2
  have B_15 := B_11.on x2
  have T_16 := T_12.on x2
  have B17 := B13.trans (x2.mono B13.size)
  clear a1_0 a1_1 a1_2 a1_3 A_10 B_11 T_12 B13 x2
  clear ca
  clear T_16
  go_wp2_with fail
  refine (cm _).mono ?_; rintro e w3 ⟨rfl, x3⟩
  have A_18 := A_14.on x3
  have B_19 := B_15.on x3
  have B20 := B17.trans (x3.mono B17.size)
  clear A_14 B_15 B17 x3
  clear cm
  have al := alO_ B20 (.cells #[.int .u8 m0, .int .u8 m1, .int .u16 m2, .string m3, .string m4] 81)
  have A_21 := A_18.on al
  have B_22 := B_19.on al
  have M_23 := Box5.make w3 (.int .u8 m0) (.int .u8 m1) (.int .u16 m2) (.string m3) (.string m4) 81
  have B24 := B20.trans (al.mono B20.size)
  clear al
  clear A_18 B_19 B20
  obtain ⟨_, m2_0, m2_1, m2_2, m2_3, m2_4⟩ := id M_23
  obtain ⟨_, b3_0, b3_1, b3_2, b3_3⟩ := id B_22
  go_wp2_with fail
  refine (cd _).mono ?_; rintro e w4 ⟨rfl, x4⟩
  have A_25 := A_21.on x4
  have B_26 := B_22.on x4
  have M_27 := M_23.on x4
  have B28 := B24.trans (x4.mono B24.size)
  clear m2_0 m2_1 m2_2 m2_3 m2_4 b3_0 b3_1 b3_2 b3_3 A_21 B_22 M_23 B24 x4
  clear cd
  clear A_25 B_26
  go_wp2_with fail
  obtain ⟨zm, gm0, gm1, gm2, gm3, gm4⟩ := id M_27
  have Fm0 := lat_ gm0 zm
  have Fm1 := lat_ gm1 zm
  have Fm2 := lat_ gm2 zm
  have Fm3 := lat_ gm3 zm
  have Fm4 := lat_ gm4 zm
  clear gm0 gm1 gm2 gm3 gm4
  refine region_later (B := w4.heap.size) (by kernel_rfl) (by kernel_rfl) ?_
  repeat (go_big_quiet_step (first
    | (go_at_call 39; exact later_same _ (cu _))))
  refine later_end fun w5 x5 => ?_
  have M_29 := M_27.on x5
  have B30 := B28.trans (x5.mono B28.size)
  clear Fm0 Fm1 Fm2 Fm3 Fm4 zm M_27 B28 x5
  clear cu
  go_wp2_with fail
  refine (cq _).mono ?_; rintro e w6 ⟨rfl, x6⟩
  have M_31 := M_29.on x6
  have B32 := B30.trans (x6.mono B30.size)
  clear M_29 B30 x6
  go_wp2_with fail
  refine (c1 _).mono ?_; rintro e w7 ⟨rfl, x7⟩
  have M_33 := M_31.on x7
  have B34 := B32.trans (x7.mono B32.size)
  clear M_31 B32 x7
  go_wp2_with fail
  refine (c2 _).mono ?_; rintro e w8 ⟨rfl, x8⟩
  have M_35 := M_33.on x8
  have B36 := B34.trans (x8.mono B34.size)
  clear M_33 B34 x8
  go_wp2
  go_ret2
  exact ⟨rfl, B36⟩
theorem rtranslate10_ (s : ByteArray) (a m b n c k d l : Int) (w : World) (hs : s.size ≤ 1000000) (hc : okC a m b n) (hd : okC c k d l) :
    Cw_ 12 #[.string s, .agg #[.int .u32 a, .int .u16 m, .int .u32 b, .int .u16 n], .agg #[.int .u32 c, .int .u16 k, .int .u32 d, .int .u16 l]] (.tuple #[.string (trB s a m b n c k d l), .int .i64 (trR s)]) w := by
  have ci := fun u => rinner10_ s u hs
  by_cases hi : inR s = 0
  rotate_left
  · have hR : trR s = inR s := by unfold trR; rw [if_neg hi]
    have z : ∀ v, iI s v = 0 := fun v => by unfold iI; rw [if_neg hi]
    rw [z, z, z, z, z] at ci
    rw [show trB s a m b n c k d l = ⟨#[]⟩ by unfold trB; rw [if_neg (by rw [hR]; exact hi)], hR]
    exact tr10_refused s a m b n c k d l (inR s) (by simpa using hi) ci w
  obtain ⟨hsn, hk, hl⟩ := in_zero hi
  rw [hi] at ci
  have ca := fun u => rapply9_ s a m b n u hs hc
  by_cases h8 : bt s 8 < 2
  · have hR : trR s = 8 := by unfold trR; rw [if_pos hi, if_pos h8]
    have hA : rwR s = 8 := by unfold rwR; rw [if_pos hsn, if_pos h8]
    rw [rw_no (by rw [hA]; decide), hA] at ca
    rw [show trB s a m b n c k d l = ⟨#[]⟩ by unfold trB; rw [if_neg (by rw [hR]; decide)], hR]
    exact tr10_ttl s a m b n c k d l _ _ _ _ _ 8 (by decide) ci ca w
  have hR : trR s = 0 := by unfold trR; rw [if_pos hi, if_neg h8]
  have hA := rw_is hsn (show 2 ≤ bt s 8 by omega)
  rw [hA] at ca
  obtain ⟨N, R, T⟩ := tr_facts hR hc hd
  have t1 := (err_kind hsn hk).2.1
  have eZ := (eD_is t1).2
  have E := em_facts hl hd
  have hp := (seen_ip hsn).1
  obtain ⟨f1, f2, f3, f4, f5, f6, f7, f8, f9⟩ := ip_facts hp
  have hm : meR s = 0 := by unfold meR; rw [if_pos hsn, if_pos hk]
  have cm := fun u => rmess10_ s u hs
  obtain ⟨m1, m2⟩ := me_yes hm
  rw [m1, m1, m1, m2, m2, hm] at cm
  have pz : (pP s).size ≤ 1000000 := by rw [(p_yes hp).2.2.2, ByteArray.size_extract]; omega
  have zw := R.sizeW
  have pv : pP (rwB s a m b n) = pP s := by
    obtain ⟨k9, _, qf, _⟩ := err_kind hsn hk
    rw [R.load, k9, ld_err qf]
  have zM := mOk_size t1
  rw [R.own, pv, R.size] at zw
  have vz := R.size
  have nz := R.le
  have cd := fun u => rdata10_ (eD s) c k d l u hl (by omega) hd
  have o60 : ownN s ≤ 60 := by have := bt_le s 0; have := bt_nonneg s 0; unfold ownN; omega
  have e4 : bt s 0 % 16 * 4 = (ownN s : Int) := by have := bt_nonneg s 0; unfold ownN; omega
  have ev1 : evB (eD s) = (eD s).extract 0 (2 * ((eD s).size / 2)) := rfl
  have ev2 : evB (emD (eD s) c k d l) = (emD (eD s) c k d l).extract 0 (2 * ((eD s).size / 2)) := by unfold evB; rw [E.size]
  have bd : 0 ≤ msV s (emD (eD s) c k d l) ∧ msV s (emD (eD s) c k d l) ≤ 65535 := updV_bd _ _ (g16_nonneg _ _) (g16_le _ _)
  have y1 : ((eD s).extract 0 (2 * ((eD s).size / 2))).size ≤ 1000000 := by rw [ByteArray.size_extract]; omega
  have y2 : ((emD (eD s) c k d l).extract 0 (2 * ((eD s).size / 2))).size ≤ 1000000 := by rw [ByteArray.size_extract]; omega
  have cu := fun u => rupdates_ (g16 (pP s) 2) ((eD s).extract 0 (2 * ((eD s).size / 2))) ((emD (eD s) c k d l).extract 0 (2 * ((eD s).size / 2))) u (g16_nonneg _ _) (g16_le _ _) (by unfold maxLen; omega) (by unfold maxLen; omega)
  have ex : updV (g16 (pP s) 2) ((eD s).extract 0 (2 * ((eD s).size / 2))) ((emD (eD s) c k d l).extract 0 (2 * ((eD s).size / 2))) = msV s (emD (eD s) c k d l) := by unfold msV; rw [ev1, ev2]
  rw [ex] at cu
  have zS : (strOfNums (wordL [msV s (emD (eD s) c k d l)])).size = 2 := by rw [size_W]; rfl
  have zD := E.size
  have z1 := size_withB (rwB s a m b n) (ownN s + 2) (strOfNums (wordL [msV s (emD (eD s) c k d l)])) (by omega)
  have eu : trB s a m b n c k d l = withB (withB (rwB s a m b n) (ownN s + 2) (strOfNums (wordL [msV s (emD (eD s) c k d l)]))) (ownN s + 8) (emD (eD s) c k d l) := by unfold trB; rw [if_pos hR]
  rw [eu, hR]
  exact tr10_ok s a m b n c k d l _ _ _ _ _ _ _ _ _ _ (eD s) _ (emD (eD s) c k d l) _ _ _ (ownN s) (2 * ((eD s).size / 2)) (by omega) e4 o60 (by omega) (by omega) (by omega) (by omega) (by omega) ci ca cm cd cu (fun u => rput16 _ u bd.1 bd.2) (fun u => with9_ _ _ _ (ownN s + 2) u (by omega) (by omega) (by omega) (by omega)) (fun u => with9_ _ _ _ (ownN s + 8) u (by omega) (by omega) (by omega) (by omega)) w
/-- An ICMP error of a type, about a packet. -/
def wrM (k : Int) (p : ByteArray) : ByteArray := icP k 1 0 ⟨#[0, 0, 0, 0]⟩ (p.extract 0 (min p.size 548))
def wrB (a b k : Int) (p : ByteArray) : ByteArray := putB 0 0 false 64 1 a b ⟨#[]⟩ (slI (wrM k p))
theorem wrM_size (k : Int) (p : ByteArray) : (wrM k p).size ≤ 600 := by
  have z := size_extract' p 0 (min p.size 548) (Nat.zero_le _) (Nat.min_le_left _ _)
  have h : (⟨#[0, 0, 0, 0]⟩ : ByteArray).size = 4 := rfl
  have z2 : (strOfNums (wordL [256 * k + 1, 0])).size = 4 := by rw [size_W]; rfl
  unfold wrM icP
  rw [if_pos h]
  unfold icB
  rw [ByteArray.size_append, ByteArray.size_append, z, z2, h]
  omega
theorem rwrong10_ (a b k : Int) (s : ByteArray) (w : World) (a0 : 0 ≤ a) (a1 : a ≤ 4294967295) (b0 : 0 ≤ b) (b1 : b ≤ 4294967295) (k0 : 0 ≤ k) (k1 : k ≤ 255) (hs : s.size ≤ 1000000) :
    Cw_ 26 #[.int .u32 a, .int .u32 b, .int .u8 k, .string s] (.string (wrB a b k s)) w := by
  have hmin : ∃ m : Nat, m = min s.size 548 ∧ m ≤ s.size ∧ m ≤ 548 ∧ ∀ W, (Builtin.min_ #[3, 3] 3 #[.int .i64 (s.size : Int), .int .i64 548]).run Tryz.prog W = .ok (.int .i64 (m : Int)) W := by
    by_cases hk : 548 < s.size
    · refine ⟨548, by omega, by omega, by omega, fun W => ?_⟩
      have : (548 : Int) < (s.size : Int) := by omega
      simp [Builtin.min_, Builtin.min2, this]
    · refine ⟨s.size, by omega, by omega, by omega, fun W => ?_⟩
      have : ¬ (548 : Int) < (s.size : Int) := by omega
      simp [Builtin.min_, Builtin.min2, this]
  obtain ⟨m, hm, hm1, hm2, hmin⟩ := hmin
  have zm := wrM_size k s
  have zx := size_extract' s 0 m (Nat.zero_le _) hm1
  have e1 : wrM k s = icP k 1 0 ⟨#[0, 0, 0, 0]⟩ (s.extract 0 m) := by unfold wrM; rw [hm]
  have c7 := fun u => rput7_ k 1 0 ⟨#[0, 0, 0, 0]⟩ (s.extract 0 m) u k0 k1 (by omega) (by omega) (by omega) (by omega) (by decide) (by omega)
  rw [← e1] at c7
  have cs := fun u => rseal7_ (wrM k s) u (by omega)
  have zs := slI_size (wrM k s)
  have c4 := fun u => rput4_ 0 0 false 64 1 a b ⟨#[]⟩ (slI (wrM k s)) u (by omega) (by omega) (by omega) (by omega) (by omega) (by omega) (by omega) (by omega) a0 a1 b0 b1 (by decide) (by unfold maxLen; omega)
  have HV : Hid (wrB a b k s = putB 0 0 false 64 1 a b ⟨#[]⟩ (slI (wrM k s))) := rfl
  have i1 : (m : Int) ≤ (s.size : Int) := by omega
  generalize putB 0 0 false 64 1 a b ⟨#[]⟩ (slI (wrM k s)) = R at *
  generalize putE (⟨#[]⟩ : ByteArray).size (slI (wrM k s)).size = q at *
  generalize slI (wrM k s) = L at *
  generalize wrM k s = M at *
  generalize icE (⟨#[0, 0, 0, 0]⟩ : ByteArray).size = q7 at *
  clear e1 zm zx zs hm hm2
  go_enter Tryz.func26, Tryz.ntmps26
  have B1 := Below.refl w.heap.size w
  go_wp2_with fail
  refine (c7 _).mono ?_; rintro e w1 ⟨rfl, x1⟩
  have B2 := B1.trans (x1.mono B1.size)
  clear B1 x1
  go_wp2_with fail
  refine (cs _).mono ?_; rintro e w2 ⟨rfl, x2⟩
  have B3 := B2.trans (x2.mono B2.size)
  clear B2 x2
  go_wp2_with fail
  refine (c4 _).mono ?_; rintro e w3 ⟨rfl, x3⟩
  have B4 := B3.trans (x3.mono B3.size)
  clear B3 x3
  go_wp2
  go_ret
  rw [HV.out]
  exact ⟨rfl, B4⟩
end Go.Proofs.YtbpicngbjggblaaGreatDoor
