/- Texts of this proof, together: EmbZ, EmbA, EmbX. -/
import Derived.Test.YtbpicngbjggblaaGreatDoorHb
import Derived.Test.YtbpicngbjggblaaGreatDoorGu
import Derived.Test.YtbpicngbjggblaaGreatDoorHf
import Derived.Test.YtbpicngbjggblaaGreatDoorGs
import Derived.Test.YtbpicngbjggblaaGreatDoorEmbU
import Derived.Test.YtbpicngbjggblaaGreatDoorGb
import Derived.BigRegion
import Derived.Deep.DeepCutAuto
namespace Go.Proofs.YtbpicngbjggblaaGreatDoor
set_option linter.unusedVariables false
set_option linter.unusedSimpArgs false
open Go.ChangeShapes Go.WideShapes Go.ChangeAt Go.RowKit Go.PlainAid
attribute [local go_sem ↓] Go.wp_at_zero Go.wp_at_succ
/-- One place of plain: two bytes 255 become 0. -/
def stepB (X Y : ByteArray) (k : Nat) : Prop := (¬ bt X k = 255 ∧ Y = X) ∨ (bt X k = 255 ∧ ¬ bt X (k + 1) = 255 ∧ Y = X) ∨ (bt X k = 255 ∧ bt X (k + 1) = 255 ∧ ∀ j, bt Y j = if j = k + 1 then 0 else if j = k then 0 else bt X j)
set_option maxHeartbeats 4000000 in
set_option maxRecDepth 100000 in
theorem plain10_v (s D Q0 Q1 Q2 Q3 : ByteArray) (os p k1 k2 k3 si : Nat) (w : World) (i0 : (0 : Int) < (s.size : Int)) (f3 : bt s 0 % 16 * 4 = (os : Int)) (HN : Hid (12 ≤ s.size ∧ k1 + 1 < s.size ∧ k2 + 1 < s.size ∧ (0 < si → k3 + 1 < s.size) ∧ k3 ≤ 2000000 ∧ s.size ≤ 1000000 ∧ 12 ≤ k1 ∧ 12 ≤ k2 ∧ 12 ≤ k3))
    (q1 : wrap64 ((os : Int) + 2) = (k1 : Int)) (qp : wrap64 ((os : Int) + 8) = (p : Int)) (q2 : wrap64 ((p : Int) + 10) = (k2 : Int)) (q3 : wrap64 ((p : Int) + (si : Int)) = (k3 : Int))
    (cd : ∀ u : World, Calls Tryz.prog 16 #[.string s] u fun e w' => e = .returned (.string D) ∧ Below u.heap.size u w') (cs : ∀ u : World, Calls Tryz.prog 23 #[.string D] u fun e w' => e = .returned (.int .i64 (si : Int)) ∧ Below u.heap.size u w')
    (H0 : Hid (∀ j, bt Q0 j = if j = 11 then 0 else if j = 10 then 0 else if j = 8 then 0 else bt s j)) (K1 : Hid (stepB Q0 Q1 k1)) (K2 : Hid (stepB Q1 Q2 k2)) (K3 : Hid ((si = 0 ∧ Q3 = Q2) ∨ (0 < si ∧ stepB Q2 Q3 k3))) (Z3 : Hid (Q3.size = s.size)) :
    Calls Tryz.prog 24 #[.string s] w fun e w' => e = .returned (.string Q3) ∧ Below w.heap.size w w' := by
  have hgs := get_bt s
  have b0 := bt_nonneg s 0
  have b1 := bt_le s 0
  have e5 := u8_and15 (bt s 0) b0 b1
  have i8 : (8 : Int) < (s.size : Int) := by have := HN.out; omega
  have i10 : (10 : Int) < (s.size : Int) := by have := HN.out; omega
  have i11 : (11 : Int) < (s.size : Int) := by have := HN.out; omega
  obtain ⟨w1, c, hconv, B1, hlt, HB⟩ := bytes_of_string s w
  have HBB := Lib.hid HB
  obtain ⟨c8, f8⟩ := HB 8 (by have := HN.out; omega)
  obtain ⟨c10, f10⟩ := HB 10 (by have := HN.out; omega)
  obtain ⟨c11, f11⟩ := HB 11 (by have := HN.out; omega)
  clear HB
  go_enter Tryz.func24, Tryz.ntmps24
  go_upto_region 4 with fail
  clear c8 f8 c10 f10 c11 f11 hgs b0 b1 e5 f3 hconv
  have HB3 : Hid (Bts (((w1.setCell ⟨w.heap.size, 8, none⟩ (.int .u8 0)).setCell ⟨w.heap.size, 10, none⟩ (.int .u8 0)).setCell ⟨w.heap.size, 11, none⟩ (.int .u8 0)) w.heap.size s.size (bt Q0)) := (((HBB.out.set 8 0 (by have := HN.out; omega)).set 10 0 (by have := HN.out; omega)).set 11 0 (by have := HN.out; omega)).congr fun j _ => by rw [H0.out j]
  have B3 := ((B1.setCell (p := ⟨w.heap.size, 8, none⟩) (Nat.le_refl _) (.int .u8 0)).setCell (p := ⟨w.heap.size, 10, none⟩) (Nat.le_refl _) (.int .u8 0)).setCell (p := ⟨w.heap.size, 11, none⟩) (Nat.le_refl _) (.int .u8 0)
  have hlt3 : w.heap.size < (((w1.setCell ⟨w.heap.size, 8, none⟩ (.int .u8 0)).setCell ⟨w.heap.size, 10, none⟩ (.int .u8 0)).setCell ⟨w.heap.size, 11, none⟩ (.int .u8 0)).heap.size := by simpa using hlt
  obtain ⟨w3, hw3⟩ : ∃ x, x = ((w1.setCell ⟨w.heap.size, 8, none⟩ (.int .u8 0)).setCell ⟨w.heap.size, 10, none⟩ (.int .u8 0)).setCell ⟨w.heap.size, 11, none⟩ (.int .u8 0) := ⟨_, rfl⟩
  rw [← hw3] at HB3 B3 hlt3 ⊢
  clear hw3 HBB B1 hlt H0
  go_wp2_with fail
  refine (cd _).mono ?_; rintro e w4 ⟨rfl, x4⟩
  go_wp2_with fail
  refine (cs _).mono ?_; rintro e w5 ⟨rfl, x5⟩
  have X := x4.trans (x5.mono x4.size)
  have LA : Hid (w.heap.size < w5.heap.size) := Nat.lt_of_lt_of_le hlt3 X.size
  have HB5 : Hid (Bts w5 w.heap.size s.size (bt Q0)) := fun i hi => ⟨(X.cell (p := ⟨_, i, none⟩) hlt3).trans (HB3.out i hi).1, (X.frozen (p := ⟨_, i, none⟩) hlt3).trans (HB3.out i hi).2⟩
  have B5 := B3.trans (X.mono B3.size)
  clear x4 x5 X HB3 B3 hlt3
  go_upto_region 6 with fail
  have BA := B5.alloc B5.size (.cells #[.int .i64 (k1 : Int), .int .i64 (k2 : Int), .int .i64 (k3 : Int)] 110)
  have HBA : Bts (w5.alloc (.cells #[.int .i64 (k1 : Int), .int .i64 (k2 : Int), .int .i64 (k3 : Int)] 110)) w.heap.size s.size (bt Q0) := fun i hi => ⟨(((Below.refl w5.heap.size w5).alloc (Nat.le_refl _) (.cells #[.int .i64 (k1 : Int), .int .i64 (k2 : Int), .int .i64 (k3 : Int)] 110)).cell (p := ⟨_, i, none⟩) LA.out).trans (HB5.out i hi).1, (((Below.refl w5.heap.size w5).alloc (Nat.le_refl _) (.cells #[.int .i64 (k1 : Int), .int .i64 (k2 : Int), .int .i64 (k3 : Int)] 110)).frozen (p := ⟨_, i, none⟩) LA.out).trans (HB5.out i hi).2⟩
  have CA : (w5.alloc (.cells #[.int .i64 (k1 : Int), .int .i64 (k2 : Int), .int .i64 (k3 : Int)] 110)).cell? ⟨w5.heap.size, 0, none⟩ = some (.int .i64 (k1 : Int)) ∧ (w5.alloc (.cells #[.int .i64 (k1 : Int), .int .i64 (k2 : Int), .int .i64 (k3 : Int)] 110)).cell? ⟨w5.heap.size, 1, none⟩ = some (.int .i64 (k2 : Int)) ∧ (w5.alloc (.cells #[.int .i64 (k1 : Int), .int .i64 (k2 : Int), .int .i64 (k3 : Int)] 110)).cell? ⟨w5.heap.size, 2, none⟩ = some (.int .i64 (k3 : Int)) := ⟨by simp [go_sem], by simp [go_sem], by simp [go_sem]⟩
  obtain ⟨wA, hwA⟩ : ∃ x, x = w5.alloc (.cells #[.int .i64 (k1 : Int), .int .i64 (k2 : Int), .int .i64 (k3 : Int)] 110) := ⟨_, rfl⟩
  have LW : w5.heap.size < wA.heap.size := by rw [hwA]; simp
  rw [← hwA] at BA HBA CA ⊢
  clear hwA B5 HB5 q1 qp q2 q3 cd
  have ne1_ : ¬ w5.heap.size = w.heap.size := by have := LA.out; omega
  have ne2_ : ¬ w.heap.size = w5.heap.size := by have := LA.out; omega
  go_wp2_with fail
  go_loopw [7] (fun si_ wr => (Below w.heap.size w wr ∧ w5.heap.size < wr.heap.size ∧ wr.cell? ⟨w5.heap.size, 0, none⟩ = some (.int .i64 (k1 : Int)) ∧ wr.cell? ⟨w5.heap.size, 1, none⟩ = some (.int .i64 (k2 : Int)) ∧ wr.cell? ⟨w5.heap.size, 2, none⟩ = some (.int .i64 (k3 : Int))) ∧ ((si_ = .int .i64 0 ∧ Bts wr w.heap.size s.size (bt Q0)) ∨ (si_ = .int .i64 1 ∧ Bts wr w.heap.size s.size (bt Q1)) ∨ (si_ = .int .i64 2 ∧ Bts wr w.heap.size s.size (bt Q2)) ∨ (si_ = .int .i64 3 ∧ Bts wr w.heap.size s.size (bt Q3)))) (fun si_ _ => 3 - (intOf si_).toNat)
  case atStart => exact ⟨⟨BA, LW, CA⟩, .inl ⟨rfl, HBA⟩⟩
  case round =>
    clear BA HBA CA LW
    obtain ⟨⟨bb, lw, a0, a1, a2⟩, hrel⟩ := hrel
    rcases hrel with ⟨rfl, HX⟩ | ⟨rfl, HX⟩ | ⟨rfl, HX⟩ | ⟨rfl, HX⟩
    · have K := K1.out
      have g1 : (k1 : Int) + 1 < (s.size : Int) := by have := HN.out; omega
      have g2 : (k1 : Int) < (s.size : Int) := by have := HN.out; omega
      have g3 : wrap64 ((k1 : Int) + 1) = (k1 : Int) + 1 := wrap64_in_ _ (by have := HN.out; omega) (by omega)
      have g5 : decide ((k1 : Int) + 1 < (s.size : Int)) = true := by simp; omega
      have g6 : decide (k1 + 1 < s.size) = true := by simp; omega
      have g7 : ((k1 : Int) + 1).toNat = k1 + 1 := by omega
      obtain ⟨d0, e0⟩ := HX k1 (by omega)
      obtain ⟨d1, e1⟩ := HX (k1 + 1) (by omega)
      have HX := Lib.hid HX
      rcases K with ⟨n0, rfl⟩ | ⟨n0, n1, rfl⟩ | ⟨n0, n1, hj⟩
      · skip
        have m0 : (bt Q1 k1 == 255) = false := by simpa using n0
        clear n0
        go_wp2_with fail
        go_roundw
        case rel => exact ⟨⟨bb, lw, a0, a1, a2⟩, .inr (.inl ⟨rfl, HX.out⟩)⟩
        case measure => simp [intOf]
      · skip
        rw [n0] at d0
        have m1 : (bt Q1 (k1 + 1) == 255) = false := by simpa using n1
        clear n0 n1
        go_wp2_with fail
        go_roundw
        case rel => exact ⟨⟨bb, lw, a0, a1, a2⟩, .inr (.inl ⟨rfl, HX.out⟩)⟩
        case measure => simp [intOf]
      · skip
        rw [n0] at d0
        rw [n1] at d1
        clear n0 n1
        go_upto_region 10 with fail
        go_region
        have HY0 := ((HX.out.set k1 0 (by omega)).set (k1 + 1) 0 (by omega)).congr (g := bt Q1) fun j _ => by rw [hj j]
        have HY : Hid (Bts (((wr.setCell ⟨w.heap.size, k1, none⟩ (.int .u8 0)).setCell ⟨w.heap.size, k1 + 1, none⟩ (.int .u8 0)).drew) w.heap.size s.size (bt Q1)) := fun i hi => ⟨by simpa [go_sem] using (HY0 i hi).1, by simpa using (HY0 i hi).2⟩
        have b9 := ((bb.setCell (p := ⟨w.heap.size, k1, none⟩) (Nat.le_refl _) (.int .u8 0)).setCell (p := ⟨w.heap.size, k1 + 1, none⟩) (Nat.le_refl _) (.int .u8 0)).drew
        have l9 : w5.heap.size < (((wr.setCell ⟨w.heap.size, k1, none⟩ (.int .u8 0)).setCell ⟨w.heap.size, k1 + 1, none⟩ (.int .u8 0)).drew).heap.size := by simpa using lw
        have h0 : (((wr.setCell ⟨w.heap.size, k1, none⟩ (.int .u8 0)).setCell ⟨w.heap.size, k1 + 1, none⟩ (.int .u8 0)).drew).cell? ⟨w5.heap.size, 0, none⟩ = some (.int .i64 (k1 : Int)) := by simp [go_sem, a0, ne1_, ne2_]
        have h1 : (((wr.setCell ⟨w.heap.size, k1, none⟩ (.int .u8 0)).setCell ⟨w.heap.size, k1 + 1, none⟩ (.int .u8 0)).drew).cell? ⟨w5.heap.size, 1, none⟩ = some (.int .i64 (k2 : Int)) := by simp [go_sem, a1, ne1_, ne2_]
        have h2 : (((wr.setCell ⟨w.heap.size, k1, none⟩ (.int .u8 0)).setCell ⟨w.heap.size, k1 + 1, none⟩ (.int .u8 0)).drew).cell? ⟨w5.heap.size, 2, none⟩ = some (.int .i64 (k3 : Int)) := by simp [go_sem, a2, ne1_, ne2_]
        obtain ⟨wz, hwz⟩ : ∃ x, x = ((wr.setCell ⟨w.heap.size, k1, none⟩ (.int .u8 0)).setCell ⟨w.heap.size, k1 + 1, none⟩ (.int .u8 0)).drew := ⟨_, rfl⟩
        rw [← hwz] at HY b9 l9 h0 h1 h2 ⊢
        clear hwz HX HY0 bb lw a0 a1 a2 d0 d1 e0 e1 hj
        go_wp2_with fail
        go_roundw
        case rel => exact ⟨⟨b9, l9, h0, h1, h2⟩, .inr (.inl ⟨rfl, HY.out⟩)⟩
        case measure => simp [intOf]
    · have K := K2.out
      have g1 : (k2 : Int) + 1 < (s.size : Int) := by have := HN.out; omega
      have g2 : (k2 : Int) < (s.size : Int) := by have := HN.out; omega
      have g3 : wrap64 ((k2 : Int) + 1) = (k2 : Int) + 1 := wrap64_in_ _ (by have := HN.out; omega) (by omega)
      have g5 : decide ((k2 : Int) + 1 < (s.size : Int)) = true := by simp; omega
      have g6 : decide (k2 + 1 < s.size) = true := by simp; omega
      have g7 : ((k2 : Int) + 1).toNat = k2 + 1 := by omega
      obtain ⟨d0, e0⟩ := HX k2 (by omega)
      obtain ⟨d1, e1⟩ := HX (k2 + 1) (by omega)
      have HX := Lib.hid HX
      rcases K with ⟨n0, rfl⟩ | ⟨n0, n1, rfl⟩ | ⟨n0, n1, hj⟩
      · skip
        have m0 : (bt Q2 k2 == 255) = false := by simpa using n0
        clear n0
        go_wp2_with fail
        go_roundw
        case rel => exact ⟨⟨bb, lw, a0, a1, a2⟩, .inr (.inr (.inl ⟨rfl, HX.out⟩))⟩
        case measure => simp [intOf]
      · skip
        rw [n0] at d0
        have m1 : (bt Q2 (k2 + 1) == 255) = false := by simpa using n1
        clear n0 n1
        go_wp2_with fail
        go_roundw
        case rel => exact ⟨⟨bb, lw, a0, a1, a2⟩, .inr (.inr (.inl ⟨rfl, HX.out⟩))⟩
        case measure => simp [intOf]
      · skip
        rw [n0] at d0
        rw [n1] at d1
        clear n0 n1
        go_upto_region 10 with fail
        go_region
        have HY0 := ((HX.out.set k2 0 (by omega)).set (k2 + 1) 0 (by omega)).congr (g := bt Q2) fun j _ => by rw [hj j]
        have HY : Hid (Bts (((wr.setCell ⟨w.heap.size, k2, none⟩ (.int .u8 0)).setCell ⟨w.heap.size, k2 + 1, none⟩ (.int .u8 0)).drew) w.heap.size s.size (bt Q2)) := fun i hi => ⟨by simpa [go_sem] using (HY0 i hi).1, by simpa using (HY0 i hi).2⟩
        have b9 := ((bb.setCell (p := ⟨w.heap.size, k2, none⟩) (Nat.le_refl _) (.int .u8 0)).setCell (p := ⟨w.heap.size, k2 + 1, none⟩) (Nat.le_refl _) (.int .u8 0)).drew
        have l9 : w5.heap.size < (((wr.setCell ⟨w.heap.size, k2, none⟩ (.int .u8 0)).setCell ⟨w.heap.size, k2 + 1, none⟩ (.int .u8 0)).drew).heap.size := by simpa using lw
        have h0 : (((wr.setCell ⟨w.heap.size, k2, none⟩ (.int .u8 0)).setCell ⟨w.heap.size, k2 + 1, none⟩ (.int .u8 0)).drew).cell? ⟨w5.heap.size, 0, none⟩ = some (.int .i64 (k1 : Int)) := by simp [go_sem, a0, ne1_, ne2_]
        have h1 : (((wr.setCell ⟨w.heap.size, k2, none⟩ (.int .u8 0)).setCell ⟨w.heap.size, k2 + 1, none⟩ (.int .u8 0)).drew).cell? ⟨w5.heap.size, 1, none⟩ = some (.int .i64 (k2 : Int)) := by simp [go_sem, a1, ne1_, ne2_]
        have h2 : (((wr.setCell ⟨w.heap.size, k2, none⟩ (.int .u8 0)).setCell ⟨w.heap.size, k2 + 1, none⟩ (.int .u8 0)).drew).cell? ⟨w5.heap.size, 2, none⟩ = some (.int .i64 (k3 : Int)) := by simp [go_sem, a2, ne1_, ne2_]
        obtain ⟨wz, hwz⟩ : ∃ x, x = ((wr.setCell ⟨w.heap.size, k2, none⟩ (.int .u8 0)).setCell ⟨w.heap.size, k2 + 1, none⟩ (.int .u8 0)).drew := ⟨_, rfl⟩
        rw [← hwz] at HY b9 l9 h0 h1 h2 ⊢
        clear hwz HX HY0 bb lw a0 a1 a2 d0 d1 e0 e1 hj
        go_wp2_with fail
        go_roundw
        case rel => exact ⟨⟨b9, l9, h0, h1, h2⟩, .inr (.inr (.inl ⟨rfl, HY.out⟩))⟩
        case measure => simp [intOf]
    · rcases K3.out with ⟨s0, rfl⟩ | ⟨sp, K⟩
      · have sz_ : decide ((0 : Int) < (si : Int)) = false := by simp; omega
        have sy_ : decide (0 < si) = false := by simp; omega
        clear s0
        go_wp2_with fail
        refine (cs _).mono ?_; rintro e w6 ⟨rfl, x6⟩
        have HX6 : Bts w6 w.heap.size s.size (bt Q3) := fun i hi => ⟨(x6.cell (p := ⟨_, i, none⟩) (Nat.lt_trans LA.out lw)).trans (HX i hi).1, (x6.frozen (p := ⟨_, i, none⟩) (Nat.lt_trans LA.out lw)).trans (HX i hi).2⟩
        have c0_ := (x6.cell (p := ⟨w5.heap.size, 0, none⟩) lw).trans a0
        have c1_ := (x6.cell (p := ⟨w5.heap.size, 1, none⟩) lw).trans a1
        have c2_ := (x6.cell (p := ⟨w5.heap.size, 2, none⟩) lw).trans a2
        have b6 := bb.trans (x6.mono bb.size)
        have l6 := Nat.lt_of_lt_of_le lw x6.size
        clear HX a0 a1 a2 bb lw x6
        have HX6 := Lib.hid HX6
        go_wp2_with fail
        go_roundw
        case rel => exact ⟨⟨b6, l6, c0_, c1_, c2_⟩, .inr (.inr (.inr ⟨rfl, HX6.out⟩))⟩
        case measure => simp [intOf]
      have sz_ : decide ((0 : Int) < (si : Int)) = true := by simp; omega
      have sy_ : decide (0 < si) = true := by simp; omega
      have g1 : (k3 : Int) + 1 < (s.size : Int) := by have := HN.out; have := HN.out.2.2.2.1 sp; omega
      have g2 : (k3 : Int) < (s.size : Int) := by have := HN.out; have := HN.out.2.2.2.1 sp; omega
      have g3 : wrap64 ((k3 : Int) + 1) = (k3 : Int) + 1 := wrap64_in_ _ (by have := HN.out; omega) (by omega)
      have g5 : decide ((k3 : Int) + 1 < (s.size : Int)) = true := by simp; omega
      have g6 : decide (k3 + 1 < s.size) = true := by simp; omega
      have g7 : ((k3 : Int) + 1).toNat = k3 + 1 := by omega
      obtain ⟨d0, e0⟩ := HX k3 (by omega)
      obtain ⟨d1, e1⟩ := HX (k3 + 1) (by omega)
      have HX := Lib.hid HX
      rcases K with ⟨n0, rfl⟩ | ⟨n0, n1, rfl⟩ | ⟨n0, n1, hj⟩
      · skip
        go_wp2_with fail
        refine (cs _).mono ?_; rintro e w6 ⟨rfl, x6⟩
        have HX : Hid (Bts w6 w.heap.size s.size (bt Q3)) := fun i hi => ⟨(x6.cell (p := ⟨_, i, none⟩) (Nat.lt_trans LA.out lw)).trans (HX.out i hi).1, (x6.frozen (p := ⟨_, i, none⟩) (Nat.lt_trans LA.out lw)).trans (HX.out i hi).2⟩
        have d0 := (x6.cell (p := ⟨w.heap.size, k3, none⟩) (Nat.lt_trans LA.out lw)).trans d0
        have d1 := (x6.cell (p := ⟨w.heap.size, k3 + 1, none⟩) (Nat.lt_trans LA.out lw)).trans d1
        have e0 := (x6.frozen (p := ⟨w.heap.size, k3, none⟩) (Nat.lt_trans LA.out lw)).trans e0
        have e1 := (x6.frozen (p := ⟨w.heap.size, k3 + 1, none⟩) (Nat.lt_trans LA.out lw)).trans e1
        have a0 := (x6.cell (p := ⟨w5.heap.size, 0, none⟩) lw).trans a0
        have a1 := (x6.cell (p := ⟨w5.heap.size, 1, none⟩) lw).trans a1
        have a2 := (x6.cell (p := ⟨w5.heap.size, 2, none⟩) lw).trans a2
        have bb := bb.trans (x6.mono bb.size)
        have lw := Nat.lt_of_lt_of_le lw x6.size
        clear x6
        have m0 : (bt Q3 k3 == 255) = false := by simpa using n0
        clear n0
        go_wp2_with fail
        go_roundw
        case rel => exact ⟨⟨bb, lw, a0, a1, a2⟩, .inr (.inr (.inr ⟨rfl, HX.out⟩))⟩
        case measure => simp [intOf]
      · skip
        go_wp2_with fail
        refine (cs _).mono ?_; rintro e w6 ⟨rfl, x6⟩
        have HX : Hid (Bts w6 w.heap.size s.size (bt Q3)) := fun i hi => ⟨(x6.cell (p := ⟨_, i, none⟩) (Nat.lt_trans LA.out lw)).trans (HX.out i hi).1, (x6.frozen (p := ⟨_, i, none⟩) (Nat.lt_trans LA.out lw)).trans (HX.out i hi).2⟩
        have d0 := (x6.cell (p := ⟨w.heap.size, k3, none⟩) (Nat.lt_trans LA.out lw)).trans d0
        have d1 := (x6.cell (p := ⟨w.heap.size, k3 + 1, none⟩) (Nat.lt_trans LA.out lw)).trans d1
        have e0 := (x6.frozen (p := ⟨w.heap.size, k3, none⟩) (Nat.lt_trans LA.out lw)).trans e0
        have e1 := (x6.frozen (p := ⟨w.heap.size, k3 + 1, none⟩) (Nat.lt_trans LA.out lw)).trans e1
        have a0 := (x6.cell (p := ⟨w5.heap.size, 0, none⟩) lw).trans a0
        have a1 := (x6.cell (p := ⟨w5.heap.size, 1, none⟩) lw).trans a1
        have a2 := (x6.cell (p := ⟨w5.heap.size, 2, none⟩) lw).trans a2
        have bb := bb.trans (x6.mono bb.size)
        have lw := Nat.lt_of_lt_of_le lw x6.size
        clear x6
        rw [n0] at d0
        have m1 : (bt Q3 (k3 + 1) == 255) = false := by simpa using n1
        clear n0 n1
        go_wp2_with fail
        go_roundw
        case rel => exact ⟨⟨bb, lw, a0, a1, a2⟩, .inr (.inr (.inr ⟨rfl, HX.out⟩))⟩
        case measure => simp [intOf]
      · skip
        go_wp2_with fail
        refine (cs _).mono ?_; rintro e w6 ⟨rfl, x6⟩
        have HX : Hid (Bts w6 w.heap.size s.size (bt Q2)) := fun i hi => ⟨(x6.cell (p := ⟨_, i, none⟩) (Nat.lt_trans LA.out lw)).trans (HX.out i hi).1, (x6.frozen (p := ⟨_, i, none⟩) (Nat.lt_trans LA.out lw)).trans (HX.out i hi).2⟩
        have d0 := (x6.cell (p := ⟨w.heap.size, k3, none⟩) (Nat.lt_trans LA.out lw)).trans d0
        have d1 := (x6.cell (p := ⟨w.heap.size, k3 + 1, none⟩) (Nat.lt_trans LA.out lw)).trans d1
        have e0 := (x6.frozen (p := ⟨w.heap.size, k3, none⟩) (Nat.lt_trans LA.out lw)).trans e0
        have e1 := (x6.frozen (p := ⟨w.heap.size, k3 + 1, none⟩) (Nat.lt_trans LA.out lw)).trans e1
        have a0 := (x6.cell (p := ⟨w5.heap.size, 0, none⟩) lw).trans a0
        have a1 := (x6.cell (p := ⟨w5.heap.size, 1, none⟩) lw).trans a1
        have a2 := (x6.cell (p := ⟨w5.heap.size, 2, none⟩) lw).trans a2
        have bb := bb.trans (x6.mono bb.size)
        have lw := Nat.lt_of_lt_of_le lw x6.size
        clear x6
        rw [n0] at d0
        rw [n1] at d1
        clear n0 n1
        go_upto_region 10 with fail
        go_region
        have HY0 := ((HX.out.set k3 0 (by omega)).set (k3 + 1) 0 (by omega)).congr (g := bt Q3) fun j _ => by rw [hj j]
        have HY : Hid (Bts (((w6.setCell ⟨w.heap.size, k3, none⟩ (.int .u8 0)).setCell ⟨w.heap.size, k3 + 1, none⟩ (.int .u8 0)).drew) w.heap.size s.size (bt Q3)) := fun i hi => ⟨by simpa [go_sem] using (HY0 i hi).1, by simpa using (HY0 i hi).2⟩
        have b9 := ((bb.setCell (p := ⟨w.heap.size, k3, none⟩) (Nat.le_refl _) (.int .u8 0)).setCell (p := ⟨w.heap.size, k3 + 1, none⟩) (Nat.le_refl _) (.int .u8 0)).drew
        have l9 : w5.heap.size < (((w6.setCell ⟨w.heap.size, k3, none⟩ (.int .u8 0)).setCell ⟨w.heap.size, k3 + 1, none⟩ (.int .u8 0)).drew).heap.size := by simpa using lw
        have h0 : (((w6.setCell ⟨w.heap.size, k3, none⟩ (.int .u8 0)).setCell ⟨w.heap.size, k3 + 1, none⟩ (.int .u8 0)).drew).cell? ⟨w5.heap.size, 0, none⟩ = some (.int .i64 (k1 : Int)) := by simp [go_sem, a0, ne1_, ne2_]
        have h1 : (((w6.setCell ⟨w.heap.size, k3, none⟩ (.int .u8 0)).setCell ⟨w.heap.size, k3 + 1, none⟩ (.int .u8 0)).drew).cell? ⟨w5.heap.size, 1, none⟩ = some (.int .i64 (k2 : Int)) := by simp [go_sem, a1, ne1_, ne2_]
        have h2 : (((w6.setCell ⟨w.heap.size, k3, none⟩ (.int .u8 0)).setCell ⟨w.heap.size, k3 + 1, none⟩ (.int .u8 0)).drew).cell? ⟨w5.heap.size, 2, none⟩ = some (.int .i64 (k3 : Int)) := by simp [go_sem, a2, ne1_, ne2_]
        obtain ⟨wz, hwz⟩ : ∃ x, x = ((w6.setCell ⟨w.heap.size, k3, none⟩ (.int .u8 0)).setCell ⟨w.heap.size, k3 + 1, none⟩ (.int .u8 0)).drew := ⟨_, rfl⟩
        rw [← hwz] at HY b9 l9 h0 h1 h2 ⊢
        clear hwz HX HY0 bb lw a0 a1 a2 d0 d1 e0 e1 hj
        go_wp2_with fail
        go_roundw
        case rel => exact ⟨⟨b9, l9, h0, h1, h2⟩, .inr (.inr (.inr ⟨rfl, HY.out⟩))⟩
        case measure => simp [intOf]
    · have hv := conv_bts (c := c) HX Z3.out
      clear HX a0 a1 a2 lw
      go_wp2
      go_ret
      exact ⟨rfl, bb⟩
end Go.Proofs.YtbpicngbjggblaaGreatDoor

namespace Go.Proofs.YtbpicngbjggblaaGreatDoor
set_option linter.unusedVariables false
set_option linter.unusedSimpArgs false
open Go.ChangeShapes Go.WideShapes Go.ChangeAt Go.RowKit Go.PlainAid
def wz (X : ByteArray) (k : Nat) : ByteArray := if bt X k = 255 ∧ bt X (k + 1) = 255 then withB X k (strOfNums (wordL [0])) else X
theorem wz_size {X : ByteArray} {k : Nat} (h : k + 2 ≤ X.size) : (wz X k).size = X.size := by
  unfold wz
  split
  · exact size_withW X [0] k (by simpa using h)
  · rfl
theorem wz_step {X : ByteArray} {k : Nat} (h : k + 2 ≤ X.size) : stepB X (wz X k) k := by
  unfold stepB wz
  by_cases h0 : bt X k = 255
  · by_cases h1 : bt X (k + 1) = 255
    · right; right
      rw [if_pos ⟨h0, h1⟩]
      exact ⟨h0, h1, fun j => plB1_bt h j⟩
    · right; left
      rw [if_neg (fun e => h1 e.2)]
      exact ⟨h0, h1, rfl⟩
  · left
    rw [if_neg (fun e => h0 e.1)]
    exact ⟨h0, rfl⟩
theorem wz_word {X : ByteArray} {q : Nat} (h : 2 * q + 2 ≤ X.size) (j : Nat) : g16 (wz X (2 * q)) (2 * j) = if j = q then pw (g16 X (2 * q)) else g16 X (2 * j) := by
  have a0 := bt_nonneg X (2 * q); have a1 := bt_le X (2 * q); have a2 := bt_nonneg X (2 * q + 1); have a3 := bt_le X (2 * q + 1)
  unfold wz
  by_cases c : bt X (2 * q) = 255 ∧ bt X (2 * q + 1) = 255
  · rw [if_pos c, g16_with X [0] q j (by decide) (by simpa using h)]
    by_cases e : j = q
    · subst e
      rw [if_pos (by simp), if_pos rfl]
      unfold pw g16
      rw [c.1, c.2]
      simp
    · rw [if_neg (by simp only [List.length_cons, List.length_nil]; omega), if_neg e]
  · rw [if_neg c]
    by_cases e : j = q
    · subst e
      rw [if_pos rfl]
      unfold pw g16
      rw [if_neg (by omega)]
    · rw [if_neg e]
def plE2 (s : ByteArray) : ByteArray := wz (wz (plB0 s) (ownN s + 2)) (ownN s + 18)
def plE (s : ByteArray) : ByteArray := if 0 < siD (eD s) then wz (plE2 s) (ownN s + 8 + siD (eD s)) else plE2 s
/-- What plain asks of an error. -/
structure ErrZ (s : ByteArray) : Prop where
  own0 : 20 ≤ ownN s
  own1 : ownN s ≤ 60
  size : s.size = ownN s + 8 + (eD s).size
  size1 : s.size ≤ 1000000
  data : 28 ≤ (eD s).size
  si : siD (eD s) % 2 = 0 ∧ (siD (eD s) = 0 ∨ (22 ≤ siD (eD s) ∧ siD (eD s) + 2 ≤ (eD s).size))
theorem plE2_size {s : ByteArray} (h : ErrZ s) : (plE2 s).size = s.size := by
  have h1 := h.own0; have h2 := h.own1; have h3 := h.size; have h4 := h.data
  have z := plB0_size (s := s) (by omega)
  unfold plE2
  rw [wz_size (by rw [wz_size (by omega)]; omega), wz_size (by omega), z]
theorem plE_size {s : ByteArray} (h : ErrZ s) : (plE s).size = s.size := by
  have h1 := h.own0; have h2 := h.own1; have h3 := h.size; have h4 := h.data; have h5 := h.si
  have z := plE2_size h
  unfold plE
  split
  · rw [wz_size (by omega), z]
  · exact z
theorem plE_word {s : ByteArray} (h : ErrZ s) (j : Nat) : g16 (plE s) (2 * j) = if j = 5 then 0 else if j = 4 then bt s 9 else if 2 * j = ownN s + 2 ∨ 2 * j = ownN s + 18 ∨ (0 < siD (eD s) ∧ 2 * j = ownN s + 8 + siD (eD s)) then pw (g16 s (2 * j)) else g16 s (2 * j) := by
  have h1 := h.own0; have h2 := h.own1; have h3 := h.size; have h4 := h.data; have h5 := h.si
  have o4 := ownN_four s
  have z := plB0_size (s := s) (by omega)
  have z2 := plE2_size h
  have W0 := fun i => plB0_word (s := s) (by omega) i
  obtain ⟨q1, e1⟩ : ∃ q, ownN s + 2 = 2 * q := ⟨ownN s / 2 + 1, by omega⟩
  obtain ⟨q2, e2⟩ : ∃ q, ownN s + 18 = 2 * q := ⟨ownN s / 2 + 9, by omega⟩
  obtain ⟨q3, e3⟩ : ∃ q, ownN s + 8 + siD (eD s) = 2 * q := ⟨(ownN s + 8 + siD (eD s)) / 2, by omega⟩
  have W1 : ∀ i, g16 (wz (plB0 s) (ownN s + 2)) (2 * i) = if i = q1 then pw (g16 (plB0 s) (2 * q1)) else g16 (plB0 s) (2 * i) := fun i => by rw [e1]; exact wz_word (by omega) i
  have W2 : ∀ i, g16 (plE2 s) (2 * i) = if i = q2 then pw (g16 (wz (plB0 s) (ownN s + 2)) (2 * q2)) else g16 (wz (plB0 s) (ownN s + 2)) (2 * i) := fun i => by
    unfold plE2
    rw [e2]
    exact wz_word (by rw [wz_size (by omega)]; omega) i
  have W3 : ∀ i, g16 (plE s) (2 * i) = if 0 < siD (eD s) ∧ i = q3 then pw (g16 (plE2 s) (2 * q3)) else g16 (plE2 s) (2 * i) := fun i => by
    unfold plE
    by_cases c : 0 < siD (eD s)
    · rw [if_pos c, e3, wz_word (by omega) i]
      by_cases d : i = q3
      · rw [if_pos d, if_pos ⟨c, d⟩]
      · rw [if_neg d, if_neg (fun e => d e.2)]
    · rw [if_neg c, if_neg (fun e => c e.1)]
  rw [W3]
  by_cases c3 : 0 < siD (eD s) ∧ j = q3
  · obtain ⟨c, rfl⟩ := c3
    rw [if_pos ⟨c, rfl⟩, W2, if_neg (by omega), W1, if_neg (by omega), W0, if_neg (by omega), if_neg (by omega), if_neg (by omega), if_neg (by omega), if_pos (by omega)]
  rw [if_neg c3, W2]
  by_cases c2 : j = q2
  · subst c2
    rw [if_pos rfl, W1, if_neg (by omega), W0, if_neg (by omega), if_neg (by omega), if_neg (by omega), if_neg (by omega), if_pos (by omega)]
  rw [if_neg c2, W1]
  by_cases c1 : j = q1
  · subst c1
    rw [if_pos rfl, W0, if_neg (by omega), if_neg (by omega), if_neg (by omega), if_neg (by omega), if_pos (by omega)]
  rw [if_neg c1, W0]
  by_cases c5 : j = 5
  · rw [if_pos c5, if_pos c5]
  rw [if_neg c5, if_neg c5]
  by_cases c4 : j = 4
  · rw [if_pos c4, if_pos c4]
  rw [if_neg c4, if_neg c4, if_neg (by omega)]
/-- Two errors that are alike. -/
theorem plE_eq {v t : ByteArray} (hv : ErrZ v) (ht : ErrZ t) (z : v.size = t.size) (o : ownN v = ownN t) (s : siD (eD v) = siD (eD t)) (b9 : bt v 9 = bt t 9)
    (hw : ∀ j, ¬ j = 4 → ¬ j = 5 → ¬ (2 * j = ownN t + 2 ∨ 2 * j = ownN t + 18 ∨ (0 < siD (eD t) ∧ 2 * j = ownN t + 8 + siD (eD t))) → g16 v (2 * j) = g16 t (2 * j))
    (hp : ∀ j, (2 * j = ownN t + 2 ∨ 2 * j = ownN t + 18 ∨ (0 < siD (eD t) ∧ 2 * j = ownN t + 8 + siD (eD t))) → pw (g16 v (2 * j)) = pw (g16 t (2 * j))) : plE v = plE t := by
  refine ba_w (by rw [plE_size hv, plE_size ht, z]) fun j _ => ?_
  rw [plE_word hv, plE_word ht, o, s]
  by_cases c5 : j = 5
  · rw [if_pos c5, if_pos c5]
  rw [if_neg c5, if_neg c5]
  by_cases c4 : j = 4
  · rw [if_pos c4, if_pos c4, b9]
  rw [if_neg c4, if_neg c4]
  by_cases c : 2 * j = ownN t + 2 ∨ 2 * j = ownN t + 18 ∨ (0 < siD (eD t) ∧ 2 * j = ownN t + 8 + siD (eD t))
  · rw [if_pos c, if_pos c]; exact hp j c
  · rw [if_neg c, if_neg c]; exact hw j c4 c5 c
theorem si_ekq {D : ByteArray} (h : lkR D = 0) : (ekq (bt D 9) (inL D) = 0 ∧ siD D = 0) ∨ (0 < ekq (bt D 9) (inL D) ∧ siD D = ownN D + 2 * ekq (bt D 9) (inL D)) := by
  obtain ⟨h0, h1, h2, h3, h4, h5⟩ := lk_zero h
  have zL := inL_size (D := D) (by omega)
  unfold ekq
  rcases h5 with k | k | k
  · have s6 := si_6 k
    rw [if_neg (by omega), if_pos k]
    by_cases z : ownN D + 18 ≤ D.size
    · rw [if_pos z] at s6; rw [if_pos (by omega)]; omega
    · rw [if_neg z] at s6; rw [if_neg (by omega)]; omega
  · have := si_17 k
    rw [if_pos k]; omega
  · have := si_1 k.1
    have := k.1
    rw [if_neg (by omega), if_neg (by omega)]; omega
theorem si_like {D Y : ByteArray} (h9 : bt Y 9 = bt D 9) (ho : ownN Y = ownN D) (hz : Y.size = D.size) : siD Y = siD D := by unfold siD; rw [h9, ho, hz]
theorem okC_back {s : ByteArray} : okC (g32 s 12) (oM (bt s 9) (pP s)) (g32 s 16) (oN (bt s 9) (pP s)) := by
  have hq := okC_of s
  have i := idM_bd (mR (pP s))
  have a1 := g16_nonneg (pP s) 0
  have a2 := g16_le (pP s) 0
  have a3 := g16_nonneg (pP s) 2
  have a4 := g16_le (pP s) 2
  refine ⟨hq.1, hq.2.1, ?_, ?_, hq.2.2.2.2.1, hq.2.2.2.2.2.1, ?_, ?_⟩
  · unfold oM; split
    · split <;> omega
    · omega
  · unfold oM; split
    · split <;> omega
    · omega
  · unfold oN; split
    · split <;> omega
    · omega
  · unfold oN; split
    · split <;> omega
    · omega
structure BackF (s u v : ByteArray) (N : Nat) : Prop where
  le : N ≤ s.size
  size : v.size = N
  n36 : 36 ≤ N
  b8 : bt v 8 = bt s 8 - 2
  dz : (eD v).size = (eD s).size
  zv : ErrZ v
  zs : ErrZ (s.extract 0 N)
  plain : plE v = plE (s.extract 0 N)
theorem tr_back {s : ByteArray} (h : trR s = 0) (hs : s.size ≤ 1000000) {a m b n c k d l : Int} (hc : okC a m b n) (hd : okC c k d l) {u : ByteArray} (hu : trB s a m b n c k d l = u) (hr : trR u = 0) {v : ByteArray}
    (hv : trB u (g32 s 12) (oM (bt s 9) (pP s)) (g32 s 16) (oN (bt s 9) (pP s)) (g32 (eD s) 12) (inM (eD s)) (g32 (eD s) 16) (inN (eD s)) = v) : ∃ N, BackF s u v N := by
  obtain ⟨N, R, T⟩ := tr_facts h hc hd
  obtain ⟨hi, h8⟩ := tr_zero h
  obtain ⟨hs0, hk, hl⟩ := in_zero hi
  obtain ⟨k9, tm, qf, er⟩ := err_kind hs0 hk
  rw [hu] at T
  have hk' := okC_in (eD s)
  have Da := emD_back hl hd
  have E := em_facts hl hd
  have E' := em_facts E.look hk'
  have t1 := tot_em hl hd (g16 (pP s) 2)
  have t2 := tot_em E.look hk' (g16 (pP u) 2)
  obtain ⟨N', R', T'⟩ := tr_facts hr okC_back hk'
  rw [hv, T.data] at T'
  obtain ⟨k9', tm', qf', _⟩ := err_kind T.seen T.kind
  obtain ⟨l0, l1, l2, l3, l4, l5⟩ := lk_zero hl
  have eN : N' = N := by have h1 := R'.len; have h2 := T.len; omega
  subst eN
  have o0 := R.own0
  have o1 := R.own1
  have o4 := R.own4
  have o60 : ownN s ≤ 60 := by have := bt_le s 0; have := bt_nonneg s 0; unfold ownN; omega
  have ou := T.own
  have ov : ownN v = ownN s := T'.own.trans ou
  obtain ⟨hp, _⟩ := seen_ip hs0
  obtain ⟨y1, y2, y3, y4, y5, y6, y7, y8⟩ := ip_all hp N' R.len
  have z0 := size_extract' s 0 N' (Nat.zero_le _) y1
  rw [Nat.sub_zero] at z0
  have be : ∀ i, i < N' → bt (s.extract 0 N') i = bt s i := fun i hi => bt_ext0 s N' i hi y1
  have ge : ∀ i, i + 1 < N' → g16 (s.extract 0 N') i = g16 s i := fun i hi => g16_ext0 s N' i hi y1
  have os : ownN (s.extract 0 N') = ownN s := by unfold ownN; rw [be 0 (by omega)]
  have eS : eD (s.extract 0 N') = eD s := by unfold eD; rw [y8]
  have pz : (pP s).size = N' - ownN s := by
    rw [(p_yes hp).2.2.2, R.len, Int.toNat_natCast]
    exact size_extract' s (ownN s) N' (by omega) (by omega)
  have mz := mOk_size tm
  obtain ⟨dE, dZ⟩ := eD_is tm
  have sY : ∀ Y, bt Y 9 = bt (eD s) 9 → ownN Y = ownN (eD s) → Y.size = (eD s).size → siD Y = siD (eD s) := fun Y h1 h2 h3 => si_like h1 h2 h3
  have ek := si_ekq hl
  have si2 : siD (eD s) % 2 = 0 ∧ (siD (eD s) = 0 ∨ (22 ≤ siD (eD s) ∧ siD (eD s) + 2 ≤ (eD s).size)) := by
    have d4 := ownN_four (eD s)
    rcases ek with ⟨_, e⟩ | ⟨e1, e2⟩
    · omega
    · have := (si_in hl (by omega)).1
      omega
  have dv : eD v = emD (emD (eD s) c k d l) (g32 (eD s) 12) (inM (eD s)) (g32 (eD s) 16) (inN (eD s)) := T'.data
  have siV : siD (eD v) = siD (eD s) := by rw [dv]; exact sY _ (E'.b9.trans E.b9) (E'.own.trans E.own) (E'.size.trans E.size)
  have zV : (eD v).size = (eD s).size := by rw [dv]; exact E'.size.trans E.size
  have Zv : ErrZ v := ⟨by omega, by omega, by rw [T'.size, ov, zV]; omega, by rw [T'.size]; omega, by omega, by rw [siV, zV]; exact si2⟩
  have Zs : ErrZ (s.extract 0 N') := ⟨by omega, by omega, by rw [z0, os, eS]; omega, by omega, by rw [eS]; omega, by rw [eS]; exact si2⟩
  -- words
  have lo : ∀ i, i + 1 < ownN s + 2 → g16 v i = g16 (rwB u (g32 s 12) (oM (bt s 9) (pP s)) (g32 s 16) (oN (bt s 9) (pP s))) i := fun i hi => by unfold g16; rw [T'.low i (by omega), T'.low (i + 1) (by omega)]
  have lo1 : ∀ i, i + 1 < ownN s + 2 → g16 u i = g16 (rwB s a m b n) i := fun i hi => by unfold g16; rw [T.low i (by omega), T.low (i + 1) (by omega)]
  have wl : ∀ i, g16 (rwB s a m b n) (ownN s + 2 * i) = g16 (pP s) (2 * i) := fun i => by rw [R.wload i, k9, ld_err qf]
  have wu : ∀ i, g16 u (ownN s + 2 * i) = g16 (pP u) (2 * i) := fun i => by have := g16_load T.ip T.len T.size i; rw [ou] at this; exact this
  have wl' : ∀ i, g16 (rwB u (g32 s 12) (oM (bt s 9) (pP s)) (g32 s 16) (oN (bt s 9) (pP s))) (ownN s + 2 * i) = g16 u (ownN s + 2 * i) := fun i => by
    have := R'.wload i
    rw [k9', ld_err qf', ou] at this
    rw [this, wu]
  have ws : ∀ i, g16 (s.extract 0 N') (ownN s + 2 * i) = g16 (pP s) (2 * i) := fun i => by
    have := g16_load y3 (N := N') (by rw [ge 2 (by omega)]; exact R.len) z0 i
    rw [os, y8] at this
    exact this
  have hv8 : ∀ i, g16 v (ownN s + 8 + 2 * i) = g16 (eD v) (2 * i) := fun i => by
    have h1 := T'.high (2 * i)
    have h2 := T'.high (2 * i + 1)
    rw [ou] at h1 h2
    unfold g16
    rw [h1, show ownN s + 8 + 2 * i + 1 = ownN s + 8 + (2 * i + 1) by omega, h2, dv]
  have hs8 : ∀ i, g16 (s.extract 0 N') (ownN s + 8 + 2 * i) = g16 (eD s) (2 * i) := fun i => by
    have h1 := ws (4 + i)
    rw [show ownN s + 2 * (4 + i) = ownN s + 8 + 2 * i by omega] at h1
    rw [h1, dE]
    have e1 := bt_extract_end (pP s) 8 (2 * i) (by omega)
    have e2 := bt_extract_end (pP s) 8 (2 * i + 1) (by omega)
    unfold g16
    rw [e1, e2, show 2 * (4 + i) = 8 + 2 * i by omega, show 8 + 2 * i + 1 = 8 + (2 * i + 1) by omega]
  have sum : pw (g16 v (ownN s + 2)) = pw (g16 (s.extract 0 N') (ownN s + 2)) := by
    have w1 := T.w2
    have w2 := T'.w2
    rw [ou] at w2
    have u1 := wu 1
    have s1 := ws 1
    rw [show ownN s + 2 * 1 = ownN s + 2 by omega, show 2 * 1 = 2 by rfl] at u1 s1
    have e1 : msV s (emD (eD s) c k d l) = updV (g16 (pP s) 2) (evB (eD s)) (evB (emD (eD s) c k d l)) := rfl
    have e2 : msV u (emD (emD (eD s) c k d l) (g32 (eD s) 12) (inM (eD s)) (g32 (eD s) 16) (inN (eD s))) = updV (g16 (pP u) 2) (evB (emD (eD s) c k d l)) (evB (emD (emD (eD s) c k d l) (g32 (eD s) 12) (inM (eD s)) (g32 (eD s) 16) (inN (eD s)))) := by unfold msV; rw [T.data]
    rw [← e1] at t1
    rw [← e2] at t2
    have tt := Da.tot
    rw [← w1] at t1
    rw [← w2] at t2
    rw [← u1] at t2
    rw [s1]
    refine pw_eq (g16_nonneg _ _) (g16_le _ _) (g16_nonneg _ _) (g16_le _ _) ?_
    clear w1 w2 u1 s1 e1 e2
    omega
  refine ⟨N', y1, T'.size, by omega, by rw [T'.b8, T.b8]; omega, zV, Zv, Zs, ?_⟩
  refine plE_eq Zv Zs (by rw [T'.size, z0]) (by rw [ov, os]) (by rw [siV, eS]) (by rw [T'.b9, T.b9, be 9 (by omega)]) (fun j c4 c5 cx => ?_) (fun j cx => ?_)
  · rw [os, eS] at cx
    by_cases d0 : j < 4
    · rw [lo _ (by omega), R'.wlow j d0, lo1 _ (by omega), R.wlow j d0, ge _ (by omega)]
    by_cases d1 : j < 10
    · have a1 := T'.a12
      have a2 := T'.a16
      have g1 : g32 v 12 = g16 v 12 * 65536 + g16 v 14 := g32_two v 12
      have g2 : g32 v 16 = g16 v 16 * 65536 + g16 v 18 := g32_two v 16
      have g3 : g32 s 12 = g16 s 12 * 65536 + g16 s 14 := g32_two s 12
      have g4 : g32 s 16 = g16 s 16 * 65536 + g16 s 18 := g32_two s 16
      have q := fun z => And.intro (g16_nonneg v z) (g16_le v z)
      have q' := fun z => And.intro (g16_nonneg s z) (g16_le s z)
      have q1 := q 14; have q2 := q 18; have q3 := q' 14; have q4 := q' 18
      have hj : j = 6 ∨ j = 7 ∨ j = 8 ∨ j = 9 := by omega
      rcases hj with rfl | rfl | rfl | rfl
      · rw [ge _ (by omega)]; show g16 v 12 = g16 s 12; omega
      · rw [ge _ (by omega)]; show g16 v 14 = g16 s 14; omega
      · rw [ge _ (by omega)]; show g16 v 16 = g16 s 16; omega
      · rw [ge _ (by omega)]; show g16 v 18 = g16 s 18; omega
    by_cases d2 : 2 * j < ownN s
    · rw [lo _ (by omega), R'.whigh j (by omega) (by omega), lo1 _ (by omega), R.whigh j (by omega) d2, ge _ (by omega)]
    obtain ⟨i, hi⟩ : ∃ i, 2 * j = ownN s + 2 * i := ⟨j - ownN s / 2, by omega⟩
    rw [hi]
    by_cases i0 : i = 0
    · subst i0
      rw [lo _ (by omega), wl', lo1 _ (by omega), wl, ws]
    by_cases i4 : i < 4
    · have m1 : g16 v (ownN s + 2 * i) = g16 (rwB u (g32 s 12) (oM (bt s 9) (pP s)) (g32 s 16) (oN (bt s 9) (pP s))) (ownN s + 2 * i) := by unfold g16; rw [T'.mid _ (by omega) (by omega), T'.mid _ (by omega) (by omega)]
      have m2 : g16 u (ownN s + 2 * i) = g16 (rwB s a m b n) (ownN s + 2 * i) := by unfold g16; rw [T.mid _ (by omega) (by omega), T.mid _ (by omega) (by omega)]
      rw [m1, wl', m2, wl, ws]
    · obtain ⟨t, ht⟩ : ∃ t, i = 4 + t := ⟨i - 4, by omega⟩
      subst ht
      rw [show ownN s + 2 * (4 + t) = ownN s + 8 + 2 * t by omega, hv8, hs8, dv]
      refine Da.words t (by omega) ?_
      rintro ⟨n1, n2⟩
      rcases ek with ⟨k1, k2⟩ | ⟨k1, k2⟩
      · omega
      · exact cx (by omega)
  · rw [os, eS] at cx
    rcases cx with e | e | ⟨e0, e⟩
    · rw [e]; exact sum
    · obtain ⟨t, ht⟩ : ∃ t, 2 * j = ownN s + 8 + 2 * t := ⟨5, by omega⟩
      have t5 : t = 5 := by omega
      subst t5
      rw [ht, hv8, hs8, dv]
      exact Da.w5
    · rcases ek with ⟨k1, k2⟩ | ⟨k1, k2⟩
      · omega
      · have d4 := ownN_four (eD s)
        have wk := Da.wk
        obtain ⟨t, ht⟩ : ∃ t, ownN (eD s) + 2 * ekq (bt (eD s) 9) (inL (eD s)) = 2 * t := ⟨ownN (eD s) / 2 + ekq (bt (eD s) 9) (inL (eD s)), by omega⟩
        rw [e, show ownN s + 8 + siD (eD s) = ownN s + 8 + 2 * t by omega, hv8, hs8, dv]
        rw [ht] at wk
        exact wk
end Go.Proofs.YtbpicngbjggblaaGreatDoor

namespace Go.Proofs.YtbpicngbjggblaaGreatDoor
set_option linter.unusedVariables false
set_option linter.unusedSimpArgs false
open Go.ChangeShapes Go.WideShapes Go.ChangeAt Go.RowKit Go.PlainAid
attribute [local go_sem ↓] Go.wp_at_zero Go.wp_at_succ
set_option maxHeartbeats 1000000 in
theorem plain10_ (s : ByteArray) (h : ErrZ s) (w : World) :
    Calls Tryz.prog 24 #[.string s] w fun e w' => e = .returned (.string (plE s)) ∧ Below w.heap.size w w' := by
  have h1 := h.own0; have h2 := h.own1; have h3 := h.size; have h4 := h.data; have h5 := h.si; have h6 := h.size1
  have b0 := bt_nonneg s 0
  have z := plB0_size (s := s) (by omega)
  have z1 := wz_size (X := plB0 s) (k := ownN s + 2) (by omega)
  have z2 := plE2_size h
  have kr : ownN s + 8 + siD (eD s) ≤ 2000000 := by omega
  have f3 : bt s 0 % 16 * 4 = (ownN s : Int) := by unfold ownN; omega
  refine plain10_v s (eD s) (plB0 s) (wz (plB0 s) (ownN s + 2)) (plE2 s) (plE s) (ownN s) (ownN s + 8) (ownN s + 2) (ownN s + 18) (ownN s + 8 + siD (eD s)) (siD (eD s)) w (by omega) f3 ⟨by omega, by omega, by omega, fun e => by omega, kr, h6, by omega, by omega, by omega⟩ ?_ ?_ ?_ ?_ (fun u => data10l_ s u (by omega)) (fun u => sumIn10_ (eD s) u (by omega) (by omega)) (fun j => plB0_bt (by omega) j) (wz_step (by omega)) (wz_step (by omega)) ?_ (plE_size h)
  · exact (IntWalk.wrap64_in _ (by omega)).trans (by omega)
  · exact (IntWalk.wrap64_in _ (by omega)).trans (by omega)
  · exact (IntWalk.wrap64_in _ (by omega)).trans (by omega)
  · exact (IntWalk.wrap64_in _ (by omega)).trans (by omega)
  · by_cases e : 0 < siD (eD s)
    · refine .inr ⟨e, ?_⟩
      have k := wz_step (X := plE2 s) (k := ownN s + 8 + siD (eD s)) (by omega)
      unfold plE
      rw [if_pos e]
      exact k
    · refine .inl ⟨by omega, ?_⟩
      unfold plE
      rw [if_neg e]
set_option maxHeartbeats 4000000 in
set_option maxRecDepth 100000 in
theorem back10_no (J : ∀ u : World, Tab u → Calls Tryz.prog 8 #[] u fun e w' => e = .returned (.bool true) ∧ Below u.heap.size u w') (s : ByteArray) (a m b n c k d l t0 t1 t2 t3 t4 : Int) (e1 : decide (2500 < s.size) = false) (e2 : decide ((2500 : Int) < (s.size : Int)) = false) (ck : ∀ u : World, Tab u → Calls Tryz.prog 14 #[.string s, .int .u8 2] u fun e w' => e = .returned (.tuple #[.agg #[.int .u8 t0, .int .u32 t1, .int .u16 t2, .int .u32 t3, .int .u16 t4], .bool false]) ∧ Below u.heap.size u w') (w : World) (ht : Tab w) :
    Calls Tryz.prog 7 #[.string s, .agg #[.int .u32 a, .int .u16 m, .int .u32 b, .int .u16 n, .int .u32 c, .int .u16 k, .int .u32 d, .int .u16 l]] w fun e w' => e = .returned (.bool true) ∧ Below w.heap.size w w' := by
  go_enter Tryz.func7, Tryz.ntmps7
  have B1 := Below.refl w.heap.size w
  go_wp2_with fail
  have C_2 := Box8.make w (.int .u32 a) (.int .u16 m) (.int .u32 b) (.int .u16 n) (.int .u32 c) (.int .u16 k) (.int .u32 d) (.int .u16 l) 30
  have B3 := B1.alloc B1.size (.cells #[.int .u32 a, .int .u16 m, .int .u32 b, .int .u16 n, .int .u32 c, .int .u16 k, .int .u32 d, .int .u16 l] 30)
  clear B1
  refine (ck _ (ht.on B3)).mono ?_; rintro e w1 ⟨rfl, x1⟩
  have C_4 := C_2.on x1
  have B5 := B3.trans (x1.mono B3.size)
  clear C_2 B3 x1
  clear ck
  have C_6 := C_4.past (o := (.cells #[.int .u8 t0, .int .u32 t1, .int .u16 t2, .int .u32 t3, .int .u16 t4] 33))
  have B7 := B5.alloc B5.size (.cells #[.int .u8 t0, .int .u32 t1, .int .u16 t2, .int .u32 t3, .int .u16 t4] 33)
  clear C_4 B5
  go_wp2_with fail
  refine (J _ (ht.on B7)).mono ?_; rintro e w2 ⟨rfl, x2⟩
  have C_8 := C_6.on x2
  have B9 := B7.trans (x2.mono B7.size)
  clear C_6 B7 x2
  go_wp2
  go_ret
  exact ⟨rfl, B9⟩
set_option maxHeartbeats 4000000 in
set_option maxRecDepth 100000 in
theorem back10_v (J : ∀ u : World, Tab u → Calls Tryz.prog 8 #[] u fun e w' => e = .returned (.bool true) ∧ Below u.heap.size u w') (s U V D E S0 P : ByteArray) (a m b n c k d l t0 t1 t2 t3 t4 y0 y1 y2 y3 y4 y5 y6 y8 yr z : Int) (y7 : Bool) (e1 : decide (2500 < s.size) = false) (e2 : decide ((2500 : Int) < (s.size : Int)) = false) (n36 : decide (V.size < 36) = false) (m36 : decide ((V.size : Int) < 36) = false) (ns : decide (s.size < V.size) = false) (ms : decide ((s.size : Int) < (V.size : Int)) = false) (nD : decide (D.size < 28) = false) (mD_ : decide ((D.size : Int) < 28) = false) (nE : decide (E.size < 28) = false) (mE : decide ((E.size : Int) < 28) = false) (i8s : (8 : Int) < (s.size : Int)) (i8v : (8 : Int) < (V.size : Int)) (z8 : bt V 8 = z) (zw : IntKind.u8.wrap (bt s 8 - 2) = z) (iv : (V.size : Int) ≤ (s.size : Int)) (hX : s.extract 0 V.size = S0) (ck : ∀ u : World, Tab u → Calls Tryz.prog 14 #[.string s, .int .u8 2] u fun e w' => e = .returned (.tuple #[.agg #[.int .u8 t0, .int .u32 t1, .int .u16 t2, .int .u32 t3, .int .u16 t4], .bool true]) ∧ Below u.heap.size u w') (co : ∀ u : World, Calls Tryz.prog 15 #[.string s] u fun e w' => e = .returned (.tuple #[.agg #[.int .u8 y0, .int .u32 y1, .int .u16 y2, .int .u32 y3, .int .u16 y4, .int .i64 y5, .int .u8 y6, .bool y7, .int .u8 y8], .int .i64 yr]) ∧ Below u.heap.size u w') (ca : ∀ u : World, Tab u → Calls Tryz.prog 11 #[.string s, .agg #[.int .u32 a, .int .u16 m, .int .u32 b, .int .u16 n], .agg #[.int .u32 c, .int .u16 k, .int .u32 d, .int .u16 l]] u fun e w' => e = .returned (.tuple #[.string U, .int .i64 0]) ∧ Below u.heap.size u w') (cb : ∀ u : World, Tab u → Calls Tryz.prog 11 #[.string U, .agg #[.int .u32 y1, .int .u16 y2, .int .u32 y3, .int .u16 y4], .agg #[.int .u32 t1, .int .u16 t2, .int .u32 t3, .int .u16 t4]] u fun e w' => e = .returned (.tuple #[.string V, .int .i64 0]) ∧ Below u.heap.size u w') (cd : ∀ u : World, Calls Tryz.prog 16 #[.string s] u fun e w' => e = .returned (.string D) ∧ Below u.heap.size u w') (ce : ∀ u : World, Calls Tryz.prog 16 #[.string V] u fun e w' => e = .returned (.string E) ∧ Below u.heap.size u w') (pv : ∀ u : World, Calls Tryz.prog 24 #[.string V] u fun e w' => e = .returned (.string P) ∧ Below u.heap.size u w') (ps : ∀ u : World, Calls Tryz.prog 24 #[.string S0] u fun e w' => e = .returned (.string P) ∧ Below u.heap.size u w') (w : World) (ht : Tab w) :
    Calls Tryz.prog 7 #[.string s, .agg #[.int .u32 a, .int .u16 m, .int .u32 b, .int .u16 n, .int .u32 c, .int .u16 k, .int .u32 d, .int .u16 l]] w fun e w' => e = .returned (.bool true) ∧ Below w.heap.size w w' := by
  have hgs := get_bt s
  have hgv := get_bt V
  go_enter Tryz.func7, Tryz.ntmps7
  have B1 := Below.refl w.heap.size w
  go_wp2_with fail
  have C_2 := Box8.make w (.int .u32 a) (.int .u16 m) (.int .u32 b) (.int .u16 n) (.int .u32 c) (.int .u16 k) (.int .u32 d) (.int .u16 l) 30
  have B3 := B1.alloc B1.size (.cells #[.int .u32 a, .int .u16 m, .int .u32 b, .int .u16 n, .int .u32 c, .int .u16 k, .int .u32 d, .int .u16 l] 30)
  clear B1
  refine (ck _ (ht.on B3)).mono ?_; rintro e w1 ⟨rfl, x1⟩
  have C_4 := C_2.on x1
  have B5 := B3.trans (x1.mono B3.size)
  clear C_2 B3 x1
  clear ck
  have C_6 := C_4.past (o := (.cells #[.int .u8 t0, .int .u32 t1, .int .u16 t2, .int .u32 t3, .int .u16 t4] 33))
  have T_7 := Box5.make w1 (.int .u8 t0) (.int .u32 t1) (.int .u16 t2) (.int .u32 t3) (.int .u16 t4) 33
  have B8 := B5.alloc B5.size (.cells #[.int .u8 t0, .int .u32 t1, .int .u16 t2, .int .u32 t3, .int .u16 t4] 33)
  clear C_4 B5
  go_wp2_with fail
  refine (co _).mono ?_; rintro e w2 ⟨rfl, x2⟩
  have C_9 := C_6.on x2
  have T_10 := T_7.on x2
  have B11 := B8.trans (x2.mono B8.size)
  clear C_6 T_7 B8 x2
  clear co
  have C_12 := C_9.past (o := (.cells #[.int .u8 y0, .int .u32 y1, .int .u16 y2, .int .u32 y3, .int .u16 y4, .int .i64 y5, .int .u8 y6, .bool y7, .int .u8 y8] 55))
  have T_13 := T_10.past (o := (.cells #[.int .u8 y0, .int .u32 y1, .int .u16 y2, .int .u32 y3, .int .u16 y4, .int .i64 y5, .int .u8 y6, .bool y7, .int .u8 y8] 55))
  have Y_14 := Box9.make w2 (.int .u8 y0) (.int .u32 y1) (.int .u16 y2) (.int .u32 y3) (.int .u16 y4) (.int .i64 y5) (.int .u8 y6) (.bool y7) (.int .u8 y8) 55
  have B15 := B11.alloc B11.size (.cells #[.int .u8 y0, .int .u32 y1, .int .u16 y2, .int .u32 y3, .int .u16 y4, .int .i64 y5, .int .u8 y6, .bool y7, .int .u8 y8] 55)
  clear C_9 T_10 B11
  obtain ⟨_, c1_0, c1_1, c1_2, c1_3, c1_4, c1_5, c1_6, c1_7⟩ := id C_12
  go_wp2_with fail
  refine (ca _ (ht.on B15)).mono ?_; rintro e w3 ⟨rfl, x3⟩
  have C_16 := C_12.on x3
  have T_17 := T_13.on x3
  have Y_18 := Y_14.on x3
  have B19 := B15.trans (x3.mono B15.size)
  clear c1_0 c1_1 c1_2 c1_3 c1_4 c1_5 c1_6 c1_7 C_12 T_13 Y_14 B15 x3
  clear ca
  clear C_16
  obtain ⟨_, t2_0, t2_1, t2_2, t2_3, t2_4⟩ := id T_17
  obtain ⟨_, y3_0, y3_1, y3_2, y3_3, y3_4, y3_5, y3_6, y3_7, y3_8⟩ := id Y_18
  go_wp2_with fail
  refine (cb _ (ht.on B19)).mono ?_; rintro e w4 ⟨rfl, x4⟩
  have T_20 := T_17.on x4
  have Y_21 := Y_18.on x4
  have B22 := B19.trans (x4.mono B19.size)
  clear t2_0 t2_1 t2_2 t2_3 t2_4 y3_0 y3_1 y3_2 y3_3 y3_4 y3_5 y3_6 y3_7 y3_8 T_17 Y_18 B19 x4
  clear cb
  clear T_20 Y_21
  go_wp2_with fail
  refine region_later (B := w4.heap.size) (by kernel_rfl) (by kernel_rfl) ?_
  repeat (go_big_quiet_step (first
    | (go_at_call_of 16 s; exact later_of _ (Nat.le_refl _) (cd _))
    | (go_at_call_of 16 V; exact later_of _ (Nat.le_refl _) (ce _))))
  refine later_end fun w5 x5 => ?_
  have B23 := B22.trans (x5.mono B22.size)
  clear B22 x5
  clear hgs hgv cd ce
  go_wp2_with fail
  have HT := ht.on B23
  refine region_later (B := w5.heap.size) (by kernel_rfl) (by kernel_rfl) ?_
  repeat (go_big_quiet_step (first
    | (go_at_call_of 24 V; exact later_of _ (Nat.le_refl _) (pv _))
    | (go_at_call_of 24 S0; exact later_of _ (Nat.le_refl _) (ps _))
    | (go_at_call 8; exact later_of _ (Nat.le_refl _) (J _ (HT.on (Later.h _))))))
  refine later_end fun w6 x6 => ?_
  have B24 := B23.trans (x6.mono B23.size)
  clear B23 x6
  go_wp2
  go_ret
  exact ⟨rfl, B24⟩
set_option maxHeartbeats 4000000 in
set_option maxRecDepth 100000 in
theorem back10_ (K : EmOk) (J : ∀ u : World, Tab u → Calls Tryz.prog 8 #[] u fun e w' => e = .returned (.bool true) ∧ Below u.heap.size u w') (s : ByteArray) (a m b n c k d l : Int) (w : World) (ht : Tab w) (hc : okC a m b n) (hd : okC c k d l) :
    Calls Tryz.prog 7 #[.string s, .agg #[.int .u32 a, .int .u16 m, .int .u32 b, .int .u16 n, .int .u32 c, .int .u16 k, .int .u32 d, .int .u16 l]] w fun e w' => e = .returned (.bool true) ∧ Below w.heap.size w w' := by
  by_cases h1 : 2500 < s.size
  · have e1 : decide (2500 < s.size) = true := by simpa using h1
    have e2 : decide ((2500 : Int) < (s.size : Int)) = true := by simp; omega
    have B0 := (Below.refl w.heap.size w).alloc (Nat.le_refl _) (.cells #[.int .u32 a, .int .u16 m, .int .u32 b, .int .u16 n, .int .u32 c, .int .u16 k, .int .u32 d, .int .u16 l] 30)
    clear hc hd h1
    go_enter Tryz.func7, Tryz.ntmps7
    go_wp2_with fail
    refine (J _ (ht.on B0)).mono ?_; rintro e w1 ⟨rfl, b1⟩
    go_wp2
    go_ret
    exact ⟨rfl, B0.trans (b1.mono B0.size)⟩
  have e1 : decide (2500 < s.size) = false := by simpa using h1
  have e2 : decide ((2500 : Int) < (s.size : Int)) = false := by simp; omega
  have ck := fun u hu => taken10_ K s 2 u hu (by omega)
  by_cases hk : inR s = 0 ∧ 2 < bt s 8
  rotate_left
  · have e : tkE s 2 = false := by
      unfold tkE
      by_cases x1 : inR s = 0
      · have : ¬ 2 < bt s 8 := fun x2 => hk ⟨x1, x2⟩
        simp [this]
      · simp [x1]
    rw [e] at ck
    exact back10_no J s a m b n c k d l _ _ _ _ _ e1 e2 ck w ht
  obtain ⟨hi, h3⟩ := hk
  have e : tkE s 2 = true := by unfold tkE; simp [hi, h3]
  rw [e, iI_yes hi, iI_yes hi, iI_yes hi, iI_yes hi, iI_yes hi] at ck
  have hr : trR s = 0 := by unfold trR; rw [if_pos hi, if_neg (by omega)]
  obtain ⟨hs, _, hl⟩ := in_zero hi
  have co := fun u => of8_ s u (by omega)
  obtain ⟨n1, n2⟩ := s_yes hs
  rw [n1, n1, n1, n1, n1, n1, n1, n1, n2, hs] at co
  have ca := fun u hu => K.translates s a m b n c k d l u (by omega) hc hd hu
  rw [hr] at ca
  obtain ⟨N0, R0, T0⟩ := tr_facts hr hc hd
  have hr2 : trR (trB s a m b n c k d l) = 0 := by
    have := T0.b8
    unfold trR
    rw [if_pos T0.inr, if_neg (by omega)]
  have zU : (trB s a m b n c k d l).size ≤ 2500 := by rw [T0.size]; have := R0.le; omega
  have cb := fun u hu => K.translates (trB s a m b n c k d l) (g32 s 12) (oM (bt s 9) (pP s)) (g32 s 16) (oN (bt s 9) (pP s)) (g32 (eD s) 12) (inM (eD s)) (g32 (eD s) 16) (inN (eD s)) u (by omega) okC_back (okC_in (eD s)) hu
  rw [hr2] at cb
  obtain ⟨N, B⟩ := tr_back hr (by omega) hc hd rfl hr2 rfl
  have le := B.le
  have vz := B.size
  have n36 := B.n36
  have dz := B.dz
  have sd := B.zs.data
  have vd := B.zv.data
  have b8 := B.b8
  have cd := fun u => data10l_ s u (by omega)
  have ce := fun u => data10l_ (trB (trB s a m b n c k d l) (g32 s 12) (oM (bt s 9) (pP s)) (g32 s 16) (oN (bt s 9) (pP s)) (g32 (eD s) 12) (inM (eD s)) (g32 (eD s) 16) (inN (eD s))) u (by omega)
  have pv := fun u => plain10_ _ B.zv u
  have ps := fun u => plain10_ _ B.zs u
  rw [B.plain] at pv
  have t8 := bt_le s 8
  have zw : IntKind.u8.wrap (bt s 8 - 2) = bt s 8 - 2 := IntWalk.u8_in _ (by omega)
  rw [← vz] at ps pv
  exact back10_v J s _ _ _ _ _ _ a m b n c k d l _ _ _ _ _ _ _ _ _ _ _ _ _ _ _ _ e1 e2 (by simp; omega) (by simp; omega) (by simp; omega) (by simp; omega) (by simp; omega) (by simp; omega) (by simp; omega) (by simp; omega) (by omega) (by omega) b8 zw (by omega) rfl ck co ca cb cd ce pv ps w ht
end Go.Proofs.YtbpicngbjggblaaGreatDoor
