/- Texts of this proof, together: EmbM, EmbY, EmbL. -/
import Derived.Test.YtbpicngbjggblaaGreatDoorHa
import Derived.Test.YtbpicngbjggblaaGreatDoorGu
import Derived.Test.YtbpicngbjggblaaGreatDoorGl
import Derived.Test.YtbpicngbjggblaaGreatDoorGc
import Derived.Test.YtbpicngbjggblaaGreatDoorTake
import Derived.Test.YtbpicngbjggblaaGreatDoorGb
import Derived.BigRegion
import Derived.Deep.DeepCutAuto
namespace Go.Proofs.YtbpicngbjggblaaGreatDoor
set_option linter.unusedVariables false
set_option linter.unusedSimpArgs false
open Go.ChangeShapes Go.WideShapes Go.ChangeAt Go.RowKit Go.PlainAid
attribute [local go_sem ↓] Go.wp_at_zero Go.wp_at_succ
structure EmOk : Prop where
  inners : ∀ (s : ByteArray) (w : World), s.size ≤ 1000000 → Tab w → Calls Tryz.prog 9 #[.string s] w fun e w' => e = .returned (.tuple #[.agg #[.int .u8 (iI s (bt (eD s) 9)), .int .u32 (iI s (g32 (eD s) 12)), .int .u16 (iI s (inM (eD s))), .int .u32 (iI s (g32 (eD s) 16)), .int .u16 (iI s (inN (eD s)))], .int .i64 (inR s)]) ∧ Below w.heap.size w w'
  translates : ∀ (s : ByteArray) (a m b n c k d l : Int) (w : World), s.size ≤ 1000000 → okC a m b n → okC c k d l → Tab w → Calls Tryz.prog 11 #[.string s, .agg #[.int .u32 a, .int .u16 m, .int .u32 b, .int .u16 n], .agg #[.int .u32 c, .int .u16 k, .int .u32 d, .int .u16 l]] w fun e w' => e = .returned (.tuple #[.string (trB s a m b n c k d l), .int .i64 (trR s)]) ∧ Below w.heap.size w w'
end Go.Proofs.YtbpicngbjggblaaGreatDoor
namespace Go.Proofs.YtbpicngbjggblaaGreatDoor
set_option linter.unusedVariables false
set_option linter.unusedSimpArgs false
open Go.ChangeShapes Go.WideShapes Go.ChangeAt Go.RowKit Go.PlainAid
namespace EmbLaid
def P : ByteArray := ⟨#[69, 0, 0, 33, 0, 0, 0, 0, 64, 17, 108, 198, 10, 0, 0, 1, 1, 2, 3, 4, 0, 5, 0, 53, 0, 13, 161, 171, 113, 117, 101, 114, 121]⟩
def P27 : ByteArray := ⟨#[69, 0, 0, 33, 0, 0, 0, 0, 64, 17, 108, 198, 10, 0, 0, 1, 1, 2, 3, 4, 0, 5, 0, 53, 0, 13, 161]⟩
def S : ByteArray := ⟨#[69, 0, 0, 61, 0, 0, 0, 0, 64, 1, 108, 186, 1, 2, 3, 4, 10, 0, 0, 1, 3, 1, 11, 36, 0, 0, 0, 0, 69, 0, 0, 33, 0, 0, 0, 0, 64, 17, 108, 198, 10, 0, 0, 1, 1, 2, 3, 4, 0, 5, 0, 53, 0, 13, 161, 171, 113, 117, 101, 114, 121]⟩
def U : ByteArray := ⟨#[69, 0, 0, 61, 0, 0, 0, 0, 63, 1, 107, 173, 1, 2, 3, 4, 5, 6, 7, 8, 3, 1, 13, 49, 0, 0, 0, 0, 69, 0, 0, 33, 0, 0, 0, 0, 64, 17, 106, 185, 5, 6, 7, 8, 1, 2, 3, 4, 35, 40, 0, 53, 0, 13, 124, 123, 113, 117, 101, 114, 121]⟩
def T : ByteArray := ⟨#[69, 0, 0, 55, 0, 0, 0, 0, 64, 1, 108, 192, 1, 2, 3, 4, 10, 0, 0, 1, 3, 1, 91, 183, 0, 0, 0, 0, 69, 0, 0, 33, 0, 0, 0, 0, 64, 17, 108, 198, 10, 0, 0, 1, 1, 2, 3, 4, 0, 5, 0, 53, 0, 13, 161]⟩
def W : ByteArray := ⟨#[69, 0, 0, 89, 0, 0, 0, 0, 64, 1, 108, 158, 1, 2, 3, 4, 10, 0, 0, 1, 3, 1, 252, 254, 0, 0, 0, 0, 69, 0, 0, 61, 0, 0, 0, 0, 64, 1, 108, 186, 1, 2, 3, 4, 10, 0, 0, 1, 3, 1, 11, 36, 0, 0, 0, 0, 69, 0, 0, 33, 0, 0, 0, 0, 64, 17, 108, 198, 10, 0, 0, 1, 1, 2, 3, 4, 0, 5, 0, 53, 0, 13, 161, 171, 113, 117, 101, 114, 121]⟩
theorem mP : madeB 17 167772161 5 16909060 53 0 64 ⟨#[113, 117, 101, 114, 121]⟩ = P := by kernel_rfl
theorem cP : P.extract 0 27 = P27 := by kernel_rfl
theorem wS : wrB 16909060 167772161 3 P = S := by kernel_rfl
theorem wT : wrB 16909060 167772161 3 P27 = T := by kernel_rfl
theorem wW : wrB 16909060 167772161 3 S = W := by kernel_rfl
theorem iS : iI S (bt (eD S) 9) = 17 ∧ iI S (g32 (eD S) 12) = 167772161 ∧ iI S (inM (eD S)) = 5 ∧ iI S (g32 (eD S) 16) = 16909060 ∧ iI S (inN (eD S)) = 53 ∧ inR S = 0 := ⟨by kernel_rfl, by kernel_rfl, by kernel_rfl, by kernel_rfl, by kernel_rfl, by kernel_rfl⟩
theorem iU : iI U (bt (eD U) 9) = 17 ∧ iI U (g32 (eD U) 12) = 84281096 ∧ iI U (inM (eD U)) = 9000 ∧ iI U (g32 (eD U) 16) = 16909060 ∧ iI U (inN (eD U)) = 53 ∧ inR U = 0 := ⟨by kernel_rfl, by kernel_rfl, by kernel_rfl, by kernel_rfl, by kernel_rfl, by kernel_rfl⟩
theorem rT : inR T = 15 := by kernel_rfl
theorem rP : inR P = 15 := by kernel_rfl
theorem rW : inR W = 15 := by kernel_rfl
theorem tS : trR S = 0 := by kernel_rfl
theorem tU : trB S 16909060 0 84281096 0 84281096 9000 16909060 53 = U := by kernel_rfl
def X : List UInt8 := [117, 100, 112, 32, 49, 48, 46, 48, 46, 48, 46, 49, 58, 53, 32, 49, 46, 50, 46, 51, 46, 52, 58, 53, 51]
def Y : List UInt8 := [117, 100, 112, 32, 53, 46, 54, 46, 55, 46, 56, 58, 57, 48, 48, 48, 32, 49, 46, 50, 46, 51, 46, 52, 58, 53, 51]
theorem xX : ttextL 17 167772161 5 16909060 53 = X := by kernel_rfl
theorem xY : ttextL 17 84281096 9000 16909060 53 = Y := by kernel_rfl
end EmbLaid
end Go.Proofs.YtbpicngbjggblaaGreatDoor
namespace Go.Proofs.YtbpicngbjggblaaGreatDoor
set_option maxHeartbeats 2000000
set_option maxRecDepth 100000
set_option linter.unusedVariables false
set_option linter.unusedSimpArgs false
open Go.ChangeShapes Go.WideShapes Go.ChangeAt Go.RowKit Go.PlainAid
attribute [local go_sem ↓] Go.wp_at_zero Go.wp_at_succ
theorem iI_no {s : ByteArray} (h : ¬ inR s = 0) (v : Int) : iI s v = 0 := by unfold iI; rw [if_neg h]
theorem told10_ (K : EmOk) (w : World) (ht : Tab w) :
    Cw_ 8 #[] (.bool true) w := by
  have hco : okC 16909060 0 84281096 0 := by unfold okC; omega
  have hci : okC 84281096 9000 16909060 53 := by unfold okC; omega
  have cm := fun u => rmade8_ 17 167772161 5 16909060 53 0 64 ⟨#[113, 117, 101, 114, 121]⟩ u (by omega) (by omega) (by omega) (by omega) (by omega) (by omega) (by omega) (by omega) (by omega) (by omega) (by omega) (by omega) (by omega) (by omega) (by decide)
  rw [EmbLaid.mP] at cm
  have wS := fun u => rwrong10_ 16909060 167772161 3 EmbLaid.P u (by omega) (by omega) (by omega) (by omega) (by omega) (by omega) (by decide)
  rw [EmbLaid.wS] at wS
  have wT := fun u => rwrong10_ 16909060 167772161 3 EmbLaid.P27 u (by omega) (by omega) (by omega) (by omega) (by omega) (by omega) (by decide)
  rw [EmbLaid.wT] at wT
  have wW := fun u => rwrong10_ 16909060 167772161 3 EmbLaid.S u (by omega) (by omega) (by omega) (by omega) (by omega) (by omega) (by decide)
  rw [EmbLaid.wW] at wW
  have ct := fun u hu => K.translates EmbLaid.S 16909060 0 84281096 0 84281096 9000 16909060 53 u (by decide) hco hci hu
  rw [EmbLaid.tU, EmbLaid.tS] at ct
  have iP := EmbLaid.cP
  have zP : (27 : Int) ≤ (EmbLaid.P.size : Int) := by decide
  have iS := fun u hu => K.inners EmbLaid.S u (by decide) hu
  rw [EmbLaid.iS.1, EmbLaid.iS.2.1, EmbLaid.iS.2.2.1, EmbLaid.iS.2.2.2.1, EmbLaid.iS.2.2.2.2.1, EmbLaid.iS.2.2.2.2.2] at iS
  have iU := fun u hu => K.inners EmbLaid.U u (by decide) hu
  rw [EmbLaid.iU.1, EmbLaid.iU.2.1, EmbLaid.iU.2.2.1, EmbLaid.iU.2.2.2.1, EmbLaid.iU.2.2.2.2.1, EmbLaid.iU.2.2.2.2.2] at iU
  have jT := fun u hu => K.inners EmbLaid.T u (by decide) hu
  rw [iI_no (by rw [EmbLaid.rT]; decide), iI_no (by rw [EmbLaid.rT]; decide), iI_no (by rw [EmbLaid.rT]; decide), iI_no (by rw [EmbLaid.rT]; decide), iI_no (by rw [EmbLaid.rT]; decide), EmbLaid.rT] at jT
  have jP := fun u hu => K.inners EmbLaid.P u (by decide) hu
  rw [iI_no (by rw [EmbLaid.rP]; decide), iI_no (by rw [EmbLaid.rP]; decide), iI_no (by rw [EmbLaid.rP]; decide), iI_no (by rw [EmbLaid.rP]; decide), iI_no (by rw [EmbLaid.rP]; decide), EmbLaid.rP] at jP
  have jW := fun u hu => K.inners EmbLaid.W u (by decide) hu
  rw [iI_no (by rw [EmbLaid.rW]; decide), iI_no (by rw [EmbLaid.rW]; decide), iI_no (by rw [EmbLaid.rW]; decide), iI_no (by rw [EmbLaid.rW]; decide), iI_no (by rw [EmbLaid.rW]; decide), EmbLaid.rW] at jW
  have cX := fun u hu => text8_ 17 167772161 5 16909060 53 u (by omega) (by omega) (by omega) (by omega) hu
  rw [EmbLaid.xX] at cX
  have cY := fun u hu => text8_ 17 84281096 9000 16909060 53 u (by omega) (by omega) (by omega) (by omega) hu
  rw [EmbLaid.xY] at cY
  have eX : ((str EmbLaid.X).toList == [117, 100, 112, 32, 49, 48, 46, 48, 46, 48, 46, 49, 58, 53, 32, 49, 46, 50, 46, 51, 46, 52, 58, 53, 51]) = true := by rw [str_toList]; rfl
  have eX2 : (str EmbLaid.X).toList = [117, 100, 112, 32, 49, 48, 46, 48, 46, 48, 46, 49, 58, 53, 32, 49, 46, 50, 46, 51, 46, 52, 58, 53, 51] := by rw [str_toList]; rfl
  have eY : ((str EmbLaid.Y).toList == [117, 100, 112, 32, 53, 46, 54, 46, 55, 46, 56, 58, 57, 48, 48, 48, 32, 49, 46, 50, 46, 51, 46, 52, 58, 53, 51]) = true := by rw [str_toList]; rfl
  have eY2 : (str EmbLaid.Y).toList = [117, 100, 112, 32, 53, 46, 54, 46, 55, 46, 56, 58, 57, 48, 48, 48, 32, 49, 46, 50, 46, 51, 46, 52, 58, 53, 51] := by rw [str_toList]; rfl
  generalize str EmbLaid.X = X1 at *
  generalize str EmbLaid.Y = Y1 at *
  generalize EmbLaid.P = P at *
  generalize EmbLaid.P27 = P27 at *
  generalize EmbLaid.S = S at *
  generalize EmbLaid.U = U at *
  generalize EmbLaid.T = T at *
  generalize EmbLaid.W = V at *
  clear hco hci
  go_enter Tryz.func8, Tryz.ntmps8
  have B1 := Below.refl w.heap.size w
  go_upto_region 2 with fail
  have A_2 := Box2.make w (.int .u32 167772161) (.int .u16 5) 26
  have B3 := B1.alloc B1.size (.cells #[.int .u32 167772161, .int .u16 5] 26)
  clear B1
  have al := alO_ B3 (.cells #[.int .u32 16909060, .int .u16 53] 26)
  have A_4 := A_2.on al
  have hs_ : (w.alloc (.cells #[.int .u32 167772161, .int .u16 5] 26)).heap.size = w.heap.size + 1 := by simp
  have D_5 := Box2.make (w.alloc (.cells #[.int .u32 167772161, .int .u16 5] 26)) (.int .u32 16909060) (.int .u16 53) 26
  rw [hs_] at D_5
  clear hs_
  have B6 := B3.trans (al.mono B3.size)
  clear al
  clear A_2 B3
  obtain ⟨u1, hu1⟩ : ∃ x, x = (w.alloc (.cells #[.int .u32 167772161, .int .u16 5] 26)).alloc (.cells #[.int .u32 16909060, .int .u16 53] 26) := ⟨_, rfl⟩
  rw [← hu1] at A_4 D_5 B6 ⊢
  clear hu1
  obtain ⟨_, a1_0, a1_1⟩ := id A_4
  obtain ⟨_, d2_0, d2_1⟩ := id D_5
  go_wp2_with fail
  refine (cm _).mono ?_; rintro e w2 ⟨rfl, x2⟩
  have A_7 := A_4.on x2
  have D_8 := D_5.on x2
  have B9 := B6.trans (x2.mono B6.size)
  clear a1_0 a1_1 d2_0 d2_1 A_4 D_5 B6 x2
  clear cm
  obtain ⟨_, a3_0, a3_1⟩ := id A_7
  obtain ⟨_, d4_0, d4_1⟩ := id D_8
  go_wp2_with fail
  refine (wS _).mono ?_; rintro e w3 ⟨rfl, x3⟩
  have A_10 := A_7.on x3
  have D_11 := D_8.on x3
  have B12 := B9.trans (x3.mono B9.size)
  clear a3_0 a3_1 d4_0 d4_1 A_7 D_8 B9 x3
  clear wS
  go_wp2_with fail
  refine (iS _ (ht.on B12)).mono ?_; rintro e w4 ⟨rfl, x4⟩
  have A_13 := A_10.on x4
  have D_14 := D_11.on x4
  have B15 := B12.trans (x4.mono B12.size)
  clear A_10 D_11 B12 x4
  clear iS
  have al := alO_ B15 (.cells #[.int .u8 17, .int .u32 167772161, .int .u16 5, .int .u32 16909060, .int .u16 53] 33)
  have A_16 := A_13.on al
  have D_17 := D_14.on al
  have X_18 := Box5.make w4 (.int .u8 17) (.int .u32 167772161) (.int .u16 5) (.int .u32 16909060) (.int .u16 53) 33
  have B19 := B15.trans (al.mono B15.size)
  clear al
  clear A_13 D_14 B15
  obtain ⟨_, d5_0, d5_1⟩ := id D_17
  go_upto_region 6 with fail
  clear d5_0 d5_1
  have al := alO_ B19 (.cells #[.int .u32 84281096, .int .u16 9000, .int .u32 16909060, .int .u16 53] 28)
  have A_20 := A_16.on al
  have D_21 := D_17.on al
  have X_22 := X_18.on al
  have hs_ : (w4.alloc (.cells #[.int .u8 17, .int .u32 167772161, .int .u16 5, .int .u32 16909060, .int .u16 53] 33)).heap.size = w4.heap.size + 1 := by simp
  have I_23 := Box4.make (w4.alloc (.cells #[.int .u8 17, .int .u32 167772161, .int .u16 5, .int .u32 16909060, .int .u16 53] 33)) (.int .u32 84281096) (.int .u16 9000) (.int .u32 16909060) (.int .u16 53) 28
  rw [hs_] at I_23
  clear hs_
  have B24 := B19.trans (al.mono B19.size)
  clear al
  clear A_16 D_17 X_18 B19
  obtain ⟨u5, hu5⟩ : ∃ x, x = (w4.alloc (.cells #[.int .u8 17, .int .u32 167772161, .int .u16 5, .int .u32 16909060, .int .u16 53] 33)).alloc (.cells #[.int .u32 84281096, .int .u16 9000, .int .u32 16909060, .int .u16 53] 28) := ⟨_, rfl⟩
  rw [← hu5] at A_20 D_21 X_22 I_23 B24 ⊢
  clear hu5
  obtain ⟨_, d6_0, d6_1⟩ := id D_21
  go_upto_region 7 with fail
  clear d6_0 d6_1
  have al := alO_ B24 (.cells #[.int .u32 16909060, .int .u16 0, .int .u32 84281096, .int .u16 0] 28)
  have A_25 := A_20.on al
  have D_26 := D_21.on al
  have X_27 := X_22.on al
  have I_28 := I_23.on al
  have O_29 := Box4.make u5 (.int .u32 16909060) (.int .u16 0) (.int .u32 84281096) (.int .u16 0) 28
  have B30 := B24.trans (al.mono B24.size)
  clear al
  clear A_20 D_21 X_22 I_23 B24
  obtain ⟨u6, hu6⟩ : ∃ x, x = u5.alloc (.cells #[.int .u32 16909060, .int .u16 0, .int .u32 84281096, .int .u16 0] 28) := ⟨_, rfl⟩
  rw [← hu6] at A_25 D_26 X_27 I_28 O_29 B30 ⊢
  clear hu6
  obtain ⟨_, i7_0, i7_1, i7_2, i7_3⟩ := id I_28
  obtain ⟨_, o8_0, o8_1, o8_2, o8_3⟩ := id O_29
  go_wp2_with fail
  refine (ct _ (ht.on B30)).mono ?_; rintro e w7 ⟨rfl, x7⟩
  have A_31 := A_25.on x7
  have D_32 := D_26.on x7
  have X_33 := X_27.on x7
  have I_34 := I_28.on x7
  have O_35 := O_29.on x7
  have B36 := B30.trans (x7.mono B30.size)
  clear i7_0 i7_1 i7_2 i7_3 o8_0 o8_1 o8_2 o8_3 A_25 D_26 X_27 I_28 O_29 B30 x7
  clear ct
  clear I_34 O_35
  go_wp2_with fail
  refine (iU _ (ht.on B36)).mono ?_; rintro e w8 ⟨rfl, x8⟩
  have A_37 := A_31.on x8
  have D_38 := D_32.on x8
  have X_39 := X_33.on x8
  have B40 := B36.trans (x8.mono B36.size)
  clear A_31 D_32 X_33 B36 x8
  clear iU
  have al := alO_ B40 (.cells #[.int .u8 17, .int .u32 84281096, .int .u16 9000, .int .u32 16909060, .int .u16 53] 33)
  have A_41 := A_37.on al
  have D_42 := D_38.on al
  have X_43 := X_39.on al
  have Y_44 := Box5.make w8 (.int .u8 17) (.int .u32 84281096) (.int .u16 9000) (.int .u32 16909060) (.int .u16 53) 33
  have B45 := B40.trans (al.mono B40.size)
  clear al
  clear A_37 D_38 X_39 B40
  go_upto_region 9 with fail
  obtain ⟨u9, hu9⟩ : ∃ x, x = w8.alloc (.cells #[.int .u8 17, .int .u32 84281096, .int .u16 9000, .int .u32 16909060, .int .u16 53] 33) := ⟨_, rfl⟩
  rw [← hu9] at A_41 D_42 X_43 Y_44 B45 ⊢
  clear hu9
  obtain ⟨_, a9_0, a9_1⟩ := id A_41
  obtain ⟨_, d10_0, d10_1⟩ := id D_42
  refine wp_region_noPanic ?_
  refine wp_region_held_drew (S := (fun w' => w'.cell? ⟨w.heap.size, 0, none⟩ = some (.int .u32 167772161) ∧ w'.cell? ⟨w.heap.size + 1, 0, none⟩ = some (.int .u32 16909060))) (by kernel_rfl) ?_ (fun hHeld => ?_)
  · simp [a9_0, a9_1, d10_0, d10_1]
  clear a9_0 a9_1 d10_0 d10_1
  refine tk_ 0 (v := ?_) (by assumption) ?_ ?_
  rotate_left
  · intro w hSw
    (try dsimp only at hSw)
    go_simp
    with_reducible rfl
  try simp only [Act.put, puS_]
  refine tk_ 1 (v := ?_) (by assumption) ?_ ?_
  rotate_left
  · intro w hSw
    (try dsimp only at hSw)
    obtain ⟨q0, q1⟩ := hSw
    go_simp
    with_reducible rfl
  try simp only [Act.put, puS_]
  refine tk_ 2 (v := ?_) (by assumption) ?_ ?_
  rotate_left
  · intro w hSw
    (try dsimp only at hSw)
    go_simp
    with_reducible rfl
  try simp only [Act.put, puS_]
  refine tk_ 3 (v := ?_) (by assumption) ?_ ?_
  rotate_left
  · intro w hSw
    (try dsimp only at hSw)
    obtain ⟨q0, q1⟩ := hSw
    go_simp
    with_reducible rfl
  try simp only [Act.put, puS_]
  refine tk_ 4 (v := ?_) (by assumption) ?_ ?_
  rotate_left
  · intro w hSw
    (try dsimp only at hSw)
    go_simp
    with_reducible rfl
  try simp only [Act.put, puS_]
  refine tk_ 5 (v := ?_) (by assumption) ?_ ?_
  rotate_left
  · intro w hSw
    (try dsimp only at hSw)
    go_simp
    with_reducible rfl
  try simp only [Act.put, puS_]
  clear hHeld
  refine wpAnyH_ready (rs := [6, 11]) (by kernel_rfl) (by simp) ?_
  refine AllReadyH.cons (o := _) rfl (fun K hK => ?_) ?_
  · go_simp
    have A_46 := A_41.on ((Below.refl _ _).drew)
    have D_47 := D_42.on ((Below.refl _ _).drew)
    have X_48 := X_43.on ((Below.refl _ _).drew)
    have Y_49 := Y_44.on ((Below.refl _ _).drew)
    have B50 := B45.drew
    clear A_41 D_42 X_43 Y_44 B45
    refine (wT _).mono ?_; rintro e w10 ⟨rfl, x10⟩
    have A_51 := A_46.on x10
    have D_52 := D_47.on x10
    have X_53 := X_48.on x10
    have Y_54 := Y_49.on x10
    have B55 := B50.trans (x10.mono B50.size)
    clear A_46 D_47 X_48 Y_49 B50 x10
    show K _ _
    clear wT
    refine hK.out _ _ ⟨A_51.2.1, D_52.2.1⟩ (fun _ => ?_)
    clear hK K
    try simp only [Act.put, puS_]
    refine wpAnyH_ready (rs := [7, 11]) (by kernel_rfl) (by simp) ?_
    refine AllReadyH.cons (o := _) rfl (fun K hK => ?_) ?_
    · go_simp
      refine (jT _ (ht.on B55)).mono ?_; rintro e w11 ⟨rfl, x11⟩
      have A_56 := A_51.on x11
      have D_57 := D_52.on x11
      have X_58 := X_53.on x11
      have Y_59 := Y_54.on x11
      have B60 := B55.trans (x11.mono B55.size)
      clear A_51 D_52 X_53 Y_54 B55 x11
      show K _ _
      clear jT
      refine hK.out _ _ ⟨A_56.2.1, D_57.2.1⟩ (fun _ => ?_)
      clear hK K
      try simp only [Act.put, puS_]
      refine tk_ 8 (v := ?_) (by assumption) ?_ ?_
      rotate_left
      · intro w hSw
        (try dsimp only at hSw)
        go_simp
        with_reducible rfl
      try simp only [Act.put, puS_]
      refine tk_ 9 (v := ?_) (by assumption) ?_ ?_
      rotate_left
      · intro w hSw
        (try dsimp only at hSw)
        go_simp
        with_reducible rfl
      try simp only [Act.put, puS_]
      refine tk_ 10 (v := ?_) (by assumption) ?_ ?_
      rotate_left
      · intro w hSw
        (try dsimp only at hSw)
        go_simp
        with_reducible rfl
      try simp only [Act.put, puS_]
      refine wpAnyH_ready (rs := [11]) (by kernel_rfl) (by simp) ?_
      refine AllReadyH.cons (o := _) rfl (fun K hK => ?_) ?_
      · go_simp
        have LZ := Lib.hid (And.intro (show w.heap.size + 1 < w11.heap.size from D_57.1) (And.intro (show w4.heap.size < w11.heap.size from X_58.1) (show w8.heap.size < w11.heap.size from Y_59.1)))
        have al := alO_ B60 (.cells #[.int .u8 0, .int .u32 0, .int .u16 0, .int .u32 0, .int .u16 0] 33)
        have A_61 := A_56.on al
        have D_62 := D_57.on al
        have X_63 := X_58.on al
        have Y_64 := Y_59.on al
        have Z_65 := Box5.make w11 (.int .u8 0) (.int .u32 0) (.int .u16 0) (.int .u32 0) (.int .u16 0) 33
        have B66 := B60.trans (al.mono B60.size)
        clear al
        clear A_56 D_57 X_58 Y_59 B60
        have fzZ_67 : ∀ i, (w11.alloc (.cells #[.int .u8 0, .int .u32 0, .int .u16 0, .int .u32 0, .int .u16 0] 33)).frozen? ⟨w11.heap.size, i, none⟩ = false := by intro i; simp [go_sem]
        obtain ⟨u12, hu12⟩ : ∃ x, x = w11.alloc (.cells #[.int .u8 0, .int .u32 0, .int .u16 0, .int .u32 0, .int .u16 0] 33) := ⟨_, rfl⟩
        rw [← hu12] at A_61 D_62 X_63 Y_64 Z_65 fzZ_67 B66 ⊢
        clear hu12
        refine hK.out _ _ ⟨A_61.2.1, D_62.2.1⟩ (fun _ => ?_)
        clear hK K
        try simp only [Act.put, puS_]
        refine wpAnyH_ready (rs := [12]) (by kernel_rfl) (by simp) ?_
        refine AllReadyH.cons (o := _) rfl (fun K hK => ?_) ?_
        · obtain ⟨_, z11_0, z11_1, z11_2, z11_3, z11_4⟩ := id Z_65
          go_simp
          clear z11_0 z11_1 z11_2 z11_3 z11_4
          refine box5_ (b := w11.heap.size) Z_65.some B66 (by have := LZ.out.1; omega) fun wz y0 y1 y2 y3 y4 BZ far sz => ?_
          have A_z := A_61.far far (by have := LZ.out.1; omega)
          have D_z := D_62.far far (by have := LZ.out.1; omega)
          have X_z := X_63.far far (by have := LZ.out.2.1; omega)
          have Y_z := Y_64.far far (by have := LZ.out.2.2; omega)
          clear A_61 D_62 X_63 Y_64 Z_65 fzZ_67 B66 y0 y1 y2 y3 y4 far sz
          refine hK.out _ _ ⟨A_z.2.1, D_z.2.1⟩ (fun _ => ?_)
          clear hK K
          try simp only [Act.put, puS_]
          refine wpAnyH_ready (rs := [13]) (by kernel_rfl) (by simp) ?_
          refine AllReadyH.cons (o := _) rfl (fun K hK => ?_) ?_
          · go_simp
            refine hK.out _ _ ⟨A_z.2.1, D_z.2.1⟩ (fun _ => ?_)
            clear hK K
            try simp only [Act.put, puS_]
            refine wpAnyH_done (by kernel_rfl) (NoPanic.normal ?_) _
            go_wp2_with fail
            refine (jP _ (ht.on BZ)).mono ?_; rintro e w13 ⟨rfl, x13⟩
            have A_68 := A_z.on x13
            have D_69 := D_z.on x13
            have X_70 := X_z.on x13
            have Y_71 := Y_z.on x13
            have B72 := BZ.trans (x13.mono BZ.size)
            clear A_z D_z X_z Y_z BZ x13
            clear jP
            have al := alO_ B72 (.cells #[.int .u8 0, .int .u32 0, .int .u16 0, .int .u32 0, .int .u16 0] 33)
            have A_73 := A_68.on al
            have D_74 := D_69.on al
            have X_75 := X_70.on al
            have Y_76 := Y_71.on al
            have B77 := B72.trans (al.mono B72.size)
            clear al
            clear A_68 D_69 X_70 Y_71 B72
            obtain ⟨_, a12_0, a12_1⟩ := id A_73
            obtain ⟨_, d13_0, d13_1⟩ := id D_74
            go_wp2_with fail
            refine (wW _).mono ?_; rintro e w14 ⟨rfl, x14⟩
            have A_78 := A_73.on x14
            have D_79 := D_74.on x14
            have X_80 := X_75.on x14
            have Y_81 := Y_76.on x14
            have B82 := B77.trans (x14.mono B77.size)
            clear a12_0 a12_1 d13_0 d13_1 A_73 D_74 X_75 Y_76 B77 x14
            clear wW
            go_wp2_with fail
            refine (jW _ (ht.on B82)).mono ?_; rintro e w15 ⟨rfl, x15⟩
            have A_83 := A_78.on x15
            have D_84 := D_79.on x15
            have X_85 := X_80.on x15
            have Y_86 := Y_81.on x15
            have B87 := B82.trans (x15.mono B82.size)
            clear A_78 D_79 X_80 Y_81 B82 x15
            clear jW
            have al := alO_ B87 (.cells #[.int .u8 0, .int .u32 0, .int .u16 0, .int .u32 0, .int .u16 0] 33)
            have A_88 := A_83.on al
            have D_89 := D_84.on al
            have X_90 := X_85.on al
            have Y_91 := Y_86.on al
            have B92 := B87.trans (al.mono B87.size)
            clear al
            clear A_83 D_84 X_85 Y_86 B87
            obtain ⟨_, x14_0, x14_1, x14_2, x14_3, x14_4⟩ := id X_90
            go_wp2_with fail
            refine (cX _ (ht.on B92)).mono ?_; rintro e w16 ⟨rfl, x16⟩
            have A_93 := A_88.on x16
            have D_94 := D_89.on x16
            have X_95 := X_90.on x16
            have Y_96 := Y_91.on x16
            have B97 := B92.trans (x16.mono B92.size)
            clear x14_0 x14_1 x14_2 x14_3 x14_4 A_88 D_89 X_90 Y_91 B92 x16
            clear cX
            obtain ⟨_, y15_0, y15_1, y15_2, y15_3, y15_4⟩ := id Y_96
            go_wp2_with fail
            refine (cY _ (ht.on B97)).mono ?_; rintro e w17 ⟨rfl, x17⟩
            have A_98 := A_93.on x17
            have D_99 := D_94.on x17
            have X_100 := X_95.on x17
            have Y_101 := Y_96.on x17
            have B102 := B97.trans (x17.mono B97.size)
            clear y15_0 y15_1 y15_2 y15_3 y15_4 A_93 D_94 X_95 Y_96 B97 x17
            go_wp2
            go_ret
            exact ⟨rfl, B102⟩
          exact AllReadyH.nil
        exact AllReadyH.nil
      exact AllReadyH.nil
    refine AllReadyH.cons (o := _) rfl (fun K hK => ?_) ?_
    · go_simp
      have LZ := Lib.hid (And.intro (show w.heap.size + 1 < w10.heap.size from D_52.1) (And.intro (show w4.heap.size < w10.heap.size from X_53.1) (show w8.heap.size < w10.heap.size from Y_54.1)))
      have al := alO_ B55 (.cells #[.int .u8 0, .int .u32 0, .int .u16 0, .int .u32 0, .int .u16 0] 33)
      have A_56 := A_51.on al
      have D_57 := D_52.on al
      have X_58 := X_53.on al
      have Y_59 := Y_54.on al
      have Z_60 := Box5.make w10 (.int .u8 0) (.int .u32 0) (.int .u16 0) (.int .u32 0) (.int .u16 0) 33
      have B61 := B55.trans (al.mono B55.size)
      clear al
      clear A_51 D_52 X_53 Y_54 B55
      have fzZ_62 : ∀ i, (w10.alloc (.cells #[.int .u8 0, .int .u32 0, .int .u16 0, .int .u32 0, .int .u16 0] 33)).frozen? ⟨w10.heap.size, i, none⟩ = false := by intro i; simp [go_sem]
      obtain ⟨u11, hu11⟩ : ∃ x, x = w10.alloc (.cells #[.int .u8 0, .int .u32 0, .int .u16 0, .int .u32 0, .int .u16 0] 33) := ⟨_, rfl⟩
      rw [← hu11] at A_56 D_57 X_58 Y_59 Z_60 fzZ_62 B61 ⊢
      clear hu11
      refine hK.out _ _ ⟨A_56.2.1, D_57.2.1⟩ (fun _ => ?_)
      clear hK K
      try simp only [Act.put, puS_]
      refine wpAnyH_ready (rs := [7]) (by kernel_rfl) (by simp) ?_
      refine AllReadyH.cons (o := _) rfl (fun K hK => ?_) ?_
      · go_simp
        refine (jT _ (ht.on B61)).mono ?_; rintro e w12 ⟨rfl, x12⟩
        have fzZ_63 := fzB_ x12 Z_60.1 fzZ_62
        clear fzZ_62
        have A_64 := A_56.on x12
        have D_65 := D_57.on x12
        have X_66 := X_58.on x12
        have Y_67 := Y_59.on x12
        have Z_68 := Z_60.on x12
        have B69 := B61.trans (x12.mono B61.size)
        clear A_56 D_57 X_58 Y_59 Z_60 B61 x12
        show K _ _
        clear jT
        refine hK.out _ _ ⟨A_64.2.1, D_65.2.1⟩ (fun _ => ?_)
        clear hK K
        try simp only [Act.put, puS_]
        refine tk_ 8 (v := ?_) (by assumption) ?_ ?_
        rotate_left
        · intro w hSw
          (try dsimp only at hSw)
          go_simp
          with_reducible rfl
        try simp only [Act.put, puS_]
        refine tk_ 9 (v := ?_) (by assumption) ?_ ?_
        rotate_left
        · intro w hSw
          (try dsimp only at hSw)
          go_simp
          with_reducible rfl
        try simp only [Act.put, puS_]
        refine tk_ 10 (v := ?_) (by assumption) ?_ ?_
        rotate_left
        · intro w hSw
          (try dsimp only at hSw)
          go_simp
          with_reducible rfl
        try simp only [Act.put, puS_]
        refine wpAnyH_ready (rs := [12]) (by kernel_rfl) (by simp) ?_
        refine AllReadyH.cons (o := _) rfl (fun K hK => ?_) ?_
        · obtain ⟨_, z11_0, z11_1, z11_2, z11_3, z11_4⟩ := id Z_68
          go_simp
          clear z11_0 z11_1 z11_2 z11_3 z11_4
          refine box5_ (b := w10.heap.size) Z_68.some B69 (by have := LZ.out.1; omega) fun wz y0 y1 y2 y3 y4 BZ far sz => ?_
          have A_z := A_64.far far (by have := LZ.out.1; omega)
          have D_z := D_65.far far (by have := LZ.out.1; omega)
          have X_z := X_66.far far (by have := LZ.out.2.1; omega)
          have Y_z := Y_67.far far (by have := LZ.out.2.2; omega)
          clear A_64 D_65 X_66 Y_67 Z_68 fzZ_63 B69 y0 y1 y2 y3 y4 far sz
          refine hK.out _ _ ⟨A_z.2.1, D_z.2.1⟩ (fun _ => ?_)
          clear hK K
          try simp only [Act.put, puS_]
          refine wpAnyH_ready (rs := [13]) (by kernel_rfl) (by simp) ?_
          refine AllReadyH.cons (o := _) rfl (fun K hK => ?_) ?_
          · go_simp
            refine hK.out _ _ ⟨A_z.2.1, D_z.2.1⟩ (fun _ => ?_)
            clear hK K
            try simp only [Act.put, puS_]
            refine wpAnyH_done (by kernel_rfl) (NoPanic.normal ?_) _
            go_wp2_with fail
            refine (jP _ (ht.on BZ)).mono ?_; rintro e w13 ⟨rfl, x13⟩
            have A_70 := A_z.on x13
            have D_71 := D_z.on x13
            have X_72 := X_z.on x13
            have Y_73 := Y_z.on x13
            have B74 := BZ.trans (x13.mono BZ.size)
            clear A_z D_z X_z Y_z BZ x13
            clear jP
            have al := alO_ B74 (.cells #[.int .u8 0, .int .u32 0, .int .u16 0, .int .u32 0, .int .u16 0] 33)
            have A_75 := A_70.on al
            have D_76 := D_71.on al
            have X_77 := X_72.on al
            have Y_78 := Y_73.on al
            have B79 := B74.trans (al.mono B74.size)
            clear al
            clear A_70 D_71 X_72 Y_73 B74
            obtain ⟨_, a12_0, a12_1⟩ := id A_75
            obtain ⟨_, d13_0, d13_1⟩ := id D_76
            go_wp2_with fail
            refine (wW _).mono ?_; rintro e w14 ⟨rfl, x14⟩
            have A_80 := A_75.on x14
            have D_81 := D_76.on x14
            have X_82 := X_77.on x14
            have Y_83 := Y_78.on x14
            have B84 := B79.trans (x14.mono B79.size)
            clear a12_0 a12_1 d13_0 d13_1 A_75 D_76 X_77 Y_78 B79 x14
            clear wW
            go_wp2_with fail
            refine (jW _ (ht.on B84)).mono ?_; rintro e w15 ⟨rfl, x15⟩
            have A_85 := A_80.on x15
            have D_86 := D_81.on x15
            have X_87 := X_82.on x15
            have Y_88 := Y_83.on x15
            have B89 := B84.trans (x15.mono B84.size)
            clear A_80 D_81 X_82 Y_83 B84 x15
            clear jW
            have al := alO_ B89 (.cells #[.int .u8 0, .int .u32 0, .int .u16 0, .int .u32 0, .int .u16 0] 33)
            have A_90 := A_85.on al
            have D_91 := D_86.on al
            have X_92 := X_87.on al
            have Y_93 := Y_88.on al
            have B94 := B89.trans (al.mono B89.size)
            clear al
            clear A_85 D_86 X_87 Y_88 B89
            obtain ⟨_, x14_0, x14_1, x14_2, x14_3, x14_4⟩ := id X_92
            go_wp2_with fail
            refine (cX _ (ht.on B94)).mono ?_; rintro e w16 ⟨rfl, x16⟩
            have A_95 := A_90.on x16
            have D_96 := D_91.on x16
            have X_97 := X_92.on x16
            have Y_98 := Y_93.on x16
            have B99 := B94.trans (x16.mono B94.size)
            clear x14_0 x14_1 x14_2 x14_3 x14_4 A_90 D_91 X_92 Y_93 B94 x16
            clear cX
            obtain ⟨_, y15_0, y15_1, y15_2, y15_3, y15_4⟩ := id Y_98
            go_wp2_with fail
            refine (cY _ (ht.on B99)).mono ?_; rintro e w17 ⟨rfl, x17⟩
            have A_100 := A_95.on x17
            have D_101 := D_96.on x17
            have X_102 := X_97.on x17
            have Y_103 := Y_98.on x17
            have B104 := B99.trans (x17.mono B99.size)
            clear y15_0 y15_1 y15_2 y15_3 y15_4 A_95 D_96 X_97 Y_98 B99 x17
            go_wp2
            go_ret
            exact ⟨rfl, B104⟩
          exact AllReadyH.nil
        exact AllReadyH.nil
      exact AllReadyH.nil
    exact AllReadyH.nil
  refine AllReadyH.cons (o := _) rfl (fun K hK => ?_) ?_
  · go_simp
    have LZ := Lib.hid (And.intro (show w.heap.size + 1 < u9.heap.size from D_42.1) (And.intro (show w4.heap.size < u9.heap.size from X_43.1) (show w8.heap.size < u9.heap.size from Y_44.1)))
    have al := alO_ B45 (.cells #[.int .u8 0, .int .u32 0, .int .u16 0, .int .u32 0, .int .u16 0] 33)
    have A_46 := A_41.on al
    have D_47 := D_42.on al
    have X_48 := X_43.on al
    have Y_49 := Y_44.on al
    have Z_50 := Box5.make u9 (.int .u8 0) (.int .u32 0) (.int .u16 0) (.int .u32 0) (.int .u16 0) 33
    have B51 := B45.trans (al.mono B45.size)
    clear al
    clear A_41 D_42 X_43 Y_44 B45
    have fzZ_52 : ∀ i, (u9.alloc (.cells #[.int .u8 0, .int .u32 0, .int .u16 0, .int .u32 0, .int .u16 0] 33)).frozen? ⟨u9.heap.size, i, none⟩ = false := by intro i; simp [go_sem]
    have fzZ_53 := fzD_ Z_50.1 fzZ_52
    clear fzZ_52
    have A_54 := A_46.on ((Below.refl _ _).drew)
    have D_55 := D_47.on ((Below.refl _ _).drew)
    have X_56 := X_48.on ((Below.refl _ _).drew)
    have Y_57 := Y_49.on ((Below.refl _ _).drew)
    have Z_58 := Z_50.on ((Below.refl _ _).drew)
    have B59 := B51.drew
    clear A_46 D_47 X_48 Y_49 Z_50 B51
    obtain ⟨u10, hu10⟩ : ∃ x, x = (u9.alloc (.cells #[.int .u8 0, .int .u32 0, .int .u16 0, .int .u32 0, .int .u16 0] 33)).drew := ⟨_, rfl⟩
    rw [← hu10] at A_54 D_55 X_56 Y_57 Z_58 fzZ_53 B59 ⊢
    clear hu10
    refine hK.out _ _ ⟨A_54.2.1, D_55.2.1⟩ (fun _ => ?_)
    clear hK K
    try simp only [Act.put, puS_]
    refine wpAnyH_ready (rs := [6]) (by kernel_rfl) (by simp) ?_
    refine AllReadyH.cons (o := _) rfl (fun K hK => ?_) ?_
    · go_simp
      refine (wT _).mono ?_; rintro e w11 ⟨rfl, x11⟩
      have fzZ_60 := fzB_ x11 Z_58.1 fzZ_53
      clear fzZ_53
      have A_61 := A_54.on x11
      have D_62 := D_55.on x11
      have X_63 := X_56.on x11
      have Y_64 := Y_57.on x11
      have Z_65 := Z_58.on x11
      have B66 := B59.trans (x11.mono B59.size)
      clear A_54 D_55 X_56 Y_57 Z_58 B59 x11
      show K _ _
      clear wT
      refine hK.out _ _ ⟨A_61.2.1, D_62.2.1⟩ (fun _ => ?_)
      clear hK K
      try simp only [Act.put, puS_]
      refine wpAnyH_ready (rs := [7]) (by kernel_rfl) (by simp) ?_
      refine AllReadyH.cons (o := _) rfl (fun K hK => ?_) ?_
      · go_simp
        refine (jT _ (ht.on B66)).mono ?_; rintro e w12 ⟨rfl, x12⟩
        have fzZ_67 := fzB_ x12 Z_65.1 fzZ_60
        clear fzZ_60
        have A_68 := A_61.on x12
        have D_69 := D_62.on x12
        have X_70 := X_63.on x12
        have Y_71 := Y_64.on x12
        have Z_72 := Z_65.on x12
        have B73 := B66.trans (x12.mono B66.size)
        clear A_61 D_62 X_63 Y_64 Z_65 B66 x12
        show K _ _
        clear jT
        refine hK.out _ _ ⟨A_68.2.1, D_69.2.1⟩ (fun _ => ?_)
        clear hK K
        try simp only [Act.put, puS_]
        refine tk_ 8 (v := ?_) (by assumption) ?_ ?_
        rotate_left
        · intro w hSw
          (try dsimp only at hSw)
          go_simp
          with_reducible rfl
        try simp only [Act.put, puS_]
        refine tk_ 9 (v := ?_) (by assumption) ?_ ?_
        rotate_left
        · intro w hSw
          (try dsimp only at hSw)
          go_simp
          with_reducible rfl
        try simp only [Act.put, puS_]
        refine tk_ 10 (v := ?_) (by assumption) ?_ ?_
        rotate_left
        · intro w hSw
          (try dsimp only at hSw)
          go_simp
          with_reducible rfl
        try simp only [Act.put, puS_]
        refine wpAnyH_ready (rs := [12]) (by kernel_rfl) (by simp) ?_
        refine AllReadyH.cons (o := _) rfl (fun K hK => ?_) ?_
        · obtain ⟨_, z11_0, z11_1, z11_2, z11_3, z11_4⟩ := id Z_72
          go_simp
          clear z11_0 z11_1 z11_2 z11_3 z11_4
          refine box5_ (b := u9.heap.size) Z_72.some B73 (by have := LZ.out.1; omega) fun wz y0 y1 y2 y3 y4 BZ far sz => ?_
          have A_z := A_68.far far (by have := LZ.out.1; omega)
          have D_z := D_69.far far (by have := LZ.out.1; omega)
          have X_z := X_70.far far (by have := LZ.out.2.1; omega)
          have Y_z := Y_71.far far (by have := LZ.out.2.2; omega)
          clear A_68 D_69 X_70 Y_71 Z_72 fzZ_67 B73 y0 y1 y2 y3 y4 far sz
          refine hK.out _ _ ⟨A_z.2.1, D_z.2.1⟩ (fun _ => ?_)
          clear hK K
          try simp only [Act.put, puS_]
          refine wpAnyH_ready (rs := [13]) (by kernel_rfl) (by simp) ?_
          refine AllReadyH.cons (o := _) rfl (fun K hK => ?_) ?_
          · go_simp
            refine hK.out _ _ ⟨A_z.2.1, D_z.2.1⟩ (fun _ => ?_)
            clear hK K
            try simp only [Act.put, puS_]
            refine wpAnyH_done (by kernel_rfl) (NoPanic.normal ?_) _
            go_wp2_with fail
            refine (jP _ (ht.on BZ)).mono ?_; rintro e w13 ⟨rfl, x13⟩
            have A_74 := A_z.on x13
            have D_75 := D_z.on x13
            have X_76 := X_z.on x13
            have Y_77 := Y_z.on x13
            have B78 := BZ.trans (x13.mono BZ.size)
            clear A_z D_z X_z Y_z BZ x13
            clear jP
            have al := alO_ B78 (.cells #[.int .u8 0, .int .u32 0, .int .u16 0, .int .u32 0, .int .u16 0] 33)
            have A_79 := A_74.on al
            have D_80 := D_75.on al
            have X_81 := X_76.on al
            have Y_82 := Y_77.on al
            have B83 := B78.trans (al.mono B78.size)
            clear al
            clear A_74 D_75 X_76 Y_77 B78
            obtain ⟨_, a12_0, a12_1⟩ := id A_79
            obtain ⟨_, d13_0, d13_1⟩ := id D_80
            go_wp2_with fail
            refine (wW _).mono ?_; rintro e w14 ⟨rfl, x14⟩
            have A_84 := A_79.on x14
            have D_85 := D_80.on x14
            have X_86 := X_81.on x14
            have Y_87 := Y_82.on x14
            have B88 := B83.trans (x14.mono B83.size)
            clear a12_0 a12_1 d13_0 d13_1 A_79 D_80 X_81 Y_82 B83 x14
            clear wW
            go_wp2_with fail
            refine (jW _ (ht.on B88)).mono ?_; rintro e w15 ⟨rfl, x15⟩
            have A_89 := A_84.on x15
            have D_90 := D_85.on x15
            have X_91 := X_86.on x15
            have Y_92 := Y_87.on x15
            have B93 := B88.trans (x15.mono B88.size)
            clear A_84 D_85 X_86 Y_87 B88 x15
            clear jW
            have al := alO_ B93 (.cells #[.int .u8 0, .int .u32 0, .int .u16 0, .int .u32 0, .int .u16 0] 33)
            have A_94 := A_89.on al
            have D_95 := D_90.on al
            have X_96 := X_91.on al
            have Y_97 := Y_92.on al
            have B98 := B93.trans (al.mono B93.size)
            clear al
            clear A_89 D_90 X_91 Y_92 B93
            obtain ⟨_, x14_0, x14_1, x14_2, x14_3, x14_4⟩ := id X_96
            go_wp2_with fail
            refine (cX _ (ht.on B98)).mono ?_; rintro e w16 ⟨rfl, x16⟩
            have A_99 := A_94.on x16
            have D_100 := D_95.on x16
            have X_101 := X_96.on x16
            have Y_102 := Y_97.on x16
            have B103 := B98.trans (x16.mono B98.size)
            clear x14_0 x14_1 x14_2 x14_3 x14_4 A_94 D_95 X_96 Y_97 B98 x16
            clear cX
            obtain ⟨_, y15_0, y15_1, y15_2, y15_3, y15_4⟩ := id Y_102
            go_wp2_with fail
            refine (cY _ (ht.on B103)).mono ?_; rintro e w17 ⟨rfl, x17⟩
            have A_104 := A_99.on x17
            have D_105 := D_100.on x17
            have X_106 := X_101.on x17
            have Y_107 := Y_102.on x17
            have B108 := B103.trans (x17.mono B103.size)
            clear y15_0 y15_1 y15_2 y15_3 y15_4 A_99 D_100 X_101 Y_102 B103 x17
            go_wp2
            go_ret
            exact ⟨rfl, B108⟩
          exact AllReadyH.nil
        exact AllReadyH.nil
      exact AllReadyH.nil
    exact AllReadyH.nil
  exact AllReadyH.nil
end Go.Proofs.YtbpicngbjggblaaGreatDoor
