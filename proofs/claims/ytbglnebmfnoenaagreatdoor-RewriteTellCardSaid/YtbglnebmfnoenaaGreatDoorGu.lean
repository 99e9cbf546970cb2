/- Texts of this proof, together: RewM, RewY, RewL. -/
import Derived.Test.YtbglnebmfnoenaaGreatDoorGs
import Derived.Test.YtbglnebmfnoenaaGreatDoorGr
import Derived.Test.YtbglnebmfnoenaaGreatDoorGi
import Derived.Test.YtbglnebmfnoenaaGreatDoorGg
import Derived.Test.YtbglnebmfnoenaaGreatDoorGl
import Derived.Test.YtbglnebmfnoenaaGreatDoorSumsVoid
import Derived.Test.YtbglnebmfnoenaaGreatDoorGc
import Derived.Test.YtbglnebmfnoenaaGreatDoorGo
import Derived.BigRegion
import Derived.Deep.DeepCutAuto
namespace Go.Proofs.YtbglnebmfnoenaaGreatDoor
set_option linter.unusedVariables false
set_option linter.unusedSimpArgs false
open Go.ChangeShapes Go.WideShapes Go.ChangeAt Go.RowKit Go.PlainAid
attribute [local go_sem ↓] Go.wp_at_zero Go.wp_at_succ
structure RwOk : Prop where
  applies : ∀ (s : ByteArray) (a m b n : Int) (w : World), s.size ≤ 1000000 → okC a m b n → Tab w → Calls Tryz.prog 9 #[.string s, .agg #[.int .u32 a, .int .u16 m, .int .u32 b, .int .u16 n]] w fun e w' => e = .returned (.tuple #[.string (rwB s a m b n), .int .i64 (rwR s)]) ∧ Below w.heap.size w w'
end Go.Proofs.YtbglnebmfnoenaaGreatDoor

namespace Go.Proofs.YtbglnebmfnoenaaGreatDoor
set_option linter.unusedVariables false
set_option linter.unusedSimpArgs false
open Go.ChangeShapes Go.WideShapes Go.ChangeAt Go.RowKit Go.PlainAid
namespace RewLaid
def M1 : ByteArray := ⟨#[69, 0, 0, 29, 0, 0, 0, 0, 64, 17, 108, 202, 10, 0, 0, 1, 1, 2, 3, 4, 0, 5, 0, 53, 0, 9, 128, 155, 113]⟩
def A1 : ByteArray := ⟨#[69, 0, 0, 29, 0, 0, 0, 0, 63, 17, 107, 189, 5, 6, 7, 8, 1, 2, 3, 4, 35, 40, 0, 53, 0, 9, 91, 107, 113]⟩
def M2 : ByteArray := ⟨#[69, 0, 0, 29, 0, 0, 0, 0, 1, 17, 171, 202, 10, 0, 0, 1, 1, 2, 3, 4, 0, 5, 0, 53, 0, 9, 128, 155, 113]⟩
def M3 : ByteArray := ⟨#[97, 98, 99]⟩
def M4 : ByteArray := ⟨#[69, 0, 0, 29, 0, 0, 0, 0, 64, 1, 108, 218, 10, 0, 0, 1, 1, 2, 3, 4, 8, 0, 134, 247, 0, 7, 0, 1, 113]⟩
def A4 : ByteArray := ⟨#[69, 0, 0, 29, 0, 0, 0, 0, 63, 1, 107, 205, 5, 6, 7, 8, 1, 2, 3, 4, 8, 0, 99, 214, 35, 40, 0, 1, 113]⟩
def M5 : ByteArray := ⟨#[69, 0, 0, 29, 0, 0, 0, 0, 64, 1, 108, 218, 10, 0, 0, 1, 1, 2, 3, 4, 0, 0, 142, 247, 0, 7, 0, 1, 113]⟩
def A5 : ByteArray := ⟨#[69, 0, 0, 29, 0, 0, 0, 0, 63, 1, 107, 205, 5, 6, 7, 8, 1, 2, 3, 4, 0, 0, 142, 201, 0, 53, 0, 1, 113]⟩
theorem m1 : madeB 17 167772161 5 16909060 53 0 64 ⟨#[113]⟩ = M1 := by kernel_rfl
theorem m2 : madeB 17 167772161 5 16909060 53 0 1 ⟨#[113]⟩ = M2 := by kernel_rfl
theorem m4 : madeB 1 167772161 7 16909060 0 0 64 ⟨#[113]⟩ = M4 := by kernel_rfl
theorem m5 : madeB 1 167772161 0 16909060 7 0 64 ⟨#[113]⟩ = M5 := by kernel_rfl
theorem r1 : rwR M1 = 0 := by kernel_rfl
theorem r2 : rwR M2 = 8 := by kernel_rfl
theorem r3 : rwR M3 = 1 := by kernel_rfl
theorem r4 : rwR M4 = 0 := by kernel_rfl
theorem r5 : rwR M5 = 0 := by kernel_rfl
theorem a1 : rwB M1 84281096 9000 16909060 53 = A1 := by kernel_rfl
theorem a4 : rwB M4 84281096 9000 16909060 53 = A4 := by kernel_rfl
theorem a5 : rwB M5 84281096 9000 16909060 53 = A5 := by kernel_rfl
theorem s1 : sI A1 (bt A1 9) = 17 ∧ sI A1 (g32 A1 12) = 84281096 ∧ sI A1 (oM (bt A1 9) (pP A1)) = 9000 ∧ sI A1 (g32 A1 16) = 16909060 ∧ sI A1 (oN (bt A1 9) (pP A1)) = 53 ∧ sI A1 (oK (bt A1 9) (pP A1)) = 2 ∧ sI A1 (oF (bt A1 9) (pP A1)) = 0 ∧ sB A1 (oA (bt A1 9) (pP A1)) = false ∧ sI A1 (bt A1 8) = 63 ∧ seenR A1 = 0 := ⟨by kernel_rfl, by kernel_rfl, by kernel_rfl, by kernel_rfl, by kernel_rfl, by kernel_rfl, by kernel_rfl, by kernel_rfl, by kernel_rfl, by kernel_rfl⟩
theorem s4 : sI A4 (bt A4 9) = 1 ∧ sI A4 (g32 A4 12) = 84281096 ∧ sI A4 (oM (bt A4 9) (pP A4)) = 9000 ∧ sI A4 (g32 A4 16) = 16909060 ∧ sI A4 (oN (bt A4 9) (pP A4)) = 0 ∧ sI A4 (oK (bt A4 9) (pP A4)) = 2 ∧ sI A4 (oF (bt A4 9) (pP A4)) = 0 ∧ sB A4 (oA (bt A4 9) (pP A4)) = true ∧ sI A4 (bt A4 8) = 63 ∧ seenR A4 = 0 := ⟨by kernel_rfl, by kernel_rfl, by kernel_rfl, by kernel_rfl, by kernel_rfl, by kernel_rfl, by kernel_rfl, by kernel_rfl, by kernel_rfl, by kernel_rfl⟩
theorem s5 : sI A5 (bt A5 9) = 1 ∧ sI A5 (g32 A5 12) = 84281096 ∧ sI A5 (oM (bt A5 9) (pP A5)) = 0 ∧ sI A5 (g32 A5 16) = 16909060 ∧ sI A5 (oN (bt A5 9) (pP A5)) = 53 ∧ sI A5 (oK (bt A5 9) (pP A5)) = 2 ∧ sI A5 (oF (bt A5 9) (pP A5)) = 0 ∧ sB A5 (oA (bt A5 9) (pP A5)) = false ∧ sI A5 (bt A5 8) = 63 ∧ seenR A5 = 0 := ⟨by kernel_rfl, by kernel_rfl, by kernel_rfl, by kernel_rfl, by kernel_rfl, by kernel_rfl, by kernel_rfl, by kernel_rfl, by kernel_rfl, by kernel_rfl⟩
def X1 : List UInt8 := [117, 100, 112, 32, 53, 46, 54, 46, 55, 46, 56, 58, 57, 48, 48, 48, 32, 49, 46, 50, 46, 51, 46, 52, 58, 53, 51]
theorem x1 : ttextL 17 84281096 9000 16909060 53 = X1 := by kernel_rfl
end RewLaid
end Go.Proofs.YtbglnebmfnoenaaGreatDoor

namespace Go.Proofs.YtbglnebmfnoenaaGreatDoor
set_option linter.unusedVariables false
set_option linter.unusedSimpArgs false
open Go.ChangeShapes Go.WideShapes Go.ChangeAt Go.RowKit Go.PlainAid
attribute [local go_sem ↓] Go.wp_at_zero Go.wp_at_succ
set_option maxHeartbeats 4000000 in
set_option maxRecDepth 100000 in
theorem examples9_ (K : RwOk) (w : World) (ht : Tab w) :
    Calls Tryz.prog 8 #[] w fun e w' => e = .returned (.bool true) ∧ Below w.heap.size w w' := by
  have hc : okC 84281096 9000 16909060 53 := by unfold okC; omega
  have cm1 := fun u => rmade8_ 17 167772161 5 16909060 53 0 64 ⟨#[113]⟩ u (by omega) (by omega) (by omega) (by omega) (by omega) (by omega) (by omega) (by omega) (by omega) (by omega) (by omega) (by omega) (by omega) (by omega) (by decide)
  rw [RewLaid.m1] at cm1
  have ca1 := fun u hu => K.applies RewLaid.M1 84281096 9000 16909060 53 u (by decide) hc hu
  rw [RewLaid.a1, RewLaid.r1] at ca1
  have cm2 := fun u => rmade8_ 17 167772161 5 16909060 53 0 1 ⟨#[113]⟩ u (by omega) (by omega) (by omega) (by omega) (by omega) (by omega) (by omega) (by omega) (by omega) (by omega) (by omega) (by omega) (by omega) (by omega) (by decide)
  rw [RewLaid.m2] at cm2
  have ca2 := fun u hu => K.applies RewLaid.M2 84281096 9000 16909060 53 u (by decide) hc hu
  rw [rw_no (by rw [RewLaid.r2]; decide), RewLaid.r2] at ca2
  have cm4 := fun u => rmade8_ 1 167772161 7 16909060 0 0 64 ⟨#[113]⟩ u (by omega) (by omega) (by omega) (by omega) (by omega) (by omega) (by omega) (by omega) (by omega) (by omega) (by omega) (by omega) (by omega) (by omega) (by decide)
  rw [RewLaid.m4] at cm4
  have ca4 := fun u hu => K.applies RewLaid.M4 84281096 9000 16909060 53 u (by decide) hc hu
  rw [RewLaid.a4, RewLaid.r4] at ca4
  have cm5 := fun u => rmade8_ 1 167772161 0 16909060 7 0 64 ⟨#[113]⟩ u (by omega) (by omega) (by omega) (by omega) (by omega) (by omega) (by omega) (by omega) (by omega) (by omega) (by omega) (by omega) (by omega) (by omega) (by decide)
  rw [RewLaid.m5] at cm5
  have ca5 := fun u hu => K.applies RewLaid.M5 84281096 9000 16909060 53 u (by decide) hc hu
  rw [RewLaid.a5, RewLaid.r5] at ca5
  have ca3 := fun u hu => K.applies ⟨#[97, 98, 99]⟩ 84281096 9000 16909060 53 u (by decide) hc hu
  rw [rw_no (by rw [show rwR ⟨#[97, 98, 99]⟩ = 1 from RewLaid.r3]; decide), show rwR ⟨#[97, 98, 99]⟩ = 1 from RewLaid.r3] at ca3
  have co1 := fun u => of8_ RewLaid.A1 u (by decide)
  rw [RewLaid.s1.1, RewLaid.s1.2.1, RewLaid.s1.2.2.1, RewLaid.s1.2.2.2.1, RewLaid.s1.2.2.2.2.1, RewLaid.s1.2.2.2.2.2.1, RewLaid.s1.2.2.2.2.2.2.1, RewLaid.s1.2.2.2.2.2.2.2.1, RewLaid.s1.2.2.2.2.2.2.2.2.1, RewLaid.s1.2.2.2.2.2.2.2.2.2] at co1
  have co4 := fun u => of8_ RewLaid.A4 u (by decide)
  rw [RewLaid.s4.1, RewLaid.s4.2.1, RewLaid.s4.2.2.1, RewLaid.s4.2.2.2.1, RewLaid.s4.2.2.2.2.1, RewLaid.s4.2.2.2.2.2.1, RewLaid.s4.2.2.2.2.2.2.1, RewLaid.s4.2.2.2.2.2.2.2.1, RewLaid.s4.2.2.2.2.2.2.2.2.1, RewLaid.s4.2.2.2.2.2.2.2.2.2] at co4
  have co5 := fun u => of8_ RewLaid.A5 u (by decide)
  rw [RewLaid.s5.1, RewLaid.s5.2.1, RewLaid.s5.2.2.1, RewLaid.s5.2.2.2.1, RewLaid.s5.2.2.2.2.1, RewLaid.s5.2.2.2.2.2.1, RewLaid.s5.2.2.2.2.2.2.1, RewLaid.s5.2.2.2.2.2.2.2.1, RewLaid.s5.2.2.2.2.2.2.2.2.1, RewLaid.s5.2.2.2.2.2.2.2.2.2] at co5
  have ct := fun u hu => text8_ 17 84281096 9000 16909060 53 u (by omega) (by omega) (by omega) (by omega) hu
  rw [RewLaid.x1] at ct
  have ex : ((str RewLaid.X1).toList == [117, 100, 112, 32, 53, 46, 54, 46, 55, 46, 56, 58, 57, 48, 48, 48, 32, 49, 46, 50, 46, 51, 46, 52, 58, 53, 51]) = true := by rw [str_toList]; rfl
  have ex2 : (str RewLaid.X1).toList = [117, 100, 112, 32, 53, 46, 54, 46, 55, 46, 56, 58, 57, 48, 48, 48, 32, 49, 46, 50, 46, 51, 46, 52, 58, 53, 51] := by rw [str_toList]; rfl
  obtain ⟨X1, hX1⟩ : ∃ x, x = str RewLaid.X1 := ⟨_, rfl⟩
  rw [← hX1] at ct ex ex2
  clear hX1 hc
  go_enter Tryz.func8, Tryz.ntmps8
  have B1 := Below.refl w.heap.size w
  go_upto_region 4 with fail
  have B2 := B1.alloc B1.size (.cells #[.int .u32 167772161, .int .u16 5] 26)
  clear B1
  have B3 := B2.alloc B2.size (.cells #[.int .u32 16909060, .int .u16 53] 26)
  clear B2
  have hs_ : ((w.alloc (.cells #[.int .u32 167772161, .int .u16 5] 26)).alloc (.cells #[.int .u32 16909060, .int .u16 53] 26)).heap.size = w.heap.size + 2 := by simp
  have C_4 := Box4.make ((w.alloc (.cells #[.int .u32 167772161, .int .u16 5] 26)).alloc (.cells #[.int .u32 16909060, .int .u16 53] 26)) (.int .u32 84281096) (.int .u16 9000) (.int .u32 16909060) (.int .u16 53) 28
  rw [hs_] at C_4
  clear hs_
  have B5 := B3.alloc B3.size (.cells #[.int .u32 84281096, .int .u16 9000, .int .u32 16909060, .int .u16 53] 28)
  clear B3
  have C_6 := C_4.past (o := (.cells #[.int .u8 17, .int .u32 167772161, .int .u16 5, .int .u32 16909060, .int .u16 53] 36))
  have hs_ : (((w.alloc (.cells #[.int .u32 167772161, .int .u16 5] 26)).alloc (.cells #[.int .u32 16909060, .int .u16 53] 26)).alloc (.cells #[.int .u32 84281096, .int .u16 9000, .int .u32 16909060, .int .u16 53] 28)).heap.size = w.heap.size + 3 := by simp
  have T_7 := Box5.make (((w.alloc (.cells #[.int .u32 167772161, .int .u16 5] 26)).alloc (.cells #[.int .u32 16909060, .int .u16 53] 26)).alloc (.cells #[.int .u32 84281096, .int .u16 9000, .int .u32 16909060, .int .u16 53] 28)) (.int .u8 17) (.int .u32 167772161) (.int .u16 5) (.int .u32 16909060) (.int .u16 53) 36
  rw [hs_] at T_7
  clear hs_
  have B8 := B5.alloc B5.size (.cells #[.int .u8 17, .int .u32 167772161, .int .u16 5, .int .u32 16909060, .int .u16 53] 36)
  clear C_4 B5
  have fzT_9 : ∀ i, ((((w.alloc (.cells #[.int .u32 167772161, .int .u16 5] 26)).alloc (.cells #[.int .u32 16909060, .int .u16 53] 26)).alloc (.cells #[.int .u32 84281096, .int .u16 9000, .int .u32 16909060, .int .u16 53] 28)).alloc (.cells #[.int .u8 17, .int .u32 167772161, .int .u16 5, .int .u32 16909060, .int .u16 53] 36)).frozen? ⟨(w.heap.size + 1 + 1 + 1), i, none⟩ = false := by intro i; simp [go_sem]
  obtain ⟨u1, hu1⟩ : ∃ x, x = (((w.alloc (.cells #[.int .u32 167772161, .int .u16 5] 26)).alloc (.cells #[.int .u32 16909060, .int .u16 53] 26)).alloc (.cells #[.int .u32 84281096, .int .u16 9000, .int .u32 16909060, .int .u16 53] 28)).alloc (.cells #[.int .u8 17, .int .u32 167772161, .int .u16 5, .int .u32 16909060, .int .u16 53] 36) := ⟨_, rfl⟩
  rw [← hu1] at C_6 T_7 fzT_9 B8 ⊢
  clear hu1
  have C_l : Box4 u1 (w.heap.size + 1 + 1) (.int .u32 84281096) (.int .u16 9000) (.int .u32 16909060) (.int .u16 53) := C_6
  have T_l : Box5 u1 (w.heap.size + 1 + 1 + 1) (.int .u8 17) (.int .u32 167772161) (.int .u16 5) (.int .u32 16909060) (.int .u16 53) := T_7
  clear T_7 C_6
  obtain ⟨at_, hat⟩ : ∃ x, x = w.heap.size + 1 + 1 + 1 := ⟨_, rfl⟩
  rw [← hat] at T_l fzT_9 ⊢
  obtain ⟨ac_, hac⟩ : ∃ x, x = w.heap.size + 1 + 1 := ⟨_, rfl⟩
  rw [← hac] at C_l ⊢
  have ne1_ : ¬ at_ = ac_ := by omega
  have ne2_ : ¬ ac_ = at_ := by omega
  have Lt_ := Lib.hid (show w.heap.size ≤ at_ by omega)
  clear hat hac
  have HT := ht.on B8
  obtain ⟨zc, gc0, gc1, gc2, gc3⟩ := id C_l
  have Fc0 : ∀ x : Later u1.heap.size u1, x.u.cell? ⟨ac_, 0, none⟩ = some (.int .u32 84281096) := fun x => x.block zc gc0
  have Fc1 : ∀ x : Later u1.heap.size u1, x.u.cell? ⟨ac_, 1, none⟩ = some (.int .u16 9000) := fun x => x.block zc gc1
  have Fc2 : ∀ x : Later u1.heap.size u1, x.u.cell? ⟨ac_, 2, none⟩ = some (.int .u32 16909060) := fun x => x.block zc gc2
  have Fc3 : ∀ x : Later u1.heap.size u1, x.u.cell? ⟨ac_, 3, none⟩ = some (.int .u16 53) := fun x => x.block zc gc3
  clear gc0 gc1 gc2 gc3
  obtain ⟨zt, gt0, gt1, gt2, gt3, gt4⟩ := id T_l
  have Ft0 : ∀ x : Later u1.heap.size u1, x.u.cell? ⟨at_, 0, none⟩ = some (.int .u8 17) := fun x => x.block zt gt0
  have Ft1 : ∀ x : Later u1.heap.size u1, x.u.cell? ⟨at_, 1, none⟩ = some (.int .u32 167772161) := fun x => x.block zt gt1
  have Ft2 : ∀ x : Later u1.heap.size u1, x.u.cell? ⟨at_, 2, none⟩ = some (.int .u16 5) := fun x => x.block zt gt2
  have Ft3 : ∀ x : Later u1.heap.size u1, x.u.cell? ⟨at_, 3, none⟩ = some (.int .u32 16909060) := fun x => x.block zt gt3
  have Ft4 : ∀ x : Later u1.heap.size u1, x.u.cell? ⟨at_, 4, none⟩ = some (.int .u16 53) := fun x => x.block zt gt4
  clear gt0 gt1 gt2 gt3 gt4
  refine region_later (B := u1.heap.size) (by kernel_rfl) (by kernel_rfl) ?_
  repeat (go_big_quiet_step (first
    | (go_at_call 17; exact later_of _ (Nat.le_refl _) (cm1 _))
    | (go_at_call 9; exact later_of _ (Nat.le_refl _) (ca1 _ (HT.on (Later.h _))))))
  refine later_end fun w1 x1 => ?_
  have fzT_10 : ∀ i, w1.frozen? ⟨at_, i, none⟩ = false := fun i => (x1.frozen (p := ⟨_, i, none⟩) T_l.1).trans (fzT_9 i)
  clear fzT_9
  have C_11 := C_l.on x1
  have T_12 := T_l.on x1
  have B13 := B8.trans (x1.mono B8.size)
  clear Fc0 Fc1 Fc2 Fc3 zc Ft0 Ft1 Ft2 Ft3 Ft4 zt C_l T_l B8 x1
  clear HT cm1 ca1
  go_wp2_with fail
  have HT := ht.on B13
  obtain ⟨zc, gc0, gc1, gc2, gc3⟩ := id C_11
  have Fc0 : ∀ x : Later w1.heap.size w1, x.u.cell? ⟨ac_, 0, none⟩ = some (.int .u32 84281096) := fun x => x.block zc gc0
  have Fc1 : ∀ x : Later w1.heap.size w1, x.u.cell? ⟨ac_, 1, none⟩ = some (.int .u16 9000) := fun x => x.block zc gc1
  have Fc2 : ∀ x : Later w1.heap.size w1, x.u.cell? ⟨ac_, 2, none⟩ = some (.int .u32 16909060) := fun x => x.block zc gc2
  have Fc3 : ∀ x : Later w1.heap.size w1, x.u.cell? ⟨ac_, 3, none⟩ = some (.int .u16 53) := fun x => x.block zc gc3
  clear gc0 gc1 gc2 gc3
  obtain ⟨zt, gt0, gt1, gt2, gt3, gt4⟩ := id T_12
  have Ft0 : ∀ x : Later w1.heap.size w1, x.u.cell? ⟨at_, 0, none⟩ = some (.int .u8 17) := fun x => x.block zt gt0
  have Ft1 : ∀ x : Later w1.heap.size w1, x.u.cell? ⟨at_, 1, none⟩ = some (.int .u32 167772161) := fun x => x.block zt gt1
  have Ft2 : ∀ x : Later w1.heap.size w1, x.u.cell? ⟨at_, 2, none⟩ = some (.int .u16 5) := fun x => x.block zt gt2
  have Ft3 : ∀ x : Later w1.heap.size w1, x.u.cell? ⟨at_, 3, none⟩ = some (.int .u32 16909060) := fun x => x.block zt gt3
  have Ft4 : ∀ x : Later w1.heap.size w1, x.u.cell? ⟨at_, 4, none⟩ = some (.int .u16 53) := fun x => x.block zt gt4
  clear gt0 gt1 gt2 gt3 gt4
  refine region_later (B := w1.heap.size) (by kernel_rfl) (by kernel_rfl) ?_
  repeat (go_big_quiet_step (first
    | (go_at_call 17; exact later_of _ (Nat.le_refl _) (cm2 _))
    | (go_at_call 9; exact later_of _ (Nat.le_refl _) (ca2 _ (HT.on (Later.h _))))))
  refine later_end fun w2 x2 => ?_
  have fzT_14 : ∀ i, w2.frozen? ⟨at_, i, none⟩ = false := fun i => (x2.frozen (p := ⟨_, i, none⟩) T_12.1).trans (fzT_10 i)
  clear fzT_10
  have C_15 := C_11.on x2
  have T_16 := T_12.on x2
  have B17 := B13.trans (x2.mono B13.size)
  clear Fc0 Fc1 Fc2 Fc3 zc Ft0 Ft1 Ft2 Ft3 Ft4 zt C_11 T_12 B13 x2
  clear HT cm2 ca2
  obtain ⟨_, c1_0, c1_1, c1_2, c1_3⟩ := id C_15
  go_wp2_with fail
  refine (ca3 _ (ht.on B17)).mono ?_; rintro e w3 ⟨rfl, x3⟩
  have fzT_18 : ∀ i, w3.frozen? ⟨at_, i, none⟩ = false := fun i => (x3.frozen (p := ⟨_, i, none⟩) T_16.1).trans (fzT_14 i)
  clear fzT_14
  have C_19 := C_15.on x3
  have T_20 := T_16.on x3
  have B21 := B17.trans (x3.mono B17.size)
  clear c1_0 c1_1 c1_2 c1_3 C_15 T_16 B17 x3
  clear ca3
  obtain ⟨_, t2_0, t2_1, t2_2, t2_3, t2_4⟩ := id T_20
  go_upto_region 8 with fail
  clear t2_0 t2_1 t2_2 t2_3 t2_4
  obtain ⟨_, c3_0, c3_1, c3_2, c3_3⟩ := id C_19
  obtain ⟨_, t4_0, t4_1, t4_2, t4_3, t4_4⟩ := id T_20
  have B22 := (((B21.setCell (p := ⟨at_, 0, none⟩) Lt_.out (.int .u8 1)).setCell (p := ⟨at_, 2, none⟩) Lt_.out (.int .u16 7)).setCell (p := ⟨at_, 4, none⟩) Lt_.out (.int .u16 0))
  have C_23 : Box4 (((w3.setCell ⟨at_, 0, none⟩ (.int .u8 1)).setCell ⟨at_, 2, none⟩ (.int .u16 7)).setCell ⟨at_, 4, none⟩ (.int .u16 0)) ac_ (.int .u32 84281096) (.int .u16 9000) (.int .u32 16909060) (.int .u16 53) := ⟨by have := C_19.1; simpa using this, by simp [go_sem, c3_0, c3_1, c3_2, c3_3, t4_0, t4_1, t4_2, t4_3, t4_4], by simp [go_sem, c3_0, c3_1, c3_2, c3_3, t4_0, t4_1, t4_2, t4_3, t4_4], by simp [go_sem, c3_0, c3_1, c3_2, c3_3, t4_0, t4_1, t4_2, t4_3, t4_4], by simp [go_sem, c3_0, c3_1, c3_2, c3_3, t4_0, t4_1, t4_2, t4_3, t4_4]⟩
  have T_24 : Box5 (((w3.setCell ⟨at_, 0, none⟩ (.int .u8 1)).setCell ⟨at_, 2, none⟩ (.int .u16 7)).setCell ⟨at_, 4, none⟩ (.int .u16 0)) at_ (.int .u8 1) (.int .u32 167772161) (.int .u16 7) (.int .u32 16909060) (.int .u16 0) := ⟨by have := T_20.1; simpa using this, by simp [go_sem, c3_0, c3_1, c3_2, c3_3, t4_0, t4_1, t4_2, t4_3, t4_4], by simp [go_sem, c3_0, c3_1, c3_2, c3_3, t4_0, t4_1, t4_2, t4_3, t4_4], by simp [go_sem, c3_0, c3_1, c3_2, c3_3, t4_0, t4_1, t4_2, t4_3, t4_4], by simp [go_sem, c3_0, c3_1, c3_2, c3_3, t4_0, t4_1, t4_2, t4_3, t4_4], by simp [go_sem, c3_0, c3_1, c3_2, c3_3, t4_0, t4_1, t4_2, t4_3, t4_4]⟩
  have fzT_25 : ∀ i, (((w3.setCell ⟨at_, 0, none⟩ (.int .u8 1)).setCell ⟨at_, 2, none⟩ (.int .u16 7)).setCell ⟨at_, 4, none⟩ (.int .u16 0)).frozen? ⟨at_, i, none⟩ = false := by intro i; simp [fzT_18]
  clear c3_0 c3_1 c3_2 c3_3 t4_0 t4_1 t4_2 t4_3 t4_4 C_19 T_20 fzT_18 B21
  obtain ⟨u4, hu4⟩ : ∃ x, x = (((w3.setCell ⟨at_, 0, none⟩ (.int .u8 1)).setCell ⟨at_, 2, none⟩ (.int .u16 7)).setCell ⟨at_, 4, none⟩ (.int .u16 0)) := ⟨_, rfl⟩
  rw [← hu4] at C_23 T_24 fzT_25 B22 ⊢
  clear hu4
  have HT := ht.on B22
  obtain ⟨zc, gc0, gc1, gc2, gc3⟩ := id C_23
  have Fc0 : ∀ x : Later u4.heap.size u4, x.u.cell? ⟨ac_, 0, none⟩ = some (.int .u32 84281096) := fun x => x.block zc gc0
  have Fc1 : ∀ x : Later u4.heap.size u4, x.u.cell? ⟨ac_, 1, none⟩ = some (.int .u16 9000) := fun x => x.block zc gc1
  have Fc2 : ∀ x : Later u4.heap.size u4, x.u.cell? ⟨ac_, 2, none⟩ = some (.int .u32 16909060) := fun x => x.block zc gc2
  have Fc3 : ∀ x : Later u4.heap.size u4, x.u.cell? ⟨ac_, 3, none⟩ = some (.int .u16 53) := fun x => x.block zc gc3
  clear gc0 gc1 gc2 gc3
  obtain ⟨zt, gt0, gt1, gt2, gt3, gt4⟩ := id T_24
  have Ft0 : ∀ x : Later u4.heap.size u4, x.u.cell? ⟨at_, 0, none⟩ = some (.int .u8 1) := fun x => x.block zt gt0
  have Ft1 : ∀ x : Later u4.heap.size u4, x.u.cell? ⟨at_, 1, none⟩ = some (.int .u32 167772161) := fun x => x.block zt gt1
  have Ft2 : ∀ x : Later u4.heap.size u4, x.u.cell? ⟨at_, 2, none⟩ = some (.int .u16 7) := fun x => x.block zt gt2
  have Ft3 : ∀ x : Later u4.heap.size u4, x.u.cell? ⟨at_, 3, none⟩ = some (.int .u32 16909060) := fun x => x.block zt gt3
  have Ft4 : ∀ x : Later u4.heap.size u4, x.u.cell? ⟨at_, 4, none⟩ = some (.int .u16 0) := fun x => x.block zt gt4
  clear gt0 gt1 gt2 gt3 gt4
  refine region_later (B := u4.heap.size) (by kernel_rfl) (by kernel_rfl) ?_
  repeat (go_big_quiet_step (first
    | (go_at_call 17; exact later_of _ (Nat.le_refl _) (cm4 _))
    | (go_at_call 9; exact later_of _ (Nat.le_refl _) (ca4 _ (HT.on (Later.h _))))))
  refine later_end fun w5 x5 => ?_
  have fzT_26 : ∀ i, w5.frozen? ⟨at_, i, none⟩ = false := fun i => (x5.frozen (p := ⟨_, i, none⟩) T_24.1).trans (fzT_25 i)
  clear fzT_25
  have C_27 := C_23.on x5
  have T_28 := T_24.on x5
  have B29 := B22.trans (x5.mono B22.size)
  clear Fc0 Fc1 Fc2 Fc3 zc Ft0 Ft1 Ft2 Ft3 Ft4 zt C_23 T_24 B22 x5
  clear HT cm4 ca4
  obtain ⟨_, t5_0, t5_1, t5_2, t5_3, t5_4⟩ := id T_28
  go_upto_region 10 with fail
  clear t5_0 t5_1 t5_2 t5_3 t5_4
  obtain ⟨_, c6_0, c6_1, c6_2, c6_3⟩ := id C_27
  obtain ⟨_, t7_0, t7_1, t7_2, t7_3, t7_4⟩ := id T_28
  have B30 := ((B29.setCell (p := ⟨at_, 2, none⟩) Lt_.out (.int .u16 0)).setCell (p := ⟨at_, 4, none⟩) Lt_.out (.int .u16 7))
  have C_31 : Box4 ((w5.setCell ⟨at_, 2, none⟩ (.int .u16 0)).setCell ⟨at_, 4, none⟩ (.int .u16 7)) ac_ (.int .u32 84281096) (.int .u16 9000) (.int .u32 16909060) (.int .u16 53) := ⟨by have := C_27.1; simpa using this, by simp [go_sem, c6_0, c6_1, c6_2, c6_3, t7_0, t7_1, t7_2, t7_3, t7_4], by simp [go_sem, c6_0, c6_1, c6_2, c6_3, t7_0, t7_1, t7_2, t7_3, t7_4], by simp [go_sem, c6_0, c6_1, c6_2, c6_3, t7_0, t7_1, t7_2, t7_3, t7_4], by simp [go_sem, c6_0, c6_1, c6_2, c6_3, t7_0, t7_1, t7_2, t7_3, t7_4]⟩
  have T_32 : Box5 ((w5.setCell ⟨at_, 2, none⟩ (.int .u16 0)).setCell ⟨at_, 4, none⟩ (.int .u16 7)) at_ (.int .u8 1) (.int .u32 167772161) (.int .u16 0) (.int .u32 16909060) (.int .u16 7) := ⟨by have := T_28.1; simpa using this, by simp [go_sem, c6_0, c6_1, c6_2, c6_3, t7_0, t7_1, t7_2, t7_3, t7_4], by simp [go_sem, c6_0, c6_1, c6_2, c6_3, t7_0, t7_1, t7_2, t7_3, t7_4], by simp [go_sem, c6_0, c6_1, c6_2, c6_3, t7_0, t7_1, t7_2, t7_3, t7_4], by simp [go_sem, c6_0, c6_1, c6_2, c6_3, t7_0, t7_1, t7_2, t7_3, t7_4], by simp [go_sem, c6_0, c6_1, c6_2, c6_3, t7_0, t7_1, t7_2, t7_3, t7_4]⟩
  have fzT_33 : ∀ i, ((w5.setCell ⟨at_, 2, none⟩ (.int .u16 0)).setCell ⟨at_, 4, none⟩ (.int .u16 7)).frozen? ⟨at_, i, none⟩ = false := by intro i; simp [fzT_26]
  clear c6_0 c6_1 c6_2 c6_3 t7_0 t7_1 t7_2 t7_3 t7_4 C_27 T_28 fzT_26 B29
  obtain ⟨u6, hu6⟩ : ∃ x, x = ((w5.setCell ⟨at_, 2, none⟩ (.int .u16 0)).setCell ⟨at_, 4, none⟩ (.int .u16 7)) := ⟨_, rfl⟩
  rw [← hu6] at C_31 T_32 fzT_33 B30 ⊢
  clear hu6
  have HT := ht.on B30
  obtain ⟨zc, gc0, gc1, gc2, gc3⟩ := id C_31
  have Fc0 : ∀ x : Later u6.heap.size u6, x.u.cell? ⟨ac_, 0, none⟩ = some (.int .u32 84281096) := fun x => x.block zc gc0
  have Fc1 : ∀ x : Later u6.heap.size u6, x.u.cell? ⟨ac_, 1, none⟩ = some (.int .u16 9000) := fun x => x.block zc gc1
  have Fc2 : ∀ x : Later u6.heap.size u6, x.u.cell? ⟨ac_, 2, none⟩ = some (.int .u32 16909060) := fun x => x.block zc gc2
  have Fc3 : ∀ x : Later u6.heap.size u6, x.u.cell? ⟨ac_, 3, none⟩ = some (.int .u16 53) := fun x => x.block zc gc3
  clear gc0 gc1 gc2 gc3
  obtain ⟨zt, gt0, gt1, gt2, gt3, gt4⟩ := id T_32
  have Ft0 : ∀ x : Later u6.heap.size u6, x.u.cell? ⟨at_, 0, none⟩ = some (.int .u8 1) := fun x => x.block zt gt0
  have Ft1 : ∀ x : Later u6.heap.size u6, x.u.cell? ⟨at_, 1, none⟩ = some (.int .u32 167772161) := fun x => x.block zt gt1
  have Ft2 : ∀ x : Later u6.heap.size u6, x.u.cell? ⟨at_, 2, none⟩ = some (.int .u16 0) := fun x => x.block zt gt2
  have Ft3 : ∀ x : Later u6.heap.size u6, x.u.cell? ⟨at_, 3, none⟩ = some (.int .u32 16909060) := fun x => x.block zt gt3
  have Ft4 : ∀ x : Later u6.heap.size u6, x.u.cell? ⟨at_, 4, none⟩ = some (.int .u16 7) := fun x => x.block zt gt4
  clear gt0 gt1 gt2 gt3 gt4
  refine region_later (B := u6.heap.size) (by kernel_rfl) (by kernel_rfl) ?_
  repeat (go_big_quiet_step (first
    | (go_at_call 17; exact later_of _ (Nat.le_refl _) (cm5 _))
    | (go_at_call 9; exact later_of _ (Nat.le_refl _) (ca5 _ (HT.on (Later.h _))))))
  refine later_end fun w7 x7 => ?_
  have fzT_34 : ∀ i, w7.frozen? ⟨at_, i, none⟩ = false := fun i => (x7.frozen (p := ⟨_, i, none⟩) T_32.1).trans (fzT_33 i)
  clear fzT_33
  have C_35 := C_31.on x7
  have T_36 := T_32.on x7
  have B37 := B30.trans (x7.mono B30.size)
  clear Fc0 Fc1 Fc2 Fc3 zc Ft0 Ft1 Ft2 Ft3 Ft4 zt C_31 T_32 B30 x7
  clear HT cm5 ca5
  clear C_35 T_36
  clear fzT_34
  clear ne1_ ne2_ Lt_
  go_wp2_with fail
  refine (co1 _).mono ?_; rintro e w8 ⟨rfl, x8⟩
  have B38 := B37.trans (x8.mono B37.size)
  clear B37 x8
  clear co1
  have X_39 := Box9.make w8 (.int .u8 17) (.int .u32 84281096) (.int .u16 9000) (.int .u32 16909060) (.int .u16 53) (.int .i64 2) (.int .u8 0) (.bool false) (.int .u8 63) 38
  have B40 := B38.alloc B38.size (.cells #[.int .u8 17, .int .u32 84281096, .int .u16 9000, .int .u32 16909060, .int .u16 53, .int .i64 2, .int .u8 0, .bool false, .int .u8 63] 38)
  clear B38
  go_wp2_with fail
  refine (co4 _).mono ?_; rintro e w9 ⟨rfl, x9⟩
  have X_41 := X_39.on x9
  have B42 := B40.trans (x9.mono B40.size)
  clear X_39 B40 x9
  clear co4
  have X_43 := X_41.past (o := (.cells #[.int .u8 1, .int .u32 84281096, .int .u16 9000, .int .u32 16909060, .int .u16 0, .int .i64 2, .int .u8 0, .bool true, .int .u8 63] 38))
  have Y_44 := Box9.make w9 (.int .u8 1) (.int .u32 84281096) (.int .u16 9000) (.int .u32 16909060) (.int .u16 0) (.int .i64 2) (.int .u8 0) (.bool true) (.int .u8 63) 38
  have B45 := B42.alloc B42.size (.cells #[.int .u8 1, .int .u32 84281096, .int .u16 9000, .int .u32 16909060, .int .u16 0, .int .i64 2, .int .u8 0, .bool true, .int .u8 63] 38)
  clear X_41 B42
  go_wp2_with fail
  refine (co5 _).mono ?_; rintro e w10 ⟨rfl, x10⟩
  have X_46 := X_43.on x10
  have Y_47 := Y_44.on x10
  have B48 := B45.trans (x10.mono B45.size)
  clear X_43 Y_44 B45 x10
  clear co5
  have X_49 := X_46.past (o := (.cells #[.int .u8 1, .int .u32 84281096, .int .u16 0, .int .u32 16909060, .int .u16 53, .int .i64 2, .int .u8 0, .bool false, .int .u8 63] 38))
  have Y_50 := Y_47.past (o := (.cells #[.int .u8 1, .int .u32 84281096, .int .u16 0, .int .u32 16909060, .int .u16 53, .int .i64 2, .int .u8 0, .bool false, .int .u8 63] 38))
  have V_51 := Box9.make w10 (.int .u8 1) (.int .u32 84281096) (.int .u16 0) (.int .u32 16909060) (.int .u16 53) (.int .i64 2) (.int .u8 0) (.bool false) (.int .u8 63) 38
  have B52 := B48.alloc B48.size (.cells #[.int .u8 1, .int .u32 84281096, .int .u16 0, .int .u32 16909060, .int .u16 53, .int .i64 2, .int .u8 0, .bool false, .int .u8 63] 38)
  clear X_46 Y_47 B48
  obtain ⟨_, x8_0, x8_1, x8_2, x8_3, x8_4, x8_5, x8_6, x8_7, x8_8⟩ := id X_49
  obtain ⟨_, y9_0, y9_1, y9_2, y9_3, y9_4, y9_5, y9_6, y9_7, y9_8⟩ := id Y_50
  obtain ⟨_, v10_0, v10_1, v10_2, v10_3, v10_4, v10_5, v10_6, v10_7, v10_8⟩ := id V_51
  go_wp2_with fail
  refine (ct _ (ht.on B52)).mono ?_; rintro e w11 ⟨rfl, x11⟩
  have X_53 := X_49.on x11
  have Y_54 := Y_50.on x11
  have V_55 := V_51.on x11
  have B56 := B52.trans (x11.mono B52.size)
  clear x8_0 x8_1 x8_2 x8_3 x8_4 x8_5 x8_6 x8_7 x8_8 y9_0 y9_1 y9_2 y9_3 y9_4 y9_5 y9_6 y9_7 y9_8 v10_0 v10_1 v10_2 v10_3 v10_4 v10_5 v10_6 v10_7 v10_8 X_49 Y_50 V_51 B52 x11
  obtain ⟨_, x11_0, x11_1, x11_2, x11_3, x11_4, x11_5, x11_6, x11_7, x11_8⟩ := id X_53
  obtain ⟨_, y12_0, y12_1, y12_2, y12_3, y12_4, y12_5, y12_6, y12_7, y12_8⟩ := id Y_54
  obtain ⟨_, v13_0, v13_1, v13_2, v13_3, v13_4, v13_5, v13_6, v13_7, v13_8⟩ := id V_55
  go_wp2
  go_ret
  exact ⟨rfl, B56⟩
end Go.Proofs.YtbglnebmfnoenaaGreatDoor
