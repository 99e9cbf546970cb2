/- Texts of this proof, together: EmbNT, EmbNI, EmbNC, EmbN. -/
import Derived.Test.YtbpicngbjggblaaGreatDoorTake
import Derived.Test.YtbpicngbjggblaaGreatDoorHd
import Derived.Test.YtbpicngbjggblaaGreatDoorGc
import Derived.Test.YtbpicngbjggblaaGreatDoorGz
import Derived.Test.YtbpicngbjggblaaGreatDoorHa
import Derived.Test.YtbpicngbjggblaaGreatDoorGr
import Derived.Test.YtbpicngbjggblaaGreatDoorGl
import Derived.Test.YtbpicngbjggblaaGreatDoorGe
import Derived.Test.YtbpicngbjggblaaGreatDoorGy
import Derived.Test.YtbpicngbjggblaaGreatDoorHb
import Derived.Deep.RegionHeld3
import Derived.Deep.DrawnRows
import Derived.BigRegion
import Derived.Deep.DeepCutAuto
namespace Go.Proofs.YtbpicngbjggblaaGreatDoor
set_option maxHeartbeats 4000000
set_option maxRecDepth 100000
set_option linter.unusedVariables false
set_option linter.unusedSimpArgs false
open Go.ChangeShapes Go.WideShapes Go.ChangeAt Go.RowKit Go.PlainAid
attribute [local go_sem ↓] Go.wp_at_zero Go.wp_at_succ
theorem emTuple_none (D : ByteArray) (o : Nat) (o60 : o ≤ 60) (pr oa ob : Int) (c9 : Cb_ 65 #[.string D, .int .i64 9] (.int .u8 pr)) (c12 : Cb_ 66 #[.string D, .int .i64 12] (.int .u32 oa)) (c16 : Cb_ 66 #[.string D, .int .i64 16] (.int .u32 ob)) (n6 : (pr == 6) = false) (n17 : (pr == 17) = false) (n1 : (pr == 1) = false) (w : World) :
    Cw_ 30 #[.agg #[.string D, .int .i64 (o : Int)]] (.tuple #[.agg #[.int .u8 0, .int .u32 0, .int .u16 0, .int .u32 0, .int .u16 0], .int .i64 6]) w := by
  go_enter Tryz.func30, Tryz.ntmps30
  have B1 := Below.refl w.heap.size w
  go_upto_region 1 with fail
  have P_2 := Box2.make w (.string D) (.int .i64 (o : Int)) 77
  have B3 := B1.alloc B1.size (.cells #[.string D, .int .i64 (o : Int)] 77)
  clear B1
  have al := alO_ B3 (.cells #[.int .u8 0, .int .u32 0, .int .u16 0, .int .u32 0, .int .u16 0] 33)
  have P_4 := P_2.on al
  have hs_ : (w.alloc (.cells #[.string D, .int .i64 (o : Int)] 77)).heap.size = w.heap.size + 1 := by simp
  have R_5 := Box5.make (w.alloc (.cells #[.string D, .int .i64 (o : Int)] 77)) (.int .u8 0) (.int .u32 0) (.int .u16 0) (.int .u32 0) (.int .u16 0) 33
  rw [hs_] at R_5
  clear hs_
  have B6 := B3.trans (al.mono B3.size)
  clear al
  clear P_2 B3
  have fzR_7 : ∀ i, ((w.alloc (.cells #[.string D, .int .i64 (o : Int)] 77)).alloc (.cells #[.int .u8 0, .int .u32 0, .int .u16 0, .int .u32 0, .int .u16 0] 33)).frozen? ⟨(w.heap.size + 1), i, none⟩ = false := by intro i; simp [go_sem]
  obtain ⟨u1, hu1⟩ : ∃ x, x = (w.alloc (.cells #[.string D, .int .i64 (o : Int)] 77)).alloc (.cells #[.int .u8 0, .int .u32 0, .int .u16 0, .int .u32 0, .int .u16 0] 33) := ⟨_, rfl⟩
  rw [← hu1] at P_4 R_5 fzR_7 B6 ⊢
  clear hu1
  have ne1_ : ¬ w.heap.size + 1 = w.heap.size := by omega
  have ne2_ : ¬ w.heap.size = w.heap.size + 1 := by omega
  obtain ⟨zp, gp0, gp1⟩ := id P_4
  have Fp0 := lat_ gp0 zp
  have Fp1 := lat_ gp1 zp
  clear gp0 gp1
  refine region_lead (B := u1.heap.size) 12 1 (by kernel_rfl) (by kernel_rfl) (by kernel_rfl) (by kernel_rfl) ?_
  simp only [List.take_succ_cons, List.take_zero]
  repeat (go_big_quiet_step (first
    | (go_at_call 65; exact later_of _ (Nat.le_refl _) (c9 _))
    | (go_at_call 66; with_reducible exact later_of _ (Nat.le_refl _) (c12 _))
    | (go_at_call 66; with_reducible exact later_of _ (Nat.le_refl _) (c16 _))))
  refine lead_end (by kernel_rfl) (by kernel_rfl) rfl fun w2 x2 K hK => ?_
  have fzR_8 := fzB_ x2 R_5.1 fzR_7
  clear fzR_7
  have P_9 := P_4.on x2
  have R_10 := R_5.on x2
  have B11 := B6.trans (x2.mono B6.size)
  clear Fp0 Fp1 zp P_4 R_5 B6 x2
  clear c9 c12 c16
  obtain ⟨_, r1_0, r1_1, r1_2, r1_3, r1_4⟩ := id R_10
  go_simp
  refine hK.out _ _ ?_
  clear hK K
  clear r1_0 r1_1 r1_2 r1_3 r1_4
  obtain ⟨_, p2_0, p2_1⟩ := id P_9
  obtain ⟨_, r3_0, r3_1, r3_2, r3_3, r3_4⟩ := id R_10
  have B12 := (((((B11.setCell (p := ⟨(w.heap.size + 1), 0, none⟩) (Nat.le_succ _) (.int .u8 pr)).setCell (p := ⟨(w.heap.size + 1), 1, none⟩) (Nat.le_succ _) (.int .u32 oa)).setCell (p := ⟨(w.heap.size + 1), 2, none⟩) (Nat.le_succ _) (.int .u16 0)).setCell (p := ⟨(w.heap.size + 1), 3, none⟩) (Nat.le_succ _) (.int .u32 ob)).setCell (p := ⟨(w.heap.size + 1), 4, none⟩) (Nat.le_succ _) (.int .u16 0))
  have P_13 : Box2 (((((w2.setCell ⟨(w.heap.size + 1), 0, none⟩ (.int .u8 pr)).setCell ⟨(w.heap.size + 1), 1, none⟩ (.int .u32 oa)).setCell ⟨(w.heap.size + 1), 2, none⟩ (.int .u16 0)).setCell ⟨(w.heap.size + 1), 3, none⟩ (.int .u32 ob)).setCell ⟨(w.heap.size + 1), 4, none⟩ (.int .u16 0)) w.heap.size (.string D) (.int .i64 (o : Int)) := ⟨by have := P_9.1; simpa using this, by simp [go_sem, p2_0, p2_1, r3_0, r3_1, r3_2, r3_3, r3_4]⟩
  have R_14 : Box5 (((((w2.setCell ⟨(w.heap.size + 1), 0, none⟩ (.int .u8 pr)).setCell ⟨(w.heap.size + 1), 1, none⟩ (.int .u32 oa)).setCell ⟨(w.heap.size + 1), 2, none⟩ (.int .u16 0)).setCell ⟨(w.heap.size + 1), 3, none⟩ (.int .u32 ob)).setCell ⟨(w.heap.size + 1), 4, none⟩ (.int .u16 0)) (w.heap.size + 1) (.int .u8 pr) (.int .u32 oa) (.int .u16 0) (.int .u32 ob) (.int .u16 0) := ⟨by have := R_10.1; simpa using this, by simp [go_sem, p2_0, p2_1, r3_0, r3_1, r3_2, r3_3, r3_4]⟩
  have fzR_15 : ∀ i, (((((w2.setCell ⟨(w.heap.size + 1), 0, none⟩ (.int .u8 pr)).setCell ⟨(w.heap.size + 1), 1, none⟩ (.int .u32 oa)).setCell ⟨(w.heap.size + 1), 2, none⟩ (.int .u16 0)).setCell ⟨(w.heap.size + 1), 3, none⟩ (.int .u32 ob)).setCell ⟨(w.heap.size + 1), 4, none⟩ (.int .u16 0)).frozen? ⟨(w.heap.size + 1), i, none⟩ = false := by intro i; simp [fzR_8]
  clear p2_0 p2_1 r3_0 r3_1 r3_2 r3_3 r3_4 P_9 R_10 fzR_8 B11
  obtain ⟨u3, hu3⟩ : ∃ x, x = (((((w2.setCell ⟨(w.heap.size + 1), 0, none⟩ (.int .u8 pr)).setCell ⟨(w.heap.size + 1), 1, none⟩ (.int .u32 oa)).setCell ⟨(w.heap.size + 1), 2, none⟩ (.int .u16 0)).setCell ⟨(w.heap.size + 1), 3, none⟩ (.int .u32 ob)).setCell ⟨(w.heap.size + 1), 4, none⟩ (.int .u16 0)) := ⟨_, rfl⟩
  rw [← hu3] at P_13 R_14 fzR_15 B12 ⊢
  clear hu3
  obtain ⟨_, r4_0, r4_1, r4_2, r4_3, r4_4⟩ := id R_14
  go_wp2
  refine box5_ (b := w.heap.size + 1) R_14.some B12 (Nat.le_succ _) fun Z x0 x1 x2 x3 x4 BZ _ _ => ?_
  refine bodyPost_ret (v := .tuple #[.agg #[.int .u8 0, .int .u32 0, .int .u16 0, .int .u32 0, .int .u16 0], .int .i64 6]) (by simp [results, Tryz.results30, go_sem, x0, x1, x2, x3, x4]) rfl ?_
  exact ⟨rfl, BZ⟩
theorem emTuple_6 (D : ByteArray) (o : Nat) (o60 : o ≤ 60) (oa ob : Int) (c9 : Cb_ 65 #[.string D, .int .i64 9] (.int .u8 6)) (c12 : Cb_ 66 #[.string D, .int .i64 12] (.int .u32 oa)) (c16 : Cb_ 66 #[.string D, .int .i64 16] (.int .u32 ob)) (m n : Int) (cm : ∀ (u : World) (i : Int), i = (o : Int) + 0 → Calls Tryz.prog 64 #[.string D, .int .i64 i] u fun e w' => e = .returned (.int .u16 m) ∧ Below u.heap.size u w') (cn : ∀ (u : World) (i : Int), i = (o : Int) + 2 → Calls Tryz.prog 64 #[.string D, .int .i64 i] u fun e w' => e = .returned (.int .u16 n) ∧ Below u.heap.size u w')  (w : World) :
    Cw_ 30 #[.agg #[.string D, .int .i64 (o : Int)]] (.tuple #[.agg #[.int .u8 6, .int .u32 oa, .int .u16 m, .int .u32 ob, .int .u16 n], .int .i64 0]) w := by
  go_enter Tryz.func30, Tryz.ntmps30
  have B1 := Below.refl w.heap.size w
  go_upto_region 1 with fail
  have P_2 := Box2.make w (.string D) (.int .i64 (o : Int)) 77
  have B3 := B1.alloc B1.size (.cells #[.string D, .int .i64 (o : Int)] 77)
  clear B1
  have al := alO_ B3 (.cells #[.int .u8 0, .int .u32 0, .int .u16 0, .int .u32 0, .int .u16 0] 33)
  have P_4 := P_2.on al
  have hs_ : (w.alloc (.cells #[.string D, .int .i64 (o : Int)] 77)).heap.size = w.heap.size + 1 := by simp
  have R_5 := Box5.make (w.alloc (.cells #[.string D, .int .i64 (o : Int)] 77)) (.int .u8 0) (.int .u32 0) (.int .u16 0) (.int .u32 0) (.int .u16 0) 33
  rw [hs_] at R_5
  clear hs_
  have B6 := B3.trans (al.mono B3.size)
  clear al
  clear P_2 B3
  have fzR_7 : ∀ i, ((w.alloc (.cells #[.string D, .int .i64 (o : Int)] 77)).alloc (.cells #[.int .u8 0, .int .u32 0, .int .u16 0, .int .u32 0, .int .u16 0] 33)).frozen? ⟨(w.heap.size + 1), i, none⟩ = false := by intro i; simp [go_sem]
  obtain ⟨u1, hu1⟩ : ∃ x, x = (w.alloc (.cells #[.string D, .int .i64 (o : Int)] 77)).alloc (.cells #[.int .u8 0, .int .u32 0, .int .u16 0, .int .u32 0, .int .u16 0] 33) := ⟨_, rfl⟩
  rw [← hu1] at P_4 R_5 fzR_7 B6 ⊢
  clear hu1
  have ne1_ : ¬ w.heap.size + 1 = w.heap.size := by omega
  have ne2_ : ¬ w.heap.size = w.heap.size + 1 := by omega
  obtain ⟨zp, gp0, gp1⟩ := id P_4
  have Fp0 := lat_ gp0 zp
  have Fp1 := lat_ gp1 zp
  clear gp0 gp1
  refine region_lead (B := u1.heap.size) 12 1 (by kernel_rfl) (by kernel_rfl) (by kernel_rfl) (by kernel_rfl) ?_
  simp only [List.take_succ_cons, List.take_zero]
  repeat (go_big_quiet_step (first
    | (go_at_call 65; exact later_of _ (Nat.le_refl _) (c9 _))
    | (go_at_call 66; with_reducible exact later_of _ (Nat.le_refl _) (c12 _))
    | (go_at_call 66; with_reducible exact later_of _ (Nat.le_refl _) (c16 _))))
  refine lead_end (by kernel_rfl) (by kernel_rfl) rfl fun w2 x2 K hK => ?_
  have fzR_8 := fzB_ x2 R_5.1 fzR_7
  clear fzR_7
  have P_9 := P_4.on x2
  have R_10 := R_5.on x2
  have B11 := B6.trans (x2.mono B6.size)
  clear Fp0 Fp1 zp P_4 R_5 B6 x2
  clear c9 c12 c16
  obtain ⟨_, r1_0, r1_1, r1_2, r1_3, r1_4⟩ := id R_10
  go_simp
  refine hK.out _ _ ?_
  clear hK K
  clear r1_0 r1_1 r1_2 r1_3 r1_4
  obtain ⟨_, p2_0, p2_1⟩ := id P_9
  obtain ⟨_, r3_0, r3_1, r3_2, r3_3, r3_4⟩ := id R_10
  have B12 := (((((B11.setCell (p := ⟨(w.heap.size + 1), 0, none⟩) (Nat.le_succ _) (.int .u8 6)).setCell (p := ⟨(w.heap.size + 1), 1, none⟩) (Nat.le_succ _) (.int .u32 oa)).setCell (p := ⟨(w.heap.size + 1), 2, none⟩) (Nat.le_succ _) (.int .u16 0)).setCell (p := ⟨(w.heap.size + 1), 3, none⟩) (Nat.le_succ _) (.int .u32 ob)).setCell (p := ⟨(w.heap.size + 1), 4, none⟩) (Nat.le_succ _) (.int .u16 0))
  have P_13 : Box2 (((((w2.setCell ⟨(w.heap.size + 1), 0, none⟩ (.int .u8 6)).setCell ⟨(w.heap.size + 1), 1, none⟩ (.int .u32 oa)).setCell ⟨(w.heap.size + 1), 2, none⟩ (.int .u16 0)).setCell ⟨(w.heap.size + 1), 3, none⟩ (.int .u32 ob)).setCell ⟨(w.heap.size + 1), 4, none⟩ (.int .u16 0)) w.heap.size (.string D) (.int .i64 (o : Int)) := ⟨by have := P_9.1; simpa using this, by simp [go_sem, p2_0, p2_1, r3_0, r3_1, r3_2, r3_3, r3_4]⟩
  have R_14 : Box5 (((((w2.setCell ⟨(w.heap.size + 1), 0, none⟩ (.int .u8 6)).setCell ⟨(w.heap.size + 1), 1, none⟩ (.int .u32 oa)).setCell ⟨(w.heap.size + 1), 2, none⟩ (.int .u16 0)).setCell ⟨(w.heap.size + 1), 3, none⟩ (.int .u32 ob)).setCell ⟨(w.heap.size + 1), 4, none⟩ (.int .u16 0)) (w.heap.size + 1) (.int .u8 6) (.int .u32 oa) (.int .u16 0) (.int .u32 ob) (.int .u16 0) := ⟨by have := R_10.1; simpa using this, by simp [go_sem, p2_0, p2_1, r3_0, r3_1, r3_2, r3_3, r3_4]⟩
  have fzR_15 : ∀ i, (((((w2.setCell ⟨(w.heap.size + 1), 0, none⟩ (.int .u8 6)).setCell ⟨(w.heap.size + 1), 1, none⟩ (.int .u32 oa)).setCell ⟨(w.heap.size + 1), 2, none⟩ (.int .u16 0)).setCell ⟨(w.heap.size + 1), 3, none⟩ (.int .u32 ob)).setCell ⟨(w.heap.size + 1), 4, none⟩ (.int .u16 0)).frozen? ⟨(w.heap.size + 1), i, none⟩ = false := by intro i; simp [fzR_8]
  clear p2_0 p2_1 r3_0 r3_1 r3_2 r3_3 r3_4 P_9 R_10 fzR_8 B11
  obtain ⟨u3, hu3⟩ : ∃ x, x = (((((w2.setCell ⟨(w.heap.size + 1), 0, none⟩ (.int .u8 6)).setCell ⟨(w.heap.size + 1), 1, none⟩ (.int .u32 oa)).setCell ⟨(w.heap.size + 1), 2, none⟩ (.int .u16 0)).setCell ⟨(w.heap.size + 1), 3, none⟩ (.int .u32 ob)).setCell ⟨(w.heap.size + 1), 4, none⟩ (.int .u16 0)) := ⟨_, rfl⟩
  rw [← hu3] at P_13 R_14 fzR_15 B12 ⊢
  clear hu3
  obtain ⟨_, r4_0, r4_1, r4_2, r4_3, r4_4⟩ := id R_14
  go_upto_region 6 with fail
  clear r4_0 r4_1 r4_2 r4_3 r4_4
  refine wp_region_noPanic ?_
  refine wp_region_held_drew (S := (fun w' => w'.cell? ⟨w.heap.size, 0, none⟩ = some (.string D) ∧ w'.cell? ⟨w.heap.size, 1, none⟩ = some (.int .i64 (o : Int)))) (by kernel_rfl) (by obtain ⟨_, q0, q1⟩ := P_13.on ((Below.refl _ _).drew); exact ⟨q0, q1⟩) (fun hHeld => ?_)
  have fzR_16 := fzD_ R_14.1 fzR_15
  clear fzR_15
  have P_17 := P_13.on ((Below.refl _ _).drew)
  have R_18 := R_14.on ((Below.refl _ _).drew)
  have B19 := B12.drew
  clear P_13 R_14 B12
  clear hHeld
  refine tk_ 0 (v := ?_) (by obtain ⟨_, q0, q1⟩ := id P_17; exact ⟨q0, q1⟩) ?_ ?_
  rotate_left
  · intro w hSw
    (try dsimp only at hSw)
    obtain ⟨r0, r1⟩ := hSw
    go_simp
    with_reducible rfl
  try simp only [Act.put, puS_]
  refine tk_ 1 (v := ?_) (by obtain ⟨_, q0, q1⟩ := id P_17; exact ⟨q0, q1⟩) ?_ ?_
  rotate_left
  · intro w hSw
    (try dsimp only at hSw)
    obtain ⟨r0, r1⟩ := hSw
    go_simp
    with_reducible rfl
  try simp only [Act.put, puS_]
  refine tk_ 2 (v := ?_) (by obtain ⟨_, q0, q1⟩ := id P_17; exact ⟨q0, q1⟩) ?_ ?_
  rotate_left
  · intro w hSw
    (try dsimp only at hSw)
    obtain ⟨r0, r1⟩ := hSw
    go_simp
    with_reducible rfl
  try simp only [Act.put, puS_]
  refine tk_ 3 (v := ?_) (by obtain ⟨_, q0, q1⟩ := id P_17; exact ⟨q0, q1⟩) ?_ ?_
  rotate_left
  · intro w hSw
    (try dsimp only at hSw)
    obtain ⟨r0, r1⟩ := hSw
    go_simp
    with_reducible rfl
  try simp only [Act.put, puS_]
  refine tk_ 4 (v := ?_) (by obtain ⟨_, q0, q1⟩ := id P_17; exact ⟨q0, q1⟩) ?_ ?_
  rotate_left
  · intro w hSw
    (try dsimp only at hSw)
    obtain ⟨r0, r1⟩ := hSw
    go_simp
    with_reducible rfl
  try simp only [Act.put, puS_]
  refine tk_ 6 (v := ?_) (by obtain ⟨_, q0, q1⟩ := id P_17; exact ⟨q0, q1⟩) ?_ ?_
  rotate_left
  · intro w hSw
    (try dsimp only at hSw)
    obtain ⟨r0, r1⟩ := hSw
    go_simp
    with_reducible rfl
  try simp only [Act.put, puS_]
  refine tk_ 7 (v := ?_) (by obtain ⟨_, q0, q1⟩ := id P_17; exact ⟨q0, q1⟩) ?_ ?_
  rotate_left
  · intro w hSw
    (try dsimp only at hSw)
    obtain ⟨r0, r1⟩ := hSw
    go_simp
    with_reducible rfl
  try simp only [Act.put, puS_]
  refine tk_ 8 (v := ?_) (by obtain ⟨_, q0, q1⟩ := id P_17; exact ⟨q0, q1⟩) ?_ ?_
  rotate_left
  · intro w hSw
    (try dsimp only at hSw)
    obtain ⟨r0, r1⟩ := hSw
    go_simp
    with_reducible rfl
  try simp only [Act.put, puS_]
  refine tk_ 9 (v := ?_) (by obtain ⟨_, q0, q1⟩ := id P_17; exact ⟨q0, q1⟩) ?_ ?_
  rotate_left
  · intro w hSw
    (try dsimp only at hSw)
    obtain ⟨r0, r1⟩ := hSw
    go_simp
    with_reducible rfl
  try simp only [Act.put, puS_]
  refine tk_ 10 (v := ?_) (by obtain ⟨_, q0, q1⟩ := id P_17; exact ⟨q0, q1⟩) ?_ ?_
  rotate_left
  · intro w hSw
    (try dsimp only at hSw)
    obtain ⟨r0, r1⟩ := hSw
    go_simp
    with_reducible rfl
  try simp only [Act.put, puS_]
  refine tk_ 11 (v := ?_) (by obtain ⟨_, q0, q1⟩ := id P_17; exact ⟨q0, q1⟩) ?_ ?_
  rotate_left
  · intro w hSw
    (try dsimp only at hSw)
    obtain ⟨r0, r1⟩ := hSw
    go_simp
    with_reducible rfl
  try simp only [Act.put, puS_]
  refine rd_ 5 (fun K hK => ?_)
  go_simp
  refine (cm _ _ (by first | rfl | omega | (simp only [IntKind.wrap_i64]; omega) | (unfold wrap64; omega))).mono ?_; rintro e w4 ⟨rfl, x4⟩
  have fzR_20 := fzB_ x4 R_18.1 fzR_16
  clear fzR_16
  have P_21 := P_17.on x4
  have R_22 := R_18.on x4
  have B23 := B19.trans (x4.mono B19.size)
  clear P_17 R_18 B19 x4
  show K _ _
  refine hK.out _ _ (by obtain ⟨_, q0, q1⟩ := id P_21; exact ⟨q0, q1⟩) (fun _ => ?_)
  clear hK K
  try simp only [Act.put, puS_]
  refine tk_ 13 (v := ?_) (by obtain ⟨_, q0, q1⟩ := id P_21; exact ⟨q0, q1⟩) ?_ ?_
  rotate_left
  · intro w hSw
    (try dsimp only at hSw)
    obtain ⟨r0, r1⟩ := hSw
    go_simp
    with_reducible rfl
  try simp only [Act.put, puS_]
  refine tk_ 14 (v := ?_) (by obtain ⟨_, q0, q1⟩ := id P_21; exact ⟨q0, q1⟩) ?_ ?_
  rotate_left
  · intro w hSw
    (try dsimp only at hSw)
    obtain ⟨r0, r1⟩ := hSw
    go_simp
    with_reducible rfl
  try simp only [Act.put, puS_]
  refine rd_ 12 (fun K hK => ?_)
  go_simp
  refine (cn _ _ (by first | rfl | omega | (simp only [IntKind.wrap_i64]; omega) | (unfold wrap64; omega))).mono ?_; rintro e w5 ⟨rfl, x5⟩
  have fzR_24 := fzB_ x5 R_22.1 fzR_20
  clear fzR_20
  have P_25 := P_21.on x5
  have R_26 := R_22.on x5
  have B27 := B23.trans (x5.mono B23.size)
  clear P_21 R_22 B23 x5
  show K _ _
  refine hK.out _ _ (by obtain ⟨_, q0, q1⟩ := id P_25; exact ⟨q0, q1⟩) (fun _ => ?_)
  clear hK K
  try simp only [Act.put, puS_]
  clear cm cn
  obtain ⟨_, r5_0, r5_1, r5_2, r5_3, r5_4⟩ := id R_26
  refine rd_ 15 (fun K hK => ?_)
  go_simp
  clear r5_0 r5_1 r5_2 r5_3 r5_4
  obtain ⟨_, p6_0, p6_1⟩ := id P_25
  obtain ⟨_, r7_0, r7_1, r7_2, r7_3, r7_4⟩ := id R_26
  have B28 := (B27.setCell (p := ⟨(w.heap.size + 1), 2, none⟩) (Nat.le_succ _) (.int .u16 m))
  have P_29 : Box2 (w5.setCell ⟨(w.heap.size + 1), 2, none⟩ (.int .u16 m)) w.heap.size (.string D) (.int .i64 (o : Int)) := ⟨by have := P_25.1; simpa using this, by simp [go_sem, p6_0, p6_1, r7_0, r7_1, r7_2, r7_3, r7_4]⟩
  have R_30 : Box5 (w5.setCell ⟨(w.heap.size + 1), 2, none⟩ (.int .u16 m)) (w.heap.size + 1) (.int .u8 6) (.int .u32 oa) (.int .u16 m) (.int .u32 ob) (.int .u16 0) := ⟨by have := R_26.1; simpa using this, by simp [go_sem, p6_0, p6_1, r7_0, r7_1, r7_2, r7_3, r7_4]⟩
  have fzR_31 : ∀ i, (w5.setCell ⟨(w.heap.size + 1), 2, none⟩ (.int .u16 m)).frozen? ⟨(w.heap.size + 1), i, none⟩ = false := by intro i; simp [fzR_24]
  clear p6_0 p6_1 r7_0 r7_1 r7_2 r7_3 r7_4 P_25 R_26 fzR_24 B27
  obtain ⟨u6, hu6⟩ : ∃ x, x = (w5.setCell ⟨(w.heap.size + 1), 2, none⟩ (.int .u16 m)) := ⟨_, rfl⟩
  rw [← hu6] at P_29 R_30 fzR_31 B28 ⊢
  clear hu6
  refine hK.out _ _ (by obtain ⟨_, q0, q1⟩ := id P_29; exact ⟨q0, q1⟩) (fun _ => ?_)
  clear hK K
  try simp only [Act.put, puS_]
  refine tk_ 16 (v := ?_) (by obtain ⟨_, q0, q1⟩ := id P_29; exact ⟨q0, q1⟩) ?_ ?_
  rotate_left
  · intro w hSw
    (try dsimp only at hSw)
    obtain ⟨r0, r1⟩ := hSw
    go_simp
    with_reducible rfl
  try simp only [Act.put, puS_]
  refine tk_ 17 (v := ?_) (by obtain ⟨_, q0, q1⟩ := id P_29; exact ⟨q0, q1⟩) ?_ ?_
  rotate_left
  · intro w hSw
    (try dsimp only at hSw)
    obtain ⟨r0, r1⟩ := hSw
    go_simp
    with_reducible rfl
  try simp only [Act.put, puS_]
  obtain ⟨_, r8_0, r8_1, r8_2, r8_3, r8_4⟩ := id R_30
  refine rd_ 18 (fun K hK => ?_)
  go_simp
  clear r8_0 r8_1 r8_2 r8_3 r8_4
  obtain ⟨_, p9_0, p9_1⟩ := id P_29
  obtain ⟨_, r10_0, r10_1, r10_2, r10_3, r10_4⟩ := id R_30
  have B32 := (B28.setCell (p := ⟨(w.heap.size + 1), 4, none⟩) (Nat.le_succ _) (.int .u16 n))
  have P_33 : Box2 (u6.setCell ⟨(w.heap.size + 1), 4, none⟩ (.int .u16 n)) w.heap.size (.string D) (.int .i64 (o : Int)) := ⟨by have := P_29.1; simpa using this, by simp [go_sem, p9_0, p9_1, r10_0, r10_1, r10_2, r10_3, r10_4]⟩
  have R_34 : Box5 (u6.setCell ⟨(w.heap.size + 1), 4, none⟩ (.int .u16 n)) (w.heap.size + 1) (.int .u8 6) (.int .u32 oa) (.int .u16 m) (.int .u32 ob) (.int .u16 n) := ⟨by have := R_30.1; simpa using this, by simp [go_sem, p9_0, p9_1, r10_0, r10_1, r10_2, r10_3, r10_4]⟩
  have fzR_35 : ∀ i, (u6.setCell ⟨(w.heap.size + 1), 4, none⟩ (.int .u16 n)).frozen? ⟨(w.heap.size + 1), i, none⟩ = false := by intro i; simp [fzR_31]
  clear p9_0 p9_1 r10_0 r10_1 r10_2 r10_3 r10_4 P_29 R_30 fzR_31 B28
  obtain ⟨u7, hu7⟩ : ∃ x, x = (u6.setCell ⟨(w.heap.size + 1), 4, none⟩ (.int .u16 n)) := ⟨_, rfl⟩
  rw [← hu7] at P_33 R_34 fzR_35 B32 ⊢
  clear hu7
  refine hK.out _ _ (by obtain ⟨_, q0, q1⟩ := id P_33; exact ⟨q0, q1⟩) (fun _ => ?_)
  clear hK K
  try simp only [Act.put, puS_]
  refine wpAnyH_done (by kernel_rfl) (NoPanic.normal ?_) _
  obtain ⟨_, r11_0, r11_1, r11_2, r11_3, r11_4⟩ := id R_34
  go_wp2
  refine box5_ (b := w.heap.size + 1) R_34.some B32 (Nat.le_succ _) fun Z x0 x1 x2 x3 x4 BZ _ _ => ?_
  refine bodyPost_ret (v := .tuple #[.agg #[.int .u8 6, .int .u32 oa, .int .u16 m, .int .u32 ob, .int .u16 n], .int .i64 0]) (by simp [results, Tryz.results30, go_sem, x0, x1, x2, x3, x4]) rfl ?_
  exact ⟨rfl, BZ⟩
theorem emTuple_17 (D : ByteArray) (o : Nat) (o60 : o ≤ 60) (oa ob : Int) (c9 : Cb_ 65 #[.string D, .int .i64 9] (.int .u8 17)) (c12 : Cb_ 66 #[.string D, .int .i64 12] (.int .u32 oa)) (c16 : Cb_ 66 #[.string D, .int .i64 16] (.int .u32 ob)) (m n : Int) (cm : ∀ (u : World) (i : Int), i = (o : Int) + 0 → Calls Tryz.prog 64 #[.string D, .int .i64 i] u fun e w' => e = .returned (.int .u16 m) ∧ Below u.heap.size u w') (cn : ∀ (u : World) (i : Int), i = (o : Int) + 2 → Calls Tryz.prog 64 #[.string D, .int .i64 i] u fun e w' => e = .returned (.int .u16 n) ∧ Below u.heap.size u w')  (w : World) :
    Cw_ 30 #[.agg #[.string D, .int .i64 (o : Int)]] (.tuple #[.agg #[.int .u8 17, .int .u32 oa, .int .u16 m, .int .u32 ob, .int .u16 n], .int .i64 0]) w := by
  go_enter Tryz.func30, Tryz.ntmps30
  have B1 := Below.refl w.heap.size w
  go_upto_region 1 with fail
  have P_2 := Box2.make w (.string D) (.int .i64 (o : Int)) 77
  have B3 := B1.alloc B1.size (.cells #[.string D, .int .i64 (o : Int)] 77)
  clear B1
  have al := alO_ B3 (.cells #[.int .u8 0, .int .u32 0, .int .u16 0, .int .u32 0, .int .u16 0] 33)
  have P_4 := P_2.on al
  have hs_ : (w.alloc (.cells #[.string D, .int .i64 (o : Int)] 77)).heap.size = w.heap.size + 1 := by simp
  have R_5 := Box5.make (w.alloc (.cells #[.string D, .int .i64 (o : Int)] 77)) (.int .u8 0) (.int .u32 0) (.int .u16 0) (.int .u32 0) (.int .u16 0) 33
  rw [hs_] at R_5
  clear hs_
  have B6 := B3.trans (al.mono B3.size)
  clear al
  clear P_2 B3
  have fzR_7 : ∀ i, ((w.alloc (.cells #[.string D, .int .i64 (o : Int)] 77)).alloc (.cells #[.int .u8 0, .int .u32 0, .int .u16 0, .int .u32 0, .int .u16 0] 33)).frozen? ⟨(w.heap.size + 1), i, none⟩ = false := by intro i; simp [go_sem]
  obtain ⟨u1, hu1⟩ : ∃ x, x = (w.alloc (.cells #[.string D, .int .i64 (o : Int)] 77)).alloc (.cells #[.int .u8 0, .int .u32 0, .int .u16 0, .int .u32 0, .int .u16 0] 33) := ⟨_, rfl⟩
  rw [← hu1] at P_4 R_5 fzR_7 B6 ⊢
  clear hu1
  have ne1_ : ¬ w.heap.size + 1 = w.heap.size := by omega
  have ne2_ : ¬ w.heap.size = w.heap.size + 1 := by omega
  obtain ⟨zp, gp0, gp1⟩ := id P_4
  have Fp0 := lat_ gp0 zp
  have Fp1 := lat_ gp1 zp
  clear gp0 gp1
  refine region_lead (B := u1.heap.size) 12 1 (by kernel_rfl) (by kernel_rfl) (by kernel_rfl) (by kernel_rfl) ?_
  simp only [List.take_succ_cons, List.take_zero]
  repeat (go_big_quiet_step (first
    | (go_at_call 65; exact later_of _ (Nat.le_refl _) (c9 _))
    | (go_at_call 66; with_reducible exact later_of _ (Nat.le_refl _) (c12 _))
    | (go_at_call 66; with_reducible exact later_of _ (Nat.le_refl _) (c16 _))))
  refine lead_end (by kernel_rfl) (by kernel_rfl) rfl fun w2 x2 K hK => ?_
  have fzR_8 := fzB_ x2 R_5.1 fzR_7
  clear fzR_7
  have P_9 := P_4.on x2
  have R_10 := R_5.on x2
  have B11 := B6.trans (x2.mono B6.size)
  clear Fp0 Fp1 zp P_4 R_5 B6 x2
  clear c9 c12 c16
  obtain ⟨_, r1_0, r1_1, r1_2, r1_3, r1_4⟩ := id R_10
  go_simp
  refine hK.out _ _ ?_
  clear hK K
  clear r1_0 r1_1 r1_2 r1_3 r1_4
  obtain ⟨_, p2_0, p2_1⟩ := id P_9
  obtain ⟨_, r3_0, r3_1, r3_2, r3_3, r3_4⟩ := id R_10
  have B12 := (((((B11.setCell (p := ⟨(w.heap.size + 1), 0, none⟩) (Nat.le_succ _) (.int .u8 17)).setCell (p := ⟨(w.heap.size + 1), 1, none⟩) (Nat.le_succ _) (.int .u32 oa)).setCell (p := ⟨(w.heap.size + 1), 2, none⟩) (Nat.le_succ _) (.int .u16 0)).setCell (p := ⟨(w.heap.size + 1), 3, none⟩) (Nat.le_succ _) (.int .u32 ob)).setCell (p := ⟨(w.heap.size + 1), 4, none⟩) (Nat.le_succ _) (.int .u16 0))
  have P_13 : Box2 (((((w2.setCell ⟨(w.heap.size + 1), 0, none⟩ (.int .u8 17)).setCell ⟨(w.heap.size + 1), 1, none⟩ (.int .u32 oa)).setCell ⟨(w.heap.size + 1), 2, none⟩ (.int .u16 0)).setCell ⟨(w.heap.size + 1), 3, none⟩ (.int .u32 ob)).setCell ⟨(w.heap.size + 1), 4, none⟩ (.int .u16 0)) w.heap.size (.string D) (.int .i64 (o : Int)) := ⟨by have := P_9.1; simpa using this, by simp [go_sem, p2_0, p2_1, r3_0, r3_1, r3_2, r3_3, r3_4]⟩
  have R_14 : Box5 (((((w2.setCell ⟨(w.heap.size + 1), 0, none⟩ (.int .u8 17)).setCell ⟨(w.heap.size + 1), 1, none⟩ (.int .u32 oa)).setCell ⟨(w.heap.size + 1), 2, none⟩ (.int .u16 0)).setCell ⟨(w.heap.size + 1), 3, none⟩ (.int .u32 ob)).setCell ⟨(w.heap.size + 1), 4, none⟩ (.int .u16 0)) (w.heap.size + 1) (.int .u8 17) (.int .u32 oa) (.int .u16 0) (.int .u32 ob) (.int .u16 0) := ⟨by have := R_10.1; simpa using this, by simp [go_sem, p2_0, p2_1, r3_0, r3_1, r3_2, r3_3, r3_4]⟩
  have fzR_15 : ∀ i, (((((w2.setCell ⟨(w.heap.size + 1), 0, none⟩ (.int .u8 17)).setCell ⟨(w.heap.size + 1), 1, none⟩ (.int .u32 oa)).setCell ⟨(w.heap.size + 1), 2, none⟩ (.int .u16 0)).setCell ⟨(w.heap.size + 1), 3, none⟩ (.int .u32 ob)).setCell ⟨(w.heap.size + 1), 4, none⟩ (.int .u16 0)).frozen? ⟨(w.heap.size + 1), i, none⟩ = false := by intro i; simp [fzR_8]
  clear p2_0 p2_1 r3_0 r3_1 r3_2 r3_3 r3_4 P_9 R_10 fzR_8 B11
  obtain ⟨u3, hu3⟩ : ∃ x, x = (((((w2.setCell ⟨(w.heap.size + 1), 0, none⟩ (.int .u8 17)).setCell ⟨(w.heap.size + 1), 1, none⟩ (.int .u32 oa)).setCell ⟨(w.heap.size + 1), 2, none⟩ (.int .u16 0)).setCell ⟨(w.heap.size + 1), 3, none⟩ (.int .u32 ob)).setCell ⟨(w.heap.size + 1), 4, none⟩ (.int .u16 0)) := ⟨_, rfl⟩
  rw [← hu3] at P_13 R_14 fzR_15 B12 ⊢
  clear hu3
  obtain ⟨_, r4_0, r4_1, r4_2, r4_3, r4_4⟩ := id R_14
  go_upto_region 6 with fail
  clear r4_0 r4_1 r4_2 r4_3 r4_4
  refine wp_region_noPanic ?_
  refine wp_region_held_drew (S := (fun w' => w'.cell? ⟨w.heap.size, 0, none⟩ = some (.string D) ∧ w'.cell? ⟨w.heap.size, 1, none⟩ = some (.int .i64 (o : Int)))) (by kernel_rfl) (by obtain ⟨_, q0, q1⟩ := P_13.on ((Below.refl _ _).drew); exact ⟨q0, q1⟩) (fun hHeld => ?_)
  have fzR_16 := fzD_ R_14.1 fzR_15
  clear fzR_15
  have P_17 := P_13.on ((Below.refl _ _).drew)
  have R_18 := R_14.on ((Below.refl _ _).drew)
  have B19 := B12.drew
  clear P_13 R_14 B12
  clear hHeld
  refine tk_ 0 (v := ?_) (by obtain ⟨_, q0, q1⟩ := id P_17; exact ⟨q0, q1⟩) ?_ ?_
  rotate_left
  · intro w hSw
    (try dsimp only at hSw)
    obtain ⟨r0, r1⟩ := hSw
    go_simp
    with_reducible rfl
  try simp only [Act.put, puS_]
  refine tk_ 1 (v := ?_) (by obtain ⟨_, q0, q1⟩ := id P_17; exact ⟨q0, q1⟩) ?_ ?_
  rotate_left
  · intro w hSw
    (try dsimp only at hSw)
    obtain ⟨r0, r1⟩ := hSw
    go_simp
    with_reducible rfl
  try simp only [Act.put, puS_]
  refine tk_ 2 (v := ?_) (by obtain ⟨_, q0, q1⟩ := id P_17; exact ⟨q0, q1⟩) ?_ ?_
  rotate_left
  · intro w hSw
    (try dsimp only at hSw)
    obtain ⟨r0, r1⟩ := hSw
    go_simp
    with_reducible rfl
  try simp only [Act.put, puS_]
  refine tk_ 3 (v := ?_) (by obtain ⟨_, q0, q1⟩ := id P_17; exact ⟨q0, q1⟩) ?_ ?_
  rotate_left
  · intro w hSw
    (try dsimp only at hSw)
    obtain ⟨r0, r1⟩ := hSw
    go_simp
    with_reducible rfl
  try simp only [Act.put, puS_]
  refine tk_ 4 (v := ?_) (by obtain ⟨_, q0, q1⟩ := id P_17; exact ⟨q0, q1⟩) ?_ ?_
  rotate_left
  · intro w hSw
    (try dsimp only at hSw)
    obtain ⟨r0, r1⟩ := hSw
    go_simp
    with_reducible rfl
  try simp only [Act.put, puS_]
  refine tk_ 6 (v := ?_) (by obtain ⟨_, q0, q1⟩ := id P_17; exact ⟨q0, q1⟩) ?_ ?_
  rotate_left
  · intro w hSw
    (try dsimp only at hSw)
    obtain ⟨r0, r1⟩ := hSw
    go_simp
    with_reducible rfl
  try simp only [Act.put, puS_]
  refine tk_ 7 (v := ?_) (by obtain ⟨_, q0, q1⟩ := id P_17; exact ⟨q0, q1⟩) ?_ ?_
  rotate_left
  · intro w hSw
    (try dsimp only at hSw)
    obtain ⟨r0, r1⟩ := hSw
    go_simp
    with_reducible rfl
  try simp only [Act.put, puS_]
  refine tk_ 8 (v := ?_) (by obtain ⟨_, q0, q1⟩ := id P_17; exact ⟨q0, q1⟩) ?_ ?_
  rotate_left
  · intro w hSw
    (try dsimp only at hSw)
    obtain ⟨r0, r1⟩ := hSw
    go_simp
    with_reducible rfl
  try simp only [Act.put, puS_]
  refine tk_ 9 (v := ?_) (by obtain ⟨_, q0, q1⟩ := id P_17; exact ⟨q0, q1⟩) ?_ ?_
  rotate_left
  · intro w hSw
    (try dsimp only at hSw)
    obtain ⟨r0, r1⟩ := hSw
    go_simp
    with_reducible rfl
  try simp only [Act.put, puS_]
  refine tk_ 10 (v := ?_) (by obtain ⟨_, q0, q1⟩ := id P_17; exact ⟨q0, q1⟩) ?_ ?_
  rotate_left
  · intro w hSw
    (try dsimp only at hSw)
    obtain ⟨r0, r1⟩ := hSw
    go_simp
    with_reducible rfl
  try simp only [Act.put, puS_]
  refine tk_ 11 (v := ?_) (by obtain ⟨_, q0, q1⟩ := id P_17; exact ⟨q0, q1⟩) ?_ ?_
  rotate_left
  · intro w hSw
    (try dsimp only at hSw)
    obtain ⟨r0, r1⟩ := hSw
    go_simp
    with_reducible rfl
  try simp only [Act.put, puS_]
  refine rd_ 5 (fun K hK => ?_)
  go_simp
  refine (cm _ _ (by first | rfl | omega | (simp only [IntKind.wrap_i64]; omega) | (unfold wrap64; omega))).mono ?_; rintro e w4 ⟨rfl, x4⟩
  have fzR_20 := fzB_ x4 R_18.1 fzR_16
  clear fzR_16
  have P_21 := P_17.on x4
  have R_22 := R_18.on x4
  have B23 := B19.trans (x4.mono B19.size)
  clear P_17 R_18 B19 x4
  show K _ _
  refine hK.out _ _ (by obtain ⟨_, q0, q1⟩ := id P_21; exact ⟨q0, q1⟩) (fun _ => ?_)
  clear hK K
  try simp only [Act.put, puS_]
  refine tk_ 13 (v := ?_) (by obtain ⟨_, q0, q1⟩ := id P_21; exact ⟨q0, q1⟩) ?_ ?_
  rotate_left
  · intro w hSw
    (try dsimp only at hSw)
    obtain ⟨r0, r1⟩ := hSw
    go_simp
    with_reducible rfl
  try simp only [Act.put, puS_]
  refine tk_ 14 (v := ?_) (by obtain ⟨_, q0, q1⟩ := id P_21; exact ⟨q0, q1⟩) ?_ ?_
  rotate_left
  · intro w hSw
    (try dsimp only at hSw)
    obtain ⟨r0, r1⟩ := hSw
    go_simp
    with_reducible rfl
  try simp only [Act.put, puS_]
  refine rd_ 12 (fun K hK => ?_)
  go_simp
  refine (cn _ _ (by first | rfl | omega | (simp only [IntKind.wrap_i64]; omega) | (unfold wrap64; omega))).mono ?_; rintro e w5 ⟨rfl, x5⟩
  have fzR_24 := fzB_ x5 R_22.1 fzR_20
  clear fzR_20
  have P_25 := P_21.on x5
  have R_26 := R_22.on x5
  have B27 := B23.trans (x5.mono B23.size)
  clear P_21 R_22 B23 x5
  show K _ _
  refine hK.out _ _ (by obtain ⟨_, q0, q1⟩ := id P_25; exact ⟨q0, q1⟩) (fun _ => ?_)
  clear hK K
  try simp only [Act.put, puS_]
  clear cm cn
  obtain ⟨_, r5_0, r5_1, r5_2, r5_3, r5_4⟩ := id R_26
  refine rd_ 15 (fun K hK => ?_)
  go_simp
  clear r5_0 r5_1 r5_2 r5_3 r5_4
  obtain ⟨_, p6_0, p6_1⟩ := id P_25
  obtain ⟨_, r7_0, r7_1, r7_2, r7_3, r7_4⟩ := id R_26
  have B28 := (B27.setCell (p := ⟨(w.heap.size + 1), 2, none⟩) (Nat.le_succ _) (.int .u16 m))
  have P_29 : Box2 (w5.setCell ⟨(w.heap.size + 1), 2, none⟩ (.int .u16 m)) w.heap.size (.string D) (.int .i64 (o : Int)) := ⟨by have := P_25.1; simpa using this, by simp [go_sem, p6_0, p6_1, r7_0, r7_1, r7_2, r7_3, r7_4]⟩
  have R_30 : Box5 (w5.setCell ⟨(w.heap.size + 1), 2, none⟩ (.int .u16 m)) (w.heap.size + 1) (.int .u8 17) (.int .u32 oa) (.int .u16 m) (.int .u32 ob) (.int .u16 0) := ⟨by have := R_26.1; simpa using this, by simp [go_sem, p6_0, p6_1, r7_0, r7_1, r7_2, r7_3, r7_4]⟩
  have fzR_31 : ∀ i, (w5.setCell ⟨(w.heap.size + 1), 2, none⟩ (.int .u16 m)).frozen? ⟨(w.heap.size + 1), i, none⟩ = false := by intro i; simp [fzR_24]
  clear p6_0 p6_1 r7_0 r7_1 r7_2 r7_3 r7_4 P_25 R_26 fzR_24 B27
  obtain ⟨u6, hu6⟩ : ∃ x, x = (w5.setCell ⟨(w.heap.size + 1), 2, none⟩ (.int .u16 m)) := ⟨_, rfl⟩
  rw [← hu6] at P_29 R_30 fzR_31 B28 ⊢
  clear hu6
  refine hK.out _ _ (by obtain ⟨_, q0, q1⟩ := id P_29; exact ⟨q0, q1⟩) (fun _ => ?_)
  clear hK K
  try simp only [Act.put, puS_]
  refine tk_ 16 (v := ?_) (by obtain ⟨_, q0, q1⟩ := id P_29; exact ⟨q0, q1⟩) ?_ ?_
  rotate_left
  · intro w hSw
    (try dsimp only at hSw)
    obtain ⟨r0, r1⟩ := hSw
    go_simp
    with_reducible rfl
  try simp only [Act.put, puS_]
  refine tk_ 17 (v := ?_) (by obtain ⟨_, q0, q1⟩ := id P_29; exact ⟨q0, q1⟩) ?_ ?_
  rotate_left
  · intro w hSw
    (try dsimp only at hSw)
    obtain ⟨r0, r1⟩ := hSw
    go_simp
    with_reducible rfl
  try simp only [Act.put, puS_]
  obtain ⟨_, r8_0, r8_1, r8_2, r8_3, r8_4⟩ := id R_30
  refine rd_ 18 (fun K hK => ?_)
  go_simp
  clear r8_0 r8_1 r8_2 r8_3 r8_4
  obtain ⟨_, p9_0, p9_1⟩ := id P_29
  obtain ⟨_, r10_0, r10_1, r10_2, r10_3, r10_4⟩ := id R_30
  have B32 := (B28.setCell (p := ⟨(w.heap.size + 1), 4, none⟩) (Nat.le_succ _) (.int .u16 n))
  have P_33 : Box2 (u6.setCell ⟨(w.heap.size + 1), 4, none⟩ (.int .u16 n)) w.heap.size (.string D) (.int .i64 (o : Int)) := ⟨by have := P_29.1; simpa using this, by simp [go_sem, p9_0, p9_1, r10_0, r10_1, r10_2, r10_3, r10_4]⟩
  have R_34 : Box5 (u6.setCell ⟨(w.heap.size + 1), 4, none⟩ (.int .u16 n)) (w.heap.size + 1) (.int .u8 17) (.int .u32 oa) (.int .u16 m) (.int .u32 ob) (.int .u16 n) := ⟨by have := R_30.1; simpa using this, by simp [go_sem, p9_0, p9_1, r10_0, r10_1, r10_2, r10_3, r10_4]⟩
  have fzR_35 : ∀ i, (u6.setCell ⟨(w.heap.size + 1), 4, none⟩ (.int .u16 n)).frozen? ⟨(w.heap.size + 1), i, none⟩ = false := by intro i; simp [fzR_31]
  clear p9_0 p9_1 r10_0 r10_1 r10_2 r10_3 r10_4 P_29 R_30 fzR_31 B28
  obtain ⟨u7, hu7⟩ : ∃ x, x = (u6.setCell ⟨(w.heap.size + 1), 4, none⟩ (.int .u16 n)) := ⟨_, rfl⟩
  rw [← hu7] at P_33 R_34 fzR_35 B32 ⊢
  clear hu7
  refine hK.out _ _ (by obtain ⟨_, q0, q1⟩ := id P_33; exact ⟨q0, q1⟩) (fun _ => ?_)
  clear hK K
  try simp only [Act.put, puS_]
  refine wpAnyH_done (by kernel_rfl) (NoPanic.normal ?_) _
  obtain ⟨_, r11_0, r11_1, r11_2, r11_3, r11_4⟩ := id R_34
  go_wp2
  refine box5_ (b := w.heap.size + 1) R_34.some B32 (Nat.le_succ _) fun Z x0 x1 x2 x3 x4 BZ _ _ => ?_
  refine bodyPost_ret (v := .tuple #[.agg #[.int .u8 17, .int .u32 oa, .int .u16 m, .int .u32 ob, .int .u16 n], .int .i64 0]) (by simp [results, Tryz.results30, go_sem, x0, x1, x2, x3, x4]) rfl ?_
  exact ⟨rfl, BZ⟩
theorem emTuple_odd (D : ByteArray) (o : Nat) (o60 : o ≤ 60) (oa ob : Int) (c9 : Cb_ 65 #[.string D, .int .i64 9] (.int .u8 1)) (c12 : Cb_ 66 #[.string D, .int .i64 12] (.int .u32 oa)) (c16 : Cb_ 66 #[.string D, .int .i64 16] (.int .u32 ob)) (cq : Cb_ 67 #[.agg #[.string D, .int .i64 (o : Int)]] (.tuple #[.bool false, .bool false]))  (w : World) :
    Cw_ 30 #[.agg #[.string D, .int .i64 (o : Int)]] (.tuple #[.agg #[.int .u8 0, .int .u32 0, .int .u16 0, .int .u32 0, .int .u16 0], .int .i64 15]) w := by
  go_enter Tryz.func30, Tryz.ntmps30
  have B1 := Below.refl w.heap.size w
  go_upto_region 1 with fail
  have P_2 := Box2.make w (.string D) (.int .i64 (o : Int)) 77
  have B3 := B1.alloc B1.size (.cells #[.string D, .int .i64 (o : Int)] 77)
  clear B1
  have al := alO_ B3 (.cells #[.int .u8 0, .int .u32 0, .int .u16 0, .int .u32 0, .int .u16 0] 33)
  have P_4 := P_2.on al
  have hs_ : (w.alloc (.cells #[.string D, .int .i64 (o : Int)] 77)).heap.size = w.heap.size + 1 := by simp
  have R_5 := Box5.make (w.alloc (.cells #[.string D, .int .i64 (o : Int)] 77)) (.int .u8 0) (.int .u32 0) (.int .u16 0) (.int .u32 0) (.int .u16 0) 33
  rw [hs_] at R_5
  clear hs_
  have B6 := B3.trans (al.mono B3.size)
  clear al
  clear P_2 B3
  have fzR_7 : ∀ i, ((w.alloc (.cells #[.string D, .int .i64 (o : Int)] 77)).alloc (.cells #[.int .u8 0, .int .u32 0, .int .u16 0, .int .u32 0, .int .u16 0] 33)).frozen? ⟨(w.heap.size + 1), i, none⟩ = false := by intro i; simp [go_sem]
  obtain ⟨u1, hu1⟩ : ∃ x, x = (w.alloc (.cells #[.string D, .int .i64 (o : Int)] 77)).alloc (.cells #[.int .u8 0, .int .u32 0, .int .u16 0, .int .u32 0, .int .u16 0] 33) := ⟨_, rfl⟩
  rw [← hu1] at P_4 R_5 fzR_7 B6 ⊢
  clear hu1
  have ne1_ : ¬ w.heap.size + 1 = w.heap.size := by omega
  have ne2_ : ¬ w.heap.size = w.heap.size + 1 := by omega
  obtain ⟨zp, gp0, gp1⟩ := id P_4
  have Fp0 := lat_ gp0 zp
  have Fp1 := lat_ gp1 zp
  clear gp0 gp1
  refine region_lead (B := u1.heap.size) 12 1 (by kernel_rfl) (by kernel_rfl) (by kernel_rfl) (by kernel_rfl) ?_
  simp only [List.take_succ_cons, List.take_zero]
  repeat (go_big_quiet_step (first
    | (go_at_call 65; exact later_of _ (Nat.le_refl _) (c9 _))
    | (go_at_call 66; with_reducible exact later_of _ (Nat.le_refl _) (c12 _))
    | (go_at_call 66; with_reducible exact later_of _ (Nat.le_refl _) (c16 _))))
  refine lead_end (by kernel_rfl) (by kernel_rfl) rfl fun w2 x2 K hK => ?_
  have fzR_8 := fzB_ x2 R_5.1 fzR_7
  clear fzR_7
  have P_9 := P_4.on x2
  have R_10 := R_5.on x2
  have B11 := B6.trans (x2.mono B6.size)
  clear Fp0 Fp1 zp P_4 R_5 B6 x2
  clear c9 c12 c16
  obtain ⟨_, r1_0, r1_1, r1_2, r1_3, r1_4⟩ := id R_10
  go_simp
  refine hK.out _ _ ?_
  clear hK K
  clear r1_0 r1_1 r1_2 r1_3 r1_4
  obtain ⟨_, p2_0, p2_1⟩ := id P_9
  obtain ⟨_, r3_0, r3_1, r3_2, r3_3, r3_4⟩ := id R_10
  have B12 := (((((B11.setCell (p := ⟨(w.heap.size + 1), 0, none⟩) (Nat.le_succ _) (.int .u8 1)).setCell (p := ⟨(w.heap.size + 1), 1, none⟩) (Nat.le_succ _) (.int .u32 oa)).setCell (p := ⟨(w.heap.size + 1), 2, none⟩) (Nat.le_succ _) (.int .u16 0)).setCell (p := ⟨(w.heap.size + 1), 3, none⟩) (Nat.le_succ _) (.int .u32 ob)).setCell (p := ⟨(w.heap.size + 1), 4, none⟩) (Nat.le_succ _) (.int .u16 0))
  have P_13 : Box2 (((((w2.setCell ⟨(w.heap.size + 1), 0, none⟩ (.int .u8 1)).setCell ⟨(w.heap.size + 1), 1, none⟩ (.int .u32 oa)).setCell ⟨(w.heap.size + 1), 2, none⟩ (.int .u16 0)).setCell ⟨(w.heap.size + 1), 3, none⟩ (.int .u32 ob)).setCell ⟨(w.heap.size + 1), 4, none⟩ (.int .u16 0)) w.heap.size (.string D) (.int .i64 (o : Int)) := ⟨by have := P_9.1; simpa using this, by simp [go_sem, p2_0, p2_1, r3_0, r3_1, r3_2, r3_3, r3_4]⟩
  have R_14 : Box5 (((((w2.setCell ⟨(w.heap.size + 1), 0, none⟩ (.int .u8 1)).setCell ⟨(w.heap.size + 1), 1, none⟩ (.int .u32 oa)).setCell ⟨(w.heap.size + 1), 2, none⟩ (.int .u16 0)).setCell ⟨(w.heap.size + 1), 3, none⟩ (.int .u32 ob)).setCell ⟨(w.heap.size + 1), 4, none⟩ (.int .u16 0)) (w.heap.size + 1) (.int .u8 1) (.int .u32 oa) (.int .u16 0) (.int .u32 ob) (.int .u16 0) := ⟨by have := R_10.1; simpa using this, by simp [go_sem, p2_0, p2_1, r3_0, r3_1, r3_2, r3_3, r3_4]⟩
  have fzR_15 : ∀ i, (((((w2.setCell ⟨(w.heap.size + 1), 0, none⟩ (.int .u8 1)).setCell ⟨(w.heap.size + 1), 1, none⟩ (.int .u32 oa)).setCell ⟨(w.heap.size + 1), 2, none⟩ (.int .u16 0)).setCell ⟨(w.heap.size + 1), 3, none⟩ (.int .u32 ob)).setCell ⟨(w.heap.size + 1), 4, none⟩ (.int .u16 0)).frozen? ⟨(w.heap.size + 1), i, none⟩ = false := by intro i; simp [fzR_8]
  clear p2_0 p2_1 r3_0 r3_1 r3_2 r3_3 r3_4 P_9 R_10 fzR_8 B11
  obtain ⟨u3, hu3⟩ : ∃ x, x = (((((w2.setCell ⟨(w.heap.size + 1), 0, none⟩ (.int .u8 1)).setCell ⟨(w.heap.size + 1), 1, none⟩ (.int .u32 oa)).setCell ⟨(w.heap.size + 1), 2, none⟩ (.int .u16 0)).setCell ⟨(w.heap.size + 1), 3, none⟩ (.int .u32 ob)).setCell ⟨(w.heap.size + 1), 4, none⟩ (.int .u16 0)) := ⟨_, rfl⟩
  rw [← hu3] at P_13 R_14 fzR_15 B12 ⊢
  clear hu3
  obtain ⟨_, r4_0, r4_1, r4_2, r4_3, r4_4⟩ := id R_14
  obtain ⟨_, p5_0, p5_1⟩ := id P_13
  go_wp2_with fail
  refine (cq _).mono ?_; rintro e w4 ⟨rfl, x4⟩
  have fzR_16 := fzB_ x4 R_14.1 fzR_15
  clear fzR_15
  have P_17 := P_13.on x4
  have R_18 := R_14.on x4
  have B19 := B12.trans (x4.mono B12.size)
  clear r4_0 r4_1 r4_2 r4_3 r4_4 p5_0 p5_1 P_13 R_14 B12 x4
  clear cq
  obtain ⟨_, r6_0, r6_1, r6_2, r6_3, r6_4⟩ := id R_18
  go_wp2
  refine box5_ (b := w.heap.size + 1) R_18.some B19 (Nat.le_succ _) fun Z x0 x1 x2 x3 x4 BZ _ _ => ?_
  refine bodyPost_ret (v := .tuple #[.agg #[.int .u8 0, .int .u32 0, .int .u16 0, .int .u32 0, .int .u16 0], .int .i64 15]) (by simp [results, Tryz.results30, go_sem, x0, x1, x2, x3, x4]) rfl ?_
  exact ⟨rfl, BZ⟩
theorem emTuple_ask (D : ByteArray) (o : Nat) (o60 : o ≤ 60) (oa ob : Int) (c9 : Cb_ 65 #[.string D, .int .i64 9] (.int .u8 1)) (c12 : Cb_ 66 #[.string D, .int .i64 12] (.int .u32 oa)) (c16 : Cb_ 66 #[.string D, .int .i64 16] (.int .u32 ob)) (cq : Cb_ 67 #[.agg #[.string D, .int .i64 (o : Int)]] (.tuple #[.bool true, .bool true])) (j : Int) (cj : Cb_ 64 #[.string D, .int .i64 ((o : Int) + 4)] (.int .u16 j)) (w : World) :
    Cw_ 30 #[.agg #[.string D, .int .i64 (o : Int)]] (.tuple #[.agg #[.int .u8 1, .int .u32 oa, .int .u16 j, .int .u32 ob, .int .u16 0], .int .i64 0]) w := by
  go_enter Tryz.func30, Tryz.ntmps30
  have B1 := Below.refl w.heap.size w
  go_upto_region 1 with fail
  have P_2 := Box2.make w (.string D) (.int .i64 (o : Int)) 77
  have B3 := B1.alloc B1.size (.cells #[.string D, .int .i64 (o : Int)] 77)
  clear B1
  have al := alO_ B3 (.cells #[.int .u8 0, .int .u32 0, .int .u16 0, .int .u32 0, .int .u16 0] 33)
  have P_4 := P_2.on al
  have hs_ : (w.alloc (.cells #[.string D, .int .i64 (o : Int)] 77)).heap.size = w.heap.size + 1 := by simp
  have R_5 := Box5.make (w.alloc (.cells #[.string D, .int .i64 (o : Int)] 77)) (.int .u8 0) (.int .u32 0) (.int .u16 0) (.int .u32 0) (.int .u16 0) 33
  rw [hs_] at R_5
  clear hs_
  have B6 := B3.trans (al.mono B3.size)
  clear al
  clear P_2 B3
  have fzR_7 : ∀ i, ((w.alloc (.cells #[.string D, .int .i64 (o : Int)] 77)).alloc (.cells #[.int .u8 0, .int .u32 0, .int .u16 0, .int .u32 0, .int .u16 0] 33)).frozen? ⟨(w.heap.size + 1), i, none⟩ = false := by intro i; simp [go_sem]
  obtain ⟨u1, hu1⟩ : ∃ x, x = (w.alloc (.cells #[.string D, .int .i64 (o : Int)] 77)).alloc (.cells #[.int .u8 0, .int .u32 0, .int .u16 0, .int .u32 0, .int .u16 0] 33) := ⟨_, rfl⟩
  rw [← hu1] at P_4 R_5 fzR_7 B6 ⊢
  clear hu1
  have ne1_ : ¬ w.heap.size + 1 = w.heap.size := by omega
  have ne2_ : ¬ w.heap.size = w.heap.size + 1 := by omega
  obtain ⟨zp, gp0, gp1⟩ := id P_4
  have Fp0 := lat_ gp0 zp
  have Fp1 := lat_ gp1 zp
  clear gp0 gp1
  refine region_lead (B := u1.heap.size) 12 1 (by kernel_rfl) (by kernel_rfl) (by kernel_rfl) (by kernel_rfl) ?_
  simp only [List.take_succ_cons, List.take_zero]
  repeat (go_big_quiet_step (first
    | (go_at_call 65; exact later_of _ (Nat.le_refl _) (c9 _))
    | (go_at_call 66; with_reducible exact later_of _ (Nat.le_refl _) (c12 _))
    | (go_at_call 66; with_reducible exact later_of _ (Nat.le_refl _) (c16 _))))
  refine lead_end (by kernel_rfl) (by kernel_rfl) rfl fun w2 x2 K hK => ?_
  have fzR_8 := fzB_ x2 R_5.1 fzR_7
  clear fzR_7
  have P_9 := P_4.on x2
  have R_10 := R_5.on x2
  have B11 := B6.trans (x2.mono B6.size)
  clear Fp0 Fp1 zp P_4 R_5 B6 x2
  clear c9 c12 c16
  obtain ⟨_, r1_0, r1_1, r1_2, r1_3, r1_4⟩ := id R_10
  go_simp
  refine hK.out _ _ ?_
  clear hK K
  clear r1_0 r1_1 r1_2 r1_3 r1_4
  obtain ⟨_, p2_0, p2_1⟩ := id P_9
  obtain ⟨_, r3_0, r3_1, r3_2, r3_3, r3_4⟩ := id R_10
  have B12 := (((((B11.setCell (p := ⟨(w.heap.size + 1), 0, none⟩) (Nat.le_succ _) (.int .u8 1)).setCell (p := ⟨(w.heap.size + 1), 1, none⟩) (Nat.le_succ _) (.int .u32 oa)).setCell (p := ⟨(w.heap.size + 1), 2, none⟩) (Nat.le_succ _) (.int .u16 0)).setCell (p := ⟨(w.heap.size + 1), 3, none⟩) (Nat.le_succ _) (.int .u32 ob)).setCell (p := ⟨(w.heap.size + 1), 4, none⟩) (Nat.le_succ _) (.int .u16 0))
  have P_13 : Box2 (((((w2.setCell ⟨(w.heap.size + 1), 0, none⟩ (.int .u8 1)).setCell ⟨(w.heap.size + 1), 1, none⟩ (.int .u32 oa)).setCell ⟨(w.heap.size + 1), 2, none⟩ (.int .u16 0)).setCell ⟨(w.heap.size + 1), 3, none⟩ (.int .u32 ob)).setCell ⟨(w.heap.size + 1), 4, none⟩ (.int .u16 0)) w.heap.size (.string D) (.int .i64 (o : Int)) := ⟨by have := P_9.1; simpa using this, by simp [go_sem, p2_0, p2_1, r3_0, r3_1, r3_2, r3_3, r3_4]⟩
  have R_14 : Box5 (((((w2.setCell ⟨(w.heap.size + 1), 0, none⟩ (.int .u8 1)).setCell ⟨(w.heap.size + 1), 1, none⟩ (.int .u32 oa)).setCell ⟨(w.heap.size + 1), 2, none⟩ (.int .u16 0)).setCell ⟨(w.heap.size + 1), 3, none⟩ (.int .u32 ob)).setCell ⟨(w.heap.size + 1), 4, none⟩ (.int .u16 0)) (w.heap.size + 1) (.int .u8 1) (.int .u32 oa) (.int .u16 0) (.int .u32 ob) (.int .u16 0) := ⟨by have := R_10.1; simpa using this, by simp [go_sem, p2_0, p2_1, r3_0, r3_1, r3_2, r3_3, r3_4]⟩
  have fzR_15 : ∀ i, (((((w2.setCell ⟨(w.heap.size + 1), 0, none⟩ (.int .u8 1)).setCell ⟨(w.heap.size + 1), 1, none⟩ (.int .u32 oa)).setCell ⟨(w.heap.size + 1), 2, none⟩ (.int .u16 0)).setCell ⟨(w.heap.size + 1), 3, none⟩ (.int .u32 ob)).setCell ⟨(w.heap.size + 1), 4, none⟩ (.int .u16 0)).frozen? ⟨(w.heap.size + 1), i, none⟩ = false := by intro i; simp [fzR_8]
  clear p2_0 p2_1 r3_0 r3_1 r3_2 r3_3 r3_4 P_9 R_10 fzR_8 B11
  obtain ⟨u3, hu3⟩ : ∃ x, x = (((((w2.setCell ⟨(w.heap.size + 1), 0, none⟩ (.int .u8 1)).setCell ⟨(w.heap.size + 1), 1, none⟩ (.int .u32 oa)).setCell ⟨(w.heap.size + 1), 2, none⟩ (.int .u16 0)).setCell ⟨(w.heap.size + 1), 3, none⟩ (.int .u32 ob)).setCell ⟨(w.heap.size + 1), 4, none⟩ (.int .u16 0)) := ⟨_, rfl⟩
  rw [← hu3] at P_13 R_14 fzR_15 B12 ⊢
  clear hu3
  obtain ⟨_, r4_0, r4_1, r4_2, r4_3, r4_4⟩ := id R_14
  obtain ⟨_, p5_0, p5_1⟩ := id P_13
  go_wp2_with fail
  refine (cq _).mono ?_; rintro e w4 ⟨rfl, x4⟩
  have fzR_16 := fzB_ x4 R_14.1 fzR_15
  clear fzR_15
  have P_17 := P_13.on x4
  have R_18 := R_14.on x4
  have B19 := B12.trans (x4.mono B12.size)
  clear r4_0 r4_1 r4_2 r4_3 r4_4 p5_0 p5_1 P_13 R_14 B12 x4
  clear cq
  obtain ⟨_, p6_0, p6_1⟩ := id P_17
  go_wp2_with fail
  refine (cj _).mono ?_; rintro e w5 ⟨rfl, x5⟩
  have fzR_20 := fzB_ x5 R_18.1 fzR_16
  clear fzR_16
  have P_21 := P_17.on x5
  have R_22 := R_18.on x5
  have B23 := B19.trans (x5.mono B19.size)
  clear p6_0 p6_1 P_17 R_18 B19 x5
  obtain ⟨_, r7_0, r7_1, r7_2, r7_3, r7_4⟩ := id R_22
  go_upto_region 14 with fail
  clear r7_0 r7_1 r7_2 r7_3 r7_4
  obtain ⟨_, p8_0, p8_1⟩ := id P_21
  obtain ⟨_, r9_0, r9_1, r9_2, r9_3, r9_4⟩ := id R_22
  have B24 := (B23.setCell (p := ⟨(w.heap.size + 1), 2, none⟩) (Nat.le_succ _) (.int .u16 j))
  have P_25 : Box2 (w5.setCell ⟨(w.heap.size + 1), 2, none⟩ (.int .u16 j)) w.heap.size (.string D) (.int .i64 (o : Int)) := ⟨by have := P_21.1; simpa using this, by simp [go_sem, p8_0, p8_1, r9_0, r9_1, r9_2, r9_3, r9_4]⟩
  have R_26 : Box5 (w5.setCell ⟨(w.heap.size + 1), 2, none⟩ (.int .u16 j)) (w.heap.size + 1) (.int .u8 1) (.int .u32 oa) (.int .u16 j) (.int .u32 ob) (.int .u16 0) := ⟨by have := R_22.1; simpa using this, by simp [go_sem, p8_0, p8_1, r9_0, r9_1, r9_2, r9_3, r9_4]⟩
  have fzR_27 : ∀ i, (w5.setCell ⟨(w.heap.size + 1), 2, none⟩ (.int .u16 j)).frozen? ⟨(w.heap.size + 1), i, none⟩ = false := by intro i; simp [fzR_20]
  clear p8_0 p8_1 r9_0 r9_1 r9_2 r9_3 r9_4 P_21 R_22 fzR_20 B23
  obtain ⟨u6, hu6⟩ : ∃ x, x = (w5.setCell ⟨(w.heap.size + 1), 2, none⟩ (.int .u16 j)) := ⟨_, rfl⟩
  rw [← hu6] at P_25 R_26 fzR_27 B24 ⊢
  clear hu6
  obtain ⟨_, r10_0, r10_1, r10_2, r10_3, r10_4⟩ := id R_26
  go_wp2
  refine box5_ (b := w.heap.size + 1) R_26.some B24 (Nat.le_succ _) fun Z x0 x1 x2 x3 x4 BZ _ _ => ?_
  refine bodyPost_ret (v := .tuple #[.agg #[.int .u8 1, .int .u32 oa, .int .u16 j, .int .u32 ob, .int .u16 0], .int .i64 0]) (by simp [results, Tryz.results30, go_sem, x0, x1, x2, x3, x4]) rfl ?_
  exact ⟨rfl, BZ⟩
theorem emTuple_told (D : ByteArray) (o : Nat) (o60 : o ≤ 60) (oa ob : Int) (c9 : Cb_ 65 #[.string D, .int .i64 9] (.int .u8 1)) (c12 : Cb_ 66 #[.string D, .int .i64 12] (.int .u32 oa)) (c16 : Cb_ 66 #[.string D, .int .i64 16] (.int .u32 ob)) (cq : Cb_ 67 #[.agg #[.string D, .int .i64 (o : Int)]] (.tuple #[.bool false, .bool true])) (j : Int) (cj : Cb_ 64 #[.string D, .int .i64 ((o : Int) + 4)] (.int .u16 j)) (w : World) :
    Cw_ 30 #[.agg #[.string D, .int .i64 (o : Int)]] (.tuple #[.agg #[.int .u8 1, .int .u32 oa, .int .u16 0, .int .u32 ob, .int .u16 j], .int .i64 0]) w := by
  go_enter Tryz.func30, Tryz.ntmps30
  have B1 := Below.refl w.heap.size w
  go_upto_region 1 with fail
  have P_2 := Box2.make w (.string D) (.int .i64 (o : Int)) 77
  have B3 := B1.alloc B1.size (.cells #[.string D, .int .i64 (o : Int)] 77)
  clear B1
  have al := alO_ B3 (.cells #[.int .u8 0, .int .u32 0, .int .u16 0, .int .u32 0, .int .u16 0] 33)
  have P_4 := P_2.on al
  have hs_ : (w.alloc (.cells #[.string D, .int .i64 (o : Int)] 77)).heap.size = w.heap.size + 1 := by simp
  have R_5 := Box5.make (w.alloc (.cells #[.string D, .int .i64 (o : Int)] 77)) (.int .u8 0) (.int .u32 0) (.int .u16 0) (.int .u32 0) (.int .u16 0) 33
  rw [hs_] at R_5
  clear hs_
  have B6 := B3.trans (al.mono B3.size)
  clear al
  clear P_2 B3
  have fzR_7 : ∀ i, ((w.alloc (.cells #[.string D, .int .i64 (o : Int)] 77)).alloc (.cells #[.int .u8 0, .int .u32 0, .int .u16 0, .int .u32 0, .int .u16 0] 33)).frozen? ⟨(w.heap.size + 1), i, none⟩ = false := by intro i; simp [go_sem]
  obtain ⟨u1, hu1⟩ : ∃ x, x = (w.alloc (.cells #[.string D, .int .i64 (o : Int)] 77)).alloc (.cells #[.int .u8 0, .int .u32 0, .int .u16 0, .int .u32 0, .int .u16 0] 33) := ⟨_, rfl⟩
  rw [← hu1] at P_4 R_5 fzR_7 B6 ⊢
  clear hu1
  have ne1_ : ¬ w.heap.size + 1 = w.heap.size := by omega
  have ne2_ : ¬ w.heap.size = w.heap.size + 1 := by omega
  obtain ⟨zp, gp0, gp1⟩ := id P_4
  have Fp0 := lat_ gp0 zp
  have Fp1 := lat_ gp1 zp
  clear gp0 gp1
  refine region_lead (B := u1.heap.size) 12 1 (by kernel_rfl) (by kernel_rfl) (by kernel_rfl) (by kernel_rfl) ?_
  simp only [List.take_succ_cons, List.take_zero]
  repeat (go_big_quiet_step (first
    | (go_at_call 65; exact later_of _ (Nat.le_refl _) (c9 _))
    | (go_at_call 66; with_reducible exact later_of _ (Nat.le_refl _) (c12 _))
    | (go_at_call 66; with_reducible exact later_of _ (Nat.le_refl _) (c16 _))))
  refine lead_end (by kernel_rfl) (by kernel_rfl) rfl fun w2 x2 K hK => ?_
  have fzR_8 := fzB_ x2 R_5.1 fzR_7
  clear fzR_7
  have P_9 := P_4.on x2
  have R_10 := R_5.on x2
  have B11 := B6.trans (x2.mono B6.size)
  clear Fp0 Fp1 zp P_4 R_5 B6 x2
  clear c9 c12 c16
  obtain ⟨_, r1_0, r1_1, r1_2, r1_3, r1_4⟩ := id R_10
  go_simp
  refine hK.out _ _ ?_
  clear hK K
  clear r1_0 r1_1 r1_2 r1_3 r1_4
  obtain ⟨_, p2_0, p2_1⟩ := id P_9
  obtain ⟨_, r3_0, r3_1, r3_2, r3_3, r3_4⟩ := id R_10
  have B12 := (((((B11.setCell (p := ⟨(w.heap.size + 1), 0, none⟩) (Nat.le_succ _) (.int .u8 1)).setCell (p := ⟨(w.heap.size + 1), 1, none⟩) (Nat.le_succ _) (.int .u32 oa)).setCell (p := ⟨(w.heap.size + 1), 2, none⟩) (Nat.le_succ _) (.int .u16 0)).setCell (p := ⟨(w.heap.size + 1), 3, none⟩) (Nat.le_succ _) (.int .u32 ob)).setCell (p := ⟨(w.heap.size + 1), 4, none⟩) (Nat.le_succ _) (.int .u16 0))
  have P_13 : Box2 (((((w2.setCell ⟨(w.heap.size + 1), 0, none⟩ (.int .u8 1)).setCell ⟨(w.heap.size + 1), 1, none⟩ (.int .u32 oa)).setCell ⟨(w.heap.size + 1), 2, none⟩ (.int .u16 0)).setCell ⟨(w.heap.size + 1), 3, none⟩ (.int .u32 ob)).setCell ⟨(w.heap.size + 1), 4, none⟩ (.int .u16 0)) w.heap.size (.string D) (.int .i64 (o : Int)) := ⟨by have := P_9.1; simpa using this, by simp [go_sem, p2_0, p2_1, r3_0, r3_1, r3_2, r3_3, r3_4]⟩
  have R_14 : Box5 (((((w2.setCell ⟨(w.heap.size + 1), 0, none⟩ (.int .u8 1)).setCell ⟨(w.heap.size + 1), 1, none⟩ (.int .u32 oa)).setCell ⟨(w.heap.size + 1), 2, none⟩ (.int .u16 0)).setCell ⟨(w.heap.size + 1), 3, none⟩ (.int .u32 ob)).setCell ⟨(w.heap.size + 1), 4, none⟩ (.int .u16 0)) (w.heap.size + 1) (.int .u8 1) (.int .u32 oa) (.int .u16 0) (.int .u32 ob) (.int .u16 0) := ⟨by have := R_10.1; simpa using this, by simp [go_sem, p2_0, p2_1, r3_0, r3_1, r3_2, r3_3, r3_4]⟩
  have fzR_15 : ∀ i, (((((w2.setCell ⟨(w.heap.size + 1), 0, none⟩ (.int .u8 1)).setCell ⟨(w.heap.size + 1), 1, none⟩ (.int .u32 oa)).setCell ⟨(w.heap.size + 1), 2, none⟩ (.int .u16 0)).setCell ⟨(w.heap.size + 1), 3, none⟩ (.int .u32 ob)).setCell ⟨(w.heap.size + 1), 4, none⟩ (.int .u16 0)).frozen? ⟨(w.heap.size + 1), i, none⟩ = false := by intro i; simp [fzR_8]
  clear p2_0 p2_1 r3_0 r3_1 r3_2 r3_3 r3_4 P_9 R_10 fzR_8 B11
  obtain ⟨u3, hu3⟩ : ∃ x, x = (((((w2.setCell ⟨(w.heap.size + 1), 0, none⟩ (.int .u8 1)).setCell ⟨(w.heap.size + 1), 1, none⟩ (.int .u32 oa)).setCell ⟨(w.heap.size + 1), 2, none⟩ (.int .u16 0)).setCell ⟨(w.heap.size + 1), 3, none⟩ (.int .u32 ob)).setCell ⟨(w.heap.size + 1), 4, none⟩ (.int .u16 0)) := ⟨_, rfl⟩
  rw [← hu3] at P_13 R_14 fzR_15 B12 ⊢
  clear hu3
  obtain ⟨_, r4_0, r4_1, r4_2, r4_3, r4_4⟩ := id R_14
  obtain ⟨_, p5_0, p5_1⟩ := id P_13
  go_wp2_with fail
  refine (cq _).mono ?_; rintro e w4 ⟨rfl, x4⟩
  have fzR_16 := fzB_ x4 R_14.1 fzR_15
  clear fzR_15
  have P_17 := P_13.on x4
  have R_18 := R_14.on x4
  have B19 := B12.trans (x4.mono B12.size)
  clear r4_0 r4_1 r4_2 r4_3 r4_4 p5_0 p5_1 P_13 R_14 B12 x4
  clear cq
  obtain ⟨_, p6_0, p6_1⟩ := id P_17
  go_wp2_with fail
  refine (cj _).mono ?_; rintro e w5 ⟨rfl, x5⟩
  have fzR_20 := fzB_ x5 R_18.1 fzR_16
  clear fzR_16
  have P_21 := P_17.on x5
  have R_22 := R_18.on x5
  have B23 := B19.trans (x5.mono B19.size)
  clear p6_0 p6_1 P_17 R_18 B19 x5
  obtain ⟨_, r7_0, r7_1, r7_2, r7_3, r7_4⟩ := id R_22
  go_upto_region 14 with fail
  clear r7_0 r7_1 r7_2 r7_3 r7_4
  obtain ⟨_, p8_0, p8_1⟩ := id P_21
  obtain ⟨_, r9_0, r9_1, r9_2, r9_3, r9_4⟩ := id R_22
  have B24 := (B23.setCell (p := ⟨(w.heap.size + 1), 4, none⟩) (Nat.le_succ _) (.int .u16 j))
  have P_25 : Box2 (w5.setCell ⟨(w.heap.size + 1), 4, none⟩ (.int .u16 j)) w.heap.size (.string D) (.int .i64 (o : Int)) := ⟨by have := P_21.1; simpa using this, by simp [go_sem, p8_0, p8_1, r9_0, r9_1, r9_2, r9_3, r9_4]⟩
  have R_26 : Box5 (w5.setCell ⟨(w.heap.size + 1), 4, none⟩ (.int .u16 j)) (w.heap.size + 1) (.int .u8 1) (.int .u32 oa) (.int .u16 0) (.int .u32 ob) (.int .u16 j) := ⟨by have := R_22.1; simpa using this, by simp [go_sem, p8_0, p8_1, r9_0, r9_1, r9_2, r9_3, r9_4]⟩
  have fzR_27 : ∀ i, (w5.setCell ⟨(w.heap.size + 1), 4, none⟩ (.int .u16 j)).frozen? ⟨(w.heap.size + 1), i, none⟩ = false := by intro i; simp [fzR_20]
  clear p8_0 p8_1 r9_0 r9_1 r9_2 r9_3 r9_4 P_21 R_22 fzR_20 B23
  obtain ⟨u6, hu6⟩ : ∃ x, x = (w5.setCell ⟨(w.heap.size + 1), 4, none⟩ (.int .u16 j)) := ⟨_, rfl⟩
  rw [← hu6] at P_25 R_26 fzR_27 B24 ⊢
  clear hu6
  obtain ⟨_, r10_0, r10_1, r10_2, r10_3, r10_4⟩ := id R_26
  go_wp2
  refine box5_ (b := w.heap.size + 1) R_26.some B24 (Nat.le_succ _) fun Z x0 x1 x2 x3 x4 BZ _ _ => ?_
  refine bodyPost_ret (v := .tuple #[.agg #[.int .u8 1, .int .u32 oa, .int .u16 0, .int .u32 ob, .int .u16 j], .int .i64 0]) (by simp [results, Tryz.results30, go_sem, x0, x1, x2, x3, x4]) rfl ?_
  exact ⟨rfl, BZ⟩
theorem emApart_v (s X L h7 : ByteArray) (h0 h1 h3 h4 h5 h6 r : Int) (h2 : Bool) (m0 m1 m2 : Int) (m3 m4 : ByteArray) (mo : Bool) (o : Nat) (eo : wrap64 (20 + (h7.size : Int)) = (o : Int)) (ep : IntKind.i64.wrap (20 + (h7.size : Int)) = (o : Int)) (io : (o : Int) ≤ (s.size : Int)) (hX : s.extract 0 o = X) (cp : Cb_ 19 #[.string s] (.tuple #[.agg #[.int .u8 h0, .int .u16 h1, .bool h2, .int .u8 h3, .int .u8 h4, .int .u32 h5, .int .u32 h6, .string h7], .string L, .int .i64 r])) (cm : Cb_ 47 #[.string L] (.tuple #[.agg #[.int .u8 m0, .int .u8 m1, .int .u16 m2, .string m3, .string m4], .bool mo])) (w : World) :
    Cw_ 28 #[.string s] (.tuple #[.string X, .agg #[.int .u8 m0, .int .u8 m1, .int .u16 m2, .string m3, .string m4]]) w := by
  go_enter Tryz.func28, Tryz.ntmps28
  have B1 := Below.refl w.heap.size w
  go_upto_region 1 with fail
  have R_2 := Box5.make w (.int .u8 0) (.int .u8 0) (.int .u16 0) (.string ⟨#[]⟩) (.string ⟨#[]⟩) 63
  have B3 := B1.alloc B1.size (.cells #[.int .u8 0, .int .u8 0, .int .u16 0, .string ⟨#[]⟩, .string ⟨#[]⟩] 63)
  clear B1
  have fzR_4 : ∀ i, (w.alloc (.cells #[.int .u8 0, .int .u8 0, .int .u16 0, .string ⟨#[]⟩, .string ⟨#[]⟩] 63)).frozen? ⟨w.heap.size, i, none⟩ = false := by intro i; simp [go_sem]
  obtain ⟨u1, hu1⟩ : ∃ x, x = w.alloc (.cells #[.int .u8 0, .int .u8 0, .int .u16 0, .string ⟨#[]⟩, .string ⟨#[]⟩] 63) := ⟨_, rfl⟩
  rw [← hu1] at R_2 fzR_4 B3 ⊢
  clear hu1
  go_wp2_with fail
  refine (cp _).mono ?_; rintro e w1 ⟨rfl, x1⟩
  have fzR_5 := fzB_ x1 R_2.1 fzR_4
  clear fzR_4
  have R_6 := R_2.on x1
  have B7 := B3.trans (x1.mono B3.size)
  clear R_2 B3 x1
  clear cp
  have Lt := Lib.hid (show w.heap.size < w1.heap.size from R_6.1)
  have al := alO_ B7 (.cells #[.int .u8 h0, .int .u16 h1, .bool h2, .int .u8 h3, .int .u8 h4, .int .u32 h5, .int .u32 h6, .string h7] 64)
  have fzR_8 := fzB_ al R_6.1 fzR_5
  clear fzR_5
  have R_9 := R_6.on al
  have H_10 := Box8.make w1 (.int .u8 h0) (.int .u16 h1) (.bool h2) (.int .u8 h3) (.int .u8 h4) (.int .u32 h5) (.int .u32 h6) (.string h7) 64
  have B11 := B7.trans (al.mono B7.size)
  clear al
  clear R_6 B7
  go_wp2_with fail
  obtain ⟨u2, hu2⟩ : ∃ x, x = w1.alloc (.cells #[.int .u8 h0, .int .u16 h1, .bool h2, .int .u8 h3, .int .u8 h4, .int .u32 h5, .int .u32 h6, .string h7] 64) := ⟨_, rfl⟩
  rw [← hu2] at R_9 H_10 fzR_8 B11 ⊢
  clear hu2
  have ne1_ : ¬ w.heap.size = w1.heap.size := by have := Lt.out; omega
  have ne2_ : ¬ w1.heap.size = w.heap.size := by have := Lt.out; omega
  refine (cm _).mono ?_; rintro e w2 ⟨rfl, x2⟩
  have fzR_12 := fzB_ x2 R_9.1 fzR_8
  clear fzR_8
  have R_13 := R_9.on x2
  have H_14 := H_10.on x2
  have B15 := B11.trans (x2.mono B11.size)
  clear R_9 H_10 B11 x2
  clear cm
  obtain ⟨_, r1_0, r1_1, r1_2, r1_3, r1_4⟩ := id R_13
  go_upto_region 3 with fail
  clear r1_0 r1_1 r1_2 r1_3 r1_4
  obtain ⟨_, r2_0, r2_1, r2_2, r2_3, r2_4⟩ := id R_13
  obtain ⟨_, h3_0, h3_1, h3_2, h3_3, h3_4, h3_5, h3_6, h3_7⟩ := id H_14
  have B16 := (((((B15.setCell (p := ⟨w.heap.size, 0, none⟩) (Nat.le_refl _) (.int .u8 m0)).setCell (p := ⟨w.heap.size, 1, none⟩) (Nat.le_refl _) (.int .u8 m1)).setCell (p := ⟨w.heap.size, 2, none⟩) (Nat.le_refl _) (.int .u16 m2)).setCell (p := ⟨w.heap.size, 3, none⟩) (Nat.le_refl _) (.string m3)).setCell (p := ⟨w.heap.size, 4, none⟩) (Nat.le_refl _) (.string m4))
  have R_17 : Box5 (((((w2.setCell ⟨w.heap.size, 0, none⟩ (.int .u8 m0)).setCell ⟨w.heap.size, 1, none⟩ (.int .u8 m1)).setCell ⟨w.heap.size, 2, none⟩ (.int .u16 m2)).setCell ⟨w.heap.size, 3, none⟩ (.string m3)).setCell ⟨w.heap.size, 4, none⟩ (.string m4)) w.heap.size (.int .u8 m0) (.int .u8 m1) (.int .u16 m2) (.string m3) (.string m4) := ⟨by have := R_13.1; simpa using this, by simp [go_sem, r2_0, r2_1, r2_2, r2_3, r2_4, h3_0, h3_1, h3_2, h3_3, h3_4, h3_5, h3_6, h3_7]⟩
  have H_18 : Box8 (((((w2.setCell ⟨w.heap.size, 0, none⟩ (.int .u8 m0)).setCell ⟨w.heap.size, 1, none⟩ (.int .u8 m1)).setCell ⟨w.heap.size, 2, none⟩ (.int .u16 m2)).setCell ⟨w.heap.size, 3, none⟩ (.string m3)).setCell ⟨w.heap.size, 4, none⟩ (.string m4)) w1.heap.size (.int .u8 h0) (.int .u16 h1) (.bool h2) (.int .u8 h3) (.int .u8 h4) (.int .u32 h5) (.int .u32 h6) (.string h7) := ⟨by have := H_14.1; simpa using this, by simp [go_sem, r2_0, r2_1, r2_2, r2_3, r2_4, h3_0, h3_1, h3_2, h3_3, h3_4, h3_5, h3_6, h3_7]⟩
  have fzR_19 : ∀ i, (((((w2.setCell ⟨w.heap.size, 0, none⟩ (.int .u8 m0)).setCell ⟨w.heap.size, 1, none⟩ (.int .u8 m1)).setCell ⟨w.heap.size, 2, none⟩ (.int .u16 m2)).setCell ⟨w.heap.size, 3, none⟩ (.string m3)).setCell ⟨w.heap.size, 4, none⟩ (.string m4)).frozen? ⟨w.heap.size, i, none⟩ = false := by intro i; simp [fzR_12]
  clear r2_0 r2_1 r2_2 r2_3 r2_4 h3_0 h3_1 h3_2 h3_3 h3_4 h3_5 h3_6 h3_7 R_13 H_14 fzR_12 B15
  obtain ⟨u3, hu3⟩ : ∃ x, x = (((((w2.setCell ⟨w.heap.size, 0, none⟩ (.int .u8 m0)).setCell ⟨w.heap.size, 1, none⟩ (.int .u8 m1)).setCell ⟨w.heap.size, 2, none⟩ (.int .u16 m2)).setCell ⟨w.heap.size, 3, none⟩ (.string m3)).setCell ⟨w.heap.size, 4, none⟩ (.string m4)) := ⟨_, rfl⟩
  rw [← hu3] at R_17 H_18 fzR_19 B16 ⊢
  clear hu3
  obtain ⟨_, r4_0, r4_1, r4_2, r4_3, r4_4⟩ := id R_17
  obtain ⟨_, h5_0, h5_1, h5_2, h5_3, h5_4, h5_5, h5_6, h5_7⟩ := id H_18
  go_region
  clear r4_0 r4_1 r4_2 r4_3 r4_4 h5_0 h5_1 h5_2 h5_3 h5_4 h5_5 h5_6 h5_7
  obtain ⟨_, r6_0, r6_1, r6_2, r6_3, r6_4⟩ := id R_17
  obtain ⟨_, h7_0, h7_1, h7_2, h7_3, h7_4, h7_5, h7_6, h7_7⟩ := id H_18
  have B20 := (((((B16.setCell (p := ⟨w.heap.size, 0, none⟩) (Nat.le_refl _) (.int .u8 m0)).setCell (p := ⟨w.heap.size, 1, none⟩) (Nat.le_refl _) (.int .u8 m1)).setCell (p := ⟨w.heap.size, 2, none⟩) (Nat.le_refl _) (.int .u16 m2)).setCell (p := ⟨w.heap.size, 3, none⟩) (Nat.le_refl _) (.string m3)).setCell (p := ⟨w.heap.size, 4, none⟩) (Nat.le_refl _) (.string m4)).drew
  have R_21 : Box5 (((((u3.setCell ⟨w.heap.size, 0, none⟩ (.int .u8 m0)).setCell ⟨w.heap.size, 1, none⟩ (.int .u8 m1)).setCell ⟨w.heap.size, 2, none⟩ (.int .u16 m2)).setCell ⟨w.heap.size, 3, none⟩ (.string m3)).setCell ⟨w.heap.size, 4, none⟩ (.string m4)).drew w.heap.size (.int .u8 m0) (.int .u8 m1) (.int .u16 m2) (.string m3) (.string m4) := ⟨by have := R_17.1; simpa using this, by simp [go_sem, r6_0, r6_1, r6_2, r6_3, r6_4, h7_0, h7_1, h7_2, h7_3, h7_4, h7_5, h7_6, h7_7]⟩
  have H_22 : Box8 (((((u3.setCell ⟨w.heap.size, 0, none⟩ (.int .u8 m0)).setCell ⟨w.heap.size, 1, none⟩ (.int .u8 m1)).setCell ⟨w.heap.size, 2, none⟩ (.int .u16 m2)).setCell ⟨w.heap.size, 3, none⟩ (.string m3)).setCell ⟨w.heap.size, 4, none⟩ (.string m4)).drew w1.heap.size (.int .u8 h0) (.int .u16 h1) (.bool h2) (.int .u8 h3) (.int .u8 h4) (.int .u32 h5) (.int .u32 h6) (.string h7) := ⟨by have := H_18.1; simpa using this, by simp [go_sem, r6_0, r6_1, r6_2, r6_3, r6_4, h7_0, h7_1, h7_2, h7_3, h7_4, h7_5, h7_6, h7_7]⟩
  have fzR_23 : ∀ i, (((((u3.setCell ⟨w.heap.size, 0, none⟩ (.int .u8 m0)).setCell ⟨w.heap.size, 1, none⟩ (.int .u8 m1)).setCell ⟨w.heap.size, 2, none⟩ (.int .u16 m2)).setCell ⟨w.heap.size, 3, none⟩ (.string m3)).setCell ⟨w.heap.size, 4, none⟩ (.string m4)).drew.frozen? ⟨w.heap.size, i, none⟩ = false := by intro i; simp [fzR_19]
  clear r6_0 r6_1 r6_2 r6_3 r6_4 h7_0 h7_1 h7_2 h7_3 h7_4 h7_5 h7_6 h7_7 R_17 H_18 fzR_19 B16
  obtain ⟨u4, hu4⟩ : ∃ x, x = (((((u3.setCell ⟨w.heap.size, 0, none⟩ (.int .u8 m0)).setCell ⟨w.heap.size, 1, none⟩ (.int .u8 m1)).setCell ⟨w.heap.size, 2, none⟩ (.int .u16 m2)).setCell ⟨w.heap.size, 3, none⟩ (.string m3)).setCell ⟨w.heap.size, 4, none⟩ (.string m4)).drew := ⟨_, rfl⟩
  rw [← hu4] at R_21 H_22 fzR_23 B20 ⊢
  clear hu4
  obtain ⟨_, r8_0, r8_1, r8_2, r8_3, r8_4⟩ := id R_21
  go_wp2
  refine bodyPost_ret (v := .tuple #[.string X, .agg #[.int .u8 m0, .int .u8 m1, .int .u16 m2, .string m3, .string m4]]) (by simp [results, Tryz.results28, go_sem, hX, r8_0, r8_1, r8_2, r8_3, r8_4]) rfl ?_
  exact ⟨rfl, B20⟩
theorem emInner_refused (q : Int) (e1 : (q != 0) = true) (s : ByteArray) (y0 y1 y2 y3 y4 y5 y6 y8 : Int) (y7 : Bool) (co : Cb_ 15 #[.string s] (.tuple #[.agg #[.int .u8 y0, .int .u32 y1, .int .u16 y2, .int .u32 y3, .int .u16 y4, .int .i64 y5, .int .u8 y6, .bool y7, .int .u8 y8], .int .i64 q]))  (w : World) :
    Cw_ 9 #[.string s] (.tuple #[.agg #[.int .u8 0, .int .u32 0, .int .u16 0, .int .u32 0, .int .u16 0], .int .i64 q]) w := by
  go_enter Tryz.func9, Tryz.ntmps9
  have B1 := Below.refl w.heap.size w
  go_upto_region 1 with fail
  have R_2 := Box5.make w (.int .u8 0) (.int .u32 0) (.int .u16 0) (.int .u32 0) (.int .u16 0) 33
  have B3 := B1.alloc B1.size (.cells #[.int .u8 0, .int .u32 0, .int .u16 0, .int .u32 0, .int .u16 0] 33)
  clear B1
  have fzR_4 : ∀ i, (w.alloc (.cells #[.int .u8 0, .int .u32 0, .int .u16 0, .int .u32 0, .int .u16 0] 33)).frozen? ⟨w.heap.size, i, none⟩ = false := by intro i; simp [go_sem]
  obtain ⟨u1, hu1⟩ : ∃ x, x = w.alloc (.cells #[.int .u8 0, .int .u32 0, .int .u16 0, .int .u32 0, .int .u16 0] 33) := ⟨_, rfl⟩
  rw [← hu1] at R_2 fzR_4 B3 ⊢
  clear hu1
  go_wp2_with fail
  refine (co _).mono ?_; rintro e w1 ⟨rfl, x1⟩
  have fzR_5 := fzB_ x1 R_2.1 fzR_4
  clear fzR_4
  have R_6 := R_2.on x1
  have B7 := B3.trans (x1.mono B3.size)
  clear R_2 B3 x1
  clear co
  have Lt := Lib.hid (show w.heap.size < w1.heap.size from R_6.1)
  have al := alO_ B7 (.cells #[.int .u8 y0, .int .u32 y1, .int .u16 y2, .int .u32 y3, .int .u16 y4, .int .i64 y5, .int .u8 y6, .bool y7, .int .u8 y8] 55)
  have fzR_8 := fzB_ al R_6.1 fzR_5
  clear fzR_5
  have R_9 := R_6.on al
  have X_10 := Box9.make w1 (.int .u8 y0) (.int .u32 y1) (.int .u16 y2) (.int .u32 y3) (.int .u16 y4) (.int .i64 y5) (.int .u8 y6) (.bool y7) (.int .u8 y8) 55
  have B11 := B7.trans (al.mono B7.size)
  clear al
  clear R_6 B7
  go_upto_region 2 with fail
  obtain ⟨u2, hu2⟩ : ∃ x, x = w1.alloc (.cells #[.int .u8 y0, .int .u32 y1, .int .u16 y2, .int .u32 y3, .int .u16 y4, .int .i64 y5, .int .u8 y6, .bool y7, .int .u8 y8] 55) := ⟨_, rfl⟩
  rw [← hu2] at R_9 X_10 fzR_8 B11 ⊢
  clear hu2
  have ne1_ : ¬ w.heap.size = w1.heap.size := by have := Lt.out; omega
  have ne2_ : ¬ w1.heap.size = w.heap.size := by have := Lt.out; omega
  obtain ⟨_, r1_0, r1_1, r1_2, r1_3, r1_4⟩ := id R_9
  obtain ⟨_, x2_0, x2_1, x2_2, x2_3, x2_4, x2_5, x2_6, x2_7, x2_8⟩ := id X_10
  go_wp2
  refine box5_ (b := w.heap.size) R_9.some B11 (Nat.le_refl _) fun Z x0 x1 x2 x3 x4 BZ _ _ => ?_
  refine bodyPost_ret (v := .tuple #[.agg #[.int .u8 0, .int .u32 0, .int .u16 0, .int .u32 0, .int .u16 0], .int .i64 q]) (by simp [results, Tryz.results9, go_sem, x0, x1, x2, x3, x4]) rfl ?_
  exact ⟨rfl, BZ⟩
theorem emInner_other (s : ByteArray) (y0 y1 y2 y3 y4 y5 y6 y8 : Int) (y7 : Bool) (co : Cb_ 15 #[.string s] (.tuple #[.agg #[.int .u8 y0, .int .u32 y1, .int .u16 y2, .int .u32 y3, .int .u16 y4, .int .i64 y5, .int .u8 y6, .bool y7, .int .u8 y8], .int .i64 0])) (e2 : (y5 != 3) = true) (w : World) :
    Cw_ 9 #[.string s] (.tuple #[.agg #[.int .u8 0, .int .u32 0, .int .u16 0, .int .u32 0, .int .u16 0], .int .i64 15]) w := by
  go_enter Tryz.func9, Tryz.ntmps9
  have B1 := Below.refl w.heap.size w
  go_upto_region 1 with fail
  have R_2 := Box5.make w (.int .u8 0) (.int .u32 0) (.int .u16 0) (.int .u32 0) (.int .u16 0) 33
  have B3 := B1.alloc B1.size (.cells #[.int .u8 0, .int .u32 0, .int .u16 0, .int .u32 0, .int .u16 0] 33)
  clear B1
  have fzR_4 : ∀ i, (w.alloc (.cells #[.int .u8 0, .int .u32 0, .int .u16 0, .int .u32 0, .int .u16 0] 33)).frozen? ⟨w.heap.size, i, none⟩ = false := by intro i; simp [go_sem]
  obtain ⟨u1, hu1⟩ : ∃ x, x = w.alloc (.cells #[.int .u8 0, .int .u32 0, .int .u16 0, .int .u32 0, .int .u16 0] 33) := ⟨_, rfl⟩
  rw [← hu1] at R_2 fzR_4 B3 ⊢
  clear hu1
  go_wp2_with fail
  refine (co _).mono ?_; rintro e w1 ⟨rfl, x1⟩
  have fzR_5 := fzB_ x1 R_2.1 fzR_4
  clear fzR_4
  have R_6 := R_2.on x1
  have B7 := B3.trans (x1.mono B3.size)
  clear R_2 B3 x1
  clear co
  have Lt := Lib.hid (show w.heap.size < w1.heap.size from R_6.1)
  have al := alO_ B7 (.cells #[.int .u8 y0, .int .u32 y1, .int .u16 y2, .int .u32 y3, .int .u16 y4, .int .i64 y5, .int .u8 y6, .bool y7, .int .u8 y8] 55)
  have fzR_8 := fzB_ al R_6.1 fzR_5
  clear fzR_5
  have R_9 := R_6.on al
  have X_10 := Box9.make w1 (.int .u8 y0) (.int .u32 y1) (.int .u16 y2) (.int .u32 y3) (.int .u16 y4) (.int .i64 y5) (.int .u8 y6) (.bool y7) (.int .u8 y8) 55
  have B11 := B7.trans (al.mono B7.size)
  clear al
  clear R_6 B7
  go_upto_region 2 with fail
  obtain ⟨u2, hu2⟩ : ∃ x, x = w1.alloc (.cells #[.int .u8 y0, .int .u32 y1, .int .u16 y2, .int .u32 y3, .int .u16 y4, .int .i64 y5, .int .u8 y6, .bool y7, .int .u8 y8] 55) := ⟨_, rfl⟩
  rw [← hu2] at R_9 X_10 fzR_8 B11 ⊢
  clear hu2
  have ne1_ : ¬ w.heap.size = w1.heap.size := by have := Lt.out; omega
  have ne2_ : ¬ w1.heap.size = w.heap.size := by have := Lt.out; omega
  obtain ⟨_, r1_0, r1_1, r1_2, r1_3, r1_4⟩ := id R_9
  obtain ⟨_, x2_0, x2_1, x2_2, x2_3, x2_4, x2_5, x2_6, x2_7, x2_8⟩ := id X_10
  go_wp2
  refine box5_ (b := w.heap.size) R_9.some B11 (Nat.le_refl _) fun Z x0 x1 x2 x3 x4 BZ _ _ => ?_
  refine bodyPost_ret (v := .tuple #[.agg #[.int .u8 0, .int .u32 0, .int .u16 0, .int .u32 0, .int .u16 0], .int .i64 15]) (by simp [results, Tryz.results9, go_sem, x0, x1, x2, x3, x4]) rfl ?_
  exact ⟨rfl, BZ⟩
theorem emInner_none (s : ByteArray) (y0 y1 y2 y3 y4 y5 y6 y8 : Int) (y7 : Bool) (co : Cb_ 15 #[.string s] (.tuple #[.agg #[.int .u8 y0, .int .u32 y1, .int .u16 y2, .int .u32 y3, .int .u16 y4, .int .i64 y5, .int .u8 y6, .bool y7, .int .u8 y8], .int .i64 0])) (e2 : (y5 != 3) = false) (X m3 m4 S : ByteArray) (m0 m1 m2 o : Int) (ca : Cb_ 28 #[.string s] (.tuple #[.string X, .agg #[.int .u8 m0, .int .u8 m1, .int .u16 m2, .string m3, .string m4]])) (cb : Cb_ 29 #[.string m4] (.tuple #[.agg #[.string S, .int .i64 o], .bool false]))  (w : World) :
    Cw_ 9 #[.string s] (.tuple #[.agg #[.int .u8 0, .int .u32 0, .int .u16 0, .int .u32 0, .int .u16 0], .int .i64 15]) w := by
  go_enter Tryz.func9, Tryz.ntmps9
  have B1 := Below.refl w.heap.size w
  go_upto_region 1 with fail
  have R_2 := Box5.make w (.int .u8 0) (.int .u32 0) (.int .u16 0) (.int .u32 0) (.int .u16 0) 33
  have B3 := B1.alloc B1.size (.cells #[.int .u8 0, .int .u32 0, .int .u16 0, .int .u32 0, .int .u16 0] 33)
  clear B1
  have fzR_4 : ∀ i, (w.alloc (.cells #[.int .u8 0, .int .u32 0, .int .u16 0, .int .u32 0, .int .u16 0] 33)).frozen? ⟨w.heap.size, i, none⟩ = false := by intro i; simp [go_sem]
  obtain ⟨u1, hu1⟩ : ∃ x, x = w.alloc (.cells #[.int .u8 0, .int .u32 0, .int .u16 0, .int .u32 0, .int .u16 0] 33) := ⟨_, rfl⟩
  rw [← hu1] at R_2 fzR_4 B3 ⊢
  clear hu1
  go_wp2_with fail
  refine (co _).mono ?_; rintro e w1 ⟨rfl, x1⟩
  have fzR_5 := fzB_ x1 R_2.1 fzR_4
  clear fzR_4
  have R_6 := R_2.on x1
  have B7 := B3.trans (x1.mono B3.size)
  clear R_2 B3 x1
  clear co
  have Lt := Lib.hid (show w.heap.size < w1.heap.size from R_6.1)
  have al := alO_ B7 (.cells #[.int .u8 y0, .int .u32 y1, .int .u16 y2, .int .u32 y3, .int .u16 y4, .int .i64 y5, .int .u8 y6, .bool y7, .int .u8 y8] 55)
  have fzR_8 := fzB_ al R_6.1 fzR_5
  clear fzR_5
  have R_9 := R_6.on al
  have X_10 := Box9.make w1 (.int .u8 y0) (.int .u32 y1) (.int .u16 y2) (.int .u32 y3) (.int .u16 y4) (.int .i64 y5) (.int .u8 y6) (.bool y7) (.int .u8 y8) 55
  have B11 := B7.trans (al.mono B7.size)
  clear al
  clear R_6 B7
  go_upto_region 2 with fail
  obtain ⟨u2, hu2⟩ : ∃ x, x = w1.alloc (.cells #[.int .u8 y0, .int .u32 y1, .int .u16 y2, .int .u32 y3, .int .u16 y4, .int .i64 y5, .int .u8 y6, .bool y7, .int .u8 y8] 55) := ⟨_, rfl⟩
  rw [← hu2] at R_9 X_10 fzR_8 B11 ⊢
  clear hu2
  have ne1_ : ¬ w.heap.size = w1.heap.size := by have := Lt.out; omega
  have ne2_ : ¬ w1.heap.size = w.heap.size := by have := Lt.out; omega
  obtain ⟨_, x1_0, x1_1, x1_2, x1_3, x1_4, x1_5, x1_6, x1_7, x1_8⟩ := id X_10
  go_wp2_with fail
  refine (ca _).mono ?_; rintro e w2 ⟨rfl, x2⟩
  have fzR_12 := fzB_ x2 R_9.1 fzR_8
  clear fzR_8
  have R_13 := R_9.on x2
  have X_14 := X_10.on x2
  have B15 := B11.trans (x2.mono B11.size)
  clear x1_0 x1_1 x1_2 x1_3 x1_4 x1_5 x1_6 x1_7 x1_8 R_9 X_10 B11 x2
  clear ca
  clear X_14
  have al := alO_ B15 (.cells #[.int .u8 m0, .int .u8 m1, .int .u16 m2, .string m3, .string m4] 63)
  have fzR_16 := fzB_ al R_13.1 fzR_12
  clear fzR_12
  have R_17 := R_13.on al
  have M_18 := Box5.make w2 (.int .u8 m0) (.int .u8 m1) (.int .u16 m2) (.string m3) (.string m4) 63
  have B19 := B15.trans (al.mono B15.size)
  clear al
  clear R_13 B15
  obtain ⟨_, m2_0, m2_1, m2_2, m2_3, m2_4⟩ := id M_18
  go_wp2_with fail
  refine (cb _).mono ?_; rintro e w3 ⟨rfl, x3⟩
  have fzR_20 := fzB_ x3 R_17.1 fzR_16
  clear fzR_16
  have R_21 := R_17.on x3
  have M_22 := M_18.on x3
  have B23 := B19.trans (x3.mono B19.size)
  clear m2_0 m2_1 m2_2 m2_3 m2_4 R_17 M_18 B19 x3
  clear cb
  clear M_22
  have al := alO_ B23 (.cells #[.string S, .int .i64 o] 77)
  have fzR_24 := fzB_ al R_21.1 fzR_20
  clear fzR_20
  have R_25 := R_21.on al
  have P_26 := Box2.make w3 (.string S) (.int .i64 o) 77
  have B27 := B23.trans (al.mono B23.size)
  clear al
  clear R_21 B23
  go_upto_region 8 with fail
  obtain ⟨u4, hu4⟩ : ∃ x, x = w3.alloc (.cells #[.string S, .int .i64 o] 77) := ⟨_, rfl⟩
  rw [← hu4] at R_25 P_26 fzR_24 B27 ⊢
  clear hu4
  obtain ⟨_, r3_0, r3_1, r3_2, r3_3, r3_4⟩ := id R_25
  go_wp2
  refine box5_ (b := w.heap.size) R_25.some B27 (Nat.le_refl _) fun Z x0 x1 x2 x3 x4 BZ _ _ => ?_
  refine bodyPost_ret (v := .tuple #[.agg #[.int .u8 0, .int .u32 0, .int .u16 0, .int .u32 0, .int .u16 0], .int .i64 15]) (by simp [results, Tryz.results9, go_sem, x0, x1, x2, x3, x4]) rfl ?_
  exact ⟨rfl, BZ⟩
theorem emInner_yes (s : ByteArray) (y0 y1 y2 y3 y4 y5 y6 y8 : Int) (y7 : Bool) (co : Cb_ 15 #[.string s] (.tuple #[.agg #[.int .u8 y0, .int .u32 y1, .int .u16 y2, .int .u32 y3, .int .u16 y4, .int .i64 y5, .int .u8 y6, .bool y7, .int .u8 y8], .int .i64 0])) (e2 : (y5 != 3) = false) (X m3 m4 S : ByteArray) (m0 m1 m2 o : Int) (ca : Cb_ 28 #[.string s] (.tuple #[.string X, .agg #[.int .u8 m0, .int .u8 m1, .int .u16 m2, .string m3, .string m4]])) (cb : Cb_ 29 #[.string m4] (.tuple #[.agg #[.string S, .int .i64 o], .bool true])) (t0 t1 t2 t3 t4 q : Int) (ct : Cb_ 30 #[.agg #[.string S, .int .i64 o]] (.tuple #[.agg #[.int .u8 t0, .int .u32 t1, .int .u16 t2, .int .u32 t3, .int .u16 t4], .int .i64 q])) (w : World) :
    Cw_ 9 #[.string s] (.tuple #[.agg #[.int .u8 t0, .int .u32 t1, .int .u16 t2, .int .u32 t3, .int .u16 t4], .int .i64 q]) w := by
  go_enter Tryz.func9, Tryz.ntmps9
  have B1 := Below.refl w.heap.size w
  go_upto_region 1 with fail
  have R_2 := Box5.make w (.int .u8 0) (.int .u32 0) (.int .u16 0) (.int .u32 0) (.int .u16 0) 33
  have B3 := B1.alloc B1.size (.cells #[.int .u8 0, .int .u32 0, .int .u16 0, .int .u32 0, .int .u16 0] 33)
  clear B1
  have fzR_4 : ∀ i, (w.alloc (.cells #[.int .u8 0, .int .u32 0, .int .u16 0, .int .u32 0, .int .u16 0] 33)).frozen? ⟨w.heap.size, i, none⟩ = false := by intro i; simp [go_sem]
  obtain ⟨u1, hu1⟩ : ∃ x, x = w.alloc (.cells #[.int .u8 0, .int .u32 0, .int .u16 0, .int .u32 0, .int .u16 0] 33) := ⟨_, rfl⟩
  rw [← hu1] at R_2 fzR_4 B3 ⊢
  clear hu1
  go_wp2_with fail
  refine (co _).mono ?_; rintro e w1 ⟨rfl, x1⟩
  have fzR_5 := fzB_ x1 R_2.1 fzR_4
  clear fzR_4
  have R_6 := R_2.on x1
  have B7 := B3.trans (x1.mono B3.size)
  clear R_2 B3 x1
  clear co
  have Lt := Lib.hid (show w.heap.size < w1.heap.size from R_6.1)
  have al := alO_ B7 (.cells #[.int .u8 y0, .int .u32 y1, .int .u16 y2, .int .u32 y3, .int .u16 y4, .int .i64 y5, .int .u8 y6, .bool y7, .int .u8 y8] 55)
  have fzR_8 := fzB_ al R_6.1 fzR_5
  clear fzR_5
  have R_9 := R_6.on al
  have X_10 := Box9.make w1 (.int .u8 y0) (.int .u32 y1) (.int .u16 y2) (.int .u32 y3) (.int .u16 y4) (.int .i64 y5) (.int .u8 y6) (.bool y7) (.int .u8 y8) 55
  have B11 := B7.trans (al.mono B7.size)
  clear al
  clear R_6 B7
  go_upto_region 2 with fail
  obtain ⟨u2, hu2⟩ : ∃ x, x = w1.alloc (.cells #[.int .u8 y0, .int .u32 y1, .int .u16 y2, .int .u32 y3, .int .u16 y4, .int .i64 y5, .int .u8 y6, .bool y7, .int .u8 y8] 55) := ⟨_, rfl⟩
  rw [← hu2] at R_9 X_10 fzR_8 B11 ⊢
  clear hu2
  have ne1_ : ¬ w.heap.size = w1.heap.size := by have := Lt.out; omega
  have ne2_ : ¬ w1.heap.size = w.heap.size := by have := Lt.out; omega
  obtain ⟨_, x1_0, x1_1, x1_2, x1_3, x1_4, x1_5, x1_6, x1_7, x1_8⟩ := id X_10
  go_wp2_with fail
  refine (ca _).mono ?_; rintro e w2 ⟨rfl, x2⟩
  have fzR_12 := fzB_ x2 R_9.1 fzR_8
  clear fzR_8
  have R_13 := R_9.on x2
  have X_14 := X_10.on x2
  have B15 := B11.trans (x2.mono B11.size)
  clear x1_0 x1_1 x1_2 x1_3 x1_4 x1_5 x1_6 x1_7 x1_8 R_9 X_10 B11 x2
  clear ca
  clear X_14
  have al := alO_ B15 (.cells #[.int .u8 m0, .int .u8 m1, .int .u16 m2, .string m3, .string m4] 63)
  have fzR_16 := fzB_ al R_13.1 fzR_12
  clear fzR_12
  have R_17 := R_13.on al
  have M_18 := Box5.make w2 (.int .u8 m0) (.int .u8 m1) (.int .u16 m2) (.string m3) (.string m4) 63
  have B19 := B15.trans (al.mono B15.size)
  clear al
  clear R_13 B15
  obtain ⟨_, m2_0, m2_1, m2_2, m2_3, m2_4⟩ := id M_18
  go_wp2_with fail
  refine (cb _).mono ?_; rintro e w3 ⟨rfl, x3⟩
  have fzR_20 := fzB_ x3 R_17.1 fzR_16
  clear fzR_16
  have R_21 := R_17.on x3
  have M_22 := M_18.on x3
  have B23 := B19.trans (x3.mono B19.size)
  clear m2_0 m2_1 m2_2 m2_3 m2_4 R_17 M_18 B19 x3
  clear cb
  clear M_22
  have al := alO_ B23 (.cells #[.string S, .int .i64 o] 77)
  have fzR_24 := fzB_ al R_21.1 fzR_20
  clear fzR_20
  have R_25 := R_21.on al
  have P_26 := Box2.make w3 (.string S) (.int .i64 o) 77
  have B27 := B23.trans (al.mono B23.size)
  clear al
  clear R_21 B23
  go_upto_region 8 with fail
  obtain ⟨u4, hu4⟩ : ∃ x, x = w3.alloc (.cells #[.string S, .int .i64 o] 77) := ⟨_, rfl⟩
  rw [← hu4] at R_25 P_26 fzR_24 B27 ⊢
  clear hu4
  obtain ⟨_, p3_0, p3_1⟩ := id P_26
  go_wp2_with fail
  refine (ct _).mono ?_; rintro e w11 ⟨rfl, x11⟩
  have fzR_28 := fzB_ x11 R_25.1 fzR_24
  clear fzR_24
  have R_29 := R_25.on x11
  have P_30 := P_26.on x11
  have B31 := B27.trans (x11.mono B27.size)
  clear p3_0 p3_1 R_25 P_26 B27 x11
  obtain ⟨_, r4_0, r4_1, r4_2, r4_3, r4_4⟩ := id R_29
  go_wp2
  refine box5_ (b := w.heap.size) R_29.some B31 (Nat.le_refl _) fun Z x0 x1 x2 x3 x4 BZ _ _ => ?_
  refine bodyPost_ret (v := .tuple #[.agg #[.int .u8 t0, .int .u32 t1, .int .u16 t2, .int .u32 t3, .int .u16 t4], .int .i64 q]) (by simp [results, Tryz.results9, go_sem, x0, x1, x2, x3, x4]) rfl ?_
  exact ⟨rfl, BZ⟩
theorem emTuple_ (D : ByteArray) (h : opB D = true) (hz : D.size ≤ 1000000) (w : World) :
    Cw_ 30 #[.agg #[.string D, .int .i64 (ownN D : Int)]] (.tuple #[.agg #[.int .u8 (lkI D (bt D 9)), .int .u32 (lkI D (g32 D 12)), .int .u16 (lkI D (inM D)), .int .u32 (lkI D (g32 D 16)), .int .u16 (lkI D (inN D))], .int .i64 (lkR D)]) w := by
  obtain ⟨h0, h1, h2, h3, h4⟩ := of_decide_eq_true h
  have o60 : ownN D ≤ 60 := by have := bt_le D 0; have := bt_nonneg D 0; unfold ownN; omega
  have c9 := fun u => emByte_ D 9 9 rfl hz (by omega) u
  have c12 := fun u => emAddr_ D 12 12 u rfl hz (by omega)
  have c16 := fun u => emAddr_ D 16 16 u rfl hz (by omega)
  have no : (¬ bt D 9 = 6 ∧ ¬ bt D 9 = 17 ∧ ¬ bt D 9 = 1) → lkR D = 6 := fun k => by unfold lkR; rw [if_neg (by omega), if_neg (by omega), if_neg (by omega), if_pos k.2.2]
  by_cases k6 : bt D 9 = 6
  · have hR : lkR D = 0 := lk_is h0 h1 h2 h3 h4 (.inl k6)
    obtain ⟨n1, _⟩ := lk_yes hR
    rw [n1, n1, n1, n1, n1, hR, k6]
    rw [k6] at c9
    rw [show inM D = g16 D (ownN D) by unfold inM; rw [if_neg (by omega)], show inN D = g16 D (ownN D + 2) by unfold inN; rw [if_neg (by omega)]]
    exact emTuple_6 D (ownN D) o60 _ _ c9 c12 c16 _ _ (fun u i hi => emWord_ D i (ownN D) u (by omega) hz (by omega)) (fun u i hi => emWord_ D i (ownN D + 2) u (by omega) hz (by omega)) w
  by_cases k17 : bt D 9 = 17
  · have hR : lkR D = 0 := lk_is h0 h1 h2 h3 h4 (.inr (.inl k17))
    obtain ⟨n1, _⟩ := lk_yes hR
    rw [n1, n1, n1, n1, n1, hR, k17]
    rw [k17] at c9
    rw [show inM D = g16 D (ownN D) by unfold inM; rw [if_neg (by omega)], show inN D = g16 D (ownN D + 2) by unfold inN; rw [if_neg (by omega)]]
    exact emTuple_17 D (ownN D) o60 _ _ c9 c12 c16 _ _ (fun u i hi => emWord_ D i (ownN D) u (by omega) hz (by omega)) (fun u i hi => emWord_ D i (ownN D + 2) u (by omega) hz (by omega)) w
  by_cases k1 : bt D 9 = 1
  rotate_left
  · have hR := no ⟨k6, k17, k1⟩
    obtain ⟨n1, _⟩ := lk_no (D := D) (by rw [hR]; decide)
    rw [n1, n1, n1, n1, n1, hR]
    exact emTuple_none D (ownN D) o60 _ _ _ c9 c12 c16 (by simpa using k6) (by simpa using k17) (by simpa using k1) w
  rw [k1] at c9
  have cq := fun u => emQuery_ D (ownN D) (by omega) o60 hz u
  cases hq : qIs (bt D (ownN D)) (bt D (ownN D + 1)) with
  | false =>
    have hR : lkR D = 15 := by unfold lkR; rw [if_neg (by omega), if_neg (by omega), if_neg (by omega), if_neg (by omega), if_neg (by rw [hq]; decide)]
    obtain ⟨n1, _⟩ := lk_no (D := D) (by rw [hR]; decide)
    rw [n1, n1, n1, n1, n1, hR]
    have ha : qAsk (bt D (ownN D)) (bt D (ownN D + 1)) = false := by
      cases hh : qAsk (bt D (ownN D)) (bt D (ownN D + 1)) with
      | false => rfl
      | true =>
        have : qIs (bt D (ownN D)) (bt D (ownN D + 1)) = true := by
          unfold qAsk at hh
          unfold qIs
          simp only [Bool.and_eq_true, Bool.or_eq_true, decide_eq_true_eq] at hh ⊢
          omega
        rw [hq] at this
        cases this
    rw [hq, ha] at cq
    exact emTuple_odd D (ownN D) o60 _ _ c9 c12 c16 cq w
  | true =>
    have hR : lkR D = 0 := lk_is h0 h1 h2 h3 h4 (.inr (.inr ⟨k1, hq⟩))
    obtain ⟨n1, _⟩ := lk_yes hR
    rw [n1, n1, n1, n1, n1, hR, k1]
    rw [hq] at cq
    have cj := fun u => emWord_ D ((ownN D : Int) + 4) (ownN D + 4) u (by omega) hz (by omega)
    cases ha : qAsk (bt D (ownN D)) (bt D (ownN D + 1)) with
    | true =>
      rw [ha] at cq
      rw [show inM D = g16 D (ownN D + 4) by unfold inM inAsk; rw [if_pos k1, if_pos ha], show inN D = 0 by unfold inN inAsk; rw [if_pos k1, if_pos ha]]
      exact emTuple_ask D (ownN D) o60 _ _ c9 c12 c16 cq _ cj w
    | false =>
      rw [ha] at cq
      rw [show inM D = 0 by unfold inM inAsk; rw [if_pos k1, if_neg (by rw [ha]; decide)], show inN D = g16 D (ownN D + 4) by unfold inN inAsk; rw [if_pos k1, if_neg (by rw [ha]; decide)]]
      exact emTuple_told D (ownN D) o60 _ _ c9 c12 c16 cq _ cj w
theorem emApart_ (s : ByteArray) (hp : pR s = 0) (hs : s.size ≤ 1000000) (w : World) :
    Cw_ 28 #[.string s] (.tuple #[.string (s.extract 0 (ownN s)), .agg #[.int .u8 (mI (pP s) (bt (pP s) 0)), .int .u8 (mI (pP s) (bt (pP s) 1)), .int .u16 (mI (pP s) (g16 (pP s) 2)), .string (mR (pP s)), .string (eD s)]]) w := by
  obtain ⟨f1, f2, f3, f4, f5, f6, f7, f8, f9⟩ := ip_facts hp
  have hL : (pP s).size ≤ 1000000 := by rw [(p_yes hp).2.2.2, ByteArray.size_extract]; omega
  have zo : (pO s).size = ownN s - 20 := by rw [(p_yes hp).2.2.1]; exact size_extract' s 20 _ f3 f4
  have eo : Hid (wrap64 (20 + ((pO s).size : Int)) = (ownN s : Int)) := by show _ = _; rw [IntWalk.wrap64_in _ ⟨by omega, by omega⟩]; omega
  have ep : Hid (IntKind.i64.wrap (20 + ((pO s).size : Int)) = (ownN s : Int)) := by show _ = _; rw [IntWalk.i64_in _ ⟨by omega, by omega⟩]; omega
  exact emApart_v s _ _ _ _ _ _ _ _ _ _ _ _ _ _ _ _ _ (ownN s) eo.out ep.out (by omega) rfl (fun u => ipParse_ s u (by unfold maxLen; omega)) (fun u => icmpParse_ (pP s) u hL) w
theorem emInner_ (s : ByteArray) (w : World) (hs : s.size ≤ 1000000) :
    Cw_ 9 #[.string s] (.tuple #[.agg #[.int .u8 (iI s (bt (eD s) 9)), .int .u32 (iI s (g32 (eD s) 12)), .int .u16 (iI s (inM (eD s))), .int .u32 (iI s (g32 (eD s) 16)), .int .u16 (iI s (inN (eD s)))], .int .i64 (inR s)]) w := by
  have co := fun u => of8_ s u hs
  by_cases hr : seenR s = 0
  rotate_left
  · have e : inR s = seenR s := by unfold inR; rw [if_neg hr]
    have hi : ∀ v, iI s v = 0 := fun v => by unfold iI; rw [if_neg (by rw [e]; exact hr)]
    rw [hi, hi, hi, hi, hi, e]
    exact emInner_refused (seenR s) (by simpa using hr) s _ _ _ _ _ _ _ _ _ co w
  obtain ⟨n1, n2⟩ := s_yes (s := s) hr
  rw [n1, n1, n1, n1, n1, n1, n1, n1, n2, hr] at co
  by_cases h3 : oK (bt s 9) (pP s) = 3
  rotate_left
  · have e : inR s = 15 := by unfold inR; rw [if_pos hr, if_neg h3]
    have hi : ∀ v, iI s v = 0 := fun v => by unfold iI; rw [if_neg (by rw [e]; decide)]
    rw [hi, hi, hi, hi, hi, e]
    exact emInner_other s _ _ _ _ _ _ _ _ _ co (by simpa using h3) w
  have e : inR s = lkR (eD s) := by unfold inR; rw [if_pos hr, if_pos h3]
  have hi : ∀ v, iI s v = lkI (eD s) v := fun v => by unfold iI lkI; rw [e]
  have hp := (seen_ip hr).1
  have hL : (pP s).size ≤ 1000000 := by rw [(p_yes hp).2.2.2, ByteArray.size_extract]; omega
  have hz : (eD s).size ≤ 1000000 := by rw [(eD_is (err_kind hr h3).2.1).2]; omega
  have ca := fun u => emApart_ s hp hs u
  have cb := fun u => emOpen_ (eD s) u hz
  rw [hi, hi, hi, hi, hi, e]
  rw [h3] at co
  cases ho : opB (eD s) with
  | false =>
    have hR : lkR (eD s) = 15 := by
      have k := of_decide_eq_false ho
      unfold lkR
      by_cases c : (eD s).size < 20 ∨ ¬ bt (eD s) 0 / 16 = 4
      · rw [if_pos c]
      · rw [if_neg c, if_pos (by omega)]
    obtain ⟨k1, _⟩ := lk_no (D := eD s) (by rw [hR]; decide)
    rw [k1, k1, k1, k1, k1, hR]
    rw [ho] at cb
    exact emInner_none s _ _ _ _ _ _ _ _ _ co (by decide) _ _ _ _ _ _ _ _ ca cb w
  | true =>
    rw [ho, show opS (eD s) = eD s by unfold opS; rw [if_pos ho], show opO (eD s) = (ownN (eD s) : Int) by unfold opO; rw [if_pos ho]] at cb
    exact emInner_yes s _ _ _ _ _ _ _ _ _ co (by decide) _ _ _ _ _ _ _ _ ca cb _ _ _ _ _ _ (fun u => emTuple_ (eD s) ho hz u) w
theorem emChanged_v6 (D A1 A2 SV D1 D2 D3 : ByteArray) (y1 y2 : Bool) (o : Nat) (oa oc ob od a m b n g v : Int) (a1 : Cb_ 74 #[.agg #[.int .u32 oa, .int .u16 oc], .agg #[.int .u32 ob, .int .u16 od]] (.string A1)) (a2 : Cb_ 74 #[.agg #[.int .u32 a, .int .u16 m], .agg #[.int .u32 b, .int .u16 n]] (.string A2)) (cg : Cb_ 64 #[.string D, .int .i64 10] (.int .u16 g)) (cu : Cb_ 34 #[.int .u16 g, .string A1, .string A2] (.int .u16 v)) (cs : Cb_ 76 #[.int .u16 v] (.string SV)) (l1 : Cb_ 126 #[.string D, .int .i64 10, .string SV] (.tuple #[.string D1, .bool y1])) (l2 : Cb_ 126 #[.string D1, .int .i64 12, .string A2] (.tuple #[.string D2, .bool y2])) (cp : ∀ (u : World) (p : Nat), Box2 u p (.string D2) (.int .i64 (o : Int)) → (∀ i, u.frozen? ⟨p, i, none⟩ = false) → Calls Tryz.prog 77 #[.pointer (some ⟨p, 0, none⟩), .agg #[.int .u8 6, .int .u32 oa, .int .u16 oc, .int .u32 ob, .int .u16 od], .agg #[.int .u32 a, .int .u16 m, .int .u32 b, .int .u16 n], .int .i64 16] u fun e w' => e = .returned (.tuple #[]) ∧ Laid p D3 o u w') (w : World) :
    Cw_ 33 #[.agg #[.string D, .int .i64 (o : Int)], .agg #[.int .u8 6, .int .u32 oa, .int .u16 oc, .int .u32 ob, .int .u16 od], .agg #[.int .u32 a, .int .u16 m, .int .u32 b, .int .u16 n]] (.string D3) w := by
  go_enter Tryz.func33, Tryz.ntmps33
  have B1 := Below.refl w.heap.size w
  go_upto_region 1 with fail
  have P_2 := Box2.make w (.string D) (.int .i64 (o : Int)) 77
  have B3 := B1.alloc B1.size (.cells #[.string D, .int .i64 (o : Int)] 77)
  clear B1
  have fzP_4 : ∀ i, (w.alloc (.cells #[.string D, .int .i64 (o : Int)] 77)).frozen? ⟨w.heap.size, i, none⟩ = false := by intro i; simp [go_sem]
  have al := alO_ B3 (.cells #[.int .u8 6, .int .u32 oa, .int .u16 oc, .int .u32 ob, .int .u16 od] 33)
  have fzP_5 := fzB_ al P_2.1 fzP_4
  clear fzP_4
  have P_6 := P_2.on al
  have hs_ : (w.alloc (.cells #[.string D, .int .i64 (o : Int)] 77)).heap.size = w.heap.size + 1 := by simp
  have T_7 := Box5.make (w.alloc (.cells #[.string D, .int .i64 (o : Int)] 77)) (.int .u8 6) (.int .u32 oa) (.int .u16 oc) (.int .u32 ob) (.int .u16 od) 33
  rw [hs_] at T_7
  clear hs_
  have B8 := B3.trans (al.mono B3.size)
  clear al
  clear P_2 B3
  have al := alO_ B8 (.cells #[.int .u32 a, .int .u16 m, .int .u32 b, .int .u16 n] 28)
  have fzP_9 := fzB_ al P_6.1 fzP_5
  clear fzP_5
  have P_10 := P_6.on al
  have T_11 := T_7.on al
  have hs_ : ((w.alloc (.cells #[.string D, .int .i64 (o : Int)] 77)).alloc (.cells #[.int .u8 6, .int .u32 oa, .int .u16 oc, .int .u32 ob, .int .u16 od] 33)).heap.size = w.heap.size + 2 := by simp
  have C_12 := Box4.make ((w.alloc (.cells #[.string D, .int .i64 (o : Int)] 77)).alloc (.cells #[.int .u8 6, .int .u32 oa, .int .u16 oc, .int .u32 ob, .int .u16 od] 33)) (.int .u32 a) (.int .u16 m) (.int .u32 b) (.int .u16 n) 28
  rw [hs_] at C_12
  clear hs_
  have B13 := B8.trans (al.mono B8.size)
  clear al
  clear P_6 T_7 B8
  obtain ⟨u1, hu1⟩ : ∃ x, x = ((w.alloc (.cells #[.string D, .int .i64 (o : Int)] 77)).alloc (.cells #[.int .u8 6, .int .u32 oa, .int .u16 oc, .int .u32 ob, .int .u16 od] 33)).alloc (.cells #[.int .u32 a, .int .u16 m, .int .u32 b, .int .u16 n] 28) := ⟨_, rfl⟩
  rw [← hu1] at P_10 T_11 C_12 fzP_9 B13 ⊢
  clear hu1
  obtain ⟨zt, gt0, gt1, gt2, gt3, gt4⟩ := id T_11
  have Ft0 := lat_ gt0 zt
  have Ft1 := lat_ gt1 zt
  have Ft2 := lat_ gt2 zt
  have Ft3 := lat_ gt3 zt
  have Ft4 := lat_ gt4 zt
  clear gt0 gt1 gt2 gt3 gt4
  obtain ⟨zc, gc0, gc1, gc2, gc3⟩ := id C_12
  have Fc0 := lat_ gc0 zc
  have Fc1 := lat_ gc1 zc
  have Fc2 := lat_ gc2 zc
  have Fc3 := lat_ gc3 zc
  clear gc0 gc1 gc2 gc3
  refine region_later (B := u1.heap.size) (by kernel_rfl) (by kernel_rfl) ?_
  repeat (go_big_quiet_step (first
    | (go_at_call 74; with_reducible exact later_of _ (Nat.le_refl _) (a1 _))
    | (go_at_call 74; with_reducible exact later_of _ (Nat.le_refl _) (a2 _))))
  refine later_end fun w1 x1 => ?_
  have fzP_14 := fzB_ x1 P_10.1 fzP_9
  clear fzP_9
  have P_15 := P_10.on x1
  have T_16 := T_11.on x1
  have C_17 := C_12.on x1
  have B18 := B13.trans (x1.mono B13.size)
  clear Ft0 Ft1 Ft2 Ft3 Ft4 zt Fc0 Fc1 Fc2 Fc3 zc P_10 T_11 C_12 B13 x1
  clear a1 a2
  obtain ⟨_, p1_0, p1_1⟩ := id P_15
  go_wp2_with fail
  refine (cg _).mono ?_; rintro e w2 ⟨rfl, x2⟩
  have fzP_19 := fzB_ x2 P_15.1 fzP_14
  clear fzP_14
  have P_20 := P_15.on x2
  have T_21 := T_16.on x2
  have C_22 := C_17.on x2
  have B23 := B18.trans (x2.mono B18.size)
  clear p1_0 p1_1 P_15 T_16 C_17 B18 x2
  clear cg
  go_wp2_with fail
  refine (cu _).mono ?_; rintro e w3 ⟨rfl, x3⟩
  have fzP_24 := fzB_ x3 P_20.1 fzP_19
  clear fzP_19
  have P_25 := P_20.on x3
  have T_26 := T_21.on x3
  have C_27 := C_22.on x3
  have B28 := B23.trans (x3.mono B23.size)
  clear P_20 T_21 C_22 B23 x3
  clear cu
  go_wp2_with fail
  refine (cs _).mono ?_; rintro e w4 ⟨rfl, x4⟩
  have fzP_29 := fzB_ x4 P_25.1 fzP_24
  clear fzP_24
  have P_30 := P_25.on x4
  have T_31 := T_26.on x4
  have C_32 := C_27.on x4
  have B33 := B28.trans (x4.mono B28.size)
  clear P_25 T_26 C_27 B28 x4
  clear cs
  go_wp2_with fail
  refine (emLay_ _ w.heap.size o _ SV D1 _ _ l1 P_30 fzP_29).mono ?_; rintro e w5 ⟨rfl, x5⟩
  have P_34 := x5.box
  have T_35 := T_31.by x5.beside (fun e => by omega)
  have C_36 := C_32.by x5.beside (fun e => by omega)
  have fzP_37 := x5.mark
  have B38 := Beside.after B33 B33.size x5.beside (fun k _ e => Nat.le_of_eq e.symm)
  clear P_30 T_31 C_32 B33 x5 fzP_29
  clear l1
  go_wp2_with fail
  refine (emLay_ _ w.heap.size o _ A2 D2 _ _ l2 P_34 fzP_37).mono ?_; rintro e w6 ⟨rfl, x6⟩
  have P_39 := x6.box
  have T_40 := T_35.by x6.beside (fun e => by omega)
  have C_41 := C_36.by x6.beside (fun e => by omega)
  have fzP_42 := x6.mark
  have B43 := Beside.after B38 B38.size x6.beside (fun k _ e => Nat.le_of_eq e.symm)
  clear P_34 T_35 C_36 B38 x6 fzP_37
  clear l2
  obtain ⟨_, t2_0, t2_1, t2_2, t2_3, t2_4⟩ := id T_40
  obtain ⟨_, c3_0, c3_1, c3_2, c3_3⟩ := id C_41
  go_wp2_with fail
  refine (cp _ _ P_39 fzP_42).mono ?_; rintro e w7 ⟨rfl, x7⟩
  have P_44 := x7.box
  have T_45 := T_40.by x7.beside (fun e => by omega)
  have C_46 := C_41.by x7.beside (fun e => by omega)
  have fzP_47 := x7.mark
  have B48 := Beside.after B43 B43.size x7.beside (fun k _ e => Nat.le_of_eq e.symm)
  clear t2_0 t2_1 t2_2 t2_3 t2_4 c3_0 c3_1 c3_2 c3_3 P_39 T_40 C_41 B43 x7 fzP_42
  obtain ⟨_, p4_0, p4_1⟩ := id P_44
  go_wp2
  go_ret
  exact ⟨rfl, B48⟩
theorem emChanged_v17 (D A1 A2 SV D1 D2 D3 : ByteArray) (y1 y2 : Bool) (o : Nat) (oa oc ob od a m b n g v : Int) (a1 : Cb_ 74 #[.agg #[.int .u32 oa, .int .u16 oc], .agg #[.int .u32 ob, .int .u16 od]] (.string A1)) (a2 : Cb_ 74 #[.agg #[.int .u32 a, .int .u16 m], .agg #[.int .u32 b, .int .u16 n]] (.string A2)) (cg : Cb_ 64 #[.string D, .int .i64 10] (.int .u16 g)) (cu : Cb_ 34 #[.int .u16 g, .string A1, .string A2] (.int .u16 v)) (cs : Cb_ 76 #[.int .u16 v] (.string SV)) (l1 : Cb_ 126 #[.string D, .int .i64 10, .string SV] (.tuple #[.string D1, .bool y1])) (l2 : Cb_ 126 #[.string D1, .int .i64 12, .string A2] (.tuple #[.string D2, .bool y2])) (cp : ∀ (u : World) (p : Nat), Box2 u p (.string D2) (.int .i64 (o : Int)) → (∀ i, u.frozen? ⟨p, i, none⟩ = false) → Calls Tryz.prog 77 #[.pointer (some ⟨p, 0, none⟩), .agg #[.int .u8 17, .int .u32 oa, .int .u16 oc, .int .u32 ob, .int .u16 od], .agg #[.int .u32 a, .int .u16 m, .int .u32 b, .int .u16 n], .int .i64 6] u fun e w' => e = .returned (.tuple #[]) ∧ Laid p D3 o u w') (w : World) :
    Cw_ 33 #[.agg #[.string D, .int .i64 (o : Int)], .agg #[.int .u8 17, .int .u32 oa, .int .u16 oc, .int .u32 ob, .int .u16 od], .agg #[.int .u32 a, .int .u16 m, .int .u32 b, .int .u16 n]] (.string D3) w := by
  go_enter Tryz.func33, Tryz.ntmps33
  have B1 := Below.refl w.heap.size w
  go_upto_region 1 with fail
  have P_2 := Box2.make w (.string D) (.int .i64 (o : Int)) 77
  have B3 := B1.alloc B1.size (.cells #[.string D, .int .i64 (o : Int)] 77)
  clear B1
  have fzP_4 : ∀ i, (w.alloc (.cells #[.string D, .int .i64 (o : Int)] 77)).frozen? ⟨w.heap.size, i, none⟩ = false := by intro i; simp [go_sem]
  have al := alO_ B3 (.cells #[.int .u8 17, .int .u32 oa, .int .u16 oc, .int .u32 ob, .int .u16 od] 33)
  have fzP_5 := fzB_ al P_2.1 fzP_4
  clear fzP_4
  have P_6 := P_2.on al
  have hs_ : (w.alloc (.cells #[.string D, .int .i64 (o : Int)] 77)).heap.size = w.heap.size + 1 := by simp
  have T_7 := Box5.make (w.alloc (.cells #[.string D, .int .i64 (o : Int)] 77)) (.int .u8 17) (.int .u32 oa) (.int .u16 oc) (.int .u32 ob) (.int .u16 od) 33
  rw [hs_] at T_7
  clear hs_
  have B8 := B3.trans (al.mono B3.size)
  clear al
  clear P_2 B3
  have al := alO_ B8 (.cells #[.int .u32 a, .int .u16 m, .int .u32 b, .int .u16 n] 28)
  have fzP_9 := fzB_ al P_6.1 fzP_5
  clear fzP_5
  have P_10 := P_6.on al
  have T_11 := T_7.on al
  have hs_ : ((w.alloc (.cells #[.string D, .int .i64 (o : Int)] 77)).alloc (.cells #[.int .u8 17, .int .u32 oa, .int .u16 oc, .int .u32 ob, .int .u16 od] 33)).heap.size = w.heap.size + 2 := by simp
  have C_12 := Box4.make ((w.alloc (.cells #[.string D, .int .i64 (o : Int)] 77)).alloc (.cells #[.int .u8 17, .int .u32 oa, .int .u16 oc, .int .u32 ob, .int .u16 od] 33)) (.int .u32 a) (.int .u16 m) (.int .u32 b) (.int .u16 n) 28
  rw [hs_] at C_12
  clear hs_
  have B13 := B8.trans (al.mono B8.size)
  clear al
  clear P_6 T_7 B8
  obtain ⟨u1, hu1⟩ : ∃ x, x = ((w.alloc (.cells #[.string D, .int .i64 (o : Int)] 77)).alloc (.cells #[.int .u8 17, .int .u32 oa, .int .u16 oc, .int .u32 ob, .int .u16 od] 33)).alloc (.cells #[.int .u32 a, .int .u16 m, .int .u32 b, .int .u16 n] 28) := ⟨_, rfl⟩
  rw [← hu1] at P_10 T_11 C_12 fzP_9 B13 ⊢
  clear hu1
  obtain ⟨zt, gt0, gt1, gt2, gt3, gt4⟩ := id T_11
  have Ft0 := lat_ gt0 zt
  have Ft1 := lat_ gt1 zt
  have Ft2 := lat_ gt2 zt
  have Ft3 := lat_ gt3 zt
  have Ft4 := lat_ gt4 zt
  clear gt0 gt1 gt2 gt3 gt4
  obtain ⟨zc, gc0, gc1, gc2, gc3⟩ := id C_12
  have Fc0 := lat_ gc0 zc
  have Fc1 := lat_ gc1 zc
  have Fc2 := lat_ gc2 zc
  have Fc3 := lat_ gc3 zc
  clear gc0 gc1 gc2 gc3
  refine region_later (B := u1.heap.size) (by kernel_rfl) (by kernel_rfl) ?_
  repeat (go_big_quiet_step (first
    | (go_at_call 74; with_reducible exact later_of _ (Nat.le_refl _) (a1 _))
    | (go_at_call 74; with_reducible exact later_of _ (Nat.le_refl _) (a2 _))))
  refine later_end fun w1 x1 => ?_
  have fzP_14 := fzB_ x1 P_10.1 fzP_9
  clear fzP_9
  have P_15 := P_10.on x1
  have T_16 := T_11.on x1
  have C_17 := C_12.on x1
  have B18 := B13.trans (x1.mono B13.size)
  clear Ft0 Ft1 Ft2 Ft3 Ft4 zt Fc0 Fc1 Fc2 Fc3 zc P_10 T_11 C_12 B13 x1
  clear a1 a2
  obtain ⟨_, p1_0, p1_1⟩ := id P_15
  go_wp2_with fail
  refine (cg _).mono ?_; rintro e w2 ⟨rfl, x2⟩
  have fzP_19 := fzB_ x2 P_15.1 fzP_14
  clear fzP_14
  have P_20 := P_15.on x2
  have T_21 := T_16.on x2
  have C_22 := C_17.on x2
  have B23 := B18.trans (x2.mono B18.size)
  clear p1_0 p1_1 P_15 T_16 C_17 B18 x2
  clear cg
  go_wp2_with fail
  refine (cu _).mono ?_; rintro e w3 ⟨rfl, x3⟩
  have fzP_24 := fzB_ x3 P_20.1 fzP_19
  clear fzP_19
  have P_25 := P_20.on x3
  have T_26 := T_21.on x3
  have C_27 := C_22.on x3
  have B28 := B23.trans (x3.mono B23.size)
  clear P_20 T_21 C_22 B23 x3
  clear cu
  go_wp2_with fail
  refine (cs _).mono ?_; rintro e w4 ⟨rfl, x4⟩
  have fzP_29 := fzB_ x4 P_25.1 fzP_24
  clear fzP_24
  have P_30 := P_25.on x4
  have T_31 := T_26.on x4
  have C_32 := C_27.on x4
  have B33 := B28.trans (x4.mono B28.size)
  clear P_25 T_26 C_27 B28 x4
  clear cs
  go_wp2_with fail
  refine (emLay_ _ w.heap.size o _ SV D1 _ _ l1 P_30 fzP_29).mono ?_; rintro e w5 ⟨rfl, x5⟩
  have P_34 := x5.box
  have T_35 := T_31.by x5.beside (fun e => by omega)
  have C_36 := C_32.by x5.beside (fun e => by omega)
  have fzP_37 := x5.mark
  have B38 := Beside.after B33 B33.size x5.beside (fun k _ e => Nat.le_of_eq e.symm)
  clear P_30 T_31 C_32 B33 x5 fzP_29
  clear l1
  go_wp2_with fail
  refine (emLay_ _ w.heap.size o _ A2 D2 _ _ l2 P_34 fzP_37).mono ?_; rintro e w6 ⟨rfl, x6⟩
  have P_39 := x6.box
  have T_40 := T_35.by x6.beside (fun e => by omega)
  have C_41 := C_36.by x6.beside (fun e => by omega)
  have fzP_42 := x6.mark
  have B43 := Beside.after B38 B38.size x6.beside (fun k _ e => Nat.le_of_eq e.symm)
  clear P_34 T_35 C_36 B38 x6 fzP_37
  clear l2
  obtain ⟨_, t2_0, t2_1, t2_2, t2_3, t2_4⟩ := id T_40
  obtain ⟨_, c3_0, c3_1, c3_2, c3_3⟩ := id C_41
  go_wp2_with fail
  refine (cp _ _ P_39 fzP_42).mono ?_; rintro e w7 ⟨rfl, x7⟩
  have P_44 := x7.box
  have T_45 := T_40.by x7.beside (fun e => by omega)
  have C_46 := C_41.by x7.beside (fun e => by omega)
  have fzP_47 := x7.mark
  have B48 := Beside.after B43 B43.size x7.beside (fun k _ e => Nat.le_of_eq e.symm)
  clear t2_0 t2_1 t2_2 t2_3 t2_4 c3_0 c3_1 c3_2 c3_3 P_39 T_40 C_41 B43 x7 fzP_42
  obtain ⟨_, p4_0, p4_1⟩ := id P_44
  go_wp2
  go_ret
  exact ⟨rfl, B48⟩
theorem emChanged_v1 (D A1 A2 SV D1 D2 D3 : ByteArray) (y1 y2 : Bool) (o : Nat) (oa oc ob od a m b n g v : Int) (a1 : Cb_ 74 #[.agg #[.int .u32 oa, .int .u16 oc], .agg #[.int .u32 ob, .int .u16 od]] (.string A1)) (a2 : Cb_ 74 #[.agg #[.int .u32 a, .int .u16 m], .agg #[.int .u32 b, .int .u16 n]] (.string A2)) (cg : Cb_ 64 #[.string D, .int .i64 10] (.int .u16 g)) (cu : Cb_ 34 #[.int .u16 g, .string A1, .string A2] (.int .u16 v)) (cs : Cb_ 76 #[.int .u16 v] (.string SV)) (l1 : Cb_ 126 #[.string D, .int .i64 10, .string SV] (.tuple #[.string D1, .bool y1])) (l2 : Cb_ 126 #[.string D1, .int .i64 12, .string A2] (.tuple #[.string D2, .bool y2])) (cp : ∀ (u : World) (p : Nat), Box2 u p (.string D2) (.int .i64 (o : Int)) → (∀ i, u.frozen? ⟨p, i, none⟩ = false) → Calls Tryz.prog 78 #[.pointer (some ⟨p, 0, none⟩), .agg #[.int .u32 a, .int .u16 m, .int .u32 b, .int .u16 n]] u fun e w' => e = .returned (.tuple #[]) ∧ Laid p D3 o u w') (w : World) :
    Cw_ 33 #[.agg #[.string D, .int .i64 (o : Int)], .agg #[.int .u8 1, .int .u32 oa, .int .u16 oc, .int .u32 ob, .int .u16 od], .agg #[.int .u32 a, .int .u16 m, .int .u32 b, .int .u16 n]] (.string D3) w := by
  go_enter Tryz.func33, Tryz.ntmps33
  have B1 := Below.refl w.heap.size w
  go_upto_region 1 with fail
  have P_2 := Box2.make w (.string D) (.int .i64 (o : Int)) 77
  have B3 := B1.alloc B1.size (.cells #[.string D, .int .i64 (o : Int)] 77)
  clear B1
  have fzP_4 : ∀ i, (w.alloc (.cells #[.string D, .int .i64 (o : Int)] 77)).frozen? ⟨w.heap.size, i, none⟩ = false := by intro i; simp [go_sem]
  have al := alO_ B3 (.cells #[.int .u8 1, .int .u32 oa, .int .u16 oc, .int .u32 ob, .int .u16 od] 33)
  have fzP_5 := fzB_ al P_2.1 fzP_4
  clear fzP_4
  have P_6 := P_2.on al
  have hs_ : (w.alloc (.cells #[.string D, .int .i64 (o : Int)] 77)).heap.size = w.heap.size + 1 := by simp
  have T_7 := Box5.make (w.alloc (.cells #[.string D, .int .i64 (o : Int)] 77)) (.int .u8 1) (.int .u32 oa) (.int .u16 oc) (.int .u32 ob) (.int .u16 od) 33
  rw [hs_] at T_7
  clear hs_
  have B8 := B3.trans (al.mono B3.size)
  clear al
  clear P_2 B3
  have al := alO_ B8 (.cells #[.int .u32 a, .int .u16 m, .int .u32 b, .int .u16 n] 28)
  have fzP_9 := fzB_ al P_6.1 fzP_5
  clear fzP_5
  have P_10 := P_6.on al
  have T_11 := T_7.on al
  have hs_ : ((w.alloc (.cells #[.string D, .int .i64 (o : Int)] 77)).alloc (.cells #[.int .u8 1, .int .u32 oa, .int .u16 oc, .int .u32 ob, .int .u16 od] 33)).heap.size = w.heap.size + 2 := by simp
  have C_12 := Box4.make ((w.alloc (.cells #[.string D, .int .i64 (o : Int)] 77)).alloc (.cells #[.int .u8 1, .int .u32 oa, .int .u16 oc, .int .u32 ob, .int .u16 od] 33)) (.int .u32 a) (.int .u16 m) (.int .u32 b) (.int .u16 n) 28
  rw [hs_] at C_12
  clear hs_
  have B13 := B8.trans (al.mono B8.size)
  clear al
  clear P_6 T_7 B8
  obtain ⟨u1, hu1⟩ : ∃ x, x = ((w.alloc (.cells #[.string D, .int .i64 (o : Int)] 77)).alloc (.cells #[.int .u8 1, .int .u32 oa, .int .u16 oc, .int .u32 ob, .int .u16 od] 33)).alloc (.cells #[.int .u32 a, .int .u16 m, .int .u32 b, .int .u16 n] 28) := ⟨_, rfl⟩
  rw [← hu1] at P_10 T_11 C_12 fzP_9 B13 ⊢
  clear hu1
  obtain ⟨zt, gt0, gt1, gt2, gt3, gt4⟩ := id T_11
  have Ft0 := lat_ gt0 zt
  have Ft1 := lat_ gt1 zt
  have Ft2 := lat_ gt2 zt
  have Ft3 := lat_ gt3 zt
  have Ft4 := lat_ gt4 zt
  clear gt0 gt1 gt2 gt3 gt4
  obtain ⟨zc, gc0, gc1, gc2, gc3⟩ := id C_12
  have Fc0 := lat_ gc0 zc
  have Fc1 := lat_ gc1 zc
  have Fc2 := lat_ gc2 zc
  have Fc3 := lat_ gc3 zc
  clear gc0 gc1 gc2 gc3
  refine region_later (B := u1.heap.size) (by kernel_rfl) (by kernel_rfl) ?_
  repeat (go_big_quiet_step (first
    | (go_at_call 74; with_reducible exact later_of _ (Nat.le_refl _) (a1 _))
    | (go_at_call 74; with_reducible exact later_of _ (Nat.le_refl _) (a2 _))))
  refine later_end fun w1 x1 => ?_
  have fzP_14 := fzB_ x1 P_10.1 fzP_9
  clear fzP_9
  have P_15 := P_10.on x1
  have T_16 := T_11.on x1
  have C_17 := C_12.on x1
  have B18 := B13.trans (x1.mono B13.size)
  clear Ft0 Ft1 Ft2 Ft3 Ft4 zt Fc0 Fc1 Fc2 Fc3 zc P_10 T_11 C_12 B13 x1
  clear a1 a2
  obtain ⟨_, p1_0, p1_1⟩ := id P_15
  go_wp2_with fail
  refine (cg _).mono ?_; rintro e w2 ⟨rfl, x2⟩
  have fzP_19 := fzB_ x2 P_15.1 fzP_14
  clear fzP_14
  have P_20 := P_15.on x2
  have T_21 := T_16.on x2
  have C_22 := C_17.on x2
  have B23 := B18.trans (x2.mono B18.size)
  clear p1_0 p1_1 P_15 T_16 C_17 B18 x2
  clear cg
  go_wp2_with fail
  refine (cu _).mono ?_; rintro e w3 ⟨rfl, x3⟩
  have fzP_24 := fzB_ x3 P_20.1 fzP_19
  clear fzP_19
  have P_25 := P_20.on x3
  have T_26 := T_21.on x3
  have C_27 := C_22.on x3
  have B28 := B23.trans (x3.mono B23.size)
  clear P_20 T_21 C_22 B23 x3
  clear cu
  go_wp2_with fail
  refine (cs _).mono ?_; rintro e w4 ⟨rfl, x4⟩
  have fzP_29 := fzB_ x4 P_25.1 fzP_24
  clear fzP_24
  have P_30 := P_25.on x4
  have T_31 := T_26.on x4
  have C_32 := C_27.on x4
  have B33 := B28.trans (x4.mono B28.size)
  clear P_25 T_26 C_27 B28 x4
  clear cs
  go_wp2_with fail
  refine (emLay_ _ w.heap.size o _ SV D1 _ _ l1 P_30 fzP_29).mono ?_; rintro e w5 ⟨rfl, x5⟩
  have P_34 := x5.box
  have T_35 := T_31.by x5.beside (fun e => by omega)
  have C_36 := C_32.by x5.beside (fun e => by omega)
  have fzP_37 := x5.mark
  have B38 := Beside.after B33 B33.size x5.beside (fun k _ e => Nat.le_of_eq e.symm)
  clear P_30 T_31 C_32 B33 x5 fzP_29
  clear l1
  go_wp2_with fail
  refine (emLay_ _ w.heap.size o _ A2 D2 _ _ l2 P_34 fzP_37).mono ?_; rintro e w6 ⟨rfl, x6⟩
  have P_39 := x6.box
  have T_40 := T_35.by x6.beside (fun e => by omega)
  have C_41 := C_36.by x6.beside (fun e => by omega)
  have fzP_42 := x6.mark
  have B43 := Beside.after B38 B38.size x6.beside (fun k _ e => Nat.le_of_eq e.symm)
  clear P_34 T_35 C_36 B38 x6 fzP_37
  clear l2
  obtain ⟨_, t2_0, t2_1, t2_2, t2_3, t2_4⟩ := id T_40
  obtain ⟨_, c3_0, c3_1, c3_2, c3_3⟩ := id C_41
  go_wp2_with fail
  refine (cp _ _ P_39 fzP_42).mono ?_; rintro e w7 ⟨rfl, x7⟩
  have P_44 := x7.box
  have T_45 := T_40.by x7.beside (fun e => by omega)
  have C_46 := C_41.by x7.beside (fun e => by omega)
  have fzP_47 := x7.mark
  have B48 := Beside.after B43 B43.size x7.beside (fun k _ e => Nat.le_of_eq e.symm)
  clear t2_0 t2_1 t2_2 t2_3 t2_4 c3_0 c3_1 c3_2 c3_3 P_39 T_40 C_41 B43 x7 fzP_42
  obtain ⟨_, p4_0, p4_1⟩ := id P_44
  go_wp2
  go_ret
  exact ⟨rfl, B48⟩
theorem with_at {s p : ByteArray} {i : Int} {k : Nat} (hi : i = (k : Int)) (hs : s.size ≤ 1000000) (hp : p.size ≤ 1000000) (h : k + p.size ≤ s.size) (u : World) :
    Calls Tryz.prog 126 #[.string s, .int .i64 i, .string p] u fun e w' => e = .returned (.tuple #[.string (withB s k p), .bool true]) ∧ Below u.heap.size u w' := by
  subst hi
  have c := with_any s k p u (by unfold maxLen; omega) (by unfold maxLen; omega)
  have e : okAt s k p.size = true := okAt_yes (by omega)
  rw [show vWith s k p = withB s k p by simp [vWith, e], e] at c
  exact c
/-- A packet's ports, changed: its text is what the header's was, with the ports, and the sum. -/
theorem emPorts6_ {D : ByteArray} (h : lkR D = 0) (hz : D.size ≤ 1000000) (hp : bt D 9 = 6) {a m b n : Int} (hc : okC a m b n) (u : World) (p : Nat) (hP : Box2 u p (.string (chH D a b)) (.int .i64 (ownN D : Int))) (fz : ∀ i, u.frozen? ⟨p, i, none⟩ = false) :
    Calls Tryz.prog 77 #[.pointer (some ⟨p, 0, none⟩), .agg #[.int .u8 6, .int .u32 (g32 D 12), .int .u16 (g16 (inL D) 0), .int .u32 (g32 D 16), .int .u16 (g16 (inL D) 2)], .agg #[.int .u32 a, .int .u16 m, .int .u32 b, .int .u16 n], .int .i64 16] u fun e w' => e = .returned (.tuple #[]) ∧ Laid p (emD D a m b n) (ownN D) u w' := by
  obtain ⟨h0, h1, h2, h3, h4, h5⟩ := lk_zero h
  obtain ⟨c0, c1, c2, c3, c4, c5, c6, c7⟩ := id hc
  have o60 : ownN D ≤ 60 := by have := bt_le D 0; have := bt_nonneg D 0; unfold ownN; omega
  have zL := inL_size (D := D) (by omega)
  have zH := chH_size (D := D) (a := a) (b := b) h0
  have zP := chP_size (D := D) (a := a) (m := m) (b := b) (n := n) h2 h3
  have zW : (strOfNums (wordL [m, n])).size = 4 := by rw [size_W]; rfl
  have l1 : ∀ (v : World) (i : Int), i = (ownN D : Int) → _ := fun v i hi => with_at (s := chH D a b) (p := strOfNums (wordL [m, n])) hi (by omega) (by omega) (by rw [zW]; omega) v
  have er : wrap64 (((chP D a m b n).size : Int) - 2) = ((chP D a m b n).size : Int) - 2 := IntWalk.wrap64_in _ ⟨by omega, by omega⟩
  have g0 := fun k => g16_nonneg (inL D) k
  have g1 := fun k => g16_le (inL D) k
  have ho := okC_of D
  by_cases h18 : (inL D).size < 18
  · have r := emPorts_none u p (ownN D) (chH D a b) 16 (by omega) o60 (g32 D 12) (g16 (inL D) 0) (g32 D 16) (g16 (inL D) 2) a m b n (v16 (chP D a m b n) (16 + (ownN D : Int))) (strOfNums (wordL [m, n])) (chP D a m b n) true (fun v => emPorts_ a m b n c2 c3 c6 c7 v) l1
      (fun v i hi => by rw [hi]; exact emGet16_ _ _ (by omega) v)
      (fun v i hi => by have k := emHas_ (chP D a m b n) i _ er v; rwa [show decide (i ≤ ((chP D a m b n).size : Int) - 2) = false by rw [hi]; exact decide_eq_false (by rw [zP]; omega)] at k) 6 hP fz
    rw [ch_short h hc hp h18] at r
    exact r
  · have bd := pSum_bd (L := inL D) (k := 16) ho hc
    have zS : (strOfNums (wordL [pSum (inL D) 16 (g32 D 12) (g32 D 16) a m b n])).size = 2 := by rw [size_W]; rfl
    have cu := fun v => updates_ (g16 (inL D) 16) (strOfNums (wordL (adW (g32 D 12) (g32 D 16) ++ [g16 (inL D) 0, g16 (inL D) 2]))) (strOfNums (wordL (adW a b ++ [m, n]))) v (g0 _) (g1 _) (by rw [size_W]; show 2 * 6 ≤ maxLen; unfold maxLen; omega) (by rw [size_W]; show 2 * 6 ≤ maxLen; unfold maxLen; omega)
    rw [pSum_N ho hc, wordL_append, wordL_append, ← strOfNums_append, ← strOfNums_append] at cu
    have r := emPorts_tcp u p (ownN D) (chH D a b) 16 (by omega) o60 (g32 D 12) (g16 (inL D) 0) (g32 D 16) (g16 (inL D) 2) a m b n (g16 (inL D) 16) (strOfNums (wordL [m, n])) (chP D a m b n) true (fun v => emPorts_ a m b n c2 c3 c6 c7 v) l1
      (fun v i hi => by have k := emWord_ (chP D a m b n) i (2 * 8 + ownN D) v (by omega) (by omega) (by omega); rwa [chP_sum h hc 8 (by omega)] at k)
      (fun v i hi => by have k := emHas_ (chP D a m b n) i _ er v; rwa [show decide (i ≤ ((chP D a m b n).size : Int) - 2) = true by rw [hi]; exact decide_eq_true (by rw [zP]; omega)] at k)
      _ _ _ _ _ (chS D 16 (pSum (inL D) 16 (g32 D 12) (g32 D 16) a m b n) a m b n) _ true (by rw [size_W, size_W]; show 2 * 4 + 2 * 2 ≤ _; omega) (by rw [size_W, size_W]; show 2 * 4 + 2 * 2 ≤ _; omega) (fun v => emAddrs_ _ _ _ _ ho v) (fun v => emPorts_ _ _ _ _ (g0 _) (g1 _) (g0 _) (g1 _) v) (fun v => emAddrs_ _ _ _ _ (okC_ad hc) v) (fun v => emPorts_ _ _ _ _ c2 c3 c6 c7 v) cu (fun v => put16 _ v bd.1 bd.2)
      (fun v i hi => with_at (k := 16 + ownN D) (by omega) (by omega) (by omega) (by rw [zS, zP]; omega) v) hP fz
    rw [ch_six h hc hp (by omega)] at r
    exact r
theorem emPorts17_ {D : ByteArray} (h : lkR D = 0) (hz : D.size ≤ 1000000) (hp : bt D 9 = 17) {a m b n : Int} (hc : okC a m b n) (u : World) (p : Nat) (hP : Box2 u p (.string (chH D a b)) (.int .i64 (ownN D : Int))) (fz : ∀ i, u.frozen? ⟨p, i, none⟩ = false) :
    Calls Tryz.prog 77 #[.pointer (some ⟨p, 0, none⟩), .agg #[.int .u8 17, .int .u32 (g32 D 12), .int .u16 (g16 (inL D) 0), .int .u32 (g32 D 16), .int .u16 (g16 (inL D) 2)], .agg #[.int .u32 a, .int .u16 m, .int .u32 b, .int .u16 n], .int .i64 6] u fun e w' => e = .returned (.tuple #[]) ∧ Laid p (emD D a m b n) (ownN D) u w' := by
  obtain ⟨h0, h1, h2, h3, h4, h5⟩ := lk_zero h
  obtain ⟨c0, c1, c2, c3, c4, c5, c6, c7⟩ := id hc
  have o60 : ownN D ≤ 60 := by have := bt_le D 0; have := bt_nonneg D 0; unfold ownN; omega
  have zL := inL_size (D := D) (by omega)
  have zH := chH_size (D := D) (a := a) (b := b) h0
  have zP := chP_size (D := D) (a := a) (m := m) (b := b) (n := n) h2 h3
  have zW : (strOfNums (wordL [m, n])).size = 4 := by rw [size_W]; rfl
  have l1 : ∀ (v : World) (i : Int), i = (ownN D : Int) → _ := fun v i hi => with_at (s := chH D a b) (p := strOfNums (wordL [m, n])) hi (by omega) (by omega) (by rw [zW]; omega) v
  have er : wrap64 (((chP D a m b n).size : Int) - 2) = ((chP D a m b n).size : Int) - 2 := IntWalk.wrap64_in _ ⟨by omega, by omega⟩
  have g0 := fun k => g16_nonneg (inL D) k
  have g1 := fun k => g16_le (inL D) k
  have ho := okC_of D
  have cg : ∀ (v : World) (i : Int), i = ((6 : Nat) : Int) + (ownN D : Int) → Calls Tryz.prog 64 #[.string (chP D a m b n), .int .i64 i] v fun e w' => e = .returned (.int .u16 (g16 (inL D) 6)) ∧ Below v.heap.size v w' :=
    fun v i hi => by have k := emWord_ (chP D a m b n) i (2 * 3 + ownN D) v (by omega) (by omega) (by omega); rwa [chP_sum h hc 3 (by omega)] at k
  have chs : ∀ (v : World) (i : Int), i = ((6 : Nat) : Int) + (ownN D : Int) → Calls Tryz.prog 128 #[.string (chP D a m b n), .int .i64 i, .int .i64 2] v fun e w' => e = .returned (.bool true) ∧ Below v.heap.size v w' :=
    fun v i hi => by have k := emHas_ (chP D a m b n) i _ er v; rwa [show decide (i ≤ ((chP D a m b n).size : Int) - 2) = true by rw [hi]; exact decide_eq_true (by rw [zP]; omega)] at k
  by_cases hs : g16 (inL D) 6 = 0
  · have r := emPorts_bare u p (ownN D) (chH D a b) 6 (by omega) o60 (g32 D 12) (g16 (inL D) 0) (g32 D 16) (g16 (inL D) 2) a m b n (g16 (inL D) 6) (strOfNums (wordL [m, n])) (chP D a m b n) true (fun v => emPorts_ a m b n c2 c3 c6 c7 v) l1 cg chs (by simpa using hs) hP fz
    rw [ch_bare h hc hp hs] at r
    exact r
  · have bd := pSum_bd (L := inL D) (k := 6) ho hc
    have eu : uSum (inL D) (g32 D 12) (g32 D 16) a m b n = if pSum (inL D) 6 (g32 D 12) (g32 D 16) a m b n = 0 then 65535 else pSum (inL D) 6 (g32 D 12) (g32 D 16) a m b n := by unfold uSum; rw [if_neg hs]
    have cu := fun v => updates_ (g16 (inL D) 6) (strOfNums (wordL (adW (g32 D 12) (g32 D 16) ++ [g16 (inL D) 0, g16 (inL D) 2]))) (strOfNums (wordL (adW a b ++ [m, n]))) v (g0 _) (g1 _) (by rw [size_W]; show 2 * 6 ≤ maxLen; unfold maxLen; omega) (by rw [size_W]; show 2 * 6 ≤ maxLen; unfold maxLen; omega)
    rw [pSum_N ho hc, wordL_append, wordL_append, ← strOfNums_append, ← strOfNums_append] at cu
    have zz : ∀ x : Int, (strOfNums (wordL [x])).size = 2 := fun x => by rw [size_W]; rfl
    by_cases hv : pSum (inL D) 6 (g32 D 12) (g32 D 16) a m b n = 0
    · rw [if_pos hv] at eu
      have r := emPorts_full u p (ownN D) (chH D a b) 6 (by omega) o60 (g32 D 12) (g16 (inL D) 0) (g32 D 16) (g16 (inL D) 2) a m b n (g16 (inL D) 6) (strOfNums (wordL [m, n])) (chP D a m b n) true (fun v => emPorts_ a m b n c2 c3 c6 c7 v) l1 cg chs
        _ _ _ _ _ (chS D 6 65535 a m b n) _ true (by rw [size_W, size_W]; show 2 * 4 + 2 * 2 ≤ _; omega) (by rw [size_W, size_W]; show 2 * 4 + 2 * 2 ≤ _; omega) (fun v => emAddrs_ _ _ _ _ ho v) (fun v => emPorts_ _ _ _ _ (g0 _) (g1 _) (g0 _) (g1 _) v) (fun v => emAddrs_ _ _ _ _ (okC_ad hc) v) (fun v => emPorts_ _ _ _ _ c2 c3 c6 c7 v) cu (fun v => put16 _ v (by omega) (by omega))
        (fun v i hi => with_at (k := 6 + ownN D) (by omega) (by omega) (by rw [zz]; omega) (by rw [zz, zP]; omega) v) (by simpa using hs) (by simpa using hv) hP fz
      have e := ch_udp h hc hp
      rw [eu] at e
      rw [e] at r
      exact r
    · rw [if_neg hv] at eu
      have r := emPorts_udp u p (ownN D) (chH D a b) 6 (by omega) o60 (g32 D 12) (g16 (inL D) 0) (g32 D 16) (g16 (inL D) 2) a m b n (g16 (inL D) 6) (strOfNums (wordL [m, n])) (chP D a m b n) true (fun v => emPorts_ a m b n c2 c3 c6 c7 v) l1 cg chs
        _ _ _ _ _ (chS D 6 (pSum (inL D) 6 (g32 D 12) (g32 D 16) a m b n) a m b n) _ true (by rw [size_W, size_W]; show 2 * 4 + 2 * 2 ≤ _; omega) (by rw [size_W, size_W]; show 2 * 4 + 2 * 2 ≤ _; omega) (fun v => emAddrs_ _ _ _ _ ho v) (fun v => emPorts_ _ _ _ _ (g0 _) (g1 _) (g0 _) (g1 _) v) (fun v => emAddrs_ _ _ _ _ (okC_ad hc) v) (fun v => emPorts_ _ _ _ _ c2 c3 c6 c7 v) cu (fun v => put16 _ v bd.1 bd.2)
        (fun v i hi => with_at (k := 6 + ownN D) (by omega) (by omega) (by rw [zz]; omega) (by rw [zz, zP]; omega) v) (by simpa using hs) (by simpa using hv) hP fz
      have e := ch_udp h hc hp
      rw [eu] at e
      rw [e] at r
      exact r
theorem emID_ {D : ByteArray} (h : lkR D = 0) (hz : D.size ≤ 1000000) (hp : bt D 9 = 1) {a m b n : Int} (hc : okC a m b n) (u : World) (p : Nat) (hP : Box2 u p (.string (chH D a b)) (.int .i64 (ownN D : Int))) (fz : ∀ i, u.frozen? ⟨p, i, none⟩ = false) :
    Calls Tryz.prog 78 #[.pointer (some ⟨p, 0, none⟩), .agg #[.int .u32 a, .int .u16 m, .int .u32 b, .int .u16 n]] u fun e w' => e = .returned (.tuple #[]) ∧ Laid p (emD D a m b n) (ownN D) u w' := by
  obtain ⟨h0, h1, h2, h3, h4, h5⟩ := lk_zero h
  obtain ⟨c0, c1, c2, c3, c4, c5, c6, c7⟩ := id hc
  have o60 : ownN D ≤ 60 := by have := bt_le D 0; have := bt_nonneg D 0; unfold ownN; omega
  have zL := inL_size (D := D) (by omega)
  have zH := chH_size (D := D) (a := a) (b := b) h0
  have g0 := fun k => g16_nonneg (inL D) k
  have g1 := fun k => g16_le (inL D) k
  have cg : ∀ v : World, Calls Tryz.prog 64 #[.string (chH D a b), .int .i64 ((ownN D : Int) + 4)] v fun e w' => e = .returned (.int .u16 (g16 (inL D) 4)) ∧ Below v.heap.size v w' := fun v => by
    have k := emWord_ (chH D a b) ((ownN D : Int) + 4) (ownN D + 2 * 2) v (by omega) (by omega) (by omega)
    rwa [chH_at h (okC_ad hc) 2] at k
  have ch : ∀ v : World, Calls Tryz.prog 64 #[.string (chH D a b), .int .i64 ((ownN D : Int) + 2)] v fun e w' => e = .returned (.int .u16 (g16 (inL D) 2)) ∧ Below v.heap.size v w' := fun v => by
    have k := emWord_ (chH D a b) ((ownN D : Int) + 2) (ownN D + 2 * 1) v (by omega) (by omega) (by omega)
    rwa [chH_at h (okC_ad hc) 1] at k
  have cq := fun v => emQuery_ (chH D a b) (ownN D) (by omega) o60 (by omega) v
  have q0 := chH_bt h (okC_ad hc) 0
  rw [Nat.add_zero] at q0
  rw [q0, chH_bt h (okC_ad hc) 1] at cq
  have e := ch_query h hc hp
  have key : ∀ id : Int, 0 ≤ id → id ≤ 65535 → (∀ v : World, Calls Tryz.prog 80 #[.int .u16 (g16 (inL D) 2), .int .u16 (g16 (inL D) 4), .int .u16 id] v fun e w' => e = .returned (.int .u16 (updW (g16 (inL D) 2) (g16 (inL D) 4) id)) ∧ Below v.heap.size v w') ∧ (∀ (v : World) (j : Nat), j < v.heap.size → v.cell? ⟨j, 0, none⟩ = some (.int .u16 (updW (g16 (inL D) 2) (g16 (inL D) 4) id)) → v.cell? ⟨j, 1, none⟩ = some (.int .u16 id) → Calls Tryz.prog 81 #[.slice (some ⟨j, 0, none⟩) 2 2] v fun e w' => e = .returned (.string (strOfNums (wordL [updW (g16 (inL D) 2) (g16 (inL D) 4) id, id]))) ∧ Below v.heap.size v w') ∧ (∀ (v : World) (i : Int), i = (ownN D : Int) + 2 → Calls Tryz.prog 126 #[.string (chH D a b), .int .i64 i, .string (strOfNums (wordL [updW (g16 (inL D) 2) (g16 (inL D) 4) id, id]))] v fun e w' => e = .returned (.tuple #[.string (chI D a b id), .bool true]) ∧ Below v.heap.size v w') := by
    intro id i0 i1
    have bd := updW_bd (g0 2) (g1 2) (g0 4) (g1 4) i0 i1
    refine ⟨fun v => (update_ _ _ id v (g0 _) (g1 _) (g0 _) (g1 _) i0 i1).mono ?_, fun v j hj r0 r1 => word_any _ 2 2 [_, id] v (row2 hj r0 r1) (by omega) (two_wf bd.1 bd.2 i0 i1), fun v i hi => with_at (k := ownN D + 2) (by omega) (by omega) (by rw [size_W]; show 2 * 2 ≤ _; omega) (by rw [size_W, zH]; show _ + 2 * 2 ≤ _; omega) v⟩
    rintro e w' ⟨h, rfl⟩
    exact ⟨h, Below.refl _ _⟩
  cases ha : inAsk D with
  | true =>
    rw [ha, if_pos rfl] at e
    rw [show qAsk (bt D (ownN D)) (bt D (ownN D + 1)) = true from ha] at cq
    obtain ⟨k1, k2, k3⟩ := key m c2 c3
    have r := emID_ask u p (ownN D) (chH D a b) o60 a m b n _ _ _ _ _ _ true cg cq ch k1 k2 k3 hP fz
    rw [e] at r
    exact r
  | false =>
    rw [ha, if_neg (by decide)] at e
    rw [show qAsk (bt D (ownN D)) (bt D (ownN D + 1)) = false from ha] at cq
    obtain ⟨k1, k2, k3⟩ := key n c6 c7
    have r := emID_told u p (ownN D) (chH D a b) o60 a m b n _ _ _ _ _ _ true cg cq ch k1 k2 k3 hP fz
    rw [e] at r
    exact r
theorem emChanged_ {D : ByteArray} (h : lkR D = 0) (hz : D.size ≤ 1000000) {a m b n : Int} (hc : okC a m b n) (w : World) :
    Cw_ 33 #[.agg #[.string D, .int .i64 (ownN D : Int)], .agg #[.int .u8 (bt D 9), .int .u32 (g32 D 12), .int .u16 (inM D), .int .u32 (g32 D 16), .int .u16 (inN D)], .agg #[.int .u32 a, .int .u16 m, .int .u32 b, .int .u16 n]] (.string (emD D a m b n)) w := by
  obtain ⟨h0, h1, h2, h3, h4, h5⟩ := lk_zero h
  have ho := okC_of D
  have hcd := okC_ad hc
  have bd := emS_bd (D := D) hcd
  have zS : (strOfNums (wordL [emS D a b])).size = 2 := by rw [size_W]; rfl
  have zA : (strOfNums (wordL (adW a b))).size = 8 := by rw [size_W]; rfl
  have z1 : (withB D 10 (strOfNums (wordL [emS D a b]))).size = D.size := size_withB _ _ _ (by rw [zS]; omega)
  have a1 := fun (x y : Int) (u : World) => emAddrs_ (g32 D 12) x (g32 D 16) y ho u
  have a2 := fun u => emAddrs_ a m b n hcd u
  have cg := fun u => emWord_ D 10 10 u rfl hz (by omega)
  have cu := fun u => updates_ (g16 D 10) (strOfNums (wordL (adW (g32 D 12) (g32 D 16)))) (strOfNums (wordL (adW a b))) u (g16_nonneg _ _) (g16_le _ _) (by rw [size_W]; show 2 * 4 ≤ maxLen; unfold maxLen; omega) (by rw [size_W]; show 2 * 4 ≤ maxLen; unfold maxLen; omega)
  rw [emS_V h0 hcd] at cu
  have cs := fun u => put16 (emS D a b) u bd.1 bd.2
  have l1 := fun u => with_at (s := D) (p := strOfNums (wordL [emS D a b])) (i := 10) (k := 10) rfl hz (by omega) (by omega) u
  have l2 := fun u => with_at (s := withB D 10 (strOfNums (wordL [emS D a b]))) (p := strOfNums (wordL (adW a b))) (i := 12) (k := 12) rfl (by omega) (by omega) (by omega) u
  rcases h5 with k | k | ⟨k, q⟩
  · rw [k]
    rw [show inM D = g16 (inL D) 0 by unfold inM; rw [if_neg (by omega), inL_g16, Nat.add_zero], show inN D = g16 (inL D) 2 by unfold inN; rw [if_neg (by omega), inL_g16]]
    exact emChanged_v6 D _ _ _ _ (chH D a b) _ true true (ownN D) _ _ _ _ a m b n _ _ (a1 _ _) a2 cg cu cs l1 l2 (emPorts6_ h hz k hc) w
  · rw [k]
    rw [show inM D = g16 (inL D) 0 by unfold inM; rw [if_neg (by omega), inL_g16, Nat.add_zero], show inN D = g16 (inL D) 2 by unfold inN; rw [if_neg (by omega), inL_g16]]
    exact emChanged_v17 D _ _ _ _ (chH D a b) _ true true (ownN D) _ _ _ _ a m b n _ _ (a1 _ _) a2 cg cu cs l1 l2 (emPorts17_ h hz k hc) w
  · rw [k]
    exact emChanged_v1 D _ _ _ _ (chH D a b) _ true true (ownN D) _ _ _ _ a m b n _ _ (a1 _ _) a2 cg cu cs l1 l2 (emID_ h hz k hc) w
theorem emTranslate_refused (s : ByteArray) (a m b n c k d l q : Int) (e1 : (q != 0) = true) (ci : Cb_ 9 #[.string s] (.tuple #[.agg #[.int .u8 0, .int .u32 0, .int .u16 0, .int .u32 0, .int .u16 0], .int .i64 q]))  (w : World) :
    Cw_ 11 #[.string s, .agg #[.int .u32 a, .int .u16 m, .int .u32 b, .int .u16 n], .agg #[.int .u32 c, .int .u16 k, .int .u32 d, .int .u16 l]] (.tuple #[.string ⟨#[]⟩, .int .i64 q]) w := by
  go_enter Tryz.func11, Tryz.ntmps11
  have B1 := Below.refl w.heap.size w
  go_upto_region 1 with fail
  have A_2 := Box4.make w (.int .u32 a) (.int .u16 m) (.int .u32 b) (.int .u16 n) 28
  have B3 := B1.alloc B1.size (.cells #[.int .u32 a, .int .u16 m, .int .u32 b, .int .u16 n] 28)
  clear B1
  have al := alO_ B3 (.cells #[.int .u32 c, .int .u16 k, .int .u32 d, .int .u16 l] 28)
  have A_4 := A_2.on al
  have hs_ : (w.alloc (.cells #[.int .u32 a, .int .u16 m, .int .u32 b, .int .u16 n] 28)).heap.size = w.heap.size + 1 := by simp
  have C_5 := Box4.make (w.alloc (.cells #[.int .u32 a, .int .u16 m, .int .u32 b, .int .u16 n] 28)) (.int .u32 c) (.int .u16 k) (.int .u32 d) (.int .u16 l) 28
  rw [hs_] at C_5
  clear hs_
  have B6 := B3.trans (al.mono B3.size)
  clear al
  clear A_2 B3
  obtain ⟨u1, hu1⟩ : ∃ x_ : World, x_ = (w.alloc (.cells #[.int .u32 a, .int .u16 m, .int .u32 b, .int .u16 n] 28)).alloc (.cells #[.int .u32 c, .int .u16 k, .int .u32 d, .int .u16 l] 28) := ⟨_, rfl⟩
  rw [← hu1] at A_4 C_5 B6 ⊢
  clear hu1
  go_wp2_with fail
  refine (ci _).mono ?_; rintro e w1 ⟨rfl, x1⟩
  have A_7 := A_4.on x1
  have C_8 := C_5.on x1
  have B9 := B6.trans (x1.mono B6.size)
  clear A_4 C_5 B6 x1
  clear ci
  have al := alO_ B9 (.cells #[.int .u8 0, .int .u32 0, .int .u16 0, .int .u32 0, .int .u16 0] 33)
  have A_10 := A_7.on al
  have C_11 := C_8.on al
  have T_12 := Box5.make w1 (.int .u8 0) (.int .u32 0) (.int .u16 0) (.int .u32 0) (.int .u16 0) 33
  have B13 := B9.trans (al.mono B9.size)
  clear al
  clear A_7 C_8 B9
  go_wp2
  go_ret2
  exact ⟨rfl, B13⟩
theorem emTranslate_v (s : ByteArray) (a m b n c k d l : Int) (t0 t1 t2 t3 t4 m0 m1 m2 o x r q : Int) (X m3 m4 S D V1 V2 LB O : ByteArray) (z : X.size + LB.size ≤ 9223372036854775807) (ci : Cb_ 9 #[.string s] (.tuple #[.agg #[.int .u8 t0, .int .u32 t1, .int .u16 t2, .int .u32 t3, .int .u16 t4], .int .i64 0])) (ca : Cb_ 28 #[.string s] (.tuple #[.string X, .agg #[.int .u8 m0, .int .u8 m1, .int .u16 m2, .string m3, .string m4]])) (cb : Cb_ 29 #[.string m4] (.tuple #[.agg #[.string S, .int .i64 o], .bool true])) (cd : Cb_ 33 #[.agg #[.string S, .int .i64 o], .agg #[.int .u8 t0, .int .u32 t1, .int .u16 t2, .int .u32 t3, .int .u16 t4], .agg #[.int .u32 c, .int .u16 k, .int .u32 d, .int .u16 l]] (.string D)) (v1 : Cb_ 35 #[.string m4] (.string V1)) (v2 : Cb_ 35 #[.string D] (.string V2)) (cu : Cb_ 34 #[.int .u16 m2, .string V1, .string V2] (.int .u16 x)) (cp : Cb_ 36 #[.agg #[.int .u8 m0, .int .u8 m1, .int .u16 x, .string m3, .string D]] (.tuple #[.string LB, .int .i64 r])) (cr : Cb_ 22 #[.string (X ++ LB), .agg #[.int .u32 a, .int .u16 m, .int .u32 b, .int .u16 n]] (.tuple #[.string O, .int .i64 q])) (w : World) :
    Cw_ 11 #[.string s, .agg #[.int .u32 a, .int .u16 m, .int .u32 b, .int .u16 n], .agg #[.int .u32 c, .int .u16 k, .int .u32 d, .int .u16 l]] (.tuple #[.string O, .int .i64 q]) w := by
  go_enter Tryz.func11, Tryz.ntmps11
  have B1 := Below.refl w.heap.size w
  go_upto_region 1 with fail
  have A_2 := Box4.make w (.int .u32 a) (.int .u16 m) (.int .u32 b) (.int .u16 n) 28
  have B3 := B1.alloc B1.size (.cells #[.int .u32 a, .int .u16 m, .int .u32 b, .int .u16 n] 28)
  clear B1
  have al := alO_ B3 (.cells #[.int .u32 c, .int .u16 k, .int .u32 d, .int .u16 l] 28)
  have A_4 := A_2.on al
  have hs_ : (w.alloc (.cells #[.int .u32 a, .int .u16 m, .int .u32 b, .int .u16 n] 28)).heap.size = w.heap.size + 1 := by simp
  have C_5 := Box4.make (w.alloc (.cells #[.int .u32 a, .int .u16 m, .int .u32 b, .int .u16 n] 28)) (.int .u32 c) (.int .u16 k) (.int .u32 d) (.int .u16 l) 28
  rw [hs_] at C_5
  clear hs_
  have B6 := B3.trans (al.mono B3.size)
  clear al
  clear A_2 B3
  obtain ⟨u1, hu1⟩ : ∃ x_ : World, x_ = (w.alloc (.cells #[.int .u32 a, .int .u16 m, .int .u32 b, .int .u16 n] 28)).alloc (.cells #[.int .u32 c, .int .u16 k, .int .u32 d, .int .u16 l] 28) := ⟨_, rfl⟩
  rw [← hu1] at A_4 C_5 B6 ⊢
  clear hu1
  go_wp2_with fail
  refine (ci _).mono ?_; rintro e w1 ⟨rfl, x1⟩
  have A_7 := A_4.on x1
  have C_8 := C_5.on x1
  have B9 := B6.trans (x1.mono B6.size)
  clear A_4 C_5 B6 x1
  clear ci
  have al := alO_ B9 (.cells #[.int .u8 t0, .int .u32 t1, .int .u16 t2, .int .u32 t3, .int .u16 t4] 33)
  have A_10 := A_7.on al
  have C_11 := C_8.on al
  have T_12 := Box5.make w1 (.int .u8 t0) (.int .u32 t1) (.int .u16 t2) (.int .u32 t3) (.int .u16 t4) 33
  have B13 := B9.trans (al.mono B9.size)
  clear al
  clear A_7 C_8 B9
  go_wp2_with fail
  refine (ca _).mono ?_; rintro e w2 ⟨rfl, x2⟩
  have A_14 := A_10.on x2
  have C_15 := C_11.on x2
  have T_16 := T_12.on x2
  have B17 := B13.trans (x2.mono B13.size)
  clear A_10 C_11 T_12 B13 x2
  clear ca
  have Lt := Lib.hid (show w.heap.size < w2.heap.size from A_14.1)
  have al := alO_ B17 (.cells #[.int .u8 m0, .int .u8 m1, .int .u16 m2, .string m3, .string m4] 63)
  have A_18 := A_14.on al
  have C_19 := C_15.on al
  have T_20 := T_16.on al
  have M_21 := Box5.make w2 (.int .u8 m0) (.int .u8 m1) (.int .u16 m2) (.string m3) (.string m4) 63
  have B22 := B17.trans (al.mono B17.size)
  clear al
  clear A_14 C_15 T_16 B17
  have fzM_23 : ∀ i, (w2.alloc (.cells #[.int .u8 m0, .int .u8 m1, .int .u16 m2, .string m3, .string m4] 63)).frozen? ⟨w2.heap.size, i, none⟩ = false := by intro i; simp [go_sem]
  obtain ⟨_, m1_0, m1_1, m1_2, m1_3, m1_4⟩ := id M_21
  go_wp2_with fail
  refine (cb _).mono ?_; rintro e w3 ⟨rfl, x3⟩
  have fzM_24 := fzB_ x3 M_21.1 fzM_23
  clear fzM_23
  have A_25 := A_18.on x3
  have C_26 := C_19.on x3
  have T_27 := T_20.on x3
  have M_28 := M_21.on x3
  have B29 := B22.trans (x3.mono B22.size)
  clear m1_0 m1_1 m1_2 m1_3 m1_4 A_18 C_19 T_20 M_21 B22 x3
  clear cb
  have al := alO_ B29 (.cells #[.string S, .int .i64 o] 77)
  have fzM_30 := fzB_ al M_28.1 fzM_24
  clear fzM_24
  have A_31 := A_25.on al
  have C_32 := C_26.on al
  have T_33 := T_27.on al
  have M_34 := M_28.on al
  have P_35 := Box2.make w3 (.string S) (.int .i64 o) 77
  have B36 := B29.trans (al.mono B29.size)
  clear al
  clear A_25 C_26 T_27 M_28 B29
  go_upto_region 6 with fail
  obtain ⟨u4, hu4⟩ : ∃ x_ : World, x_ = w3.alloc (.cells #[.string S, .int .i64 o] 77) := ⟨_, rfl⟩
  rw [← hu4] at A_31 C_32 T_33 M_34 P_35 fzM_30 B36 ⊢
  clear hu4
  obtain ⟨_, p2_0, p2_1⟩ := id P_35
  obtain ⟨_, t3_0, t3_1, t3_2, t3_3, t3_4⟩ := id T_33
  obtain ⟨_, c4_0, c4_1, c4_2, c4_3⟩ := id C_32
  go_wp2_with fail
  refine (cd _).mono ?_; rintro e w11 ⟨rfl, x11⟩
  have fzM_37 := fzB_ x11 M_34.1 fzM_30
  clear fzM_30
  have A_38 := A_31.on x11
  have C_39 := C_32.on x11
  have T_40 := T_33.on x11
  have M_41 := M_34.on x11
  have P_42 := P_35.on x11
  have B43 := B36.trans (x11.mono B36.size)
  clear p2_0 p2_1 t3_0 t3_1 t3_2 t3_3 t3_4 c4_0 c4_1 c4_2 c4_3 A_31 C_32 T_33 M_34 P_35 B36 x11
  clear cd
  clear P_42 T_40 C_39
  go_upto_region 7 with fail
  have ne1_ : ¬ w.heap.size = w2.heap.size := by have := Lt.out; omega
  have ne2_ : ¬ w2.heap.size = w.heap.size := by have := Lt.out; omega
  have LE : Hid (w.heap.size ≤ w2.heap.size) := Nat.le_of_lt Lt.out
  obtain ⟨zm, gm0, gm1, gm2, gm3, gm4⟩ := id M_41
  have Fm0 := lat_ gm0 zm
  have Fm1 := lat_ gm1 zm
  have Fm2 := lat_ gm2 zm
  have Fm3 := lat_ gm3 zm
  have Fm4 := lat_ gm4 zm
  clear gm0 gm1 gm2 gm3 gm4
  refine region_lead (B := w11.heap.size) 9 1 (by kernel_rfl) (by kernel_rfl) (by kernel_rfl) (by kernel_rfl) ?_
  simp only [List.take_succ_cons, List.take_zero]
  repeat (go_big_quiet_step (first
    | (go_at_call 35; with_reducible exact later_of _ (Nat.le_refl _) (v1 _))
    | (go_at_call 35; with_reducible exact later_of _ (Nat.le_refl _) (v2 _))
    | (go_at_call 34; exact later_of _ (Nat.le_refl _) (cu _))))
  refine lead_end (by kernel_rfl) (by kernel_rfl) rfl fun w12 x12 K hK => ?_
  have fzM_44 := fzB_ x12 M_41.1 fzM_37
  clear fzM_37
  have A_45 := A_38.on x12
  have M_46 := M_41.on x12
  have B47 := B43.trans (x12.mono B43.size)
  clear Fm0 Fm1 Fm2 Fm3 Fm4 zm A_38 M_41 B43 x12
  clear v1 v2 cu
  obtain ⟨_, m5_0, m5_1, m5_2, m5_3, m5_4⟩ := id M_46
  go_simp
  refine hK.out _ _ ?_
  clear hK K
  clear m5_0 m5_1 m5_2 m5_3 m5_4
  obtain ⟨_, a6_0, a6_1, a6_2, a6_3⟩ := id A_45
  obtain ⟨_, m7_0, m7_1, m7_2, m7_3, m7_4⟩ := id M_46
  have B48 := (B47.setCell (p := ⟨w2.heap.size, 2, none⟩) LE.out (.int .u16 x))
  have A_49 : Box4 (w12.setCell ⟨w2.heap.size, 2, none⟩ (.int .u16 x)) w.heap.size (.int .u32 a) (.int .u16 m) (.int .u32 b) (.int .u16 n) := ⟨by have := A_45.1; simpa using this, by simp [go_sem, a6_0, a6_1, a6_2, a6_3, m7_0, m7_1, m7_2, m7_3, m7_4]⟩
  have M_50 : Box5 (w12.setCell ⟨w2.heap.size, 2, none⟩ (.int .u16 x)) w2.heap.size (.int .u8 m0) (.int .u8 m1) (.int .u16 x) (.string m3) (.string m4) := ⟨by have := M_46.1; simpa using this, by simp [go_sem, a6_0, a6_1, a6_2, a6_3, m7_0, m7_1, m7_2, m7_3, m7_4]⟩
  have fzM_51 : ∀ i, (w12.setCell ⟨w2.heap.size, 2, none⟩ (.int .u16 x)).frozen? ⟨w2.heap.size, i, none⟩ = false := by intro i; simp [fzM_44]
  clear a6_0 a6_1 a6_2 a6_3 m7_0 m7_1 m7_2 m7_3 m7_4 A_45 M_46 fzM_44 B47
  obtain ⟨u13, hu13⟩ : ∃ x_ : World, x_ = (w12.setCell ⟨w2.heap.size, 2, none⟩ (.int .u16 x)) := ⟨_, rfl⟩
  rw [← hu13] at A_49 M_50 fzM_51 B48 ⊢
  clear hu13
  obtain ⟨_, m8_0, m8_1, m8_2, m8_3, m8_4⟩ := id M_50
  go_upto_region 9 with fail
  clear m8_0 m8_1 m8_2 m8_3 m8_4
  obtain ⟨_, a9_0, a9_1, a9_2, a9_3⟩ := id A_49
  obtain ⟨_, m10_0, m10_1, m10_2, m10_3, m10_4⟩ := id M_50
  have B52 := (B48.setCell (p := ⟨w2.heap.size, 4, none⟩) LE.out (.string D))
  have A_53 : Box4 (u13.setCell ⟨w2.heap.size, 4, none⟩ (.string D)) w.heap.size (.int .u32 a) (.int .u16 m) (.int .u32 b) (.int .u16 n) := ⟨by have := A_49.1; simpa using this, by simp [go_sem, a9_0, a9_1, a9_2, a9_3, m10_0, m10_1, m10_2, m10_3, m10_4]⟩
  have M_54 : Box5 (u13.setCell ⟨w2.heap.size, 4, none⟩ (.string D)) w2.heap.size (.int .u8 m0) (.int .u8 m1) (.int .u16 x) (.string m3) (.string D) := ⟨by have := M_50.1; simpa using this, by simp [go_sem, a9_0, a9_1, a9_2, a9_3, m10_0, m10_1, m10_2, m10_3, m10_4]⟩
  have fzM_55 : ∀ i, (u13.setCell ⟨w2.heap.size, 4, none⟩ (.string D)).frozen? ⟨w2.heap.size, i, none⟩ = false := by intro i; simp [fzM_51]
  clear a9_0 a9_1 a9_2 a9_3 m10_0 m10_1 m10_2 m10_3 m10_4 A_49 M_50 fzM_51 B48
  obtain ⟨u14, hu14⟩ : ∃ x_ : World, x_ = (u13.setCell ⟨w2.heap.size, 4, none⟩ (.string D)) := ⟨_, rfl⟩
  rw [← hu14] at A_53 M_54 fzM_55 B52 ⊢
  clear hu14
  obtain ⟨_, m11_0, m11_1, m11_2, m11_3, m11_4⟩ := id M_54
  go_wp2_with fail
  refine (cp _).mono ?_; rintro e w15 ⟨rfl, x15⟩
  have fzM_56 := fzB_ x15 M_54.1 fzM_55
  clear fzM_55
  have A_57 := A_53.on x15
  have M_58 := M_54.on x15
  have B59 := B52.trans (x15.mono B52.size)
  clear m11_0 m11_1 m11_2 m11_3 m11_4 A_53 M_54 B52 x15
  clear cp
  obtain ⟨_, a12_0, a12_1, a12_2, a12_3⟩ := id A_57
  go_wp2_with fail
  refine (cr _).mono ?_; rintro e w16 ⟨rfl, x16⟩
  have fzM_60 := fzB_ x16 M_58.1 fzM_56
  clear fzM_56
  have A_61 := A_57.on x16
  have M_62 := M_58.on x16
  have B63 := B59.trans (x16.mono B59.size)
  clear a12_0 a12_1 a12_2 a12_3 A_57 M_58 B59 x16
  go_wp2
  go_ret2
  exact ⟨rfl, B63⟩
theorem emTranslate_ (s : ByteArray) (a m b n c k d l : Int) (w : World) (hs : s.size ≤ 1000000) (hc : okC a m b n) (hd : okC c k d l) :
    Cw_ 11 #[.string s, .agg #[.int .u32 a, .int .u16 m, .int .u32 b, .int .u16 n], .agg #[.int .u32 c, .int .u16 k, .int .u32 d, .int .u16 l]] (.tuple #[.string (trB s a m b n c k d l), .int .i64 (trR s)]) w := by
  have ci := fun u => emInner_ s u hs
  by_cases hi : inR s = 0
  rotate_left
  · have hR : trR s = inR s := by unfold trR; rw [if_neg hi]
    have z : ∀ v, iI s v = 0 := fun v => by unfold iI; rw [if_neg hi]
    rw [z, z, z, z, z] at ci
    rw [show trB s a m b n c k d l = ⟨#[]⟩ by unfold trB; rw [if_neg (by rw [hR]; exact hi)], hR]
    exact emTranslate_refused s a m b n c k d l (inR s) (by simpa using hi) ci w
  obtain ⟨hsn, hk, hl⟩ := in_zero hi
  have z : ∀ v, iI s v = v := fun v => by unfold iI; rw [if_pos hi]
  rw [z, z, z, z, z, hi] at ci
  obtain ⟨k9, t1, qf, er⟩ := err_kind hsn hk
  have hp := (seen_ip hsn).1
  obtain ⟨f1, f2, f3, f4, f5, f6, f7, f8, f9⟩ := ip_facts hp
  have hL : (pP s).size ≤ s.size := by rw [(p_yes hp).2.2.2, ByteArray.size_extract]; omega
  have eZ := (eD_is t1).2
  have zM := mOk_size t1
  have E := em_facts hl hd
  have zD := E.size
  obtain ⟨_, y1, y2, _⟩ := mOk_yes t1
  have ca := fun u => emApart_ s hp hs u
  rw [y1, y1, y1] at ca
  have cb := fun u => emOpen_ (eD s) u (by omega)
  have ho : opB (eD s) = true := by
    obtain ⟨h0, h1, h2, h3, h4, _⟩ := lk_zero hl
    exact decide_eq_true ⟨h0, h1, h2, h3, h4⟩
  rw [ho, show opS (eD s) = eD s by unfold opS; rw [if_pos ho], show opO (eD s) = (ownN (eD s) : Int) by unfold opO; rw [if_pos ho]] at cb
  have cd := fun u => emChanged_ hl (by omega) hd u
  have v1 := fun u => emEven_ (eD s) u (by omega)
  have v2 := fun u => emEven_ (emD (eD s) c k d l) u (by omega)
  have q1 : (evB (eD s)).size ≤ 1000000 := by unfold evB; rw [ByteArray.size_extract]; omega
  have q2 : (evB (emD (eD s) c k d l)).size ≤ 1000000 := by unfold evB; rw [ByteArray.size_extract]; omega
  have cu := fun u => updates_ (g16 (pP s) 2) (evB (eD s)) (evB (emD (eD s) c k d l)) u (g16_nonneg _ _) (g16_le _ _) (by unfold maxLen; omega) (by unfold maxLen; omega)
  have bd : 0 ≤ msV s (emD (eD s) c k d l) ∧ msV s (emD (eD s) c k d l) ≤ 65535 := updV_bd _ _ (g16_nonneg _ _) (g16_le _ _)
  have zr : (mR (pP s)).size = 4 := by rw [y2]; exact size_extract' _ 4 8 (by omega) zM
  have cp := fun u => icmpPut_ (bt (pP s) 0) (bt (pP s) 1) (msV s (emD (eD s) c k d l)) (mR (pP s)) (emD (eD s) c k d l) u (bt_nonneg _ _) (bt_le _ _) (bt_nonneg _ _) (bt_le _ _) bd.1 bd.2 (by omega) (by omega)
  rw [icP_yes _ _ _ _ _ zr] at cp
  have sz := (pa_is hi zD (a := a) (m := m) (b := b) (n := n)).1
  obtain ⟨g1, g2⟩ := tr_code hi (a := a) (m := m) (b := b) (n := n) hd
  have pz : (pP s).size ≤ 2048 := by rw [(p_yes hp).2.2.2, ByteArray.size_extract]; omega
  have o60 : ownN s ≤ 60 := by have := bt_le s 0; have := bt_nonneg s 0; unfold ownN; omega
  have cr := fun u => rwApply_ (paB s (emD (eD s) c k d l)) a m b n u (by omega) hc
  rw [g1, g2] at cr
  refine emTranslate_v s a m b n c k d l _ _ _ _ _ _ _ _ _ _ _ _ (s.extract 0 (ownN s)) _ _ _ _ _ _ (meB s (emD (eD s) c k d l)) _ ?_ ci ca cb cd v1 v2 cu cp cr w
  have e : (paB s (emD (eD s) c k d l)).size = (s.extract 0 (ownN s)).size + (meB s (emD (eD s) c k d l)).size := by unfold paB; rw [ByteArray.size_append]
  omega
theorem emOk : EmOk := ⟨fun s w hs _ => emInner_ s w hs, fun s a m b n c k d l w hs hc hd _ => emTranslate_ s a m b n c k d l w hs hc hd⟩
end Go.Proofs.YtbpicngbjggblaaGreatDoor
