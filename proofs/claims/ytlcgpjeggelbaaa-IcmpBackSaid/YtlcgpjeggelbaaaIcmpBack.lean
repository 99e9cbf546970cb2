/- The walk of IcmpBack. -/
import Derived.Test.YtlcgpjeggelbaaaIcmpM
import Derived.Test.YtlcgpjeggelbaaaIcmpQ
import Derived.Test.YtlcgpjeggelbaaaLead
namespace Go.Proofs.Ytlcgpjeggelbaaa.IcmpBack
set_option linter.unusedVariables false
set_option linter.unusedSimpArgs false
open Go.ChangeShapes Go.WideShapes Go.ChangeAt Go.RowKit Go.PlainAid
set_option maxRecDepth 100000 in
set_option maxHeartbeats 8000000 in
theorem walk_ (K : IcmpOk) (ty co su : Int) (r d s : ByteArray) (q : Int) (w : World) (hty : (Lit.int .u8 ty).wf = true) (hco : (Lit.int .u8 co).wf = true) (hsu : (Lit.int .u16 su).wf = true) (hr : r.size ≤ maxLen) (hd : d.size ≤ maxLen) (hs : s.size ≤ maxLen) (hq : (Lit.int .u16 q).wf = true) :
    Calls Try.prog 5 #[.agg #[.int .u8 ty, .int .u8 co, .int .u16 su, .string r, .string d], .string s, .int .u16 q] w fun e w' => e = .returned (.bool true) ∧ Below w.heap.size w w' := by
  obtain ⟨ty0, ty1⟩ := bounds_u8 hty
  obtain ⟨co0, co1⟩ := bounds_u8 hco
  obtain ⟨su0, su1⟩ := bounds_u16 hsu
  obtain ⟨q0, q1⟩ := bounds_u16 hq
  clear hty hco hsu hq hs hr hd
  by_cases h1 : 600 < s.size ∨ 600 < r.size ∨ 600 < d.size
  · have key : ∃ x y z : Bool, decide ((600 : Int) < (s.size : Int)) = x ∧ decide ((600 : Int) < (r.size : Int)) = y ∧ decide ((600 : Int) < (d.size : Int)) = z ∧ (x = true ∨ (x = false ∧ y = true) ∨ (x = false ∧ y = false ∧ z = true)) := by
      refine ⟨_, _, _, rfl, rfl, rfl, ?_⟩
      simp only [decide_eq_true_eq, decide_eq_false_iff_not]
      omega
    obtain ⟨x, y, z, k1, k2, k3, hk⟩ := key
    clear h1
    rcases hk with rfl | ⟨rfl, rfl⟩ | ⟨rfl, rfl, rfl⟩
    all_goals
      go_enter Try.func5, Try.ntmps5
      go_wp2_with fail
      refine (echoed_ K _).mono ?_; rintro e w1 ⟨rfl, x1⟩
      have B1 : Below w.heap.size w w1 := ((Below.refl _ _).alloc (Nat.le_refl _) _).trans (x1.mono (by simp))
      go_wp2
      go_ret
      exact ⟨rfl, B1⟩
  have e1 : decide ((600 : Int) < (s.size : Int)) = false := by simp; omega
  have e2 : decide ((600 : Int) < (r.size : Int)) = false := by simp; omega
  have e3 : decide ((600 : Int) < (d.size : Int)) = false := by simp; omega
  have kq := fun u => K.queries ty co su r d u ty0 ty1 co0 co1 su0 su1 (by omega) (by omega)
  have ke := fun u => K.errors ty co su r d u ty0 ty1 co0 co1 su0 su1 (by omega) (by omega)
  have k1 := fun u => K.puts ty co su r d u ty0 ty1 co0 co1 su0 su1 (by omega) (by omega)
  have k3 := fun u => K.parses s u (by omega)
  have hqe := qIs_er ty co
  generalize qAsk ty co = qa at *
  generalize qIs ty co = qi at *
  generalize erM ty = em at *
  by_cases hn : r.size = 4
  · have n1 : ((r.size : Int) == 4) = true := by simp; omega
    obtain ⟨p1, p2, p3, p4, p5, p6⟩ := icB_parts ty co su r d ty0 ty1 co0 co1 su0 su1 hn
    rw [icP_yes _ _ _ _ _ hn, show icE r.size = 0 by unfold icE; rw [if_pos hn]] at k1
    generalize icB ty co su r d = T at *
    have hT : mOk T = true := by unfold mOk; simp; omega
    obtain ⟨_, m1, m2, m3⟩ := mOk_yes hT
    have k2 := fun u => K.parses T u (by omega)
    rw [m1, m1, m1, m2, m3, hT, p2, p3, p4, p5, p6] at k2
    clear p1 p2 p3 p4 p5 p6 hT m1 m2 m3
    by_cases hi : 8 ≤ s.size
    · have i1 : decide ((8 : Int) ≤ (s.size : Int)) = true := by simp; omega
      have hT : mOk s = true := by unfold mOk; simp; omega
      obtain ⟨_, m1, m2, m3⟩ := mOk_yes hT
      rw [m1, m1, m1, m2, m3, hT] at k3
      have hp := icB_of s hi
      have z3 := size_extract' s 4 8 (by omega) hi
      have z4 := size_extract' s 8 s.size hi (Nat.le_refl _)
      have f0 := bt_nonneg s 0; have f1 := bt_le s 0; have f2 := bt_nonneg s 1; have f3 := bt_le s 1; have f4 := g16_nonneg s 2; have f5 := g16_le s 2
      generalize bt s 0 = v0 at *
      generalize bt s 1 = v1 at *
      generalize g16 s 2 = v2 at *
      generalize s.extract 4 8 = v3 at *
      generalize s.extract 8 s.size = v4 at *
      have k4 := fun u => K.puts v0 v1 v2 v3 v4 u f0 f1 f2 f3 f4 f5 (by omega) (by omega)
      rw [icP_yes _ _ _ _ _ (by omega), show icE v3.size = 0 by unfold icE; rw [if_pos (by omega)], hp] at k4
      have k7 := fun u => K.withs v0 v1 v2 v3 v4 q u f0 f1 f2 f3 f4 f5 (by omega) (by omega) q0 q1
      have w1 := wiM_id v3 q (by omega) q0 q1
      have w2 := wiM_back v3 q (by omega)
      have w3 := wiM_size v3 q
      generalize wiM v3 q = y3 at *
      have k8 := fun u => K.ids v0 v1 v2 y3 v4 u f0 f1 f2 f3 f4 f5 (by omega) (by omega)
      rw [w1] at k8
      have k9 := fun u => K.ids v0 v1 v2 v3 v4 u f0 f1 f2 f3 f4 f5 (by omega) (by omega)
      have k10 := fun u => K.withs v0 v1 v2 y3 v4 (idM v3) u f0 f1 f2 f3 f4 f5 (by omega) (by omega) (idM_bd v3).1 (idM_bd v3).2
      rw [w2] at k10
      generalize idM v3 = j at *
      clear hT m1 m2 m3 hp z3 z4 f0 f1 f2 f3 f4 f5 w1 w2 w3 hi
      cases qi
      rotate_left
      · rw [hqe rfl] at ke
        clear hqe h1 hn
        -- Rest of four bytes: True; a message: True; a query: True
        go_enter Try.func5, Try.ntmps5
        have B1 := Below.refl w.heap.size w
        go_wp2_with fail
        have A_2 := Box5.make w (.int .u8 ty) (.int .u8 co) (.int .u16 su) (.string r) (.string d) 24
        have B3 := B1.alloc B1.size (.cells #[.int .u8 ty, .int .u8 co, .int .u16 su, .string r, .string d] 24)
        clear B1
        obtain ⟨_, a1_0, a1_1, a1_2, a1_3, a1_4⟩ := id A_2
        refine (k1 _).mono ?_; rintro e w1 ⟨rfl, x1⟩
        have A_4 := A_2.on x1
        have B5 := B3.trans (x1.mono B3.size)
        clear a1_0 a1_1 a1_2 a1_3 a1_4 A_2 B3 x1
        clear k1
        obtain ⟨_, a2_0, a2_1, a2_2, a2_3, a2_4⟩ := id A_4
        go_wp2_with fail
        refine (k2 _).mono ?_; rintro e w2 ⟨rfl, x2⟩
        have A_6 := A_4.on x2
        have B7 := B5.trans (x2.mono B5.size)
        clear a2_0 a2_1 a2_2 a2_3 a2_4 A_4 B5 x2
        clear k2
        obtain ⟨_, a3_0, a3_1, a3_2, a3_3, a3_4⟩ := id A_6
        have A_8 := A_6.past (o := (.cells #[.int .u8 ty, .int .u8 co, .int .u16 su, .string r, .string d] 24))
        have N_9 := Box5.make w2 (.int .u8 ty) (.int .u8 co) (.int .u16 su) (.string r) (.string d) 24
        have B10 := B7.alloc B7.size (.cells #[.int .u8 ty, .int .u8 co, .int .u16 su, .string r, .string d] 24)
        clear A_6 B7
        obtain ⟨_, a4_0, a4_1, a4_2, a4_3, a4_4⟩ := id A_8
        obtain ⟨_, n5_0, n5_1, n5_2, n5_3, n5_4⟩ := id N_9
        go_wp2_with fail
        refine (k3 _).mono ?_; rintro e w3 ⟨rfl, x3⟩
        have A_11 := A_8.on x3
        have N_12 := N_9.on x3
        have B13 := B10.trans (x3.mono B10.size)
        clear a3_0 a3_1 a3_2 a3_3 a3_4 a4_0 a4_1 a4_2 a4_3 a4_4 n5_0 n5_1 n5_2 n5_3 n5_4 A_8 N_9 B10 x3
        clear k3
        clear N_12
        have A_14 := A_11.past (o := (.cells #[.int .u8 v0, .int .u8 v1, .int .u16 v2, .string v3, .string v4] 24))
        have X_15 := Box5.make w3 (.int .u8 v0) (.int .u8 v1) (.int .u16 v2) (.string v3) (.string v4) 24
        have B16 := B13.alloc B13.size (.cells #[.int .u8 v0, .int .u8 v1, .int .u16 v2, .string v3, .string v4] 24)
        clear A_11 B13
        obtain ⟨_, x6_0, x6_1, x6_2, x6_3, x6_4⟩ := id X_15
        go_wp2_with fail
        refine (k4 _).mono ?_; rintro e w4 ⟨rfl, x4⟩
        have A_17 := A_14.on x4
        have X_18 := X_15.on x4
        have B19 := B16.trans (x4.mono B16.size)
        clear x6_0 x6_1 x6_2 x6_3 x6_4 A_14 X_15 B16 x4
        clear k4
        obtain ⟨_, a7_0, a7_1, a7_2, a7_3, a7_4⟩ := id A_17
        go_wp2_with fail
        refine (kq _).mono ?_; rintro e w5 ⟨rfl, x5⟩
        have A_20 := A_17.on x5
        have X_21 := X_18.on x5
        have B22 := B19.trans (x5.mono B19.size)
        clear a7_0 a7_1 a7_2 a7_3 a7_4 A_17 X_18 B19 x5
        clear kq
        obtain ⟨_, a8_0, a8_1, a8_2, a8_3, a8_4⟩ := id A_20
        go_wp2_with fail
        refine (ke _).mono ?_; rintro e w6 ⟨rfl, x6⟩
        have A_23 := A_20.on x6
        have X_24 := X_21.on x6
        have B25 := B22.trans (x6.mono B22.size)
        clear a8_0 a8_1 a8_2 a8_3 a8_4 A_20 X_21 B22 x6
        clear ke
        obtain ⟨_, x9_0, x9_1, x9_2, x9_3, x9_4⟩ := id X_24
        go_wp2_with fail
        refine (k7 _).mono ?_; rintro e w7 ⟨rfl, x7⟩
        have A_26 := A_23.on x7
        have X_27 := X_24.on x7
        have B28 := B25.trans (x7.mono B25.size)
        clear x9_0 x9_1 x9_2 x9_3 x9_4 A_23 X_24 B25 x7
        clear k7
        have A_29 := A_26.past (o := (.cells #[.int .u8 v0, .int .u8 v1, .int .u16 v2, .string y3, .string v4] 24))
        have X_30 := X_27.past (o := (.cells #[.int .u8 v0, .int .u8 v1, .int .u16 v2, .string y3, .string v4] 24))
        have Y_31 := Box5.make w7 (.int .u8 v0) (.int .u8 v1) (.int .u16 v2) (.string y3) (.string v4) 24
        have B32 := B28.alloc B28.size (.cells #[.int .u8 v0, .int .u8 v1, .int .u16 v2, .string y3, .string v4] 24)
        clear A_26 X_27 B28
        go_wp2_with fail
        obtain ⟨zx, gx0, gx1, gx2, gx3, gx4⟩ := id X_30
        have Fx0 : ∀ x : Later (w7.alloc (.cells #[.int .u8 v0, .int .u8 v1, .int .u16 v2, .string y3, .string v4] 24)).heap.size (w7.alloc (.cells #[.int .u8 v0, .int .u8 v1, .int .u16 v2, .string y3, .string v4] 24)), x.u.cell? ⟨w3.heap.size, 0, none⟩ = some (.int .u8 v0) := fun x => x.block zx gx0
        have Fx1 : ∀ x : Later (w7.alloc (.cells #[.int .u8 v0, .int .u8 v1, .int .u16 v2, .string y3, .string v4] 24)).heap.size (w7.alloc (.cells #[.int .u8 v0, .int .u8 v1, .int .u16 v2, .string y3, .string v4] 24)), x.u.cell? ⟨w3.heap.size, 1, none⟩ = some (.int .u8 v1) := fun x => x.block zx gx1
        have Fx2 : ∀ x : Later (w7.alloc (.cells #[.int .u8 v0, .int .u8 v1, .int .u16 v2, .string y3, .string v4] 24)).heap.size (w7.alloc (.cells #[.int .u8 v0, .int .u8 v1, .int .u16 v2, .string y3, .string v4] 24)), x.u.cell? ⟨w3.heap.size, 2, none⟩ = some (.int .u16 v2) := fun x => x.block zx gx2
        have Fx3 : ∀ x : Later (w7.alloc (.cells #[.int .u8 v0, .int .u8 v1, .int .u16 v2, .string y3, .string v4] 24)).heap.size (w7.alloc (.cells #[.int .u8 v0, .int .u8 v1, .int .u16 v2, .string y3, .string v4] 24)), x.u.cell? ⟨w3.heap.size, 3, none⟩ = some (.string v3) := fun x => x.block zx gx3
        have Fx4 : ∀ x : Later (w7.alloc (.cells #[.int .u8 v0, .int .u8 v1, .int .u16 v2, .string y3, .string v4] 24)).heap.size (w7.alloc (.cells #[.int .u8 v0, .int .u8 v1, .int .u16 v2, .string y3, .string v4] 24)), x.u.cell? ⟨w3.heap.size, 4, none⟩ = some (.string v4) := fun x => x.block zx gx4
        clear gx0 gx1 gx2 gx3 gx4
        obtain ⟨zy, gy0, gy1, gy2, gy3, gy4⟩ := id Y_31
        have Fy0 : ∀ x : Later (w7.alloc (.cells #[.int .u8 v0, .int .u8 v1, .int .u16 v2, .string y3, .string v4] 24)).heap.size (w7.alloc (.cells #[.int .u8 v0, .int .u8 v1, .int .u16 v2, .string y3, .string v4] 24)), x.u.cell? ⟨w7.heap.size, 0, none⟩ = some (.int .u8 v0) := fun x => x.block zy gy0
        have Fy1 : ∀ x : Later (w7.alloc (.cells #[.int .u8 v0, .int .u8 v1, .int .u16 v2, .string y3, .string v4] 24)).heap.size (w7.alloc (.cells #[.int .u8 v0, .int .u8 v1, .int .u16 v2, .string y3, .string v4] 24)), x.u.cell? ⟨w7.heap.size, 1, none⟩ = some (.int .u8 v1) := fun x => x.block zy gy1
        have Fy2 : ∀ x : Later (w7.alloc (.cells #[.int .u8 v0, .int .u8 v1, .int .u16 v2, .string y3, .string v4] 24)).heap.size (w7.alloc (.cells #[.int .u8 v0, .int .u8 v1, .int .u16 v2, .string y3, .string v4] 24)), x.u.cell? ⟨w7.heap.size, 2, none⟩ = some (.int .u16 v2) := fun x => x.block zy gy2
        have Fy3 : ∀ x : Later (w7.alloc (.cells #[.int .u8 v0, .int .u8 v1, .int .u16 v2, .string y3, .string v4] 24)).heap.size (w7.alloc (.cells #[.int .u8 v0, .int .u8 v1, .int .u16 v2, .string y3, .string v4] 24)), x.u.cell? ⟨w7.heap.size, 3, none⟩ = some (.string y3) := fun x => x.block zy gy3
        have Fy4 : ∀ x : Later (w7.alloc (.cells #[.int .u8 v0, .int .u8 v1, .int .u16 v2, .string y3, .string v4] 24)).heap.size (w7.alloc (.cells #[.int .u8 v0, .int .u8 v1, .int .u16 v2, .string y3, .string v4] 24)), x.u.cell? ⟨w7.heap.size, 4, none⟩ = some (.string v4) := fun x => x.block zy gy4
        clear gy0 gy1 gy2 gy3 gy4
        refine region_later (B := (w7.alloc (.cells #[.int .u8 v0, .int .u8 v1, .int .u16 v2, .string y3, .string v4] 24)).heap.size) (by kernel_rfl) (by kernel_rfl) ?_
        repeat (go_big_quiet_step (first
          | (go_at_call_of 16 y3; exact later_of _ (Nat.le_refl _) (k8 _))
          | (go_at_call_of 16 v3; exact later_of _ (Nat.le_refl _) (k9 _))
          | (go_at_call 18; exact later_of _ (Nat.le_refl _) (k10 _))
          | (go_at_call 7; exact later_of _ (Nat.le_refl _) (echoed_ K _))))
        refine later_end fun w8 x8 => ?_
        have A_33 := A_29.on x8
        have X_34 := X_30.on x8
        have Y_35 := Y_31.on x8
        have B36 := B32.trans (x8.mono B32.size)
        clear Fx0 Fx1 Fx2 Fx3 Fx4 zx Fy0 Fy1 Fy2 Fy3 Fy4 zy A_29 X_30 Y_31 B32 x8
        go_wp2
        go_ret
        exact ⟨rfl, B36⟩
      · clear hqe ke h1 hn
        -- Rest of four bytes: True; a message: True; a query: False
        go_enter Try.func5, Try.ntmps5
        have B1 := Below.refl w.heap.size w
        go_wp2_with fail
        have A_2 := Box5.make w (.int .u8 ty) (.int .u8 co) (.int .u16 su) (.string r) (.string d) 24
        have B3 := B1.alloc B1.size (.cells #[.int .u8 ty, .int .u8 co, .int .u16 su, .string r, .string d] 24)
        clear B1
        obtain ⟨_, a1_0, a1_1, a1_2, a1_3, a1_4⟩ := id A_2
        refine (k1 _).mono ?_; rintro e w1 ⟨rfl, x1⟩
        have A_4 := A_2.on x1
        have B5 := B3.trans (x1.mono B3.size)
        clear a1_0 a1_1 a1_2 a1_3 a1_4 A_2 B3 x1
        clear k1
        obtain ⟨_, a2_0, a2_1, a2_2, a2_3, a2_4⟩ := id A_4
        go_wp2_with fail
        refine (k2 _).mono ?_; rintro e w2 ⟨rfl, x2⟩
        have A_6 := A_4.on x2
        have B7 := B5.trans (x2.mono B5.size)
        clear a2_0 a2_1 a2_2 a2_3 a2_4 A_4 B5 x2
        clear k2
        obtain ⟨_, a3_0, a3_1, a3_2, a3_3, a3_4⟩ := id A_6
        have A_8 := A_6.past (o := (.cells #[.int .u8 ty, .int .u8 co, .int .u16 su, .string r, .string d] 24))
        have N_9 := Box5.make w2 (.int .u8 ty) (.int .u8 co) (.int .u16 su) (.string r) (.string d) 24
        have B10 := B7.alloc B7.size (.cells #[.int .u8 ty, .int .u8 co, .int .u16 su, .string r, .string d] 24)
        clear A_6 B7
        obtain ⟨_, a4_0, a4_1, a4_2, a4_3, a4_4⟩ := id A_8
        obtain ⟨_, n5_0, n5_1, n5_2, n5_3, n5_4⟩ := id N_9
        go_wp2_with fail
        refine (k3 _).mono ?_; rintro e w3 ⟨rfl, x3⟩
        have A_11 := A_8.on x3
        have N_12 := N_9.on x3
        have B13 := B10.trans (x3.mono B10.size)
        clear a3_0 a3_1 a3_2 a3_3 a3_4 a4_0 a4_1 a4_2 a4_3 a4_4 n5_0 n5_1 n5_2 n5_3 n5_4 A_8 N_9 B10 x3
        clear k3
        clear N_12
        have A_14 := A_11.past (o := (.cells #[.int .u8 v0, .int .u8 v1, .int .u16 v2, .string v3, .string v4] 24))
        have X_15 := Box5.make w3 (.int .u8 v0) (.int .u8 v1) (.int .u16 v2) (.string v3) (.string v4) 24
        have B16 := B13.alloc B13.size (.cells #[.int .u8 v0, .int .u8 v1, .int .u16 v2, .string v3, .string v4] 24)
        clear A_11 B13
        obtain ⟨_, x6_0, x6_1, x6_2, x6_3, x6_4⟩ := id X_15
        go_wp2_with fail
        refine (k4 _).mono ?_; rintro e w4 ⟨rfl, x4⟩
        have A_17 := A_14.on x4
        have X_18 := X_15.on x4
        have B19 := B16.trans (x4.mono B16.size)
        clear x6_0 x6_1 x6_2 x6_3 x6_4 A_14 X_15 B16 x4
        clear k4
        obtain ⟨_, a7_0, a7_1, a7_2, a7_3, a7_4⟩ := id A_17
        go_wp2_with fail
        refine (kq _).mono ?_; rintro e w5 ⟨rfl, x5⟩
        have A_20 := A_17.on x5
        have X_21 := X_18.on x5
        have B22 := B19.trans (x5.mono B19.size)
        clear a7_0 a7_1 a7_2 a7_3 a7_4 A_17 X_18 B19 x5
        clear kq
        obtain ⟨_, x8_0, x8_1, x8_2, x8_3, x8_4⟩ := id X_21
        go_wp2_with fail
        refine (k7 _).mono ?_; rintro e w6 ⟨rfl, x6⟩
        have A_23 := A_20.on x6
        have X_24 := X_21.on x6
        have B25 := B22.trans (x6.mono B22.size)
        clear x8_0 x8_1 x8_2 x8_3 x8_4 A_20 X_21 B22 x6
        clear k7
        have A_26 := A_23.past (o := (.cells #[.int .u8 v0, .int .u8 v1, .int .u16 v2, .string y3, .string v4] 24))
        have X_27 := X_24.past (o := (.cells #[.int .u8 v0, .int .u8 v1, .int .u16 v2, .string y3, .string v4] 24))
        have Y_28 := Box5.make w6 (.int .u8 v0) (.int .u8 v1) (.int .u16 v2) (.string y3) (.string v4) 24
        have B29 := B25.alloc B25.size (.cells #[.int .u8 v0, .int .u8 v1, .int .u16 v2, .string y3, .string v4] 24)
        clear A_23 X_24 B25
        go_wp2_with fail
        obtain ⟨zx, gx0, gx1, gx2, gx3, gx4⟩ := id X_27
        have Fx0 : ∀ x : Later (w6.alloc (.cells #[.int .u8 v0, .int .u8 v1, .int .u16 v2, .string y3, .string v4] 24)).heap.size (w6.alloc (.cells #[.int .u8 v0, .int .u8 v1, .int .u16 v2, .string y3, .string v4] 24)), x.u.cell? ⟨w3.heap.size, 0, none⟩ = some (.int .u8 v0) := fun x => x.block zx gx0
        have Fx1 : ∀ x : Later (w6.alloc (.cells #[.int .u8 v0, .int .u8 v1, .int .u16 v2, .string y3, .string v4] 24)).heap.size (w6.alloc (.cells #[.int .u8 v0, .int .u8 v1, .int .u16 v2, .string y3, .string v4] 24)), x.u.cell? ⟨w3.heap.size, 1, none⟩ = some (.int .u8 v1) := fun x => x.block zx gx1
        have Fx2 : ∀ x : Later (w6.alloc (.cells #[.int .u8 v0, .int .u8 v1, .int .u16 v2, .string y3, .string v4] 24)).heap.size (w6.alloc (.cells #[.int .u8 v0, .int .u8 v1, .int .u16 v2, .string y3, .string v4] 24)), x.u.cell? ⟨w3.heap.size, 2, none⟩ = some (.int .u16 v2) := fun x => x.block zx gx2
        have Fx3 : ∀ x : Later (w6.alloc (.cells #[.int .u8 v0, .int .u8 v1, .int .u16 v2, .string y3, .string v4] 24)).heap.size (w6.alloc (.cells #[.int .u8 v0, .int .u8 v1, .int .u16 v2, .string y3, .string v4] 24)), x.u.cell? ⟨w3.heap.size, 3, none⟩ = some (.string v3) := fun x => x.block zx gx3
        have Fx4 : ∀ x : Later (w6.alloc (.cells #[.int .u8 v0, .int .u8 v1, .int .u16 v2, .string y3, .string v4] 24)).heap.size (w6.alloc (.cells #[.int .u8 v0, .int .u8 v1, .int .u16 v2, .string y3, .string v4] 24)), x.u.cell? ⟨w3.heap.size, 4, none⟩ = some (.string v4) := fun x => x.block zx gx4
        clear gx0 gx1 gx2 gx3 gx4
        obtain ⟨zy, gy0, gy1, gy2, gy3, gy4⟩ := id Y_28
        have Fy0 : ∀ x : Later (w6.alloc (.cells #[.int .u8 v0, .int .u8 v1, .int .u16 v2, .string y3, .string v4] 24)).heap.size (w6.alloc (.cells #[.int .u8 v0, .int .u8 v1, .int .u16 v2, .string y3, .string v4] 24)), x.u.cell? ⟨w6.heap.size, 0, none⟩ = some (.int .u8 v0) := fun x => x.block zy gy0
        have Fy1 : ∀ x : Later (w6.alloc (.cells #[.int .u8 v0, .int .u8 v1, .int .u16 v2, .string y3, .string v4] 24)).heap.size (w6.alloc (.cells #[.int .u8 v0, .int .u8 v1, .int .u16 v2, .string y3, .string v4] 24)), x.u.cell? ⟨w6.heap.size, 1, none⟩ = some (.int .u8 v1) := fun x => x.block zy gy1
        have Fy2 : ∀ x : Later (w6.alloc (.cells #[.int .u8 v0, .int .u8 v1, .int .u16 v2, .string y3, .string v4] 24)).heap.size (w6.alloc (.cells #[.int .u8 v0, .int .u8 v1, .int .u16 v2, .string y3, .string v4] 24)), x.u.cell? ⟨w6.heap.size, 2, none⟩ = some (.int .u16 v2) := fun x => x.block zy gy2
        have Fy3 : ∀ x : Later (w6.alloc (.cells #[.int .u8 v0, .int .u8 v1, .int .u16 v2, .string y3, .string v4] 24)).heap.size (w6.alloc (.cells #[.int .u8 v0, .int .u8 v1, .int .u16 v2, .string y3, .string v4] 24)), x.u.cell? ⟨w6.heap.size, 3, none⟩ = some (.string y3) := fun x => x.block zy gy3
        have Fy4 : ∀ x : Later (w6.alloc (.cells #[.int .u8 v0, .int .u8 v1, .int .u16 v2, .string y3, .string v4] 24)).heap.size (w6.alloc (.cells #[.int .u8 v0, .int .u8 v1, .int .u16 v2, .string y3, .string v4] 24)), x.u.cell? ⟨w6.heap.size, 4, none⟩ = some (.string v4) := fun x => x.block zy gy4
        clear gy0 gy1 gy2 gy3 gy4
        refine region_later (B := (w6.alloc (.cells #[.int .u8 v0, .int .u8 v1, .int .u16 v2, .string y3, .string v4] 24)).heap.size) (by kernel_rfl) (by kernel_rfl) ?_
        repeat (go_big_quiet_step (first
          | (go_at_call_of 16 y3; exact later_of _ (Nat.le_refl _) (k8 _))
          | (go_at_call_of 16 v3; exact later_of _ (Nat.le_refl _) (k9 _))
          | (go_at_call 18; exact later_of _ (Nat.le_refl _) (k10 _))
          | (go_at_call 7; exact later_of _ (Nat.le_refl _) (echoed_ K _))))
        refine later_end fun w7 x7 => ?_
        have A_30 := A_26.on x7
        have X_31 := X_27.on x7
        have Y_32 := Y_28.on x7
        have B33 := B29.trans (x7.mono B29.size)
        clear Fx0 Fx1 Fx2 Fx3 Fx4 zx Fy0 Fy1 Fy2 Fy3 Fy4 zy A_26 X_27 Y_28 B29 x7
        go_wp2
        go_ret
        exact ⟨rfl, B33⟩
    · have i1 : decide ((8 : Int) ≤ (s.size : Int)) = false := by simp; omega
      have hT : mOk s = false := by unfold mOk; simp; omega
      obtain ⟨m1, m2, m3⟩ := mOk_no hT
      rw [m1, m1, m1, m2, m3, hT] at k3
      have k4 := fun u => K.puts 0 0 0 ⟨#[]⟩ ⟨#[]⟩ u (by omega) (by omega) (by omega) (by omega) (by omega) (by omega) (by decide) (by decide)
      rw [icP_no _ _ _ _ _ (by decide), show icE (⟨#[]⟩ : ByteArray).size = 2 by decide] at k4
      have k7 := fun u => K.withs 0 0 0 ⟨#[]⟩ ⟨#[]⟩ q u (by omega) (by omega) (by omega) (by omega) (by omega) (by omega) (by decide) (by decide) q0 q1
      rw [show wiM ⟨#[]⟩ q = ⟨#[]⟩ by unfold wiM; rw [if_neg (by decide)]] at k7
      clear hT m1 m2 m3 hi
      cases qi
      rotate_left
      · rw [hqe rfl] at ke
        clear hqe h1 hn
        -- Rest of four bytes: True; a message: False; a query: True
        go_enter Try.func5, Try.ntmps5
        have B1 := Below.refl w.heap.size w
        go_wp2_with fail
        have A_2 := Box5.make w (.int .u8 ty) (.int .u8 co) (.int .u16 su) (.string r) (.string d) 24
        have B3 := B1.alloc B1.size (.cells #[.int .u8 ty, .int .u8 co, .int .u16 su, .string r, .string d] 24)
        clear B1
        obtain ⟨_, a1_0, a1_1, a1_2, a1_3, a1_4⟩ := id A_2
        refine (k1 _).mono ?_; rintro e w1 ⟨rfl, x1⟩
        have A_4 := A_2.on x1
        have B5 := B3.trans (x1.mono B3.size)
        clear a1_0 a1_1 a1_2 a1_3 a1_4 A_2 B3 x1
        clear k1
        obtain ⟨_, a2_0, a2_1, a2_2, a2_3, a2_4⟩ := id A_4
        go_wp2_with fail
        refine (k2 _).mono ?_; rintro e w2 ⟨rfl, x2⟩
        have A_6 := A_4.on x2
        have B7 := B5.trans (x2.mono B5.size)
        clear a2_0 a2_1 a2_2 a2_3 a2_4 A_4 B5 x2
        clear k2
        obtain ⟨_, a3_0, a3_1, a3_2, a3_3, a3_4⟩ := id A_6
        have A_8 := A_6.past (o := (.cells #[.int .u8 ty, .int .u8 co, .int .u16 su, .string r, .string d] 24))
        have N_9 := Box5.make w2 (.int .u8 ty) (.int .u8 co) (.int .u16 su) (.string r) (.string d) 24
        have B10 := B7.alloc B7.size (.cells #[.int .u8 ty, .int .u8 co, .int .u16 su, .string r, .string d] 24)
        clear A_6 B7
        obtain ⟨_, a4_0, a4_1, a4_2, a4_3, a4_4⟩ := id A_8
        obtain ⟨_, n5_0, n5_1, n5_2, n5_3, n5_4⟩ := id N_9
        go_wp2_with fail
        refine (k3 _).mono ?_; rintro e w3 ⟨rfl, x3⟩
        have A_11 := A_8.on x3
        have N_12 := N_9.on x3
        have B13 := B10.trans (x3.mono B10.size)
        clear a3_0 a3_1 a3_2 a3_3 a3_4 a4_0 a4_1 a4_2 a4_3 a4_4 n5_0 n5_1 n5_2 n5_3 n5_4 A_8 N_9 B10 x3
        clear k3
        clear N_12
        have A_14 := A_11.past (o := (.cells #[.int .u8 0, .int .u8 0, .int .u16 0, .string ⟨#[]⟩, .string ⟨#[]⟩] 24))
        have X_15 := Box5.make w3 (.int .u8 0) (.int .u8 0) (.int .u16 0) (.string ⟨#[]⟩) (.string ⟨#[]⟩) 24
        have B16 := B13.alloc B13.size (.cells #[.int .u8 0, .int .u8 0, .int .u16 0, .string ⟨#[]⟩, .string ⟨#[]⟩] 24)
        clear A_11 B13
        obtain ⟨_, x6_0, x6_1, x6_2, x6_3, x6_4⟩ := id X_15
        go_wp2_with fail
        refine (k4 _).mono ?_; rintro e w4 ⟨rfl, x4⟩
        have A_17 := A_14.on x4
        have X_18 := X_15.on x4
        have B19 := B16.trans (x4.mono B16.size)
        clear x6_0 x6_1 x6_2 x6_3 x6_4 A_14 X_15 B16 x4
        clear k4
        obtain ⟨_, a7_0, a7_1, a7_2, a7_3, a7_4⟩ := id A_17
        go_wp2_with fail
        refine (kq _).mono ?_; rintro e w5 ⟨rfl, x5⟩
        have A_20 := A_17.on x5
        have X_21 := X_18.on x5
        have B22 := B19.trans (x5.mono B19.size)
        clear a7_0 a7_1 a7_2 a7_3 a7_4 A_17 X_18 B19 x5
        clear kq
        obtain ⟨_, a8_0, a8_1, a8_2, a8_3, a8_4⟩ := id A_20
        go_wp2_with fail
        refine (ke _).mono ?_; rintro e w6 ⟨rfl, x6⟩
        have A_23 := A_20.on x6
        have X_24 := X_21.on x6
        have B25 := B22.trans (x6.mono B22.size)
        clear a8_0 a8_1 a8_2 a8_3 a8_4 A_20 X_21 B22 x6
        clear ke
        obtain ⟨_, x9_0, x9_1, x9_2, x9_3, x9_4⟩ := id X_24
        go_wp2_with fail
        refine (k7 _).mono ?_; rintro e w7 ⟨rfl, x7⟩
        have A_26 := A_23.on x7
        have X_27 := X_24.on x7
        have B28 := B25.trans (x7.mono B25.size)
        clear x9_0 x9_1 x9_2 x9_3 x9_4 A_23 X_24 B25 x7
        clear k7
        have A_29 := A_26.past (o := (.cells #[.int .u8 0, .int .u8 0, .int .u16 0, .string ⟨#[]⟩, .string ⟨#[]⟩] 24))
        have X_30 := X_27.past (o := (.cells #[.int .u8 0, .int .u8 0, .int .u16 0, .string ⟨#[]⟩, .string ⟨#[]⟩] 24))
        have Y_31 := Box5.make w7 (.int .u8 0) (.int .u8 0) (.int .u16 0) (.string ⟨#[]⟩) (.string ⟨#[]⟩) 24
        have B32 := B28.alloc B28.size (.cells #[.int .u8 0, .int .u8 0, .int .u16 0, .string ⟨#[]⟩, .string ⟨#[]⟩] 24)
        clear A_26 X_27 B28
        go_wp2_with fail
        refine region_later (B := (w7.alloc (.cells #[.int .u8 0, .int .u8 0, .int .u16 0, .string ⟨#[]⟩, .string ⟨#[]⟩] 24)).heap.size) (by kernel_rfl) (by kernel_rfl) ?_
        repeat (go_big_quiet_step (first
          | (go_at_call 7; exact later_of _ (Nat.le_refl _) (echoed_ K _))))
        refine later_end fun w8 x8 => ?_
        have A_33 := A_29.on x8
        have X_34 := X_30.on x8
        have Y_35 := Y_31.on x8
        have B36 := B32.trans (x8.mono B32.size)
        clear A_29 X_30 Y_31 B32 x8
        go_wp2
        go_ret
        exact ⟨rfl, B36⟩
      · clear hqe ke h1 hn
        -- Rest of four bytes: True; a message: False; a query: False
        go_enter Try.func5, Try.ntmps5
        have B1 := Below.refl w.heap.size w
        go_wp2_with fail
        have A_2 := Box5.make w (.int .u8 ty) (.int .u8 co) (.int .u16 su) (.string r) (.string d) 24
        have B3 := B1.alloc B1.size (.cells #[.int .u8 ty, .int .u8 co, .int .u16 su, .string r, .string d] 24)
        clear B1
        obtain ⟨_, a1_0, a1_1, a1_2, a1_3, a1_4⟩ := id A_2
        refine (k1 _).mono ?_; rintro e w1 ⟨rfl, x1⟩
        have A_4 := A_2.on x1
        have B5 := B3.trans (x1.mono B3.size)
        clear a1_0 a1_1 a1_2 a1_3 a1_4 A_2 B3 x1
        clear k1
        obtain ⟨_, a2_0, a2_1, a2_2, a2_3, a2_4⟩ := id A_4
        go_wp2_with fail
        refine (k2 _).mono ?_; rintro e w2 ⟨rfl, x2⟩
        have A_6 := A_4.on x2
        have B7 := B5.trans (x2.mono B5.size)
        clear a2_0 a2_1 a2_2 a2_3 a2_4 A_4 B5 x2
        clear k2
        obtain ⟨_, a3_0, a3_1, a3_2, a3_3, a3_4⟩ := id A_6
        have A_8 := A_6.past (o := (.cells #[.int .u8 ty, .int .u8 co, .int .u16 su, .string r, .string d] 24))
        have N_9 := Box5.make w2 (.int .u8 ty) (.int .u8 co) (.int .u16 su) (.string r) (.string d) 24
        have B10 := B7.alloc B7.size (.cells #[.int .u8 ty, .int .u8 co, .int .u16 su, .string r, .string d] 24)
        clear A_6 B7
        obtain ⟨_, a4_0, a4_1, a4_2, a4_3, a4_4⟩ := id A_8
        obtain ⟨_, n5_0, n5_1, n5_2, n5_3, n5_4⟩ := id N_9
        go_wp2_with fail
        refine (k3 _).mono ?_; rintro e w3 ⟨rfl, x3⟩
        have A_11 := A_8.on x3
        have N_12 := N_9.on x3
        have B13 := B10.trans (x3.mono B10.size)
        clear a3_0 a3_1 a3_2 a3_3 a3_4 a4_0 a4_1 a4_2 a4_3 a4_4 n5_0 n5_1 n5_2 n5_3 n5_4 A_8 N_9 B10 x3
        clear k3
        clear N_12
        have A_14 := A_11.past (o := (.cells #[.int .u8 0, .int .u8 0, .int .u16 0, .string ⟨#[]⟩, .string ⟨#[]⟩] 24))
        have X_15 := Box5.make w3 (.int .u8 0) (.int .u8 0) (.int .u16 0) (.string ⟨#[]⟩) (.string ⟨#[]⟩) 24
        have B16 := B13.alloc B13.size (.cells #[.int .u8 0, .int .u8 0, .int .u16 0, .string ⟨#[]⟩, .string ⟨#[]⟩] 24)
        clear A_11 B13
        obtain ⟨_, x6_0, x6_1, x6_2, x6_3, x6_4⟩ := id X_15
        go_wp2_with fail
        refine (k4 _).mono ?_; rintro e w4 ⟨rfl, x4⟩
        have A_17 := A_14.on x4
        have X_18 := X_15.on x4
        have B19 := B16.trans (x4.mono B16.size)
        clear x6_0 x6_1 x6_2 x6_3 x6_4 A_14 X_15 B16 x4
        clear k4
        obtain ⟨_, a7_0, a7_1, a7_2, a7_3, a7_4⟩ := id A_17
        go_wp2_with fail
        refine (kq _).mono ?_; rintro e w5 ⟨rfl, x5⟩
        have A_20 := A_17.on x5
        have X_21 := X_18.on x5
        have B22 := B19.trans (x5.mono B19.size)
        clear a7_0 a7_1 a7_2 a7_3 a7_4 A_17 X_18 B19 x5
        clear kq
        obtain ⟨_, x8_0, x8_1, x8_2, x8_3, x8_4⟩ := id X_21
        go_wp2_with fail
        refine (k7 _).mono ?_; rintro e w6 ⟨rfl, x6⟩
        have A_23 := A_20.on x6
        have X_24 := X_21.on x6
        have B25 := B22.trans (x6.mono B22.size)
        clear x8_0 x8_1 x8_2 x8_3 x8_4 A_20 X_21 B22 x6
        clear k7
        have A_26 := A_23.past (o := (.cells #[.int .u8 0, .int .u8 0, .int .u16 0, .string ⟨#[]⟩, .string ⟨#[]⟩] 24))
        have X_27 := X_24.past (o := (.cells #[.int .u8 0, .int .u8 0, .int .u16 0, .string ⟨#[]⟩, .string ⟨#[]⟩] 24))
        have Y_28 := Box5.make w6 (.int .u8 0) (.int .u8 0) (.int .u16 0) (.string ⟨#[]⟩) (.string ⟨#[]⟩) 24
        have B29 := B25.alloc B25.size (.cells #[.int .u8 0, .int .u8 0, .int .u16 0, .string ⟨#[]⟩, .string ⟨#[]⟩] 24)
        clear A_23 X_24 B25
        go_wp2_with fail
        refine region_later (B := (w6.alloc (.cells #[.int .u8 0, .int .u8 0, .int .u16 0, .string ⟨#[]⟩, .string ⟨#[]⟩] 24)).heap.size) (by kernel_rfl) (by kernel_rfl) ?_
        repeat (go_big_quiet_step (first
          | (go_at_call 7; exact later_of _ (Nat.le_refl _) (echoed_ K _))))
        refine later_end fun w7 x7 => ?_
        have A_30 := A_26.on x7
        have X_31 := X_27.on x7
        have Y_32 := Y_28.on x7
        have B33 := B29.trans (x7.mono B29.size)
        clear A_26 X_27 Y_28 B29 x7
        go_wp2
        go_ret
        exact ⟨rfl, B33⟩
  · have n1 : ((r.size : Int) == 4) = false := by simp; omega
    rw [icP_no _ _ _ _ _ hn, show icE r.size = 2 by unfold icE; rw [if_neg hn]] at k1
    have k2 := fun u => K.parses ⟨#[]⟩ u (by decide)
    obtain ⟨m1, m2, m3⟩ := mOk_no (s := ⟨#[]⟩) (by decide)
    rw [m1, m1, m1, m2, m3, show mOk ⟨#[]⟩ = false by decide] at k2
    clear m1 m2 m3
    by_cases hi : 8 ≤ s.size
    · have i1 : decide ((8 : Int) ≤ (s.size : Int)) = true := by simp; omega
      have hT : mOk s = true := by unfold mOk; simp; omega
      obtain ⟨_, m1, m2, m3⟩ := mOk_yes hT
      rw [m1, m1, m1, m2, m3, hT] at k3
      have hp := icB_of s hi
      have z3 := size_extract' s 4 8 (by omega) hi
      have z4 := size_extract' s 8 s.size hi (Nat.le_refl _)
      have f0 := bt_nonneg s 0; have f1 := bt_le s 0; have f2 := bt_nonneg s 1; have f3 := bt_le s 1; have f4 := g16_nonneg s 2; have f5 := g16_le s 2
      generalize bt s 0 = v0 at *
      generalize bt s 1 = v1 at *
      generalize g16 s 2 = v2 at *
      generalize s.extract 4 8 = v3 at *
      generalize s.extract 8 s.size = v4 at *
      have k4 := fun u => K.puts v0 v1 v2 v3 v4 u f0 f1 f2 f3 f4 f5 (by omega) (by omega)
      rw [icP_yes _ _ _ _ _ (by omega), show icE v3.size = 0 by unfold icE; rw [if_pos (by omega)], hp] at k4
      have k7 := fun u => K.withs v0 v1 v2 v3 v4 q u f0 f1 f2 f3 f4 f5 (by omega) (by omega) q0 q1
      have w1 := wiM_id v3 q (by omega) q0 q1
      have w2 := wiM_back v3 q (by omega)
      have w3 := wiM_size v3 q
      generalize wiM v3 q = y3 at *
      have k8 := fun u => K.ids v0 v1 v2 y3 v4 u f0 f1 f2 f3 f4 f5 (by omega) (by omega)
      rw [w1] at k8
      have k9 := fun u => K.ids v0 v1 v2 v3 v4 u f0 f1 f2 f3 f4 f5 (by omega) (by omega)
      have k10 := fun u => K.withs v0 v1 v2 y3 v4 (idM v3) u f0 f1 f2 f3 f4 f5 (by omega) (by omega) (idM_bd v3).1 (idM_bd v3).2
      rw [w2] at k10
      generalize idM v3 = j at *
      clear hT m1 m2 m3 hp z3 z4 f0 f1 f2 f3 f4 f5 w1 w2 w3 hi
      cases qi
      rotate_left
      · rw [hqe rfl] at ke
        clear hqe h1 hn
        -- Rest of four bytes: False; a message: True; a query: True
        go_enter Try.func5, Try.ntmps5
        have B1 := Below.refl w.heap.size w
        go_wp2_with fail
        have A_2 := Box5.make w (.int .u8 ty) (.int .u8 co) (.int .u16 su) (.string r) (.string d) 24
        have B3 := B1.alloc B1.size (.cells #[.int .u8 ty, .int .u8 co, .int .u16 su, .string r, .string d] 24)
        clear B1
        obtain ⟨_, a1_0, a1_1, a1_2, a1_3, a1_4⟩ := id A_2
        refine (k1 _).mono ?_; rintro e w1 ⟨rfl, x1⟩
        have A_4 := A_2.on x1
        have B5 := B3.trans (x1.mono B3.size)
        clear a1_0 a1_1 a1_2 a1_3 a1_4 A_2 B3 x1
        clear k1
        obtain ⟨_, a2_0, a2_1, a2_2, a2_3, a2_4⟩ := id A_4
        go_wp2_with fail
        refine (k2 _).mono ?_; rintro e w2 ⟨rfl, x2⟩
        have A_6 := A_4.on x2
        have B7 := B5.trans (x2.mono B5.size)
        clear a2_0 a2_1 a2_2 a2_3 a2_4 A_4 B5 x2
        clear k2
        obtain ⟨_, a3_0, a3_1, a3_2, a3_3, a3_4⟩ := id A_6
        have A_8 := A_6.past (o := (.cells #[.int .u8 0, .int .u8 0, .int .u16 0, .string ⟨#[]⟩, .string ⟨#[]⟩] 24))
        have N_9 := Box5.make w2 (.int .u8 0) (.int .u8 0) (.int .u16 0) (.string ⟨#[]⟩) (.string ⟨#[]⟩) 24
        have B10 := B7.alloc B7.size (.cells #[.int .u8 0, .int .u8 0, .int .u16 0, .string ⟨#[]⟩, .string ⟨#[]⟩] 24)
        clear A_6 B7
        obtain ⟨_, a4_0, a4_1, a4_2, a4_3, a4_4⟩ := id A_8
        obtain ⟨_, n5_0, n5_1, n5_2, n5_3, n5_4⟩ := id N_9
        go_wp2_with fail
        refine (k3 _).mono ?_; rintro e w3 ⟨rfl, x3⟩
        have A_11 := A_8.on x3
        have N_12 := N_9.on x3
        have B13 := B10.trans (x3.mono B10.size)
        clear a3_0 a3_1 a3_2 a3_3 a3_4 a4_0 a4_1 a4_2 a4_3 a4_4 n5_0 n5_1 n5_2 n5_3 n5_4 A_8 N_9 B10 x3
        clear k3
        clear N_12
        have A_14 := A_11.past (o := (.cells #[.int .u8 v0, .int .u8 v1, .int .u16 v2, .string v3, .string v4] 24))
        have X_15 := Box5.make w3 (.int .u8 v0) (.int .u8 v1) (.int .u16 v2) (.string v3) (.string v4) 24
        have B16 := B13.alloc B13.size (.cells #[.int .u8 v0, .int .u8 v1, .int .u16 v2, .string v3, .string v4] 24)
        clear A_11 B13
        obtain ⟨_, x6_0, x6_1, x6_2, x6_3, x6_4⟩ := id X_15
        go_wp2_with fail
        refine (k4 _).mono ?_; rintro e w4 ⟨rfl, x4⟩
        have A_17 := A_14.on x4
        have X_18 := X_15.on x4
        have B19 := B16.trans (x4.mono B16.size)
        clear x6_0 x6_1 x6_2 x6_3 x6_4 A_14 X_15 B16 x4
        clear k4
        obtain ⟨_, a7_0, a7_1, a7_2, a7_3, a7_4⟩ := id A_17
        go_wp2_with fail
        refine (kq _).mono ?_; rintro e w5 ⟨rfl, x5⟩
        have A_20 := A_17.on x5
        have X_21 := X_18.on x5
        have B22 := B19.trans (x5.mono B19.size)
        clear a7_0 a7_1 a7_2 a7_3 a7_4 A_17 X_18 B19 x5
        clear kq
        obtain ⟨_, a8_0, a8_1, a8_2, a8_3, a8_4⟩ := id A_20
        go_wp2_with fail
        refine (ke _).mono ?_; rintro e w6 ⟨rfl, x6⟩
        have A_23 := A_20.on x6
        have X_24 := X_21.on x6
        have B25 := B22.trans (x6.mono B22.size)
        clear a8_0 a8_1 a8_2 a8_3 a8_4 A_20 X_21 B22 x6
        clear ke
        obtain ⟨_, x9_0, x9_1, x9_2, x9_3, x9_4⟩ := id X_24
        go_wp2_with fail
        refine (k7 _).mono ?_; rintro e w7 ⟨rfl, x7⟩
        have A_26 := A_23.on x7
        have X_27 := X_24.on x7
        have B28 := B25.trans (x7.mono B25.size)
        clear x9_0 x9_1 x9_2 x9_3 x9_4 A_23 X_24 B25 x7
        clear k7
        have A_29 := A_26.past (o := (.cells #[.int .u8 v0, .int .u8 v1, .int .u16 v2, .string y3, .string v4] 24))
        have X_30 := X_27.past (o := (.cells #[.int .u8 v0, .int .u8 v1, .int .u16 v2, .string y3, .string v4] 24))
        have Y_31 := Box5.make w7 (.int .u8 v0) (.int .u8 v1) (.int .u16 v2) (.string y3) (.string v4) 24
        have B32 := B28.alloc B28.size (.cells #[.int .u8 v0, .int .u8 v1, .int .u16 v2, .string y3, .string v4] 24)
        clear A_26 X_27 B28
        go_wp2_with fail
        obtain ⟨zx, gx0, gx1, gx2, gx3, gx4⟩ := id X_30
        have Fx0 : ∀ x : Later (w7.alloc (.cells #[.int .u8 v0, .int .u8 v1, .int .u16 v2, .string y3, .string v4] 24)).heap.size (w7.alloc (.cells #[.int .u8 v0, .int .u8 v1, .int .u16 v2, .string y3, .string v4] 24)), x.u.cell? ⟨w3.heap.size, 0, none⟩ = some (.int .u8 v0) := fun x => x.block zx gx0
        have Fx1 : ∀ x : Later (w7.alloc (.cells #[.int .u8 v0, .int .u8 v1, .int .u16 v2, .string y3, .string v4] 24)).heap.size (w7.alloc (.cells #[.int .u8 v0, .int .u8 v1, .int .u16 v2, .string y3, .string v4] 24)), x.u.cell? ⟨w3.heap.size, 1, none⟩ = some (.int .u8 v1) := fun x => x.block zx gx1
        have Fx2 : ∀ x : Later (w7.alloc (.cells #[.int .u8 v0, .int .u8 v1, .int .u16 v2, .string y3, .string v4] 24)).heap.size (w7.alloc (.cells #[.int .u8 v0, .int .u8 v1, .int .u16 v2, .string y3, .string v4] 24)), x.u.cell? ⟨w3.heap.size, 2, none⟩ = some (.int .u16 v2) := fun x => x.block zx gx2
        have Fx3 : ∀ x : Later (w7.alloc (.cells #[.int .u8 v0, .int .u8 v1, .int .u16 v2, .string y3, .string v4] 24)).heap.size (w7.alloc (.cells #[.int .u8 v0, .int .u8 v1, .int .u16 v2, .string y3, .string v4] 24)), x.u.cell? ⟨w3.heap.size, 3, none⟩ = some (.string v3) := fun x => x.block zx gx3
        have Fx4 : ∀ x : Later (w7.alloc (.cells #[.int .u8 v0, .int .u8 v1, .int .u16 v2, .string y3, .string v4] 24)).heap.size (w7.alloc (.cells #[.int .u8 v0, .int .u8 v1, .int .u16 v2, .string y3, .string v4] 24)), x.u.cell? ⟨w3.heap.size, 4, none⟩ = some (.string v4) := fun x => x.block zx gx4
        clear gx0 gx1 gx2 gx3 gx4
        obtain ⟨zy, gy0, gy1, gy2, gy3, gy4⟩ := id Y_31
        have Fy0 : ∀ x : Later (w7.alloc (.cells #[.int .u8 v0, .int .u8 v1, .int .u16 v2, .string y3, .string v4] 24)).heap.size (w7.alloc (.cells #[.int .u8 v0, .int .u8 v1, .int .u16 v2, .string y3, .string v4] 24)), x.u.cell? ⟨w7.heap.size, 0, none⟩ = some (.int .u8 v0) := fun x => x.block zy gy0
        have Fy1 : ∀ x : Later (w7.alloc (.cells #[.int .u8 v0, .int .u8 v1, .int .u16 v2, .string y3, .string v4] 24)).heap.size (w7.alloc (.cells #[.int .u8 v0, .int .u8 v1, .int .u16 v2, .string y3, .string v4] 24)), x.u.cell? ⟨w7.heap.size, 1, none⟩ = some (.int .u8 v1) := fun x => x.block zy gy1
        have Fy2 : ∀ x : Later (w7.alloc (.cells #[.int .u8 v0, .int .u8 v1, .int .u16 v2, .string y3, .string v4] 24)).heap.size (w7.alloc (.cells #[.int .u8 v0, .int .u8 v1, .int .u16 v2, .string y3, .string v4] 24)), x.u.cell? ⟨w7.heap.size, 2, none⟩ = some (.int .u16 v2) := fun x => x.block zy gy2
        have Fy3 : ∀ x : Later (w7.alloc (.cells #[.int .u8 v0, .int .u8 v1, .int .u16 v2, .string y3, .string v4] 24)).heap.size (w7.alloc (.cells #[.int .u8 v0, .int .u8 v1, .int .u16 v2, .string y3, .string v4] 24)), x.u.cell? ⟨w7.heap.size, 3, none⟩ = some (.string y3) := fun x => x.block zy gy3
        have Fy4 : ∀ x : Later (w7.alloc (.cells #[.int .u8 v0, .int .u8 v1, .int .u16 v2, .string y3, .string v4] 24)).heap.size (w7.alloc (.cells #[.int .u8 v0, .int .u8 v1, .int .u16 v2, .string y3, .string v4] 24)), x.u.cell? ⟨w7.heap.size, 4, none⟩ = some (.string v4) := fun x => x.block zy gy4
        clear gy0 gy1 gy2 gy3 gy4
        refine region_later (B := (w7.alloc (.cells #[.int .u8 v0, .int .u8 v1, .int .u16 v2, .string y3, .string v4] 24)).heap.size) (by kernel_rfl) (by kernel_rfl) ?_
        repeat (go_big_quiet_step (first
          | (go_at_call_of 16 y3; exact later_of _ (Nat.le_refl _) (k8 _))
          | (go_at_call_of 16 v3; exact later_of _ (Nat.le_refl _) (k9 _))
          | (go_at_call 18; exact later_of _ (Nat.le_refl _) (k10 _))
          | (go_at_call 7; exact later_of _ (Nat.le_refl _) (echoed_ K _))))
        refine later_end fun w8 x8 => ?_
        have A_33 := A_29.on x8
        have X_34 := X_30.on x8
        have Y_35 := Y_31.on x8
        have B36 := B32.trans (x8.mono B32.size)
        clear Fx0 Fx1 Fx2 Fx3 Fx4 zx Fy0 Fy1 Fy2 Fy3 Fy4 zy A_29 X_30 Y_31 B32 x8
        go_wp2
        go_ret
        exact ⟨rfl, B36⟩
      · clear hqe ke h1 hn
        -- Rest of four bytes: False; a message: True; a query: False
        go_enter Try.func5, Try.ntmps5
        have B1 := Below.refl w.heap.size w
        go_wp2_with fail
        have A_2 := Box5.make w (.int .u8 ty) (.int .u8 co) (.int .u16 su) (.string r) (.string d) 24
        have B3 := B1.alloc B1.size (.cells #[.int .u8 ty, .int .u8 co, .int .u16 su, .string r, .string d] 24)
        clear B1
        obtain ⟨_, a1_0, a1_1, a1_2, a1_3, a1_4⟩ := id A_2
        refine (k1 _).mono ?_; rintro e w1 ⟨rfl, x1⟩
        have A_4 := A_2.on x1
        have B5 := B3.trans (x1.mono B3.size)
        clear a1_0 a1_1 a1_2 a1_3 a1_4 A_2 B3 x1
        clear k1
        obtain ⟨_, a2_0, a2_1, a2_2, a2_3, a2_4⟩ := id A_4
        go_wp2_with fail
        refine (k2 _).mono ?_; rintro e w2 ⟨rfl, x2⟩
        have A_6 := A_4.on x2
        have B7 := B5.trans (x2.mono B5.size)
        clear a2_0 a2_1 a2_2 a2_3 a2_4 A_4 B5 x2
        clear k2
        obtain ⟨_, a3_0, a3_1, a3_2, a3_3, a3_4⟩ := id A_6
        have A_8 := A_6.past (o := (.cells #[.int .u8 0, .int .u8 0, .int .u16 0, .string ⟨#[]⟩, .string ⟨#[]⟩] 24))
        have N_9 := Box5.make w2 (.int .u8 0) (.int .u8 0) (.int .u16 0) (.string ⟨#[]⟩) (.string ⟨#[]⟩) 24
        have B10 := B7.alloc B7.size (.cells #[.int .u8 0, .int .u8 0, .int .u16 0, .string ⟨#[]⟩, .string ⟨#[]⟩] 24)
        clear A_6 B7
        obtain ⟨_, a4_0, a4_1, a4_2, a4_3, a4_4⟩ := id A_8
        obtain ⟨_, n5_0, n5_1, n5_2, n5_3, n5_4⟩ := id N_9
        go_wp2_with fail
        refine (k3 _).mono ?_; rintro e w3 ⟨rfl, x3⟩
        have A_11 := A_8.on x3
        have N_12 := N_9.on x3
        have B13 := B10.trans (x3.mono B10.size)
        clear a3_0 a3_1 a3_2 a3_3 a3_4 a4_0 a4_1 a4_2 a4_3 a4_4 n5_0 n5_1 n5_2 n5_3 n5_4 A_8 N_9 B10 x3
        clear k3
        clear N_12
        have A_14 := A_11.past (o := (.cells #[.int .u8 v0, .int .u8 v1, .int .u16 v2, .string v3, .string v4] 24))
        have X_15 := Box5.make w3 (.int .u8 v0) (.int .u8 v1) (.int .u16 v2) (.string v3) (.string v4) 24
        have B16 := B13.alloc B13.size (.cells #[.int .u8 v0, .int .u8 v1, .int .u16 v2, .string v3, .string v4] 24)
        clear A_11 B13
        obtain ⟨_, x6_0, x6_1, x6_2, x6_3, x6_4⟩ := id X_15
        go_wp2_with fail
        refine (k4 _).mono ?_; rintro e w4 ⟨rfl, x4⟩
        have A_17 := A_14.on x4
        have X_18 := X_15.on x4
        have B19 := B16.trans (x4.mono B16.size)
        clear x6_0 x6_1 x6_2 x6_3 x6_4 A_14 X_15 B16 x4
        clear k4
        obtain ⟨_, a7_0, a7_1, a7_2, a7_3, a7_4⟩ := id A_17
        go_wp2_with fail
        refine (kq _).mono ?_; rintro e w5 ⟨rfl, x5⟩
        have A_20 := A_17.on x5
        have X_21 := X_18.on x5
        have B22 := B19.trans (x5.mono B19.size)
        clear a7_0 a7_1 a7_2 a7_3 a7_4 A_17 X_18 B19 x5
        clear kq
        obtain ⟨_, x8_0, x8_1, x8_2, x8_3, x8_4⟩ := id X_21
        go_wp2_with fail
        refine (k7 _).mono ?_; rintro e w6 ⟨rfl, x6⟩
        have A_23 := A_20.on x6
        have X_24 := X_21.on x6
        have B25 := B22.trans (x6.mono B22.size)
        clear x8_0 x8_1 x8_2 x8_3 x8_4 A_20 X_21 B22 x6
        clear k7
        have A_26 := A_23.past (o := (.cells #[.int .u8 v0, .int .u8 v1, .int .u16 v2, .string y3, .string v4] 24))
        have X_27 := X_24.past (o := (.cells #[.int .u8 v0, .int .u8 v1, .int .u16 v2, .string y3, .string v4] 24))
        have Y_28 := Box5.make w6 (.int .u8 v0) (.int .u8 v1) (.int .u16 v2) (.string y3) (.string v4) 24
        have B29 := B25.alloc B25.size (.cells #[.int .u8 v0, .int .u8 v1, .int .u16 v2, .string y3, .string v4] 24)
        clear A_23 X_24 B25
        go_wp2_with fail
        obtain ⟨zx, gx0, gx1, gx2, gx3, gx4⟩ := id X_27
        have Fx0 : ∀ x : Later (w6.alloc (.cells #[.int .u8 v0, .int .u8 v1, .int .u16 v2, .string y3, .string v4] 24)).heap.size (w6.alloc (.cells #[.int .u8 v0, .int .u8 v1, .int .u16 v2, .string y3, .string v4] 24)), x.u.cell? ⟨w3.heap.size, 0, none⟩ = some (.int .u8 v0) := fun x => x.block zx gx0
        have Fx1 : ∀ x : Later (w6.alloc (.cells #[.int .u8 v0, .int .u8 v1, .int .u16 v2, .string y3, .string v4] 24)).heap.size (w6.alloc (.cells #[.int .u8 v0, .int .u8 v1, .int .u16 v2, .string y3, .string v4] 24)), x.u.cell? ⟨w3.heap.size, 1, none⟩ = some (.int .u8 v1) := fun x => x.block zx gx1
        have Fx2 : ∀ x : Later (w6.alloc (.cells #[.int .u8 v0, .int .u8 v1, .int .u16 v2, .string y3, .string v4] 24)).heap.size (w6.alloc (.cells #[.int .u8 v0, .int .u8 v1, .int .u16 v2, .string y3, .string v4] 24)), x.u.cell? ⟨w3.heap.size, 2, none⟩ = some (.int .u16 v2) := fun x => x.block zx gx2
        have Fx3 : ∀ x : Later (w6.alloc (.cells #[.int .u8 v0, .int .u8 v1, .int .u16 v2, .string y3, .string v4] 24)).heap.size (w6.alloc (.cells #[.int .u8 v0, .int .u8 v1, .int .u16 v2, .string y3, .string v4] 24)), x.u.cell? ⟨w3.heap.size, 3, none⟩ = some (.string v3) := fun x => x.block zx gx3
        have Fx4 : ∀ x : Later (w6.alloc (.cells #[.int .u8 v0, .int .u8 v1, .int .u16 v2, .string y3, .string v4] 24)).heap.size (w6.alloc (.cells #[.int .u8 v0, .int .u8 v1, .int .u16 v2, .string y3, .string v4] 24)), x.u.cell? ⟨w3.heap.size, 4, none⟩ = some (.string v4) := fun x => x.block zx gx4
        clear gx0 gx1 gx2 gx3 gx4
        obtain ⟨zy, gy0, gy1, gy2, gy3, gy4⟩ := id Y_28
        have Fy0 : ∀ x : Later (w6.alloc (.cells #[.int .u8 v0, .int .u8 v1, .int .u16 v2, .string y3, .string v4] 24)).heap.size (w6.alloc (.cells #[.int .u8 v0, .int .u8 v1, .int .u16 v2, .string y3, .string v4] 24)), x.u.cell? ⟨w6.heap.size, 0, none⟩ = some (.int .u8 v0) := fun x => x.block zy gy0
        have Fy1 : ∀ x : Later (w6.alloc (.cells #[.int .u8 v0, .int .u8 v1, .int .u16 v2, .string y3, .string v4] 24)).heap.size (w6.alloc (.cells #[.int .u8 v0, .int .u8 v1, .int .u16 v2, .string y3, .string v4] 24)), x.u.cell? ⟨w6.heap.size, 1, none⟩ = some (.int .u8 v1) := fun x => x.block zy gy1
        have Fy2 : ∀ x : Later (w6.alloc (.cells #[.int .u8 v0, .int .u8 v1, .int .u16 v2, .string y3, .string v4] 24)).heap.size (w6.alloc (.cells #[.int .u8 v0, .int .u8 v1, .int .u16 v2, .string y3, .string v4] 24)), x.u.cell? ⟨w6.heap.size, 2, none⟩ = some (.int .u16 v2) := fun x => x.block zy gy2
        have Fy3 : ∀ x : Later (w6.alloc (.cells #[.int .u8 v0, .int .u8 v1, .int .u16 v2, .string y3, .string v4] 24)).heap.size (w6.alloc (.cells #[.int .u8 v0, .int .u8 v1, .int .u16 v2, .string y3, .string v4] 24)), x.u.cell? ⟨w6.heap.size, 3, none⟩ = some (.string y3) := fun x => x.block zy gy3
        have Fy4 : ∀ x : Later (w6.alloc (.cells #[.int .u8 v0, .int .u8 v1, .int .u16 v2, .string y3, .string v4] 24)).heap.size (w6.alloc (.cells #[.int .u8 v0, .int .u8 v1, .int .u16 v2, .string y3, .string v4] 24)), x.u.cell? ⟨w6.heap.size, 4, none⟩ = some (.string v4) := fun x => x.block zy gy4
        clear gy0 gy1 gy2 gy3 gy4
        refine region_later (B := (w6.alloc (.cells #[.int .u8 v0, .int .u8 v1, .int .u16 v2, .string y3, .string v4] 24)).heap.size) (by kernel_rfl) (by kernel_rfl) ?_
        repeat (go_big_quiet_step (first
          | (go_at_call_of 16 y3; exact later_of _ (Nat.le_refl _) (k8 _))
          | (go_at_call_of 16 v3; exact later_of _ (Nat.le_refl _) (k9 _))
          | (go_at_call 18; exact later_of _ (Nat.le_refl _) (k10 _))
          | (go_at_call 7; exact later_of _ (Nat.le_refl _) (echoed_ K _))))
        refine later_end fun w7 x7 => ?_
        have A_30 := A_26.on x7
        have X_31 := X_27.on x7
        have Y_32 := Y_28.on x7
        have B33 := B29.trans (x7.mono B29.size)
        clear Fx0 Fx1 Fx2 Fx3 Fx4 zx Fy0 Fy1 Fy2 Fy3 Fy4 zy A_26 X_27 Y_28 B29 x7
        go_wp2
        go_ret
        exact ⟨rfl, B33⟩
    · have i1 : decide ((8 : Int) ≤ (s.size : Int)) = false := by simp; omega
      have hT : mOk s = false := by unfold mOk; simp; omega
      obtain ⟨m1, m2, m3⟩ := mOk_no hT
      rw [m1, m1, m1, m2, m3, hT] at k3
      have k4 := fun u => K.puts 0 0 0 ⟨#[]⟩ ⟨#[]⟩ u (by omega) (by omega) (by omega) (by omega) (by omega) (by omega) (by decide) (by decide)
      rw [icP_no _ _ _ _ _ (by decide), show icE (⟨#[]⟩ : ByteArray).size = 2 by decide] at k4
      have k7 := fun u => K.withs 0 0 0 ⟨#[]⟩ ⟨#[]⟩ q u (by omega) (by omega) (by omega) (by omega) (by omega) (by omega) (by decide) (by decide) q0 q1
      rw [show wiM ⟨#[]⟩ q = ⟨#[]⟩ by unfold wiM; rw [if_neg (by decide)]] at k7
      clear hT m1 m2 m3 hi
      cases qi
      rotate_left
      · rw [hqe rfl] at ke
        clear hqe h1 hn
        -- Rest of four bytes: False; a message: False; a query: True
        go_enter Try.func5, Try.ntmps5
        have B1 := Below.refl w.heap.size w
        go_wp2_with fail
        have A_2 := Box5.make w (.int .u8 ty) (.int .u8 co) (.int .u16 su) (.string r) (.string d) 24
        have B3 := B1.alloc B1.size (.cells #[.int .u8 ty, .int .u8 co, .int .u16 su, .string r, .string d] 24)
        clear B1
        obtain ⟨_, a1_0, a1_1, a1_2, a1_3, a1_4⟩ := id A_2
        refine (k1 _).mono ?_; rintro e w1 ⟨rfl, x1⟩
        have A_4 := A_2.on x1
        have B5 := B3.trans (x1.mono B3.size)
        clear a1_0 a1_1 a1_2 a1_3 a1_4 A_2 B3 x1
        clear k1
        obtain ⟨_, a2_0, a2_1, a2_2, a2_3, a2_4⟩ := id A_4
        go_wp2_with fail
        refine (k2 _).mono ?_; rintro e w2 ⟨rfl, x2⟩
        have A_6 := A_4.on x2
        have B7 := B5.trans (x2.mono B5.size)
        clear a2_0 a2_1 a2_2 a2_3 a2_4 A_4 B5 x2
        clear k2
        obtain ⟨_, a3_0, a3_1, a3_2, a3_3, a3_4⟩ := id A_6
        have A_8 := A_6.past (o := (.cells #[.int .u8 0, .int .u8 0, .int .u16 0, .string ⟨#[]⟩, .string ⟨#[]⟩] 24))
        have N_9 := Box5.make w2 (.int .u8 0) (.int .u8 0) (.int .u16 0) (.string ⟨#[]⟩) (.string ⟨#[]⟩) 24
        have B10 := B7.alloc B7.size (.cells #[.int .u8 0, .int .u8 0, .int .u16 0, .string ⟨#[]⟩, .string ⟨#[]⟩] 24)
        clear A_6 B7
        obtain ⟨_, a4_0, a4_1, a4_2, a4_3, a4_4⟩ := id A_8
        obtain ⟨_, n5_0, n5_1, n5_2, n5_3, n5_4⟩ := id N_9
        go_wp2_with fail
        refine (k3 _).mono ?_; rintro e w3 ⟨rfl, x3⟩
        have A_11 := A_8.on x3
        have N_12 := N_9.on x3
        have B13 := B10.trans (x3.mono B10.size)
        clear a3_0 a3_1 a3_2 a3_3 a3_4 a4_0 a4_1 a4_2 a4_3 a4_4 n5_0 n5_1 n5_2 n5_3 n5_4 A_8 N_9 B10 x3
        clear k3
        clear N_12
        have A_14 := A_11.past (o := (.cells #[.int .u8 0, .int .u8 0, .int .u16 0, .string ⟨#[]⟩, .string ⟨#[]⟩] 24))
        have X_15 := Box5.make w3 (.int .u8 0) (.int .u8 0) (.int .u16 0) (.string ⟨#[]⟩) (.string ⟨#[]⟩) 24
        have B16 := B13.alloc B13.size (.cells #[.int .u8 0, .int .u8 0, .int .u16 0, .string ⟨#[]⟩, .string ⟨#[]⟩] 24)
        clear A_11 B13
        obtain ⟨_, x6_0, x6_1, x6_2, x6_3, x6_4⟩ := id X_15
        go_wp2_with fail
        refine (k4 _).mono ?_; rintro e w4 ⟨rfl, x4⟩
        have A_17 := A_14.on x4
        have X_18 := X_15.on x4
        have B19 := B16.trans (x4.mono B16.size)
        clear x6_0 x6_1 x6_2 x6_3 x6_4 A_14 X_15 B16 x4
        clear k4
        obtain ⟨_, a7_0, a7_1, a7_2, a7_3, a7_4⟩ := id A_17
        go_wp2_with fail
        refine (kq _).mono ?_; rintro e w5 ⟨rfl, x5⟩
        have A_20 := A_17.on x5
        have X_21 := X_18.on x5
        have B22 := B19.trans (x5.mono B19.size)
        clear a7_0 a7_1 a7_2 a7_3 a7_4 A_17 X_18 B19 x5
        clear kq
        obtain ⟨_, a8_0, a8_1, a8_2, a8_3, a8_4⟩ := id A_20
        go_wp2_with fail
        refine (ke _).mono ?_; rintro e w6 ⟨rfl, x6⟩
        have A_23 := A_20.on x6
        have X_24 := X_21.on x6
        have B25 := B22.trans (x6.mono B22.size)
        clear a8_0 a8_1 a8_2 a8_3 a8_4 A_20 X_21 B22 x6
        clear ke
        obtain ⟨_, x9_0, x9_1, x9_2, x9_3, x9_4⟩ := id X_24
        go_wp2_with fail
        refine (k7 _).mono ?_; rintro e w7 ⟨rfl, x7⟩
        have A_26 := A_23.on x7
        have X_27 := X_24.on x7
        have B28 := B25.trans (x7.mono B25.size)
        clear x9_0 x9_1 x9_2 x9_3 x9_4 A_23 X_24 B25 x7
        clear k7
        have A_29 := A_26.past (o := (.cells #[.int .u8 0, .int .u8 0, .int .u16 0, .string ⟨#[]⟩, .string ⟨#[]⟩] 24))
        have X_30 := X_27.past (o := (.cells #[.int .u8 0, .int .u8 0, .int .u16 0, .string ⟨#[]⟩, .string ⟨#[]⟩] 24))
        have Y_31 := Box5.make w7 (.int .u8 0) (.int .u8 0) (.int .u16 0) (.string ⟨#[]⟩) (.string ⟨#[]⟩) 24
        have B32 := B28.alloc B28.size (.cells #[.int .u8 0, .int .u8 0, .int .u16 0, .string ⟨#[]⟩, .string ⟨#[]⟩] 24)
        clear A_26 X_27 B28
        go_wp2_with fail
        refine region_later (B := (w7.alloc (.cells #[.int .u8 0, .int .u8 0, .int .u16 0, .string ⟨#[]⟩, .string ⟨#[]⟩] 24)).heap.size) (by kernel_rfl) (by kernel_rfl) ?_
        repeat (go_big_quiet_step (first
          | (go_at_call 7; exact later_of _ (Nat.le_refl _) (echoed_ K _))))
        refine later_end fun w8 x8 => ?_
        have A_33 := A_29.on x8
        have X_34 := X_30.on x8
        have Y_35 := Y_31.on x8
        have B36 := B32.trans (x8.mono B32.size)
        clear A_29 X_30 Y_31 B32 x8
        go_wp2
        go_ret
        exact ⟨rfl, B36⟩
      · clear hqe ke h1 hn
        -- Rest of four bytes: False; a message: False; a query: False
        go_enter Try.func5, Try.ntmps5
        have B1 := Below.refl w.heap.size w
        go_wp2_with fail
        have A_2 := Box5.make w (.int .u8 ty) (.int .u8 co) (.int .u16 su) (.string r) (.string d) 24
        have B3 := B1.alloc B1.size (.cells #[.int .u8 ty, .int .u8 co, .int .u16 su, .string r, .string d] 24)
        clear B1
        obtain ⟨_, a1_0, a1_1, a1_2, a1_3, a1_4⟩ := id A_2
        refine (k1 _).mono ?_; rintro e w1 ⟨rfl, x1⟩
        have A_4 := A_2.on x1
        have B5 := B3.trans (x1.mono B3.size)
        clear a1_0 a1_1 a1_2 a1_3 a1_4 A_2 B3 x1
        clear k1
        obtain ⟨_, a2_0, a2_1, a2_2, a2_3, a2_4⟩ := id A_4
        go_wp2_with fail
        refine (k2 _).mono ?_; rintro e w2 ⟨rfl, x2⟩
        have A_6 := A_4.on x2
        have B7 := B5.trans (x2.mono B5.size)
        clear a2_0 a2_1 a2_2 a2_3 a2_4 A_4 B5 x2
        clear k2
        obtain ⟨_, a3_0, a3_1, a3_2, a3_3, a3_4⟩ := id A_6
        have A_8 := A_6.past (o := (.cells #[.int .u8 0, .int .u8 0, .int .u16 0, .string ⟨#[]⟩, .string ⟨#[]⟩] 24))
        have N_9 := Box5.make w2 (.int .u8 0) (.int .u8 0) (.int .u16 0) (.string ⟨#[]⟩) (.string ⟨#[]⟩) 24
        have B10 := B7.alloc B7.size (.cells #[.int .u8 0, .int .u8 0, .int .u16 0, .string ⟨#[]⟩, .string ⟨#[]⟩] 24)
        clear A_6 B7
        obtain ⟨_, a4_0, a4_1, a4_2, a4_3, a4_4⟩ := id A_8
        obtain ⟨_, n5_0, n5_1, n5_2, n5_3, n5_4⟩ := id N_9
        go_wp2_with fail
        refine (k3 _).mono ?_; rintro e w3 ⟨rfl, x3⟩
        have A_11 := A_8.on x3
        have N_12 := N_9.on x3
        have B13 := B10.trans (x3.mono B10.size)
        clear a3_0 a3_1 a3_2 a3_3 a3_4 a4_0 a4_1 a4_2 a4_3 a4_4 n5_0 n5_1 n5_2 n5_3 n5_4 A_8 N_9 B10 x3
        clear k3
        clear N_12
        have A_14 := A_11.past (o := (.cells #[.int .u8 0, .int .u8 0, .int .u16 0, .string ⟨#[]⟩, .string ⟨#[]⟩] 24))
        have X_15 := Box5.make w3 (.int .u8 0) (.int .u8 0) (.int .u16 0) (.string ⟨#[]⟩) (.string ⟨#[]⟩) 24
        have B16 := B13.alloc B13.size (.cells #[.int .u8 0, .int .u8 0, .int .u16 0, .string ⟨#[]⟩, .string ⟨#[]⟩] 24)
        clear A_11 B13
        obtain ⟨_, x6_0, x6_1, x6_2, x6_3, x6_4⟩ := id X_15
        go_wp2_with fail
        refine (k4 _).mono ?_; rintro e w4 ⟨rfl, x4⟩
        have A_17 := A_14.on x4
        have X_18 := X_15.on x4
        have B19 := B16.trans (x4.mono B16.size)
        clear x6_0 x6_1 x6_2 x6_3 x6_4 A_14 X_15 B16 x4
        clear k4
        obtain ⟨_, a7_0, a7_1, a7_2, a7_3, a7_4⟩ := id A_17
        go_wp2_with fail
        refine (kq _).mono ?_; rintro e w5 ⟨rfl, x5⟩
        have A_20 := A_17.on x5
        have X_21 := X_18.on x5
        have B22 := B19.trans (x5.mono B19.size)
        clear a7_0 a7_1 a7_2 a7_3 a7_4 A_17 X_18 B19 x5
        clear kq
        obtain ⟨_, x8_0, x8_1, x8_2, x8_3, x8_4⟩ := id X_21
        go_wp2_with fail
        refine (k7 _).mono ?_; rintro e w6 ⟨rfl, x6⟩
        have A_23 := A_20.on x6
        have X_24 := X_21.on x6
        have B25 := B22.trans (x6.mono B22.size)
        clear x8_0 x8_1 x8_2 x8_3 x8_4 A_20 X_21 B22 x6
        clear k7
        have A_26 := A_23.past (o := (.cells #[.int .u8 0, .int .u8 0, .int .u16 0, .string ⟨#[]⟩, .string ⟨#[]⟩] 24))
        have X_27 := X_24.past (o := (.cells #[.int .u8 0, .int .u8 0, .int .u16 0, .string ⟨#[]⟩, .string ⟨#[]⟩] 24))
        have Y_28 := Box5.make w6 (.int .u8 0) (.int .u8 0) (.int .u16 0) (.string ⟨#[]⟩) (.string ⟨#[]⟩) 24
        have B29 := B25.alloc B25.size (.cells #[.int .u8 0, .int .u8 0, .int .u16 0, .string ⟨#[]⟩, .string ⟨#[]⟩] 24)
        clear A_23 X_24 B25
        go_wp2_with fail
        refine region_later (B := (w6.alloc (.cells #[.int .u8 0, .int .u8 0, .int .u16 0, .string ⟨#[]⟩, .string ⟨#[]⟩] 24)).heap.size) (by kernel_rfl) (by kernel_rfl) ?_
        repeat (go_big_quiet_step (first
          | (go_at_call 7; exact later_of _ (Nat.le_refl _) (echoed_ K _))))
        refine later_end fun w7 x7 => ?_
        have A_30 := A_26.on x7
        have X_31 := X_27.on x7
        have Y_32 := Y_28.on x7
        have B33 := B29.trans (x7.mono B29.size)
        clear A_26 X_27 Y_28 B29 x7
        go_wp2
        go_ret
        exact ⟨rfl, B33⟩
end Go.Proofs.Ytlcgpjeggelbaaa.IcmpBack
