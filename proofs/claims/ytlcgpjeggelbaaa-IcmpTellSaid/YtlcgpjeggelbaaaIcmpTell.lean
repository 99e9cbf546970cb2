/- The walk of IcmpTell. -/
import Derived.Test.YtlcgpjeggelbaaaIcmpM
import Derived.Test.YtlcgpjeggelbaaaIcmpB
namespace Go.Proofs.Ytlcgpjeggelbaaa.IcmpTell
set_option linter.unusedVariables false
set_option linter.unusedSimpArgs false
open Go.ChangeShapes Go.WideShapes Go.ChangeAt Go.RowKit Go.PlainAid
set_option maxRecDepth 100000 in
set_option maxHeartbeats 4000000 in
theorem walk_ (K : IcmpOk) (s : ByteArray) (ty co su : Int) (r d : ByteArray) (q : Int) (w : World) (hs : s.size ≤ maxLen) (hty : (Lit.int .u8 ty).wf = true) (hco : (Lit.int .u8 co).wf = true) (hsu : (Lit.int .u16 su).wf = true) (hr : r.size ≤ maxLen) (hd : d.size ≤ maxLen) (hq : (Lit.int .u16 q).wf = true) :
    Calls Try.prog 3 #[.string s, .agg #[.int .u8 ty, .int .u8 co, .int .u16 su, .string r, .string d], .int .u16 q] w fun e w' => e = .returned (.bool true) ∧ Below w.heap.size w w' := by
  obtain ⟨ty0, ty1⟩ := bounds_u8 hty
  obtain ⟨co0, co1⟩ := bounds_u8 hco
  obtain ⟨su0, su1⟩ := bounds_u16 hsu
  obtain ⟨q0, q1⟩ := bounds_u16 hq
  clear hty hco hsu hq hs hr hd
  by_cases h1 : 600 < s.size ∨ 600 < r.size ∨ 600 < d.size
  · have key : ∃ x y z : Bool, decide ((600 : Int) < (s.size : Int)) = x ∧ decide ((600 : Int) < (r.size : Int)) = y ∧ decide ((600 : Int) < (d.size : Int)) = z ∧ (x = true ∨ (x = false ∧ y = true) ∨ (x = false ∧ y = false ∧ z = true)) := by
      refine ⟨_, _, _, rfl, rfl, rfl, ?_⟩
      simp only [decide_eq_true_eq, decide_eq_false_iff_not]
      omega
    obtain ⟨x, y, z, k1, k2, k3, hk⟩ := key
    clear h1
    rcases hk with rfl | ⟨rfl, rfl⟩ | ⟨rfl, rfl, rfl⟩
    all_goals
      go_enter Try.func3, Try.ntmps3
      go_wp2_with fail
      refine (echoed_ K _).mono ?_; rintro e w1 ⟨rfl, x1⟩
      have B1 : Below w.heap.size w w1 := ((Below.refl _ _).alloc (Nat.le_refl _) _).trans (x1.mono (by simp))
      go_wp2
      go_ret
      exact ⟨rfl, B1⟩
  have e1 : decide ((600 : Int) < (s.size : Int)) = false := by simp; omega
  have e2 : decide ((600 : Int) < (r.size : Int)) = false := by simp; omega
  have e3 : decide ((600 : Int) < (d.size : Int)) = false := by simp; omega
  have k1 := fun u => K.parses s u (by omega)
  have k2 := fun u => rparse7_ s u (by omega)
  have k3 := fun u => K.puts ty co su r d u ty0 ty1 co0 co1 su0 su1 (by omega) (by omega)
  have k4 := fun u => rput7_ ty co su r d u ty0 ty1 co0 co1 su0 su1 (by omega) (by omega)
  have k5 := fun u => K.queries ty co su r d u ty0 ty1 co0 co1 su0 su1 (by omega) (by omega)
  have k6 := fun u => rquery7_ ty co su r d u ty0 ty1 co0 co1
  have k7 := fun u => K.errors ty co su r d u ty0 ty1 co0 co1 su0 su1 (by omega) (by omega)
  have k8 := fun u => rerror7_ ty co su r d u ty0 ty1
  have k9 := fun u => K.ids ty co su r d u ty0 ty1 co0 co1 su0 su1 (by omega) (by omega)
  have k10 := fun u => rid7_ ty co su r d u (by omega)
  have k11 := fun u => K.withs ty co su r d q u ty0 ty1 co0 co1 su0 su1 (by omega) (by omega) q0 q1
  have k12 := fun u => rwith7_ ty co su r d q u q0 q1 (by omega)
  generalize mI s (bt s 0) = v0 at *
  generalize mI s (bt s 1) = v1 at *
  generalize mI s (g16 s 2) = v2 at *
  generalize mR s = v3 at *
  generalize mD s = v4 at *
  generalize mOk s = ok at *
  generalize icP ty co su r d = t at *
  generalize icE r.size = er at *
  generalize qAsk ty co = qa at *
  generalize qIs ty co = qi at *
  generalize erM ty = em at *
  generalize idM r = im at *
  generalize wiM r q = wr at *
  clear h1
  go_enter Try.func3, Try.ntmps3
  have B1 := Below.refl w.heap.size w
  go_wp2_with fail
  have A_2 := Box5.make w (.int .u8 ty) (.int .u8 co) (.int .u16 su) (.string r) (.string d) 24
  have B3 := B1.alloc B1.size (.cells #[.int .u8 ty, .int .u8 co, .int .u16 su, .string r, .string d] 24)
  clear B1
  refine (k1 _).mono ?_; rintro e w1 ⟨rfl, x1⟩
  have A_4 := A_2.on x1
  have B5 := B3.trans (x1.mono B3.size)
  clear A_2 B3 x1
  clear k1
  have A_6 := A_4.past (o := (.cells #[.int .u8 v0, .int .u8 v1, .int .u16 v2, .string v3, .string v4] 24))
  have X_7 := Box5.make w1 (.int .u8 v0) (.int .u8 v1) (.int .u16 v2) (.string v3) (.string v4) 24
  have B8 := B5.alloc B5.size (.cells #[.int .u8 v0, .int .u8 v1, .int .u16 v2, .string v3, .string v4] 24)
  clear A_4 B5
  go_wp2_with fail
  refine (k2 _).mono ?_; rintro e w2 ⟨rfl, x2⟩
  have A_9 := A_6.on x2
  have X_10 := X_7.on x2
  have B11 := B8.trans (x2.mono B8.size)
  clear A_6 X_7 B8 x2
  clear k2
  have A_12 := A_9.past (o := (.cells #[.int .u8 v0, .int .u8 v1, .int .u16 v2, .string v3, .string v4] 28))
  have X_13 := X_10.past (o := (.cells #[.int .u8 v0, .int .u8 v1, .int .u16 v2, .string v3, .string v4] 28))
  have Y_14 := Box5.make w2 (.int .u8 v0) (.int .u8 v1) (.int .u16 v2) (.string v3) (.string v4) 28
  have B15 := B11.alloc B11.size (.cells #[.int .u8 v0, .int .u8 v1, .int .u16 v2, .string v3, .string v4] 28)
  clear A_9 X_10 B11
  obtain ⟨_, a1_0, a1_1, a1_2, a1_3, a1_4⟩ := id A_12
  have A_16 := A_12.past (o := (.cells #[.int .u8 ty, .int .u8 co, .int .u16 su, .string r, .string d] 28))
  have X_17 := X_13.past (o := (.cells #[.int .u8 ty, .int .u8 co, .int .u16 su, .string r, .string d] 28))
  have Y_18 := Y_14.past (o := (.cells #[.int .u8 ty, .int .u8 co, .int .u16 su, .string r, .string d] 28))
  have hs_ : (w2.alloc (.cells #[.int .u8 v0, .int .u8 v1, .int .u16 v2, .string v3, .string v4] 28)).heap.size = w2.heap.size + 1 := by simp
  have D_19 := Box5.make (w2.alloc (.cells #[.int .u8 v0, .int .u8 v1, .int .u16 v2, .string v3, .string v4] 28)) (.int .u8 ty) (.int .u8 co) (.int .u16 su) (.string r) (.string d) 28
  rw [hs_] at D_19
  clear hs_
  have B20 := B15.alloc B15.size (.cells #[.int .u8 ty, .int .u8 co, .int .u16 su, .string r, .string d] 28)
  clear A_12 X_13 Y_14 B15
  obtain ⟨_, a2_0, a2_1, a2_2, a2_3, a2_4⟩ := id A_16
  go_wp2_with fail
  refine (k3 _).mono ?_; rintro e w3 ⟨rfl, x3⟩
  have A_21 := A_16.on x3
  have X_22 := X_17.on x3
  have Y_23 := Y_18.on x3
  have D_24 := D_19.on x3
  have B25 := B20.trans (x3.mono B20.size)
  clear a1_0 a1_1 a1_2 a1_3 a1_4 a2_0 a2_1 a2_2 a2_3 a2_4 A_16 X_17 Y_18 D_19 B20 x3
  clear k3
  obtain ⟨_, d3_0, d3_1, d3_2, d3_3, d3_4⟩ := id D_24
  go_wp2_with fail
  refine (k4 _).mono ?_; rintro e w4 ⟨rfl, x4⟩
  have A_26 := A_21.on x4
  have X_27 := X_22.on x4
  have Y_28 := Y_23.on x4
  have D_29 := D_24.on x4
  have B30 := B25.trans (x4.mono B25.size)
  clear d3_0 d3_1 d3_2 d3_3 d3_4 A_21 X_22 Y_23 D_24 B25 x4
  clear k4
  obtain ⟨_, a4_0, a4_1, a4_2, a4_3, a4_4⟩ := id A_26
  go_wp2_with fail
  refine (k5 _).mono ?_; rintro e w5 ⟨rfl, x5⟩
  have A_31 := A_26.on x5
  have X_32 := X_27.on x5
  have Y_33 := Y_28.on x5
  have D_34 := D_29.on x5
  have B35 := B30.trans (x5.mono B30.size)
  clear a4_0 a4_1 a4_2 a4_3 a4_4 A_26 X_27 Y_28 D_29 B30 x5
  clear k5
  obtain ⟨_, d5_0, d5_1, d5_2, d5_3, d5_4⟩ := id D_34
  go_wp2_with fail
  refine (k6 _).mono ?_; rintro e w6 ⟨rfl, x6⟩
  have A_36 := A_31.on x6
  have X_37 := X_32.on x6
  have Y_38 := Y_33.on x6
  have D_39 := D_34.on x6
  have B40 := B35.trans (x6.mono B35.size)
  clear d5_0 d5_1 d5_2 d5_3 d5_4 A_31 X_32 Y_33 D_34 B35 x6
  clear k6
  go_wp2_with fail
  obtain ⟨za, ga0, ga1, ga2, ga3, ga4⟩ := id A_36
  have Fa0 : ∀ x : Later w6.heap.size w6, x.u.cell? ⟨w.heap.size, 0, none⟩ = some (.int .u8 ty) := fun x => x.block za ga0
  have Fa1 : ∀ x : Later w6.heap.size w6, x.u.cell? ⟨w.heap.size, 1, none⟩ = some (.int .u8 co) := fun x => x.block za ga1
  have Fa2 : ∀ x : Later w6.heap.size w6, x.u.cell? ⟨w.heap.size, 2, none⟩ = some (.int .u16 su) := fun x => x.block za ga2
  have Fa3 : ∀ x : Later w6.heap.size w6, x.u.cell? ⟨w.heap.size, 3, none⟩ = some (.string r) := fun x => x.block za ga3
  have Fa4 : ∀ x : Later w6.heap.size w6, x.u.cell? ⟨w.heap.size, 4, none⟩ = some (.string d) := fun x => x.block za ga4
  clear ga0 ga1 ga2 ga3 ga4
  obtain ⟨zx, gx0, gx1, gx2, gx3, gx4⟩ := id X_37
  have Fx0 : ∀ x : Later w6.heap.size w6, x.u.cell? ⟨w1.heap.size, 0, none⟩ = some (.int .u8 v0) := fun x => x.block zx gx0
  have Fx1 : ∀ x : Later w6.heap.size w6, x.u.cell? ⟨w1.heap.size, 1, none⟩ = some (.int .u8 v1) := fun x => x.block zx gx1
  have Fx2 : ∀ x : Later w6.heap.size w6, x.u.cell? ⟨w1.heap.size, 2, none⟩ = some (.int .u16 v2) := fun x => x.block zx gx2
  have Fx3 : ∀ x : Later w6.heap.size w6, x.u.cell? ⟨w1.heap.size, 3, none⟩ = some (.string v3) := fun x => x.block zx gx3
  have Fx4 : ∀ x : Later w6.heap.size w6, x.u.cell? ⟨w1.heap.size, 4, none⟩ = some (.string v4) := fun x => x.block zx gx4
  clear gx0 gx1 gx2 gx3 gx4
  obtain ⟨zy, gy0, gy1, gy2, gy3, gy4⟩ := id Y_38
  have Fy0 : ∀ x : Later w6.heap.size w6, x.u.cell? ⟨w2.heap.size, 0, none⟩ = some (.int .u8 v0) := fun x => x.block zy gy0
  have Fy1 : ∀ x : Later w6.heap.size w6, x.u.cell? ⟨w2.heap.size, 1, none⟩ = some (.int .u8 v1) := fun x => x.block zy gy1
  have Fy2 : ∀ x : Later w6.heap.size w6, x.u.cell? ⟨w2.heap.size, 2, none⟩ = some (.int .u16 v2) := fun x => x.block zy gy2
  have Fy3 : ∀ x : Later w6.heap.size w6, x.u.cell? ⟨w2.heap.size, 3, none⟩ = some (.string v3) := fun x => x.block zy gy3
  have Fy4 : ∀ x : Later w6.heap.size w6, x.u.cell? ⟨w2.heap.size, 4, none⟩ = some (.string v4) := fun x => x.block zy gy4
  clear gy0 gy1 gy2 gy3 gy4
  obtain ⟨zd, gd0, gd1, gd2, gd3, gd4⟩ := id D_39
  have Fd0 : ∀ x : Later w6.heap.size w6, x.u.cell? ⟨(w2.heap.size + 1), 0, none⟩ = some (.int .u8 ty) := fun x => x.block zd gd0
  have Fd1 : ∀ x : Later w6.heap.size w6, x.u.cell? ⟨(w2.heap.size + 1), 1, none⟩ = some (.int .u8 co) := fun x => x.block zd gd1
  have Fd2 : ∀ x : Later w6.heap.size w6, x.u.cell? ⟨(w2.heap.size + 1), 2, none⟩ = some (.int .u16 su) := fun x => x.block zd gd2
  have Fd3 : ∀ x : Later w6.heap.size w6, x.u.cell? ⟨(w2.heap.size + 1), 3, none⟩ = some (.string r) := fun x => x.block zd gd3
  have Fd4 : ∀ x : Later w6.heap.size w6, x.u.cell? ⟨(w2.heap.size + 1), 4, none⟩ = some (.string d) := fun x => x.block zd gd4
  clear gd0 gd1 gd2 gd3 gd4
  refine region_later (B := w6.heap.size) (by kernel_rfl) (by kernel_rfl) ?_
  repeat (go_big_quiet_step (first
    | (go_at_call 14; exact later_of _ (Nat.le_refl _) (k7 _))
    | (go_at_call 15; exact later_of _ (Nat.le_refl _) (k8 _))
    | (go_at_call 16; exact later_of _ (Nat.le_refl _) (k9 _))
    | (go_at_call 17; exact later_of _ (Nat.le_refl _) (k10 _))
    | (go_at_call 18; exact later_of _ (Nat.le_refl _) (k11 _))
    | (go_at_call 19; exact later_of _ (Nat.le_refl _) (k12 _))
    | (go_at_call 7; exact later_of _ (Nat.le_refl _) (echoed_ K _))))
  refine later_end fun w7 x7 => ?_
  have A_41 := A_36.on x7
  have X_42 := X_37.on x7
  have Y_43 := Y_38.on x7
  have D_44 := D_39.on x7
  have B45 := B40.trans (x7.mono B40.size)
  clear Fa0 Fa1 Fa2 Fa3 Fa4 za Fx0 Fx1 Fx2 Fx3 Fx4 zx Fy0 Fy1 Fy2 Fy3 Fy4 zy Fd0 Fd1 Fd2 Fd3 Fd4 zd A_36 X_37 Y_38 D_39 B40 x7
  go_wp2
  go_ret
  exact ⟨rfl, B45⟩
end Go.Proofs.Ytlcgpjeggelbaaa.IcmpTell
