/- The walk of EmbedsInner, the chapter's examples (J) being a premise. -/
import Derived.Test.YtbpicngbjggblaaGreatDoorHb
import Derived.Test.YtbpicngbjggblaaGreatDoorGc
import Derived.Deep.DeepCutAuto
namespace Go.Proofs.YtbpicngbjggblaaGreatDoor
set_option linter.unusedVariables false
set_option linter.unusedSimpArgs false
open Go.ChangeShapes Go.WideShapes Go.ChangeAt Go.RowKit Go.PlainAid
attribute [local go_sem ↓] Go.wp_at_zero Go.wp_at_succ
theorem tk_tr (s : ByteArray) : tkE s 1 = decide (trR s = 0) := by
  unfold tkE trR
  by_cases h : inR s = 0
  · rw [if_pos h, decide_eq_true h]
    by_cases c : bt s 8 < 2
    · rw [if_pos c]; simp; omega
    · rw [if_neg c]; simp; omega
  · rw [if_neg h, decide_eq_false h]
    simp [h]
theorem iI_yes {s : ByteArray} (h : inR s = 0) (v : Int) : iI s v = v := by unfold iI; rw [if_pos h]
theorem trB_no {s : ByteArray} (h : ¬ trR s = 0) (a m b n c k d l : Int) : trB s a m b n c k d l = ⟨#[]⟩ := by unfold trB; rw [if_neg h]
set_option maxHeartbeats 4000000 in
set_option maxRecDepth 100000 in
theorem inner10_no (J : ∀ u : World, Tab u → Calls Tryz.prog 8 #[] u fun e w' => e = .returned (.bool true) ∧ Below u.heap.size u w') (s : ByteArray) (a m b n c k d l : Int) (t0 t1 t2 t3 t4 r : Int) (e1 : decide (2500 < s.size) = false) (e2 : decide ((2500 : Int) < (s.size : Int)) = false) (e3 : (r != 0) = true) (ck : ∀ u : World, Tab u → Calls Tryz.prog 14 #[.string s, .int .u8 1] u fun e w' => e = .returned (.tuple #[.agg #[.int .u8 t0, .int .u32 t1, .int .u16 t2, .int .u32 t3, .int .u16 t4], .bool false]) ∧ Below u.heap.size u w') (ca : ∀ u : World, Tab u → Calls Tryz.prog 11 #[.string s, .agg #[.int .u32 a, .int .u16 m, .int .u32 b, .int .u16 n], .agg #[.int .u32 c, .int .u16 k, .int .u32 d, .int .u16 l]] u fun e w' => e = .returned (.tuple #[.string ⟨#[]⟩, .int .i64 r]) ∧ Below u.heap.size u w') (w : World) (ht : Tab w) :
    Calls Tryz.prog 5 #[.string s, .agg #[.int .u32 a, .int .u16 m, .int .u32 b, .int .u16 n, .int .u32 c, .int .u16 k, .int .u32 d, .int .u16 l]] w fun e w' => e = .returned (.bool true) ∧ Below w.heap.size w w' := by
  go_enter Tryz.func5, Tryz.ntmps5
  have B1 := Below.refl w.heap.size w
  go_wp2_with fail
  have C_2 := Box8.make w (.int .u32 a) (.int .u16 m) (.int .u32 b) (.int .u16 n) (.int .u32 c) (.int .u16 k) (.int .u32 d) (.int .u16 l) 30
  have B3 := B1.alloc B1.size (.cells #[.int .u32 a, .int .u16 m, .int .u32 b, .int .u16 n, .int .u32 c, .int .u16 k, .int .u32 d, .int .u16 l] 30)
  clear B1
  refine (ck _ (ht.on B3)).mono ?_; rintro e w1 ⟨rfl, x1⟩
  have C_4 := C_2.on x1
  have B5 := B3.trans (x1.mono B3.size)
  clear C_2 B3 x1
  clear ck
  have C_6 := C_4.past (o := (.cells #[.int .u8 t0, .int .u32 t1, .int .u16 t2, .int .u32 t3, .int .u16 t4] 33))
  have T_7 := Box5.make w1 (.int .u8 t0) (.int .u32 t1) (.int .u16 t2) (.int .u32 t3) (.int .u16 t4) 33
  have B8 := B5.alloc B5.size (.cells #[.int .u8 t0, .int .u32 t1, .int .u16 t2, .int .u32 t3, .int .u16 t4] 33)
  clear C_4 B5
  obtain ⟨_, c1_0, c1_1, c1_2, c1_3, c1_4, c1_5, c1_6, c1_7⟩ := id C_6
  go_wp2_with fail
  refine (ca _ (ht.on B8)).mono ?_; rintro e w2 ⟨rfl, x2⟩
  have C_9 := C_6.on x2
  have T_10 := T_7.on x2
  have B11 := B8.trans (x2.mono B8.size)
  clear c1_0 c1_1 c1_2 c1_3 c1_4 c1_5 c1_6 c1_7 C_6 T_7 B8 x2
  clear ca
  go_wp2_with fail
  refine (J _ (ht.on B11)).mono ?_; rintro e w3 ⟨rfl, x3⟩
  have C_12 := C_9.on x3
  have T_13 := T_10.on x3
  have B14 := B11.trans (x3.mono B11.size)
  clear C_9 T_10 B11 x3
  go_wp2
  go_ret
  exact ⟨rfl, B14⟩
set_option maxHeartbeats 4000000 in
set_option maxRecDepth 100000 in
theorem inner10_ports (J : ∀ u : World, Tab u → Calls Tryz.prog 8 #[] u fun e w' => e = .returned (.bool true) ∧ Below u.heap.size u w') (s U D X M N : ByteArray) (a m b n c k d l : Int) (o : Nat) (pr t1 t2 t3 t4 s0 s2 s4 s6 s8 g0 g1 g3 g4 g5 g6 gr h0 h1 h3 h4 h5 h6 hr : Int) (s7 g2 h2 hv cv : Bool) (g7 h7 : ByteArray) (e1 : decide (2500 < s.size) = false) (e2 : decide ((2500 : Int) < (s.size : Int)) = false) (zn : (D.size != X.size) = false) (zi : ((D.size : Int) != (X.size : Int)) = false) (z28 : decide (D.size < 28) = false) (y28 : decide ((D.size : Int) < 28) = false) (ew : wrap64 ((o : Int) + 8) = (o : Int) + 8) (zo : decide ((D.size : Int) < (o : Int) + 8) = false) (iD : (o : Int) ≤ (D.size : Int)) (iX : (o : Int) ≤ (X.size : Int)) (ck : ∀ u : World, Tab u → Calls Tryz.prog 14 #[.string s, .int .u8 1] u fun e w' => e = .returned (.tuple #[.agg #[.int .u8 pr, .int .u32 t1, .int .u16 t2, .int .u32 t3, .int .u16 t4], .bool true]) ∧ Below u.heap.size u w') (ca : ∀ u : World, Tab u → Calls Tryz.prog 11 #[.string s, .agg #[.int .u32 a, .int .u16 m, .int .u32 b, .int .u16 n], .agg #[.int .u32 c, .int .u16 k, .int .u32 d, .int .u16 l]] u fun e w' => e = .returned (.tuple #[.string U, .int .i64 0]) ∧ Below u.heap.size u w') (ci : ∀ u : World, Tab u → Calls Tryz.prog 9 #[.string U] u fun e w' => e = .returned (.tuple #[.agg #[.int .u8 pr, .int .u32 c, .int .u16 k, .int .u32 d, .int .u16 l], .int .i64 0]) ∧ Below u.heap.size u w') (co : ∀ u : World, Calls Tryz.prog 15 #[.string U] u fun e w' => e = .returned (.tuple #[.agg #[.int .u8 s0, .int .u32 a, .int .u16 s2, .int .u32 b, .int .u16 s4, .int .i64 3, .int .u8 s6, .bool s7, .int .u8 s8], .int .i64 0]) ∧ Below u.heap.size u w') (cd : ∀ u : World, Calls Tryz.prog 16 #[.string s] u fun e w' => e = .returned (.string D) ∧ Below u.heap.size u w') (cx : ∀ u : World, Calls Tryz.prog 16 #[.string U] u fun e w' => e = .returned (.string X) ∧ Below u.heap.size u w') (hD : ∀ u : World, Calls Tryz.prog 17 #[.string D] u fun e w' => e = .returned (.int .i64 (o : Int)) ∧ Below u.heap.size u w') (hX : ∀ u : World, Calls Tryz.prog 17 #[.string X] u fun e w' => e = .returned (.int .i64 (o : Int)) ∧ Below u.heap.size u w') (pS : ∀ u : World, Calls Tryz.prog 19 #[.string s] u fun e w' => e = .returned (.tuple #[.agg #[.int .u8 g0, .int .u16 g1, .bool g2, .int .u8 g3, .int .u8 g4, .int .u32 g5, .int .u32 g6, .string g7], .string M, .int .i64 gr]) ∧ Below u.heap.size u w') (pU : ∀ u : World, Calls Tryz.prog 19 #[.string U] u fun e w' => e = .returned (.tuple #[.agg #[.int .u8 h0, .int .u16 h1, .bool h2, .int .u8 h3, .int .u8 h4, .int .u32 h5, .int .u32 h6, .string h7], .string N, .int .i64 hr]) ∧ Below u.heap.size u w') (HD : Hid (∀ (u : World) (q : Nat), q < u.heap.size → u.cell? ⟨q, 0, none⟩ = some (.string (D.extract 0 o)) → Calls Tryz.prog 20 #[.slice (some ⟨q, 0, none⟩) 1 1] u fun e w' => e = .returned (.bool hv) ∧ Below u.heap.size u w')) (HX : Hid (∀ (u : World) (q : Nat), q < u.heap.size → u.cell? ⟨q, 0, none⟩ = some (.string (X.extract 0 o)) → Calls Tryz.prog 20 #[.slice (some ⟨q, 0, none⟩) 1 1] u fun e w' => e = .returned (.bool hv) ∧ Below u.heap.size u w')) (cM : ∀ u : World, Calls Tryz.prog 21 #[.string M] u fun e w' => e = .returned (.bool cv) ∧ Below u.heap.size u w') (cN : ∀ u : World, Calls Tryz.prog 21 #[.string N] u fun e w' => e = .returned (.bool cv) ∧ Below u.heap.size u w') (e5 : (pr == 1) = false) (w : World) (ht : Tab w) :
    Calls Tryz.prog 5 #[.string s, .agg #[.int .u32 a, .int .u16 m, .int .u32 b, .int .u16 n, .int .u32 c, .int .u16 k, .int .u32 d, .int .u16 l]] w fun e w' => e = .returned (.bool true) ∧ Below w.heap.size w w' := by
  go_enter Tryz.func5, Tryz.ntmps5
  have B1 := Below.refl w.heap.size w
  go_wp2_with fail
  have C_2 := Box8.make w (.int .u32 a) (.int .u16 m) (.int .u32 b) (.int .u16 n) (.int .u32 c) (.int .u16 k) (.int .u32 d) (.int .u16 l) 30
  have B3 := B1.alloc B1.size (.cells #[.int .u32 a, .int .u16 m, .int .u32 b, .int .u16 n, .int .u32 c, .int .u16 k, .int .u32 d, .int .u16 l] 30)
  clear B1
  refine (ck _ (ht.on B3)).mono ?_; rintro e w1 ⟨rfl, x1⟩
  have C_4 := C_2.on x1
  have B5 := B3.trans (x1.mono B3.size)
  clear C_2 B3 x1
  clear ck
  have C_6 := C_4.past (o := (.cells #[.int .u8 pr, .int .u32 t1, .int .u16 t2, .int .u32 t3, .int .u16 t4] 33))
  have T_7 := Box5.make w1 (.int .u8 pr) (.int .u32 t1) (.int .u16 t2) (.int .u32 t3) (.int .u16 t4) 33
  have B8 := B5.alloc B5.size (.cells #[.int .u8 pr, .int .u32 t1, .int .u16 t2, .int .u32 t3, .int .u16 t4] 33)
  clear C_4 B5
  obtain ⟨_, c1_0, c1_1, c1_2, c1_3, c1_4, c1_5, c1_6, c1_7⟩ := id C_6
  go_wp2_with fail
  refine (ca _ (ht.on B8)).mono ?_; rintro e w2 ⟨rfl, x2⟩
  have C_9 := C_6.on x2
  have T_10 := T_7.on x2
  have B11 := B8.trans (x2.mono B8.size)
  clear c1_0 c1_1 c1_2 c1_3 c1_4 c1_5 c1_6 c1_7 C_6 T_7 B8 x2
  clear ca
  go_wp2_with fail
  refine (ci _ (ht.on B11)).mono ?_; rintro e w3 ⟨rfl, x3⟩
  have C_12 := C_9.on x3
  have T_13 := T_10.on x3
  have B14 := B11.trans (x3.mono B11.size)
  clear C_9 T_10 B11 x3
  clear ci
  have C_15 := C_12.past (o := (.cells #[.int .u8 pr, .int .u32 c, .int .u16 k, .int .u32 d, .int .u16 l] 33))
  have T_16 := T_13.past (o := (.cells #[.int .u8 pr, .int .u32 c, .int .u16 k, .int .u32 d, .int .u16 l] 33))
  have G_17 := Box5.make w3 (.int .u8 pr) (.int .u32 c) (.int .u16 k) (.int .u32 d) (.int .u16 l) 33
  have B18 := B14.alloc B14.size (.cells #[.int .u8 pr, .int .u32 c, .int .u16 k, .int .u32 d, .int .u16 l] 33)
  clear C_12 T_13 B14
  go_wp2_with fail
  refine (co _).mono ?_; rintro e w4 ⟨rfl, x4⟩
  have C_19 := C_15.on x4
  have T_20 := T_16.on x4
  have G_21 := G_17.on x4
  have B22 := B18.trans (x4.mono B18.size)
  clear C_15 T_16 G_17 B18 x4
  clear co
  have LV := Lib.hid (And.intro (show w.heap.size < w4.heap.size from C_19.1) (And.intro (show w1.heap.size < w4.heap.size from T_20.1) (show w3.heap.size < w4.heap.size from G_21.1)))
  have C_23 := C_19.past (o := (.cells #[.int .u8 s0, .int .u32 a, .int .u16 s2, .int .u32 b, .int .u16 s4, .int .i64 3, .int .u8 s6, .bool s7, .int .u8 s8] 55))
  have T_24 := T_20.past (o := (.cells #[.int .u8 s0, .int .u32 a, .int .u16 s2, .int .u32 b, .int .u16 s4, .int .i64 3, .int .u8 s6, .bool s7, .int .u8 s8] 55))
  have G_25 := G_21.past (o := (.cells #[.int .u8 s0, .int .u32 a, .int .u16 s2, .int .u32 b, .int .u16 s4, .int .i64 3, .int .u8 s6, .bool s7, .int .u8 s8] 55))
  have S_26 := Box9.make w4 (.int .u8 s0) (.int .u32 a) (.int .u16 s2) (.int .u32 b) (.int .u16 s4) (.int .i64 3) (.int .u8 s6) (.bool s7) (.int .u8 s8) 55
  have B27 := B22.alloc B22.size (.cells #[.int .u8 s0, .int .u32 a, .int .u16 s2, .int .u32 b, .int .u16 s4, .int .i64 3, .int .u8 s6, .bool s7, .int .u8 s8] 55)
  clear C_19 T_20 G_21 B22
  obtain ⟨_, s2_0, s2_1, s2_2, s2_3, s2_4, s2_5, s2_6, s2_7, s2_8⟩ := id S_26
  obtain ⟨_, c3_0, c3_1, c3_2, c3_3, c3_4, c3_5, c3_6, c3_7⟩ := id C_23
  obtain ⟨_, t4_0, t4_1, t4_2, t4_3, t4_4⟩ := id T_24
  have C_28 := C_23.past (o := (.cells #[.int .u8 pr, .int .u32 c, .int .u16 k, .int .u32 d, .int .u16 l] 33))
  have T_29 := T_24.past (o := (.cells #[.int .u8 pr, .int .u32 c, .int .u16 k, .int .u32 d, .int .u16 l] 33))
  have G_30 := G_25.past (o := (.cells #[.int .u8 pr, .int .u32 c, .int .u16 k, .int .u32 d, .int .u16 l] 33))
  have S_31 := S_26.past (o := (.cells #[.int .u8 pr, .int .u32 c, .int .u16 k, .int .u32 d, .int .u16 l] 33))
  have hs_ : (w4.alloc (.cells #[.int .u8 s0, .int .u32 a, .int .u16 s2, .int .u32 b, .int .u16 s4, .int .i64 3, .int .u8 s6, .bool s7, .int .u8 s8] 55)).heap.size = w4.heap.size + 1 := by simp
  have V_32 := Box5.make (w4.alloc (.cells #[.int .u8 s0, .int .u32 a, .int .u16 s2, .int .u32 b, .int .u16 s4, .int .i64 3, .int .u8 s6, .bool s7, .int .u8 s8] 55)) (.int .u8 pr) (.int .u32 c) (.int .u16 k) (.int .u32 d) (.int .u16 l) 33
  rw [hs_] at V_32
  clear hs_
  have B33 := B27.alloc B27.size (.cells #[.int .u8 pr, .int .u32 c, .int .u16 k, .int .u32 d, .int .u16 l] 33)
  clear C_23 T_24 G_25 S_26 B27
  have fzV_34 : ∀ i, ((w4.alloc (.cells #[.int .u8 s0, .int .u32 a, .int .u16 s2, .int .u32 b, .int .u16 s4, .int .i64 3, .int .u8 s6, .bool s7, .int .u8 s8] 55)).alloc (.cells #[.int .u8 pr, .int .u32 c, .int .u16 k, .int .u32 d, .int .u16 l] 33)).frozen? ⟨(w4.heap.size + 1), i, none⟩ = false := by intro i; simp [go_sem]
  go_wp2_with fail
  clear S_31
  refine (cd _).mono ?_; rintro e w5 ⟨rfl, x5⟩
  have fzV_35 : ∀ i, w5.frozen? ⟨(w4.heap.size + 1), i, none⟩ = false := fun i => (x5.frozen (p := ⟨_, i, none⟩) V_32.1).trans (fzV_34 i)
  clear fzV_34
  have C_36 := C_28.on x5
  have T_37 := T_29.on x5
  have G_38 := G_30.on x5
  have V_39 := V_32.on x5
  have B40 := B33.trans (x5.mono B33.size)
  clear s2_0 s2_1 s2_2 s2_3 s2_4 s2_5 s2_6 s2_7 s2_8 c3_0 c3_1 c3_2 c3_3 c3_4 c3_5 c3_6 c3_7 t4_0 t4_1 t4_2 t4_3 t4_4 C_28 T_29 G_30 V_32 B33 x5
  clear cd
  go_wp2_with fail
  refine (cx _).mono ?_; rintro e w6 ⟨rfl, x6⟩
  have fzV_41 : ∀ i, w6.frozen? ⟨(w4.heap.size + 1), i, none⟩ = false := fun i => (x6.frozen (p := ⟨_, i, none⟩) V_39.1).trans (fzV_35 i)
  clear fzV_35
  have C_42 := C_36.on x6
  have T_43 := T_37.on x6
  have G_44 := G_38.on x6
  have V_45 := V_39.on x6
  have B46 := B40.trans (x6.mono B40.size)
  clear C_36 T_37 G_38 V_39 B40 x6
  clear cx
  go_wp2_with fail
  refine (hX _).mono ?_; rintro e w7 ⟨rfl, x7⟩
  have fzV_47 : ∀ i, w7.frozen? ⟨(w4.heap.size + 1), i, none⟩ = false := fun i => (x7.frozen (p := ⟨_, i, none⟩) V_45.1).trans (fzV_41 i)
  clear fzV_41
  have C_48 := C_42.on x7
  have T_49 := T_43.on x7
  have G_50 := G_44.on x7
  have V_51 := V_45.on x7
  have B52 := B46.trans (x7.mono B46.size)
  clear C_42 T_43 G_44 V_45 B46 x7
  go_wp2_with fail
  refine (hD _).mono ?_; rintro e w8 ⟨rfl, x8⟩
  have fzV_53 : ∀ i, w8.frozen? ⟨(w4.heap.size + 1), i, none⟩ = false := fun i => (x8.frozen (p := ⟨_, i, none⟩) V_51.1).trans (fzV_47 i)
  clear fzV_47
  have C_54 := C_48.on x8
  have T_55 := T_49.on x8
  have G_56 := G_50.on x8
  have V_57 := V_51.on x8
  have B58 := B52.trans (x8.mono B52.size)
  clear C_48 T_49 G_50 V_51 B52 x8
  go_wp2_with fail
  refine (hD _).mono ?_; rintro e w9 ⟨rfl, x9⟩
  have fzV_59 : ∀ i, w9.frozen? ⟨(w4.heap.size + 1), i, none⟩ = false := fun i => (x9.frozen (p := ⟨_, i, none⟩) V_57.1).trans (fzV_53 i)
  clear fzV_53
  have C_60 := C_54.on x9
  have T_61 := T_55.on x9
  have G_62 := G_56.on x9
  have V_63 := V_57.on x9
  have B64 := B58.trans (x9.mono B58.size)
  clear C_54 T_55 G_56 V_57 B58 x9
  clear C_60
  obtain ⟨_, t5_0, t5_1, t5_2, t5_3, t5_4⟩ := id T_61
  go_wp2_with fail
  refine (pS _).mono ?_; rintro e w10 ⟨rfl, x10⟩
  have fzV_65 : ∀ i, w10.frozen? ⟨(w4.heap.size + 1), i, none⟩ = false := fun i => (x10.frozen (p := ⟨_, i, none⟩) V_63.1).trans (fzV_59 i)
  clear fzV_59
  have T_66 := T_61.on x10
  have G_67 := G_62.on x10
  have V_68 := V_63.on x10
  have B69 := B64.trans (x10.mono B64.size)
  clear t5_0 t5_1 t5_2 t5_3 t5_4 T_61 G_62 V_63 B64 x10
  clear pS
  clear T_66
  have fzV_70 : ∀ i, (w10.alloc (.cells #[.int .u8 g0, .int .u16 g1, .bool g2, .int .u8 g3, .int .u8 g4, .int .u32 g5, .int .u32 g6, .string g7] 64)).frozen? ⟨(w4.heap.size + 1), i, none⟩ = false := fun i => (((Below.refl w10.heap.size w10).alloc (Nat.le_refl _) (.cells #[.int .u8 g0, .int .u16 g1, .bool g2, .int .u8 g3, .int .u8 g4, .int .u32 g5, .int .u32 g6, .string g7] 64)).frozen (p := ⟨_, i, none⟩) V_68.1).trans (fzV_65 i)
  clear fzV_65
  have G_71 := G_67.past (o := (.cells #[.int .u8 g0, .int .u16 g1, .bool g2, .int .u8 g3, .int .u8 g4, .int .u32 g5, .int .u32 g6, .string g7] 64))
  have V_72 := V_68.past (o := (.cells #[.int .u8 g0, .int .u16 g1, .bool g2, .int .u8 g3, .int .u8 g4, .int .u32 g5, .int .u32 g6, .string g7] 64))
  have B73 := B69.alloc B69.size (.cells #[.int .u8 g0, .int .u16 g1, .bool g2, .int .u8 g3, .int .u8 g4, .int .u32 g5, .int .u32 g6, .string g7] 64)
  clear G_67 V_68 B69
  go_wp2_with fail
  refine (pU _).mono ?_; rintro e w11 ⟨rfl, x11⟩
  have fzV_74 : ∀ i, w11.frozen? ⟨(w4.heap.size + 1), i, none⟩ = false := fun i => (x11.frozen (p := ⟨_, i, none⟩) V_72.1).trans (fzV_70 i)
  clear fzV_70
  have G_75 := G_71.on x11
  have V_76 := V_72.on x11
  have B77 := B73.trans (x11.mono B73.size)
  clear G_71 V_72 B73 x11
  clear pU
  have fzV_78 : ∀ i, (w11.alloc (.cells #[.int .u8 h0, .int .u16 h1, .bool h2, .int .u8 h3, .int .u8 h4, .int .u32 h5, .int .u32 h6, .string h7] 64)).frozen? ⟨(w4.heap.size + 1), i, none⟩ = false := fun i => (((Below.refl w11.heap.size w11).alloc (Nat.le_refl _) (.cells #[.int .u8 h0, .int .u16 h1, .bool h2, .int .u8 h3, .int .u8 h4, .int .u32 h5, .int .u32 h6, .string h7] 64)).frozen (p := ⟨_, i, none⟩) V_76.1).trans (fzV_74 i)
  clear fzV_74
  have G_79 := G_75.past (o := (.cells #[.int .u8 h0, .int .u16 h1, .bool h2, .int .u8 h3, .int .u8 h4, .int .u32 h5, .int .u32 h6, .string h7] 64))
  have V_80 := V_76.past (o := (.cells #[.int .u8 h0, .int .u16 h1, .bool h2, .int .u8 h3, .int .u8 h4, .int .u32 h5, .int .u32 h6, .string h7] 64))
  have B81 := B77.alloc B77.size (.cells #[.int .u8 h0, .int .u16 h1, .bool h2, .int .u8 h3, .int .u8 h4, .int .u32 h5, .int .u32 h6, .string h7] 64)
  clear G_75 V_76 B77
  obtain ⟨_, g6_0, g6_1, g6_2, g6_3, g6_4⟩ := id G_79
  obtain ⟨_, v7_0, v7_1, v7_2, v7_3, v7_4⟩ := id V_80
  go_wp2_with fail
  clear G_79 V_80
  clear fzV_78
  refine (hD _).mono ?_; rintro e w12 ⟨rfl, x12⟩
  have B82 := B81.trans (x12.mono B81.size)
  clear g6_0 g6_1 g6_2 g6_3 g6_4 v7_0 v7_1 v7_2 v7_3 v7_4 B81 x12
  clear hD
  go_wp2_with fail
  have B83 := B82.alloc B82.size (.cells #[.string (D.extract 0 o)] 9)
  clear B82
  refine (HD.out _ _ (by simp) (by simp [go_sem])).mono ?_; rintro e w13 ⟨rfl, x13⟩
  have B84 := B83.trans (x13.mono B83.size)
  clear B83 x13
  clear HD
  go_wp2_with fail
  refine (hX _).mono ?_; rintro e w14 ⟨rfl, x14⟩
  have B85 := B84.trans (x14.mono B84.size)
  clear B84 x14
  clear hX
  go_wp2_with fail
  have B86 := B85.alloc B85.size (.cells #[.string (X.extract 0 o)] 9)
  clear B85
  refine (HX.out _ _ (by simp) (by simp [go_sem])).mono ?_; rintro e w15 ⟨rfl, x15⟩
  have B87 := B86.trans (x15.mono B86.size)
  clear B86 x15
  clear HX
  go_wp2_with fail
  refine (cM _).mono ?_; rintro e w16 ⟨rfl, x16⟩
  have B88 := B87.trans (x16.mono B87.size)
  clear B87 x16
  clear cM
  go_wp2_with fail
  refine (cN _).mono ?_; rintro e w17 ⟨rfl, x17⟩
  have B89 := B88.trans (x17.mono B88.size)
  clear B88 x17
  clear cN
  go_wp2_with fail
  refine (J _ (ht.on B89)).mono ?_; rintro e w18 ⟨rfl, x18⟩
  have B90 := B89.trans (x18.mono B89.size)
  clear B89 x18
  go_wp2
  go_ret
  exact ⟨rfl, B90⟩
set_option maxHeartbeats 4000000 in
set_option maxRecDepth 100000 in
theorem inner10_ask (J : ∀ u : World, Tab u → Calls Tryz.prog 8 #[] u fun e w' => e = .returned (.bool true) ∧ Below u.heap.size u w') (s U D X M N : ByteArray) (a m b n c k d l : Int) (o : Nat) (t1 t2 t3 t4 s0 s2 s4 s6 s8 g0 g1 g3 g4 g5 g6 gr h0 h1 h3 h4 h5 h6 hr : Int) (s7 g2 h2 hv cv : Bool) (g7 h7 : ByteArray) (e1 : decide (2500 < s.size) = false) (e2 : decide ((2500 : Int) < (s.size : Int)) = false) (zn : (D.size != X.size) = false) (zi : ((D.size : Int) != (X.size : Int)) = false) (z28 : decide (D.size < 28) = false) (y28 : decide ((D.size : Int) < 28) = false) (ew : wrap64 ((o : Int) + 8) = (o : Int) + 8) (zo : decide ((D.size : Int) < (o : Int) + 8) = false) (iD : (o : Int) ≤ (D.size : Int)) (iX : (o : Int) ≤ (X.size : Int)) (ck : ∀ u : World, Tab u → Calls Tryz.prog 14 #[.string s, .int .u8 1] u fun e w' => e = .returned (.tuple #[.agg #[.int .u8 1, .int .u32 t1, .int .u16 t2, .int .u32 t3, .int .u16 t4], .bool true]) ∧ Below u.heap.size u w') (ca : ∀ u : World, Tab u → Calls Tryz.prog 11 #[.string s, .agg #[.int .u32 a, .int .u16 m, .int .u32 b, .int .u16 n], .agg #[.int .u32 c, .int .u16 k, .int .u32 d, .int .u16 l]] u fun e w' => e = .returned (.tuple #[.string U, .int .i64 0]) ∧ Below u.heap.size u w') (ci : ∀ u : World, Tab u → Calls Tryz.prog 9 #[.string U] u fun e w' => e = .returned (.tuple #[.agg #[.int .u8 1, .int .u32 c, .int .u16 k, .int .u32 d, .int .u16 0], .int .i64 0]) ∧ Below u.heap.size u w') (co : ∀ u : World, Calls Tryz.prog 15 #[.string U] u fun e w' => e = .returned (.tuple #[.agg #[.int .u8 s0, .int .u32 a, .int .u16 s2, .int .u32 b, .int .u16 s4, .int .i64 3, .int .u8 s6, .bool s7, .int .u8 s8], .int .i64 0]) ∧ Below u.heap.size u w') (cd : ∀ u : World, Calls Tryz.prog 16 #[.string s] u fun e w' => e = .returned (.string D) ∧ Below u.heap.size u w') (cx : ∀ u : World, Calls Tryz.prog 16 #[.string U] u fun e w' => e = .returned (.string X) ∧ Below u.heap.size u w') (hD : ∀ u : World, Calls Tryz.prog 17 #[.string D] u fun e w' => e = .returned (.int .i64 (o : Int)) ∧ Below u.heap.size u w') (hX : ∀ u : World, Calls Tryz.prog 17 #[.string X] u fun e w' => e = .returned (.int .i64 (o : Int)) ∧ Below u.heap.size u w') (pS : ∀ u : World, Calls Tryz.prog 19 #[.string s] u fun e w' => e = .returned (.tuple #[.agg #[.int .u8 g0, .int .u16 g1, .bool g2, .int .u8 g3, .int .u8 g4, .int .u32 g5, .int .u32 g6, .string g7], .string M, .int .i64 gr]) ∧ Below u.heap.size u w') (pU : ∀ u : World, Calls Tryz.prog 19 #[.string U] u fun e w' => e = .returned (.tuple #[.agg #[.int .u8 h0, .int .u16 h1, .bool h2, .int .u8 h3, .int .u8 h4, .int .u32 h5, .int .u32 h6, .string h7], .string N, .int .i64 hr]) ∧ Below u.heap.size u w') (HD : Hid (∀ (u : World) (q : Nat), q < u.heap.size → u.cell? ⟨q, 0, none⟩ = some (.string (D.extract 0 o)) → Calls Tryz.prog 20 #[.slice (some ⟨q, 0, none⟩) 1 1] u fun e w' => e = .returned (.bool hv) ∧ Below u.heap.size u w')) (HX : Hid (∀ (u : World) (q : Nat), q < u.heap.size → u.cell? ⟨q, 0, none⟩ = some (.string (X.extract 0 o)) → Calls Tryz.prog 20 #[.slice (some ⟨q, 0, none⟩) 1 1] u fun e w' => e = .returned (.bool hv) ∧ Below u.heap.size u w')) (cM : ∀ u : World, Calls Tryz.prog 21 #[.string M] u fun e w' => e = .returned (.bool cv) ∧ Below u.heap.size u w') (cN : ∀ u : World, Calls Tryz.prog 21 #[.string N] u fun e w' => e = .returned (.bool cv) ∧ Below u.heap.size u w') (io : (o : Int) < (D.size : Int)) (yq : Bool) (cq : ∀ u : World, Calls Tryz.prog 18 #[.agg #[.int .u8 (bt D o), .int .u8 0, .int .u16 0, .string ⟨#[]⟩, .string ⟨#[]⟩]] u fun e w' => e = .returned (.tuple #[.bool true, .bool yq]) ∧ Below u.heap.size u w')  (w : World) (ht : Tab w) :
    Calls Tryz.prog 5 #[.string s, .agg #[.int .u32 a, .int .u16 m, .int .u32 b, .int .u16 n, .int .u32 c, .int .u16 k, .int .u32 d, .int .u16 l]] w fun e w' => e = .returned (.bool true) ∧ Below w.heap.size w w' := by
  have hgD := get_bt D
  go_enter Tryz.func5, Tryz.ntmps5
  have B1 := Below.refl w.heap.size w
  go_wp2_with fail
  have C_2 := Box8.make w (.int .u32 a) (.int .u16 m) (.int .u32 b) (.int .u16 n) (.int .u32 c) (.int .u16 k) (.int .u32 d) (.int .u16 l) 30
  have B3 := B1.alloc B1.size (.cells #[.int .u32 a, .int .u16 m, .int .u32 b, .int .u16 n, .int .u32 c, .int .u16 k, .int .u32 d, .int .u16 l] 30)
  clear B1
  refine (ck _ (ht.on B3)).mono ?_; rintro e w1 ⟨rfl, x1⟩
  have C_4 := C_2.on x1
  have B5 := B3.trans (x1.mono B3.size)
  clear C_2 B3 x1
  clear ck
  have C_6 := C_4.past (o := (.cells #[.int .u8 1, .int .u32 t1, .int .u16 t2, .int .u32 t3, .int .u16 t4] 33))
  have T_7 := Box5.make w1 (.int .u8 1) (.int .u32 t1) (.int .u16 t2) (.int .u32 t3) (.int .u16 t4) 33
  have B8 := B5.alloc B5.size (.cells #[.int .u8 1, .int .u32 t1, .int .u16 t2, .int .u32 t3, .int .u16 t4] 33)
  clear C_4 B5
  obtain ⟨_, c1_0, c1_1, c1_2, c1_3, c1_4, c1_5, c1_6, c1_7⟩ := id C_6
  go_wp2_with fail
  refine (ca _ (ht.on B8)).mono ?_; rintro e w2 ⟨rfl, x2⟩
  have C_9 := C_6.on x2
  have T_10 := T_7.on x2
  have B11 := B8.trans (x2.mono B8.size)
  clear c1_0 c1_1 c1_2 c1_3 c1_4 c1_5 c1_6 c1_7 C_6 T_7 B8 x2
  clear ca
  go_wp2_with fail
  refine (ci _ (ht.on B11)).mono ?_; rintro e w3 ⟨rfl, x3⟩
  have C_12 := C_9.on x3
  have T_13 := T_10.on x3
  have B14 := B11.trans (x3.mono B11.size)
  clear C_9 T_10 B11 x3
  clear ci
  have C_15 := C_12.past (o := (.cells #[.int .u8 1, .int .u32 c, .int .u16 k, .int .u32 d, .int .u16 0] 33))
  have T_16 := T_13.past (o := (.cells #[.int .u8 1, .int .u32 c, .int .u16 k, .int .u32 d, .int .u16 0] 33))
  have G_17 := Box5.make w3 (.int .u8 1) (.int .u32 c) (.int .u16 k) (.int .u32 d) (.int .u16 0) 33
  have B18 := B14.alloc B14.size (.cells #[.int .u8 1, .int .u32 c, .int .u16 k, .int .u32 d, .int .u16 0] 33)
  clear C_12 T_13 B14
  go_wp2_with fail
  refine (co _).mono ?_; rintro e w4 ⟨rfl, x4⟩
  have C_19 := C_15.on x4
  have T_20 := T_16.on x4
  have G_21 := G_17.on x4
  have B22 := B18.trans (x4.mono B18.size)
  clear C_15 T_16 G_17 B18 x4
  clear co
  have LV := Lib.hid (And.intro (show w.heap.size < w4.heap.size from C_19.1) (And.intro (show w1.heap.size < w4.heap.size from T_20.1) (show w3.heap.size < w4.heap.size from G_21.1)))
  have C_23 := C_19.past (o := (.cells #[.int .u8 s0, .int .u32 a, .int .u16 s2, .int .u32 b, .int .u16 s4, .int .i64 3, .int .u8 s6, .bool s7, .int .u8 s8] 55))
  have T_24 := T_20.past (o := (.cells #[.int .u8 s0, .int .u32 a, .int .u16 s2, .int .u32 b, .int .u16 s4, .int .i64 3, .int .u8 s6, .bool s7, .int .u8 s8] 55))
  have G_25 := G_21.past (o := (.cells #[.int .u8 s0, .int .u32 a, .int .u16 s2, .int .u32 b, .int .u16 s4, .int .i64 3, .int .u8 s6, .bool s7, .int .u8 s8] 55))
  have S_26 := Box9.make w4 (.int .u8 s0) (.int .u32 a) (.int .u16 s2) (.int .u32 b) (.int .u16 s4) (.int .i64 3) (.int .u8 s6) (.bool s7) (.int .u8 s8) 55
  have B27 := B22.alloc B22.size (.cells #[.int .u8 s0, .int .u32 a, .int .u16 s2, .int .u32 b, .int .u16 s4, .int .i64 3, .int .u8 s6, .bool s7, .int .u8 s8] 55)
  clear C_19 T_20 G_21 B22
  obtain ⟨_, s2_0, s2_1, s2_2, s2_3, s2_4, s2_5, s2_6, s2_7, s2_8⟩ := id S_26
  obtain ⟨_, c3_0, c3_1, c3_2, c3_3, c3_4, c3_5, c3_6, c3_7⟩ := id C_23
  obtain ⟨_, t4_0, t4_1, t4_2, t4_3, t4_4⟩ := id T_24
  have C_28 := C_23.past (o := (.cells #[.int .u8 1, .int .u32 c, .int .u16 k, .int .u32 d, .int .u16 l] 33))
  have T_29 := T_24.past (o := (.cells #[.int .u8 1, .int .u32 c, .int .u16 k, .int .u32 d, .int .u16 l] 33))
  have G_30 := G_25.past (o := (.cells #[.int .u8 1, .int .u32 c, .int .u16 k, .int .u32 d, .int .u16 l] 33))
  have S_31 := S_26.past (o := (.cells #[.int .u8 1, .int .u32 c, .int .u16 k, .int .u32 d, .int .u16 l] 33))
  have hs_ : (w4.alloc (.cells #[.int .u8 s0, .int .u32 a, .int .u16 s2, .int .u32 b, .int .u16 s4, .int .i64 3, .int .u8 s6, .bool s7, .int .u8 s8] 55)).heap.size = w4.heap.size + 1 := by simp
  have V_32 := Box5.make (w4.alloc (.cells #[.int .u8 s0, .int .u32 a, .int .u16 s2, .int .u32 b, .int .u16 s4, .int .i64 3, .int .u8 s6, .bool s7, .int .u8 s8] 55)) (.int .u8 1) (.int .u32 c) (.int .u16 k) (.int .u32 d) (.int .u16 l) 33
  rw [hs_] at V_32
  clear hs_
  have B33 := B27.alloc B27.size (.cells #[.int .u8 1, .int .u32 c, .int .u16 k, .int .u32 d, .int .u16 l] 33)
  clear C_23 T_24 G_25 S_26 B27
  have fzV_34 : ∀ i, ((w4.alloc (.cells #[.int .u8 s0, .int .u32 a, .int .u16 s2, .int .u32 b, .int .u16 s4, .int .i64 3, .int .u8 s6, .bool s7, .int .u8 s8] 55)).alloc (.cells #[.int .u8 1, .int .u32 c, .int .u16 k, .int .u32 d, .int .u16 l] 33)).frozen? ⟨(w4.heap.size + 1), i, none⟩ = false := by intro i; simp [go_sem]
  go_wp2_with fail
  clear S_31
  refine (cd _).mono ?_; rintro e w5 ⟨rfl, x5⟩
  have fzV_35 : ∀ i, w5.frozen? ⟨(w4.heap.size + 1), i, none⟩ = false := fun i => (x5.frozen (p := ⟨_, i, none⟩) V_32.1).trans (fzV_34 i)
  clear fzV_34
  have C_36 := C_28.on x5
  have T_37 := T_29.on x5
  have G_38 := G_30.on x5
  have V_39 := V_32.on x5
  have B40 := B33.trans (x5.mono B33.size)
  clear s2_0 s2_1 s2_2 s2_3 s2_4 s2_5 s2_6 s2_7 s2_8 c3_0 c3_1 c3_2 c3_3 c3_4 c3_5 c3_6 c3_7 t4_0 t4_1 t4_2 t4_3 t4_4 C_28 T_29 G_30 V_32 B33 x5
  clear cd
  go_wp2_with fail
  refine (cx _).mono ?_; rintro e w6 ⟨rfl, x6⟩
  have fzV_41 : ∀ i, w6.frozen? ⟨(w4.heap.size + 1), i, none⟩ = false := fun i => (x6.frozen (p := ⟨_, i, none⟩) V_39.1).trans (fzV_35 i)
  clear fzV_35
  have C_42 := C_36.on x6
  have T_43 := T_37.on x6
  have G_44 := G_38.on x6
  have V_45 := V_39.on x6
  have B46 := B40.trans (x6.mono B40.size)
  clear C_36 T_37 G_38 V_39 B40 x6
  clear cx
  go_wp2_with fail
  refine (hX _).mono ?_; rintro e w7 ⟨rfl, x7⟩
  have fzV_47 : ∀ i, w7.frozen? ⟨(w4.heap.size + 1), i, none⟩ = false := fun i => (x7.frozen (p := ⟨_, i, none⟩) V_45.1).trans (fzV_41 i)
  clear fzV_41
  have C_48 := C_42.on x7
  have T_49 := T_43.on x7
  have G_50 := G_44.on x7
  have V_51 := V_45.on x7
  have B52 := B46.trans (x7.mono B46.size)
  clear C_42 T_43 G_44 V_45 B46 x7
  go_wp2_with fail
  refine (hD _).mono ?_; rintro e w8 ⟨rfl, x8⟩
  have fzV_53 : ∀ i, w8.frozen? ⟨(w4.heap.size + 1), i, none⟩ = false := fun i => (x8.frozen (p := ⟨_, i, none⟩) V_51.1).trans (fzV_47 i)
  clear fzV_47
  have C_54 := C_48.on x8
  have T_55 := T_49.on x8
  have G_56 := G_50.on x8
  have V_57 := V_51.on x8
  have B58 := B52.trans (x8.mono B52.size)
  clear C_48 T_49 G_50 V_51 B52 x8
  go_wp2_with fail
  refine (hD _).mono ?_; rintro e w9 ⟨rfl, x9⟩
  have fzV_59 : ∀ i, w9.frozen? ⟨(w4.heap.size + 1), i, none⟩ = false := fun i => (x9.frozen (p := ⟨_, i, none⟩) V_57.1).trans (fzV_53 i)
  clear fzV_53
  have C_60 := C_54.on x9
  have T_61 := T_55.on x9
  have G_62 := G_56.on x9
  have V_63 := V_57.on x9
  have B64 := B58.trans (x9.mono B58.size)
  clear C_54 T_55 G_56 V_57 B58 x9
  clear C_60
  obtain ⟨_, t5_0, t5_1, t5_2, t5_3, t5_4⟩ := id T_61
  go_wp2_with fail
  refine (hD _).mono ?_; rintro e w10 ⟨rfl, x10⟩
  have fzV_65 : ∀ i, w10.frozen? ⟨(w4.heap.size + 1), i, none⟩ = false := fun i => (x10.frozen (p := ⟨_, i, none⟩) V_63.1).trans (fzV_59 i)
  clear fzV_59
  have T_66 := T_61.on x10
  have G_67 := G_62.on x10
  have V_68 := V_63.on x10
  have B69 := B64.trans (x10.mono B64.size)
  clear t5_0 t5_1 t5_2 t5_3 t5_4 T_61 G_62 V_63 B64 x10
  go_wp2_with fail
  refine (cq _).mono ?_; rintro e w11 ⟨rfl, x11⟩
  have fzV_70 : ∀ i, w11.frozen? ⟨(w4.heap.size + 1), i, none⟩ = false := fun i => (x11.frozen (p := ⟨_, i, none⟩) V_68.1).trans (fzV_65 i)
  clear fzV_65
  have T_71 := T_66.on x11
  have G_72 := G_67.on x11
  have V_73 := V_68.on x11
  have B74 := B69.trans (x11.mono B69.size)
  clear T_66 G_67 V_68 B69 x11
  clear cq
  have ne1_ : ¬ w4.heap.size + 1 = w1.heap.size := by have := LV.out.2.1; omega
  have ne2_ : ¬ w1.heap.size = w4.heap.size + 1 := by have := LV.out.2.1; omega
  have ne3_ : ¬ w4.heap.size + 1 = w3.heap.size := by have := LV.out.2.2; omega
  have ne4_ : ¬ w3.heap.size = w4.heap.size + 1 := by have := LV.out.2.2; omega
  obtain ⟨_, v6_0, v6_1, v6_2, v6_3, v6_4⟩ := id V_73
  go_upto_region 20 with fail
  clear v6_0 v6_1 v6_2 v6_3 v6_4
  obtain ⟨_, t7_0, t7_1, t7_2, t7_3, t7_4⟩ := id T_71
  obtain ⟨_, g8_0, g8_1, g8_2, g8_3, g8_4⟩ := id G_72
  obtain ⟨_, v9_0, v9_1, v9_2, v9_3, v9_4⟩ := id V_73
  have B75 := (B74.setCell (p := ⟨(w4.heap.size + 1), 4, none⟩) (by have := LV.out.1; show w.heap.size ≤ w4.heap.size + 1; omega) (.int .u16 0))
  have T_76 : Box5 (w11.setCell ⟨(w4.heap.size + 1), 4, none⟩ (.int .u16 0)) w1.heap.size (.int .u8 1) (.int .u32 t1) (.int .u16 t2) (.int .u32 t3) (.int .u16 t4) := ⟨by have := T_71.1; simpa using this, by simp [go_sem, t7_0, t7_1, t7_2, t7_3, t7_4, g8_0, g8_1, g8_2, g8_3, g8_4, v9_0, v9_1, v9_2, v9_3, v9_4], by simp [go_sem, t7_0, t7_1, t7_2, t7_3, t7_4, g8_0, g8_1, g8_2, g8_3, g8_4, v9_0, v9_1, v9_2, v9_3, v9_4], by simp [go_sem, t7_0, t7_1, t7_2, t7_3, t7_4, g8_0, g8_1, g8_2, g8_3, g8_4, v9_0, v9_1, v9_2, v9_3, v9_4], by simp [go_sem, t7_0, t7_1, t7_2, t7_3, t7_4, g8_0, g8_1, g8_2, g8_3, g8_4, v9_0, v9_1, v9_2, v9_3, v9_4], by simp [go_sem, t7_0, t7_1, t7_2, t7_3, t7_4, g8_0, g8_1, g8_2, g8_3, g8_4, v9_0, v9_1, v9_2, v9_3, v9_4]⟩
  have G_77 : Box5 (w11.setCell ⟨(w4.heap.size + 1), 4, none⟩ (.int .u16 0)) w3.heap.size (.int .u8 1) (.int .u32 c) (.int .u16 k) (.int .u32 d) (.int .u16 0) := ⟨by have := G_72.1; simpa using this, by simp [go_sem, t7_0, t7_1, t7_2, t7_3, t7_4, g8_0, g8_1, g8_2, g8_3, g8_4, v9_0, v9_1, v9_2, v9_3, v9_4], by simp [go_sem, t7_0, t7_1, t7_2, t7_3, t7_4, g8_0, g8_1, g8_2, g8_3, g8_4, v9_0, v9_1, v9_2, v9_3, v9_4], by simp [go_sem, t7_0, t7_1, t7_2, t7_3, t7_4, g8_0, g8_1, g8_2, g8_3, g8_4, v9_0, v9_1, v9_2, v9_3, v9_4], by simp [go_sem, t7_0, t7_1, t7_2, t7_3, t7_4, g8_0, g8_1, g8_2, g8_3, g8_4, v9_0, v9_1, v9_2, v9_3, v9_4], by simp [go_sem, t7_0, t7_1, t7_2, t7_3, t7_4, g8_0, g8_1, g8_2, g8_3, g8_4, v9_0, v9_1, v9_2, v9_3, v9_4]⟩
  have V_78 : Box5 (w11.setCell ⟨(w4.heap.size + 1), 4, none⟩ (.int .u16 0)) (w4.heap.size + 1) (.int .u8 1) (.int .u32 c) (.int .u16 k) (.int .u32 d) (.int .u16 0) := ⟨by have := V_73.1; simpa using this, by simp [go_sem, t7_0, t7_1, t7_2, t7_3, t7_4, g8_0, g8_1, g8_2, g8_3, g8_4, v9_0, v9_1, v9_2, v9_3, v9_4], by simp [go_sem, t7_0, t7_1, t7_2, t7_3, t7_4, g8_0, g8_1, g8_2, g8_3, g8_4, v9_0, v9_1, v9_2, v9_3, v9_4], by simp [go_sem, t7_0, t7_1, t7_2, t7_3, t7_4, g8_0, g8_1, g8_2, g8_3, g8_4, v9_0, v9_1, v9_2, v9_3, v9_4], by simp [go_sem, t7_0, t7_1, t7_2, t7_3, t7_4, g8_0, g8_1, g8_2, g8_3, g8_4, v9_0, v9_1, v9_2, v9_3, v9_4], by simp [go_sem, t7_0, t7_1, t7_2, t7_3, t7_4, g8_0, g8_1, g8_2, g8_3, g8_4, v9_0, v9_1, v9_2, v9_3, v9_4]⟩
  have fzV_79 : ∀ i, (w11.setCell ⟨(w4.heap.size + 1), 4, none⟩ (.int .u16 0)).frozen? ⟨(w4.heap.size + 1), i, none⟩ = false := by intro i; simp [fzV_70]
  clear t7_0 t7_1 t7_2 t7_3 t7_4 g8_0 g8_1 g8_2 g8_3 g8_4 v9_0 v9_1 v9_2 v9_3 v9_4 T_71 G_72 V_73 fzV_70 B74
  obtain ⟨u12, hu12⟩ : ∃ x, x = (w11.setCell ⟨(w4.heap.size + 1), 4, none⟩ (.int .u16 0)) := ⟨_, rfl⟩
  rw [← hu12] at T_76 G_77 V_78 fzV_79 B75 ⊢
  clear hu12
  go_wp2_with fail
  refine (pS _).mono ?_; rintro e w13 ⟨rfl, x13⟩
  have fzV_80 : ∀ i, w13.frozen? ⟨(w4.heap.size + 1), i, none⟩ = false := fun i => (x13.frozen (p := ⟨_, i, none⟩) V_78.1).trans (fzV_79 i)
  clear fzV_79
  have T_81 := T_76.on x13
  have G_82 := G_77.on x13
  have V_83 := V_78.on x13
  have B84 := B75.trans (x13.mono B75.size)
  clear T_76 G_77 V_78 B75 x13
  clear pS
  clear T_81
  have fzV_85 : ∀ i, (w13.alloc (.cells #[.int .u8 g0, .int .u16 g1, .bool g2, .int .u8 g3, .int .u8 g4, .int .u32 g5, .int .u32 g6, .string g7] 64)).frozen? ⟨(w4.heap.size + 1), i, none⟩ = false := fun i => (((Below.refl w13.heap.size w13).alloc (Nat.le_refl _) (.cells #[.int .u8 g0, .int .u16 g1, .bool g2, .int .u8 g3, .int .u8 g4, .int .u32 g5, .int .u32 g6, .string g7] 64)).frozen (p := ⟨_, i, none⟩) V_83.1).trans (fzV_80 i)
  clear fzV_80
  have G_86 := G_82.past (o := (.cells #[.int .u8 g0, .int .u16 g1, .bool g2, .int .u8 g3, .int .u8 g4, .int .u32 g5, .int .u32 g6, .string g7] 64))
  have V_87 := V_83.past (o := (.cells #[.int .u8 g0, .int .u16 g1, .bool g2, .int .u8 g3, .int .u8 g4, .int .u32 g5, .int .u32 g6, .string g7] 64))
  have B88 := B84.alloc B84.size (.cells #[.int .u8 g0, .int .u16 g1, .bool g2, .int .u8 g3, .int .u8 g4, .int .u32 g5, .int .u32 g6, .string g7] 64)
  clear G_82 V_83 B84
  go_wp2_with fail
  refine (pU _).mono ?_; rintro e w14 ⟨rfl, x14⟩
  have fzV_89 : ∀ i, w14.frozen? ⟨(w4.heap.size + 1), i, none⟩ = false := fun i => (x14.frozen (p := ⟨_, i, none⟩) V_87.1).trans (fzV_85 i)
  clear fzV_85
  have G_90 := G_86.on x14
  have V_91 := V_87.on x14
  have B92 := B88.trans (x14.mono B88.size)
  clear G_86 V_87 B88 x14
  clear pU
  have fzV_93 : ∀ i, (w14.alloc (.cells #[.int .u8 h0, .int .u16 h1, .bool h2, .int .u8 h3, .int .u8 h4, .int .u32 h5, .int .u32 h6, .string h7] 64)).frozen? ⟨(w4.heap.size + 1), i, none⟩ = false := fun i => (((Below.refl w14.heap.size w14).alloc (Nat.le_refl _) (.cells #[.int .u8 h0, .int .u16 h1, .bool h2, .int .u8 h3, .int .u8 h4, .int .u32 h5, .int .u32 h6, .string h7] 64)).frozen (p := ⟨_, i, none⟩) V_91.1).trans (fzV_89 i)
  clear fzV_89
  have G_94 := G_90.past (o := (.cells #[.int .u8 h0, .int .u16 h1, .bool h2, .int .u8 h3, .int .u8 h4, .int .u32 h5, .int .u32 h6, .string h7] 64))
  have V_95 := V_91.past (o := (.cells #[.int .u8 h0, .int .u16 h1, .bool h2, .int .u8 h3, .int .u8 h4, .int .u32 h5, .int .u32 h6, .string h7] 64))
  have B96 := B92.alloc B92.size (.cells #[.int .u8 h0, .int .u16 h1, .bool h2, .int .u8 h3, .int .u8 h4, .int .u32 h5, .int .u32 h6, .string h7] 64)
  clear G_90 V_91 B92
  obtain ⟨_, g10_0, g10_1, g10_2, g10_3, g10_4⟩ := id G_94
  obtain ⟨_, v11_0, v11_1, v11_2, v11_3, v11_4⟩ := id V_95
  go_wp2_with fail
  clear G_94 V_95
  clear fzV_93
  refine (hD _).mono ?_; rintro e w15 ⟨rfl, x15⟩
  have B97 := B96.trans (x15.mono B96.size)
  clear g10_0 g10_1 g10_2 g10_3 g10_4 v11_0 v11_1 v11_2 v11_3 v11_4 B96 x15
  clear hD
  go_wp2_with fail
  have B98 := B97.alloc B97.size (.cells #[.string (D.extract 0 o)] 9)
  clear B97
  refine (HD.out _ _ (by simp) (by simp [go_sem])).mono ?_; rintro e w16 ⟨rfl, x16⟩
  have B99 := B98.trans (x16.mono B98.size)
  clear B98 x16
  clear HD
  go_wp2_with fail
  refine (hX _).mono ?_; rintro e w17 ⟨rfl, x17⟩
  have B100 := B99.trans (x17.mono B99.size)
  clear B99 x17
  clear hX
  go_wp2_with fail
  have B101 := B100.alloc B100.size (.cells #[.string (X.extract 0 o)] 9)
  clear B100
  refine (HX.out _ _ (by simp) (by simp [go_sem])).mono ?_; rintro e w18 ⟨rfl, x18⟩
  have B102 := B101.trans (x18.mono B101.size)
  clear B101 x18
  clear HX
  go_wp2_with fail
  refine (cM _).mono ?_; rintro e w19 ⟨rfl, x19⟩
  have B103 := B102.trans (x19.mono B102.size)
  clear B102 x19
  clear cM
  go_wp2_with fail
  refine (cN _).mono ?_; rintro e w20 ⟨rfl, x20⟩
  have B104 := B103.trans (x20.mono B103.size)
  clear B103 x20
  clear cN
  go_wp2_with fail
  refine (J _ (ht.on B104)).mono ?_; rintro e w21 ⟨rfl, x21⟩
  have B105 := B104.trans (x21.mono B104.size)
  clear B104 x21
  go_wp2
  go_ret
  exact ⟨rfl, B105⟩
set_option maxHeartbeats 4000000 in
set_option maxRecDepth 100000 in
theorem inner10_told (J : ∀ u : World, Tab u → Calls Tryz.prog 8 #[] u fun e w' => e = .returned (.bool true) ∧ Below u.heap.size u w') (s U D X M N : ByteArray) (a m b n c k d l : Int) (o : Nat) (t1 t2 t3 t4 s0 s2 s4 s6 s8 g0 g1 g3 g4 g5 g6 gr h0 h1 h3 h4 h5 h6 hr : Int) (s7 g2 h2 hv cv : Bool) (g7 h7 : ByteArray) (e1 : decide (2500 < s.size) = false) (e2 : decide ((2500 : Int) < (s.size : Int)) = false) (zn : (D.size != X.size) = false) (zi : ((D.size : Int) != (X.size : Int)) = false) (z28 : decide (D.size < 28) = false) (y28 : decide ((D.size : Int) < 28) = false) (ew : wrap64 ((o : Int) + 8) = (o : Int) + 8) (zo : decide ((D.size : Int) < (o : Int) + 8) = false) (iD : (o : Int) ≤ (D.size : Int)) (iX : (o : Int) ≤ (X.size : Int)) (ck : ∀ u : World, Tab u → Calls Tryz.prog 14 #[.string s, .int .u8 1] u fun e w' => e = .returned (.tuple #[.agg #[.int .u8 1, .int .u32 t1, .int .u16 t2, .int .u32 t3, .int .u16 t4], .bool true]) ∧ Below u.heap.size u w') (ca : ∀ u : World, Tab u → Calls Tryz.prog 11 #[.string s, .agg #[.int .u32 a, .int .u16 m, .int .u32 b, .int .u16 n], .agg #[.int .u32 c, .int .u16 k, .int .u32 d, .int .u16 l]] u fun e w' => e = .returned (.tuple #[.string U, .int .i64 0]) ∧ Below u.heap.size u w') (ci : ∀ u : World, Tab u → Calls Tryz.prog 9 #[.string U] u fun e w' => e = .returned (.tuple #[.agg #[.int .u8 1, .int .u32 c, .int .u16 0, .int .u32 d, .int .u16 l], .int .i64 0]) ∧ Below u.heap.size u w') (co : ∀ u : World, Calls Tryz.prog 15 #[.string U] u fun e w' => e = .returned (.tuple #[.agg #[.int .u8 s0, .int .u32 a, .int .u16 s2, .int .u32 b, .int .u16 s4, .int .i64 3, .int .u8 s6, .bool s7, .int .u8 s8], .int .i64 0]) ∧ Below u.heap.size u w') (cd : ∀ u : World, Calls Tryz.prog 16 #[.string s] u fun e w' => e = .returned (.string D) ∧ Below u.heap.size u w') (cx : ∀ u : World, Calls Tryz.prog 16 #[.string U] u fun e w' => e = .returned (.string X) ∧ Below u.heap.size u w') (hD : ∀ u : World, Calls Tryz.prog 17 #[.string D] u fun e w' => e = .returned (.int .i64 (o : Int)) ∧ Below u.heap.size u w') (hX : ∀ u : World, Calls Tryz.prog 17 #[.string X] u fun e w' => e = .returned (.int .i64 (o : Int)) ∧ Below u.heap.size u w') (pS : ∀ u : World, Calls Tryz.prog 19 #[.string s] u fun e w' => e = .returned (.tuple #[.agg #[.int .u8 g0, .int .u16 g1, .bool g2, .int .u8 g3, .int .u8 g4, .int .u32 g5, .int .u32 g6, .string g7], .string M, .int .i64 gr]) ∧ Below u.heap.size u w') (pU : ∀ u : World, Calls Tryz.prog 19 #[.string U] u fun e w' => e = .returned (.tuple #[.agg #[.int .u8 h0, .int .u16 h1, .bool h2, .int .u8 h3, .int .u8 h4, .int .u32 h5, .int .u32 h6, .string h7], .string N, .int .i64 hr]) ∧ Below u.heap.size u w') (HD : Hid (∀ (u : World) (q : Nat), q < u.heap.size → u.cell? ⟨q, 0, none⟩ = some (.string (D.extract 0 o)) → Calls Tryz.prog 20 #[.slice (some ⟨q, 0, none⟩) 1 1] u fun e w' => e = .returned (.bool hv) ∧ Below u.heap.size u w')) (HX : Hid (∀ (u : World) (q : Nat), q < u.heap.size → u.cell? ⟨q, 0, none⟩ = some (.string (X.extract 0 o)) → Calls Tryz.prog 20 #[.slice (some ⟨q, 0, none⟩) 1 1] u fun e w' => e = .returned (.bool hv) ∧ Below u.heap.size u w')) (cM : ∀ u : World, Calls Tryz.prog 21 #[.string M] u fun e w' => e = .returned (.bool cv) ∧ Below u.heap.size u w') (cN : ∀ u : World, Calls Tryz.prog 21 #[.string N] u fun e w' => e = .returned (.bool cv) ∧ Below u.heap.size u w') (io : (o : Int) < (D.size : Int)) (yq : Bool) (cq : ∀ u : World, Calls Tryz.prog 18 #[.agg #[.int .u8 (bt D o), .int .u8 0, .int .u16 0, .string ⟨#[]⟩, .string ⟨#[]⟩]] u fun e w' => e = .returned (.tuple #[.bool false, .bool yq]) ∧ Below u.heap.size u w')  (w : World) (ht : Tab w) :
    Calls Tryz.prog 5 #[.string s, .agg #[.int .u32 a, .int .u16 m, .int .u32 b, .int .u16 n, .int .u32 c, .int .u16 k, .int .u32 d, .int .u16 l]] w fun e w' => e = .returned (.bool true) ∧ Below w.heap.size w w' := by
  have hgD := get_bt D
  go_enter Tryz.func5, Tryz.ntmps5
  have B1 := Below.refl w.heap.size w
  go_wp2_with fail
  have C_2 := Box8.make w (.int .u32 a) (.int .u16 m) (.int .u32 b) (.int .u16 n) (.int .u32 c) (.int .u16 k) (.int .u32 d) (.int .u16 l) 30
  have B3 := B1.alloc B1.size (.cells #[.int .u32 a, .int .u16 m, .int .u32 b, .int .u16 n, .int .u32 c, .int .u16 k, .int .u32 d, .int .u16 l] 30)
  clear B1
  refine (ck _ (ht.on B3)).mono ?_; rintro e w1 ⟨rfl, x1⟩
  have C_4 := C_2.on x1
  have B5 := B3.trans (x1.mono B3.size)
  clear C_2 B3 x1
  clear ck
  have C_6 := C_4.past (o := (.cells #[.int .u8 1, .int .u32 t1, .int .u16 t2, .int .u32 t3, .int .u16 t4] 33))
  have T_7 := Box5.make w1 (.int .u8 1) (.int .u32 t1) (.int .u16 t2) (.int .u32 t3) (.int .u16 t4) 33
  have B8 := B5.alloc B5.size (.cells #[.int .u8 1, .int .u32 t1, .int .u16 t2, .int .u32 t3, .int .u16 t4] 33)
  clear C_4 B5
  obtain ⟨_, c1_0, c1_1, c1_2, c1_3, c1_4, c1_5, c1_6, c1_7⟩ := id C_6
  go_wp2_with fail
  refine (ca _ (ht.on B8)).mono ?_; rintro e w2 ⟨rfl, x2⟩
  have C_9 := C_6.on x2
  have T_10 := T_7.on x2
  have B11 := B8.trans (x2.mono B8.size)
  clear c1_0 c1_1 c1_2 c1_3 c1_4 c1_5 c1_6 c1_7 C_6 T_7 B8 x2
  clear ca
  go_wp2_with fail
  refine (ci _ (ht.on B11)).mono ?_; rintro e w3 ⟨rfl, x3⟩
  have C_12 := C_9.on x3
  have T_13 := T_10.on x3
  have B14 := B11.trans (x3.mono B11.size)
  clear C_9 T_10 B11 x3
  clear ci
  have C_15 := C_12.past (o := (.cells #[.int .u8 1, .int .u32 c, .int .u16 0, .int .u32 d, .int .u16 l] 33))
  have T_16 := T_13.past (o := (.cells #[.int .u8 1, .int .u32 c, .int .u16 0, .int .u32 d, .int .u16 l] 33))
  have G_17 := Box5.make w3 (.int .u8 1) (.int .u32 c) (.int .u16 0) (.int .u32 d) (.int .u16 l) 33
  have B18 := B14.alloc B14.size (.cells #[.int .u8 1, .int .u32 c, .int .u16 0, .int .u32 d, .int .u16 l] 33)
  clear C_12 T_13 B14
  go_wp2_with fail
  refine (co _).mono ?_; rintro e w4 ⟨rfl, x4⟩
  have C_19 := C_15.on x4
  have T_20 := T_16.on x4
  have G_21 := G_17.on x4
  have B22 := B18.trans (x4.mono B18.size)
  clear C_15 T_16 G_17 B18 x4
  clear co
  have LV := Lib.hid (And.intro (show w.heap.size < w4.heap.size from C_19.1) (And.intro (show w1.heap.size < w4.heap.size from T_20.1) (show w3.heap.size < w4.heap.size from G_21.1)))
  have C_23 := C_19.past (o := (.cells #[.int .u8 s0, .int .u32 a, .int .u16 s2, .int .u32 b, .int .u16 s4, .int .i64 3, .int .u8 s6, .bool s7, .int .u8 s8] 55))
  have T_24 := T_20.past (o := (.cells #[.int .u8 s0, .int .u32 a, .int .u16 s2, .int .u32 b, .int .u16 s4, .int .i64 3, .int .u8 s6, .bool s7, .int .u8 s8] 55))
  have G_25 := G_21.past (o := (.cells #[.int .u8 s0, .int .u32 a, .int .u16 s2, .int .u32 b, .int .u16 s4, .int .i64 3, .int .u8 s6, .bool s7, .int .u8 s8] 55))
  have S_26 := Box9.make w4 (.int .u8 s0) (.int .u32 a) (.int .u16 s2) (.int .u32 b) (.int .u16 s4) (.int .i64 3) (.int .u8 s6) (.bool s7) (.int .u8 s8) 55
  have B27 := B22.alloc B22.size (.cells #[.int .u8 s0, .int .u32 a, .int .u16 s2, .int .u32 b, .int .u16 s4, .int .i64 3, .int .u8 s6, .bool s7, .int .u8 s8] 55)
  clear C_19 T_20 G_21 B22
  obtain ⟨_, s2_0, s2_1, s2_2, s2_3, s2_4, s2_5, s2_6, s2_7, s2_8⟩ := id S_26
  obtain ⟨_, c3_0, c3_1, c3_2, c3_3, c3_4, c3_5, c3_6, c3_7⟩ := id C_23
  obtain ⟨_, t4_0, t4_1, t4_2, t4_3, t4_4⟩ := id T_24
  have C_28 := C_23.past (o := (.cells #[.int .u8 1, .int .u32 c, .int .u16 k, .int .u32 d, .int .u16 l] 33))
  have T_29 := T_24.past (o := (.cells #[.int .u8 1, .int .u32 c, .int .u16 k, .int .u32 d, .int .u16 l] 33))
  have G_30 := G_25.past (o := (.cells #[.int .u8 1, .int .u32 c, .int .u16 k, .int .u32 d, .int .u16 l] 33))
  have S_31 := S_26.past (o := (.cells #[.int .u8 1, .int .u32 c, .int .u16 k, .int .u32 d, .int .u16 l] 33))
  have hs_ : (w4.alloc (.cells #[.int .u8 s0, .int .u32 a, .int .u16 s2, .int .u32 b, .int .u16 s4, .int .i64 3, .int .u8 s6, .bool s7, .int .u8 s8] 55)).heap.size = w4.heap.size + 1 := by simp
  have V_32 := Box5.make (w4.alloc (.cells #[.int .u8 s0, .int .u32 a, .int .u16 s2, .int .u32 b, .int .u16 s4, .int .i64 3, .int .u8 s6, .bool s7, .int .u8 s8] 55)) (.int .u8 1) (.int .u32 c) (.int .u16 k) (.int .u32 d) (.int .u16 l) 33
  rw [hs_] at V_32
  clear hs_
  have B33 := B27.alloc B27.size (.cells #[.int .u8 1, .int .u32 c, .int .u16 k, .int .u32 d, .int .u16 l] 33)
  clear C_23 T_24 G_25 S_26 B27
  have fzV_34 : ∀ i, ((w4.alloc (.cells #[.int .u8 s0, .int .u32 a, .int .u16 s2, .int .u32 b, .int .u16 s4, .int .i64 3, .int .u8 s6, .bool s7, .int .u8 s8] 55)).alloc (.cells #[.int .u8 1, .int .u32 c, .int .u16 k, .int .u32 d, .int .u16 l] 33)).frozen? ⟨(w4.heap.size + 1), i, none⟩ = false := by intro i; simp [go_sem]
  go_wp2_with fail
  clear S_31
  refine (cd _).mono ?_; rintro e w5 ⟨rfl, x5⟩
  have fzV_35 : ∀ i, w5.frozen? ⟨(w4.heap.size + 1), i, none⟩ = false := fun i => (x5.frozen (p := ⟨_, i, none⟩) V_32.1).trans (fzV_34 i)
  clear fzV_34
  have C_36 := C_28.on x5
  have T_37 := T_29.on x5
  have G_38 := G_30.on x5
  have V_39 := V_32.on x5
  have B40 := B33.trans (x5.mono B33.size)
  clear s2_0 s2_1 s2_2 s2_3 s2_4 s2_5 s2_6 s2_7 s2_8 c3_0 c3_1 c3_2 c3_3 c3_4 c3_5 c3_6 c3_7 t4_0 t4_1 t4_2 t4_3 t4_4 C_28 T_29 G_30 V_32 B33 x5
  clear cd
  go_wp2_with fail
  refine (cx _).mono ?_; rintro e w6 ⟨rfl, x6⟩
  have fzV_41 : ∀ i, w6.frozen? ⟨(w4.heap.size + 1), i, none⟩ = false := fun i => (x6.frozen (p := ⟨_, i, none⟩) V_39.1).trans (fzV_35 i)
  clear fzV_35
  have C_42 := C_36.on x6
  have T_43 := T_37.on x6
  have G_44 := G_38.on x6
  have V_45 := V_39.on x6
  have B46 := B40.trans (x6.mono B40.size)
  clear C_36 T_37 G_38 V_39 B40 x6
  clear cx
  go_wp2_with fail
  refine (hX _).mono ?_; rintro e w7 ⟨rfl, x7⟩
  have fzV_47 : ∀ i, w7.frozen? ⟨(w4.heap.size + 1), i, none⟩ = false := fun i => (x7.frozen (p := ⟨_, i, none⟩) V_45.1).trans (fzV_41 i)
  clear fzV_41
  have C_48 := C_42.on x7
  have T_49 := T_43.on x7
  have G_50 := G_44.on x7
  have V_51 := V_45.on x7
  have B52 := B46.trans (x7.mono B46.size)
  clear C_42 T_43 G_44 V_45 B46 x7
  go_wp2_with fail
  refine (hD _).mono ?_; rintro e w8 ⟨rfl, x8⟩
  have fzV_53 : ∀ i, w8.frozen? ⟨(w4.heap.size + 1), i, none⟩ = false := fun i => (x8.frozen (p := ⟨_, i, none⟩) V_51.1).trans (fzV_47 i)
  clear fzV_47
  have C_54 := C_48.on x8
  have T_55 := T_49.on x8
  have G_56 := G_50.on x8
  have V_57 := V_51.on x8
  have B58 := B52.trans (x8.mono B52.size)
  clear C_48 T_49 G_50 V_51 B52 x8
  go_wp2_with fail
  refine (hD _).mono ?_; rintro e w9 ⟨rfl, x9⟩
  have fzV_59 : ∀ i, w9.frozen? ⟨(w4.heap.size + 1), i, none⟩ = false := fun i => (x9.frozen (p := ⟨_, i, none⟩) V_57.1).trans (fzV_53 i)
  clear fzV_53
  have C_60 := C_54.on x9
  have T_61 := T_55.on x9
  have G_62 := G_56.on x9
  have V_63 := V_57.on x9
  have B64 := B58.trans (x9.mono B58.size)
  clear C_54 T_55 G_56 V_57 B58 x9
  clear C_60
  obtain ⟨_, t5_0, t5_1, t5_2, t5_3, t5_4⟩ := id T_61
  go_wp2_with fail
  refine (hD _).mono ?_; rintro e w10 ⟨rfl, x10⟩
  have fzV_65 : ∀ i, w10.frozen? ⟨(w4.heap.size + 1), i, none⟩ = false := fun i => (x10.frozen (p := ⟨_, i, none⟩) V_63.1).trans (fzV_59 i)
  clear fzV_59
  have T_66 := T_61.on x10
  have G_67 := G_62.on x10
  have V_68 := V_63.on x10
  have B69 := B64.trans (x10.mono B64.size)
  clear t5_0 t5_1 t5_2 t5_3 t5_4 T_61 G_62 V_63 B64 x10
  go_wp2_with fail
  refine (cq _).mono ?_; rintro e w11 ⟨rfl, x11⟩
  have fzV_70 : ∀ i, w11.frozen? ⟨(w4.heap.size + 1), i, none⟩ = false := fun i => (x11.frozen (p := ⟨_, i, none⟩) V_68.1).trans (fzV_65 i)
  clear fzV_65
  have T_71 := T_66.on x11
  have G_72 := G_67.on x11
  have V_73 := V_68.on x11
  have B74 := B69.trans (x11.mono B69.size)
  clear T_66 G_67 V_68 B69 x11
  clear cq
  have ne1_ : ¬ w4.heap.size + 1 = w1.heap.size := by have := LV.out.2.1; omega
  have ne2_ : ¬ w1.heap.size = w4.heap.size + 1 := by have := LV.out.2.1; omega
  have ne3_ : ¬ w4.heap.size + 1 = w3.heap.size := by have := LV.out.2.2; omega
  have ne4_ : ¬ w3.heap.size = w4.heap.size + 1 := by have := LV.out.2.2; omega
  obtain ⟨_, v6_0, v6_1, v6_2, v6_3, v6_4⟩ := id V_73
  go_upto_region 20 with fail
  clear v6_0 v6_1 v6_2 v6_3 v6_4
  obtain ⟨_, t7_0, t7_1, t7_2, t7_3, t7_4⟩ := id T_71
  obtain ⟨_, g8_0, g8_1, g8_2, g8_3, g8_4⟩ := id G_72
  obtain ⟨_, v9_0, v9_1, v9_2, v9_3, v9_4⟩ := id V_73
  have B75 := (B74.setCell (p := ⟨(w4.heap.size + 1), 2, none⟩) (by have := LV.out.1; show w.heap.size ≤ w4.heap.size + 1; omega) (.int .u16 0))
  have T_76 : Box5 (w11.setCell ⟨(w4.heap.size + 1), 2, none⟩ (.int .u16 0)) w1.heap.size (.int .u8 1) (.int .u32 t1) (.int .u16 t2) (.int .u32 t3) (.int .u16 t4) := ⟨by have := T_71.1; simpa using this, by simp [go_sem, t7_0, t7_1, t7_2, t7_3, t7_4, g8_0, g8_1, g8_2, g8_3, g8_4, v9_0, v9_1, v9_2, v9_3, v9_4], by simp [go_sem, t7_0, t7_1, t7_2, t7_3, t7_4, g8_0, g8_1, g8_2, g8_3, g8_4, v9_0, v9_1, v9_2, v9_3, v9_4], by simp [go_sem, t7_0, t7_1, t7_2, t7_3, t7_4, g8_0, g8_1, g8_2, g8_3, g8_4, v9_0, v9_1, v9_2, v9_3, v9_4], by simp [go_sem, t7_0, t7_1, t7_2, t7_3, t7_4, g8_0, g8_1, g8_2, g8_3, g8_4, v9_0, v9_1, v9_2, v9_3, v9_4], by simp [go_sem, t7_0, t7_1, t7_2, t7_3, t7_4, g8_0, g8_1, g8_2, g8_3, g8_4, v9_0, v9_1, v9_2, v9_3, v9_4]⟩
  have G_77 : Box5 (w11.setCell ⟨(w4.heap.size + 1), 2, none⟩ (.int .u16 0)) w3.heap.size (.int .u8 1) (.int .u32 c) (.int .u16 0) (.int .u32 d) (.int .u16 l) := ⟨by have := G_72.1; simpa using this, by simp [go_sem, t7_0, t7_1, t7_2, t7_3, t7_4, g8_0, g8_1, g8_2, g8_3, g8_4, v9_0, v9_1, v9_2, v9_3, v9_4], by simp [go_sem, t7_0, t7_1, t7_2, t7_3, t7_4, g8_0, g8_1, g8_2, g8_3, g8_4, v9_0, v9_1, v9_2, v9_3, v9_4], by simp [go_sem, t7_0, t7_1, t7_2, t7_3, t7_4, g8_0, g8_1, g8_2, g8_3, g8_4, v9_0, v9_1, v9_2, v9_3, v9_4], by simp [go_sem, t7_0, t7_1, t7_2, t7_3, t7_4, g8_0, g8_1, g8_2, g8_3, g8_4, v9_0, v9_1, v9_2, v9_3, v9_4], by simp [go_sem, t7_0, t7_1, t7_2, t7_3, t7_4, g8_0, g8_1, g8_2, g8_3, g8_4, v9_0, v9_1, v9_2, v9_3, v9_4]⟩
  have V_78 : Box5 (w11.setCell ⟨(w4.heap.size + 1), 2, none⟩ (.int .u16 0)) (w4.heap.size + 1) (.int .u8 1) (.int .u32 c) (.int .u16 0) (.int .u32 d) (.int .u16 l) := ⟨by have := V_73.1; simpa using this, by simp [go_sem, t7_0, t7_1, t7_2, t7_3, t7_4, g8_0, g8_1, g8_2, g8_3, g8_4, v9_0, v9_1, v9_2, v9_3, v9_4], by simp [go_sem, t7_0, t7_1, t7_2, t7_3, t7_4, g8_0, g8_1, g8_2, g8_3, g8_4, v9_0, v9_1, v9_2, v9_3, v9_4], by simp [go_sem, t7_0, t7_1, t7_2, t7_3, t7_4, g8_0, g8_1, g8_2, g8_3, g8_4, v9_0, v9_1, v9_2, v9_3, v9_4], by simp [go_sem, t7_0, t7_1, t7_2, t7_3, t7_4, g8_0, g8_1, g8_2, g8_3, g8_4, v9_0, v9_1, v9_2, v9_3, v9_4], by simp [go_sem, t7_0, t7_1, t7_2, t7_3, t7_4, g8_0, g8_1, g8_2, g8_3, g8_4, v9_0, v9_1, v9_2, v9_3, v9_4]⟩
  have fzV_79 : ∀ i, (w11.setCell ⟨(w4.heap.size + 1), 2, none⟩ (.int .u16 0)).frozen? ⟨(w4.heap.size + 1), i, none⟩ = false := by intro i; simp [fzV_70]
  clear t7_0 t7_1 t7_2 t7_3 t7_4 g8_0 g8_1 g8_2 g8_3 g8_4 v9_0 v9_1 v9_2 v9_3 v9_4 T_71 G_72 V_73 fzV_70 B74
  obtain ⟨u12, hu12⟩ : ∃ x, x = (w11.setCell ⟨(w4.heap.size + 1), 2, none⟩ (.int .u16 0)) := ⟨_, rfl⟩
  rw [← hu12] at T_76 G_77 V_78 fzV_79 B75 ⊢
  clear hu12
  go_wp2_with fail
  refine (pS _).mono ?_; rintro e w13 ⟨rfl, x13⟩
  have fzV_80 : ∀ i, w13.frozen? ⟨(w4.heap.size + 1), i, none⟩ = false := fun i => (x13.frozen (p := ⟨_, i, none⟩) V_78.1).trans (fzV_79 i)
  clear fzV_79
  have T_81 := T_76.on x13
  have G_82 := G_77.on x13
  have V_83 := V_78.on x13
  have B84 := B75.trans (x13.mono B75.size)
  clear T_76 G_77 V_78 B75 x13
  clear pS
  clear T_81
  have fzV_85 : ∀ i, (w13.alloc (.cells #[.int .u8 g0, .int .u16 g1, .bool g2, .int .u8 g3, .int .u8 g4, .int .u32 g5, .int .u32 g6, .string g7] 64)).frozen? ⟨(w4.heap.size + 1), i, none⟩ = false := fun i => (((Below.refl w13.heap.size w13).alloc (Nat.le_refl _) (.cells #[.int .u8 g0, .int .u16 g1, .bool g2, .int .u8 g3, .int .u8 g4, .int .u32 g5, .int .u32 g6, .string g7] 64)).frozen (p := ⟨_, i, none⟩) V_83.1).trans (fzV_80 i)
  clear fzV_80
  have G_86 := G_82.past (o := (.cells #[.int .u8 g0, .int .u16 g1, .bool g2, .int .u8 g3, .int .u8 g4, .int .u32 g5, .int .u32 g6, .string g7] 64))
  have V_87 := V_83.past (o := (.cells #[.int .u8 g0, .int .u16 g1, .bool g2, .int .u8 g3, .int .u8 g4, .int .u32 g5, .int .u32 g6, .string g7] 64))
  have B88 := B84.alloc B84.size (.cells #[.int .u8 g0, .int .u16 g1, .bool g2, .int .u8 g3, .int .u8 g4, .int .u32 g5, .int .u32 g6, .string g7] 64)
  clear G_82 V_83 B84
  go_wp2_with fail
  refine (pU _).mono ?_; rintro e w14 ⟨rfl, x14⟩
  have fzV_89 : ∀ i, w14.frozen? ⟨(w4.heap.size + 1), i, none⟩ = false := fun i => (x14.frozen (p := ⟨_, i, none⟩) V_87.1).trans (fzV_85 i)
  clear fzV_85
  have G_90 := G_86.on x14
  have V_91 := V_87.on x14
  have B92 := B88.trans (x14.mono B88.size)
  clear G_86 V_87 B88 x14
  clear pU
  have fzV_93 : ∀ i, (w14.alloc (.cells #[.int .u8 h0, .int .u16 h1, .bool h2, .int .u8 h3, .int .u8 h4, .int .u32 h5, .int .u32 h6, .string h7] 64)).frozen? ⟨(w4.heap.size + 1), i, none⟩ = false := fun i => (((Below.refl w14.heap.size w14).alloc (Nat.le_refl _) (.cells #[.int .u8 h0, .int .u16 h1, .bool h2, .int .u8 h3, .int .u8 h4, .int .u32 h5, .int .u32 h6, .string h7] 64)).frozen (p := ⟨_, i, none⟩) V_91.1).trans (fzV_89 i)
  clear fzV_89
  have G_94 := G_90.past (o := (.cells #[.int .u8 h0, .int .u16 h1, .bool h2, .int .u8 h3, .int .u8 h4, .int .u32 h5, .int .u32 h6, .string h7] 64))
  have V_95 := V_91.past (o := (.cells #[.int .u8 h0, .int .u16 h1, .bool h2, .int .u8 h3, .int .u8 h4, .int .u32 h5, .int .u32 h6, .string h7] 64))
  have B96 := B92.alloc B92.size (.cells #[.int .u8 h0, .int .u16 h1, .bool h2, .int .u8 h3, .int .u8 h4, .int .u32 h5, .int .u32 h6, .string h7] 64)
  clear G_90 V_91 B92
  obtain ⟨_, g10_0, g10_1, g10_2, g10_3, g10_4⟩ := id G_94
  obtain ⟨_, v11_0, v11_1, v11_2, v11_3, v11_4⟩ := id V_95
  go_wp2_with fail
  clear G_94 V_95
  clear fzV_93
  refine (hD _).mono ?_; rintro e w15 ⟨rfl, x15⟩
  have B97 := B96.trans (x15.mono B96.size)
  clear g10_0 g10_1 g10_2 g10_3 g10_4 v11_0 v11_1 v11_2 v11_3 v11_4 B96 x15
  clear hD
  go_wp2_with fail
  have B98 := B97.alloc B97.size (.cells #[.string (D.extract 0 o)] 9)
  clear B97
  refine (HD.out _ _ (by simp) (by simp [go_sem])).mono ?_; rintro e w16 ⟨rfl, x16⟩
  have B99 := B98.trans (x16.mono B98.size)
  clear B98 x16
  clear HD
  go_wp2_with fail
  refine (hX _).mono ?_; rintro e w17 ⟨rfl, x17⟩
  have B100 := B99.trans (x17.mono B99.size)
  clear B99 x17
  clear hX
  go_wp2_with fail
  have B101 := B100.alloc B100.size (.cells #[.string (X.extract 0 o)] 9)
  clear B100
  refine (HX.out _ _ (by simp) (by simp [go_sem])).mono ?_; rintro e w18 ⟨rfl, x18⟩
  have B102 := B101.trans (x18.mono B101.size)
  clear B101 x18
  clear HX
  go_wp2_with fail
  refine (cM _).mono ?_; rintro e w19 ⟨rfl, x19⟩
  have B103 := B102.trans (x19.mono B102.size)
  clear B102 x19
  clear cM
  go_wp2_with fail
  refine (cN _).mono ?_; rintro e w20 ⟨rfl, x20⟩
  have B104 := B103.trans (x20.mono B103.size)
  clear B103 x20
  clear cN
  go_wp2_with fail
  refine (J _ (ht.on B104)).mono ?_; rintro e w21 ⟨rfl, x21⟩
  have B105 := B104.trans (x21.mono B104.size)
  clear B104 x21
  go_wp2
  go_ret
  exact ⟨rfl, B105⟩
set_option maxHeartbeats 4000000 in
set_option maxRecDepth 100000 in
theorem inner10_ (K : EmOk) (J : ∀ u : World, Tab u → Calls Tryz.prog 8 #[] u fun e w' => e = .returned (.bool true) ∧ Below u.heap.size u w') (s : ByteArray) (a m b n c k d l : Int) (w : World) (ht : Tab w) (hc : okC a m b n) (hd : okC c k d l) :
    Calls Tryz.prog 5 #[.string s, .agg #[.int .u32 a, .int .u16 m, .int .u32 b, .int .u16 n, .int .u32 c, .int .u16 k, .int .u32 d, .int .u16 l]] w fun e w' => e = .returned (.bool true) ∧ Below w.heap.size w w' := by
  by_cases h1 : 2500 < s.size
  · have e1 : decide (2500 < s.size) = true := by simpa using h1
    have e2 : decide ((2500 : Int) < (s.size : Int)) = true := by simp; omega
    have B0 := (Below.refl w.heap.size w).alloc (Nat.le_refl _) (.cells #[.int .u32 a, .int .u16 m, .int .u32 b, .int .u16 n, .int .u32 c, .int .u16 k, .int .u32 d, .int .u16 l] 30)
    clear hc hd h1
    go_enter Tryz.func5, Tryz.ntmps5
    go_wp2_with fail
    refine (J _ (ht.on B0)).mono ?_; rintro e w1 ⟨rfl, b1⟩
    go_wp2
    go_ret
    exact ⟨rfl, B0.trans (b1.mono B0.size)⟩
  have e1 : decide (2500 < s.size) = false := by simpa using h1
  have e2 : decide ((2500 : Int) < (s.size : Int)) = false := by simp; omega
  have ca := fun u hu => K.translates s a m b n c k d l u (by omega) hc hd hu
  have ck := fun u hu => taken10_ K s 1 u hu (by omega)
  rw [tk_tr] at ck
  by_cases hr : trR s = 0
  rotate_left
  · rw [decide_eq_false hr] at ck
    rw [trB_no hr] at ca
    exact inner10_no J s a m b n c k d l _ _ _ _ _ (trR s) e1 e2 (by simpa using hr) ck ca w ht
  obtain ⟨N, R, T⟩ := tr_facts hr hc hd
  obtain ⟨hi, h8⟩ := tr_zero hr
  obtain ⟨hs, hk, hl⟩ := in_zero hi
  obtain ⟨l0, l1, l2, l3, l4, l5⟩ := lk_zero hl
  have E := em_facts hl hd
  have zN : N ≤ 2500 := by have := R.le; omega
  have zU := T.size
  have ci := fun u hu => K.inners (trB s a m b n c k d l) u (by omega) hu
  rw [iI_yes T.inr, iI_yes T.inr, iI_yes T.inr, iI_yes T.inr, iI_yes T.inr, T.inr, T.data, E.b9, E.a12, E.a16, E.inm, E.inn] at ci
  have co := fun u => of8_ (trB s a m b n c k d l) u (by omega)
  obtain ⟨n1, n2⟩ := s_yes T.seen
  rw [n1, n1, n1, n1, n1, n1, n1, n1, n2, T.seen, T.a12, T.a16, T.kind] at co
  have cd := fun u => data10l_ s u (by omega)
  have cx := fun u => data10l_ (trB s a m b n c k d l) u (by omega)
  rw [T.data] at cx
  have zX := E.size
  have zD : (eD s).size ≤ 2500 := by
    obtain ⟨_, t1, _, _⟩ := err_kind hs hk
    rw [(eD_is t1).2]
    have := (p_yes (seen_ip hs).1).2.2.2
    rw [this, ByteArray.size_extract]
    omega
  have hD := fun u => head10_ (eD s) u (by omega) (by omega)
  have hX := fun u => head10_ (emD (eD s) c k d l) u (by omega) (by omega)
  rw [E.own] at hX
  have pS := fun u => ipParse_ s u (by unfold maxLen; omega)
  have pU := fun u => ipParse_ (trB s a m b n c k d l) u (by unfold maxLen; omega)
  have o60 : ownN (eD s) ≤ 60 := by have := bt_le (eD s) 0; have := bt_nonneg (eD s) 0; unfold ownN; omega
  have x1 := size_extract' (eD s) 0 (ownN (eD s)) (Nat.zero_le _) (by omega)
  have x2 := size_extract' (emD (eD s) c k d l) 0 (ownN (eD s)) (Nat.zero_le _) (by omega)
  have HD : Hid (∀ (u : World) (q : Nat), q < u.heap.size → u.cell? ⟨q, 0, none⟩ = some (.string ((eD s).extract 0 (ownN (eD s)))) → Calls Tryz.prog 20 #[.slice (some ⟨q, 0, none⟩) 1 1] u fun e w' => e = .returned (.bool (holdsV [(eD s).extract 0 (ownN (eD s))])) ∧ Below u.heap.size u w') := fun u q hq h0 => holds_ _ 1 1 [(eD s).extract 0 (ownN (eD s))] u (rowS1 hq h0 (by unfold maxLen; omega))
  have HX : Hid (∀ (u : World) (q : Nat), q < u.heap.size → u.cell? ⟨q, 0, none⟩ = some (.string ((emD (eD s) c k d l).extract 0 (ownN (eD s)))) → Calls Tryz.prog 20 #[.slice (some ⟨q, 0, none⟩) 1 1] u fun e w' => e = .returned (.bool (holdsV [(eD s).extract 0 (ownN (eD s))])) ∧ Below u.heap.size u w') := fun u q hq h0 => by
    have := holds_ _ 1 1 [(emD (eD s) c k d l).extract 0 (ownN (eD s))] u (rowS1 hq h0 (by unfold maxLen; omega))
    rw [E.holds] at this
    exact this
  have pz : (pP s).size ≤ 2500 := by rw [(p_yes (seen_ip hs).1).2.2.2, ByteArray.size_extract]; omega
  have pu : (pP (trB s a m b n c k d l)).size ≤ 2500 := by rw [(p_yes T.ip).2.2.2, ByteArray.size_extract]; omega
  have cM := fun u => icmpCheck_ (pP s) u (by omega)
  have cN := fun u => icmpCheck_ (pP (trB s a m b n c k d l)) u (by omega)
  rw [T.ck] at cN
  rw [decide_eq_true hr] at ck
  rw [hr] at ca
  rw [iI_yes hi, iI_yes hi, iI_yes hi, iI_yes hi, iI_yes hi] at ck
  have zn : ((eD s).size != (emD (eD s) c k d l).size) = false := by rw [zX]; simp
  have zi : (((eD s).size : Int) != ((emD (eD s) c k d l).size : Int)) = false := by rw [zX]; simp
  have z28 : decide ((eD s).size < 28) = false := by simp; omega
  have y28 : decide (((eD s).size : Int) < 28) = false := by simp; omega
  have zo : decide (((eD s).size : Int) < (ownN (eD s) : Int) + 8) = false := by simp; omega
  have iD : (ownN (eD s) : Int) ≤ ((eD s).size : Int) := by omega
  have iX : (ownN (eD s) : Int) ≤ ((emD (eD s) c k d l).size : Int) := by omega
  have ew : Hid (wrap64 ((ownN (eD s) : Int) + 8) = (ownN (eD s) : Int) + 8) := IntWalk.wrap64_in _ (by omega)
  by_cases k1 : bt (eD s) 9 = 1
  rotate_left
  · rw [if_neg k1, if_neg k1] at ci
    exact inner10_ports J s _ _ _ _ _ a m b n c k d l _ _ _ _ _ _ _ _ _ _ _ _ _ _ _ _ _ _ _ _ _ _ _ _ _ _ _ _ _ _ _ _ e1 e2 zn zi z28 y28 ew.out zo iD iX ck ca ci co cd cx hD hX pS pU HD HX cM cN (by simpa using k1) w ht
  rw [if_pos k1, if_pos k1, k1] at ci
  rw [k1] at ck
  have q : qIs (bt (eD s) (ownN (eD s))) (bt (eD s) (ownN (eD s) + 1)) = true := by
    rcases l5 with k | k | k
    · omega
    · omega
    · exact k.2
  have q0 : bt (eD s) (ownN (eD s) + 1) = 0 := by
    unfold qIs at q
    simp only [Bool.and_eq_true, decide_eq_true_eq] at q
    exact q.1
  have ea : inAsk (eD s) = qAsk (bt (eD s) (ownN (eD s))) 0 := by unfold inAsk; rw [q0]
  have cq := fun u => icmpQuery_ (bt (eD s) (ownN (eD s))) 0 0 ⟨#[]⟩ ⟨#[]⟩ u (bt_nonneg _ _) (bt_le _ _) (by omega) (by omega)
  have io : (ownN (eD s) : Int) < ((eD s).size : Int) := by omega
  rw [← ea] at cq
  cases ha : inAsk (eD s) with
  | true =>
    rw [ha] at cq ci
    rw [if_pos rfl, if_pos rfl] at ci
    exact inner10_ask J s _ _ _ _ _ a m b n c k d l _ _ _ _ _ _ _ _ _ _ _ _ _ _ _ _ _ _ _ _ _ _ _ _ _ _ _ _ _ _ _ e1 e2 zn zi z28 y28 ew.out zo iD iX ck ca ci co cd cx hD hX pS pU HD HX cM cN io _ cq w ht
  | false =>
    rw [ha] at cq ci
    rw [if_neg (by decide), if_neg (by decide)] at ci
    exact inner10_told J s _ _ _ _ _ a m b n c k d l _ _ _ _ _ _ _ _ _ _ _ _ _ _ _ _ _ _ _ _ _ _ _ _ _ _ _ _ _ _ _ e1 e2 zn zi z28 y28 ew.out zo iD iX ck ca ci co cd cx hD hX pS pU HD HX cM cN io _ cq w ht
end Go.Proofs.YtbpicngbjggblaaGreatDoor
