/- The walk of TuplesSeen: tcp. -/
import Derived.Test.YtidkgnanfhdhdaaGreatDoorGo
import Derived.Test.YtidkgnanfhdhdaaGreatDoorTupW
import Derived.Deep.DeepCutAuto
namespace Go.Proofs.YtidkgnanfhdhdaaGreatDoor.TuplesSeen
set_option linter.unusedVariables false
set_option linter.unusedSimpArgs false
open Go.ChangeShapes Go.WideShapes Go.ChangeAt Go.RowKit Go.PlainAid

set_option maxHeartbeats 8000000 in
set_option maxRecDepth 100000 in
theorem seen_tcp_true (K : TupOk) (a m b n h0 h1 h3 h4 h5 h6 g0 g1 g2 g3 g4 g5 g6 g7 g8 ty v r : Int) (h2 : Bool) (h7 g9 dd q S : ByteArray) (ok : Bool) (kk : Int) (c1 c2 : Bool) (w : World) (ht : Tab w) (k7 : h7.size ≤ 600) (k9 : g9.size ≤ 600) (kd : dd.size ≤ 600) (kq : q.size ≤ 100) (kS : S.size ≤ 1000000) (er : ty % 4 = r) (t0 : 0 ≤ ty) (t1 : ty ≤ 255)
    (ix : ∀ u : World, (Instr.index 52 (.agg #[.int .u8 0, .int .u8 8, .int .u8 13, .int .u8 14]) (.int .u8 r)).run Tryz.prog u = .ok (.int .u8 v) u)
    (cM : ∀ u : World, Tab u → Calls Tryz.prog 13 #[.agg #[.int .u8 6, .int .u32 a, .int .u16 m, .int .u32 b, .int .u16 n]] u fun e w' => e = .returned (.bool true) ∧ Below u.heap.size u w')
    (cP : ∀ u : World, Calls Tryz.prog 19 #[.agg #[.int .u8 6, .int .u32 a, .int .u16 m, .int .u32 b, .int .u16 n], .agg #[.int .u8 h0, .int .u16 h1, .bool h2, .int .u8 h3, .int .u8 h4, .int .u32 h5, .int .u32 h6, .string h7, .int .u16 g0, .int .u16 g1, .int .u32 g2, .int .u32 g3, .int .u8 g4, .int .u8 g5, .int .u16 g6, .int .u16 g7, .int .u16 g8, .string g9, .int .u8 v, .string dd]] u fun e w' => e = .returned (.tuple #[.string S, .bool ok]) ∧ Below u.heap.size u w')
    (cO : ok = true → ∀ u : World, Tab u → Calls Tryz.prog 7 #[.string (S ++ q)] u fun e w' => e = .returned (.tuple #[.agg #[.int .u8 6, .int .u32 a, .int .u16 m, .int .u32 b, .int .u16 n, .int .i64 kk, .int .u8 g5, .bool false, .int .u8 h3], .int .i64 0]) ∧ Below u.heap.size u w')
    (cN : ∀ u : World, Tab u → Calls Tryz.prog 13 #[.agg #[.int .u8 6, .int .u32 a, .int .u16 m, .int .u32 b, .int .u16 n]] u fun e w' => e = .returned (.bool true) ∧ Below u.heap.size u w')
    (ev : (v == 0) = true)  (f1 : decide (0 < bits .and .u8 g5 2) = c1) (f2 : (bits .and .u8 g5 21 == 0) = c2) (hk : (c1 = false ∧ kk = 2) ∨ (c1 = true ∧ c2 = false ∧ kk = 2) ∨ (c1 = true ∧ c2 = true ∧ kk = 1)):
    Calls Tryz.prog 5 #[.agg #[.int .u8 6, .int .u32 a, .int .u16 m, .int .u32 b, .int .u16 n], .agg #[.int .u8 h0, .int .u16 h1, .bool h2, .int .u8 h3, .int .u8 h4, .int .u32 h5, .int .u32 h6, .string h7, .int .u16 g0, .int .u16 g1, .int .u32 g2, .int .u32 g3, .int .u8 g4, .int .u8 g5, .int .u16 g6, .int .u16 g7, .int .u16 g8, .string g9, .int .u8 ty, .string dd], .string q] w fun e w' => e = .returned (.bool true) ∧ Below w.heap.size w w' := by
  have z1 : decide (600 < h7.size) = false := by simp; omega
  have z2 : decide ((600 : Int) < (h7.size : Int)) = false := by simp; omega
  have z3 : decide (600 < g9.size) = false := by simp; omega
  have z4 : decide ((600 : Int) < (g9.size : Int)) = false := by simp; omega
  have z5 : decide (600 < dd.size) = false := by simp; omega
  have z6 : decide ((600 : Int) < (dd.size : Int)) = false := by simp; omega
  have z7 : decide (100 < q.size) = false := by simp; omega
  have z8 : decide ((100 : Int) < (q.size : Int)) = false := by simp; omega
  have z9 : S.size + q.size ≤ 9223372036854775807 := by omega
  have y1 : ty.tmod 4 = r := by rw [Int.tmod_eq_emod_of_nonneg t0]; exact er
  have y2 : IntKind.u8.wrap (ty.tmod 4) = r := by rw [y1]; exact IntWalk.u8_in _ (by omega)
  have y3 : IntKind.u8.wrap (ty % 4) = r := by rw [er]; exact IntWalk.u8_in _ (by omega)
  clear k7 k9 kd kq kS t0 t1
  go_enter Tryz.func5, Tryz.ntmps5
  have B1 := Below.refl w.heap.size w
  go_wp2_with fail
  have T_2 := Box5.make w (.int .u8 6) (.int .u32 a) (.int .u16 m) (.int .u32 b) (.int .u16 n) 29
  have B3 := B1.alloc B1.size (.cells #[.int .u8 6, .int .u32 a, .int .u16 m, .int .u32 b, .int .u16 n] 29)
  clear B1
  have fzT_4 : ∀ i, (w.alloc (.cells #[.int .u8 6, .int .u32 a, .int .u16 m, .int .u32 b, .int .u16 n] 29)).frozen? ⟨w.heap.size, i, none⟩ = false := by intro i; simp [go_sem]
  have fzT_5 : ∀ i, ((w.alloc (.cells #[.int .u8 6, .int .u32 a, .int .u16 m, .int .u32 b, .int .u16 n] 29)).alloc (.cells #[.int .u8 h0, .int .u16 h1, .bool h2, .int .u8 h3, .int .u8 h4, .int .u32 h5, .int .u32 h6, .string h7, .int .u16 g0, .int .u16 g1, .int .u32 g2, .int .u32 g3, .int .u8 g4, .int .u8 g5, .int .u16 g6, .int .u16 g7, .int .u16 g8, .string g9, .int .u8 ty, .string dd] 51)).frozen? ⟨w.heap.size, i, none⟩ = false := fun i => (((Below.refl (w.alloc (.cells #[.int .u8 6, .int .u32 a, .int .u16 m, .int .u32 b, .int .u16 n] 29)).heap.size (w.alloc (.cells #[.int .u8 6, .int .u32 a, .int .u16 m, .int .u32 b, .int .u16 n] 29))).alloc (Nat.le_refl _) (.cells #[.int .u8 h0, .int .u16 h1, .bool h2, .int .u8 h3, .int .u8 h4, .int .u32 h5, .int .u32 h6, .string h7, .int .u16 g0, .int .u16 g1, .int .u32 g2, .int .u32 g3, .int .u8 g4, .int .u8 g5, .int .u16 g6, .int .u16 g7, .int .u16 g8, .string g9, .int .u8 ty, .string dd] 51)).frozen (p := ⟨_, i, none⟩) T_2.1).trans (fzT_4 i)
  clear fzT_4
  have T_6 := T_2.past (o := (.cells #[.int .u8 h0, .int .u16 h1, .bool h2, .int .u8 h3, .int .u8 h4, .int .u32 h5, .int .u32 h6, .string h7, .int .u16 g0, .int .u16 g1, .int .u32 g2, .int .u32 g3, .int .u8 g4, .int .u8 g5, .int .u16 g6, .int .u16 g7, .int .u16 g8, .string g9, .int .u8 ty, .string dd] 51))
  have hs_ : (w.alloc (.cells #[.int .u8 6, .int .u32 a, .int .u16 m, .int .u32 b, .int .u16 n] 29)).heap.size = w.heap.size + 1 := by simp
  have D_7 := Box20.make (w.alloc (.cells #[.int .u8 6, .int .u32 a, .int .u16 m, .int .u32 b, .int .u16 n] 29)) (.int .u8 h0) (.int .u16 h1) (.bool h2) (.int .u8 h3) (.int .u8 h4) (.int .u32 h5) (.int .u32 h6) (.string h7) (.int .u16 g0) (.int .u16 g1) (.int .u32 g2) (.int .u32 g3) (.int .u8 g4) (.int .u8 g5) (.int .u16 g6) (.int .u16 g7) (.int .u16 g8) (.string g9) (.int .u8 ty) (.string dd) 51
  rw [hs_] at D_7
  clear hs_
  have B8 := B3.alloc B3.size (.cells #[.int .u8 h0, .int .u16 h1, .bool h2, .int .u8 h3, .int .u8 h4, .int .u32 h5, .int .u32 h6, .string h7, .int .u16 g0, .int .u16 g1, .int .u32 g2, .int .u32 g3, .int .u8 g4, .int .u8 g5, .int .u16 g6, .int .u16 g7, .int .u16 g8, .string g9, .int .u8 ty, .string dd] 51)
  clear T_2 B3
  have fzD_9 : ∀ i, ((w.alloc (.cells #[.int .u8 6, .int .u32 a, .int .u16 m, .int .u32 b, .int .u16 n] 29)).alloc (.cells #[.int .u8 h0, .int .u16 h1, .bool h2, .int .u8 h3, .int .u8 h4, .int .u32 h5, .int .u32 h6, .string h7, .int .u16 g0, .int .u16 g1, .int .u32 g2, .int .u32 g3, .int .u8 g4, .int .u8 g5, .int .u16 g6, .int .u16 g7, .int .u16 g8, .string g9, .int .u8 ty, .string dd] 51)).frozen? ⟨(w.heap.size + 1), i, none⟩ = false := by intro i; simp [go_sem]
  refine (cM _ (ht.on B8)).mono ?_; rintro e w1 ⟨rfl, x1⟩
  have fzT_10 : ∀ i, w1.frozen? ⟨w.heap.size, i, none⟩ = false := fun i => (x1.frozen (p := ⟨_, i, none⟩) T_6.1).trans (fzT_5 i)
  have fzD_11 : ∀ i, w1.frozen? ⟨(w.heap.size + 1), i, none⟩ = false := fun i => (x1.frozen (p := ⟨_, i, none⟩) D_7.1).trans (fzD_9 i)
  clear fzT_5 fzD_9
  have T_12 := T_6.on x1
  have D_13 := D_7.on x1
  have B14 := B8.trans (x1.mono B8.size)
  clear T_6 D_7 B8 x1
  have ne1_ : ¬ w.heap.size + 1 = w.heap.size := by omega
  have ne2_ : ¬ w.heap.size = w.heap.size + 1 := by omega
  clear cM
  obtain ⟨_, t1_0, t1_1, t1_2, t1_3, t1_4⟩ := id T_12
  obtain ⟨_, d2_0, d2_1, d2_2, d2_3, d2_4, d2_5, d2_6, d2_7, d2_8, d2_9, d2_10, d2_11, d2_12, d2_13, d2_14, d2_15, d2_16, d2_17, d2_18, d2_19⟩ := id D_13
  go_upto_region 9 with fail
  clear t1_0 t1_1 t1_2 t1_3 t1_4 d2_0 d2_1 d2_2 d2_3 d2_4 d2_5 d2_6 d2_7 d2_8 d2_9 d2_10 d2_11 d2_12 d2_13 d2_14 d2_15 d2_16 d2_17 d2_18 d2_19
  obtain ⟨_, t3_0, t3_1, t3_2, t3_3, t3_4⟩ := id T_12
  obtain ⟨_, d4_0, d4_1, d4_2, d4_3, d4_4, d4_5, d4_6, d4_7, d4_8, d4_9, d4_10, d4_11, d4_12, d4_13, d4_14, d4_15, d4_16, d4_17, d4_18, d4_19⟩ := id D_13
  have B15 := (B14.setCell (p := ⟨(w.heap.size + 1), 18, none⟩) (by show w.heap.size ≤ w.heap.size + 1; omega) (.int .u8 v))
  have T_16 : Box5 (w1.setCell ⟨(w.heap.size + 1), 18, none⟩ (.int .u8 v)) w.heap.size (.int .u8 6) (.int .u32 a) (.int .u16 m) (.int .u32 b) (.int .u16 n) := ⟨by have := T_12.1; simpa using this, by simp [go_sem, t3_0, t3_1, t3_2, t3_3, t3_4, d4_0, d4_1, d4_2, d4_3, d4_4, d4_5, d4_6, d4_7, d4_8, d4_9, d4_10, d4_11, d4_12, d4_13, d4_14, d4_15, d4_16, d4_17, d4_18, d4_19], by simp [go_sem, t3_0, t3_1, t3_2, t3_3, t3_4, d4_0, d4_1, d4_2, d4_3, d4_4, d4_5, d4_6, d4_7, d4_8, d4_9, d4_10, d4_11, d4_12, d4_13, d4_14, d4_15, d4_16, d4_17, d4_18, d4_19], by simp [go_sem, t3_0, t3_1, t3_2, t3_3, t3_4, d4_0, d4_1, d4_2, d4_3, d4_4, d4_5, d4_6, d4_7, d4_8, d4_9, d4_10, d4_11, d4_12, d4_13, d4_14, d4_15, d4_16, d4_17, d4_18, d4_19], by simp [go_sem, t3_0, t3_1, t3_2, t3_3, t3_4, d4_0, d4_1, d4_2, d4_3, d4_4, d4_5, d4_6, d4_7, d4_8, d4_9, d4_10, d4_11, d4_12, d4_13, d4_14, d4_15, d4_16, d4_17, d4_18, d4_19], by simp [go_sem, t3_0, t3_1, t3_2, t3_3, t3_4, d4_0, d4_1, d4_2, d4_3, d4_4, d4_5, d4_6, d4_7, d4_8, d4_9, d4_10, d4_11, d4_12, d4_13, d4_14, d4_15, d4_16, d4_17, d4_18, d4_19]⟩
  have D_17 : Box20 (w1.setCell ⟨(w.heap.size + 1), 18, none⟩ (.int .u8 v)) (w.heap.size + 1) (.int .u8 h0) (.int .u16 h1) (.bool h2) (.int .u8 h3) (.int .u8 h4) (.int .u32 h5) (.int .u32 h6) (.string h7) (.int .u16 g0) (.int .u16 g1) (.int .u32 g2) (.int .u32 g3) (.int .u8 g4) (.int .u8 g5) (.int .u16 g6) (.int .u16 g7) (.int .u16 g8) (.string g9) (.int .u8 v) (.string dd) := ⟨by have := D_13.1; simpa using this, by simp [go_sem, t3_0, t3_1, t3_2, t3_3, t3_4, d4_0, d4_1, d4_2, d4_3, d4_4, d4_5, d4_6, d4_7, d4_8, d4_9, d4_10, d4_11, d4_12, d4_13, d4_14, d4_15, d4_16, d4_17, d4_18, d4_19], by simp [go_sem, t3_0, t3_1, t3_2, t3_3, t3_4, d4_0, d4_1, d4_2, d4_3, d4_4, d4_5, d4_6, d4_7, d4_8, d4_9, d4_10, d4_11, d4_12, d4_13, d4_14, d4_15, d4_16, d4_17, d4_18, d4_19], by simp [go_sem, t3_0, t3_1, t3_2, t3_3, t3_4, d4_0, d4_1, d4_2, d4_3, d4_4, d4_5, d4_6, d4_7, d4_8, d4_9, d4_10, d4_11, d4_12, d4_13, d4_14, d4_15, d4_16, d4_17, d4_18, d4_19], by simp [go_sem, t3_0, t3_1, t3_2, t3_3, t3_4, d4_0, d4_1, d4_2, d4_3, d4_4, d4_5, d4_6, d4_7, d4_8, d4_9, d4_10, d4_11, d4_12, d4_13, d4_14, d4_15, d4_16, d4_17, d4_18, d4_19], by simp [go_sem, t3_0, t3_1, t3_2, t3_3, t3_4, d4_0, d4_1, d4_2, d4_3, d4_4, d4_5, d4_6, d4_7, d4_8, d4_9, d4_10, d4_11, d4_12, d4_13, d4_14, d4_15, d4_16, d4_17, d4_18, d4_19], by simp [go_sem, t3_0, t3_1, t3_2, t3_3, t3_4, d4_0, d4_1, d4_2, d4_3, d4_4, d4_5, d4_6, d4_7, d4_8, d4_9, d4_10, d4_11, d4_12, d4_13, d4_14, d4_15, d4_16, d4_17, d4_18, d4_19], by simp [go_sem, t3_0, t3_1, t3_2, t3_3, t3_4, d4_0, d4_1, d4_2, d4_3, d4_4, d4_5, d4_6, d4_7, d4_8, d4_9, d4_10, d4_11, d4_12, d4_13, d4_14, d4_15, d4_16, d4_17, d4_18, d4_19], by simp [go_sem, t3_0, t3_1, t3_2, t3_3, t3_4, d4_0, d4_1, d4_2, d4_3, d4_4, d4_5, d4_6, d4_7, d4_8, d4_9, d4_10, d4_11, d4_12, d4_13, d4_14, d4_15, d4_16, d4_17, d4_18, d4_19], by simp [go_sem, t3_0, t3_1, t3_2, t3_3, t3_4, d4_0, d4_1, d4_2, d4_3, d4_4, d4_5, d4_6, d4_7, d4_8, d4_9, d4_10, d4_11, d4_12, d4_13, d4_14, d4_15, d4_16, d4_17, d4_18, d4_19], by simp [go_sem, t3_0, t3_1, t3_2, t3_3, t3_4, d4_0, d4_1, d4_2, d4_3, d4_4, d4_5, d4_6, d4_7, d4_8, d4_9, d4_10, d4_11, d4_12, d4_13, d4_14, d4_15, d4_16, d4_17, d4_18, d4_19], by simp [go_sem, t3_0, t3_1, t3_2, t3_3, t3_4, d4_0, d4_1, d4_2, d4_3, d4_4, d4_5, d4_6, d4_7, d4_8, d4_9, d4_10, d4_11, d4_12, d4_13, d4_14, d4_15, d4_16, d4_17, d4_18, d4_19], by simp [go_sem, t3_0, t3_1, t3_2, t3_3, t3_4, d4_0, d4_1, d4_2, d4_3, d4_4, d4_5, d4_6, d4_7, d4_8, d4_9, d4_10, d4_11, d4_12, d4_13, d4_14, d4_15, d4_16, d4_17, d4_18, d4_19], by simp [go_sem, t3_0, t3_1, t3_2, t3_3, t3_4, d4_0, d4_1, d4_2, d4_3, d4_4, d4_5, d4_6, d4_7, d4_8, d4_9, d4_10, d4_11, d4_12, d4_13, d4_14, d4_15, d4_16, d4_17, d4_18, d4_19], by simp [go_sem, t3_0, t3_1, t3_2, t3_3, t3_4, d4_0, d4_1, d4_2, d4_3, d4_4, d4_5, d4_6, d4_7, d4_8, d4_9, d4_10, d4_11, d4_12, d4_13, d4_14, d4_15, d4_16, d4_17, d4_18, d4_19], by simp [go_sem, t3_0, t3_1, t3_2, t3_3, t3_4, d4_0, d4_1, d4_2, d4_3, d4_4, d4_5, d4_6, d4_7, d4_8, d4_9, d4_10, d4_11, d4_12, d4_13, d4_14, d4_15, d4_16, d4_17, d4_18, d4_19], by simp [go_sem, t3_0, t3_1, t3_2, t3_3, t3_4, d4_0, d4_1, d4_2, d4_3, d4_4, d4_5, d4_6, d4_7, d4_8, d4_9, d4_10, d4_11, d4_12, d4_13, d4_14, d4_15, d4_16, d4_17, d4_18, d4_19], by simp [go_sem, t3_0, t3_1, t3_2, t3_3, t3_4, d4_0, d4_1, d4_2, d4_3, d4_4, d4_5, d4_6, d4_7, d4_8, d4_9, d4_10, d4_11, d4_12, d4_13, d4_14, d4_15, d4_16, d4_17, d4_18, d4_19], by simp [go_sem, t3_0, t3_1, t3_2, t3_3, t3_4, d4_0, d4_1, d4_2, d4_3, d4_4, d4_5, d4_6, d4_7, d4_8, d4_9, d4_10, d4_11, d4_12, d4_13, d4_14, d4_15, d4_16, d4_17, d4_18, d4_19], by simp [go_sem, t3_0, t3_1, t3_2, t3_3, t3_4, d4_0, d4_1, d4_2, d4_3, d4_4, d4_5, d4_6, d4_7, d4_8, d4_9, d4_10, d4_11, d4_12, d4_13, d4_14, d4_15, d4_16, d4_17, d4_18, d4_19], by simp [go_sem, t3_0, t3_1, t3_2, t3_3, t3_4, d4_0, d4_1, d4_2, d4_3, d4_4, d4_5, d4_6, d4_7, d4_8, d4_9, d4_10, d4_11, d4_12, d4_13, d4_14, d4_15, d4_16, d4_17, d4_18, d4_19]⟩
  have fzT_18 : ∀ i, (w1.setCell ⟨(w.heap.size + 1), 18, none⟩ (.int .u8 v)).frozen? ⟨w.heap.size, i, none⟩ = false := by intro i; simp [fzT_10]
  have fzD_19 : ∀ i, (w1.setCell ⟨(w.heap.size + 1), 18, none⟩ (.int .u8 v)).frozen? ⟨(w.heap.size + 1), i, none⟩ = false := by intro i; simp [fzD_11]
  clear t3_0 t3_1 t3_2 t3_3 t3_4 d4_0 d4_1 d4_2 d4_3 d4_4 d4_5 d4_6 d4_7 d4_8 d4_9 d4_10 d4_11 d4_12 d4_13 d4_14 d4_15 d4_16 d4_17 d4_18 d4_19 T_12 D_13 fzT_10 fzD_11 B14
  obtain ⟨u2, hu2⟩ : ∃ x, x = (w1.setCell ⟨(w.heap.size + 1), 18, none⟩ (.int .u8 v)) := ⟨_, rfl⟩
  rw [← hu2] at T_16 D_17 fzT_18 fzD_19 B15 ⊢
  clear hu2
  have HR := range20 D_17
  obtain ⟨_, t5_0, t5_1, t5_2, t5_3, t5_4⟩ := id T_16
  go_wp2_with (refine wpList_load_mid rfl 51 _ rfl (w.heap.size + 1) 0 rfl [.int .u8 h0, .int .u16 h1, .bool h2, .int .u8 h3, .int .u8 h4, .int .u32 h5, .int .u32 h6, .string h7, .int .u16 g0, .int .u16 g1, .int .u32 g2, .int .u32 g3, .int .u8 g4, .int .u8 g5, .int .u16 g6, .int .u16 g7, .int .u16 g8, .string g9, .int .u8 v, .string dd] _ HR Tryz.underlying51 rfl (by kernel_rfl) ?_)
  refine (cP _).mono ?_; rintro e w3 ⟨rfl, x3⟩
  have fzT_20 : ∀ i, w3.frozen? ⟨w.heap.size, i, none⟩ = false := fun i => (x3.frozen (p := ⟨_, i, none⟩) T_16.1).trans (fzT_18 i)
  have fzD_21 : ∀ i, w3.frozen? ⟨(w.heap.size + 1), i, none⟩ = false := fun i => (x3.frozen (p := ⟨_, i, none⟩) D_17.1).trans (fzD_19 i)
  clear fzT_18 fzD_19
  have T_22 := T_16.on x3
  have D_23 := D_17.on x3
  have B24 := B15.trans (x3.mono B15.size)
  clear t5_0 t5_1 t5_2 t5_3 t5_4 T_16 D_17 B15 x3
  clear cP ix HR
  cases ok
  · clear cO cN
    go_wp2_with fail
    refine (watched_ K _ (ht.on B24)).mono ?_; rintro e w4 ⟨rfl, x4⟩
    have fzT_25 : ∀ i, w4.frozen? ⟨w.heap.size, i, none⟩ = false := fun i => (x4.frozen (p := ⟨_, i, none⟩) T_22.1).trans (fzT_20 i)
    have fzD_26 : ∀ i, w4.frozen? ⟨(w.heap.size + 1), i, none⟩ = false := fun i => (x4.frozen (p := ⟨_, i, none⟩) D_23.1).trans (fzD_21 i)
    clear fzT_20 fzD_21
    have T_27 := T_22.on x4
    have D_28 := D_23.on x4
    have B29 := B24.trans (x4.mono B24.size)
    clear T_22 D_23 B24 x4
    go_wp2
    go_ret
    exact ⟨rfl, B29⟩
  · have cQ := cO rfl
    clear cO
    go_wp2_with fail
    refine (cQ _ (ht.on B24)).mono ?_; rintro e w4 ⟨rfl, x4⟩
    have fzT_25 : ∀ i, w4.frozen? ⟨w.heap.size, i, none⟩ = false := fun i => (x4.frozen (p := ⟨_, i, none⟩) T_22.1).trans (fzT_20 i)
    have fzD_26 : ∀ i, w4.frozen? ⟨(w.heap.size + 1), i, none⟩ = false := fun i => (x4.frozen (p := ⟨_, i, none⟩) D_23.1).trans (fzD_21 i)
    clear fzT_20 fzD_21
    have T_27 := T_22.on x4
    have D_28 := D_23.on x4
    have B29 := B24.trans (x4.mono B24.size)
    clear T_22 D_23 B24 x4
    clear cQ
    have fzT_30 : ∀ i, (w4.alloc (.cells #[.int .u8 6, .int .u32 a, .int .u16 m, .int .u32 b, .int .u16 n, .int .i64 kk, .int .u8 g5, .bool false, .int .u8 h3] 31)).frozen? ⟨w.heap.size, i, none⟩ = false := fun i => (((Below.refl w4.heap.size w4).alloc (Nat.le_refl _) (.cells #[.int .u8 6, .int .u32 a, .int .u16 m, .int .u32 b, .int .u16 n, .int .i64 kk, .int .u8 g5, .bool false, .int .u8 h3] 31)).frozen (p := ⟨_, i, none⟩) T_27.1).trans (fzT_25 i)
    have fzD_31 : ∀ i, (w4.alloc (.cells #[.int .u8 6, .int .u32 a, .int .u16 m, .int .u32 b, .int .u16 n, .int .i64 kk, .int .u8 g5, .bool false, .int .u8 h3] 31)).frozen? ⟨(w.heap.size + 1), i, none⟩ = false := fun i => (((Below.refl w4.heap.size w4).alloc (Nat.le_refl _) (.cells #[.int .u8 6, .int .u32 a, .int .u16 m, .int .u32 b, .int .u16 n, .int .i64 kk, .int .u8 g5, .bool false, .int .u8 h3] 31)).frozen (p := ⟨_, i, none⟩) D_28.1).trans (fzD_26 i)
    clear fzT_25 fzD_26
    have T_32 := T_27.past (o := (.cells #[.int .u8 6, .int .u32 a, .int .u16 m, .int .u32 b, .int .u16 n, .int .i64 kk, .int .u8 g5, .bool false, .int .u8 h3] 31))
    have D_33 := D_28.past (o := (.cells #[.int .u8 6, .int .u32 a, .int .u16 m, .int .u32 b, .int .u16 n, .int .i64 kk, .int .u8 g5, .bool false, .int .u8 h3] 31))
    have X_34 := Box9.make w4 (.int .u8 6) (.int .u32 a) (.int .u16 m) (.int .u32 b) (.int .u16 n) (.int .i64 kk) (.int .u8 g5) (.bool false) (.int .u8 h3) 31
    have B35 := B29.alloc B29.size (.cells #[.int .u8 6, .int .u32 a, .int .u16 m, .int .u32 b, .int .u16 n, .int .i64 kk, .int .u8 g5, .bool false, .int .u8 h3] 31)
    clear T_27 D_28 B29
    go_upto_region 13 with fail
    obtain ⟨u5, hu5⟩ : ∃ x, x = w4.alloc (.cells #[.int .u8 6, .int .u32 a, .int .u16 m, .int .u32 b, .int .u16 n, .int .i64 kk, .int .u8 g5, .bool false, .int .u8 h3] 31) := ⟨_, rfl⟩
    rw [← hu5] at T_32 D_33 X_34 fzT_30 fzD_31 B35 ⊢
    clear hu5
    rcases hk with ⟨rfl, rfl⟩ | ⟨rfl, rfl, rfl⟩ | ⟨rfl, rfl, rfl⟩
    all_goals
      obtain ⟨_, t6_0, t6_1, t6_2, t6_3, t6_4⟩ := id T_32
      obtain ⟨_, d7_0, d7_1, d7_2, d7_3, d7_4, d7_5, d7_6, d7_7, d7_8, d7_9, d7_10, d7_11, d7_12, d7_13, d7_14, d7_15, d7_16, d7_17, d7_18, d7_19⟩ := id D_33
      obtain ⟨_, x8_0, x8_1, x8_2, x8_3, x8_4, x8_5, x8_6, x8_7, x8_8⟩ := id X_34
      go_wp2_with fail
      refine (cN _ (ht.on B35)).mono ?_; rintro e w6 ⟨rfl, x6⟩
      have fzT_36 : ∀ i, w6.frozen? ⟨w.heap.size, i, none⟩ = false := fun i => (x6.frozen (p := ⟨_, i, none⟩) T_32.1).trans (fzT_30 i)
      have fzD_37 : ∀ i, w6.frozen? ⟨(w.heap.size + 1), i, none⟩ = false := fun i => (x6.frozen (p := ⟨_, i, none⟩) D_33.1).trans (fzD_31 i)
      clear fzT_30 fzD_31
      have T_38 := T_32.on x6
      have D_39 := D_33.on x6
      have X_40 := X_34.on x6
      have B41 := B35.trans (x6.mono B35.size)
      clear t6_0 t6_1 t6_2 t6_3 t6_4 d7_0 d7_1 d7_2 d7_3 d7_4 d7_5 d7_6 d7_7 d7_8 d7_9 d7_10 d7_11 d7_12 d7_13 d7_14 d7_15 d7_16 d7_17 d7_18 d7_19 x8_0 x8_1 x8_2 x8_3 x8_4 x8_5 x8_6 x8_7 x8_8 T_32 D_33 X_34 B35 x6
      clear cN
      go_wp2_with fail
      refine (watched_ K _ (ht.on B41)).mono ?_; rintro e w7 ⟨rfl, x7⟩
      have fzT_42 : ∀ i, w7.frozen? ⟨w.heap.size, i, none⟩ = false := fun i => (x7.frozen (p := ⟨_, i, none⟩) T_38.1).trans (fzT_36 i)
      have fzD_43 : ∀ i, w7.frozen? ⟨(w.heap.size + 1), i, none⟩ = false := fun i => (x7.frozen (p := ⟨_, i, none⟩) D_39.1).trans (fzD_37 i)
      clear fzT_36 fzD_37
      have T_44 := T_38.on x7
      have D_45 := D_39.on x7
      have X_46 := X_40.on x7
      have B47 := B41.trans (x7.mono B41.size)
      clear T_38 D_39 X_40 B41 x7
      go_wp2
      go_ret
      exact ⟨rfl, B47⟩
set_option maxHeartbeats 8000000 in
set_option maxRecDepth 100000 in
theorem seen_tcp_false (K : TupOk) (a m b n h0 h1 h3 h4 h5 h6 g0 g1 g2 g3 g4 g5 g6 g7 g8 ty v r : Int) (h2 : Bool) (h7 g9 dd q S : ByteArray) (ok : Bool) (kk : Int) (c1 c2 : Bool) (w : World) (ht : Tab w) (k7 : h7.size ≤ 600) (k9 : g9.size ≤ 600) (kd : dd.size ≤ 600) (kq : q.size ≤ 100) (kS : S.size ≤ 1000000) (er : ty % 4 = r) (t0 : 0 ≤ ty) (t1 : ty ≤ 255)
    (ix : ∀ u : World, (Instr.index 52 (.agg #[.int .u8 0, .int .u8 8, .int .u8 13, .int .u8 14]) (.int .u8 r)).run Tryz.prog u = .ok (.int .u8 v) u)
    (cM : ∀ u : World, Tab u → Calls Tryz.prog 13 #[.agg #[.int .u8 6, .int .u32 a, .int .u16 m, .int .u32 b, .int .u16 n]] u fun e w' => e = .returned (.bool true) ∧ Below u.heap.size u w')
    (cP : ∀ u : World, Calls Tryz.prog 19 #[.agg #[.int .u8 6, .int .u32 a, .int .u16 m, .int .u32 b, .int .u16 n], .agg #[.int .u8 h0, .int .u16 h1, .bool h2, .int .u8 h3, .int .u8 h4, .int .u32 h5, .int .u32 h6, .string h7, .int .u16 g0, .int .u16 g1, .int .u32 g2, .int .u32 g3, .int .u8 g4, .int .u8 g5, .int .u16 g6, .int .u16 g7, .int .u16 g8, .string g9, .int .u8 v, .string dd]] u fun e w' => e = .returned (.tuple #[.string S, .bool ok]) ∧ Below u.heap.size u w')
    (cO : ok = true → ∀ u : World, Tab u → Calls Tryz.prog 7 #[.string (S ++ q)] u fun e w' => e = .returned (.tuple #[.agg #[.int .u8 6, .int .u32 a, .int .u16 m, .int .u32 b, .int .u16 n, .int .i64 kk, .int .u8 g5, .bool false, .int .u8 h3], .int .i64 0]) ∧ Below u.heap.size u w')
    (cN : ∀ u : World, Tab u → Calls Tryz.prog 13 #[.agg #[.int .u8 6, .int .u32 a, .int .u16 m, .int .u32 b, .int .u16 n]] u fun e w' => e = .returned (.bool true) ∧ Below u.heap.size u w')
    (ev : (v == 0) = false)  (f1 : decide (0 < bits .and .u8 g5 2) = c1) (f2 : (bits .and .u8 g5 21 == 0) = c2) (hk : (c1 = false ∧ kk = 2) ∨ (c1 = true ∧ c2 = false ∧ kk = 2) ∨ (c1 = true ∧ c2 = true ∧ kk = 1)):
    Calls Tryz.prog 5 #[.agg #[.int .u8 6, .int .u32 a, .int .u16 m, .int .u32 b, .int .u16 n], .agg #[.int .u8 h0, .int .u16 h1, .bool h2, .int .u8 h3, .int .u8 h4, .int .u32 h5, .int .u32 h6, .string h7, .int .u16 g0, .int .u16 g1, .int .u32 g2, .int .u32 g3, .int .u8 g4, .int .u8 g5, .int .u16 g6, .int .u16 g7, .int .u16 g8, .string g9, .int .u8 ty, .string dd], .string q] w fun e w' => e = .returned (.bool true) ∧ Below w.heap.size w w' := by
  have z1 : decide (600 < h7.size) = false := by simp; omega
  have z2 : decide ((600 : Int) < (h7.size : Int)) = false := by simp; omega
  have z3 : decide (600 < g9.size) = false := by simp; omega
  have z4 : decide ((600 : Int) < (g9.size : Int)) = false := by simp; omega
  have z5 : decide (600 < dd.size) = false := by simp; omega
  have z6 : decide ((600 : Int) < (dd.size : Int)) = false := by simp; omega
  have z7 : decide (100 < q.size) = false := by simp; omega
  have z8 : decide ((100 : Int) < (q.size : Int)) = false := by simp; omega
  have z9 : S.size + q.size ≤ 9223372036854775807 := by omega
  have y1 : ty.tmod 4 = r := by rw [Int.tmod_eq_emod_of_nonneg t0]; exact er
  have y2 : IntKind.u8.wrap (ty.tmod 4) = r := by rw [y1]; exact IntWalk.u8_in _ (by omega)
  have y3 : IntKind.u8.wrap (ty % 4) = r := by rw [er]; exact IntWalk.u8_in _ (by omega)
  clear k7 k9 kd kq kS t0 t1
  go_enter Tryz.func5, Tryz.ntmps5
  have B1 := Below.refl w.heap.size w
  go_wp2_with fail
  have T_2 := Box5.make w (.int .u8 6) (.int .u32 a) (.int .u16 m) (.int .u32 b) (.int .u16 n) 29
  have B3 := B1.alloc B1.size (.cells #[.int .u8 6, .int .u32 a, .int .u16 m, .int .u32 b, .int .u16 n] 29)
  clear B1
  have fzT_4 : ∀ i, (w.alloc (.cells #[.int .u8 6, .int .u32 a, .int .u16 m, .int .u32 b, .int .u16 n] 29)).frozen? ⟨w.heap.size, i, none⟩ = false := by intro i; simp [go_sem]
  have fzT_5 : ∀ i, ((w.alloc (.cells #[.int .u8 6, .int .u32 a, .int .u16 m, .int .u32 b, .int .u16 n] 29)).alloc (.cells #[.int .u8 h0, .int .u16 h1, .bool h2, .int .u8 h3, .int .u8 h4, .int .u32 h5, .int .u32 h6, .string h7, .int .u16 g0, .int .u16 g1, .int .u32 g2, .int .u32 g3, .int .u8 g4, .int .u8 g5, .int .u16 g6, .int .u16 g7, .int .u16 g8, .string g9, .int .u8 ty, .string dd] 51)).frozen? ⟨w.heap.size, i, none⟩ = false := fun i => (((Below.refl (w.alloc (.cells #[.int .u8 6, .int .u32 a, .int .u16 m, .int .u32 b, .int .u16 n] 29)).heap.size (w.alloc (.cells #[.int .u8 6, .int .u32 a, .int .u16 m, .int .u32 b, .int .u16 n] 29))).alloc (Nat.le_refl _) (.cells #[.int .u8 h0, .int .u16 h1, .bool h2, .int .u8 h3, .int .u8 h4, .int .u32 h5, .int .u32 h6, .string h7, .int .u16 g0, .int .u16 g1, .int .u32 g2, .int .u32 g3, .int .u8 g4, .int .u8 g5, .int .u16 g6, .int .u16 g7, .int .u16 g8, .string g9, .int .u8 ty, .string dd] 51)).frozen (p := ⟨_, i, none⟩) T_2.1).trans (fzT_4 i)
  clear fzT_4
  have T_6 := T_2.past (o := (.cells #[.int .u8 h0, .int .u16 h1, .bool h2, .int .u8 h3, .int .u8 h4, .int .u32 h5, .int .u32 h6, .string h7, .int .u16 g0, .int .u16 g1, .int .u32 g2, .int .u32 g3, .int .u8 g4, .int .u8 g5, .int .u16 g6, .int .u16 g7, .int .u16 g8, .string g9, .int .u8 ty, .string dd] 51))
  have hs_ : (w.alloc (.cells #[.int .u8 6, .int .u32 a, .int .u16 m, .int .u32 b, .int .u16 n] 29)).heap.size = w.heap.size + 1 := by simp
  have D_7 := Box20.make (w.alloc (.cells #[.int .u8 6, .int .u32 a, .int .u16 m, .int .u32 b, .int .u16 n] 29)) (.int .u8 h0) (.int .u16 h1) (.bool h2) (.int .u8 h3) (.int .u8 h4) (.int .u32 h5) (.int .u32 h6) (.string h7) (.int .u16 g0) (.int .u16 g1) (.int .u32 g2) (.int .u32 g3) (.int .u8 g4) (.int .u8 g5) (.int .u16 g6) (.int .u16 g7) (.int .u16 g8) (.string g9) (.int .u8 ty) (.string dd) 51
  rw [hs_] at D_7
  clear hs_
  have B8 := B3.alloc B3.size (.cells #[.int .u8 h0, .int .u16 h1, .bool h2, .int .u8 h3, .int .u8 h4, .int .u32 h5, .int .u32 h6, .string h7, .int .u16 g0, .int .u16 g1, .int .u32 g2, .int .u32 g3, .int .u8 g4, .int .u8 g5, .int .u16 g6, .int .u16 g7, .int .u16 g8, .string g9, .int .u8 ty, .string dd] 51)
  clear T_2 B3
  have fzD_9 : ∀ i, ((w.alloc (.cells #[.int .u8 6, .int .u32 a, .int .u16 m, .int .u32 b, .int .u16 n] 29)).alloc (.cells #[.int .u8 h0, .int .u16 h1, .bool h2, .int .u8 h3, .int .u8 h4, .int .u32 h5, .int .u32 h6, .string h7, .int .u16 g0, .int .u16 g1, .int .u32 g2, .int .u32 g3, .int .u8 g4, .int .u8 g5, .int .u16 g6, .int .u16 g7, .int .u16 g8, .string g9, .int .u8 ty, .string dd] 51)).frozen? ⟨(w.heap.size + 1), i, none⟩ = false := by intro i; simp [go_sem]
  refine (cM _ (ht.on B8)).mono ?_; rintro e w1 ⟨rfl, x1⟩
  have fzT_10 : ∀ i, w1.frozen? ⟨w.heap.size, i, none⟩ = false := fun i => (x1.frozen (p := ⟨_, i, none⟩) T_6.1).trans (fzT_5 i)
  have fzD_11 : ∀ i, w1.frozen? ⟨(w.heap.size + 1), i, none⟩ = false := fun i => (x1.frozen (p := ⟨_, i, none⟩) D_7.1).trans (fzD_9 i)
  clear fzT_5 fzD_9
  have T_12 := T_6.on x1
  have D_13 := D_7.on x1
  have B14 := B8.trans (x1.mono B8.size)
  clear T_6 D_7 B8 x1
  have ne1_ : ¬ w.heap.size + 1 = w.heap.size := by omega
  have ne2_ : ¬ w.heap.size = w.heap.size + 1 := by omega
  clear cM
  obtain ⟨_, t1_0, t1_1, t1_2, t1_3, t1_4⟩ := id T_12
  obtain ⟨_, d2_0, d2_1, d2_2, d2_3, d2_4, d2_5, d2_6, d2_7, d2_8, d2_9, d2_10, d2_11, d2_12, d2_13, d2_14, d2_15, d2_16, d2_17, d2_18, d2_19⟩ := id D_13
  go_upto_region 9 with fail
  clear t1_0 t1_1 t1_2 t1_3 t1_4 d2_0 d2_1 d2_2 d2_3 d2_4 d2_5 d2_6 d2_7 d2_8 d2_9 d2_10 d2_11 d2_12 d2_13 d2_14 d2_15 d2_16 d2_17 d2_18 d2_19
  obtain ⟨_, t3_0, t3_1, t3_2, t3_3, t3_4⟩ := id T_12
  obtain ⟨_, d4_0, d4_1, d4_2, d4_3, d4_4, d4_5, d4_6, d4_7, d4_8, d4_9, d4_10, d4_11, d4_12, d4_13, d4_14, d4_15, d4_16, d4_17, d4_18, d4_19⟩ := id D_13
  have B15 := (B14.setCell (p := ⟨(w.heap.size + 1), 18, none⟩) (by show w.heap.size ≤ w.heap.size + 1; omega) (.int .u8 v))
  have T_16 : Box5 (w1.setCell ⟨(w.heap.size + 1), 18, none⟩ (.int .u8 v)) w.heap.size (.int .u8 6) (.int .u32 a) (.int .u16 m) (.int .u32 b) (.int .u16 n) := ⟨by have := T_12.1; simpa using this, by simp [go_sem, t3_0, t3_1, t3_2, t3_3, t3_4, d4_0, d4_1, d4_2, d4_3, d4_4, d4_5, d4_6, d4_7, d4_8, d4_9, d4_10, d4_11, d4_12, d4_13, d4_14, d4_15, d4_16, d4_17, d4_18, d4_19], by simp [go_sem, t3_0, t3_1, t3_2, t3_3, t3_4, d4_0, d4_1, d4_2, d4_3, d4_4, d4_5, d4_6, d4_7, d4_8, d4_9, d4_10, d4_11, d4_12, d4_13, d4_14, d4_15, d4_16, d4_17, d4_18, d4_19], by simp [go_sem, t3_0, t3_1, t3_2, t3_3, t3_4, d4_0, d4_1, d4_2, d4_3, d4_4, d4_5, d4_6, d4_7, d4_8, d4_9, d4_10, d4_11, d4_12, d4_13, d4_14, d4_15, d4_16, d4_17, d4_18, d4_19], by simp [go_sem, t3_0, t3_1, t3_2, t3_3, t3_4, d4_0, d4_1, d4_2, d4_3, d4_4, d4_5, d4_6, d4_7, d4_8, d4_9, d4_10, d4_11, d4_12, d4_13, d4_14, d4_15, d4_16, d4_17, d4_18, d4_19], by simp [go_sem, t3_0, t3_1, t3_2, t3_3, t3_4, d4_0, d4_1, d4_2, d4_3, d4_4, d4_5, d4_6, d4_7, d4_8, d4_9, d4_10, d4_11, d4_12, d4_13, d4_14, d4_15, d4_16, d4_17, d4_18, d4_19]⟩
  have D_17 : Box20 (w1.setCell ⟨(w.heap.size + 1), 18, none⟩ (.int .u8 v)) (w.heap.size + 1) (.int .u8 h0) (.int .u16 h1) (.bool h2) (.int .u8 h3) (.int .u8 h4) (.int .u32 h5) (.int .u32 h6) (.string h7) (.int .u16 g0) (.int .u16 g1) (.int .u32 g2) (.int .u32 g3) (.int .u8 g4) (.int .u8 g5) (.int .u16 g6) (.int .u16 g7) (.int .u16 g8) (.string g9) (.int .u8 v) (.string dd) := ⟨by have := D_13.1; simpa using this, by simp [go_sem, t3_0, t3_1, t3_2, t3_3, t3_4, d4_0, d4_1, d4_2, d4_3, d4_4, d4_5, d4_6, d4_7, d4_8, d4_9, d4_10, d4_11, d4_12, d4_13, d4_14, d4_15, d4_16, d4_17, d4_18, d4_19], by simp [go_sem, t3_0, t3_1, t3_2, t3_3, t3_4, d4_0, d4_1, d4_2, d4_3, d4_4, d4_5, d4_6, d4_7, d4_8, d4_9, d4_10, d4_11, d4_12, d4_13, d4_14, d4_15, d4_16, d4_17, d4_18, d4_19], by simp [go_sem, t3_0, t3_1, t3_2, t3_3, t3_4, d4_0, d4_1, d4_2, d4_3, d4_4, d4_5, d4_6, d4_7, d4_8, d4_9, d4_10, d4_11, d4_12, d4_13, d4_14, d4_15, d4_16, d4_17, d4_18, d4_19], by simp [go_sem, t3_0, t3_1, t3_2, t3_3, t3_4, d4_0, d4_1, d4_2, d4_3, d4_4, d4_5, d4_6, d4_7, d4_8, d4_9, d4_10, d4_11, d4_12, d4_13, d4_14, d4_15, d4_16, d4_17, d4_18, d4_19], by simp [go_sem, t3_0, t3_1, t3_2, t3_3, t3_4, d4_0, d4_1, d4_2, d4_3, d4_4, d4_5, d4_6, d4_7, d4_8, d4_9, d4_10, d4_11, d4_12, d4_13, d4_14, d4_15, d4_16, d4_17, d4_18, d4_19], by simp [go_sem, t3_0, t3_1, t3_2, t3_3, t3_4, d4_0, d4_1, d4_2, d4_3, d4_4, d4_5, d4_6, d4_7, d4_8, d4_9, d4_10, d4_11, d4_12, d4_13, d4_14, d4_15, d4_16, d4_17, d4_18, d4_19], by simp [go_sem, t3_0, t3_1, t3_2, t3_3, t3_4, d4_0, d4_1, d4_2, d4_3, d4_4, d4_5, d4_6, d4_7, d4_8, d4_9, d4_10, d4_11, d4_12, d4_13, d4_14, d4_15, d4_16, d4_17, d4_18, d4_19], by simp [go_sem, t3_0, t3_1, t3_2, t3_3, t3_4, d4_0, d4_1, d4_2, d4_3, d4_4, d4_5, d4_6, d4_7, d4_8, d4_9, d4_10, d4_11, d4_12, d4_13, d4_14, d4_15, d4_16, d4_17, d4_18, d4_19], by simp [go_sem, t3_0, t3_1, t3_2, t3_3, t3_4, d4_0, d4_1, d4_2, d4_3, d4_4, d4_5, d4_6, d4_7, d4_8, d4_9, d4_10, d4_11, d4_12, d4_13, d4_14, d4_15, d4_16, d4_17, d4_18, d4_19], by simp [go_sem, t3_0, t3_1, t3_2, t3_3, t3_4, d4_0, d4_1, d4_2, d4_3, d4_4, d4_5, d4_6, d4_7, d4_8, d4_9, d4_10, d4_11, d4_12, d4_13, d4_14, d4_15, d4_16, d4_17, d4_18, d4_19], by simp [go_sem, t3_0, t3_1, t3_2, t3_3, t3_4, d4_0, d4_1, d4_2, d4_3, d4_4, d4_5, d4_6, d4_7, d4_8, d4_9, d4_10, d4_11, d4_12, d4_13, d4_14, d4_15, d4_16, d4_17, d4_18, d4_19], by simp [go_sem, t3_0, t3_1, t3_2, t3_3, t3_4, d4_0, d4_1, d4_2, d4_3, d4_4, d4_5, d4_6, d4_7, d4_8, d4_9, d4_10, d4_11, d4_12, d4_13, d4_14, d4_15, d4_16, d4_17, d4_18, d4_19], by simp [go_sem, t3_0, t3_1, t3_2, t3_3, t3_4, d4_0, d4_1, d4_2, d4_3, d4_4, d4_5, d4_6, d4_7, d4_8, d4_9, d4_10, d4_11, d4_12, d4_13, d4_14, d4_15, d4_16, d4_17, d4_18, d4_19], by simp [go_sem, t3_0, t3_1, t3_2, t3_3, t3_4, d4_0, d4_1, d4_2, d4_3, d4_4, d4_5, d4_6, d4_7, d4_8, d4_9, d4_10, d4_11, d4_12, d4_13, d4_14, d4_15, d4_16, d4_17, d4_18, d4_19], by simp [go_sem, t3_0, t3_1, t3_2, t3_3, t3_4, d4_0, d4_1, d4_2, d4_3, d4_4, d4_5, d4_6, d4_7, d4_8, d4_9, d4_10, d4_11, d4_12, d4_13, d4_14, d4_15, d4_16, d4_17, d4_18, d4_19], by simp [go_sem, t3_0, t3_1, t3_2, t3_3, t3_4, d4_0, d4_1, d4_2, d4_3, d4_4, d4_5, d4_6, d4_7, d4_8, d4_9, d4_10, d4_11, d4_12, d4_13, d4_14, d4_15, d4_16, d4_17, d4_18, d4_19], by simp [go_sem, t3_0, t3_1, t3_2, t3_3, t3_4, d4_0, d4_1, d4_2, d4_3, d4_4, d4_5, d4_6, d4_7, d4_8, d4_9, d4_10, d4_11, d4_12, d4_13, d4_14, d4_15, d4_16, d4_17, d4_18, d4_19], by simp [go_sem, t3_0, t3_1, t3_2, t3_3, t3_4, d4_0, d4_1, d4_2, d4_3, d4_4, d4_5, d4_6, d4_7, d4_8, d4_9, d4_10, d4_11, d4_12, d4_13, d4_14, d4_15, d4_16, d4_17, d4_18, d4_19], by simp [go_sem, t3_0, t3_1, t3_2, t3_3, t3_4, d4_0, d4_1, d4_2, d4_3, d4_4, d4_5, d4_6, d4_7, d4_8, d4_9, d4_10, d4_11, d4_12, d4_13, d4_14, d4_15, d4_16, d4_17, d4_18, d4_19], by simp [go_sem, t3_0, t3_1, t3_2, t3_3, t3_4, d4_0, d4_1, d4_2, d4_3, d4_4, d4_5, d4_6, d4_7, d4_8, d4_9, d4_10, d4_11, d4_12, d4_13, d4_14, d4_15, d4_16, d4_17, d4_18, d4_19]⟩
  have fzT_18 : ∀ i, (w1.setCell ⟨(w.heap.size + 1), 18, none⟩ (.int .u8 v)).frozen? ⟨w.heap.size, i, none⟩ = false := by intro i; simp [fzT_10]
  have fzD_19 : ∀ i, (w1.setCell ⟨(w.heap.size + 1), 18, none⟩ (.int .u8 v)).frozen? ⟨(w.heap.size + 1), i, none⟩ = false := by intro i; simp [fzD_11]
  clear t3_0 t3_1 t3_2 t3_3 t3_4 d4_0 d4_1 d4_2 d4_3 d4_4 d4_5 d4_6 d4_7 d4_8 d4_9 d4_10 d4_11 d4_12 d4_13 d4_14 d4_15 d4_16 d4_17 d4_18 d4_19 T_12 D_13 fzT_10 fzD_11 B14
  obtain ⟨u2, hu2⟩ : ∃ x, x = (w1.setCell ⟨(w.heap.size + 1), 18, none⟩ (.int .u8 v)) := ⟨_, rfl⟩
  rw [← hu2] at T_16 D_17 fzT_18 fzD_19 B15 ⊢
  clear hu2
  have HR := range20 D_17
  obtain ⟨_, t5_0, t5_1, t5_2, t5_3, t5_4⟩ := id T_16
  go_wp2_with (refine wpList_load_mid rfl 51 _ rfl (w.heap.size + 1) 0 rfl [.int .u8 h0, .int .u16 h1, .bool h2, .int .u8 h3, .int .u8 h4, .int .u32 h5, .int .u32 h6, .string h7, .int .u16 g0, .int .u16 g1, .int .u32 g2, .int .u32 g3, .int .u8 g4, .int .u8 g5, .int .u16 g6, .int .u16 g7, .int .u16 g8, .string g9, .int .u8 v, .string dd] _ HR Tryz.underlying51 rfl (by kernel_rfl) ?_)
  refine (cP _).mono ?_; rintro e w3 ⟨rfl, x3⟩
  have fzT_20 : ∀ i, w3.frozen? ⟨w.heap.size, i, none⟩ = false := fun i => (x3.frozen (p := ⟨_, i, none⟩) T_16.1).trans (fzT_18 i)
  have fzD_21 : ∀ i, w3.frozen? ⟨(w.heap.size + 1), i, none⟩ = false := fun i => (x3.frozen (p := ⟨_, i, none⟩) D_17.1).trans (fzD_19 i)
  clear fzT_18 fzD_19
  have T_22 := T_16.on x3
  have D_23 := D_17.on x3
  have B24 := B15.trans (x3.mono B15.size)
  clear t5_0 t5_1 t5_2 t5_3 t5_4 T_16 D_17 B15 x3
  clear cP ix HR
  cases ok
  · clear cO cN
    go_wp2_with fail
    refine (watched_ K _ (ht.on B24)).mono ?_; rintro e w4 ⟨rfl, x4⟩
    have fzT_25 : ∀ i, w4.frozen? ⟨w.heap.size, i, none⟩ = false := fun i => (x4.frozen (p := ⟨_, i, none⟩) T_22.1).trans (fzT_20 i)
    have fzD_26 : ∀ i, w4.frozen? ⟨(w.heap.size + 1), i, none⟩ = false := fun i => (x4.frozen (p := ⟨_, i, none⟩) D_23.1).trans (fzD_21 i)
    clear fzT_20 fzD_21
    have T_27 := T_22.on x4
    have D_28 := D_23.on x4
    have B29 := B24.trans (x4.mono B24.size)
    clear T_22 D_23 B24 x4
    go_wp2
    go_ret
    exact ⟨rfl, B29⟩
  · have cQ := cO rfl
    clear cO
    go_wp2_with fail
    refine (cQ _ (ht.on B24)).mono ?_; rintro e w4 ⟨rfl, x4⟩
    have fzT_25 : ∀ i, w4.frozen? ⟨w.heap.size, i, none⟩ = false := fun i => (x4.frozen (p := ⟨_, i, none⟩) T_22.1).trans (fzT_20 i)
    have fzD_26 : ∀ i, w4.frozen? ⟨(w.heap.size + 1), i, none⟩ = false := fun i => (x4.frozen (p := ⟨_, i, none⟩) D_23.1).trans (fzD_21 i)
    clear fzT_20 fzD_21
    have T_27 := T_22.on x4
    have D_28 := D_23.on x4
    have B29 := B24.trans (x4.mono B24.size)
    clear T_22 D_23 B24 x4
    clear cQ
    have fzT_30 : ∀ i, (w4.alloc (.cells #[.int .u8 6, .int .u32 a, .int .u16 m, .int .u32 b, .int .u16 n, .int .i64 kk, .int .u8 g5, .bool false, .int .u8 h3] 31)).frozen? ⟨w.heap.size, i, none⟩ = false := fun i => (((Below.refl w4.heap.size w4).alloc (Nat.le_refl _) (.cells #[.int .u8 6, .int .u32 a, .int .u16 m, .int .u32 b, .int .u16 n, .int .i64 kk, .int .u8 g5, .bool false, .int .u8 h3] 31)).frozen (p := ⟨_, i, none⟩) T_27.1).trans (fzT_25 i)
    have fzD_31 : ∀ i, (w4.alloc (.cells #[.int .u8 6, .int .u32 a, .int .u16 m, .int .u32 b, .int .u16 n, .int .i64 kk, .int .u8 g5, .bool false, .int .u8 h3] 31)).frozen? ⟨(w.heap.size + 1), i, none⟩ = false := fun i => (((Below.refl w4.heap.size w4).alloc (Nat.le_refl _) (.cells #[.int .u8 6, .int .u32 a, .int .u16 m, .int .u32 b, .int .u16 n, .int .i64 kk, .int .u8 g5, .bool false, .int .u8 h3] 31)).frozen (p := ⟨_, i, none⟩) D_28.1).trans (fzD_26 i)
    clear fzT_25 fzD_26
    have T_32 := T_27.past (o := (.cells #[.int .u8 6, .int .u32 a, .int .u16 m, .int .u32 b, .int .u16 n, .int .i64 kk, .int .u8 g5, .bool false, .int .u8 h3] 31))
    have D_33 := D_28.past (o := (.cells #[.int .u8 6, .int .u32 a, .int .u16 m, .int .u32 b, .int .u16 n, .int .i64 kk, .int .u8 g5, .bool false, .int .u8 h3] 31))
    have X_34 := Box9.make w4 (.int .u8 6) (.int .u32 a) (.int .u16 m) (.int .u32 b) (.int .u16 n) (.int .i64 kk) (.int .u8 g5) (.bool false) (.int .u8 h3) 31
    have B35 := B29.alloc B29.size (.cells #[.int .u8 6, .int .u32 a, .int .u16 m, .int .u32 b, .int .u16 n, .int .i64 kk, .int .u8 g5, .bool false, .int .u8 h3] 31)
    clear T_27 D_28 B29
    go_upto_region 13 with fail
    obtain ⟨u5, hu5⟩ : ∃ x, x = w4.alloc (.cells #[.int .u8 6, .int .u32 a, .int .u16 m, .int .u32 b, .int .u16 n, .int .i64 kk, .int .u8 g5, .bool false, .int .u8 h3] 31) := ⟨_, rfl⟩
    rw [← hu5] at T_32 D_33 X_34 fzT_30 fzD_31 B35 ⊢
    clear hu5
    rcases hk with ⟨rfl, rfl⟩ | ⟨rfl, rfl, rfl⟩ | ⟨rfl, rfl, rfl⟩
    all_goals
      obtain ⟨_, t6_0, t6_1, t6_2, t6_3, t6_4⟩ := id T_32
      obtain ⟨_, d7_0, d7_1, d7_2, d7_3, d7_4, d7_5, d7_6, d7_7, d7_8, d7_9, d7_10, d7_11, d7_12, d7_13, d7_14, d7_15, d7_16, d7_17, d7_18, d7_19⟩ := id D_33
      obtain ⟨_, x8_0, x8_1, x8_2, x8_3, x8_4, x8_5, x8_6, x8_7, x8_8⟩ := id X_34
      go_wp2_with fail
      refine (cN _ (ht.on B35)).mono ?_; rintro e w6 ⟨rfl, x6⟩
      have fzT_36 : ∀ i, w6.frozen? ⟨w.heap.size, i, none⟩ = false := fun i => (x6.frozen (p := ⟨_, i, none⟩) T_32.1).trans (fzT_30 i)
      have fzD_37 : ∀ i, w6.frozen? ⟨(w.heap.size + 1), i, none⟩ = false := fun i => (x6.frozen (p := ⟨_, i, none⟩) D_33.1).trans (fzD_31 i)
      clear fzT_30 fzD_31
      have T_38 := T_32.on x6
      have D_39 := D_33.on x6
      have X_40 := X_34.on x6
      have B41 := B35.trans (x6.mono B35.size)
      clear t6_0 t6_1 t6_2 t6_3 t6_4 d7_0 d7_1 d7_2 d7_3 d7_4 d7_5 d7_6 d7_7 d7_8 d7_9 d7_10 d7_11 d7_12 d7_13 d7_14 d7_15 d7_16 d7_17 d7_18 d7_19 x8_0 x8_1 x8_2 x8_3 x8_4 x8_5 x8_6 x8_7 x8_8 T_32 D_33 X_34 B35 x6
      clear cN
      go_wp2_with fail
      refine (watched_ K _ (ht.on B41)).mono ?_; rintro e w7 ⟨rfl, x7⟩
      have fzT_42 : ∀ i, w7.frozen? ⟨w.heap.size, i, none⟩ = false := fun i => (x7.frozen (p := ⟨_, i, none⟩) T_38.1).trans (fzT_36 i)
      have fzD_43 : ∀ i, w7.frozen? ⟨(w.heap.size + 1), i, none⟩ = false := fun i => (x7.frozen (p := ⟨_, i, none⟩) D_39.1).trans (fzD_37 i)
      clear fzT_36 fzD_37
      have T_44 := T_38.on x7
      have D_45 := D_39.on x7
      have X_46 := X_40.on x7
      have B47 := B41.trans (x7.mono B41.size)
      clear T_38 D_39 X_40 B41 x7
      go_wp2
      go_ret
      exact ⟨rfl, B47⟩
end Go.Proofs.YtidkgnanfhdhdaaGreatDoor.TuplesSeen
