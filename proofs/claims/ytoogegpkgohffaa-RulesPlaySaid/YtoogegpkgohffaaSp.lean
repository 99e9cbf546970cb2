/- Layer 11: the rule of a draft: one that is not static. -/
import Derived.Test.YtoogegpkgohffaaSo
import Derived.Test.YtoogegpkgohffaaSj
import Derived.Test.YtoogegpkgohffaaSm
namespace Go.Proofs.Ytoogegpkgohffaa
set_option linter.unusedVariables false
set_option linter.unusedSimpArgs false
open Go.ChangeShapes Go.WideShapes Go.ChangeAt Go.RowKit Go.PlainAid
attribute [local go_sem ↓] Go.wp_at_zero Go.wp_at_succ
set_option maxHeartbeats 4000000 in
set_option maxRecDepth 100000 in
theorem ruleN1_ (d : Dr) (w : World) (hd : d.Ok) (hk : d.d0 % 3 = 1) :
    Calls Try.prog 20 #[.agg #[.int .u8 d.d0, .int .u8 d.d1, .int .u8 d.d2, .int .u8 d.d3, .int .u8 d.d4, .int .u8 d.d5]] w fun e w' => e = .returned (.agg #[.int .i64 (ruleD d).k, .int .u8 (ruleD d).pr, .int .u32 ((ruleD d).si : Int), .int .i64 (ruleD d).sb, .int .u32 ((ruleD d).di : Int), .int .i64 (ruleD d).db, .int .u32 ((ruleD d).ex : Int), .int .u16 (ruleD d).fr, .int .u16 (ruleD d).to, .int .u32 ((ruleD d).ii : Int), .int .u16 (ruleD d).ip]) ∧ Below w.heap.size w w' := by
  have HK : Hid (ruleD d = { ruleN d with k := 2, ex := 0 }) := by show _ = _; unfold ruleD; rw [if_neg (by omega), if_pos hk]
  obtain ⟨q, hq, ix⟩ : ∃ q : Int, drP4 d = q ∧ ∀ u : World, (Instr.index 83 (.agg #[.int .u8 0, .int .u8 1, .int .u8 6, .int .u8 17]) (.int .u8 (d.d1 % 4))).run Try.prog u = .ok (.int .u8 q) u := by
    have hf := four d.d1
    refine ⟨_, rfl, ?_⟩
    unfold drP4
    rcases hf with e3 | e3 | e3 | e3 <;> rw [e3] <;> intro u <;> simp [Instr.index, run_underlying Try.underlying83, asIntOf, go_sem]
  obtain ⟨si, sb, hs1, hs2, iy⟩ : ∃ (si : Nat) (sb : Int), drSI d = si ∧ drSB d = sb ∧ ∀ u : World, (Instr.index 84 (.agg #[.int .u32 0, .int .i64 0, .int .u32 167772160, .int .i64 8, .int .u32 167772160, .int .i64 31, .int .u32 167772162, .int .i64 32]) (.int .u8 (d.d4 % 4))).run Try.prog u = .ok (.agg #[.int .u32 (si : Int), .int .i64 sb]) u := by
    have hf := four d.d4
    refine ⟨_, _, rfl, rfl, ?_⟩
    unfold drSI drSB
    rcases hf with e3 | e3 | e3 | e3 <;> rw [e3] <;> intro u <;> simp [Instr.index, run_underlying Try.underlying84, asIntOf, go_sem]
  obtain ⟨di, db, hd1, hd2, iz⟩ : ∃ (di : Nat) (db : Int), drDI d = di ∧ drDB d = db ∧ ∀ u : World, (Instr.index 85 (.agg #[.int .u32 0, .int .i64 0, .int .u32 16909056, .int .i64 24, .int .u32 16909060, .int .i64 32]) (.int .u8 (d.d5 % 3))).run Try.prog u = .ok (.agg #[.int .u32 (di : Int), .int .i64 db]) u := by
    have hf := three d.d5
    refine ⟨_, _, rfl, rfl, ?_⟩
    unfold drDI drDB
    rcases hf with e3 | e3 | e3 <;> rw [e3] <;> intro u <;> simp [Instr.index, run_underlying Try.underlying85, asIntOf, go_sem]
  have t0 : d.d0.tmod 3 = 1 := by rw [Int.tmod_eq_emod_of_nonneg hd.a0.1]; exact hk
  obtain ⟨x1, h1, _, _, _, t1, _, _, _⟩ := mod_nat d.d1 4 hd.a1 (by omega) (by omega)
  obtain ⟨x2, h2, i2, b2, _, t2, v2, _, u2⟩ := mod_nat d.d2 3 hd.a2 (by omega) (by omega)
  obtain ⟨x3, h3, i3, b3, _, t3, v3, w3, _⟩ := mod_nat d.d3 8 hd.a3 (by omega) (by omega)
  obtain ⟨x4, h4, i4, b4, _, t4, v4, _, u4⟩ := mod_nat d.d4 4 hd.a4 (by omega) (by omega)
  obtain ⟨x5, h5, i5, b5, _, t5, v5, w5, _⟩ := mod_nat d.d5 3 hd.a5 (by omega) (by omega)
  obtain ⟨z3, hz3, tz3, vz3, bz3⟩ : ∃ z : Int, d.d3 / 8 = z ∧ d.d3.tdiv 8 = z ∧ IntKind.u8.wrap z = z ∧ (0 ≤ z ∧ z ≤ 255) := by
    have := hd.a3
    exact ⟨_, rfl, Int.tdiv_eq_ediv_of_nonneg (by omega), IntWalk.u8_in _ (by omega), by omega⟩
  obtain ⟨y3, g3, _, c3, _, s3, r3, p3, _⟩ := mod_nat z3 4 bz3 (by omega) (by omega)
  rw [h1] at ix
  rw [h4] at iy
  rw [h5] at iz
  have HR : Hid (ruleN d = ⟨1, q, si, sb, di, db, 151587081 + x2, 4 + (x3 : Int), 4 + (x3 : Int) + (y3 : Int), 0, 0⟩) := by
    show _ = _
    unfold ruleN drX
    rw [hq, i2, h3, hz3, g3, hs1, hs2, hd1, hd2]
  have k2 : IntKind.u32.wrap (151587081 + (x2 : Int)) = 151587081 + (x2 : Int) := IntWalk.u32_in _ (by omega)
  have k3 : IntKind.u16.wrap (4 + (x3 : Int)) = 4 + (x3 : Int) := IntWalk.u16_in _ (by omega)
  have k6 : IntKind.u16.wrap (4 + (x3 : Int) + (y3 : Int)) = 4 + (x3 : Int) + (y3 : Int) := IntWalk.u16_in _ (by omega)
  have HD := Lib.hid hd
  clear hq h1 h2 h3 h4 h5 i2 i3 i4 i5 hd hk hs1 hs2 hd1 hd2 hz3 g3 bz3
  go_enter Try.func20, Try.ntmps20
  have B1 := Below.refl w.heap.size w
  go_upto_region 1 with fail
  have D_2 := Box6.make w (.int .u8 d.d0) (.int .u8 d.d1) (.int .u8 d.d2) (.int .u8 d.d3) (.int .u8 d.d4) (.int .u8 d.d5) 37
  have B3 := B1.alloc B1.size (.cells #[.int .u8 d.d0, .int .u8 d.d1, .int .u8 d.d2, .int .u8 d.d3, .int .u8 d.d4, .int .u8 d.d5] 37)
  clear B1
  have D_4 := D_2.past (o := (.cells #[.int .i64 0, .int .u8 0, .int .u32 0, .int .i64 0, .int .u32 0, .int .i64 0, .int .u32 0, .int .u16 0, .int .u16 0, .int .u32 0, .int .u16 0] 42))
  have hs_ : (w.alloc (.cells #[.int .u8 d.d0, .int .u8 d.d1, .int .u8 d.d2, .int .u8 d.d3, .int .u8 d.d4, .int .u8 d.d5] 37)).heap.size = w.heap.size + 1 := by simp
  have Z_5 := Box11.make (w.alloc (.cells #[.int .u8 d.d0, .int .u8 d.d1, .int .u8 d.d2, .int .u8 d.d3, .int .u8 d.d4, .int .u8 d.d5] 37)) (.int .i64 0) (.int .u8 0) (.int .u32 0) (.int .i64 0) (.int .u32 0) (.int .i64 0) (.int .u32 0) (.int .u16 0) (.int .u16 0) (.int .u32 0) (.int .u16 0) 42
  rw [hs_] at Z_5
  clear hs_
  have B6 := B3.alloc B3.size (.cells #[.int .i64 0, .int .u8 0, .int .u32 0, .int .i64 0, .int .u32 0, .int .i64 0, .int .u32 0, .int .u16 0, .int .u16 0, .int .u32 0, .int .u16 0] 42)
  clear D_2 B3
  have fzZ_7 : ∀ i, ((w.alloc (.cells #[.int .u8 d.d0, .int .u8 d.d1, .int .u8 d.d2, .int .u8 d.d3, .int .u8 d.d4, .int .u8 d.d5] 37)).alloc (.cells #[.int .i64 0, .int .u8 0, .int .u32 0, .int .i64 0, .int .u32 0, .int .i64 0, .int .u32 0, .int .u16 0, .int .u16 0, .int .u32 0, .int .u16 0] 42)).frozen? ⟨(w.heap.size + 1), i, none⟩ = false := by intro i; simp [go_sem]
  obtain ⟨u1, hu1⟩ : ∃ x_ : World, x_ = (w.alloc (.cells #[.int .u8 d.d0, .int .u8 d.d1, .int .u8 d.d2, .int .u8 d.d3, .int .u8 d.d4, .int .u8 d.d5] 37)).alloc (.cells #[.int .i64 0, .int .u8 0, .int .u32 0, .int .i64 0, .int .u32 0, .int .i64 0, .int .u32 0, .int .u16 0, .int .u16 0, .int .u32 0, .int .u16 0] 42) := ⟨_, rfl⟩
  rw [← hu1] at D_4 Z_5 fzZ_7 B6 ⊢
  clear hu1
  have zz := Lib.hid Z_5.1
  obtain ⟨_, d1_0, d1_1, d1_2, d1_3, d1_4, d1_5⟩ := id D_4
  obtain ⟨_, z2_0, z2_1, z2_2, z2_3, z2_4, z2_5, z2_6, z2_7, z2_8, z2_9, z2_10⟩ := id Z_5
  have ne1_ : ¬ w.heap.size = w.heap.size + 1 := by omega
  have ne2_ : ¬ w.heap.size + 1 = w.heap.size := by omega
  go_upto_region 4 with fail
  go_region
  clear d1_0 d1_1 d1_2 d1_3 d1_4 d1_5 z2_0 z2_1 z2_2 z2_3 z2_4 z2_5 z2_6 z2_7 z2_8 z2_9 z2_10
  have fzZ_8 : ∀ i, (u1.alloc (.cells #[.int .i64 1, .int .u8 q, .int .u32 0, .int .i64 0, .int .u32 0, .int .i64 0, .int .u32 (151587081 + (x2 : Int)), .int .u16 (4 + (x3 : Int)), .int .u16 0, .int .u32 0, .int .u16 0] 42)).frozen? ⟨(w.heap.size + 1), i, none⟩ = false := fun i => (((Below.refl u1.heap.size u1).alloc (Nat.le_refl _) (.cells #[.int .i64 1, .int .u8 q, .int .u32 0, .int .i64 0, .int .u32 0, .int .i64 0, .int .u32 (151587081 + (x2 : Int)), .int .u16 (4 + (x3 : Int)), .int .u16 0, .int .u32 0, .int .u16 0] 42)).frozen (p := ⟨_, i, none⟩) Z_5.1).trans (fzZ_7 i)
  clear fzZ_7
  have D_9 := D_4.past (o := (.cells #[.int .i64 1, .int .u8 q, .int .u32 0, .int .i64 0, .int .u32 0, .int .i64 0, .int .u32 (151587081 + (x2 : Int)), .int .u16 (4 + (x3 : Int)), .int .u16 0, .int .u32 0, .int .u16 0] 42))
  have Z_10 := Z_5.past (o := (.cells #[.int .i64 1, .int .u8 q, .int .u32 0, .int .i64 0, .int .u32 0, .int .i64 0, .int .u32 (151587081 + (x2 : Int)), .int .u16 (4 + (x3 : Int)), .int .u16 0, .int .u32 0, .int .u16 0] 42))
  have R_11 := Box11.make u1 (.int .i64 1) (.int .u8 q) (.int .u32 0) (.int .i64 0) (.int .u32 0) (.int .i64 0) (.int .u32 (151587081 + (x2 : Int))) (.int .u16 (4 + (x3 : Int))) (.int .u16 0) (.int .u32 0) (.int .u16 0) 42
  have B12 := B6.alloc B6.size (.cells #[.int .i64 1, .int .u8 q, .int .u32 0, .int .i64 0, .int .u32 0, .int .i64 0, .int .u32 (151587081 + (x2 : Int)), .int .u16 (4 + (x3 : Int)), .int .u16 0, .int .u32 0, .int .u16 0] 42)
  clear D_4 Z_5 B6
  have fzR_13 : ∀ i, (u1.alloc (.cells #[.int .i64 1, .int .u8 q, .int .u32 0, .int .i64 0, .int .u32 0, .int .i64 0, .int .u32 (151587081 + (x2 : Int)), .int .u16 (4 + (x3 : Int)), .int .u16 0, .int .u32 0, .int .u16 0] 42)).frozen? ⟨u1.heap.size, i, none⟩ = false := by intro i; simp [go_sem]
  have fzZ_14 : ∀ i, (u1.alloc (.cells #[.int .i64 1, .int .u8 q, .int .u32 0, .int .i64 0, .int .u32 0, .int .i64 0, .int .u32 (151587081 + (x2 : Int)), .int .u16 (4 + (x3 : Int)), .int .u16 0, .int .u32 0, .int .u16 0] 42)).drew.frozen? ⟨(w.heap.size + 1), i, none⟩ = false := fun i => ((Below.refl (u1.alloc (.cells #[.int .i64 1, .int .u8 q, .int .u32 0, .int .i64 0, .int .u32 0, .int .i64 0, .int .u32 (151587081 + (x2 : Int)), .int .u16 (4 + (x3 : Int)), .int .u16 0, .int .u32 0, .int .u16 0] 42)).heap.size (u1.alloc (.cells #[.int .i64 1, .int .u8 q, .int .u32 0, .int .i64 0, .int .u32 0, .int .i64 0, .int .u32 (151587081 + (x2 : Int)), .int .u16 (4 + (x3 : Int)), .int .u16 0, .int .u32 0, .int .u16 0] 42))).drew.frozen (p := ⟨_, i, none⟩) Z_10.1).trans (fzZ_8 i)
  have fzR_15 : ∀ i, (u1.alloc (.cells #[.int .i64 1, .int .u8 q, .int .u32 0, .int .i64 0, .int .u32 0, .int .i64 0, .int .u32 (151587081 + (x2 : Int)), .int .u16 (4 + (x3 : Int)), .int .u16 0, .int .u32 0, .int .u16 0] 42)).drew.frozen? ⟨u1.heap.size, i, none⟩ = false := fun i => ((Below.refl (u1.alloc (.cells #[.int .i64 1, .int .u8 q, .int .u32 0, .int .i64 0, .int .u32 0, .int .i64 0, .int .u32 (151587081 + (x2 : Int)), .int .u16 (4 + (x3 : Int)), .int .u16 0, .int .u32 0, .int .u16 0] 42)).heap.size (u1.alloc (.cells #[.int .i64 1, .int .u8 q, .int .u32 0, .int .i64 0, .int .u32 0, .int .i64 0, .int .u32 (151587081 + (x2 : Int)), .int .u16 (4 + (x3 : Int)), .int .u16 0, .int .u32 0, .int .u16 0] 42))).drew.frozen (p := ⟨_, i, none⟩) R_11.1).trans (fzR_13 i)
  clear fzZ_8 fzR_13
  have D_16 := D_9.on ((Below.refl _ _).drew)
  have Z_17 := Z_10.on ((Below.refl _ _).drew)
  have R_18 := R_11.on ((Below.refl _ _).drew)
  have B19 := B12.drew
  clear D_9 Z_10 R_11 B12
  have zu : w.heap.size + 1 < u1.heap.size := by have := zz.out; omega
  obtain ⟨u2, hu2⟩ : ∃ x_ : World, x_ = (u1.alloc (.cells #[.int .i64 1, .int .u8 q, .int .u32 0, .int .i64 0, .int .u32 0, .int .i64 0, .int .u32 (151587081 + (x2 : Int)), .int .u16 (4 + (x3 : Int)), .int .u16 0, .int .u32 0, .int .u16 0] 42)).drew := ⟨_, rfl⟩
  rw [← hu2] at D_16 Z_17 R_18 fzZ_14 fzR_15 B19 ⊢
  clear hu2
  have n1_ : ¬ u1.heap.size = w.heap.size := by omega
  have n2_ : ¬ w.heap.size = u1.heap.size := by omega
  have n3_ : ¬ u1.heap.size = w.heap.size + 1 := by omega
  have n4_ : ¬ w.heap.size + 1 = u1.heap.size := by omega
  obtain ⟨_, d3_0, d3_1, d3_2, d3_3, d3_4, d3_5⟩ := id D_16
  obtain ⟨_, r4_0, r4_1, r4_2, r4_3, r4_4, r4_5, r4_6, r4_7, r4_8, r4_9, r4_10⟩ := id R_18
  go_upto_region 6 with fail
  clear d3_0 d3_1 d3_2 d3_3 d3_4 d3_5 r4_0 r4_1 r4_2 r4_3 r4_4 r4_5 r4_6 r4_7 r4_8 r4_9 r4_10
  obtain ⟨_, d5_0, d5_1, d5_2, d5_3, d5_4, d5_5⟩ := id D_16
  obtain ⟨_, z6_0, z6_1, z6_2, z6_3, z6_4, z6_5, z6_6, z6_7, z6_8, z6_9, z6_10⟩ := id Z_17
  obtain ⟨_, r7_0, r7_1, r7_2, r7_3, r7_4, r7_5, r7_6, r7_7, r7_8, r7_9, r7_10⟩ := id R_18
  have B20 := (B19.setCell (p := ⟨u1.heap.size, 8, none⟩) (Nat.le_of_lt (Nat.lt_of_succ_lt zu)) (.int .u16 (4 + (x3 : Int) + (y3 : Int))))
  have D_21 : Box6 (u2.setCell ⟨u1.heap.size, 8, none⟩ (.int .u16 (4 + (x3 : Int) + (y3 : Int)))) w.heap.size (.int .u8 d.d0) (.int .u8 d.d1) (.int .u8 d.d2) (.int .u8 d.d3) (.int .u8 d.d4) (.int .u8 d.d5) := ⟨by have := D_16.1; simpa using this, by simp [go_sem, d5_0, d5_1, d5_2, d5_3, d5_4, d5_5, z6_0, z6_1, z6_2, z6_3, z6_4, z6_5, z6_6, z6_7, z6_8, z6_9, z6_10, r7_0, r7_1, r7_2, r7_3, r7_4, r7_5, r7_6, r7_7, r7_8, r7_9, r7_10], by simp [go_sem, d5_0, d5_1, d5_2, d5_3, d5_4, d5_5, z6_0, z6_1, z6_2, z6_3, z6_4, z6_5, z6_6, z6_7, z6_8, z6_9, z6_10, r7_0, r7_1, r7_2, r7_3, r7_4, r7_5, r7_6, r7_7, r7_8, r7_9, r7_10], by simp [go_sem, d5_0, d5_1, d5_2, d5_3, d5_4, d5_5, z6_0, z6_1, z6_2, z6_3, z6_4, z6_5, z6_6, z6_7, z6_8, z6_9, z6_10, r7_0, r7_1, r7_2, r7_3, r7_4, r7_5, r7_6, r7_7, r7_8, r7_9, r7_10], by simp [go_sem, d5_0, d5_1, d5_2, d5_3, d5_4, d5_5, z6_0, z6_1, z6_2, z6_3, z6_4, z6_5, z6_6, z6_7, z6_8, z6_9, z6_10, r7_0, r7_1, r7_2, r7_3, r7_4, r7_5, r7_6, r7_7, r7_8, r7_9, r7_10], by simp [go_sem, d5_0, d5_1, d5_2, d5_3, d5_4, d5_5, z6_0, z6_1, z6_2, z6_3, z6_4, z6_5, z6_6, z6_7, z6_8, z6_9, z6_10, r7_0, r7_1, r7_2, r7_3, r7_4, r7_5, r7_6, r7_7, r7_8, r7_9, r7_10], by simp [go_sem, d5_0, d5_1, d5_2, d5_3, d5_4, d5_5, z6_0, z6_1, z6_2, z6_3, z6_4, z6_5, z6_6, z6_7, z6_8, z6_9, z6_10, r7_0, r7_1, r7_2, r7_3, r7_4, r7_5, r7_6, r7_7, r7_8, r7_9, r7_10]⟩
  have Z_22 : Box11 (u2.setCell ⟨u1.heap.size, 8, none⟩ (.int .u16 (4 + (x3 : Int) + (y3 : Int)))) (w.heap.size + 1) (.int .i64 0) (.int .u8 0) (.int .u32 0) (.int .i64 0) (.int .u32 0) (.int .i64 0) (.int .u32 0) (.int .u16 0) (.int .u16 0) (.int .u32 0) (.int .u16 0) := ⟨by have := Z_17.1; simpa using this, by simp [go_sem, d5_0, d5_1, d5_2, d5_3, d5_4, d5_5, z6_0, z6_1, z6_2, z6_3, z6_4, z6_5, z6_6, z6_7, z6_8, z6_9, z6_10, r7_0, r7_1, r7_2, r7_3, r7_4, r7_5, r7_6, r7_7, r7_8, r7_9, r7_10], by simp [go_sem, d5_0, d5_1, d5_2, d5_3, d5_4, d5_5, z6_0, z6_1, z6_2, z6_3, z6_4, z6_5, z6_6, z6_7, z6_8, z6_9, z6_10, r7_0, r7_1, r7_2, r7_3, r7_4, r7_5, r7_6, r7_7, r7_8, r7_9, r7_10], by simp [go_sem, d5_0, d5_1, d5_2, d5_3, d5_4, d5_5, z6_0, z6_1, z6_2, z6_3, z6_4, z6_5, z6_6, z6_7, z6_8, z6_9, z6_10, r7_0, r7_1, r7_2, r7_3, r7_4, r7_5, r7_6, r7_7, r7_8, r7_9, r7_10], by simp [go_sem, d5_0, d5_1, d5_2, d5_3, d5_4, d5_5, z6_0, z6_1, z6_2, z6_3, z6_4, z6_5, z6_6, z6_7, z6_8, z6_9, z6_10, r7_0, r7_1, r7_2, r7_3, r7_4, r7_5, r7_6, r7_7, r7_8, r7_9, r7_10], by simp [go_sem, d5_0, d5_1, d5_2, d5_3, d5_4, d5_5, z6_0, z6_1, z6_2, z6_3, z6_4, z6_5, z6_6, z6_7, z6_8, z6_9, z6_10, r7_0, r7_1, r7_2, r7_3, r7_4, r7_5, r7_6, r7_7, r7_8, r7_9, r7_10], by simp [go_sem, d5_0, d5_1, d5_2, d5_3, d5_4, d5_5, z6_0, z6_1, z6_2, z6_3, z6_4, z6_5, z6_6, z6_7, z6_8, z6_9, z6_10, r7_0, r7_1, r7_2, r7_3, r7_4, r7_5, r7_6, r7_7, r7_8, r7_9, r7_10], by simp [go_sem, d5_0, d5_1, d5_2, d5_3, d5_4, d5_5, z6_0, z6_1, z6_2, z6_3, z6_4, z6_5, z6_6, z6_7, z6_8, z6_9, z6_10, r7_0, r7_1, r7_2, r7_3, r7_4, r7_5, r7_6, r7_7, r7_8, r7_9, r7_10], by simp [go_sem, d5_0, d5_1, d5_2, d5_3, d5_4, d5_5, z6_0, z6_1, z6_2, z6_3, z6_4, z6_5, z6_6, z6_7, z6_8, z6_9, z6_10, r7_0, r7_1, r7_2, r7_3, r7_4, r7_5, r7_6, r7_7, r7_8, r7_9, r7_10], by simp [go_sem, d5_0, d5_1, d5_2, d5_3, d5_4, d5_5, z6_0, z6_1, z6_2, z6_3, z6_4, z6_5, z6_6, z6_7, z6_8, z6_9, z6_10, r7_0, r7_1, r7_2, r7_3, r7_4, r7_5, r7_6, r7_7, r7_8, r7_9, r7_10], by simp [go_sem, d5_0, d5_1, d5_2, d5_3, d5_4, d5_5, z6_0, z6_1, z6_2, z6_3, z6_4, z6_5, z6_6, z6_7, z6_8, z6_9, z6_10, r7_0, r7_1, r7_2, r7_3, r7_4, r7_5, r7_6, r7_7, r7_8, r7_9, r7_10], by simp [go_sem, d5_0, d5_1, d5_2, d5_3, d5_4, d5_5, z6_0, z6_1, z6_2, z6_3, z6_4, z6_5, z6_6, z6_7, z6_8, z6_9, z6_10, r7_0, r7_1, r7_2, r7_3, r7_4, r7_5, r7_6, r7_7, r7_8, r7_9, r7_10]⟩
  have R_23 : Box11 (u2.setCell ⟨u1.heap.size, 8, none⟩ (.int .u16 (4 + (x3 : Int) + (y3 : Int)))) u1.heap.size (.int .i64 1) (.int .u8 q) (.int .u32 0) (.int .i64 0) (.int .u32 0) (.int .i64 0) (.int .u32 (151587081 + (x2 : Int))) (.int .u16 (4 + (x3 : Int))) (.int .u16 (4 + (x3 : Int) + (y3 : Int))) (.int .u32 0) (.int .u16 0) := ⟨by have := R_18.1; simpa using this, by simp [go_sem, d5_0, d5_1, d5_2, d5_3, d5_4, d5_5, z6_0, z6_1, z6_2, z6_3, z6_4, z6_5, z6_6, z6_7, z6_8, z6_9, z6_10, r7_0, r7_1, r7_2, r7_3, r7_4, r7_5, r7_6, r7_7, r7_8, r7_9, r7_10], by simp [go_sem, d5_0, d5_1, d5_2, d5_3, d5_4, d5_5, z6_0, z6_1, z6_2, z6_3, z6_4, z6_5, z6_6, z6_7, z6_8, z6_9, z6_10, r7_0, r7_1, r7_2, r7_3, r7_4, r7_5, r7_6, r7_7, r7_8, r7_9, r7_10], by simp [go_sem, d5_0, d5_1, d5_2, d5_3, d5_4, d5_5, z6_0, z6_1, z6_2, z6_3, z6_4, z6_5, z6_6, z6_7, z6_8, z6_9, z6_10, r7_0, r7_1, r7_2, r7_3, r7_4, r7_5, r7_6, r7_7, r7_8, r7_9, r7_10], by simp [go_sem, d5_0, d5_1, d5_2, d5_3, d5_4, d5_5, z6_0, z6_1, z6_2, z6_3, z6_4, z6_5, z6_6, z6_7, z6_8, z6_9, z6_10, r7_0, r7_1, r7_2, r7_3, r7_4, r7_5, r7_6, r7_7, r7_8, r7_9, r7_10], by simp [go_sem, d5_0, d5_1, d5_2, d5_3, d5_4, d5_5, z6_0, z6_1, z6_2, z6_3, z6_4, z6_5, z6_6, z6_7, z6_8, z6_9, z6_10, r7_0, r7_1, r7_2, r7_3, r7_4, r7_5, r7_6, r7_7, r7_8, r7_9, r7_10], by simp [go_sem, d5_0, d5_1, d5_2, d5_3, d5_4, d5_5, z6_0, z6_1, z6_2, z6_3, z6_4, z6_5, z6_6, z6_7, z6_8, z6_9, z6_10, r7_0, r7_1, r7_2, r7_3, r7_4, r7_5, r7_6, r7_7, r7_8, r7_9, r7_10], by simp [go_sem, d5_0, d5_1, d5_2, d5_3, d5_4, d5_5, z6_0, z6_1, z6_2, z6_3, z6_4, z6_5, z6_6, z6_7, z6_8, z6_9, z6_10, r7_0, r7_1, r7_2, r7_3, r7_4, r7_5, r7_6, r7_7, r7_8, r7_9, r7_10], by simp [go_sem, d5_0, d5_1, d5_2, d5_3, d5_4, d5_5, z6_0, z6_1, z6_2, z6_3, z6_4, z6_5, z6_6, z6_7, z6_8, z6_9, z6_10, r7_0, r7_1, r7_2, r7_3, r7_4, r7_5, r7_6, r7_7, r7_8, r7_9, r7_10], by simp [go_sem, d5_0, d5_1, d5_2, d5_3, d5_4, d5_5, z6_0, z6_1, z6_2, z6_3, z6_4, z6_5, z6_6, z6_7, z6_8, z6_9, z6_10, r7_0, r7_1, r7_2, r7_3, r7_4, r7_5, r7_6, r7_7, r7_8, r7_9, r7_10], by simp [go_sem, d5_0, d5_1, d5_2, d5_3, d5_4, d5_5, z6_0, z6_1, z6_2, z6_3, z6_4, z6_5, z6_6, z6_7, z6_8, z6_9, z6_10, r7_0, r7_1, r7_2, r7_3, r7_4, r7_5, r7_6, r7_7, r7_8, r7_9, r7_10], by simp [go_sem, d5_0, d5_1, d5_2, d5_3, d5_4, d5_5, z6_0, z6_1, z6_2, z6_3, z6_4, z6_5, z6_6, z6_7, z6_8, z6_9, z6_10, r7_0, r7_1, r7_2, r7_3, r7_4, r7_5, r7_6, r7_7, r7_8, r7_9, r7_10]⟩
  have fzZ_24 : ∀ i, (u2.setCell ⟨u1.heap.size, 8, none⟩ (.int .u16 (4 + (x3 : Int) + (y3 : Int)))).frozen? ⟨(w.heap.size + 1), i, none⟩ = false := by intro i; simp [fzZ_14]
  have fzR_25 : ∀ i, (u2.setCell ⟨u1.heap.size, 8, none⟩ (.int .u16 (4 + (x3 : Int) + (y3 : Int)))).frozen? ⟨u1.heap.size, i, none⟩ = false := by intro i; simp [fzR_15]
  clear d5_0 d5_1 d5_2 d5_3 d5_4 d5_5 z6_0 z6_1 z6_2 z6_3 z6_4 z6_5 z6_6 z6_7 z6_8 z6_9 z6_10 r7_0 r7_1 r7_2 r7_3 r7_4 r7_5 r7_6 r7_7 r7_8 r7_9 r7_10 D_16 Z_17 R_18 fzZ_14 fzR_15 B19
  obtain ⟨u3, hu3⟩ : ∃ x_ : World, x_ = (u2.setCell ⟨u1.heap.size, 8, none⟩ (.int .u16 (4 + (x3 : Int) + (y3 : Int)))) := ⟨_, rfl⟩
  rw [← hu3] at D_21 Z_22 R_23 fzZ_24 fzR_25 B20 ⊢
  clear hu3
  obtain ⟨_, d8_0, d8_1, d8_2, d8_3, d8_4, d8_5⟩ := id D_21
  obtain ⟨_, r9_0, r9_1, r9_2, r9_3, r9_4, r9_5, r9_6, r9_7, r9_8, r9_9, r9_10⟩ := id R_23
  refine region_till 10 (fun w' => w'.cell? ⟨w.heap.size, 4, none⟩ = some (.int .u8 d.d4)) (by kernel_rfl) ?_ (fun hHeld => ?_)
  · simp [d8_0, d8_1, d8_2, d8_3, d8_4, d8_5, r9_0, r9_1, r9_2, r9_3, r9_4, r9_5, r9_6, r9_7, r9_8, r9_9, r9_10]
  clear d8_0 d8_1 d8_2 d8_3 d8_4 d8_5 r9_0 r9_1 r9_2 r9_3 r9_4 r9_5 r9_6 r9_7 r9_8 r9_9 r9_10
  have fzZ_26 : ∀ i, u3.drew.frozen? ⟨(w.heap.size + 1), i, none⟩ = false := fun i => ((Below.refl u3.heap.size u3).drew.frozen (p := ⟨_, i, none⟩) Z_22.1).trans (fzZ_24 i)
  have fzR_27 : ∀ i, u3.drew.frozen? ⟨u1.heap.size, i, none⟩ = false := fun i => ((Below.refl u3.heap.size u3).drew.frozen (p := ⟨_, i, none⟩) R_23.1).trans (fzR_25 i)
  clear fzZ_24 fzR_25
  have D_28 := D_21.on ((Below.refl _ _).drew)
  have Z_29 := Z_22.on ((Below.refl _ _).drew)
  have R_30 := R_23.on ((Below.refl _ _).drew)
  have B31 := B20.drew
  clear D_21 Z_22 R_23 B20
  refine till_take (i := 0) (oi := _) (v := ?_) rfl (by kernel_rfl) (by kernel_rfl) (by kernel_rfl) (by kernel_rfl) (by rfl) (fun _ _ _ h => h) (Or.inl ⟨by rfl, ?_⟩) (by assumption) ?_
  rotate_left
  · intro w hSw
    (try dsimp only at hSw)
    go_simp
    with_reducible rfl
  try simp only [Act.put, List.setIfInBounds_toArray, List.set_cons_zero, List.set_cons_succ]
  refine till_take (i := 2) (oi := _) (v := ?_) rfl (by kernel_rfl) (by kernel_rfl) (by kernel_rfl) (by kernel_rfl) (by rfl) (fun _ _ _ h => h) (Or.inl ⟨by rfl, ?_⟩) (by assumption) ?_
  rotate_left
  · intro w hSw
    (try dsimp only at hSw)
    go_simp
    with_reducible rfl
  try simp only [Act.put, List.setIfInBounds_toArray, List.set_cons_zero, List.set_cons_succ]
  refine till_take (i := 3) (oi := _) (v := ?_) rfl (by kernel_rfl) (by kernel_rfl) (by kernel_rfl) (by kernel_rfl) (by rfl) (fun _ _ _ h => h) (Or.inl ⟨by rfl, ?_⟩) (by assumption) ?_
  rotate_left
  · intro w hSw
    (try dsimp only at hSw)
    go_simp
    with_reducible rfl
  try simp only [Act.put, List.setIfInBounds_toArray, List.set_cons_zero, List.set_cons_succ]
  refine till_take (i := 5) (oi := _) (v := ?_) rfl (by kernel_rfl) (by kernel_rfl) (by kernel_rfl) (by kernel_rfl) (by rfl) (fun _ _ _ h => h) (Or.inl ⟨by rfl, ?_⟩) (by assumption) ?_
  rotate_left
  · intro w hSw
    (try dsimp only at hSw)
    go_simp
    with_reducible rfl
  try simp only [Act.put, List.setIfInBounds_toArray, List.set_cons_zero, List.set_cons_succ]
  refine till_take (i := 6) (oi := _) (v := ?_) rfl (by kernel_rfl) (by kernel_rfl) (by kernel_rfl) (by kernel_rfl) (by rfl) (fun _ _ _ h => h) (Or.inl ⟨by rfl, ?_⟩) (by assumption) ?_
  rotate_left
  · intro w hSw
    (try dsimp only at hSw)
    go_simp
    with_reducible rfl
  try simp only [Act.put, List.setIfInBounds_toArray, List.set_cons_zero, List.set_cons_succ]
  refine till_take (i := 7) (oi := _) (v := ?_) rfl (by kernel_rfl) (by kernel_rfl) (by kernel_rfl) (by kernel_rfl) (by rfl) (fun _ _ _ h => h) (Or.inl ⟨by rfl, ?_⟩) (by assumption) ?_
  rotate_left
  · intro w hSw
    (try dsimp only at hSw)
    go_simp
    with_reducible rfl
  try simp only [Act.put, List.setIfInBounds_toArray, List.set_cons_zero, List.set_cons_succ]
  refine till_ready (rs := [1]) (by kernel_rfl) (by simp) ?_
  refine TillAll.cons (o := _) rfl (by rfl) (fun K hK => ?_) TillAll.nil
  go_simp
  refine (tens_ _).mono ?_; rintro e w4 ⟨rfl, x4⟩
  have fzZ_32 : ∀ i, w4.frozen? ⟨(w.heap.size + 1), i, none⟩ = false := fun i => (x4.frozen (p := ⟨_, i, none⟩) Z_29.1).trans (fzZ_26 i)
  have fzR_33 : ∀ i, w4.frozen? ⟨u1.heap.size, i, none⟩ = false := fun i => (x4.frozen (p := ⟨_, i, none⟩) R_30.1).trans (fzR_27 i)
  clear fzZ_26 fzR_27
  have D_34 := D_28.on x4
  have Z_35 := Z_29.on x4
  have R_36 := R_30.on x4
  have B37 := B31.trans (x4.mono B31.size)
  clear D_28 Z_29 R_30 B31 x4
  refine hK.out _ _ D_34.2.2.2.2.2.1 (fun hS1 => ?_)
  clear hK K
  try simp only [Act.put, List.setIfInBounds_toArray, List.set_cons_zero, List.set_cons_succ]
  refine till_take (i := 4) (oi := _) (v := ?_) rfl (by kernel_rfl) (by kernel_rfl) (by kernel_rfl) (by kernel_rfl) (by rfl) (fun _ _ _ h => h) (Or.inl ⟨by rfl, ?_⟩) (by assumption) ?_
  rotate_left
  · intro w hSw
    (try dsimp only at hSw)
    go_simp
    with_reducible rfl
  try simp only [Act.put, List.setIfInBounds_toArray, List.set_cons_zero, List.set_cons_succ]
  refine till_take (i := 8) (oi := _) (v := ?_) rfl (by kernel_rfl) (by kernel_rfl) (by kernel_rfl) (by kernel_rfl) (by rfl) (fun _ _ _ h => h) (Or.inl ⟨by rfl, ?_⟩) (by assumption) ?_
  rotate_left
  · intro w hSw
    (try dsimp only at hSw)
    go_simp
    with_reducible rfl
  try simp only [Act.put, List.setIfInBounds_toArray, List.set_cons_zero, List.set_cons_succ]
  refine till_take (i := 9) (oi := _) (v := ?_) rfl (by kernel_rfl) (by kernel_rfl) (by kernel_rfl) (by kernel_rfl) (by rfl) (fun _ _ _ h => h) (Or.inl ⟨by rfl, ?_⟩) (by assumption) ?_
  rotate_left
  · intro w hSw
    (try dsimp only at hSw)
    go_simp
    with_reducible rfl
  try simp only [Act.put, List.setIfInBounds_toArray, List.set_cons_zero, List.set_cons_succ]
  obtain ⟨_, r10_0, r10_1, r10_2, r10_3, r10_4, r10_5, r10_6, r10_7, r10_8, r10_9, r10_10⟩ := id R_36
  refine till_last (by kernel_rfl) (by kernel_rfl) rfl (fun K hK => ?_)
  go_simp
  clear r10_0 r10_1 r10_2 r10_3 r10_4 r10_5 r10_6 r10_7 r10_8 r10_9 r10_10
  refine hK.out _ _ ?_
  clear hK K
  obtain ⟨_, d11_0, d11_1, d11_2, d11_3, d11_4, d11_5⟩ := id D_34
  obtain ⟨_, z12_0, z12_1, z12_2, z12_3, z12_4, z12_5, z12_6, z12_7, z12_8, z12_9, z12_10⟩ := id Z_35
  obtain ⟨_, r13_0, r13_1, r13_2, r13_3, r13_4, r13_5, r13_6, r13_7, r13_8, r13_9, r13_10⟩ := id R_36
  have B38 := ((B37.setCell (p := ⟨u1.heap.size, 2, none⟩) (Nat.le_of_lt (Nat.lt_of_succ_lt zu)) (.int .u32 (si : Int))).setCell (p := ⟨u1.heap.size, 3, none⟩) (Nat.le_of_lt (Nat.lt_of_succ_lt zu)) (.int .i64 sb))
  have D_39 : Box6 ((w4.setCell ⟨u1.heap.size, 2, none⟩ (.int .u32 (si : Int))).setCell ⟨u1.heap.size, 3, none⟩ (.int .i64 sb)) w.heap.size (.int .u8 d.d0) (.int .u8 d.d1) (.int .u8 d.d2) (.int .u8 d.d3) (.int .u8 d.d4) (.int .u8 d.d5) := ⟨by have := D_34.1; simpa using this, by simp [go_sem, d11_0, d11_1, d11_2, d11_3, d11_4, d11_5, z12_0, z12_1, z12_2, z12_3, z12_4, z12_5, z12_6, z12_7, z12_8, z12_9, z12_10, r13_0, r13_1, r13_2, r13_3, r13_4, r13_5, r13_6, r13_7, r13_8, r13_9, r13_10], by simp [go_sem, d11_0, d11_1, d11_2, d11_3, d11_4, d11_5, z12_0, z12_1, z12_2, z12_3, z12_4, z12_5, z12_6, z12_7, z12_8, z12_9, z12_10, r13_0, r13_1, r13_2, r13_3, r13_4, r13_5, r13_6, r13_7, r13_8, r13_9, r13_10], by simp [go_sem, d11_0, d11_1, d11_2, d11_3, d11_4, d11_5, z12_0, z12_1, z12_2, z12_3, z12_4, z12_5, z12_6, z12_7, z12_8, z12_9, z12_10, r13_0, r13_1, r13_2, r13_3, r13_4, r13_5, r13_6, r13_7, r13_8, r13_9, r13_10], by simp [go_sem, d11_0, d11_1, d11_2, d11_3, d11_4, d11_5, z12_0, z12_1, z12_2, z12_3, z12_4, z12_5, z12_6, z12_7, z12_8, z12_9, z12_10, r13_0, r13_1, r13_2, r13_3, r13_4, r13_5, r13_6, r13_7, r13_8, r13_9, r13_10], by simp [go_sem, d11_0, d11_1, d11_2, d11_3, d11_4, d11_5, z12_0, z12_1, z12_2, z12_3, z12_4, z12_5, z12_6, z12_7, z12_8, z12_9, z12_10, r13_0, r13_1, r13_2, r13_3, r13_4, r13_5, r13_6, r13_7, r13_8, r13_9, r13_10], by simp [go_sem, d11_0, d11_1, d11_2, d11_3, d11_4, d11_5, z12_0, z12_1, z12_2, z12_3, z12_4, z12_5, z12_6, z12_7, z12_8, z12_9, z12_10, r13_0, r13_1, r13_2, r13_3, r13_4, r13_5, r13_6, r13_7, r13_8, r13_9, r13_10]⟩
  have Z_40 : Box11 ((w4.setCell ⟨u1.heap.size, 2, none⟩ (.int .u32 (si : Int))).setCell ⟨u1.heap.size, 3, none⟩ (.int .i64 sb)) (w.heap.size + 1) (.int .i64 0) (.int .u8 0) (.int .u32 0) (.int .i64 0) (.int .u32 0) (.int .i64 0) (.int .u32 0) (.int .u16 0) (.int .u16 0) (.int .u32 0) (.int .u16 0) := ⟨by have := Z_35.1; simpa using this, by simp [go_sem, d11_0, d11_1, d11_2, d11_3, d11_4, d11_5, z12_0, z12_1, z12_2, z12_3, z12_4, z12_5, z12_6, z12_7, z12_8, z12_9, z12_10, r13_0, r13_1, r13_2, r13_3, r13_4, r13_5, r13_6, r13_7, r13_8, r13_9, r13_10], by simp [go_sem, d11_0, d11_1, d11_2, d11_3, d11_4, d11_5, z12_0, z12_1, z12_2, z12_3, z12_4, z12_5, z12_6, z12_7, z12_8, z12_9, z12_10, r13_0, r13_1, r13_2, r13_3, r13_4, r13_5, r13_6, r13_7, r13_8, r13_9, r13_10], by simp [go_sem, d11_0, d11_1, d11_2, d11_3, d11_4, d11_5, z12_0, z12_1, z12_2, z12_3, z12_4, z12_5, z12_6, z12_7, z12_8, z12_9, z12_10, r13_0, r13_1, r13_2, r13_3, r13_4, r13_5, r13_6, r13_7, r13_8, r13_9, r13_10], by simp [go_sem, d11_0, d11_1, d11_2, d11_3, d11_4, d11_5, z12_0, z12_1, z12_2, z12_3, z12_4, z12_5, z12_6, z12_7, z12_8, z12_9, z12_10, r13_0, r13_1, r13_2, r13_3, r13_4, r13_5, r13_6, r13_7, r13_8, r13_9, r13_10], by simp [go_sem, d11_0, d11_1, d11_2, d11_3, d11_4, d11_5, z12_0, z12_1, z12_2, z12_3, z12_4, z12_5, z12_6, z12_7, z12_8, z12_9, z12_10, r13_0, r13_1, r13_2, r13_3, r13_4, r13_5, r13_6, r13_7, r13_8, r13_9, r13_10], by simp [go_sem, d11_0, d11_1, d11_2, d11_3, d11_4, d11_5, z12_0, z12_1, z12_2, z12_3, z12_4, z12_5, z12_6, z12_7, z12_8, z12_9, z12_10, r13_0, r13_1, r13_2, r13_3, r13_4, r13_5, r13_6, r13_7, r13_8, r13_9, r13_10], by simp [go_sem, d11_0, d11_1, d11_2, d11_3, d11_4, d11_5, z12_0, z12_1, z12_2, z12_3, z12_4, z12_5, z12_6, z12_7, z12_8, z12_9, z12_10, r13_0, r13_1, r13_2, r13_3, r13_4, r13_5, r13_6, r13_7, r13_8, r13_9, r13_10], by simp [go_sem, d11_0, d11_1, d11_2, d11_3, d11_4, d11_5, z12_0, z12_1, z12_2, z12_3, z12_4, z12_5, z12_6, z12_7, z12_8, z12_9, z12_10, r13_0, r13_1, r13_2, r13_3, r13_4, r13_5, r13_6, r13_7, r13_8, r13_9, r13_10], by simp [go_sem, d11_0, d11_1, d11_2, d11_3, d11_4, d11_5, z12_0, z12_1, z12_2, z12_3, z12_4, z12_5, z12_6, z12_7, z12_8, z12_9, z12_10, r13_0, r13_1, r13_2, r13_3, r13_4, r13_5, r13_6, r13_7, r13_8, r13_9, r13_10], by simp [go_sem, d11_0, d11_1, d11_2, d11_3, d11_4, d11_5, z12_0, z12_1, z12_2, z12_3, z12_4, z12_5, z12_6, z12_7, z12_8, z12_9, z12_10, r13_0, r13_1, r13_2, r13_3, r13_4, r13_5, r13_6, r13_7, r13_8, r13_9, r13_10], by simp [go_sem, d11_0, d11_1, d11_2, d11_3, d11_4, d11_5, z12_0, z12_1, z12_2, z12_3, z12_4, z12_5, z12_6, z12_7, z12_8, z12_9, z12_10, r13_0, r13_1, r13_2, r13_3, r13_4, r13_5, r13_6, r13_7, r13_8, r13_9, r13_10]⟩
  have R_41 : Box11 ((w4.setCell ⟨u1.heap.size, 2, none⟩ (.int .u32 (si : Int))).setCell ⟨u1.heap.size, 3, none⟩ (.int .i64 sb)) u1.heap.size (.int .i64 1) (.int .u8 q) (.int .u32 (si : Int)) (.int .i64 sb) (.int .u32 0) (.int .i64 0) (.int .u32 (151587081 + (x2 : Int))) (.int .u16 (4 + (x3 : Int))) (.int .u16 (4 + (x3 : Int) + (y3 : Int))) (.int .u32 0) (.int .u16 0) := ⟨by have := R_36.1; simpa using this, by simp [go_sem, d11_0, d11_1, d11_2, d11_3, d11_4, d11_5, z12_0, z12_1, z12_2, z12_3, z12_4, z12_5, z12_6, z12_7, z12_8, z12_9, z12_10, r13_0, r13_1, r13_2, r13_3, r13_4, r13_5, r13_6, r13_7, r13_8, r13_9, r13_10], by simp [go_sem, d11_0, d11_1, d11_2, d11_3, d11_4, d11_5, z12_0, z12_1, z12_2, z12_3, z12_4, z12_5, z12_6, z12_7, z12_8, z12_9, z12_10, r13_0, r13_1, r13_2, r13_3, r13_4, r13_5, r13_6, r13_7, r13_8, r13_9, r13_10], by simp [go_sem, d11_0, d11_1, d11_2, d11_3, d11_4, d11_5, z12_0, z12_1, z12_2, z12_3, z12_4, z12_5, z12_6, z12_7, z12_8, z12_9, z12_10, r13_0, r13_1, r13_2, r13_3, r13_4, r13_5, r13_6, r13_7, r13_8, r13_9, r13_10], by simp [go_sem, d11_0, d11_1, d11_2, d11_3, d11_4, d11_5, z12_0, z12_1, z12_2, z12_3, z12_4, z12_5, z12_6, z12_7, z12_8, z12_9, z12_10, r13_0, r13_1, r13_2, r13_3, r13_4, r13_5, r13_6, r13_7, r13_8, r13_9, r13_10], by simp [go_sem, d11_0, d11_1, d11_2, d11_3, d11_4, d11_5, z12_0, z12_1, z12_2, z12_3, z12_4, z12_5, z12_6, z12_7, z12_8, z12_9, z12_10, r13_0, r13_1, r13_2, r13_3, r13_4, r13_5, r13_6, r13_7, r13_8, r13_9, r13_10], by simp [go_sem, d11_0, d11_1, d11_2, d11_3, d11_4, d11_5, z12_0, z12_1, z12_2, z12_3, z12_4, z12_5, z12_6, z12_7, z12_8, z12_9, z12_10, r13_0, r13_1, r13_2, r13_3, r13_4, r13_5, r13_6, r13_7, r13_8, r13_9, r13_10], by simp [go_sem, d11_0, d11_1, d11_2, d11_3, d11_4, d11_5, z12_0, z12_1, z12_2, z12_3, z12_4, z12_5, z12_6, z12_7, z12_8, z12_9, z12_10, r13_0, r13_1, r13_2, r13_3, r13_4, r13_5, r13_6, r13_7, r13_8, r13_9, r13_10], by simp [go_sem, d11_0, d11_1, d11_2, d11_3, d11_4, d11_5, z12_0, z12_1, z12_2, z12_3, z12_4, z12_5, z12_6, z12_7, z12_8, z12_9, z12_10, r13_0, r13_1, r13_2, r13_3, r13_4, r13_5, r13_6, r13_7, r13_8, r13_9, r13_10], by simp [go_sem, d11_0, d11_1, d11_2, d11_3, d11_4, d11_5, z12_0, z12_1, z12_2, z12_3, z12_4, z12_5, z12_6, z12_7, z12_8, z12_9, z12_10, r13_0, r13_1, r13_2, r13_3, r13_4, r13_5, r13_6, r13_7, r13_8, r13_9, r13_10], by simp [go_sem, d11_0, d11_1, d11_2, d11_3, d11_4, d11_5, z12_0, z12_1, z12_2, z12_3, z12_4, z12_5, z12_6, z12_7, z12_8, z12_9, z12_10, r13_0, r13_1, r13_2, r13_3, r13_4, r13_5, r13_6, r13_7, r13_8, r13_9, r13_10], by simp [go_sem, d11_0, d11_1, d11_2, d11_3, d11_4, d11_5, z12_0, z12_1, z12_2, z12_3, z12_4, z12_5, z12_6, z12_7, z12_8, z12_9, z12_10, r13_0, r13_1, r13_2, r13_3, r13_4, r13_5, r13_6, r13_7, r13_8, r13_9, r13_10]⟩
  have fzZ_42 : ∀ i, ((w4.setCell ⟨u1.heap.size, 2, none⟩ (.int .u32 (si : Int))).setCell ⟨u1.heap.size, 3, none⟩ (.int .i64 sb)).frozen? ⟨(w.heap.size + 1), i, none⟩ = false := by intro i; simp [fzZ_32]
  have fzR_43 : ∀ i, ((w4.setCell ⟨u1.heap.size, 2, none⟩ (.int .u32 (si : Int))).setCell ⟨u1.heap.size, 3, none⟩ (.int .i64 sb)).frozen? ⟨u1.heap.size, i, none⟩ = false := by intro i; simp [fzR_33]
  clear d11_0 d11_1 d11_2 d11_3 d11_4 d11_5 z12_0 z12_1 z12_2 z12_3 z12_4 z12_5 z12_6 z12_7 z12_8 z12_9 z12_10 r13_0 r13_1 r13_2 r13_3 r13_4 r13_5 r13_6 r13_7 r13_8 r13_9 r13_10 D_34 Z_35 R_36 fzZ_32 fzR_33 B37
  obtain ⟨u5, hu5⟩ : ∃ x_ : World, x_ = ((w4.setCell ⟨u1.heap.size, 2, none⟩ (.int .u32 (si : Int))).setCell ⟨u1.heap.size, 3, none⟩ (.int .i64 sb)) := ⟨_, rfl⟩
  rw [← hu5] at D_39 Z_40 R_41 fzZ_42 fzR_43 B38 ⊢
  clear hu5
  obtain ⟨_, d14_0, d14_1, d14_2, d14_3, d14_4, d14_5⟩ := id D_39
  obtain ⟨_, r15_0, r15_1, r15_2, r15_3, r15_4, r15_5, r15_6, r15_7, r15_8, r15_9, r15_10⟩ := id R_41
  go_upto_region 8 with fail
  clear d14_0 d14_1 d14_2 d14_3 d14_4 d14_5 r15_0 r15_1 r15_2 r15_3 r15_4 r15_5 r15_6 r15_7 r15_8 r15_9 r15_10
  obtain ⟨_, d16_0, d16_1, d16_2, d16_3, d16_4, d16_5⟩ := id D_39
  obtain ⟨_, z17_0, z17_1, z17_2, z17_3, z17_4, z17_5, z17_6, z17_7, z17_8, z17_9, z17_10⟩ := id Z_40
  obtain ⟨_, r18_0, r18_1, r18_2, r18_3, r18_4, r18_5, r18_6, r18_7, r18_8, r18_9, r18_10⟩ := id R_41
  have B44 := ((B38.setCell (p := ⟨u1.heap.size, 4, none⟩) (Nat.le_of_lt (Nat.lt_of_succ_lt zu)) (.int .u32 (di : Int))).setCell (p := ⟨u1.heap.size, 5, none⟩) (Nat.le_of_lt (Nat.lt_of_succ_lt zu)) (.int .i64 db))
  have D_45 : Box6 ((u5.setCell ⟨u1.heap.size, 4, none⟩ (.int .u32 (di : Int))).setCell ⟨u1.heap.size, 5, none⟩ (.int .i64 db)) w.heap.size (.int .u8 d.d0) (.int .u8 d.d1) (.int .u8 d.d2) (.int .u8 d.d3) (.int .u8 d.d4) (.int .u8 d.d5) := ⟨by have := D_39.1; simpa using this, by simp [go_sem, d16_0, d16_1, d16_2, d16_3, d16_4, d16_5, z17_0, z17_1, z17_2, z17_3, z17_4, z17_5, z17_6, z17_7, z17_8, z17_9, z17_10, r18_0, r18_1, r18_2, r18_3, r18_4, r18_5, r18_6, r18_7, r18_8, r18_9, r18_10], by simp [go_sem, d16_0, d16_1, d16_2, d16_3, d16_4, d16_5, z17_0, z17_1, z17_2, z17_3, z17_4, z17_5, z17_6, z17_7, z17_8, z17_9, z17_10, r18_0, r18_1, r18_2, r18_3, r18_4, r18_5, r18_6, r18_7, r18_8, r18_9, r18_10], by simp [go_sem, d16_0, d16_1, d16_2, d16_3, d16_4, d16_5, z17_0, z17_1, z17_2, z17_3, z17_4, z17_5, z17_6, z17_7, z17_8, z17_9, z17_10, r18_0, r18_1, r18_2, r18_3, r18_4, r18_5, r18_6, r18_7, r18_8, r18_9, r18_10], by simp [go_sem, d16_0, d16_1, d16_2, d16_3, d16_4, d16_5, z17_0, z17_1, z17_2, z17_3, z17_4, z17_5, z17_6, z17_7, z17_8, z17_9, z17_10, r18_0, r18_1, r18_2, r18_3, r18_4, r18_5, r18_6, r18_7, r18_8, r18_9, r18_10], by simp [go_sem, d16_0, d16_1, d16_2, d16_3, d16_4, d16_5, z17_0, z17_1, z17_2, z17_3, z17_4, z17_5, z17_6, z17_7, z17_8, z17_9, z17_10, r18_0, r18_1, r18_2, r18_3, r18_4, r18_5, r18_6, r18_7, r18_8, r18_9, r18_10], by simp [go_sem, d16_0, d16_1, d16_2, d16_3, d16_4, d16_5, z17_0, z17_1, z17_2, z17_3, z17_4, z17_5, z17_6, z17_7, z17_8, z17_9, z17_10, r18_0, r18_1, r18_2, r18_3, r18_4, r18_5, r18_6, r18_7, r18_8, r18_9, r18_10]⟩
  have Z_46 : Box11 ((u5.setCell ⟨u1.heap.size, 4, none⟩ (.int .u32 (di : Int))).setCell ⟨u1.heap.size, 5, none⟩ (.int .i64 db)) (w.heap.size + 1) (.int .i64 0) (.int .u8 0) (.int .u32 0) (.int .i64 0) (.int .u32 0) (.int .i64 0) (.int .u32 0) (.int .u16 0) (.int .u16 0) (.int .u32 0) (.int .u16 0) := ⟨by have := Z_40.1; simpa using this, by simp [go_sem, d16_0, d16_1, d16_2, d16_3, d16_4, d16_5, z17_0, z17_1, z17_2, z17_3, z17_4, z17_5, z17_6, z17_7, z17_8, z17_9, z17_10, r18_0, r18_1, r18_2, r18_3, r18_4, r18_5, r18_6, r18_7, r18_8, r18_9, r18_10], by simp [go_sem, d16_0, d16_1, d16_2, d16_3, d16_4, d16_5, z17_0, z17_1, z17_2, z17_3, z17_4, z17_5, z17_6, z17_7, z17_8, z17_9, z17_10, r18_0, r18_1, r18_2, r18_3, r18_4, r18_5, r18_6, r18_7, r18_8, r18_9, r18_10], by simp [go_sem, d16_0, d16_1, d16_2, d16_3, d16_4, d16_5, z17_0, z17_1, z17_2, z17_3, z17_4, z17_5, z17_6, z17_7, z17_8, z17_9, z17_10, r18_0, r18_1, r18_2, r18_3, r18_4, r18_5, r18_6, r18_7, r18_8, r18_9, r18_10], by simp [go_sem, d16_0, d16_1, d16_2, d16_3, d16_4, d16_5, z17_0, z17_1, z17_2, z17_3, z17_4, z17_5, z17_6, z17_7, z17_8, z17_9, z17_10, r18_0, r18_1, r18_2, r18_3, r18_4, r18_5, r18_6, r18_7, r18_8, r18_9, r18_10], by simp [go_sem, d16_0, d16_1, d16_2, d16_3, d16_4, d16_5, z17_0, z17_1, z17_2, z17_3, z17_4, z17_5, z17_6, z17_7, z17_8, z17_9, z17_10, r18_0, r18_1, r18_2, r18_3, r18_4, r18_5, r18_6, r18_7, r18_8, r18_9, r18_10], by simp [go_sem, d16_0, d16_1, d16_2, d16_3, d16_4, d16_5, z17_0, z17_1, z17_2, z17_3, z17_4, z17_5, z17_6, z17_7, z17_8, z17_9, z17_10, r18_0, r18_1, r18_2, r18_3, r18_4, r18_5, r18_6, r18_7, r18_8, r18_9, r18_10], by simp [go_sem, d16_0, d16_1, d16_2, d16_3, d16_4, d16_5, z17_0, z17_1, z17_2, z17_3, z17_4, z17_5, z17_6, z17_7, z17_8, z17_9, z17_10, r18_0, r18_1, r18_2, r18_3, r18_4, r18_5, r18_6, r18_7, r18_8, r18_9, r18_10], by simp [go_sem, d16_0, d16_1, d16_2, d16_3, d16_4, d16_5, z17_0, z17_1, z17_2, z17_3, z17_4, z17_5, z17_6, z17_7, z17_8, z17_9, z17_10, r18_0, r18_1, r18_2, r18_3, r18_4, r18_5, r18_6, r18_7, r18_8, r18_9, r18_10], by simp [go_sem, d16_0, d16_1, d16_2, d16_3, d16_4, d16_5, z17_0, z17_1, z17_2, z17_3, z17_4, z17_5, z17_6, z17_7, z17_8, z17_9, z17_10, r18_0, r18_1, r18_2, r18_3, r18_4, r18_5, r18_6, r18_7, r18_8, r18_9, r18_10], by simp [go_sem, d16_0, d16_1, d16_2, d16_3, d16_4, d16_5, z17_0, z17_1, z17_2, z17_3, z17_4, z17_5, z17_6, z17_7, z17_8, z17_9, z17_10, r18_0, r18_1, r18_2, r18_3, r18_4, r18_5, r18_6, r18_7, r18_8, r18_9, r18_10], by simp [go_sem, d16_0, d16_1, d16_2, d16_3, d16_4, d16_5, z17_0, z17_1, z17_2, z17_3, z17_4, z17_5, z17_6, z17_7, z17_8, z17_9, z17_10, r18_0, r18_1, r18_2, r18_3, r18_4, r18_5, r18_6, r18_7, r18_8, r18_9, r18_10]⟩
  have R_47 : Box11 ((u5.setCell ⟨u1.heap.size, 4, none⟩ (.int .u32 (di : Int))).setCell ⟨u1.heap.size, 5, none⟩ (.int .i64 db)) u1.heap.size (.int .i64 1) (.int .u8 q) (.int .u32 (si : Int)) (.int .i64 sb) (.int .u32 (di : Int)) (.int .i64 db) (.int .u32 (151587081 + (x2 : Int))) (.int .u16 (4 + (x3 : Int))) (.int .u16 (4 + (x3 : Int) + (y3 : Int))) (.int .u32 0) (.int .u16 0) := ⟨by have := R_41.1; simpa using this, by simp [go_sem, d16_0, d16_1, d16_2, d16_3, d16_4, d16_5, z17_0, z17_1, z17_2, z17_3, z17_4, z17_5, z17_6, z17_7, z17_8, z17_9, z17_10, r18_0, r18_1, r18_2, r18_3, r18_4, r18_5, r18_6, r18_7, r18_8, r18_9, r18_10], by simp [go_sem, d16_0, d16_1, d16_2, d16_3, d16_4, d16_5, z17_0, z17_1, z17_2, z17_3, z17_4, z17_5, z17_6, z17_7, z17_8, z17_9, z17_10, r18_0, r18_1, r18_2, r18_3, r18_4, r18_5, r18_6, r18_7, r18_8, r18_9, r18_10], by simp [go_sem, d16_0, d16_1, d16_2, d16_3, d16_4, d16_5, z17_0, z17_1, z17_2, z17_3, z17_4, z17_5, z17_6, z17_7, z17_8, z17_9, z17_10, r18_0, r18_1, r18_2, r18_3, r18_4, r18_5, r18_6, r18_7, r18_8, r18_9, r18_10], by simp [go_sem, d16_0, d16_1, d16_2, d16_3, d16_4, d16_5, z17_0, z17_1, z17_2, z17_3, z17_4, z17_5, z17_6, z17_7, z17_8, z17_9, z17_10, r18_0, r18_1, r18_2, r18_3, r18_4, r18_5, r18_6, r18_7, r18_8, r18_9, r18_10], by simp [go_sem, d16_0, d16_1, d16_2, d16_3, d16_4, d16_5, z17_0, z17_1, z17_2, z17_3, z17_4, z17_5, z17_6, z17_7, z17_8, z17_9, z17_10, r18_0, r18_1, r18_2, r18_3, r18_4, r18_5, r18_6, r18_7, r18_8, r18_9, r18_10], by simp [go_sem, d16_0, d16_1, d16_2, d16_3, d16_4, d16_5, z17_0, z17_1, z17_2, z17_3, z17_4, z17_5, z17_6, z17_7, z17_8, z17_9, z17_10, r18_0, r18_1, r18_2, r18_3, r18_4, r18_5, r18_6, r18_7, r18_8, r18_9, r18_10], by simp [go_sem, d16_0, d16_1, d16_2, d16_3, d16_4, d16_5, z17_0, z17_1, z17_2, z17_3, z17_4, z17_5, z17_6, z17_7, z17_8, z17_9, z17_10, r18_0, r18_1, r18_2, r18_3, r18_4, r18_5, r18_6, r18_7, r18_8, r18_9, r18_10], by simp [go_sem, d16_0, d16_1, d16_2, d16_3, d16_4, d16_5, z17_0, z17_1, z17_2, z17_3, z17_4, z17_5, z17_6, z17_7, z17_8, z17_9, z17_10, r18_0, r18_1, r18_2, r18_3, r18_4, r18_5, r18_6, r18_7, r18_8, r18_9, r18_10], by simp [go_sem, d16_0, d16_1, d16_2, d16_3, d16_4, d16_5, z17_0, z17_1, z17_2, z17_3, z17_4, z17_5, z17_6, z17_7, z17_8, z17_9, z17_10, r18_0, r18_1, r18_2, r18_3, r18_4, r18_5, r18_6, r18_7, r18_8, r18_9, r18_10], by simp [go_sem, d16_0, d16_1, d16_2, d16_3, d16_4, d16_5, z17_0, z17_1, z17_2, z17_3, z17_4, z17_5, z17_6, z17_7, z17_8, z17_9, z17_10, r18_0, r18_1, r18_2, r18_3, r18_4, r18_5, r18_6, r18_7, r18_8, r18_9, r18_10], by simp [go_sem, d16_0, d16_1, d16_2, d16_3, d16_4, d16_5, z17_0, z17_1, z17_2, z17_3, z17_4, z17_5, z17_6, z17_7, z17_8, z17_9, z17_10, r18_0, r18_1, r18_2, r18_3, r18_4, r18_5, r18_6, r18_7, r18_8, r18_9, r18_10]⟩
  have fzZ_48 : ∀ i, ((u5.setCell ⟨u1.heap.size, 4, none⟩ (.int .u32 (di : Int))).setCell ⟨u1.heap.size, 5, none⟩ (.int .i64 db)).frozen? ⟨(w.heap.size + 1), i, none⟩ = false := by intro i; simp [fzZ_42]
  have fzR_49 : ∀ i, ((u5.setCell ⟨u1.heap.size, 4, none⟩ (.int .u32 (di : Int))).setCell ⟨u1.heap.size, 5, none⟩ (.int .i64 db)).frozen? ⟨u1.heap.size, i, none⟩ = false := by intro i; simp [fzR_43]
  clear d16_0 d16_1 d16_2 d16_3 d16_4 d16_5 z17_0 z17_1 z17_2 z17_3 z17_4 z17_5 z17_6 z17_7 z17_8 z17_9 z17_10 r18_0 r18_1 r18_2 r18_3 r18_4 r18_5 r18_6 r18_7 r18_8 r18_9 r18_10 D_39 Z_40 R_41 fzZ_42 fzR_43 B38
  obtain ⟨u6, hu6⟩ : ∃ x_ : World, x_ = ((u5.setCell ⟨u1.heap.size, 4, none⟩ (.int .u32 (di : Int))).setCell ⟨u1.heap.size, 5, none⟩ (.int .i64 db)) := ⟨_, rfl⟩
  rw [← hu6] at D_45 Z_46 R_47 fzZ_48 fzR_49 B44 ⊢
  clear hu6
  obtain ⟨_, d19_0, d19_1, d19_2, d19_3, d19_4, d19_5⟩ := id D_45
  obtain ⟨_, r20_0, r20_1, r20_2, r20_3, r20_4, r20_5, r20_6, r20_7, r20_8, r20_9, r20_10⟩ := id R_47
  go_upto_region 10 with fail
  clear d19_0 d19_1 d19_2 d19_3 d19_4 d19_5 r20_0 r20_1 r20_2 r20_3 r20_4 r20_5 r20_6 r20_7 r20_8 r20_9 r20_10
  obtain ⟨_, d21_0, d21_1, d21_2, d21_3, d21_4, d21_5⟩ := id D_45
  obtain ⟨_, z22_0, z22_1, z22_2, z22_3, z22_4, z22_5, z22_6, z22_7, z22_8, z22_9, z22_10⟩ := id Z_46
  obtain ⟨_, r23_0, r23_1, r23_2, r23_3, r23_4, r23_5, r23_6, r23_7, r23_8, r23_9, r23_10⟩ := id R_47
  have B50 := ((B44.setCell (p := ⟨u1.heap.size, 0, none⟩) (Nat.le_of_lt (Nat.lt_of_succ_lt zu)) (.int .i64 2)).setCell (p := ⟨u1.heap.size, 6, none⟩) (Nat.le_of_lt (Nat.lt_of_succ_lt zu)) (.int .u32 0))
  have D_51 : Box6 ((u6.setCell ⟨u1.heap.size, 0, none⟩ (.int .i64 2)).setCell ⟨u1.heap.size, 6, none⟩ (.int .u32 0)) w.heap.size (.int .u8 d.d0) (.int .u8 d.d1) (.int .u8 d.d2) (.int .u8 d.d3) (.int .u8 d.d4) (.int .u8 d.d5) := ⟨by have := D_45.1; simpa using this, by simp [go_sem, d21_0, d21_1, d21_2, d21_3, d21_4, d21_5, z22_0, z22_1, z22_2, z22_3, z22_4, z22_5, z22_6, z22_7, z22_8, z22_9, z22_10, r23_0, r23_1, r23_2, r23_3, r23_4, r23_5, r23_6, r23_7, r23_8, r23_9, r23_10], by simp [go_sem, d21_0, d21_1, d21_2, d21_3, d21_4, d21_5, z22_0, z22_1, z22_2, z22_3, z22_4, z22_5, z22_6, z22_7, z22_8, z22_9, z22_10, r23_0, r23_1, r23_2, r23_3, r23_4, r23_5, r23_6, r23_7, r23_8, r23_9, r23_10], by simp [go_sem, d21_0, d21_1, d21_2, d21_3, d21_4, d21_5, z22_0, z22_1, z22_2, z22_3, z22_4, z22_5, z22_6, z22_7, z22_8, z22_9, z22_10, r23_0, r23_1, r23_2, r23_3, r23_4, r23_5, r23_6, r23_7, r23_8, r23_9, r23_10], by simp [go_sem, d21_0, d21_1, d21_2, d21_3, d21_4, d21_5, z22_0, z22_1, z22_2, z22_3, z22_4, z22_5, z22_6, z22_7, z22_8, z22_9, z22_10, r23_0, r23_1, r23_2, r23_3, r23_4, r23_5, r23_6, r23_7, r23_8, r23_9, r23_10], by simp [go_sem, d21_0, d21_1, d21_2, d21_3, d21_4, d21_5, z22_0, z22_1, z22_2, z22_3, z22_4, z22_5, z22_6, z22_7, z22_8, z22_9, z22_10, r23_0, r23_1, r23_2, r23_3, r23_4, r23_5, r23_6, r23_7, r23_8, r23_9, r23_10], by simp [go_sem, d21_0, d21_1, d21_2, d21_3, d21_4, d21_5, z22_0, z22_1, z22_2, z22_3, z22_4, z22_5, z22_6, z22_7, z22_8, z22_9, z22_10, r23_0, r23_1, r23_2, r23_3, r23_4, r23_5, r23_6, r23_7, r23_8, r23_9, r23_10]⟩
  have Z_52 : Box11 ((u6.setCell ⟨u1.heap.size, 0, none⟩ (.int .i64 2)).setCell ⟨u1.heap.size, 6, none⟩ (.int .u32 0)) (w.heap.size + 1) (.int .i64 0) (.int .u8 0) (.int .u32 0) (.int .i64 0) (.int .u32 0) (.int .i64 0) (.int .u32 0) (.int .u16 0) (.int .u16 0) (.int .u32 0) (.int .u16 0) := ⟨by have := Z_46.1; simpa using this, by simp [go_sem, d21_0, d21_1, d21_2, d21_3, d21_4, d21_5, z22_0, z22_1, z22_2, z22_3, z22_4, z22_5, z22_6, z22_7, z22_8, z22_9, z22_10, r23_0, r23_1, r23_2, r23_3, r23_4, r23_5, r23_6, r23_7, r23_8, r23_9, r23_10], by simp [go_sem, d21_0, d21_1, d21_2, d21_3, d21_4, d21_5, z22_0, z22_1, z22_2, z22_3, z22_4, z22_5, z22_6, z22_7, z22_8, z22_9, z22_10, r23_0, r23_1, r23_2, r23_3, r23_4, r23_5, r23_6, r23_7, r23_8, r23_9, r23_10], by simp [go_sem, d21_0, d21_1, d21_2, d21_3, d21_4, d21_5, z22_0, z22_1, z22_2, z22_3, z22_4, z22_5, z22_6, z22_7, z22_8, z22_9, z22_10, r23_0, r23_1, r23_2, r23_3, r23_4, r23_5, r23_6, r23_7, r23_8, r23_9, r23_10], by simp [go_sem, d21_0, d21_1, d21_2, d21_3, d21_4, d21_5, z22_0, z22_1, z22_2, z22_3, z22_4, z22_5, z22_6, z22_7, z22_8, z22_9, z22_10, r23_0, r23_1, r23_2, r23_3, r23_4, r23_5, r23_6, r23_7, r23_8, r23_9, r23_10], by simp [go_sem, d21_0, d21_1, d21_2, d21_3, d21_4, d21_5, z22_0, z22_1, z22_2, z22_3, z22_4, z22_5, z22_6, z22_7, z22_8, z22_9, z22_10, r23_0, r23_1, r23_2, r23_3, r23_4, r23_5, r23_6, r23_7, r23_8, r23_9, r23_10], by simp [go_sem, d21_0, d21_1, d21_2, d21_3, d21_4, d21_5, z22_0, z22_1, z22_2, z22_3, z22_4, z22_5, z22_6, z22_7, z22_8, z22_9, z22_10, r23_0, r23_1, r23_2, r23_3, r23_4, r23_5, r23_6, r23_7, r23_8, r23_9, r23_10], by simp [go_sem, d21_0, d21_1, d21_2, d21_3, d21_4, d21_5, z22_0, z22_1, z22_2, z22_3, z22_4, z22_5, z22_6, z22_7, z22_8, z22_9, z22_10, r23_0, r23_1, r23_2, r23_3, r23_4, r23_5, r23_6, r23_7, r23_8, r23_9, r23_10], by simp [go_sem, d21_0, d21_1, d21_2, d21_3, d21_4, d21_5, z22_0, z22_1, z22_2, z22_3, z22_4, z22_5, z22_6, z22_7, z22_8, z22_9, z22_10, r23_0, r23_1, r23_2, r23_3, r23_4, r23_5, r23_6, r23_7, r23_8, r23_9, r23_10], by simp [go_sem, d21_0, d21_1, d21_2, d21_3, d21_4, d21_5, z22_0, z22_1, z22_2, z22_3, z22_4, z22_5, z22_6, z22_7, z22_8, z22_9, z22_10, r23_0, r23_1, r23_2, r23_3, r23_4, r23_5, r23_6, r23_7, r23_8, r23_9, r23_10], by simp [go_sem, d21_0, d21_1, d21_2, d21_3, d21_4, d21_5, z22_0, z22_1, z22_2, z22_3, z22_4, z22_5, z22_6, z22_7, z22_8, z22_9, z22_10, r23_0, r23_1, r23_2, r23_3, r23_4, r23_5, r23_6, r23_7, r23_8, r23_9, r23_10], by simp [go_sem, d21_0, d21_1, d21_2, d21_3, d21_4, d21_5, z22_0, z22_1, z22_2, z22_3, z22_4, z22_5, z22_6, z22_7, z22_8, z22_9, z22_10, r23_0, r23_1, r23_2, r23_3, r23_4, r23_5, r23_6, r23_7, r23_8, r23_9, r23_10]⟩
  have R_53 : Box11 ((u6.setCell ⟨u1.heap.size, 0, none⟩ (.int .i64 2)).setCell ⟨u1.heap.size, 6, none⟩ (.int .u32 0)) u1.heap.size (.int .i64 2) (.int .u8 q) (.int .u32 (si : Int)) (.int .i64 sb) (.int .u32 (di : Int)) (.int .i64 db) (.int .u32 0) (.int .u16 (4 + (x3 : Int))) (.int .u16 (4 + (x3 : Int) + (y3 : Int))) (.int .u32 0) (.int .u16 0) := ⟨by have := R_47.1; simpa using this, by simp [go_sem, d21_0, d21_1, d21_2, d21_3, d21_4, d21_5, z22_0, z22_1, z22_2, z22_3, z22_4, z22_5, z22_6, z22_7, z22_8, z22_9, z22_10, r23_0, r23_1, r23_2, r23_3, r23_4, r23_5, r23_6, r23_7, r23_8, r23_9, r23_10], by simp [go_sem, d21_0, d21_1, d21_2, d21_3, d21_4, d21_5, z22_0, z22_1, z22_2, z22_3, z22_4, z22_5, z22_6, z22_7, z22_8, z22_9, z22_10, r23_0, r23_1, r23_2, r23_3, r23_4, r23_5, r23_6, r23_7, r23_8, r23_9, r23_10], by simp [go_sem, d21_0, d21_1, d21_2, d21_3, d21_4, d21_5, z22_0, z22_1, z22_2, z22_3, z22_4, z22_5, z22_6, z22_7, z22_8, z22_9, z22_10, r23_0, r23_1, r23_2, r23_3, r23_4, r23_5, r23_6, r23_7, r23_8, r23_9, r23_10], by simp [go_sem, d21_0, d21_1, d21_2, d21_3, d21_4, d21_5, z22_0, z22_1, z22_2, z22_3, z22_4, z22_5, z22_6, z22_7, z22_8, z22_9, z22_10, r23_0, r23_1, r23_2, r23_3, r23_4, r23_5, r23_6, r23_7, r23_8, r23_9, r23_10], by simp [go_sem, d21_0, d21_1, d21_2, d21_3, d21_4, d21_5, z22_0, z22_1, z22_2, z22_3, z22_4, z22_5, z22_6, z22_7, z22_8, z22_9, z22_10, r23_0, r23_1, r23_2, r23_3, r23_4, r23_5, r23_6, r23_7, r23_8, r23_9, r23_10], by simp [go_sem, d21_0, d21_1, d21_2, d21_3, d21_4, d21_5, z22_0, z22_1, z22_2, z22_3, z22_4, z22_5, z22_6, z22_7, z22_8, z22_9, z22_10, r23_0, r23_1, r23_2, r23_3, r23_4, r23_5, r23_6, r23_7, r23_8, r23_9, r23_10], by simp [go_sem, d21_0, d21_1, d21_2, d21_3, d21_4, d21_5, z22_0, z22_1, z22_2, z22_3, z22_4, z22_5, z22_6, z22_7, z22_8, z22_9, z22_10, r23_0, r23_1, r23_2, r23_3, r23_4, r23_5, r23_6, r23_7, r23_8, r23_9, r23_10], by simp [go_sem, d21_0, d21_1, d21_2, d21_3, d21_4, d21_5, z22_0, z22_1, z22_2, z22_3, z22_4, z22_5, z22_6, z22_7, z22_8, z22_9, z22_10, r23_0, r23_1, r23_2, r23_3, r23_4, r23_5, r23_6, r23_7, r23_8, r23_9, r23_10], by simp [go_sem, d21_0, d21_1, d21_2, d21_3, d21_4, d21_5, z22_0, z22_1, z22_2, z22_3, z22_4, z22_5, z22_6, z22_7, z22_8, z22_9, z22_10, r23_0, r23_1, r23_2, r23_3, r23_4, r23_5, r23_6, r23_7, r23_8, r23_9, r23_10], by simp [go_sem, d21_0, d21_1, d21_2, d21_3, d21_4, d21_5, z22_0, z22_1, z22_2, z22_3, z22_4, z22_5, z22_6, z22_7, z22_8, z22_9, z22_10, r23_0, r23_1, r23_2, r23_3, r23_4, r23_5, r23_6, r23_7, r23_8, r23_9, r23_10], by simp [go_sem, d21_0, d21_1, d21_2, d21_3, d21_4, d21_5, z22_0, z22_1, z22_2, z22_3, z22_4, z22_5, z22_6, z22_7, z22_8, z22_9, z22_10, r23_0, r23_1, r23_2, r23_3, r23_4, r23_5, r23_6, r23_7, r23_8, r23_9, r23_10]⟩
  have fzZ_54 : ∀ i, ((u6.setCell ⟨u1.heap.size, 0, none⟩ (.int .i64 2)).setCell ⟨u1.heap.size, 6, none⟩ (.int .u32 0)).frozen? ⟨(w.heap.size + 1), i, none⟩ = false := by intro i; simp [fzZ_48]
  have fzR_55 : ∀ i, ((u6.setCell ⟨u1.heap.size, 0, none⟩ (.int .i64 2)).setCell ⟨u1.heap.size, 6, none⟩ (.int .u32 0)).frozen? ⟨u1.heap.size, i, none⟩ = false := by intro i; simp [fzR_49]
  clear d21_0 d21_1 d21_2 d21_3 d21_4 d21_5 z22_0 z22_1 z22_2 z22_3 z22_4 z22_5 z22_6 z22_7 z22_8 z22_9 z22_10 r23_0 r23_1 r23_2 r23_3 r23_4 r23_5 r23_6 r23_7 r23_8 r23_9 r23_10 D_45 Z_46 R_47 fzZ_48 fzR_49 B44
  obtain ⟨u7, hu7⟩ : ∃ x_ : World, x_ = ((u6.setCell ⟨u1.heap.size, 0, none⟩ (.int .i64 2)).setCell ⟨u1.heap.size, 6, none⟩ (.int .u32 0)) := ⟨_, rfl⟩
  rw [← hu7] at D_51 Z_52 R_53 fzZ_54 fzR_55 B50 ⊢
  clear hu7
  obtain ⟨_, d24_0, d24_1, d24_2, d24_3, d24_4, d24_5⟩ := id D_51
  obtain ⟨_, r25_0, r25_1, r25_2, r25_3, r25_4, r25_5, r25_6, r25_7, r25_8, r25_9, r25_10⟩ := id R_53
  obtain ⟨_, z26_0, z26_1, z26_2, z26_3, z26_4, z26_5, z26_6, z26_7, z26_8, z26_9, z26_10⟩ := id Z_52
  go_wp2
  refine box11_ (b := w.heap.size + 1) Z_52.some B50 (Nat.le_succ _) fun X x0_ x1_ x2_ x3_ x4_ x5_ x6_ x7_ x8_ x9_ x10_ BX _ _ => ?_
  refine bodyPost_ret (v := .agg #[.int .i64 2, .int .u8 q, .int .u32 (si : Int), .int .i64 sb, .int .u32 (di : Int), .int .i64 db, .int .u32 0, .int .u16 (4 + (x3 : Int)), .int .u16 (4 + (x3 : Int) + (y3 : Int)), .int .u32 0, .int .u16 0]) (by simp [results, Try.results20, go_sem, x0_, x1_, x2_, x3_, x4_, x5_, x6_, x7_, x8_, x9_, x10_]) rfl ?_
  rw [HK.out, HR.out]
  exact ⟨rfl, BX⟩
set_option maxHeartbeats 4000000 in
set_option maxRecDepth 100000 in
theorem ruleN2_ (d : Dr) (w : World) (hd : d.Ok) (hk : d.d0 % 3 = 2) :
    Calls Try.prog 20 #[.agg #[.int .u8 d.d0, .int .u8 d.d1, .int .u8 d.d2, .int .u8 d.d3, .int .u8 d.d4, .int .u8 d.d5]] w fun e w' => e = .returned (.agg #[.int .i64 (ruleD d).k, .int .u8 (ruleD d).pr, .int .u32 ((ruleD d).si : Int), .int .i64 (ruleD d).sb, .int .u32 ((ruleD d).di : Int), .int .i64 (ruleD d).db, .int .u32 ((ruleD d).ex : Int), .int .u16 (ruleD d).fr, .int .u16 (ruleD d).to, .int .u32 ((ruleD d).ii : Int), .int .u16 (ruleD d).ip]) ∧ Below w.heap.size w w' := by
  have HK : Hid (ruleD d = ruleN d) := by show _ = _; unfold ruleD; rw [if_neg (by omega), if_neg (by omega)]
  obtain ⟨q, hq, ix⟩ : ∃ q : Int, drP4 d = q ∧ ∀ u : World, (Instr.index 83 (.agg #[.int .u8 0, .int .u8 1, .int .u8 6, .int .u8 17]) (.int .u8 (d.d1 % 4))).run Try.prog u = .ok (.int .u8 q) u := by
    have hf := four d.d1
    refine ⟨_, rfl, ?_⟩
    unfold drP4
    rcases hf with e3 | e3 | e3 | e3 <;> rw [e3] <;> intro u <;> simp [Instr.index, run_underlying Try.underlying83, asIntOf, go_sem]
  obtain ⟨si, sb, hs1, hs2, iy⟩ : ∃ (si : Nat) (sb : Int), drSI d = si ∧ drSB d = sb ∧ ∀ u : World, (Instr.index 84 (.agg #[.int .u32 0, .int .i64 0, .int .u32 167772160, .int .i64 8, .int .u32 167772160, .int .i64 31, .int .u32 167772162, .int .i64 32]) (.int .u8 (d.d4 % 4))).run Try.prog u = .ok (.agg #[.int .u32 (si : Int), .int .i64 sb]) u := by
    have hf := four d.d4
    refine ⟨_, _, rfl, rfl, ?_⟩
    unfold drSI drSB
    rcases hf with e3 | e3 | e3 | e3 <;> rw [e3] <;> intro u <;> simp [Instr.index, run_underlying Try.underlying84, asIntOf, go_sem]
  obtain ⟨di, db, hd1, hd2, iz⟩ : ∃ (di : Nat) (db : Int), drDI d = di ∧ drDB d = db ∧ ∀ u : World, (Instr.index 85 (.agg #[.int .u32 0, .int .i64 0, .int .u32 16909056, .int .i64 24, .int .u32 16909060, .int .i64 32]) (.int .u8 (d.d5 % 3))).run Try.prog u = .ok (.agg #[.int .u32 (di : Int), .int .i64 db]) u := by
    have hf := three d.d5
    refine ⟨_, _, rfl, rfl, ?_⟩
    unfold drDI drDB
    rcases hf with e3 | e3 | e3 <;> rw [e3] <;> intro u <;> simp [Instr.index, run_underlying Try.underlying85, asIntOf, go_sem]
  have t0 : d.d0.tmod 3 = 2 := by rw [Int.tmod_eq_emod_of_nonneg hd.a0.1]; exact hk
  obtain ⟨x1, h1, _, _, _, t1, _, _, _⟩ := mod_nat d.d1 4 hd.a1 (by omega) (by omega)
  obtain ⟨x2, h2, i2, b2, _, t2, v2, _, u2⟩ := mod_nat d.d2 3 hd.a2 (by omega) (by omega)
  obtain ⟨x3, h3, i3, b3, _, t3, v3, w3, _⟩ := mod_nat d.d3 8 hd.a3 (by omega) (by omega)
  obtain ⟨x4, h4, i4, b4, _, t4, v4, _, u4⟩ := mod_nat d.d4 4 hd.a4 (by omega) (by omega)
  obtain ⟨x5, h5, i5, b5, _, t5, v5, w5, _⟩ := mod_nat d.d5 3 hd.a5 (by omega) (by omega)
  obtain ⟨z3, hz3, tz3, vz3, bz3⟩ : ∃ z : Int, d.d3 / 8 = z ∧ d.d3.tdiv 8 = z ∧ IntKind.u8.wrap z = z ∧ (0 ≤ z ∧ z ≤ 255) := by
    have := hd.a3
    exact ⟨_, rfl, Int.tdiv_eq_ediv_of_nonneg (by omega), IntWalk.u8_in _ (by omega), by omega⟩
  obtain ⟨y3, g3, _, c3, _, s3, r3, p3, _⟩ := mod_nat z3 4 bz3 (by omega) (by omega)
  rw [h1] at ix
  rw [h4] at iy
  rw [h5] at iz
  have HR : Hid (ruleN d = ⟨1, q, si, sb, di, db, 151587081 + x2, 4 + (x3 : Int), 4 + (x3 : Int) + (y3 : Int), 0, 0⟩) := by
    show _ = _
    unfold ruleN drX
    rw [hq, i2, h3, hz3, g3, hs1, hs2, hd1, hd2]
  have k2 : IntKind.u32.wrap (151587081 + (x2 : Int)) = 151587081 + (x2 : Int) := IntWalk.u32_in _ (by omega)
  have k3 : IntKind.u16.wrap (4 + (x3 : Int)) = 4 + (x3 : Int) := IntWalk.u16_in _ (by omega)
  have k6 : IntKind.u16.wrap (4 + (x3 : Int) + (y3 : Int)) = 4 + (x3 : Int) + (y3 : Int) := IntWalk.u16_in _ (by omega)
  have HD := Lib.hid hd
  clear hq h1 h2 h3 h4 h5 i2 i3 i4 i5 hd hk hs1 hs2 hd1 hd2 hz3 g3 bz3
  go_enter Try.func20, Try.ntmps20
  have B1 := Below.refl w.heap.size w
  go_upto_region 1 with fail
  have D_2 := Box6.make w (.int .u8 d.d0) (.int .u8 d.d1) (.int .u8 d.d2) (.int .u8 d.d3) (.int .u8 d.d4) (.int .u8 d.d5) 37
  have B3 := B1.alloc B1.size (.cells #[.int .u8 d.d0, .int .u8 d.d1, .int .u8 d.d2, .int .u8 d.d3, .int .u8 d.d4, .int .u8 d.d5] 37)
  clear B1
  have D_4 := D_2.past (o := (.cells #[.int .i64 0, .int .u8 0, .int .u32 0, .int .i64 0, .int .u32 0, .int .i64 0, .int .u32 0, .int .u16 0, .int .u16 0, .int .u32 0, .int .u16 0] 42))
  have hs_ : (w.alloc (.cells #[.int .u8 d.d0, .int .u8 d.d1, .int .u8 d.d2, .int .u8 d.d3, .int .u8 d.d4, .int .u8 d.d5] 37)).heap.size = w.heap.size + 1 := by simp
  have Z_5 := Box11.make (w.alloc (.cells #[.int .u8 d.d0, .int .u8 d.d1, .int .u8 d.d2, .int .u8 d.d3, .int .u8 d.d4, .int .u8 d.d5] 37)) (.int .i64 0) (.int .u8 0) (.int .u32 0) (.int .i64 0) (.int .u32 0) (.int .i64 0) (.int .u32 0) (.int .u16 0) (.int .u16 0) (.int .u32 0) (.int .u16 0) 42
  rw [hs_] at Z_5
  clear hs_
  have B6 := B3.alloc B3.size (.cells #[.int .i64 0, .int .u8 0, .int .u32 0, .int .i64 0, .int .u32 0, .int .i64 0, .int .u32 0, .int .u16 0, .int .u16 0, .int .u32 0, .int .u16 0] 42)
  clear D_2 B3
  have fzZ_7 : ∀ i, ((w.alloc (.cells #[.int .u8 d.d0, .int .u8 d.d1, .int .u8 d.d2, .int .u8 d.d3, .int .u8 d.d4, .int .u8 d.d5] 37)).alloc (.cells #[.int .i64 0, .int .u8 0, .int .u32 0, .int .i64 0, .int .u32 0, .int .i64 0, .int .u32 0, .int .u16 0, .int .u16 0, .int .u32 0, .int .u16 0] 42)).frozen? ⟨(w.heap.size + 1), i, none⟩ = false := by intro i; simp [go_sem]
  obtain ⟨u1, hu1⟩ : ∃ x_ : World, x_ = (w.alloc (.cells #[.int .u8 d.d0, .int .u8 d.d1, .int .u8 d.d2, .int .u8 d.d3, .int .u8 d.d4, .int .u8 d.d5] 37)).alloc (.cells #[.int .i64 0, .int .u8 0, .int .u32 0, .int .i64 0, .int .u32 0, .int .i64 0, .int .u32 0, .int .u16 0, .int .u16 0, .int .u32 0, .int .u16 0] 42) := ⟨_, rfl⟩
  rw [← hu1] at D_4 Z_5 fzZ_7 B6 ⊢
  clear hu1
  have zz := Lib.hid Z_5.1
  obtain ⟨_, d1_0, d1_1, d1_2, d1_3, d1_4, d1_5⟩ := id D_4
  obtain ⟨_, z2_0, z2_1, z2_2, z2_3, z2_4, z2_5, z2_6, z2_7, z2_8, z2_9, z2_10⟩ := id Z_5
  have ne1_ : ¬ w.heap.size = w.heap.size + 1 := by omega
  have ne2_ : ¬ w.heap.size + 1 = w.heap.size := by omega
  go_upto_region 4 with fail
  go_region
  clear d1_0 d1_1 d1_2 d1_3 d1_4 d1_5 z2_0 z2_1 z2_2 z2_3 z2_4 z2_5 z2_6 z2_7 z2_8 z2_9 z2_10
  have fzZ_8 : ∀ i, (u1.alloc (.cells #[.int .i64 1, .int .u8 q, .int .u32 0, .int .i64 0, .int .u32 0, .int .i64 0, .int .u32 (151587081 + (x2 : Int)), .int .u16 (4 + (x3 : Int)), .int .u16 0, .int .u32 0, .int .u16 0] 42)).frozen? ⟨(w.heap.size + 1), i, none⟩ = false := fun i => (((Below.refl u1.heap.size u1).alloc (Nat.le_refl _) (.cells #[.int .i64 1, .int .u8 q, .int .u32 0, .int .i64 0, .int .u32 0, .int .i64 0, .int .u32 (151587081 + (x2 : Int)), .int .u16 (4 + (x3 : Int)), .int .u16 0, .int .u32 0, .int .u16 0] 42)).frozen (p := ⟨_, i, none⟩) Z_5.1).trans (fzZ_7 i)
  clear fzZ_7
  have D_9 := D_4.past (o := (.cells #[.int .i64 1, .int .u8 q, .int .u32 0, .int .i64 0, .int .u32 0, .int .i64 0, .int .u32 (151587081 + (x2 : Int)), .int .u16 (4 + (x3 : Int)), .int .u16 0, .int .u32 0, .int .u16 0] 42))
  have Z_10 := Z_5.past (o := (.cells #[.int .i64 1, .int .u8 q, .int .u32 0, .int .i64 0, .int .u32 0, .int .i64 0, .int .u32 (151587081 + (x2 : Int)), .int .u16 (4 + (x3 : Int)), .int .u16 0, .int .u32 0, .int .u16 0] 42))
  have R_11 := Box11.make u1 (.int .i64 1) (.int .u8 q) (.int .u32 0) (.int .i64 0) (.int .u32 0) (.int .i64 0) (.int .u32 (151587081 + (x2 : Int))) (.int .u16 (4 + (x3 : Int))) (.int .u16 0) (.int .u32 0) (.int .u16 0) 42
  have B12 := B6.alloc B6.size (.cells #[.int .i64 1, .int .u8 q, .int .u32 0, .int .i64 0, .int .u32 0, .int .i64 0, .int .u32 (151587081 + (x2 : Int)), .int .u16 (4 + (x3 : Int)), .int .u16 0, .int .u32 0, .int .u16 0] 42)
  clear D_4 Z_5 B6
  have fzR_13 : ∀ i, (u1.alloc (.cells #[.int .i64 1, .int .u8 q, .int .u32 0, .int .i64 0, .int .u32 0, .int .i64 0, .int .u32 (151587081 + (x2 : Int)), .int .u16 (4 + (x3 : Int)), .int .u16 0, .int .u32 0, .int .u16 0] 42)).frozen? ⟨u1.heap.size, i, none⟩ = false := by intro i; simp [go_sem]
  have fzZ_14 : ∀ i, (u1.alloc (.cells #[.int .i64 1, .int .u8 q, .int .u32 0, .int .i64 0, .int .u32 0, .int .i64 0, .int .u32 (151587081 + (x2 : Int)), .int .u16 (4 + (x3 : Int)), .int .u16 0, .int .u32 0, .int .u16 0] 42)).drew.frozen? ⟨(w.heap.size + 1), i, none⟩ = false := fun i => ((Below.refl (u1.alloc (.cells #[.int .i64 1, .int .u8 q, .int .u32 0, .int .i64 0, .int .u32 0, .int .i64 0, .int .u32 (151587081 + (x2 : Int)), .int .u16 (4 + (x3 : Int)), .int .u16 0, .int .u32 0, .int .u16 0] 42)).heap.size (u1.alloc (.cells #[.int .i64 1, .int .u8 q, .int .u32 0, .int .i64 0, .int .u32 0, .int .i64 0, .int .u32 (151587081 + (x2 : Int)), .int .u16 (4 + (x3 : Int)), .int .u16 0, .int .u32 0, .int .u16 0] 42))).drew.frozen (p := ⟨_, i, none⟩) Z_10.1).trans (fzZ_8 i)
  have fzR_15 : ∀ i, (u1.alloc (.cells #[.int .i64 1, .int .u8 q, .int .u32 0, .int .i64 0, .int .u32 0, .int .i64 0, .int .u32 (151587081 + (x2 : Int)), .int .u16 (4 + (x3 : Int)), .int .u16 0, .int .u32 0, .int .u16 0] 42)).drew.frozen? ⟨u1.heap.size, i, none⟩ = false := fun i => ((Below.refl (u1.alloc (.cells #[.int .i64 1, .int .u8 q, .int .u32 0, .int .i64 0, .int .u32 0, .int .i64 0, .int .u32 (151587081 + (x2 : Int)), .int .u16 (4 + (x3 : Int)), .int .u16 0, .int .u32 0, .int .u16 0] 42)).heap.size (u1.alloc (.cells #[.int .i64 1, .int .u8 q, .int .u32 0, .int .i64 0, .int .u32 0, .int .i64 0, .int .u32 (151587081 + (x2 : Int)), .int .u16 (4 + (x3 : Int)), .int .u16 0, .int .u32 0, .int .u16 0] 42))).drew.frozen (p := ⟨_, i, none⟩) R_11.1).trans (fzR_13 i)
  clear fzZ_8 fzR_13
  have D_16 := D_9.on ((Below.refl _ _).drew)
  have Z_17 := Z_10.on ((Below.refl _ _).drew)
  have R_18 := R_11.on ((Below.refl _ _).drew)
  have B19 := B12.drew
  clear D_9 Z_10 R_11 B12
  have zu : w.heap.size + 1 < u1.heap.size := by have := zz.out; omega
  obtain ⟨u2, hu2⟩ : ∃ x_ : World, x_ = (u1.alloc (.cells #[.int .i64 1, .int .u8 q, .int .u32 0, .int .i64 0, .int .u32 0, .int .i64 0, .int .u32 (151587081 + (x2 : Int)), .int .u16 (4 + (x3 : Int)), .int .u16 0, .int .u32 0, .int .u16 0] 42)).drew := ⟨_, rfl⟩
  rw [← hu2] at D_16 Z_17 R_18 fzZ_14 fzR_15 B19 ⊢
  clear hu2
  have n1_ : ¬ u1.heap.size = w.heap.size := by omega
  have n2_ : ¬ w.heap.size = u1.heap.size := by omega
  have n3_ : ¬ u1.heap.size = w.heap.size + 1 := by omega
  have n4_ : ¬ w.heap.size + 1 = u1.heap.size := by omega
  obtain ⟨_, d3_0, d3_1, d3_2, d3_3, d3_4, d3_5⟩ := id D_16
  obtain ⟨_, r4_0, r4_1, r4_2, r4_3, r4_4, r4_5, r4_6, r4_7, r4_8, r4_9, r4_10⟩ := id R_18
  go_upto_region 6 with fail
  clear d3_0 d3_1 d3_2 d3_3 d3_4 d3_5 r4_0 r4_1 r4_2 r4_3 r4_4 r4_5 r4_6 r4_7 r4_8 r4_9 r4_10
  obtain ⟨_, d5_0, d5_1, d5_2, d5_3, d5_4, d5_5⟩ := id D_16
  obtain ⟨_, z6_0, z6_1, z6_2, z6_3, z6_4, z6_5, z6_6, z6_7, z6_8, z6_9, z6_10⟩ := id Z_17
  obtain ⟨_, r7_0, r7_1, r7_2, r7_3, r7_4, r7_5, r7_6, r7_7, r7_8, r7_9, r7_10⟩ := id R_18
  have B20 := (B19.setCell (p := ⟨u1.heap.size, 8, none⟩) (Nat.le_of_lt (Nat.lt_of_succ_lt zu)) (.int .u16 (4 + (x3 : Int) + (y3 : Int))))
  have D_21 : Box6 (u2.setCell ⟨u1.heap.size, 8, none⟩ (.int .u16 (4 + (x3 : Int) + (y3 : Int)))) w.heap.size (.int .u8 d.d0) (.int .u8 d.d1) (.int .u8 d.d2) (.int .u8 d.d3) (.int .u8 d.d4) (.int .u8 d.d5) := ⟨by have := D_16.1; simpa using this, by simp [go_sem, d5_0, d5_1, d5_2, d5_3, d5_4, d5_5, z6_0, z6_1, z6_2, z6_3, z6_4, z6_5, z6_6, z6_7, z6_8, z6_9, z6_10, r7_0, r7_1, r7_2, r7_3, r7_4, r7_5, r7_6, r7_7, r7_8, r7_9, r7_10], by simp [go_sem, d5_0, d5_1, d5_2, d5_3, d5_4, d5_5, z6_0, z6_1, z6_2, z6_3, z6_4, z6_5, z6_6, z6_7, z6_8, z6_9, z6_10, r7_0, r7_1, r7_2, r7_3, r7_4, r7_5, r7_6, r7_7, r7_8, r7_9, r7_10], by simp [go_sem, d5_0, d5_1, d5_2, d5_3, d5_4, d5_5, z6_0, z6_1, z6_2, z6_3, z6_4, z6_5, z6_6, z6_7, z6_8, z6_9, z6_10, r7_0, r7_1, r7_2, r7_3, r7_4, r7_5, r7_6, r7_7, r7_8, r7_9, r7_10], by simp [go_sem, d5_0, d5_1, d5_2, d5_3, d5_4, d5_5, z6_0, z6_1, z6_2, z6_3, z6_4, z6_5, z6_6, z6_7, z6_8, z6_9, z6_10, r7_0, r7_1, r7_2, r7_3, r7_4, r7_5, r7_6, r7_7, r7_8, r7_9, r7_10], by simp [go_sem, d5_0, d5_1, d5_2, d5_3, d5_4, d5_5, z6_0, z6_1, z6_2, z6_3, z6_4, z6_5, z6_6, z6_7, z6_8, z6_9, z6_10, r7_0, r7_1, r7_2, r7_3, r7_4, r7_5, r7_6, r7_7, r7_8, r7_9, r7_10], by simp [go_sem, d5_0, d5_1, d5_2, d5_3, d5_4, d5_5, z6_0, z6_1, z6_2, z6_3, z6_4, z6_5, z6_6, z6_7, z6_8, z6_9, z6_10, r7_0, r7_1, r7_2, r7_3, r7_4, r7_5, r7_6, r7_7, r7_8, r7_9, r7_10]⟩
  have Z_22 : Box11 (u2.setCell ⟨u1.heap.size, 8, none⟩ (.int .u16 (4 + (x3 : Int) + (y3 : Int)))) (w.heap.size + 1) (.int .i64 0) (.int .u8 0) (.int .u32 0) (.int .i64 0) (.int .u32 0) (.int .i64 0) (.int .u32 0) (.int .u16 0) (.int .u16 0) (.int .u32 0) (.int .u16 0) := ⟨by have := Z_17.1; simpa using this, by simp [go_sem, d5_0, d5_1, d5_2, d5_3, d5_4, d5_5, z6_0, z6_1, z6_2, z6_3, z6_4, z6_5, z6_6, z6_7, z6_8, z6_9, z6_10, r7_0, r7_1, r7_2, r7_3, r7_4, r7_5, r7_6, r7_7, r7_8, r7_9, r7_10], by simp [go_sem, d5_0, d5_1, d5_2, d5_3, d5_4, d5_5, z6_0, z6_1, z6_2, z6_3, z6_4, z6_5, z6_6, z6_7, z6_8, z6_9, z6_10, r7_0, r7_1, r7_2, r7_3, r7_4, r7_5, r7_6, r7_7, r7_8, r7_9, r7_10], by simp [go_sem, d5_0, d5_1, d5_2, d5_3, d5_4, d5_5, z6_0, z6_1, z6_2, z6_3, z6_4, z6_5, z6_6, z6_7, z6_8, z6_9, z6_10, r7_0, r7_1, r7_2, r7_3, r7_4, r7_5, r7_6, r7_7, r7_8, r7_9, r7_10], by simp [go_sem, d5_0, d5_1, d5_2, d5_3, d5_4, d5_5, z6_0, z6_1, z6_2, z6_3, z6_4, z6_5, z6_6, z6_7, z6_8, z6_9, z6_10, r7_0, r7_1, r7_2, r7_3, r7_4, r7_5, r7_6, r7_7, r7_8, r7_9, r7_10], by simp [go_sem, d5_0, d5_1, d5_2, d5_3, d5_4, d5_5, z6_0, z6_1, z6_2, z6_3, z6_4, z6_5, z6_6, z6_7, z6_8, z6_9, z6_10, r7_0, r7_1, r7_2, r7_3, r7_4, r7_5, r7_6, r7_7, r7_8, r7_9, r7_10], by simp [go_sem, d5_0, d5_1, d5_2, d5_3, d5_4, d5_5, z6_0, z6_1, z6_2, z6_3, z6_4, z6_5, z6_6, z6_7, z6_8, z6_9, z6_10, r7_0, r7_1, r7_2, r7_3, r7_4, r7_5, r7_6, r7_7, r7_8, r7_9, r7_10], by simp [go_sem, d5_0, d5_1, d5_2, d5_3, d5_4, d5_5, z6_0, z6_1, z6_2, z6_3, z6_4, z6_5, z6_6, z6_7, z6_8, z6_9, z6_10, r7_0, r7_1, r7_2, r7_3, r7_4, r7_5, r7_6, r7_7, r7_8, r7_9, r7_10], by simp [go_sem, d5_0, d5_1, d5_2, d5_3, d5_4, d5_5, z6_0, z6_1, z6_2, z6_3, z6_4, z6_5, z6_6, z6_7, z6_8, z6_9, z6_10, r7_0, r7_1, r7_2, r7_3, r7_4, r7_5, r7_6, r7_7, r7_8, r7_9, r7_10], by simp [go_sem, d5_0, d5_1, d5_2, d5_3, d5_4, d5_5, z6_0, z6_1, z6_2, z6_3, z6_4, z6_5, z6_6, z6_7, z6_8, z6_9, z6_10, r7_0, r7_1, r7_2, r7_3, r7_4, r7_5, r7_6, r7_7, r7_8, r7_9, r7_10], by simp [go_sem, d5_0, d5_1, d5_2, d5_3, d5_4, d5_5, z6_0, z6_1, z6_2, z6_3, z6_4, z6_5, z6_6, z6_7, z6_8, z6_9, z6_10, r7_0, r7_1, r7_2, r7_3, r7_4, r7_5, r7_6, r7_7, r7_8, r7_9, r7_10], by simp [go_sem, d5_0, d5_1, d5_2, d5_3, d5_4, d5_5, z6_0, z6_1, z6_2, z6_3, z6_4, z6_5, z6_6, z6_7, z6_8, z6_9, z6_10, r7_0, r7_1, r7_2, r7_3, r7_4, r7_5, r7_6, r7_7, r7_8, r7_9, r7_10]⟩
  have R_23 : Box11 (u2.setCell ⟨u1.heap.size, 8, none⟩ (.int .u16 (4 + (x3 : Int) + (y3 : Int)))) u1.heap.size (.int .i64 1) (.int .u8 q) (.int .u32 0) (.int .i64 0) (.int .u32 0) (.int .i64 0) (.int .u32 (151587081 + (x2 : Int))) (.int .u16 (4 + (x3 : Int))) (.int .u16 (4 + (x3 : Int) + (y3 : Int))) (.int .u32 0) (.int .u16 0) := ⟨by have := R_18.1; simpa using this, by simp [go_sem, d5_0, d5_1, d5_2, d5_3, d5_4, d5_5, z6_0, z6_1, z6_2, z6_3, z6_4, z6_5, z6_6, z6_7, z6_8, z6_9, z6_10, r7_0, r7_1, r7_2, r7_3, r7_4, r7_5, r7_6, r7_7, r7_8, r7_9, r7_10], by simp [go_sem, d5_0, d5_1, d5_2, d5_3, d5_4, d5_5, z6_0, z6_1, z6_2, z6_3, z6_4, z6_5, z6_6, z6_7, z6_8, z6_9, z6_10, r7_0, r7_1, r7_2, r7_3, r7_4, r7_5, r7_6, r7_7, r7_8, r7_9, r7_10], by simp [go_sem, d5_0, d5_1, d5_2, d5_3, d5_4, d5_5, z6_0, z6_1, z6_2, z6_3, z6_4, z6_5, z6_6, z6_7, z6_8, z6_9, z6_10, r7_0, r7_1, r7_2, r7_3, r7_4, r7_5, r7_6, r7_7, r7_8, r7_9, r7_10], by simp [go_sem, d5_0, d5_1, d5_2, d5_3, d5_4, d5_5, z6_0, z6_1, z6_2, z6_3, z6_4, z6_5, z6_6, z6_7, z6_8, z6_9, z6_10, r7_0, r7_1, r7_2, r7_3, r7_4, r7_5, r7_6, r7_7, r7_8, r7_9, r7_10], by simp [go_sem, d5_0, d5_1, d5_2, d5_3, d5_4, d5_5, z6_0, z6_1, z6_2, z6_3, z6_4, z6_5, z6_6, z6_7, z6_8, z6_9, z6_10, r7_0, r7_1, r7_2, r7_3, r7_4, r7_5, r7_6, r7_7, r7_8, r7_9, r7_10], by simp [go_sem, d5_0, d5_1, d5_2, d5_3, d5_4, d5_5, z6_0, z6_1, z6_2, z6_3, z6_4, z6_5, z6_6, z6_7, z6_8, z6_9, z6_10, r7_0, r7_1, r7_2, r7_3, r7_4, r7_5, r7_6, r7_7, r7_8, r7_9, r7_10], by simp [go_sem, d5_0, d5_1, d5_2, d5_3, d5_4, d5_5, z6_0, z6_1, z6_2, z6_3, z6_4, z6_5, z6_6, z6_7, z6_8, z6_9, z6_10, r7_0, r7_1, r7_2, r7_3, r7_4, r7_5, r7_6, r7_7, r7_8, r7_9, r7_10], by simp [go_sem, d5_0, d5_1, d5_2, d5_3, d5_4, d5_5, z6_0, z6_1, z6_2, z6_3, z6_4, z6_5, z6_6, z6_7, z6_8, z6_9, z6_10, r7_0, r7_1, r7_2, r7_3, r7_4, r7_5, r7_6, r7_7, r7_8, r7_9, r7_10], by simp [go_sem, d5_0, d5_1, d5_2, d5_3, d5_4, d5_5, z6_0, z6_1, z6_2, z6_3, z6_4, z6_5, z6_6, z6_7, z6_8, z6_9, z6_10, r7_0, r7_1, r7_2, r7_3, r7_4, r7_5, r7_6, r7_7, r7_8, r7_9, r7_10], by simp [go_sem, d5_0, d5_1, d5_2, d5_3, d5_4, d5_5, z6_0, z6_1, z6_2, z6_3, z6_4, z6_5, z6_6, z6_7, z6_8, z6_9, z6_10, r7_0, r7_1, r7_2, r7_3, r7_4, r7_5, r7_6, r7_7, r7_8, r7_9, r7_10], by simp [go_sem, d5_0, d5_1, d5_2, d5_3, d5_4, d5_5, z6_0, z6_1, z6_2, z6_3, z6_4, z6_5, z6_6, z6_7, z6_8, z6_9, z6_10, r7_0, r7_1, r7_2, r7_3, r7_4, r7_5, r7_6, r7_7, r7_8, r7_9, r7_10]⟩
  have fzZ_24 : ∀ i, (u2.setCell ⟨u1.heap.size, 8, none⟩ (.int .u16 (4 + (x3 : Int) + (y3 : Int)))).frozen? ⟨(w.heap.size + 1), i, none⟩ = false := by intro i; simp [fzZ_14]
  have fzR_25 : ∀ i, (u2.setCell ⟨u1.heap.size, 8, none⟩ (.int .u16 (4 + (x3 : Int) + (y3 : Int)))).frozen? ⟨u1.heap.size, i, none⟩ = false := by intro i; simp [fzR_15]
  clear d5_0 d5_1 d5_2 d5_3 d5_4 d5_5 z6_0 z6_1 z6_2 z6_3 z6_4 z6_5 z6_6 z6_7 z6_8 z6_9 z6_10 r7_0 r7_1 r7_2 r7_3 r7_4 r7_5 r7_6 r7_7 r7_8 r7_9 r7_10 D_16 Z_17 R_18 fzZ_14 fzR_15 B19
  obtain ⟨u3, hu3⟩ : ∃ x_ : World, x_ = (u2.setCell ⟨u1.heap.size, 8, none⟩ (.int .u16 (4 + (x3 : Int) + (y3 : Int)))) := ⟨_, rfl⟩
  rw [← hu3] at D_21 Z_22 R_23 fzZ_24 fzR_25 B20 ⊢
  clear hu3
  obtain ⟨_, d8_0, d8_1, d8_2, d8_3, d8_4, d8_5⟩ := id D_21
  obtain ⟨_, r9_0, r9_1, r9_2, r9_3, r9_4, r9_5, r9_6, r9_7, r9_8, r9_9, r9_10⟩ := id R_23
  refine region_till 10 (fun w' => w'.cell? ⟨w.heap.size, 4, none⟩ = some (.int .u8 d.d4)) (by kernel_rfl) ?_ (fun hHeld => ?_)
  · simp [d8_0, d8_1, d8_2, d8_3, d8_4, d8_5, r9_0, r9_1, r9_2, r9_3, r9_4, r9_5, r9_6, r9_7, r9_8, r9_9, r9_10]
  clear d8_0 d8_1 d8_2 d8_3 d8_4 d8_5 r9_0 r9_1 r9_2 r9_3 r9_4 r9_5 r9_6 r9_7 r9_8 r9_9 r9_10
  have fzZ_26 : ∀ i, u3.drew.frozen? ⟨(w.heap.size + 1), i, none⟩ = false := fun i => ((Below.refl u3.heap.size u3).drew.frozen (p := ⟨_, i, none⟩) Z_22.1).trans (fzZ_24 i)
  have fzR_27 : ∀ i, u3.drew.frozen? ⟨u1.heap.size, i, none⟩ = false := fun i => ((Below.refl u3.heap.size u3).drew.frozen (p := ⟨_, i, none⟩) R_23.1).trans (fzR_25 i)
  clear fzZ_24 fzR_25
  have D_28 := D_21.on ((Below.refl _ _).drew)
  have Z_29 := Z_22.on ((Below.refl _ _).drew)
  have R_30 := R_23.on ((Below.refl _ _).drew)
  have B31 := B20.drew
  clear D_21 Z_22 R_23 B20
  refine till_take (i := 0) (oi := _) (v := ?_) rfl (by kernel_rfl) (by kernel_rfl) (by kernel_rfl) (by kernel_rfl) (by rfl) (fun _ _ _ h => h) (Or.inl ⟨by rfl, ?_⟩) (by assumption) ?_
  rotate_left
  · intro w hSw
    (try dsimp only at hSw)
    go_simp
    with_reducible rfl
  try simp only [Act.put, List.setIfInBounds_toArray, List.set_cons_zero, List.set_cons_succ]
  refine till_take (i := 2) (oi := _) (v := ?_) rfl (by kernel_rfl) (by kernel_rfl) (by kernel_rfl) (by kernel_rfl) (by rfl) (fun _ _ _ h => h) (Or.inl ⟨by rfl, ?_⟩) (by assumption) ?_
  rotate_left
  · intro w hSw
    (try dsimp only at hSw)
    go_simp
    with_reducible rfl
  try simp only [Act.put, List.setIfInBounds_toArray, List.set_cons_zero, List.set_cons_succ]
  refine till_take (i := 3) (oi := _) (v := ?_) rfl (by kernel_rfl) (by kernel_rfl) (by kernel_rfl) (by kernel_rfl) (by rfl) (fun _ _ _ h => h) (Or.inl ⟨by rfl, ?_⟩) (by assumption) ?_
  rotate_left
  · intro w hSw
    (try dsimp only at hSw)
    go_simp
    with_reducible rfl
  try simp only [Act.put, List.setIfInBounds_toArray, List.set_cons_zero, List.set_cons_succ]
  refine till_take (i := 5) (oi := _) (v := ?_) rfl (by kernel_rfl) (by kernel_rfl) (by kernel_rfl) (by kernel_rfl) (by rfl) (fun _ _ _ h => h) (Or.inl ⟨by rfl, ?_⟩) (by assumption) ?_
  rotate_left
  · intro w hSw
    (try dsimp only at hSw)
    go_simp
    with_reducible rfl
  try simp only [Act.put, List.setIfInBounds_toArray, List.set_cons_zero, List.set_cons_succ]
  refine till_take (i := 6) (oi := _) (v := ?_) rfl (by kernel_rfl) (by kernel_rfl) (by kernel_rfl) (by kernel_rfl) (by rfl) (fun _ _ _ h => h) (Or.inl ⟨by rfl, ?_⟩) (by assumption) ?_
  rotate_left
  · intro w hSw
    (try dsimp only at hSw)
    go_simp
    with_reducible rfl
  try simp only [Act.put, List.setIfInBounds_toArray, List.set_cons_zero, List.set_cons_succ]
  refine till_take (i := 7) (oi := _) (v := ?_) rfl (by kernel_rfl) (by kernel_rfl) (by kernel_rfl) (by kernel_rfl) (by rfl) (fun _ _ _ h => h) (Or.inl ⟨by rfl, ?_⟩) (by assumption) ?_
  rotate_left
  · intro w hSw
    (try dsimp only at hSw)
    go_simp
    with_reducible rfl
  try simp only [Act.put, List.setIfInBounds_toArray, List.set_cons_zero, List.set_cons_succ]
  refine till_ready (rs := [1]) (by kernel_rfl) (by simp) ?_
  refine TillAll.cons (o := _) rfl (by rfl) (fun K hK => ?_) TillAll.nil
  go_simp
  refine (tens_ _).mono ?_; rintro e w4 ⟨rfl, x4⟩
  have fzZ_32 : ∀ i, w4.frozen? ⟨(w.heap.size + 1), i, none⟩ = false := fun i => (x4.frozen (p := ⟨_, i, none⟩) Z_29.1).trans (fzZ_26 i)
  have fzR_33 : ∀ i, w4.frozen? ⟨u1.heap.size, i, none⟩ = false := fun i => (x4.frozen (p := ⟨_, i, none⟩) R_30.1).trans (fzR_27 i)
  clear fzZ_26 fzR_27
  have D_34 := D_28.on x4
  have Z_35 := Z_29.on x4
  have R_36 := R_30.on x4
  have B37 := B31.trans (x4.mono B31.size)
  clear D_28 Z_29 R_30 B31 x4
  refine hK.out _ _ D_34.2.2.2.2.2.1 (fun hS1 => ?_)
  clear hK K
  try simp only [Act.put, List.setIfInBounds_toArray, List.set_cons_zero, List.set_cons_succ]
  refine till_take (i := 4) (oi := _) (v := ?_) rfl (by kernel_rfl) (by kernel_rfl) (by kernel_rfl) (by kernel_rfl) (by rfl) (fun _ _ _ h => h) (Or.inl ⟨by rfl, ?_⟩) (by assumption) ?_
  rotate_left
  · intro w hSw
    (try dsimp only at hSw)
    go_simp
    with_reducible rfl
  try simp only [Act.put, List.setIfInBounds_toArray, List.set_cons_zero, List.set_cons_succ]
  refine till_take (i := 8) (oi := _) (v := ?_) rfl (by kernel_rfl) (by kernel_rfl) (by kernel_rfl) (by kernel_rfl) (by rfl) (fun _ _ _ h => h) (Or.inl ⟨by rfl, ?_⟩) (by assumption) ?_
  rotate_left
  · intro w hSw
    (try dsimp only at hSw)
    go_simp
    with_reducible rfl
  try simp only [Act.put, List.setIfInBounds_toArray, List.set_cons_zero, List.set_cons_succ]
  refine till_take (i := 9) (oi := _) (v := ?_) rfl (by kernel_rfl) (by kernel_rfl) (by kernel_rfl) (by kernel_rfl) (by rfl) (fun _ _ _ h => h) (Or.inl ⟨by rfl, ?_⟩) (by assumption) ?_
  rotate_left
  · intro w hSw
    (try dsimp only at hSw)
    go_simp
    with_reducible rfl
  try simp only [Act.put, List.setIfInBounds_toArray, List.set_cons_zero, List.set_cons_succ]
  obtain ⟨_, r10_0, r10_1, r10_2, r10_3, r10_4, r10_5, r10_6, r10_7, r10_8, r10_9, r10_10⟩ := id R_36
  refine till_last (by kernel_rfl) (by kernel_rfl) rfl (fun K hK => ?_)
  go_simp
  clear r10_0 r10_1 r10_2 r10_3 r10_4 r10_5 r10_6 r10_7 r10_8 r10_9 r10_10
  refine hK.out _ _ ?_
  clear hK K
  obtain ⟨_, d11_0, d11_1, d11_2, d11_3, d11_4, d11_5⟩ := id D_34
  obtain ⟨_, z12_0, z12_1, z12_2, z12_3, z12_4, z12_5, z12_6, z12_7, z12_8, z12_9, z12_10⟩ := id Z_35
  obtain ⟨_, r13_0, r13_1, r13_2, r13_3, r13_4, r13_5, r13_6, r13_7, r13_8, r13_9, r13_10⟩ := id R_36
  have B38 := ((B37.setCell (p := ⟨u1.heap.size, 2, none⟩) (Nat.le_of_lt (Nat.lt_of_succ_lt zu)) (.int .u32 (si : Int))).setCell (p := ⟨u1.heap.size, 3, none⟩) (Nat.le_of_lt (Nat.lt_of_succ_lt zu)) (.int .i64 sb))
  have D_39 : Box6 ((w4.setCell ⟨u1.heap.size, 2, none⟩ (.int .u32 (si : Int))).setCell ⟨u1.heap.size, 3, none⟩ (.int .i64 sb)) w.heap.size (.int .u8 d.d0) (.int .u8 d.d1) (.int .u8 d.d2) (.int .u8 d.d3) (.int .u8 d.d4) (.int .u8 d.d5) := ⟨by have := D_34.1; simpa using this, by simp [go_sem, d11_0, d11_1, d11_2, d11_3, d11_4, d11_5, z12_0, z12_1, z12_2, z12_3, z12_4, z12_5, z12_6, z12_7, z12_8, z12_9, z12_10, r13_0, r13_1, r13_2, r13_3, r13_4, r13_5, r13_6, r13_7, r13_8, r13_9, r13_10], by simp [go_sem, d11_0, d11_1, d11_2, d11_3, d11_4, d11_5, z12_0, z12_1, z12_2, z12_3, z12_4, z12_5, z12_6, z12_7, z12_8, z12_9, z12_10, r13_0, r13_1, r13_2, r13_3, r13_4, r13_5, r13_6, r13_7, r13_8, r13_9, r13_10], by simp [go_sem, d11_0, d11_1, d11_2, d11_3, d11_4, d11_5, z12_0, z12_1, z12_2, z12_3, z12_4, z12_5, z12_6, z12_7, z12_8, z12_9, z12_10, r13_0, r13_1, r13_2, r13_3, r13_4, r13_5, r13_6, r13_7, r13_8, r13_9, r13_10], by simp [go_sem, d11_0, d11_1, d11_2, d11_3, d11_4, d11_5, z12_0, z12_1, z12_2, z12_3, z12_4, z12_5, z12_6, z12_7, z12_8, z12_9, z12_10, r13_0, r13_1, r13_2, r13_3, r13_4, r13_5, r13_6, r13_7, r13_8, r13_9, r13_10], by simp [go_sem, d11_0, d11_1, d11_2, d11_3, d11_4, d11_5, z12_0, z12_1, z12_2, z12_3, z12_4, z12_5, z12_6, z12_7, z12_8, z12_9, z12_10, r13_0, r13_1, r13_2, r13_3, r13_4, r13_5, r13_6, r13_7, r13_8, r13_9, r13_10], by simp [go_sem, d11_0, d11_1, d11_2, d11_3, d11_4, d11_5, z12_0, z12_1, z12_2, z12_3, z12_4, z12_5, z12_6, z12_7, z12_8, z12_9, z12_10, r13_0, r13_1, r13_2, r13_3, r13_4, r13_5, r13_6, r13_7, r13_8, r13_9, r13_10]⟩
  have Z_40 : Box11 ((w4.setCell ⟨u1.heap.size, 2, none⟩ (.int .u32 (si : Int))).setCell ⟨u1.heap.size, 3, none⟩ (.int .i64 sb)) (w.heap.size + 1) (.int .i64 0) (.int .u8 0) (.int .u32 0) (.int .i64 0) (.int .u32 0) (.int .i64 0) (.int .u32 0) (.int .u16 0) (.int .u16 0) (.int .u32 0) (.int .u16 0) := ⟨by have := Z_35.1; simpa using this, by simp [go_sem, d11_0, d11_1, d11_2, d11_3, d11_4, d11_5, z12_0, z12_1, z12_2, z12_3, z12_4, z12_5, z12_6, z12_7, z12_8, z12_9, z12_10, r13_0, r13_1, r13_2, r13_3, r13_4, r13_5, r13_6, r13_7, r13_8, r13_9, r13_10], by simp [go_sem, d11_0, d11_1, d11_2, d11_3, d11_4, d11_5, z12_0, z12_1, z12_2, z12_3, z12_4, z12_5, z12_6, z12_7, z12_8, z12_9, z12_10, r13_0, r13_1, r13_2, r13_3, r13_4, r13_5, r13_6, r13_7, r13_8, r13_9, r13_10], by simp [go_sem, d11_0, d11_1, d11_2, d11_3, d11_4, d11_5, z12_0, z12_1, z12_2, z12_3, z12_4, z12_5, z12_6, z12_7, z12_8, z12_9, z12_10, r13_0, r13_1, r13_2, r13_3, r13_4, r13_5, r13_6, r13_7, r13_8, r13_9, r13_10], by simp [go_sem, d11_0, d11_1, d11_2, d11_3, d11_4, d11_5, z12_0, z12_1, z12_2, z12_3, z12_4, z12_5, z12_6, z12_7, z12_8, z12_9, z12_10, r13_0, r13_1, r13_2, r13_3, r13_4, r13_5, r13_6, r13_7, r13_8, r13_9, r13_10], by simp [go_sem, d11_0, d11_1, d11_2, d11_3, d11_4, d11_5, z12_0, z12_1, z12_2, z12_3, z12_4, z12_5, z12_6, z12_7, z12_8, z12_9, z12_10, r13_0, r13_1, r13_2, r13_3, r13_4, r13_5, r13_6, r13_7, r13_8, r13_9, r13_10], by simp [go_sem, d11_0, d11_1, d11_2, d11_3, d11_4, d11_5, z12_0, z12_1, z12_2, z12_3, z12_4, z12_5, z12_6, z12_7, z12_8, z12_9, z12_10, r13_0, r13_1, r13_2, r13_3, r13_4, r13_5, r13_6, r13_7, r13_8, r13_9, r13_10], by simp [go_sem, d11_0, d11_1, d11_2, d11_3, d11_4, d11_5, z12_0, z12_1, z12_2, z12_3, z12_4, z12_5, z12_6, z12_7, z12_8, z12_9, z12_10, r13_0, r13_1, r13_2, r13_3, r13_4, r13_5, r13_6, r13_7, r13_8, r13_9, r13_10], by simp [go_sem, d11_0, d11_1, d11_2, d11_3, d11_4, d11_5, z12_0, z12_1, z12_2, z12_3, z12_4, z12_5, z12_6, z12_7, z12_8, z12_9, z12_10, r13_0, r13_1, r13_2, r13_3, r13_4, r13_5, r13_6, r13_7, r13_8, r13_9, r13_10], by simp [go_sem, d11_0, d11_1, d11_2, d11_3, d11_4, d11_5, z12_0, z12_1, z12_2, z12_3, z12_4, z12_5, z12_6, z12_7, z12_8, z12_9, z12_10, r13_0, r13_1, r13_2, r13_3, r13_4, r13_5, r13_6, r13_7, r13_8, r13_9, r13_10], by simp [go_sem, d11_0, d11_1, d11_2, d11_3, d11_4, d11_5, z12_0, z12_1, z12_2, z12_3, z12_4, z12_5, z12_6, z12_7, z12_8, z12_9, z12_10, r13_0, r13_1, r13_2, r13_3, r13_4, r13_5, r13_6, r13_7, r13_8, r13_9, r13_10], by simp [go_sem, d11_0, d11_1, d11_2, d11_3, d11_4, d11_5, z12_0, z12_1, z12_2, z12_3, z12_4, z12_5, z12_6, z12_7, z12_8, z12_9, z12_10, r13_0, r13_1, r13_2, r13_3, r13_4, r13_5, r13_6, r13_7, r13_8, r13_9, r13_10]⟩
  have R_41 : Box11 ((w4.setCell ⟨u1.heap.size, 2, none⟩ (.int .u32 (si : Int))).setCell ⟨u1.heap.size, 3, none⟩ (.int .i64 sb)) u1.heap.size (.int .i64 1) (.int .u8 q) (.int .u32 (si : Int)) (.int .i64 sb) (.int .u32 0) (.int .i64 0) (.int .u32 (151587081 + (x2 : Int))) (.int .u16 (4 + (x3 : Int))) (.int .u16 (4 + (x3 : Int) + (y3 : Int))) (.int .u32 0) (.int .u16 0) := ⟨by have := R_36.1; simpa using this, by simp [go_sem, d11_0, d11_1, d11_2, d11_3, d11_4, d11_5, z12_0, z12_1, z12_2, z12_3, z12_4, z12_5, z12_6, z12_7, z12_8, z12_9, z12_10, r13_0, r13_1, r13_2, r13_3, r13_4, r13_5, r13_6, r13_7, r13_8, r13_9, r13_10], by simp [go_sem, d11_0, d11_1, d11_2, d11_3, d11_4, d11_5, z12_0, z12_1, z12_2, z12_3, z12_4, z12_5, z12_6, z12_7, z12_8, z12_9, z12_10, r13_0, r13_1, r13_2, r13_3, r13_4, r13_5, r13_6, r13_7, r13_8, r13_9, r13_10], by simp [go_sem, d11_0, d11_1, d11_2, d11_3, d11_4, d11_5, z12_0, z12_1, z12_2, z12_3, z12_4, z12_5, z12_6, z12_7, z12_8, z12_9, z12_10, r13_0, r13_1, r13_2, r13_3, r13_4, r13_5, r13_6, r13_7, r13_8, r13_9, r13_10], by simp [go_sem, d11_0, d11_1, d11_2, d11_3, d11_4, d11_5, z12_0, z12_1, z12_2, z12_3, z12_4, z12_5, z12_6, z12_7, z12_8, z12_9, z12_10, r13_0, r13_1, r13_2, r13_3, r13_4, r13_5, r13_6, r13_7, r13_8, r13_9, r13_10], by simp [go_sem, d11_0, d11_1, d11_2, d11_3, d11_4, d11_5, z12_0, z12_1, z12_2, z12_3, z12_4, z12_5, z12_6, z12_7, z12_8, z12_9, z12_10, r13_0, r13_1, r13_2, r13_3, r13_4, r13_5, r13_6, r13_7, r13_8, r13_9, r13_10], by simp [go_sem, d11_0, d11_1, d11_2, d11_3, d11_4, d11_5, z12_0, z12_1, z12_2, z12_3, z12_4, z12_5, z12_6, z12_7, z12_8, z12_9, z12_10, r13_0, r13_1, r13_2, r13_3, r13_4, r13_5, r13_6, r13_7, r13_8, r13_9, r13_10], by simp [go_sem, d11_0, d11_1, d11_2, d11_3, d11_4, d11_5, z12_0, z12_1, z12_2, z12_3, z12_4, z12_5, z12_6, z12_7, z12_8, z12_9, z12_10, r13_0, r13_1, r13_2, r13_3, r13_4, r13_5, r13_6, r13_7, r13_8, r13_9, r13_10], by simp [go_sem, d11_0, d11_1, d11_2, d11_3, d11_4, d11_5, z12_0, z12_1, z12_2, z12_3, z12_4, z12_5, z12_6, z12_7, z12_8, z12_9, z12_10, r13_0, r13_1, r13_2, r13_3, r13_4, r13_5, r13_6, r13_7, r13_8, r13_9, r13_10], by simp [go_sem, d11_0, d11_1, d11_2, d11_3, d11_4, d11_5, z12_0, z12_1, z12_2, z12_3, z12_4, z12_5, z12_6, z12_7, z12_8, z12_9, z12_10, r13_0, r13_1, r13_2, r13_3, r13_4, r13_5, r13_6, r13_7, r13_8, r13_9, r13_10], by simp [go_sem, d11_0, d11_1, d11_2, d11_3, d11_4, d11_5, z12_0, z12_1, z12_2, z12_3, z12_4, z12_5, z12_6, z12_7, z12_8, z12_9, z12_10, r13_0, r13_1, r13_2, r13_3, r13_4, r13_5, r13_6, r13_7, r13_8, r13_9, r13_10], by simp [go_sem, d11_0, d11_1, d11_2, d11_3, d11_4, d11_5, z12_0, z12_1, z12_2, z12_3, z12_4, z12_5, z12_6, z12_7, z12_8, z12_9, z12_10, r13_0, r13_1, r13_2, r13_3, r13_4, r13_5, r13_6, r13_7, r13_8, r13_9, r13_10]⟩
  have fzZ_42 : ∀ i, ((w4.setCell ⟨u1.heap.size, 2, none⟩ (.int .u32 (si : Int))).setCell ⟨u1.heap.size, 3, none⟩ (.int .i64 sb)).frozen? ⟨(w.heap.size + 1), i, none⟩ = false := by intro i; simp [fzZ_32]
  have fzR_43 : ∀ i, ((w4.setCell ⟨u1.heap.size, 2, none⟩ (.int .u32 (si : Int))).setCell ⟨u1.heap.size, 3, none⟩ (.int .i64 sb)).frozen? ⟨u1.heap.size, i, none⟩ = false := by intro i; simp [fzR_33]
  clear d11_0 d11_1 d11_2 d11_3 d11_4 d11_5 z12_0 z12_1 z12_2 z12_3 z12_4 z12_5 z12_6 z12_7 z12_8 z12_9 z12_10 r13_0 r13_1 r13_2 r13_3 r13_4 r13_5 r13_6 r13_7 r13_8 r13_9 r13_10 D_34 Z_35 R_36 fzZ_32 fzR_33 B37
  obtain ⟨u5, hu5⟩ : ∃ x_ : World, x_ = ((w4.setCell ⟨u1.heap.size, 2, none⟩ (.int .u32 (si : Int))).setCell ⟨u1.heap.size, 3, none⟩ (.int .i64 sb)) := ⟨_, rfl⟩
  rw [← hu5] at D_39 Z_40 R_41 fzZ_42 fzR_43 B38 ⊢
  clear hu5
  obtain ⟨_, d14_0, d14_1, d14_2, d14_3, d14_4, d14_5⟩ := id D_39
  obtain ⟨_, r15_0, r15_1, r15_2, r15_3, r15_4, r15_5, r15_6, r15_7, r15_8, r15_9, r15_10⟩ := id R_41
  go_upto_region 8 with fail
  clear d14_0 d14_1 d14_2 d14_3 d14_4 d14_5 r15_0 r15_1 r15_2 r15_3 r15_4 r15_5 r15_6 r15_7 r15_8 r15_9 r15_10
  obtain ⟨_, d16_0, d16_1, d16_2, d16_3, d16_4, d16_5⟩ := id D_39
  obtain ⟨_, z17_0, z17_1, z17_2, z17_3, z17_4, z17_5, z17_6, z17_7, z17_8, z17_9, z17_10⟩ := id Z_40
  obtain ⟨_, r18_0, r18_1, r18_2, r18_3, r18_4, r18_5, r18_6, r18_7, r18_8, r18_9, r18_10⟩ := id R_41
  have B44 := ((B38.setCell (p := ⟨u1.heap.size, 4, none⟩) (Nat.le_of_lt (Nat.lt_of_succ_lt zu)) (.int .u32 (di : Int))).setCell (p := ⟨u1.heap.size, 5, none⟩) (Nat.le_of_lt (Nat.lt_of_succ_lt zu)) (.int .i64 db))
  have D_45 : Box6 ((u5.setCell ⟨u1.heap.size, 4, none⟩ (.int .u32 (di : Int))).setCell ⟨u1.heap.size, 5, none⟩ (.int .i64 db)) w.heap.size (.int .u8 d.d0) (.int .u8 d.d1) (.int .u8 d.d2) (.int .u8 d.d3) (.int .u8 d.d4) (.int .u8 d.d5) := ⟨by have := D_39.1; simpa using this, by simp [go_sem, d16_0, d16_1, d16_2, d16_3, d16_4, d16_5, z17_0, z17_1, z17_2, z17_3, z17_4, z17_5, z17_6, z17_7, z17_8, z17_9, z17_10, r18_0, r18_1, r18_2, r18_3, r18_4, r18_5, r18_6, r18_7, r18_8, r18_9, r18_10], by simp [go_sem, d16_0, d16_1, d16_2, d16_3, d16_4, d16_5, z17_0, z17_1, z17_2, z17_3, z17_4, z17_5, z17_6, z17_7, z17_8, z17_9, z17_10, r18_0, r18_1, r18_2, r18_3, r18_4, r18_5, r18_6, r18_7, r18_8, r18_9, r18_10], by simp [go_sem, d16_0, d16_1, d16_2, d16_3, d16_4, d16_5, z17_0, z17_1, z17_2, z17_3, z17_4, z17_5, z17_6, z17_7, z17_8, z17_9, z17_10, r18_0, r18_1, r18_2, r18_3, r18_4, r18_5, r18_6, r18_7, r18_8, r18_9, r18_10], by simp [go_sem, d16_0, d16_1, d16_2, d16_3, d16_4, d16_5, z17_0, z17_1, z17_2, z17_3, z17_4, z17_5, z17_6, z17_7, z17_8, z17_9, z17_10, r18_0, r18_1, r18_2, r18_3, r18_4, r18_5, r18_6, r18_7, r18_8, r18_9, r18_10], by simp [go_sem, d16_0, d16_1, d16_2, d16_3, d16_4, d16_5, z17_0, z17_1, z17_2, z17_3, z17_4, z17_5, z17_6, z17_7, z17_8, z17_9, z17_10, r18_0, r18_1, r18_2, r18_3, r18_4, r18_5, r18_6, r18_7, r18_8, r18_9, r18_10], by simp [go_sem, d16_0, d16_1, d16_2, d16_3, d16_4, d16_5, z17_0, z17_1, z17_2, z17_3, z17_4, z17_5, z17_6, z17_7, z17_8, z17_9, z17_10, r18_0, r18_1, r18_2, r18_3, r18_4, r18_5, r18_6, r18_7, r18_8, r18_9, r18_10]⟩
  have Z_46 : Box11 ((u5.setCell ⟨u1.heap.size, 4, none⟩ (.int .u32 (di : Int))).setCell ⟨u1.heap.size, 5, none⟩ (.int .i64 db)) (w.heap.size + 1) (.int .i64 0) (.int .u8 0) (.int .u32 0) (.int .i64 0) (.int .u32 0) (.int .i64 0) (.int .u32 0) (.int .u16 0) (.int .u16 0) (.int .u32 0) (.int .u16 0) := ⟨by have := Z_40.1; simpa using this, by simp [go_sem, d16_0, d16_1, d16_2, d16_3, d16_4, d16_5, z17_0, z17_1, z17_2, z17_3, z17_4, z17_5, z17_6, z17_7, z17_8, z17_9, z17_10, r18_0, r18_1, r18_2, r18_3, r18_4, r18_5, r18_6, r18_7, r18_8, r18_9, r18_10], by simp [go_sem, d16_0, d16_1, d16_2, d16_3, d16_4, d16_5, z17_0, z17_1, z17_2, z17_3, z17_4, z17_5, z17_6, z17_7, z17_8, z17_9, z17_10, r18_0, r18_1, r18_2, r18_3, r18_4, r18_5, r18_6, r18_7, r18_8, r18_9, r18_10], by simp [go_sem, d16_0, d16_1, d16_2, d16_3, d16_4, d16_5, z17_0, z17_1, z17_2, z17_3, z17_4, z17_5, z17_6, z17_7, z17_8, z17_9, z17_10, r18_0, r18_1, r18_2, r18_3, r18_4, r18_5, r18_6, r18_7, r18_8, r18_9, r18_10], by simp [go_sem, d16_0, d16_1, d16_2, d16_3, d16_4, d16_5, z17_0, z17_1, z17_2, z17_3, z17_4, z17_5, z17_6, z17_7, z17_8, z17_9, z17_10, r18_0, r18_1, r18_2, r18_3, r18_4, r18_5, r18_6, r18_7, r18_8, r18_9, r18_10], by simp [go_sem, d16_0, d16_1, d16_2, d16_3, d16_4, d16_5, z17_0, z17_1, z17_2, z17_3, z17_4, z17_5, z17_6, z17_7, z17_8, z17_9, z17_10, r18_0, r18_1, r18_2, r18_3, r18_4, r18_5, r18_6, r18_7, r18_8, r18_9, r18_10], by simp [go_sem, d16_0, d16_1, d16_2, d16_3, d16_4, d16_5, z17_0, z17_1, z17_2, z17_3, z17_4, z17_5, z17_6, z17_7, z17_8, z17_9, z17_10, r18_0, r18_1, r18_2, r18_3, r18_4, r18_5, r18_6, r18_7, r18_8, r18_9, r18_10], by simp [go_sem, d16_0, d16_1, d16_2, d16_3, d16_4, d16_5, z17_0, z17_1, z17_2, z17_3, z17_4, z17_5, z17_6, z17_7, z17_8, z17_9, z17_10, r18_0, r18_1, r18_2, r18_3, r18_4, r18_5, r18_6, r18_7, r18_8, r18_9, r18_10], by simp [go_sem, d16_0, d16_1, d16_2, d16_3, d16_4, d16_5, z17_0, z17_1, z17_2, z17_3, z17_4, z17_5, z17_6, z17_7, z17_8, z17_9, z17_10, r18_0, r18_1, r18_2, r18_3, r18_4, r18_5, r18_6, r18_7, r18_8, r18_9, r18_10], by simp [go_sem, d16_0, d16_1, d16_2, d16_3, d16_4, d16_5, z17_0, z17_1, z17_2, z17_3, z17_4, z17_5, z17_6, z17_7, z17_8, z17_9, z17_10, r18_0, r18_1, r18_2, r18_3, r18_4, r18_5, r18_6, r18_7, r18_8, r18_9, r18_10], by simp [go_sem, d16_0, d16_1, d16_2, d16_3, d16_4, d16_5, z17_0, z17_1, z17_2, z17_3, z17_4, z17_5, z17_6, z17_7, z17_8, z17_9, z17_10, r18_0, r18_1, r18_2, r18_3, r18_4, r18_5, r18_6, r18_7, r18_8, r18_9, r18_10], by simp [go_sem, d16_0, d16_1, d16_2, d16_3, d16_4, d16_5, z17_0, z17_1, z17_2, z17_3, z17_4, z17_5, z17_6, z17_7, z17_8, z17_9, z17_10, r18_0, r18_1, r18_2, r18_3, r18_4, r18_5, r18_6, r18_7, r18_8, r18_9, r18_10]⟩
  have R_47 : Box11 ((u5.setCell ⟨u1.heap.size, 4, none⟩ (.int .u32 (di : Int))).setCell ⟨u1.heap.size, 5, none⟩ (.int .i64 db)) u1.heap.size (.int .i64 1) (.int .u8 q) (.int .u32 (si : Int)) (.int .i64 sb) (.int .u32 (di : Int)) (.int .i64 db) (.int .u32 (151587081 + (x2 : Int))) (.int .u16 (4 + (x3 : Int))) (.int .u16 (4 + (x3 : Int) + (y3 : Int))) (.int .u32 0) (.int .u16 0) := ⟨by have := R_41.1; simpa using this, by simp [go_sem, d16_0, d16_1, d16_2, d16_3, d16_4, d16_5, z17_0, z17_1, z17_2, z17_3, z17_4, z17_5, z17_6, z17_7, z17_8, z17_9, z17_10, r18_0, r18_1, r18_2, r18_3, r18_4, r18_5, r18_6, r18_7, r18_8, r18_9, r18_10], by simp [go_sem, d16_0, d16_1, d16_2, d16_3, d16_4, d16_5, z17_0, z17_1, z17_2, z17_3, z17_4, z17_5, z17_6, z17_7, z17_8, z17_9, z17_10, r18_0, r18_1, r18_2, r18_3, r18_4, r18_5, r18_6, r18_7, r18_8, r18_9, r18_10], by simp [go_sem, d16_0, d16_1, d16_2, d16_3, d16_4, d16_5, z17_0, z17_1, z17_2, z17_3, z17_4, z17_5, z17_6, z17_7, z17_8, z17_9, z17_10, r18_0, r18_1, r18_2, r18_3, r18_4, r18_5, r18_6, r18_7, r18_8, r18_9, r18_10], by simp [go_sem, d16_0, d16_1, d16_2, d16_3, d16_4, d16_5, z17_0, z17_1, z17_2, z17_3, z17_4, z17_5, z17_6, z17_7, z17_8, z17_9, z17_10, r18_0, r18_1, r18_2, r18_3, r18_4, r18_5, r18_6, r18_7, r18_8, r18_9, r18_10], by simp [go_sem, d16_0, d16_1, d16_2, d16_3, d16_4, d16_5, z17_0, z17_1, z17_2, z17_3, z17_4, z17_5, z17_6, z17_7, z17_8, z17_9, z17_10, r18_0, r18_1, r18_2, r18_3, r18_4, r18_5, r18_6, r18_7, r18_8, r18_9, r18_10], by simp [go_sem, d16_0, d16_1, d16_2, d16_3, d16_4, d16_5, z17_0, z17_1, z17_2, z17_3, z17_4, z17_5, z17_6, z17_7, z17_8, z17_9, z17_10, r18_0, r18_1, r18_2, r18_3, r18_4, r18_5, r18_6, r18_7, r18_8, r18_9, r18_10], by simp [go_sem, d16_0, d16_1, d16_2, d16_3, d16_4, d16_5, z17_0, z17_1, z17_2, z17_3, z17_4, z17_5, z17_6, z17_7, z17_8, z17_9, z17_10, r18_0, r18_1, r18_2, r18_3, r18_4, r18_5, r18_6, r18_7, r18_8, r18_9, r18_10], by simp [go_sem, d16_0, d16_1, d16_2, d16_3, d16_4, d16_5, z17_0, z17_1, z17_2, z17_3, z17_4, z17_5, z17_6, z17_7, z17_8, z17_9, z17_10, r18_0, r18_1, r18_2, r18_3, r18_4, r18_5, r18_6, r18_7, r18_8, r18_9, r18_10], by simp [go_sem, d16_0, d16_1, d16_2, d16_3, d16_4, d16_5, z17_0, z17_1, z17_2, z17_3, z17_4, z17_5, z17_6, z17_7, z17_8, z17_9, z17_10, r18_0, r18_1, r18_2, r18_3, r18_4, r18_5, r18_6, r18_7, r18_8, r18_9, r18_10], by simp [go_sem, d16_0, d16_1, d16_2, d16_3, d16_4, d16_5, z17_0, z17_1, z17_2, z17_3, z17_4, z17_5, z17_6, z17_7, z17_8, z17_9, z17_10, r18_0, r18_1, r18_2, r18_3, r18_4, r18_5, r18_6, r18_7, r18_8, r18_9, r18_10], by simp [go_sem, d16_0, d16_1, d16_2, d16_3, d16_4, d16_5, z17_0, z17_1, z17_2, z17_3, z17_4, z17_5, z17_6, z17_7, z17_8, z17_9, z17_10, r18_0, r18_1, r18_2, r18_3, r18_4, r18_5, r18_6, r18_7, r18_8, r18_9, r18_10]⟩
  have fzZ_48 : ∀ i, ((u5.setCell ⟨u1.heap.size, 4, none⟩ (.int .u32 (di : Int))).setCell ⟨u1.heap.size, 5, none⟩ (.int .i64 db)).frozen? ⟨(w.heap.size + 1), i, none⟩ = false := by intro i; simp [fzZ_42]
  have fzR_49 : ∀ i, ((u5.setCell ⟨u1.heap.size, 4, none⟩ (.int .u32 (di : Int))).setCell ⟨u1.heap.size, 5, none⟩ (.int .i64 db)).frozen? ⟨u1.heap.size, i, none⟩ = false := by intro i; simp [fzR_43]
  clear d16_0 d16_1 d16_2 d16_3 d16_4 d16_5 z17_0 z17_1 z17_2 z17_3 z17_4 z17_5 z17_6 z17_7 z17_8 z17_9 z17_10 r18_0 r18_1 r18_2 r18_3 r18_4 r18_5 r18_6 r18_7 r18_8 r18_9 r18_10 D_39 Z_40 R_41 fzZ_42 fzR_43 B38
  obtain ⟨u6, hu6⟩ : ∃ x_ : World, x_ = ((u5.setCell ⟨u1.heap.size, 4, none⟩ (.int .u32 (di : Int))).setCell ⟨u1.heap.size, 5, none⟩ (.int .i64 db)) := ⟨_, rfl⟩
  rw [← hu6] at D_45 Z_46 R_47 fzZ_48 fzR_49 B44 ⊢
  clear hu6
  obtain ⟨_, d19_0, d19_1, d19_2, d19_3, d19_4, d19_5⟩ := id D_45
  obtain ⟨_, r20_0, r20_1, r20_2, r20_3, r20_4, r20_5, r20_6, r20_7, r20_8, r20_9, r20_10⟩ := id R_47
  obtain ⟨_, z21_0, z21_1, z21_2, z21_3, z21_4, z21_5, z21_6, z21_7, z21_8, z21_9, z21_10⟩ := id Z_46
  go_wp2
  refine box11_ (b := w.heap.size + 1) Z_46.some B44 (Nat.le_succ _) fun X x0_ x1_ x2_ x3_ x4_ x5_ x6_ x7_ x8_ x9_ x10_ BX _ _ => ?_
  refine bodyPost_ret (v := .agg #[.int .i64 1, .int .u8 q, .int .u32 (si : Int), .int .i64 sb, .int .u32 (di : Int), .int .i64 db, .int .u32 (151587081 + (x2 : Int)), .int .u16 (4 + (x3 : Int)), .int .u16 (4 + (x3 : Int) + (y3 : Int)), .int .u32 0, .int .u16 0]) (by simp [results, Try.results20, go_sem, x0_, x1_, x2_, x3_, x4_, x5_, x6_, x7_, x8_, x9_, x10_]) rfl ?_
  rw [HK.out, HR.out]
  exact ⟨rfl, BX⟩
end Go.Proofs.Ytoogegpkgohffaa
