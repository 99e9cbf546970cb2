/- Layer 11: the rule of a draft: a static one. -/
import Derived.Test.YtoogegpkgohffaaSa
import Derived.Test.YtoogegpkgohffaaSb
import Derived.Test.YtoogegpkgohffaaSn
namespace Go.Proofs.Ytoogegpkgohffaa
set_option linter.unusedVariables false
set_option linter.unusedSimpArgs false
open Go.ChangeShapes Go.WideShapes Go.ChangeAt Go.RowKit Go.PlainAid
attribute [local go_sem ↓] Go.wp_at_zero Go.wp_at_succ
set_option maxHeartbeats 4000000 in
set_option maxRecDepth 100000 in
theorem ruleS_ (d : Dr) (w : World) (hd : d.Ok) (hk : d.d0 % 3 = 0) :
    Calls Try.prog 20 #[.agg #[.int .u8 d.d0, .int .u8 d.d1, .int .u8 d.d2, .int .u8 d.d3, .int .u8 d.d4, .int .u8 d.d5]] w fun e w' => e = .returned (.agg #[.int .i64 (ruleD d).k, .int .u8 (ruleD d).pr, .int .u32 ((ruleD d).si : Int), .int .i64 (ruleD d).sb, .int .u32 ((ruleD d).di : Int), .int .i64 (ruleD d).db, .int .u32 ((ruleD d).ex : Int), .int .u16 (ruleD d).fr, .int .u16 (ruleD d).to, .int .u32 ((ruleD d).ii : Int), .int .u16 (ruleD d).ip]) ∧ Below w.heap.size w w' := by
  have HK : Hid (ruleD d = ruleS d) := by show _ = _; unfold ruleD; rw [if_pos hk]
  obtain ⟨q, hq, ix⟩ : ∃ q : Int, drP2 d = q ∧ ∀ u : World, (Instr.index 82 (.agg #[.int .u8 6, .int .u8 17]) (.int .u8 (d.d1 % 2))).run Try.prog u = .ok (.int .u8 q) u := by
    have hf : d.d1 % 2 = 0 ∨ d.d1 % 2 = 1 := by omega
    refine ⟨_, rfl, ?_⟩
    unfold drP2
    rcases hf with e3 | e3 <;> rw [e3] <;> intro u <;> simp [Instr.index, run_underlying Try.underlying82, asIntOf, go_sem]
  have t0 : d.d0.tmod 3 = 0 := by rw [Int.tmod_eq_emod_of_nonneg hd.a0.1]; exact hk
  obtain ⟨x1, h1, _, _, _, t1, _, _, _⟩ := mod_nat d.d1 2 hd.a1 (by omega) (by omega)
  obtain ⟨x2, h2, i2, b2, _, t2, v2, _, u2⟩ := mod_nat d.d2 3 hd.a2 (by omega) (by omega)
  obtain ⟨x3, h3, i3, b3, _, t3, v3, w3, _⟩ := mod_nat d.d3 8 hd.a3 (by omega) (by omega)
  obtain ⟨x4, h4, i4, b4, _, t4, v4, _, u4⟩ := mod_nat d.d4 4 hd.a4 (by omega) (by omega)
  obtain ⟨x5, h5, i5, b5, _, t5, v5, w5, _⟩ := mod_nat d.d5 3 hd.a5 (by omega) (by omega)
  rw [h1] at ix
  have HR : Hid (ruleS d = ⟨3, q, 0, 0, 0, 0, 151587081 + x2, 1 + (x3 : Int), 1 + (x3 : Int), 167772160 + x4, 1 + (x5 : Int)⟩) := by
    show _ = _
    unfold ruleS drX
    rw [hq, i2, h3, i4, h5]
  have k2 : IntKind.u32.wrap (151587081 + (x2 : Int)) = 151587081 + (x2 : Int) := IntWalk.u32_in _ (by omega)
  have k4 : IntKind.u32.wrap (167772160 + (x4 : Int)) = 167772160 + (x4 : Int) := IntWalk.u32_in _ (by omega)
  have k3 : IntKind.u16.wrap (1 + (x3 : Int)) = 1 + (x3 : Int) := IntWalk.u16_in _ (by omega)
  have k5 : IntKind.u16.wrap (1 + (x5 : Int)) = 1 + (x5 : Int) := IntWalk.u16_in _ (by omega)
  have HD := Lib.hid hd
  clear hq h1 h2 h3 h4 h5 i2 i3 i4 i5 hd hk
  go_enter Try.func20, Try.ntmps20
  have B1 := Below.refl w.heap.size w
  go_upto_region 1 with fail
  have D_2 := Box6.make w (.int .u8 d.d0) (.int .u8 d.d1) (.int .u8 d.d2) (.int .u8 d.d3) (.int .u8 d.d4) (.int .u8 d.d5) 37
  have B3 := B1.alloc B1.size (.cells #[.int .u8 d.d0, .int .u8 d.d1, .int .u8 d.d2, .int .u8 d.d3, .int .u8 d.d4, .int .u8 d.d5] 37)
  clear B1
  have D_4 := D_2.past (o := (.cells #[.int .i64 0, .int .u8 0, .int .u32 0, .int .i64 0, .int .u32 0, .int .i64 0, .int .u32 0, .int .u16 0, .int .u16 0, .int .u32 0, .int .u16 0] 42))
  have hs_ : (w.alloc (.cells #[.int .u8 d.d0, .int .u8 d.d1, .int .u8 d.d2, .int .u8 d.d3, .int .u8 d.d4, .int .u8 d.d5] 37)).heap.size = w.heap.size + 1 := by simp
  have Z_5 := Box11.make (w.alloc (.cells #[.int .u8 d.d0, .int .u8 d.d1, .int .u8 d.d2, .int .u8 d.d3, .int .u8 d.d4, .int .u8 d.d5] 37)) (.int .i64 0) (.int .u8 0) (.int .u32 0) (.int .i64 0) (.int .u32 0) (.int .i64 0) (.int .u32 0) (.int .u16 0) (.int .u16 0) (.int .u32 0) (.int .u16 0) 42
  rw [hs_] at Z_5
  clear hs_
  have B6 := B3.alloc B3.size (.cells #[.int .i64 0, .int .u8 0, .int .u32 0, .int .i64 0, .int .u32 0, .int .i64 0, .int .u32 0, .int .u16 0, .int .u16 0, .int .u32 0, .int .u16 0] 42)
  clear D_2 B3
  have fzZ_7 : ∀ i, ((w.alloc (.cells #[.int .u8 d.d0, .int .u8 d.d1, .int .u8 d.d2, .int .u8 d.d3, .int .u8 d.d4, .int .u8 d.d5] 37)).alloc (.cells #[.int .i64 0, .int .u8 0, .int .u32 0, .int .i64 0, .int .u32 0, .int .i64 0, .int .u32 0, .int .u16 0, .int .u16 0, .int .u32 0, .int .u16 0] 42)).frozen? ⟨(w.heap.size + 1), i, none⟩ = false := by intro i; simp [go_sem]
  obtain ⟨u1, hu1⟩ : ∃ x_ : World, x_ = (w.alloc (.cells #[.int .u8 d.d0, .int .u8 d.d1, .int .u8 d.d2, .int .u8 d.d3, .int .u8 d.d4, .int .u8 d.d5] 37)).alloc (.cells #[.int .i64 0, .int .u8 0, .int .u32 0, .int .i64 0, .int .u32 0, .int .i64 0, .int .u32 0, .int .u16 0, .int .u16 0, .int .u32 0, .int .u16 0] 42) := ⟨_, rfl⟩
  rw [← hu1] at D_4 Z_5 fzZ_7 B6 ⊢
  clear hu1
  obtain ⟨_, d1_0, d1_1, d1_2, d1_3, d1_4, d1_5⟩ := id D_4
  obtain ⟨_, z2_0, z2_1, z2_2, z2_3, z2_4, z2_5, z2_6, z2_7, z2_8, z2_9, z2_10⟩ := id Z_5
  have ne1_ : ¬ w.heap.size = w.heap.size + 1 := by omega
  have ne2_ : ¬ w.heap.size + 1 = w.heap.size := by omega
  go_upto_region 3 with fail
  go_region
  go_wp2
  refine box11_ (M := fun X => bodyPost Try.prog Try.f20 _ Exit.ret _ X.drew) (b := w.heap.size + 1) Z_5.some B6 (Nat.le_succ _) fun X x0_ x1_ x2_ x3_ x4_ x5_ x6_ x7_ x8_ x9_ x10_ BX _ _ => ?_
  refine bodyPost_ret (v := .agg #[.int .i64 3, .int .u8 q, .int .u32 0, .int .i64 0, .int .u32 0, .int .i64 0, .int .u32 (151587081 + (x2 : Int)), .int .u16 (1 + (x3 : Int)), .int .u16 (1 + (x3 : Int)), .int .u32 (167772160 + (x4 : Int)), .int .u16 (1 + (x5 : Int))]) (by simp [results, Try.results20, go_sem, x0_, x1_, x2_, x3_, x4_, x5_, x6_, x7_, x8_, x9_, x10_]) rfl ?_
  rw [HK.out, HR.out]
  exact ⟨rfl, BX.drew⟩
end Go.Proofs.Ytoogegpkgohffaa
