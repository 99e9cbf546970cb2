/- Layer 11: drafts of the laws: the rule and the flow of a draft; outer. -/
import Derived.Test.YtoogegpkgohffaaSa
import Derived.Test.YtoogegpkgohffaaSb
import Derived.Test.YtoogegpkgohffaaTc
import Derived.BigRegion
namespace Go.Proofs.Ytoogegpkgohffaa
set_option linter.unusedVariables false
set_option linter.unusedSimpArgs false
open Go.ChangeShapes Go.WideShapes Go.ChangeAt Go.RowKit Go.PlainAid
attribute [local go_sem ↓] Go.wp_at_zero Go.wp_at_succ
/-- A box of 6 cells. -/
def Box6 (w : World) (b : Nat) (v0 v1 v2 v3 v4 v5 : Value) : Prop :=
  b < w.heap.size ∧ w.cell? ⟨b, 0, none⟩ = some v0 ∧ w.cell? ⟨b, 1, none⟩ = some v1 ∧ w.cell? ⟨b, 2, none⟩ = some v2 ∧ w.cell? ⟨b, 3, none⟩ = some v3 ∧ w.cell? ⟨b, 4, none⟩ = some v4 ∧ w.cell? ⟨b, 5, none⟩ = some v5
theorem Box6.on {w w' : World} {b : Nat} {v0 v1 v2 v3 v4 v5 : Value} (h : Box6 w b v0 v1 v2 v3 v4 v5) (hb : Below w.heap.size w w') : Box6 w' b v0 v1 v2 v3 v4 v5 := by
  obtain ⟨h, h0, h1, h2, h3, h4, h5⟩ := h
  exact ⟨Nat.lt_of_lt_of_le h hb.size, (hb.cell (p := ⟨b, 0, none⟩) h).trans h0, (hb.cell (p := ⟨b, 1, none⟩) h).trans h1, (hb.cell (p := ⟨b, 2, none⟩) h).trans h2, (hb.cell (p := ⟨b, 3, none⟩) h).trans h3, (hb.cell (p := ⟨b, 4, none⟩) h).trans h4, (hb.cell (p := ⟨b, 5, none⟩) h).trans h5⟩
theorem Box6.make (w : World) (v0 v1 v2 v3 v4 v5 : Value) (t : TypeId) : Box6 (w.alloc (.cells #[v0, v1, v2, v3, v4, v5] t)) w.heap.size v0 v1 v2 v3 v4 v5 :=
  ⟨by simp, by simp [go_sem], by simp [go_sem], by simp [go_sem], by simp [go_sem], by simp [go_sem], by simp [go_sem]⟩
theorem Box6.past {w : World} {o : Obj} {b : Nat} {v0 v1 v2 v3 v4 v5 : Value} (h : Box6 w b v0 v1 v2 v3 v4 v5) : Box6 (w.alloc o) b v0 v1 v2 v3 v4 v5 := h.on ((Below.refl _ _).alloc (Nat.le_refl _) _)
theorem Box6.far {W X : World} {a b : Nat} {v0 v1 v2 v3 v4 v5 : Value} (h : Box6 W a v0 v1 v2 v3 v4 v5) (hf : ∀ p : Addr, ¬ b = p.block → X.cell? p = W.cell? p) (hn : ¬ b = a) : Box6 X a v0 v1 v2 v3 v4 v5 := by
  obtain ⟨h, h0, h1, h2, h3, h4, h5⟩ := h
  have k0 := (hf ⟨a, 0, none⟩ hn).trans h0
  exact ⟨World.block_lt_of_cell? _ _ k0, k0, (hf ⟨a, 1, none⟩ hn).trans h1, (hf ⟨a, 2, none⟩ hn).trans h2, (hf ⟨a, 3, none⟩ hn).trans h3, (hf ⟨a, 4, none⟩ hn).trans h4, (hf ⟨a, 5, none⟩ hn).trans h5⟩
theorem Box6.some {W : World} {a : Nat} {v0 v1 v2 v3 v4 v5 : Value} (h : Box6 W a v0 v1 v2 v3 v4 v5) : ∀ j, j < 6 → (W.cell? ⟨a, j, none⟩).isSome = true := by
  obtain ⟨h, h0, h1, h2, h3, h4, h5⟩ := h
  intro j hj
  match j, hj with
  | 0, _ => rw [h0]; rfl
  | 1, _ => rw [h1]; rfl
  | 2, _ => rw [h2]; rfl
  | 3, _ => rw [h3]; rfl
  | 4, _ => rw [h4]; rfl
  | 5, _ => rw [h5]; rfl

set_option maxHeartbeats 4000000 in
set_option maxRecDepth 100000 in
theorem flow_ (d : Dr) (w : World) (hd : d.Ok) :
    Calls Try.prog 32 #[.agg #[.int .u8 d.d0, .int .u8 d.d1, .int .u8 d.d2, .int .u8 d.d3, .int .u8 d.d4, .int .u8 d.d5]] w fun e w' => e = .returned (.agg #[.int .u8 (flP d), .int .u32 (flA d : Int), .int .u16 (flM d), .int .u32 (flB d : Int), .int .u16 (flN d)]) ∧ Below w.heap.size w w' := by
  have HV : ∃ q : Int, flP d = q ∧ ∀ u : World, (Instr.index 88 (.agg #[.int .u8 1, .int .u8 6, .int .u8 17]) (.int .u8 (d.d1 % 3))).run Try.prog u = .ok (.int .u8 q) u := by
    have := hd.a1
    have hf : d.d1 % 3 = 0 ∨ d.d1 % 3 = 1 ∨ d.d1 % 3 = 2 := by omega
    refine ⟨_, rfl, ?_⟩
    unfold flP
    rcases hf with e3 | e3 | e3 <;> rw [e3] <;> intro u <;> simp [Instr.index, run_underlying Try.underlying88, asIntOf, go_sem]
  obtain ⟨q, hq, ix⟩ := HV
  obtain ⟨x1, h1, _, _, _, t1, _, _, _⟩ := mod_nat d.d1 3 hd.a1 (by omega) (by omega)
  obtain ⟨x2, h2, i2, b2, _, t2, v2, _, u2⟩ := mod_nat d.d2 3 hd.a2 (by omega) (by omega)
  obtain ⟨x3, h3, i3, b3, _, t3, v3, w3, _⟩ := mod_nat d.d3 8 hd.a3 (by omega) (by omega)
  obtain ⟨x4, h4, i4, b4, _, t4, v4, _, u4⟩ := mod_nat d.d4 4 hd.a4 (by omega) (by omega)
  obtain ⟨x5, h5, i5, b5, _, t5, v5, w5, _⟩ := mod_nat d.d5 3 hd.a5 (by omega) (by omega)
  rw [h1] at ix
  have HA : Hid (flA d = 167772160 + x4) := by show _ = _; unfold flA; rw [i4]
  have HB : Hid (flB d = 16909060 + x2) := by show _ = _; unfold flB; rw [i2]
  have HM : Hid (flM d = 1 + (x5 : Int)) := by show _ = _; unfold flM; rw [h5]
  have HN : Hid (flN d = 1 + (x3 : Int)) := by show _ = _; unfold flN; rw [h3]
  have k2 : IntKind.u32.wrap (16909060 + (x2 : Int)) = 16909060 + (x2 : Int) := IntWalk.u32_in _ (by omega)
  have k4 : IntKind.u32.wrap (167772160 + (x4 : Int)) = 167772160 + (x4 : Int) := IntWalk.u32_in _ (by omega)
  have k3 : IntKind.u16.wrap (1 + (x3 : Int)) = 1 + (x3 : Int) := IntWalk.u16_in _ (by omega)
  have k5 : IntKind.u16.wrap (1 + (x5 : Int)) = 1 + (x5 : Int) := IntWalk.u16_in _ (by omega)
  have HQ := Lib.hid hq
  clear hq h1 h2 h3 h4 h5 i2 i3 i4 i5
  have HD := Lib.hid hd
  clear hd
  go_enter Try.func32, Try.ntmps32
  have B1 := Below.refl w.heap.size w
  go_upto_region 1 with fail
  have D_2 := Box6.make w (.int .u8 d.d0) (.int .u8 d.d1) (.int .u8 d.d2) (.int .u8 d.d3) (.int .u8 d.d4) (.int .u8 d.d5) 37
  have B3 := B1.alloc B1.size (.cells #[.int .u8 d.d0, .int .u8 d.d1, .int .u8 d.d2, .int .u8 d.d3, .int .u8 d.d4, .int .u8 d.d5] 37)
  clear B1
  have D_4 := D_2.past (o := (.cells #[.int .u8 0, .int .u32 0, .int .u16 0, .int .u32 0, .int .u16 0] 57))
  have hs_ : (w.alloc (.cells #[.int .u8 d.d0, .int .u8 d.d1, .int .u8 d.d2, .int .u8 d.d3, .int .u8 d.d4, .int .u8 d.d5] 37)).heap.size = w.heap.size + 1 := by simp
  have Z_5 := Box5.make (w.alloc (.cells #[.int .u8 d.d0, .int .u8 d.d1, .int .u8 d.d2, .int .u8 d.d3, .int .u8 d.d4, .int .u8 d.d5] 37)) (.int .u8 0) (.int .u32 0) (.int .u16 0) (.int .u32 0) (.int .u16 0) 57
  rw [hs_] at Z_5
  clear hs_
  have B6 := B3.alloc B3.size (.cells #[.int .u8 0, .int .u32 0, .int .u16 0, .int .u32 0, .int .u16 0] 57)
  clear D_2 B3
  have fzZ_7 : ∀ i, ((w.alloc (.cells #[.int .u8 d.d0, .int .u8 d.d1, .int .u8 d.d2, .int .u8 d.d3, .int .u8 d.d4, .int .u8 d.d5] 37)).alloc (.cells #[.int .u8 0, .int .u32 0, .int .u16 0, .int .u32 0, .int .u16 0] 57)).frozen? ⟨(w.heap.size + 1), i, none⟩ = false := by intro i; simp [go_sem]
  obtain ⟨u1, hu1⟩ : ∃ x_ : World, x_ = (w.alloc (.cells #[.int .u8 d.d0, .int .u8 d.d1, .int .u8 d.d2, .int .u8 d.d3, .int .u8 d.d4, .int .u8 d.d5] 37)).alloc (.cells #[.int .u8 0, .int .u32 0, .int .u16 0, .int .u32 0, .int .u16 0] 57) := ⟨_, rfl⟩
  rw [← hu1] at D_4 Z_5 fzZ_7 B6 ⊢
  clear hu1
  obtain ⟨_, d1_0, d1_1, d1_2, d1_3, d1_4, d1_5⟩ := id D_4
  obtain ⟨_, z2_0, z2_1, z2_2, z2_3, z2_4⟩ := id Z_5
  have ne1_ : ¬ w.heap.size = w.heap.size + 1 := by omega
  have ne2_ : ¬ w.heap.size + 1 = w.heap.size := by omega
  go_region
  go_wp2
  refine box5_ (M := fun X => bodyPost Try.prog Try.f32 _ Exit.ret _ X.drew) (b := w.heap.size + 1) Z_5.some B6 (Nat.le_succ _) fun X x0_ x1_ x2_ x3_ x4_ BX _ _ => ?_
  refine bodyPost_ret (v := .agg #[.int .u8 q, .int .u32 (167772160 + (x4 : Int)), .int .u16 (1 + (x5 : Int)), .int .u32 (16909060 + (x2 : Int)), .int .u16 (1 + (x3 : Int))]) (by simp [results, Try.results32, go_sem, x0_, x1_, x2_, x3_, x4_]) rfl ?_
  rw [HQ.out, HA.out, HB.out, HM.out, HN.out]
  exact ⟨rfl, BX.drew⟩
end Go.Proofs.Ytoogegpkgohffaa
