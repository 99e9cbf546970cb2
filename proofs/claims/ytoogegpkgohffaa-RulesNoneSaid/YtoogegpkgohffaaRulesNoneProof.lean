/- RulesNone: for every input the law returns true and leaves its arguments as they were. Conditions: none. -/
import Derived.Test.YtoogegpkgohffaaRi
import Derived.Test.YtoogegpkgohffaaRk
import Derived.ChangeOld
namespace Go.Proofs.Ytoogegpkgohffaa.RulesNone
open Go.ChangeShapes Go.WideShapes Go.ChangeAt Go.RowKit
open Go.ChangeMaps (open_string shut_string)
set_option linter.unusedVariables false
theorem own : ownKnob Try.prog.godebug = none := by kernel_rfl
theorem laidOut : laidOutB Try.prog = true := by kernel_rfl
set_option maxRecDepth 100000 in
theorem lifted (os : Os) (started : os.Started) (H : Type) (enc : TypeId × Value → H) :
    ReturnsInHanded {} Try.checked os 5 .any (Rows.rulesNoneSpec.pre6 enc Try.prog Try.f5 Rows.rulesNoneRow.domain false) (Rows.rulesNoneSpec.post enc Try.prog Try.f5 false true false false) := by
  refine returnsInHanded_of_change (C := Try.checked) own started (by kernel_rfl) Try.func5
    (ChangeSpec.witness6 (enc := enc) (C := Try.checked) false ⟨#[], #[.agg #[.int .i64 0, .int .u8 0, .int .u32 0, .int .i64 0, .int .u32 0, .int .i64 0, .int .u32 0, .int .u16 0, .int .u16 0, .int .u32 0, .int .u16 0], .int .i64 0, .agg #[.int .u8 0, .int .u32 0, .int .u16 0, .int .u32 0, .int .u16 0]], []⟩ 8 (by kernel_rfl) (by kernel_rfl) (by kernel_rfl) (by kernel_rfl)) ?_
  intro W base args ds gs before hval0 hW hcnd _
  have hval : ∀ (j : Nat) t v, Try.f5.params[j]? = some t → args[j]? = some v → Value.okWide Try.prog W .any base t v := hval0
  have hW' := hW
  obtain ⟨p, q, hA0, hV, rfl, hfz, hnd⟩ := hW
  have hA : DataW.TrodAll enc Try.prog W 0 (fun _ => true) true Try.f5.params.toList args.toList ds p := hA0
  rw [Try.params5] at hA hval
  obtain ⟨v0, vs0, d0, ds0, p0, q0, hargs, rfl, rfl, h0, r0⟩ := trodAll_cons hA
  obtain ⟨v1, vs1, d1, ds1, p1, q1, rfl, rfl, rfl, h1, r1⟩ := trodAll_cons r0
  obtain ⟨v2, vs2, d2, ds2, p2, q2, rfl, rfl, rfl, h2, r2⟩ := trodAll_cons r1
  obtain ⟨rfl, rfl, rfl⟩ := trodAll_nil r2
  obtain rfl : args = #[v0, v1, v2] := by cases args; simp_all
  obtain ⟨rfl, rfl⟩ := trodVars_none hV
  have k0 := h0
  have lt0 : ∀ x ∈ p0, x.block < W.heap.size := by obtain ⟨m, hm⟩ := k0; exact DataW.trod_lt m _ _ _ hm
  obtain ⟨cs0, n0, y0, rfl, hz0, hf0⟩ := nest_open Try.underlying42 (hval 0 42 v0 rfl rfl) h0
  obtain ⟨c0_0, c0_1, c0_2, c0_3, c0_4, c0_5, c0_6, c0_7, c0_8, c0_9, c0_10, rfl⟩ := array11n (hz0.trans (by kernel_rfl))
  obtain ⟨_, _, t0_1⟩ := nest_at Try.underlying42 hf0 0 _ rfl [c0_0] (by kernel_rfl)
  obtain ⟨z0_0, e0_0, -, w0_0⟩ := DataW.trod_int Try.underlying3 t0_1
  have x0_0 : c0_0 = .int .i64 z0_0 := by simpa using e0_0
  obtain ⟨_, _, t0_2⟩ := nest_at Try.underlying42 hf0 1 _ rfl [c0_1] (by kernel_rfl)
  obtain ⟨z0_1, e0_1, -, w0_1⟩ := DataW.trod_int Try.underlying5 t0_2
  have x0_1 : c0_1 = .int .u8 z0_1 := by simpa using e0_1
  obtain ⟨_, _, t0_3⟩ := nest_at Try.underlying42 hf0 2 _ rfl [c0_2, c0_3] (by kernel_rfl)
  obtain ⟨_, _, t0_4⟩ := nest_at Try.underlying31 t0_3 0 _ rfl [c0_2] (by kernel_rfl)
  obtain ⟨z0_2, e0_2, -, w0_2⟩ := DataW.trod_int Try.underlying29 t0_4
  have x0_2 : c0_2 = .int .u32 z0_2 := by simpa using e0_2
  obtain ⟨_, _, t0_5⟩ := nest_at Try.underlying31 t0_3 1 _ rfl [c0_3] (by kernel_rfl)
  obtain ⟨z0_3, e0_3, -, w0_3⟩ := DataW.trod_int Try.underlying3 t0_5
  have x0_3 : c0_3 = .int .i64 z0_3 := by simpa using e0_3
  obtain ⟨_, _, t0_6⟩ := nest_at Try.underlying42 hf0 3 _ rfl [c0_4, c0_5] (by kernel_rfl)
  obtain ⟨_, _, t0_7⟩ := nest_at Try.underlying31 t0_6 0 _ rfl [c0_4] (by kernel_rfl)
  obtain ⟨z0_4, e0_4, -, w0_4⟩ := DataW.trod_int Try.underlying29 t0_7
  have x0_4 : c0_4 = .int .u32 z0_4 := by simpa using e0_4
  obtain ⟨_, _, t0_8⟩ := nest_at Try.underlying31 t0_6 1 _ rfl [c0_5] (by kernel_rfl)
  obtain ⟨z0_5, e0_5, -, w0_5⟩ := DataW.trod_int Try.underlying3 t0_8
  have x0_5 : c0_5 = .int .i64 z0_5 := by simpa using e0_5
  obtain ⟨_, _, t0_9⟩ := nest_at Try.underlying42 hf0 4 _ rfl [c0_6] (by kernel_rfl)
  obtain ⟨z0_6, e0_6, -, w0_6⟩ := DataW.trod_int Try.underlying29 t0_9
  have x0_6 : c0_6 = .int .u32 z0_6 := by simpa using e0_6
  obtain ⟨_, _, t0_10⟩ := nest_at Try.underlying42 hf0 5 _ rfl [c0_7] (by kernel_rfl)
  obtain ⟨z0_7, e0_7, -, w0_7⟩ := DataW.trod_int Try.underlying38 t0_10
  have x0_7 : c0_7 = .int .u16 z0_7 := by simpa using e0_7
  obtain ⟨_, _, t0_11⟩ := nest_at Try.underlying42 hf0 6 _ rfl [c0_8] (by kernel_rfl)
  obtain ⟨z0_8, e0_8, -, w0_8⟩ := DataW.trod_int Try.underlying38 t0_11
  have x0_8 : c0_8 = .int .u16 z0_8 := by simpa using e0_8
  obtain ⟨_, _, t0_12⟩ := nest_at Try.underlying42 hf0 7 _ rfl [c0_9, c0_10] (by kernel_rfl)
  obtain ⟨_, _, t0_13⟩ := nest_at Try.underlying40 t0_12 0 _ rfl [c0_9] (by kernel_rfl)
  obtain ⟨z0_9, e0_9, -, w0_9⟩ := DataW.trod_int Try.underlying29 t0_13
  have x0_9 : c0_9 = .int .u32 z0_9 := by simpa using e0_9
  obtain ⟨_, _, t0_14⟩ := nest_at Try.underlying40 t0_12 1 _ rfl [c0_10] (by kernel_rfl)
  obtain ⟨z0_10, e0_10, -, w0_10⟩ := DataW.trod_int Try.underlying38 t0_14
  have x0_10 : c0_10 = .int .u16 z0_10 := by simpa using e0_10
  subst x0_0 x0_1 x0_2 x0_3 x0_4 x0_5 x0_6 x0_7 x0_8 x0_9 x0_10
  obtain ⟨a1, rfl, rfl, rfl, w1⟩ := open_int Try.underlying3 (hval 1 3 v1 rfl rfl) h1
  have k2 := h2
  have lt2 : ∀ x ∈ p2, x.block < W.heap.size := by obtain ⟨m, hm⟩ := k2; exact DataW.trod_lt m _ _ _ hm
  obtain ⟨cs2, n2, y2, rfl, hz2, hf2⟩ := nest_open Try.underlying57 (hval 2 57 v2 rfl rfl) h2
  obtain ⟨c2_0, c2_1, c2_2, c2_3, c2_4, rfl⟩ := array5n (hz2.trans (by kernel_rfl))
  obtain ⟨_, _, t2_1⟩ := nest_at Try.underlying57 hf2 0 _ rfl [c2_0] (by kernel_rfl)
  obtain ⟨z2_0, e2_0, -, w2_0⟩ := DataW.trod_int Try.underlying5 t2_1
  have x2_0 : c2_0 = .int .u8 z2_0 := by simpa using e2_0
  obtain ⟨_, _, t2_2⟩ := nest_at Try.underlying57 hf2 1 _ rfl [c2_1, c2_2] (by kernel_rfl)
  obtain ⟨_, _, t2_3⟩ := nest_at Try.underlying40 t2_2 0 _ rfl [c2_1] (by kernel_rfl)
  obtain ⟨z2_1, e2_1, -, w2_1⟩ := DataW.trod_int Try.underlying29 t2_3
  have x2_1 : c2_1 = .int .u32 z2_1 := by simpa using e2_1
  obtain ⟨_, _, t2_4⟩ := nest_at Try.underlying40 t2_2 1 _ rfl [c2_2] (by kernel_rfl)
  obtain ⟨z2_2, e2_2, -, w2_2⟩ := DataW.trod_int Try.underlying38 t2_4
  have x2_2 : c2_2 = .int .u16 z2_2 := by simpa using e2_2
  obtain ⟨_, _, t2_5⟩ := nest_at Try.underlying57 hf2 2 _ rfl [c2_3, c2_4] (by kernel_rfl)
  obtain ⟨_, _, t2_6⟩ := nest_at Try.underlying40 t2_5 0 _ rfl [c2_3] (by kernel_rfl)
  obtain ⟨z2_3, e2_3, -, w2_3⟩ := DataW.trod_int Try.underlying29 t2_6
  have x2_3 : c2_3 = .int .u32 z2_3 := by simpa using e2_3
  obtain ⟨_, _, t2_7⟩ := nest_at Try.underlying40 t2_5 1 _ rfl [c2_4] (by kernel_rfl)
  obtain ⟨z2_4, e2_4, -, w2_4⟩ := DataW.trod_int Try.underlying38 t2_7
  have x2_4 : c2_4 = .int .u16 z2_4 := by simpa using e2_4
  subst x2_0 x2_1 x2_2 x2_3 x2_4
  clear hA0 hval0
  refine (walkI z0_0 z0_1 z0_2 z0_3 z0_4 z0_5 z0_6 z0_7 z0_8 z0_9 z0_10 a1 z2_0 z2_1 z2_2 z2_3 z2_4 W w0_0 w0_1 w0_2 w0_3 w0_4 w0_5 w0_6 w0_7 w0_8 w0_9 w0_10 w1 w2_0 w2_1 w2_2 w2_3 w2_4).mono fun e W' ⟨he, bel⟩ => ?_
  subst he
  exact ⟨_, rfl, _, _, _, [], _, [], hW', trodAll_mk1 (shut_bool Try.underlying4 _), (trodAll_cons_mk (Below.trod laidOut (by kernel_rfl) (of_decide_eq_true (by kernel_rfl)) k0 bel lt0) (trodAll_cons_mk (shut_int Try.underlying3 w1) (trodAll_cons_mk (Below.trod laidOut (by kernel_rfl) (of_decide_eq_true (by kernel_rfl)) k2 bel lt2) trodAll_mk0))), rfl, bel.frame _, fun h => by cases h⟩
theorem over : Rows.rulesNoneRow.holds Try.pinned (OpenSpec.ofChange Rows.rulesNoneSpec) :=
  OpenClaim.holds_of_wide 5 Try.f5 rfl rfl rfl rfl rfl rfl rfl ⟨rfl, rfl, rfl, rfl, rfl⟩ rfl rfl rfl rfl rfl (by kernel_rfl) Try.func5 (by kernel_rfl)
    (of_decide_eq_true (by kernel_rfl)) (by unfold Func.isWrapper; first | (rw [if_pos (by decide +kernel)]; kernel_rfl) | (rw [if_neg (by decide +kernel)]; exact ⟨rfl, rfl⟩))
    (fun os started H enc _ => lifted os started H enc)
/-- The statement. -/
theorem proved : Rows.RulesNoneSaid := over
end Go.Proofs.Ytoogegpkgohffaa.RulesNone
