/- RulesNew: for every input the law returns true and leaves its arguments as they were. Conditions: none. -/
import Derived.Test.YtoogegpkgohffaaRm
import Derived.Test.YtoogegpkgohffaaRk
import Derived.ChangeOld
import Derived.Lib.SmallJoins
namespace Go.Proofs.Ytoogegpkgohffaa.RulesNew
open Go.ChangeShapes Go.WideShapes Go.ChangeAt Go.RowKit
open Go.ChangeMaps (open_string shut_string)
set_option linter.unusedVariables false
theorem own : ownKnob Try.prog.godebug = none := by kernel_rfl
theorem laidOut : laidOutB Try.prog = true := by kernel_rfl
set_option maxRecDepth 100000 in
theorem lifted (os : Os) (started : os.Started) (H : Type) (enc : TypeId × Value → H) :
    ReturnsInHanded {} Try.checked os 4 .any (Rows.rulesNewSpec.pre6 enc Try.prog Try.f4 Rows.rulesNewRow.domain false) (Rows.rulesNewSpec.post enc Try.prog Try.f4 false true false false) := by
  refine returnsInHanded_of_change (C := Try.checked) own started (by kernel_rfl) Try.func4
    (ChangeSpec.witness6 (enc := enc) (C := Try.checked) false ⟨#[], #[.int .u32 0, .agg #[.int .u32 0, .int .i64 0], .agg #[.int .i64 0, .int .u8 0, .int .u32 0, .int .i64 0, .int .u32 0, .int .i64 0, .int .u32 0, .int .u16 0, .int .u16 0, .int .u32 0, .int .u16 0]], []⟩ 8 (by kernel_rfl) (by kernel_rfl) (by kernel_rfl) (by kernel_rfl)) ?_
  intro W base args ds gs before hval0 hW hcnd _
  have hval : ∀ (j : Nat) t v, Try.f4.params[j]? = some t → args[j]? = some v → Value.okWide Try.prog W .any base t v := hval0
  have hW' := hW
  obtain ⟨p, q, hA0, hV, rfl, hfz, hnd⟩ := hW
  have hA : DataW.TrodAll enc Try.prog W 0 (fun _ => true) true Try.f4.params.toList args.toList ds p := hA0
  rw [Try.params4] at hA hval
  obtain ⟨v0, vs0, d0, ds0, p0, q0, hargs, rfl, rfl, h0, r0⟩ := trodAll_cons hA
  obtain ⟨v1, vs1, d1, ds1, p1, q1, rfl, rfl, rfl, h1, r1⟩ := trodAll_cons r0
  obtain ⟨v2, vs2, d2, ds2, p2, q2, rfl, rfl, rfl, h2, r2⟩ := trodAll_cons r1
  obtain ⟨rfl, rfl, rfl⟩ := trodAll_nil r2
  obtain rfl : args = #[v0, v1, v2] := by cases args; simp_all
  obtain ⟨rfl, rfl⟩ := trodVars_none hV
  obtain ⟨a0, rfl, rfl, rfl, w0⟩ := open_int Try.underlying29 (hval 0 29 v0 rfl rfl) h0
  have k1 := h1
  have lt1 : ∀ x ∈ p1, x.block < W.heap.size := by obtain ⟨m, hm⟩ := k1; exact DataW.trod_lt m _ _ _ hm
  obtain ⟨c1_0, c1_1, y1_0, y1_1, n1, rfl, -, -, t1_0, t1_1⟩ := Go.Joins.open_agg2 Try.underlying31 (by kernel_rfl) (by kernel_rfl) (hval 1 31 v1 rfl rfl) h1
  obtain ⟨z1_0, e1_0, -, w1_0⟩ := DataW.trod_int Try.underlying29 t1_0
  obtain rfl : c1_0 = .int .u32 z1_0 := by simpa using e1_0
  obtain ⟨z1_1, e1_1, -, w1_1⟩ := DataW.trod_int Try.underlying3 t1_1
  obtain rfl : c1_1 = .int .i64 z1_1 := by simpa using e1_1
  have k2 := h2
  have lt2 : ∀ x ∈ p2, x.block < W.heap.size := by obtain ⟨m, hm⟩ := k2; exact DataW.trod_lt m _ _ _ hm
  obtain ⟨cs2, n2, y2, rfl, hz2, hf2⟩ := nest_open Try.underlying42 (hval 2 42 v2 rfl rfl) h2
  obtain ⟨c2_0, c2_1, c2_2, c2_3, c2_4, c2_5, c2_6, c2_7, c2_8, c2_9, c2_10, rfl⟩ := array11n (hz2.trans (by kernel_rfl))
  obtain ⟨_, _, t2_1⟩ := nest_at Try.underlying42 hf2 0 _ rfl [c2_0] (by kernel_rfl)
  obtain ⟨z2_0, e2_0, -, w2_0⟩ := DataW.trod_int Try.underlying3 t2_1
  have x2_0 : c2_0 = .int .i64 z2_0 := by simpa using e2_0
  obtain ⟨_, _, t2_2⟩ := nest_at Try.underlying42 hf2 1 _ rfl [c2_1] (by kernel_rfl)
  obtain ⟨z2_1, e2_1, -, w2_1⟩ := DataW.trod_int Try.underlying5 t2_2
  have x2_1 : c2_1 = .int .u8 z2_1 := by simpa using e2_1
  obtain ⟨_, _, t2_3⟩ := nest_at Try.underlying42 hf2 2 _ rfl [c2_2, c2_3] (by kernel_rfl)
  obtain ⟨_, _, t2_4⟩ := nest_at Try.underlying31 t2_3 0 _ rfl [c2_2] (by kernel_rfl)
  obtain ⟨z2_2, e2_2, -, w2_2⟩ := DataW.trod_int Try.underlying29 t2_4
  have x2_2 : c2_2 = .int .u32 z2_2 := by simpa using e2_2
  obtain ⟨_, _, t2_5⟩ := nest_at Try.underlying31 t2_3 1 _ rfl [c2_3] (by kernel_rfl)
  obtain ⟨z2_3, e2_3, -, w2_3⟩ := DataW.trod_int Try.underlying3 t2_5
  have x2_3 : c2_3 = .int .i64 z2_3 := by simpa using e2_3
  obtain ⟨_, _, t2_6⟩ := nest_at Try.underlying42 hf2 3 _ rfl [c2_4, c2_5] (by kernel_rfl)
  obtain ⟨_, _, t2_7⟩ := nest_at Try.underlying31 t2_6 0 _ rfl [c2_4] (by kernel_rfl)
  obtain ⟨z2_4, e2_4, -, w2_4⟩ := DataW.trod_int Try.underlying29 t2_7
  have x2_4 : c2_4 = .int .u32 z2_4 := by simpa using e2_4
  obtain ⟨_, _, t2_8⟩ := nest_at Try.underlying31 t2_6 1 _ rfl [c2_5] (by kernel_rfl)
  obtain ⟨z2_5, e2_5, -, w2_5⟩ := DataW.trod_int Try.underlying3 t2_8
  have x2_5 : c2_5 = .int .i64 z2_5 := by simpa using e2_5
  obtain ⟨_, _, t2_9⟩ := nest_at Try.underlying42 hf2 4 _ rfl [c2_6] (by kernel_rfl)
  obtain ⟨z2_6, e2_6, -, w2_6⟩ := DataW.trod_int Try.underlying29 t2_9
  have x2_6 : c2_6 = .int .u32 z2_6 := by simpa using e2_6
  obtain ⟨_, _, t2_10⟩ := nest_at Try.underlying42 hf2 5 _ rfl [c2_7] (by kernel_rfl)
  obtain ⟨z2_7, e2_7, -, w2_7⟩ := DataW.trod_int Try.underlying38 t2_10
  have x2_7 : c2_7 = .int .u16 z2_7 := by simpa using e2_7
  obtain ⟨_, _, t2_11⟩ := nest_at Try.underlying42 hf2 6 _ rfl [c2_8] (by kernel_rfl)
  obtain ⟨z2_8, e2_8, -, w2_8⟩ := DataW.trod_int Try.underlying38 t2_11
  have x2_8 : c2_8 = .int .u16 z2_8 := by simpa using e2_8
  obtain ⟨_, _, t2_12⟩ := nest_at Try.underlying42 hf2 7 _ rfl [c2_9, c2_10] (by kernel_rfl)
  obtain ⟨_, _, t2_13⟩ := nest_at Try.underlying40 t2_12 0 _ rfl [c2_9] (by kernel_rfl)
  obtain ⟨z2_9, e2_9, -, w2_9⟩ := DataW.trod_int Try.underlying29 t2_13
  have x2_9 : c2_9 = .int .u32 z2_9 := by simpa using e2_9
  obtain ⟨_, _, t2_14⟩ := nest_at Try.underlying40 t2_12 1 _ rfl [c2_10] (by kernel_rfl)
  obtain ⟨z2_10, e2_10, -, w2_10⟩ := DataW.trod_int Try.underlying38 t2_14
  have x2_10 : c2_10 = .int .u16 z2_10 := by simpa using e2_10
  subst x2_0 x2_1 x2_2 x2_3 x2_4 x2_5 x2_6 x2_7 x2_8 x2_9 x2_10
  clear hA0 hval0
  refine (walkI a0 z1_0 z1_1 z2_0 z2_1 z2_2 z2_3 z2_4 z2_5 z2_6 z2_7 z2_8 z2_9 z2_10 W w0 w1_0 w1_1 w2_0 w2_1 w2_2 w2_3 w2_4 w2_5 w2_6 w2_7 w2_8 w2_9 w2_10).mono fun e W' ⟨he, bel⟩ => ?_
  subst he
  exact ⟨_, rfl, _, _, _, [], _, [], hW', trodAll_mk1 (shut_bool Try.underlying4 _), (trodAll_cons_mk (shut_int Try.underlying29 w0) (trodAll_cons_mk (Below.trod laidOut (by kernel_rfl) (of_decide_eq_true (by kernel_rfl)) k1 bel lt1) (trodAll_cons_mk (Below.trod laidOut (by kernel_rfl) (of_decide_eq_true (by kernel_rfl)) k2 bel lt2) trodAll_mk0))), rfl, bel.frame _, fun h => by cases h⟩
theorem over : Rows.rulesNewRow.holds Try.pinned (OpenSpec.ofChange Rows.rulesNewSpec) :=
  OpenClaim.holds_of_wide 4 Try.f4 rfl rfl rfl rfl rfl rfl rfl ⟨rfl, rfl, rfl, rfl, rfl⟩ rfl rfl rfl rfl rfl (by kernel_rfl) Try.func4 (by kernel_rfl)
    (of_decide_eq_true (by kernel_rfl)) (by unfold Func.isWrapper; first | (rw [if_pos (by decide +kernel)]; kernel_rfl) | (rw [if_neg (by decide +kernel)]; exact ⟨rfl, rfl⟩))
    (fun os started H enc _ => lifted os started H enc)
/-- The statement. -/
theorem proved : Rows.RulesNewSaid := over
end Go.Proofs.Ytoogegpkgohffaa.RulesNew
