/- HashesUnlike: for every input the law returns true and leaves its arguments as they were. Conditions: none. -/
import Derived.Test.YtijippfcobgidaaHashesUnlike
import Derived.ChangeOld
import Derived.Test.YtijippfcobgidaaOpenNest
namespace Go.Proofs.Ytijippfcobgidaa.HashesUnlike
open Go.ChangeShapes Go.WideShapes Go.ChangeAt Go.RowKit
open Go.ChangeMaps (open_string shut_string)
set_option linter.unusedVariables false
theorem own : ownKnob Try.prog.godebug = none := by kernel_rfl
theorem laidOut : laidOutB Try.prog = true := by kernel_rfl
set_option maxRecDepth 100000 in
theorem lifted (os : Os) (started : os.Started) (H : Type) (enc : TypeId × Value → H) :
    ReturnsInHanded {} Try.checked os 4 .any (Rows.hashesUnlikeSpec.pre6 enc Try.prog Try.f4 Rows.hashesUnlikeRow.domain false) (Rows.hashesUnlikeSpec.post enc Try.prog Try.f4 false true false false) := by
  refine returnsInHanded_of_change (C := Try.checked) own started (by kernel_rfl) Try.func4
    (ChangeSpec.witness6 (enc := enc) (C := Try.checked) false ⟨#[], #[.agg #[.int .u8 0, .int .u32 0, .int .u16 0, .int .u32 0, .int .u16 0], .int .u8 0, .int .u8 0], []⟩ 8 (by kernel_rfl) (by kernel_rfl) (by kernel_rfl) (by kernel_rfl)) ?_
  intro W base args ds gs before hval0 hW hcnd _
  have hval : ∀ (j : Nat) t v, Try.f4.params[j]? = some t → args[j]? = some v → Value.okWide Try.prog W .any base t v := hval0
  have hW' := hW
  obtain ⟨p, q, hA0, hV, rfl, hfz, hnd⟩ := hW
  have hA : DataW.TrodAll enc Try.prog W 0 (fun _ => true) true Try.f4.params.toList args.toList ds p := hA0
  rw [Try.params4] at hA hval
  obtain ⟨v0, vs0, d0, ds0, p0, q0, hargs, rfl, rfl, h0, r0⟩ := trodAll_cons hA
  obtain ⟨v1, vs1, d1, ds1, p1, q1, rfl, rfl, rfl, h1, r1⟩ := trodAll_cons r0
  obtain ⟨v2, vs2, d2, ds2, p2, q2, rfl, rfl, rfl, h2, r2⟩ := trodAll_cons r1
  obtain ⟨rfl, rfl, rfl⟩ := trodAll_nil r2
  obtain rfl : args = #[v0, v1, v2] := by cases args; simp_all
  obtain ⟨rfl, rfl⟩ := trodVars_none hV
  have k0 := h0
  have lt0 : ∀ x ∈ p0, x.block < W.heap.size := by obtain ⟨m, hm⟩ := k0; exact DataW.trod_lt m _ _ _ hm
  obtain ⟨cs0, n0, y0, rfl, hz0, hf0⟩ := nest_open Try.underlying28 (hval 0 28 v0 rfl rfl) h0
  obtain ⟨c0_0, c0_1, c0_2, c0_3, c0_4, rfl⟩ := array5n (hz0.trans (by kernel_rfl))
  obtain ⟨_, _, t0_1⟩ := nest_at Try.underlying28 hf0 0 _ rfl [c0_0] (by kernel_rfl)
  obtain ⟨z0_0, e0_0, -, w0_0⟩ := DataW.trod_int Try.underlying5 t0_1
  have x0_0 : c0_0 = .int .u8 z0_0 := by simpa using e0_0
  obtain ⟨_, _, t0_2⟩ := nest_at Try.underlying28 hf0 1 _ rfl [c0_1, c0_2] (by kernel_rfl)
  obtain ⟨_, _, t0_3⟩ := nest_at Try.underlying26 t0_2 0 _ rfl [c0_1] (by kernel_rfl)
  obtain ⟨z0_1, e0_1, -, w0_1⟩ := DataW.trod_int Try.underlying23 t0_3
  have x0_1 : c0_1 = .int .u32 z0_1 := by simpa using e0_1
  obtain ⟨_, _, t0_4⟩ := nest_at Try.underlying26 t0_2 1 _ rfl [c0_2] (by kernel_rfl)
  obtain ⟨z0_2, e0_2, -, w0_2⟩ := DataW.trod_int Try.underlying24 t0_4
  have x0_2 : c0_2 = .int .u16 z0_2 := by simpa using e0_2
  obtain ⟨_, _, t0_5⟩ := nest_at Try.underlying28 hf0 2 _ rfl [c0_3, c0_4] (by kernel_rfl)
  obtain ⟨_, _, t0_6⟩ := nest_at Try.underlying26 t0_5 0 _ rfl [c0_3] (by kernel_rfl)
  obtain ⟨z0_3, e0_3, -, w0_3⟩ := DataW.trod_int Try.underlying23 t0_6
  have x0_3 : c0_3 = .int .u32 z0_3 := by simpa using e0_3
  obtain ⟨_, _, t0_7⟩ := nest_at Try.underlying26 t0_5 1 _ rfl [c0_4] (by kernel_rfl)
  obtain ⟨z0_4, e0_4, -, w0_4⟩ := DataW.trod_int Try.underlying24 t0_7
  have x0_4 : c0_4 = .int .u16 z0_4 := by simpa using e0_4
  subst x0_0 x0_1 x0_2 x0_3 x0_4
  obtain ⟨a1, rfl, rfl, rfl, w1⟩ := open_int Try.underlying5 (hval 1 5 v1 rfl rfl) h1
  obtain ⟨a2, rfl, rfl, rfl, w2⟩ := open_int Try.underlying5 (hval 2 5 v2 rfl rfl) h2
  clear hA0 hval0
  refine (walk z0_0 z0_1 z0_2 z0_3 z0_4 a1 a2 W w0_0 w0_1 w0_2 w0_3 w0_4 w1 w2).mono fun e W' ⟨he, bel⟩ => ?_
  subst he
  exact ⟨_, rfl, _, _, _, [], _, [], hW', trodAll_mk1 (shut_bool Try.underlying4 _), (trodAll_cons_mk (Below.trod laidOut (by kernel_rfl) (of_decide_eq_true (by kernel_rfl)) k0 bel lt0) (trodAll_cons_mk (shut_int Try.underlying5 w1) (trodAll_cons_mk (shut_int Try.underlying5 w2) trodAll_mk0))), rfl, bel.frame _, fun h => by cases h⟩
theorem over : Rows.hashesUnlikeRow.holds Try.pinned (OpenSpec.ofChange Rows.hashesUnlikeSpec) :=
  OpenClaim.holds_of_wide 4 Try.f4 rfl rfl rfl rfl rfl rfl rfl ⟨rfl, rfl, rfl, rfl, rfl⟩ rfl rfl rfl rfl rfl (by kernel_rfl) Try.func4 (by kernel_rfl)
    (of_decide_eq_true (by kernel_rfl)) (by unfold Func.isWrapper; first | (rw [if_pos (by decide +kernel)]; kernel_rfl) | (rw [if_neg (by decide +kernel)]; exact ⟨rfl, rfl⟩))
    (fun os started H enc _ => lifted os started H enc)
/-- The statement. -/
theorem proved : Rows.HashesUnlikeSaid := over
end Go.Proofs.Ytijippfcobgidaa.HashesUnlike
