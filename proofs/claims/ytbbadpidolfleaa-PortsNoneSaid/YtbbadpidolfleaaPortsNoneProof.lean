/- PortsNone: for every input the law returns true and leaves its arguments as they were. Conditions: none. -/
import Derived.Test.YtbbadpidolfleaaPortsNone
import Derived.Test.YtbbadpidolfleaaOpenNest
import Derived.Test.YtbbadpidolfleaaPoZ
import Derived.ChangeOld
namespace Go.Proofs.Ytbbadpidolfleaa.PortsNone
open Go.ChangeShapes Go.WideShapes Go.ChangeAt Go.RowKit
open Go.ChangeMaps (open_string shut_string)
set_option linter.unusedVariables false
theorem own : ownKnob Try.prog.godebug = none := by kernel_rfl
theorem laidOut : laidOutB Try.prog = true := by kernel_rfl
set_option maxRecDepth 100000 in
theorem lifted (os : Os) (started : os.Started) (H : Type) (enc : TypeId × Value → H) :
    ReturnsInHanded {} Try.checked os 5 .any (Rows.portsNoneSpec.pre6 enc Try.prog Try.f5 Rows.portsNoneRow.domain false) (Rows.portsNoneSpec.post enc Try.prog Try.f5 false true false false) := by
  refine returnsInHanded_of_change (C := Try.checked) own started (by kernel_rfl) Try.func5
    (ChangeSpec.witness6 (enc := enc) (C := Try.checked) false ⟨#[], #[.agg #[.int .u8 0, .int .u8 0, .int .u8 0, .int .u8 0, .int .u8 0, .int .u8 0, .int .u32 0, .int .u16 0, .int .u32 0, .int .u16 0, .int .u16 0, .int .u16 0, .int .u32 0, .int .u16 0]], []⟩ 8 (by kernel_rfl) (by kernel_rfl) (by kernel_rfl) (by kernel_rfl)) ?_
  intro W base args ds gs before hval0 hW hcnd _
  have hval : ∀ (j : Nat) t v, Try.f5.params[j]? = some t → args[j]? = some v → Value.okWide Try.prog W .any base t v := hval0
  have hW' := hW
  obtain ⟨p, q, hA0, hV, rfl, hfz, hnd⟩ := hW
  have hA : DataW.TrodAll enc Try.prog W 0 (fun _ => true) true Try.f5.params.toList args.toList ds p := hA0
  rw [Try.params5] at hA hval
  obtain ⟨v0, vs0, d0, ds0, p0, q0, hargs, rfl, rfl, h0, r0⟩ := trodAll_cons hA
  obtain ⟨rfl, rfl, rfl⟩ := trodAll_nil r0
  obtain rfl : args = #[v0] := by cases args; simp_all
  obtain ⟨rfl, rfl⟩ := trodVars_none hV
  have k0 := h0
  have lt0 : ∀ x ∈ p0, x.block < W.heap.size := by obtain ⟨m, hm⟩ := k0; exact DataW.trod_lt m _ _ _ hm
  obtain ⟨cs0, n0, y0, rfl, hz0, hf0⟩ := nest_open Try.underlying38 (hval 0 38 v0 rfl rfl) h0
  obtain ⟨c0_0, c0_1, c0_2, c0_3, c0_4, c0_5, c0_6, c0_7, c0_8, c0_9, c0_10, c0_11, c0_12, c0_13, rfl⟩ := array14n (hz0.trans (by kernel_rfl))
  obtain ⟨_, _, t0_1⟩ := nest_at Try.underlying38 hf0 0 _ rfl [c0_0] (by kernel_rfl)
  obtain ⟨z0_0, e0_0, -, w0_0⟩ := DataW.trod_int Try.underlying5 t0_1
  have x0_0 : c0_0 = .int .u8 z0_0 := by simpa using e0_0
  obtain ⟨_, _, t0_2⟩ := nest_at Try.underlying38 hf0 1 _ rfl [c0_1] (by kernel_rfl)
  obtain ⟨z0_1, e0_1, -, w0_1⟩ := DataW.trod_int Try.underlying5 t0_2
  have x0_1 : c0_1 = .int .u8 z0_1 := by simpa using e0_1
  obtain ⟨_, _, t0_3⟩ := nest_at Try.underlying38 hf0 2 _ rfl [c0_2] (by kernel_rfl)
  obtain ⟨z0_2, e0_2, -, w0_2⟩ := DataW.trod_int Try.underlying5 t0_3
  have x0_2 : c0_2 = .int .u8 z0_2 := by simpa using e0_2
  obtain ⟨_, _, t0_4⟩ := nest_at Try.underlying38 hf0 3 _ rfl [c0_3] (by kernel_rfl)
  obtain ⟨z0_3, e0_3, -, w0_3⟩ := DataW.trod_int Try.underlying5 t0_4
  have x0_3 : c0_3 = .int .u8 z0_3 := by simpa using e0_3
  obtain ⟨_, _, t0_5⟩ := nest_at Try.underlying38 hf0 4 _ rfl [c0_4] (by kernel_rfl)
  obtain ⟨z0_4, e0_4, -, w0_4⟩ := DataW.trod_int Try.underlying5 t0_5
  have x0_4 : c0_4 = .int .u8 z0_4 := by simpa using e0_4
  obtain ⟨_, _, t0_6⟩ := nest_at Try.underlying38 hf0 5 _ rfl [c0_5, c0_6, c0_7, c0_8, c0_9, c0_10, c0_11] (by kernel_rfl)
  obtain ⟨_, _, t0_7⟩ := nest_at Try.underlying36 t0_6 0 _ rfl [c0_5] (by kernel_rfl)
  obtain ⟨z0_5, e0_5, -, w0_5⟩ := DataW.trod_int Try.underlying5 t0_7
  have x0_5 : c0_5 = .int .u8 z0_5 := by simpa using e0_5
  obtain ⟨_, _, t0_8⟩ := nest_at Try.underlying36 t0_6 1 _ rfl [c0_6, c0_7] (by kernel_rfl)
  obtain ⟨_, _, t0_9⟩ := nest_at Try.underlying34 t0_8 0 _ rfl [c0_6] (by kernel_rfl)
  obtain ⟨z0_6, e0_6, -, w0_6⟩ := DataW.trod_int Try.underlying31 t0_9
  have x0_6 : c0_6 = .int .u32 z0_6 := by simpa using e0_6
  obtain ⟨_, _, t0_10⟩ := nest_at Try.underlying34 t0_8 1 _ rfl [c0_7] (by kernel_rfl)
  obtain ⟨z0_7, e0_7, -, w0_7⟩ := DataW.trod_int Try.underlying32 t0_10
  have x0_7 : c0_7 = .int .u16 z0_7 := by simpa using e0_7
  obtain ⟨_, _, t0_11⟩ := nest_at Try.underlying36 t0_6 2 _ rfl [c0_8] (by kernel_rfl)
  obtain ⟨z0_8, e0_8, -, w0_8⟩ := DataW.trod_int Try.underlying31 t0_11
  have x0_8 : c0_8 = .int .u32 z0_8 := by simpa using e0_8
  obtain ⟨_, _, t0_12⟩ := nest_at Try.underlying36 t0_6 3 _ rfl [c0_9] (by kernel_rfl)
  obtain ⟨z0_9, e0_9, -, w0_9⟩ := DataW.trod_int Try.underlying32 t0_12
  have x0_9 : c0_9 = .int .u16 z0_9 := by simpa using e0_9
  obtain ⟨_, _, t0_13⟩ := nest_at Try.underlying36 t0_6 4 _ rfl [c0_10] (by kernel_rfl)
  obtain ⟨z0_10, e0_10, -, w0_10⟩ := DataW.trod_int Try.underlying32 t0_13
  have x0_10 : c0_10 = .int .u16 z0_10 := by simpa using e0_10
  obtain ⟨_, _, t0_14⟩ := nest_at Try.underlying36 t0_6 5 _ rfl [c0_11] (by kernel_rfl)
  obtain ⟨z0_11, e0_11, -, w0_11⟩ := DataW.trod_int Try.underlying32 t0_14
  have x0_11 : c0_11 = .int .u16 z0_11 := by simpa using e0_11
  obtain ⟨_, _, t0_15⟩ := nest_at Try.underlying38 hf0 6 _ rfl [c0_12, c0_13] (by kernel_rfl)
  obtain ⟨_, _, t0_16⟩ := nest_at Try.underlying34 t0_15 0 _ rfl [c0_12] (by kernel_rfl)
  obtain ⟨z0_12, e0_12, -, w0_12⟩ := DataW.trod_int Try.underlying31 t0_16
  have x0_12 : c0_12 = .int .u32 z0_12 := by simpa using e0_12
  obtain ⟨_, _, t0_17⟩ := nest_at Try.underlying34 t0_15 1 _ rfl [c0_13] (by kernel_rfl)
  obtain ⟨z0_13, e0_13, -, w0_13⟩ := DataW.trod_int Try.underlying32 t0_17
  have x0_13 : c0_13 = .int .u16 z0_13 := by simpa using e0_13
  subst x0_0 x0_1 x0_2 x0_3 x0_4 x0_5 x0_6 x0_7 x0_8 x0_9 x0_10 x0_11 x0_12 x0_13
  clear hA0 hval0
  refine (walk_ portsOk pzNone z0_0 z0_1 z0_2 z0_3 z0_4 z0_5 z0_6 z0_7 z0_8 z0_9 z0_10 z0_11 z0_12 z0_13 W w0_0 w0_1 w0_2 w0_3 w0_4 w0_5 w0_6 w0_7 w0_8 w0_9 w0_10 w0_11 w0_12 w0_13).mono fun e W' ⟨he, bel⟩ => ?_
  subst he
  exact ⟨_, rfl, _, _, _, [], _, [], hW', trodAll_mk1 (shut_bool Try.underlying4 _), (trodAll_cons_mk (Below.trod laidOut (by kernel_rfl) (of_decide_eq_true (by kernel_rfl)) k0 bel lt0) trodAll_mk0), rfl, bel.frame _, fun h => by cases h⟩
theorem over : Rows.portsNoneRow.holds Try.pinned (OpenSpec.ofChange Rows.portsNoneSpec) :=
  OpenClaim.holds_of_wide 5 Try.f5 rfl rfl rfl rfl rfl rfl rfl ⟨rfl, rfl, rfl, rfl, rfl⟩ rfl rfl rfl rfl rfl (by kernel_rfl) Try.func5 (by kernel_rfl)
    (of_decide_eq_true (by kernel_rfl)) (by unfold Func.isWrapper; first | (rw [if_pos (by decide +kernel)]; kernel_rfl) | (rw [if_neg (by decide +kernel)]; exact ⟨rfl, rfl⟩))
    (fun os started H enc _ => lifted os started H enc)
/-- The statement. -/
theorem proved : Rows.PortsNoneSaid := over
end Go.Proofs.Ytbbadpidolfleaa.PortsNone
