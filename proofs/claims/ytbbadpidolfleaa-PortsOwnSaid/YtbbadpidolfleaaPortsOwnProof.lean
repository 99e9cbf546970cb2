/- PortsOwn: for every input the law returns true and leaves its arguments as they were. Conditions: none. -/
import Derived.Test.YtbbadpidolfleaaPortsOwnW
import Derived.Test.YtbbadpidolfleaaOpenNest
import Derived.Test.YtbbadpidolfleaaPoZ
import Derived.ChangeOld
namespace Go.Proofs.Ytbbadpidolfleaa.PortsOwn
open Go.ChangeShapes Go.WideShapes Go.ChangeAt Go.RowKit
open Go.ChangeMaps (open_string shut_string)
set_option linter.unusedVariables false
theorem own : ownKnob Try.prog.godebug = none := by kernel_rfl
theorem laidOut : laidOutB Try.prog = true := by kernel_rfl
set_option maxRecDepth 100000 in
theorem lifted (os : Os) (started : os.Started) (H : Type) (enc : TypeId × Value → H) :
    ReturnsInHanded {} Try.checked os 6 .any (Rows.portsOwnSpec.pre6 enc Try.prog Try.f6 Rows.portsOwnRow.domain false) (Rows.portsOwnSpec.post enc Try.prog Try.f6 false true false false) := by
  refine returnsInHanded_of_change (C := Try.checked) own started (by kernel_rfl) Try.func6
    (ChangeSpec.witness6 (enc := enc) (C := Try.checked) false ⟨#[], #[.slice none 0 0, .agg #[.int .u8 0, .int .u32 0, .int .u16 0, .int .u32 0, .int .u16 0, .int .u16 0, .int .u16 0]], []⟩ 8 (by kernel_rfl) (by kernel_rfl) (by kernel_rfl) (by kernel_rfl)) ?_
  intro W base args ds gs before hval0 hW hcnd _
  have hval : ∀ (j : Nat) t v, Try.f6.params[j]? = some t → args[j]? = some v → Value.okWide Try.prog W .any base t v := hval0
  have hW' := hW
  obtain ⟨p, q, hA0, hV, rfl, hfz, hnd⟩ := hW
  have hA : DataW.TrodAll enc Try.prog W 0 (fun _ => true) true Try.f6.params.toList args.toList ds p := hA0
  rw [Try.params6] at hA hval
  obtain ⟨v0, vs0, d0, ds0, p0, q0, hargs, rfl, rfl, h0, r0⟩ := trodAll_cons hA
  obtain ⟨v1, vs1, d1, ds1, p1, q1, rfl, rfl, rfl, h1, r1⟩ := trodAll_cons r0
  obtain ⟨rfl, rfl, rfl⟩ := trodAll_nil r1
  obtain rfl : args = #[v0, v1] := by cases args; simp_all
  obtain ⟨rfl, rfl⟩ := trodVars_none hV
  obtain ⟨a0, len0, cap0, rfl⟩ := okWide_slice Try.underlying22 (hval 0 22 v0 rfl rfl)
  have k0 := h0
  have lt0 : ∀ x ∈ p0, x.block < W.heap.size := by obtain ⟨m, hm⟩ := k0; exact DataW.trod_lt m _ _ _ hm
  obtain ⟨v0, z0, w0⟩ : len0 ≤ maxLen ∧ ∃ l, A16At W a0 len0 l := by
    obtain ⟨fuel, hf⟩ := h0
    exact open_A16 Try.underlying22 (by simpa [Value.cells] using hf)
  have k1 := h1
  have lt1 : ∀ x ∈ p1, x.block < W.heap.size := by obtain ⟨m, hm⟩ := k1; exact DataW.trod_lt m _ _ _ hm
  obtain ⟨cs1, n1, y1, rfl, hz1, hf1⟩ := nest_open Try.underlying36 (hval 1 36 v1 rfl rfl) h1
  obtain ⟨c1_0, c1_1, c1_2, c1_3, c1_4, c1_5, c1_6, rfl⟩ := array7n (hz1.trans (by kernel_rfl))
  obtain ⟨_, _, t1_1⟩ := nest_at Try.underlying36 hf1 0 _ rfl [c1_0] (by kernel_rfl)
  obtain ⟨z1_0, e1_0, -, w1_0⟩ := DataW.trod_int Try.underlying5 t1_1
  have x1_0 : c1_0 = .int .u8 z1_0 := by simpa using e1_0
  obtain ⟨_, _, t1_2⟩ := nest_at Try.underlying36 hf1 1 _ rfl [c1_1, c1_2] (by kernel_rfl)
  obtain ⟨_, _, t1_3⟩ := nest_at Try.underlying34 t1_2 0 _ rfl [c1_1] (by kernel_rfl)
  obtain ⟨z1_1, e1_1, -, w1_1⟩ := DataW.trod_int Try.underlying31 t1_3
  have x1_1 : c1_1 = .int .u32 z1_1 := by simpa using e1_1
  obtain ⟨_, _, t1_4⟩ := nest_at Try.underlying34 t1_2 1 _ rfl [c1_2] (by kernel_rfl)
  obtain ⟨z1_2, e1_2, -, w1_2⟩ := DataW.trod_int Try.underlying32 t1_4
  have x1_2 : c1_2 = .int .u16 z1_2 := by simpa using e1_2
  obtain ⟨_, _, t1_5⟩ := nest_at Try.underlying36 hf1 2 _ rfl [c1_3] (by kernel_rfl)
  obtain ⟨z1_3, e1_3, -, w1_3⟩ := DataW.trod_int Try.underlying31 t1_5
  have x1_3 : c1_3 = .int .u32 z1_3 := by simpa using e1_3
  obtain ⟨_, _, t1_6⟩ := nest_at Try.underlying36 hf1 3 _ rfl [c1_4] (by kernel_rfl)
  obtain ⟨z1_4, e1_4, -, w1_4⟩ := DataW.trod_int Try.underlying32 t1_6
  have x1_4 : c1_4 = .int .u16 z1_4 := by simpa using e1_4
  obtain ⟨_, _, t1_7⟩ := nest_at Try.underlying36 hf1 4 _ rfl [c1_5] (by kernel_rfl)
  obtain ⟨z1_5, e1_5, -, w1_5⟩ := DataW.trod_int Try.underlying32 t1_7
  have x1_5 : c1_5 = .int .u16 z1_5 := by simpa using e1_5
  obtain ⟨_, _, t1_8⟩ := nest_at Try.underlying36 hf1 5 _ rfl [c1_6] (by kernel_rfl)
  obtain ⟨z1_6, e1_6, -, w1_6⟩ := DataW.trod_int Try.underlying32 t1_8
  have x1_6 : c1_6 = .int .u16 z1_6 := by simpa using e1_6
  subst x1_0 x1_1 x1_2 x1_3 x1_4 x1_5 x1_6
  clear hA0 hval0
  refine (walk_ portsOk a0 len0 cap0 z0 z1_0 z1_1 z1_2 z1_3 z1_4 z1_5 z1_6 W v0 w0 w1_0 w1_1 w1_2 w1_3 w1_4 w1_5 w1_6).mono fun e W' ⟨he, bel⟩ => ?_
  subst he
  exact ⟨_, rfl, _, _, _, [], _, [], hW', trodAll_mk1 (shut_bool Try.underlying4 _), (trodAll_cons_mk (Below.trod laidOut (by kernel_rfl) (of_decide_eq_true (by kernel_rfl)) k0 bel lt0) (trodAll_cons_mk (Below.trod laidOut (by kernel_rfl) (of_decide_eq_true (by kernel_rfl)) k1 bel lt1) trodAll_mk0)), rfl, bel.frame _, fun h => by cases h⟩
theorem over : Rows.portsOwnRow.holds Try.pinned (OpenSpec.ofChange Rows.portsOwnSpec) :=
  OpenClaim.holds_of_wide 6 Try.f6 rfl rfl rfl rfl rfl rfl rfl ⟨rfl, rfl, rfl, rfl, rfl⟩ rfl rfl rfl rfl rfl (by kernel_rfl) Try.func6 (by kernel_rfl)
    (of_decide_eq_true (by kernel_rfl)) (by unfold Func.isWrapper; first | (rw [if_pos (by decide +kernel)]; kernel_rfl) | (rw [if_neg (by decide +kernel)]; exact ⟨rfl, rfl⟩))
    (fun os started H enc _ => lifted os started H enc)
/-- The statement. -/
theorem proved : Rows.PortsOwnSaid := over
end Go.Proofs.Ytbbadpidolfleaa.PortsOwn
