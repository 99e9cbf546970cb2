/- TcpBack: for every input the law returns true and leaves its arguments as they were. Conditions: none. -/
import Derived.Test.YtckcdmijhemchaaTcpBack
import Derived.ChangeOld
import Derived.Lib.SmallJoins
import Derived.Test.YtckcdmijhemchaaOpen10
import Derived.Test.YtckcdmijhemchaaTcpN
namespace Go.Proofs.Ytckcdmijhemchaa.TcpBack
open Go.ChangeShapes Go.WideShapes Go.ChangeAt Go.RowKit
open Go.ChangeMaps (open_string shut_string)
set_option linter.unusedVariables false
theorem own : ownKnob Try.prog.godebug = none := by kernel_rfl
theorem laidOut : laidOutB Try.prog = true := by kernel_rfl
set_option maxRecDepth 100000 in
theorem lifted (os : Os) (started : os.Started) (H : Type) (enc : TypeId × Value → H) :
    ReturnsInHanded {} Try.checked os 5 .any (Rows.tcpBackSpec.pre6 enc Try.prog Try.f5 Rows.tcpBackRow.domain false) (Rows.tcpBackSpec.post enc Try.prog Try.f5 false true false false) := by
  refine returnsInHanded_of_change (C := Try.checked) own started (by kernel_rfl) Try.func5
    (ChangeSpec.witness6 (enc := enc) (C := Try.checked) false ⟨#[], #[.agg #[.int .u16 0, .int .u16 0, .int .u32 0, .int .u32 0, .int .u8 0, .int .u8 0, .int .u16 0, .int .u16 0, .int .u16 0, .string ByteArray.empty], .string ByteArray.empty], []⟩ 8 (by kernel_rfl) (by kernel_rfl) (by kernel_rfl) (by kernel_rfl)) ?_
  intro W base args ds gs before hval0 hW hcnd _
  have hval : ∀ (j : Nat) t v, Try.f5.params[j]? = some t → args[j]? = some v → Value.okWide Try.prog W .any base t v := hval0
  have hW' := hW
  obtain ⟨p, q, hA0, hV, rfl, hfz, hnd⟩ := hW
  have hA : DataW.TrodAll enc Try.prog W 0 (fun _ => true) true Try.f5.params.toList args.toList ds p := hA0
  rw [Try.params5] at hA hval
  obtain ⟨v0, vs0, d0, ds0, p0, q0, hargs, rfl, rfl, h0, r0⟩ := trodAll_cons hA
  obtain ⟨v1, vs1, d1, ds1, p1, q1, rfl, rfl, rfl, h1, r1⟩ := trodAll_cons r0
  obtain ⟨rfl, rfl, rfl⟩ := trodAll_nil r1
  obtain rfl : args = #[v0, v1] := by cases args; simp_all
  obtain ⟨rfl, rfl⟩ := trodVars_none hV
  have k0 := h0
  have lt0 : ∀ x ∈ p0, x.block < W.heap.size := by obtain ⟨m, hm⟩ := k0; exact DataW.trod_lt m _ _ _ hm
  obtain ⟨c0_0, c0_1, c0_2, c0_3, c0_4, c0_5, c0_6, c0_7, c0_8, c0_9, y0_0, y0_1, y0_2, y0_3, y0_4, y0_5, y0_6, y0_7, y0_8, y0_9, n0, rfl, t0_0, t0_1, t0_2, t0_3, t0_4, t0_5, t0_6, t0_7, t0_8, t0_9⟩ := open_agg10 Try.underlying25 (by kernel_rfl) (by kernel_rfl) (hval 0 25 v0 rfl rfl) h0
  obtain ⟨z0_0, e0_0, -, w0_0⟩ := DataW.trod_int Try.underlying22 t0_0
  obtain rfl : c0_0 = .int .u16 z0_0 := by simpa using e0_0
  obtain ⟨z0_1, e0_1, -, w0_1⟩ := DataW.trod_int Try.underlying22 t0_1
  obtain rfl : c0_1 = .int .u16 z0_1 := by simpa using e0_1
  obtain ⟨z0_2, e0_2, -, w0_2⟩ := DataW.trod_int Try.underlying23 t0_2
  obtain rfl : c0_2 = .int .u32 z0_2 := by simpa using e0_2
  obtain ⟨z0_3, e0_3, -, w0_3⟩ := DataW.trod_int Try.underlying23 t0_3
  obtain rfl : c0_3 = .int .u32 z0_3 := by simpa using e0_3
  obtain ⟨z0_4, e0_4, -, w0_4⟩ := DataW.trod_int Try.underlying5 t0_4
  obtain rfl : c0_4 = .int .u8 z0_4 := by simpa using e0_4
  obtain ⟨z0_5, e0_5, -, w0_5⟩ := DataW.trod_int Try.underlying5 t0_5
  obtain rfl : c0_5 = .int .u8 z0_5 := by simpa using e0_5
  obtain ⟨z0_6, e0_6, -, w0_6⟩ := DataW.trod_int Try.underlying22 t0_6
  obtain rfl : c0_6 = .int .u16 z0_6 := by simpa using e0_6
  obtain ⟨z0_7, e0_7, -, w0_7⟩ := DataW.trod_int Try.underlying22 t0_7
  obtain rfl : c0_7 = .int .u16 z0_7 := by simpa using e0_7
  obtain ⟨z0_8, e0_8, -, w0_8⟩ := DataW.trod_int Try.underlying22 t0_8
  obtain rfl : c0_8 = .int .u16 z0_8 := by simpa using e0_8
  obtain ⟨z0_9, e0_9, -, w0_9⟩ := DataW.trod_string Try.underlying9 t0_9
  obtain rfl : c0_9 = .string z0_9 := by simpa using e0_9
  obtain ⟨a1, rfl, rfl, rfl, w1⟩ := open_string Try.underlying9 (hval 1 9 v1 rfl rfl) h1
  clear hA0 hval0
  refine (walk_ tcpOk z0_0 z0_1 z0_2 z0_3 z0_4 z0_5 z0_6 z0_7 z0_8 z0_9 a1 W w0_0 w0_1 w0_2 w0_3 w0_4 w0_5 w0_6 w0_7 w0_8 w0_9 w1).mono fun e W' ⟨he, bel⟩ => ?_
  subst he
  exact ⟨_, rfl, _, _, _, [], _, [], hW', trodAll_mk1 (shut_bool Try.underlying4 _), (trodAll_cons_mk (Below.trod laidOut (by kernel_rfl) (of_decide_eq_true (by kernel_rfl)) k0 bel lt0) (trodAll_cons_mk (shut_string Try.underlying9 w1) trodAll_mk0)), rfl, bel.frame _, fun h => by cases h⟩
theorem over : Rows.tcpBackRow.holds Try.pinned (OpenSpec.ofChange Rows.tcpBackSpec) :=
  OpenClaim.holds_of_wide 5 Try.f5 rfl rfl rfl rfl rfl rfl rfl ⟨rfl, rfl, rfl, rfl, rfl⟩ rfl rfl rfl rfl rfl (by kernel_rfl) Try.func5 (by kernel_rfl)
    (of_decide_eq_true (by kernel_rfl)) (by unfold Func.isWrapper; first | (rw [if_pos (by decide +kernel)]; kernel_rfl) | (rw [if_neg (by decide +kernel)]; exact ⟨rfl, rfl⟩))
    (fun os started H enc _ => lifted os started H enc)
/-- The statement. -/
theorem proved : Rows.TcpBackSaid := over
end Go.Proofs.Ytckcdmijhemchaa.TcpBack
