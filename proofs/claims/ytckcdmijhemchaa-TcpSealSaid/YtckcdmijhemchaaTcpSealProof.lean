/- TcpSeal: for every input the law returns true and leaves its arguments as they were. Conditions: none. -/
import Derived.Test.YtckcdmijhemchaaTcpSeal
import Derived.ChangeOld
import Derived.Test.YtckcdmijhemchaaOpenArr
import Derived.Lib.SmallJoins
import Derived.Test.YtckcdmijhemchaaTcpN
namespace Go.Proofs.Ytckcdmijhemchaa.TcpSeal
open Go.ChangeShapes Go.WideShapes Go.ChangeAt Go.RowKit
open Go.ChangeMaps (open_string shut_string)
set_option linter.unusedVariables false
theorem own : ownKnob Try.prog.godebug = none := by kernel_rfl
theorem laidOut : laidOutB Try.prog = true := by kernel_rfl
set_option maxRecDepth 100000 in
theorem lifted (os : Os) (started : os.Started) (H : Type) (enc : TypeId × Value → H) :
    ReturnsInHanded {} Try.checked os 7 .any (Rows.tcpSealSpec.pre6 enc Try.prog Try.f7 Rows.tcpSealRow.domain false) (Rows.tcpSealSpec.post enc Try.prog Try.f7 false true false false) := by
  refine returnsInHanded_of_change (C := Try.checked) own started (by kernel_rfl) Try.func7
    (ChangeSpec.witness6 (enc := enc) (C := Try.checked) false ⟨#[], #[.string ByteArray.empty, .agg #[.int .u32 0, .int .u32 0], .agg #[.int .u16 0, .int .u16 0]], []⟩ 8 (by kernel_rfl) (by kernel_rfl) (by kernel_rfl) (by kernel_rfl)) ?_
  intro W base args ds gs before hval0 hW hcnd _
  have hval : ∀ (j : Nat) t v, Try.f7.params[j]? = some t → args[j]? = some v → Value.okWide Try.prog W .any base t v := hval0
  have hW' := hW
  obtain ⟨p, q, hA0, hV, rfl, hfz, hnd⟩ := hW
  have hA : DataW.TrodAll enc Try.prog W 0 (fun _ => true) true Try.f7.params.toList args.toList ds p := hA0
  rw [Try.params7] at hA hval
  obtain ⟨v0, vs0, d0, ds0, p0, q0, hargs, rfl, rfl, h0, r0⟩ := trodAll_cons hA
  obtain ⟨v1, vs1, d1, ds1, p1, q1, rfl, rfl, rfl, h1, r1⟩ := trodAll_cons r0
  obtain ⟨v2, vs2, d2, ds2, p2, q2, rfl, rfl, rfl, h2, r2⟩ := trodAll_cons r1
  obtain ⟨rfl, rfl, rfl⟩ := trodAll_nil r2
  obtain rfl : args = #[v0, v1, v2] := by cases args; simp_all
  obtain ⟨rfl, rfl⟩ := trodVars_none hV
  obtain ⟨a0, rfl, rfl, rfl, w0⟩ := open_string Try.underlying9 (hval 0 9 v0 rfl rfl) h0
  have k1 := h1
  have lt1 : ∀ x ∈ p1, x.block < W.heap.size := by obtain ⟨m, hm⟩ := k1; exact DataW.trod_lt m _ _ _ hm
  obtain ⟨c1_0, c1_1, y1_0, y1_1, n1, rfl, -, -, t1_0, t1_1⟩ := Go.Joins.open_agg2 Try.underlying43 (by kernel_rfl) (by kernel_rfl) (hval 1 43 v1 rfl rfl) h1
  obtain ⟨z1_0, e1_0, -, w1_0⟩ := DataW.trod_int Try.underlying37 t1_0
  obtain rfl : c1_0 = .int .u32 z1_0 := by simpa using e1_0
  obtain ⟨z1_1, e1_1, -, w1_1⟩ := DataW.trod_int Try.underlying37 t1_1
  obtain rfl : c1_1 = .int .u32 z1_1 := by simpa using e1_1
  obtain ⟨cs2, rfl⟩ := okWide_array Try.underlying44 (hval 2 44 v2 rfl rfl)
  have k2 := h2
  have lt2 : ∀ x ∈ p2, x.block < W.heap.size := by obtain ⟨m, hm⟩ := k2; exact DataW.trod_lt m _ _ _ hm
  obtain ⟨z2_0, z2_1, rfl, w2_0, w2_1⟩ : ∃ z2_0 z2_1 : Int, cs2 = [.int .u16 z2_0, .int .u16 z2_1] ∧ (Lit.int .u16 z2_0).wf = true ∧ (Lit.int .u16 z2_1).wf = true := by
    obtain ⟨fuel, hf⟩ := h2
    obtain ⟨zs, hl, rfl, hz⟩ := open_int_array Try.underlying44 Try.underlying22 (by kernel_rfl) (by kernel_rfl) hf
    obtain ⟨z2_0, z2_1, rfl⟩ := list2 zs hl
    exact ⟨z2_0, z2_1, rfl, hz _ (by simp), hz _ (by simp)⟩
  clear hA0 hval0
  refine (walk_ tcpOk a0 z1_0 z1_1 z2_0 z2_1 W w0 w1_0 w1_1 w2_0 w2_1).mono fun e W' ⟨he, bel⟩ => ?_
  subst he
  exact ⟨_, rfl, _, _, _, [], _, [], hW', trodAll_mk1 (shut_bool Try.underlying4 _), (trodAll_cons_mk (shut_string Try.underlying9 w0) (trodAll_cons_mk (Below.trod laidOut (by kernel_rfl) (of_decide_eq_true (by kernel_rfl)) k1 bel lt1) (trodAll_cons_mk (Below.trod laidOut (by kernel_rfl) (of_decide_eq_true (by kernel_rfl)) k2 bel lt2) trodAll_mk0))), rfl, bel.frame _, fun h => by cases h⟩
theorem over : Rows.tcpSealRow.holds Try.pinned (OpenSpec.ofChange Rows.tcpSealSpec) :=
  OpenClaim.holds_of_wide 7 Try.f7 rfl rfl rfl rfl rfl rfl rfl ⟨rfl, rfl, rfl, rfl, rfl⟩ rfl rfl rfl rfl rfl (by kernel_rfl) Try.func7 (by kernel_rfl)
    (of_decide_eq_true (by kernel_rfl)) (by unfold Func.isWrapper; first | (rw [if_pos (by decide +kernel)]; kernel_rfl) | (rw [if_neg (by decide +kernel)]; exact ⟨rfl, rfl⟩))
    (fun os started H enc _ => lifted os started H enc)
/-- The statement. -/
theorem proved : Rows.TcpSealSaid := over
end Go.Proofs.Ytckcdmijhemchaa.TcpSeal
