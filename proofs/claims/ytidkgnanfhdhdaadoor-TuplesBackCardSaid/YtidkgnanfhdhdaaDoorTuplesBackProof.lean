/- TuplesBack: for every input the law returns true and leaves its arguments as they were. Conditions: none. -/
import Derived.Test.YtidkgnanfhdhdaaDoorGq
import Derived.Test.YtidkgnanfhdhdaaDoorOpenNest
import Derived.Test.YtidkgnanfhdhdaaDoorTabLaid
import Derived.Test.YtidkgnanfhdhdaaDoorGr
import Derived.ChangeOld
import Derived.Test.YtidkgnanfhdhdaaDoorTie
import Derived.Test.YtidkgnanfhdhdaaDoorCards
import Derived.LaidMore
import Derived.Lay
import Derived.SevenTiedAt
import Derived.Stop.Joined
import Derived.Handed
import Derived.LaidLaws
namespace Go.Proofs.YtidkgnanfhdhdaaDoor.TuplesBack
open Go.ChangeShapes Go.WideShapes Go.ChangeAt Go.RowKit
open Go.ChangeMaps (open_string shut_string)
set_option linter.unusedVariables false
theorem own : ownKnob Tryd.prog.godebug = none := by kernel_rfl
theorem laidOut : laidOutB Tryd.prog = true := by kernel_rfl
set_option maxRecDepth 100000 in
theorem lifted (os : Os) (started : os.Started) (H : Type) (enc : TypeId × Value → H) :
    ReturnsInHanded {} Tryd.checked os 4 .any (fun w args => (Rows.tuplesBackSpec.pre enc Tryd.prog Tryd.f4 Rows.tuplesBackRow.domain false w args ∧ laidMetH Tryd.prog Rows.tuplesBackRow.laid w) ∧ sizedMet enc Tryd.prog Tryd.f4 (OpenSpec.ofChange Rows.tuplesBackSpec) false w args)
      (Rows.tuplesBackSpec.post enc Tryd.prog Tryd.f4 false true false false) := by
  refine returnsInHanded_of_change_and (C := Tryd.checked) (X := fun w _ => laidMetH Tryd.prog Rows.tuplesBackRow.laid w) (fun _ _ _ hh h => h.of_heap hh) own started (by kernel_rfl) Tryd.func4
    (ChangeSpec.witness_shaped (enc := enc) (C := Tryd.checked) (os := os) (X := fun w _ => laidMetH Tryd.prog Rows.tuplesBackRow.laid w) false (World.laidAll Tryd.prog os Rows.tuplesBackRow.laid) #[.agg #[.int .u8 0, .int .u32 0, .int .u16 0, .int .u32 0, .int .u16 0], .agg #[.int .u8 0, .int .u32 0, .int .u16 0, .int .u32 0, .int .u16 0]] 8 (World.laidAll_os _ _ _)
      (World.shaped_of_ZipB (by kernel_rfl) (by kernel_rfl)) (by kernel_rfl) (by kernel_rfl) (by kernel_rfl)
      (by rw [MakeChecks.laidMetH_plain _ _ _ (by kernel_rfl)]; exact laidMet_laidAll _ (by kernel_rfl) (by kernel_rfl))) ?_
  intro W base args ds gs before hval0 hW hcnd _ hL _
  have hval : ∀ (j : Nat) t v, Tryd.f4.params[j]? = some t → args[j]? = some v → Value.okWide Tryd.prog W .any base t v := hval0
  have hW' := hW
  obtain ⟨p, q, hA0, hV, rfl, hfz, hnd⟩ := hW
  have hA : DataW.TrodAll enc Tryd.prog W 0 (fun _ => true) true Tryd.f4.params.toList args.toList ds p := hA0
  rw [Tryd.params4] at hA hval
  obtain ⟨v0, vs0, d0, ds0, p0, q0, hargs, rfl, rfl, h0, r0⟩ := trodAll_cons hA
  obtain ⟨v1, vs1, d1, ds1, p1, q1, rfl, rfl, rfl, h1, r1⟩ := trodAll_cons r0
  obtain ⟨rfl, rfl, rfl⟩ := trodAll_nil r1
  obtain rfl : args = #[v0, v1] := by cases args; simp_all
  obtain ⟨rfl, rfl⟩ := trodVars_none hV
  have k0 := h0
  have lt0 : ∀ x ∈ p0, x.block < W.heap.size := by obtain ⟨m, hm⟩ := k0; exact DataW.trod_lt m _ _ _ hm
  obtain ⟨cs0, n0, y0, rfl, hz0, hf0⟩ := nest_open Tryd.underlying29 (hval 0 29 v0 rfl rfl) h0
  obtain ⟨c0_0, c0_1, c0_2, c0_3, c0_4, rfl⟩ := array5n (hz0.trans (by kernel_rfl))
  obtain ⟨_, _, t0_1⟩ := nest_at Tryd.underlying29 hf0 0 _ rfl [c0_0] (by kernel_rfl)
  obtain ⟨z0_0, e0_0, -, w0_0⟩ := DataW.trod_int Tryd.underlying5 t0_1
  have x0_0 : c0_0 = .int .u8 z0_0 := by simpa using e0_0
  obtain ⟨_, _, t0_2⟩ := nest_at Tryd.underlying29 hf0 1 _ rfl [c0_1, c0_2] (by kernel_rfl)
  obtain ⟨_, _, t0_3⟩ := nest_at Tryd.underlying27 t0_2 0 _ rfl [c0_1] (by kernel_rfl)
  obtain ⟨z0_1, e0_1, -, w0_1⟩ := DataW.trod_int Tryd.underlying24 t0_3
  have x0_1 : c0_1 = .int .u32 z0_1 := by simpa using e0_1
  obtain ⟨_, _, t0_4⟩ := nest_at Tryd.underlying27 t0_2 1 _ rfl [c0_2] (by kernel_rfl)
  obtain ⟨z0_2, e0_2, -, w0_2⟩ := DataW.trod_int Tryd.underlying25 t0_4
  have x0_2 : c0_2 = .int .u16 z0_2 := by simpa using e0_2
  obtain ⟨_, _, t0_5⟩ := nest_at Tryd.underlying29 hf0 2 _ rfl [c0_3, c0_4] (by kernel_rfl)
  obtain ⟨_, _, t0_6⟩ := nest_at Tryd.underlying27 t0_5 0 _ rfl [c0_3] (by kernel_rfl)
  obtain ⟨z0_3, e0_3, -, w0_3⟩ := DataW.trod_int Tryd.underlying24 t0_6
  have x0_3 : c0_3 = .int .u32 z0_3 := by simpa using e0_3
  obtain ⟨_, _, t0_7⟩ := nest_at Tryd.underlying27 t0_5 1 _ rfl [c0_4] (by kernel_rfl)
  obtain ⟨z0_4, e0_4, -, w0_4⟩ := DataW.trod_int Tryd.underlying25 t0_7
  have x0_4 : c0_4 = .int .u16 z0_4 := by simpa using e0_4
  subst x0_0 x0_1 x0_2 x0_3 x0_4
  have k1 := h1
  have lt1 : ∀ x ∈ p1, x.block < W.heap.size := by obtain ⟨m, hm⟩ := k1; exact DataW.trod_lt m _ _ _ hm
  obtain ⟨cs1, n1, y1, rfl, hz1, hf1⟩ := nest_open Tryd.underlying29 (hval 1 29 v1 rfl rfl) h1
  obtain ⟨c1_0, c1_1, c1_2, c1_3, c1_4, rfl⟩ := array5n (hz1.trans (by kernel_rfl))
  obtain ⟨_, _, t1_1⟩ := nest_at Tryd.underlying29 hf1 0 _ rfl [c1_0] (by kernel_rfl)
  obtain ⟨z1_0, e1_0, -, w1_0⟩ := DataW.trod_int Tryd.underlying5 t1_1
  have x1_0 : c1_0 = .int .u8 z1_0 := by simpa using e1_0
  obtain ⟨_, _, t1_2⟩ := nest_at Tryd.underlying29 hf1 1 _ rfl [c1_1, c1_2] (by kernel_rfl)
  obtain ⟨_, _, t1_3⟩ := nest_at Tryd.underlying27 t1_2 0 _ rfl [c1_1] (by kernel_rfl)
  obtain ⟨z1_1, e1_1, -, w1_1⟩ := DataW.trod_int Tryd.underlying24 t1_3
  have x1_1 : c1_1 = .int .u32 z1_1 := by simpa using e1_1
  obtain ⟨_, _, t1_4⟩ := nest_at Tryd.underlying27 t1_2 1 _ rfl [c1_2] (by kernel_rfl)
  obtain ⟨z1_2, e1_2, -, w1_2⟩ := DataW.trod_int Tryd.underlying25 t1_4
  have x1_2 : c1_2 = .int .u16 z1_2 := by simpa using e1_2
  obtain ⟨_, _, t1_5⟩ := nest_at Tryd.underlying29 hf1 2 _ rfl [c1_3, c1_4] (by kernel_rfl)
  obtain ⟨_, _, t1_6⟩ := nest_at Tryd.underlying27 t1_5 0 _ rfl [c1_3] (by kernel_rfl)
  obtain ⟨z1_3, e1_3, -, w1_3⟩ := DataW.trod_int Tryd.underlying24 t1_6
  have x1_3 : c1_3 = .int .u32 z1_3 := by simpa using e1_3
  obtain ⟨_, _, t1_7⟩ := nest_at Tryd.underlying27 t1_5 1 _ rfl [c1_4] (by kernel_rfl)
  obtain ⟨z1_4, e1_4, -, w1_4⟩ := DataW.trod_int Tryd.underlying25 t1_7
  have x1_4 : c1_4 = .int .u16 z1_4 := by simpa using e1_4
  subst x1_0 x1_1 x1_2 x1_3 x1_4
  clear hA0 hval0
  have ht := tab_of_laid (by kernel_rfl) hL
  refine (walk_ tupOk z0_0 z0_1 z0_2 z0_3 z0_4 z1_0 z1_1 z1_2 z1_3 z1_4 W ht w0_0 w0_1 w0_2 w0_3 w0_4 w1_0 w1_1 w1_2 w1_3 w1_4).mono fun e W' ⟨he, bel⟩ => ?_
  subst he
  exact ⟨_, rfl, _, _, _, [], _, [], hW', trodAll_mk1 (shut_bool Tryd.underlying4 _), (trodAll_cons_mk (Below.trod laidOut (by kernel_rfl) (of_decide_eq_true (by kernel_rfl)) k0 bel lt0) (trodAll_cons_mk (Below.trod laidOut (by kernel_rfl) (of_decide_eq_true (by kernel_rfl)) k1 bel lt1) trodAll_mk0)), rfl, bel.frame _, fun h => by cases h⟩
theorem over : Rows.tuplesBackRow.holds Tryd.pinned (OpenSpec.ofChange Rows.tuplesBackSpec) :=
  OpenClaim.holds_of_wide 4 Tryd.f4 rfl rfl rfl rfl rfl rfl rfl ⟨rfl, rfl, rfl, rfl, rfl⟩ rfl rfl rfl rfl rfl (by kernel_rfl) Tryd.func4 (by kernel_rfl)
    (of_decide_eq_true (by kernel_rfl)) (by unfold Func.isWrapper; first | (rw [if_pos (by decide +kernel)]; kernel_rfl) | (rw [if_neg (by decide +kernel)]; exact ⟨rfl, rfl⟩))
    (fun os started H enc _ => lifted os started H enc)
/-- The statement: the tied card. -/
theorem proved : Rows.TuplesBackCardSaid :=
  Claim7.holds_tied_plain_at .later [] Rows.tuplesBackCard.laidKinds true Rows.tuplesBackCard.stood.harness Rows.tuplesBackCard.stood.looks over (fun _ h => by cases h) (by kernel_rfl) (fun _ h => by cases h) tuplesBack_row_tie rfl ⟨rfl, rfl⟩ (by kernel_rfl) rfl
    (fun f fn hf hfn => by
      obtain rfl : f = 4 := Option.some.inj ((show Tryd.prog.funcNamed "porter/porterlaw08.TuplesBack" = some 4 by kernel_rfl).symm.trans hf) |>.symm
      obtain rfl : fn = Tryd.f4 := (Option.some.inj (Tryd.func4.symm.trans hfn)).symm
      exact ⟨by kernel_rfl, fun j t ht => by
        rw [Tryd.params4] at ht
        have hm : t ∈ [29, 29] := by simpa using Array.mem_of_getElem? ht
        have hall : ([29, 29].all fun u => !Tryd.prog.wantsStandIn u) = true := by kernel_rfl
        exact (show Tryd.prog.wantsStandIn t = false by simpa using List.all_eq_true.1 hall t hm)⟩)
    (by kernel_rfl)
end Go.Proofs.YtidkgnanfhdhdaaDoor.TuplesBack
