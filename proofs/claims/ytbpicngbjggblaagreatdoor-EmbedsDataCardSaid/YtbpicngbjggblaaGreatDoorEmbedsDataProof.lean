/- EmbedsData: for every input the law returns true and leaves its arguments as they were. Conditions: none. -/
import Derived.Test.YtbpicngbjggblaaGreatDoorEmbedsData
import Derived.Test.YtbpicngbjggblaaGreatDoorOpenNest
import Derived.Test.YtbpicngbjggblaaGreatDoorTabLaid
import Derived.Test.YtbpicngbjggblaaGreatDoorHe
import Derived.ChangeOld
import Derived.Test.YtbpicngbjggblaaGreatDoorTie
import Derived.Test.YtbpicngbjggblaaGreatDoorCards
import Derived.LaidMore
import Derived.Lay
import Derived.SevenTiedAt
import Derived.Stop.Joined
import Derived.Handed
import Derived.LaidLaws
import Derived.Lib.SmallJoins
namespace Go.Proofs.YtbpicngbjggblaaGreatDoor.EmbedsData
set_option maxRecDepth 100000
open Go.ChangeShapes Go.WideShapes Go.ChangeAt Go.RowKit
open Go.ChangeMaps (open_string shut_string)
set_option linter.unusedVariables false
theorem own : ownKnob Tryz.prog.godebug = none := by kernel_rfl
theorem laidOut : laidOutB Tryz.prog = true := by kernel_rfl
theorem lifted (os : Os) (started : os.Started) (H : Type) (enc : TypeId × Value → H) :
    ReturnsInHanded {} Tryz.checked os 4 .any (fun w args => (Rows.embedsDataSpec.pre enc Tryz.prog Tryz.f4 Rows.embedsDataRow.domain false w args ∧ laidMetH Tryz.prog Rows.embedsDataRow.laid w) ∧ sizedMet enc Tryz.prog Tryz.f4 (OpenSpec.ofChange Rows.embedsDataSpec) false w args)
      (Rows.embedsDataSpec.post enc Tryz.prog Tryz.f4 false true false false) := by
  refine returnsInHanded_of_change_and (C := Tryz.checked) (X := fun w _ => laidMetH Tryz.prog Rows.embedsDataRow.laid w) (fun _ _ _ hh h => h.of_heap hh) own started (by kernel_rfl) Tryz.func4
    (ChangeSpec.witness_shaped (enc := enc) (C := Tryz.checked) (os := os) (X := fun w _ => laidMetH Tryz.prog Rows.embedsDataRow.laid w) false (World.laidAll Tryz.prog os Rows.embedsDataRow.laid) #[.agg #[.int .u8 0, .int .u8 0, .int .u16 0, .string ByteArray.empty], .agg #[.int .u32 0, .int .u16 0, .int .u32 0, .int .u16 0, .int .u32 0, .int .u16 0, .int .u32 0, .int .u16 0]] 8 (World.laidAll_os _ _ _)
      (World.shaped_of_ZipB (by kernel_rfl) (by kernel_rfl)) (by kernel_rfl) (by kernel_rfl) (by kernel_rfl)
      (by rw [MakeChecks.laidMetH_plain _ _ _ (by kernel_rfl)]; exact laidMet_laidAll _ (by kernel_rfl) (by kernel_rfl))) ?_
  intro W base args ds gs before hval0 hW hcnd _ hL _
  have hval : ∀ (j : Nat) t v, Tryz.f4.params[j]? = some t → args[j]? = some v → Value.okWide Tryz.prog W .any base t v := hval0
  have hW' := hW
  obtain ⟨p, q, hA0, hV, rfl, hfz, hnd⟩ := hW
  have hA : DataW.TrodAll enc Tryz.prog W 0 (fun _ => true) true Tryz.f4.params.toList args.toList ds p := hA0
  rw [Tryz.params4] at hA hval
  obtain ⟨v0, vs0, d0, ds0, p0, q0, hargs, rfl, rfl, h0, r0⟩ := trodAll_cons hA
  obtain ⟨v1, vs1, d1, ds1, p1, q1, rfl, rfl, rfl, h1, r1⟩ := trodAll_cons r0
  obtain ⟨rfl, rfl, rfl⟩ := trodAll_nil r1
  obtain rfl : args = #[v0, v1] := by cases args; simp_all
  obtain ⟨rfl, rfl⟩ := trodVars_none hV
  have k0 := h0
  have lt0 : ∀ x ∈ p0, x.block < W.heap.size := by obtain ⟨m, hm⟩ := k0; exact DataW.trod_lt m _ _ _ hm
  obtain ⟨c0_0, c0_1, c0_2, c0_3, y0_0, y0_1, y0_2, y0_3, n0, rfl, -, -, t0_0, t0_1, t0_2, t0_3⟩ := Go.Joins.open_agg4 Tryz.underlying42 (by kernel_rfl) (by kernel_rfl) (hval 0 42 v0 rfl rfl) h0
  obtain ⟨z0_0, e0_0, -, w0_0⟩ := DataW.trod_int Tryz.underlying5 t0_0
  obtain rfl : c0_0 = .int .u8 z0_0 := by simpa using e0_0
  obtain ⟨z0_1, e0_1, -, w0_1⟩ := DataW.trod_int Tryz.underlying5 t0_1
  obtain rfl : c0_1 = .int .u8 z0_1 := by simpa using e0_1
  obtain ⟨z0_2, e0_2, -, w0_2⟩ := DataW.trod_int Tryz.underlying24 t0_2
  obtain rfl : c0_2 = .int .u16 z0_2 := by simpa using e0_2
  obtain ⟨z0_3, e0_3, -, w0_3⟩ := DataW.trod_string Tryz.underlying9 t0_3
  obtain rfl : c0_3 = .string z0_3 := by simpa using e0_3
  have k1 := h1
  have lt1 : ∀ x ∈ p1, x.block < W.heap.size := by obtain ⟨m, hm⟩ := k1; exact DataW.trod_lt m _ _ _ hm
  obtain ⟨cs1, n1, y1, rfl, hz1, hf1⟩ := nest_open Tryz.underlying30 (hval 1 30 v1 rfl rfl) h1
  obtain ⟨c1_0, c1_1, c1_2, c1_3, c1_4, c1_5, c1_6, c1_7, rfl⟩ := array8n (hz1.trans (by kernel_rfl))
  obtain ⟨_, _, t1_1⟩ := nest_at Tryz.underlying30 hf1 0 _ rfl [c1_0, c1_1, c1_2, c1_3] (by kernel_rfl)
  obtain ⟨_, _, t1_2⟩ := nest_at Tryz.underlying28 t1_1 0 _ rfl [c1_0, c1_1] (by kernel_rfl)
  obtain ⟨_, _, t1_3⟩ := nest_at Tryz.underlying26 t1_2 0 _ rfl [c1_0] (by kernel_rfl)
  obtain ⟨z1_0, e1_0, -, w1_0⟩ := DataW.trod_int Tryz.underlying23 t1_3
  have x1_0 : c1_0 = .int .u32 z1_0 := by simpa using e1_0
  obtain ⟨_, _, t1_4⟩ := nest_at Tryz.underlying26 t1_2 1 _ rfl [c1_1] (by kernel_rfl)
  obtain ⟨z1_1, e1_1, -, w1_1⟩ := DataW.trod_int Tryz.underlying24 t1_4
  have x1_1 : c1_1 = .int .u16 z1_1 := by simpa using e1_1
  obtain ⟨_, _, t1_5⟩ := nest_at Tryz.underlying28 t1_1 1 _ rfl [c1_2, c1_3] (by kernel_rfl)
  obtain ⟨_, _, t1_6⟩ := nest_at Tryz.underlying26 t1_5 0 _ rfl [c1_2] (by kernel_rfl)
  obtain ⟨z1_2, e1_2, -, w1_2⟩ := DataW.trod_int Tryz.underlying23 t1_6
  have x1_2 : c1_2 = .int .u32 z1_2 := by simpa using e1_2
  obtain ⟨_, _, t1_7⟩ := nest_at Tryz.underlying26 t1_5 1 _ rfl [c1_3] (by kernel_rfl)
  obtain ⟨z1_3, e1_3, -, w1_3⟩ := DataW.trod_int Tryz.underlying24 t1_7
  have x1_3 : c1_3 = .int .u16 z1_3 := by simpa using e1_3
  obtain ⟨_, _, t1_8⟩ := nest_at Tryz.underlying30 hf1 1 _ rfl [c1_4, c1_5, c1_6, c1_7] (by kernel_rfl)
  obtain ⟨_, _, t1_9⟩ := nest_at Tryz.underlying28 t1_8 0 _ rfl [c1_4, c1_5] (by kernel_rfl)
  obtain ⟨_, _, t1_10⟩ := nest_at Tryz.underlying26 t1_9 0 _ rfl [c1_4] (by kernel_rfl)
  obtain ⟨z1_4, e1_4, -, w1_4⟩ := DataW.trod_int Tryz.underlying23 t1_10
  have x1_4 : c1_4 = .int .u32 z1_4 := by simpa using e1_4
  obtain ⟨_, _, t1_11⟩ := nest_at Tryz.underlying26 t1_9 1 _ rfl [c1_5] (by kernel_rfl)
  obtain ⟨z1_5, e1_5, -, w1_5⟩ := DataW.trod_int Tryz.underlying24 t1_11
  have x1_5 : c1_5 = .int .u16 z1_5 := by simpa using e1_5
  obtain ⟨_, _, t1_12⟩ := nest_at Tryz.underlying28 t1_8 1 _ rfl [c1_6, c1_7] (by kernel_rfl)
  obtain ⟨_, _, t1_13⟩ := nest_at Tryz.underlying26 t1_12 0 _ rfl [c1_6] (by kernel_rfl)
  obtain ⟨z1_6, e1_6, -, w1_6⟩ := DataW.trod_int Tryz.underlying23 t1_13
  have x1_6 : c1_6 = .int .u32 z1_6 := by simpa using e1_6
  obtain ⟨_, _, t1_14⟩ := nest_at Tryz.underlying26 t1_12 1 _ rfl [c1_7] (by kernel_rfl)
  obtain ⟨z1_7, e1_7, -, w1_7⟩ := DataW.trod_int Tryz.underlying24 t1_14
  have x1_7 : c1_7 = .int .u16 z1_7 := by simpa using e1_7
  subst x1_0 x1_1 x1_2 x1_3 x1_4 x1_5 x1_6 x1_7
  clear hA0 hval0
  have ht := tab_of_laid (by kernel_rfl) hL
  refine (walk_ emOk z0_0 z0_1 z0_2 z0_3 z1_0 z1_1 z1_2 z1_3 z1_4 z1_5 z1_6 z1_7 W ht w0_0 w0_1 w0_2 w0_3 w1_0 w1_1 w1_2 w1_3 w1_4 w1_5 w1_6 w1_7).mono fun e W' ⟨he, bel⟩ => ?_
  subst he
  exact ⟨_, rfl, _, _, _, [], _, [], hW', trodAll_mk1 (shut_bool Tryz.underlying4 _), (trodAll_cons_mk (Below.trod laidOut (by kernel_rfl) (of_decide_eq_true (by kernel_rfl)) k0 bel lt0) (trodAll_cons_mk (Below.trod laidOut (by kernel_rfl) (of_decide_eq_true (by kernel_rfl)) k1 bel lt1) trodAll_mk0)), rfl, bel.frame _, fun h => by cases h⟩
theorem over : Rows.embedsDataRow.holds Tryz.pinned (OpenSpec.ofChange Rows.embedsDataSpec) :=
  OpenClaim.holds_of_wide 4 Tryz.f4 rfl rfl rfl rfl rfl rfl rfl ⟨rfl, rfl, rfl, rfl, rfl⟩ rfl rfl rfl rfl rfl (by kernel_rfl) Tryz.func4 (by kernel_rfl)
    (of_decide_eq_true (by kernel_rfl)) (by unfold Func.isWrapper; first | (rw [if_pos (by decide +kernel)]; kernel_rfl) | (rw [if_neg (by decide +kernel)]; exact ⟨rfl, rfl⟩))
    (fun os started H enc _ => lifted os started H enc)
/-- The statement: the tied card. -/
theorem proved : Rows.EmbedsDataCardSaid :=
  Claim7.holds_tied_plain_at .later [] Rows.embedsDataCard.laidKinds true Rows.embedsDataCard.stood.harness Rows.embedsDataCard.stood.looks over (fun _ h => by cases h) (by kernel_rfl) (fun _ h => by cases h) embedsData_row_tie rfl ⟨rfl, rfl⟩ (by kernel_rfl) rfl
    (fun f fn hf hfn => by
      obtain rfl : f = 4 := Option.some.inj ((show Tryz.prog.funcNamed "porter/porterlaw10.EmbedsData" = some 4 by kernel_rfl).symm.trans hf) |>.symm
      obtain rfl : fn = Tryz.f4 := (Option.some.inj (Tryz.func4.symm.trans hfn)).symm
      exact ⟨by kernel_rfl, fun j t ht => by
        rw [Tryz.params4] at ht
        have hm : t ∈ [42, 30] := by simpa using Array.mem_of_getElem? ht
        have hall : ([42, 30].all fun u => !Tryz.prog.wantsStandIn u) = true := by kernel_rfl
        exact (show Tryz.prog.wantsStandIn t = false by simpa using List.all_eq_true.1 hall t hm)⟩)
    (by kernel_rfl)
end Go.Proofs.YtbpicngbjggblaaGreatDoor.EmbedsData
