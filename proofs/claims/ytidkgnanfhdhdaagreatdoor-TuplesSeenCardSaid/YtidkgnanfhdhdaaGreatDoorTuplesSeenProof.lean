/- TuplesSeen: for every input the law returns true and leaves its arguments as they were. Conditions: none. -/
import Derived.Test.YtidkgnanfhdhdaaGreatDoorTuplesSeen
import Derived.Test.YtidkgnanfhdhdaaGreatDoorOpenNest
import Derived.Test.YtidkgnanfhdhdaaGreatDoorTabLaid
import Derived.Test.YtidkgnanfhdhdaaGreatDoorGr
import Derived.ChangeOld
import Derived.Test.YtidkgnanfhdhdaaGreatDoorTie
import Derived.Test.YtidkgnanfhdhdaaGreatDoorCards
import Derived.LaidMore
import Derived.Lay
import Derived.SevenTiedAt
import Derived.Stop.Joined
import Derived.Handed
import Derived.LaidLaws
namespace Go.Proofs.YtidkgnanfhdhdaaGreatDoor.TuplesSeen
open Go.ChangeShapes Go.WideShapes Go.ChangeAt Go.RowKit
open Go.ChangeMaps (open_string shut_string)
set_option linter.unusedVariables false
theorem own : ownKnob Tryz.prog.godebug = none := by kernel_rfl
theorem laidOut : laidOutB Tryz.prog = true := by kernel_rfl
set_option maxRecDepth 100000 in
theorem lifted (os : Os) (started : os.Started) (H : Type) (enc : TypeId × Value → H) :
    ReturnsInHanded {} Tryz.checked os 5 .any (fun w args => (Rows.tuplesSeenSpec.pre enc Tryz.prog Tryz.f5 Rows.tuplesSeenRow.domain false w args ∧ laidMetH Tryz.prog Rows.tuplesSeenRow.laid w) ∧ sizedMet enc Tryz.prog Tryz.f5 (OpenSpec.ofChange Rows.tuplesSeenSpec) false w args)
      (Rows.tuplesSeenSpec.post enc Tryz.prog Tryz.f5 false true false false) := by
  refine returnsInHanded_of_change_and (C := Tryz.checked) (X := fun w _ => laidMetH Tryz.prog Rows.tuplesSeenRow.laid w) (fun _ _ _ hh h => h.of_heap hh) own started (by kernel_rfl) Tryz.func5
    (ChangeSpec.witness_shaped (enc := enc) (C := Tryz.checked) (os := os) (X := fun w _ => laidMetH Tryz.prog Rows.tuplesSeenRow.laid w) false (World.laidAll Tryz.prog os Rows.tuplesSeenRow.laid) #[.agg #[.int .u8 0, .int .u32 0, .int .u16 0, .int .u32 0, .int .u16 0], .agg #[.int .u8 0, .int .u16 0, .bool false, .int .u8 0, .int .u8 0, .int .u32 0, .int .u32 0, .string ByteArray.empty, .int .u16 0, .int .u16 0, .int .u32 0, .int .u32 0, .int .u8 0, .int .u8 0, .int .u16 0, .int .u16 0, .int .u16 0, .string ByteArray.empty, .int .u8 0, .string ByteArray.empty], .string ByteArray.empty] 8 (World.laidAll_os _ _ _)
      (World.shaped_of_ZipB (by kernel_rfl) (by kernel_rfl)) (by kernel_rfl) (by kernel_rfl) (by kernel_rfl)
      (by rw [MakeChecks.laidMetH_plain _ _ _ (by kernel_rfl)]; exact laidMet_laidAll _ (by kernel_rfl) (by kernel_rfl))) ?_
  intro W base args ds gs before hval0 hW hcnd _ hL _
  have hval : ∀ (j : Nat) t v, Tryz.f5.params[j]? = some t → args[j]? = some v → Value.okWide Tryz.prog W .any base t v := hval0
  have hW' := hW
  obtain ⟨p, q, hA0, hV, rfl, hfz, hnd⟩ := hW
  have hA : DataW.TrodAll enc Tryz.prog W 0 (fun _ => true) true Tryz.f5.params.toList args.toList ds p := hA0
  rw [Tryz.params5] at hA hval
  obtain ⟨v0, vs0, d0, ds0, p0, q0, hargs, rfl, rfl, h0, r0⟩ := trodAll_cons hA
  obtain ⟨v1, vs1, d1, ds1, p1, q1, rfl, rfl, rfl, h1, r1⟩ := trodAll_cons r0
  obtain ⟨v2, vs2, d2, ds2, p2, q2, rfl, rfl, rfl, h2, r2⟩ := trodAll_cons r1
  obtain ⟨rfl, rfl, rfl⟩ := trodAll_nil r2
  obtain rfl : args = #[v0, v1, v2] := by cases args; simp_all
  obtain ⟨rfl, rfl⟩ := trodVars_none hV
  have k0 := h0
  have lt0 : ∀ x ∈ p0, x.block < W.heap.size := by obtain ⟨m, hm⟩ := k0; exact DataW.trod_lt m _ _ _ hm
  obtain ⟨cs0, n0, y0, rfl, hz0, hf0⟩ := nest_open Tryz.underlying29 (hval 0 29 v0 rfl rfl) h0
  obtain ⟨c0_0, c0_1, c0_2, c0_3, c0_4, rfl⟩ := array5n (hz0.trans (by kernel_rfl))
  obtain ⟨_, _, t0_1⟩ := nest_at Tryz.underlying29 hf0 0 _ rfl [c0_0] (by kernel_rfl)
  obtain ⟨z0_0, e0_0, -, w0_0⟩ := DataW.trod_int Tryz.underlying5 t0_1
  have x0_0 : c0_0 = .int .u8 z0_0 := by simpa using e0_0
  obtain ⟨_, _, t0_2⟩ := nest_at Tryz.underlying29 hf0 1 _ rfl [c0_1, c0_2] (by kernel_rfl)
  obtain ⟨_, _, t0_3⟩ := nest_at Tryz.underlying27 t0_2 0 _ rfl [c0_1] (by kernel_rfl)
  obtain ⟨z0_1, e0_1, -, w0_1⟩ := DataW.trod_int Tryz.underlying24 t0_3
  have x0_1 : c0_1 = .int .u32 z0_1 := by simpa using e0_1
  obtain ⟨_, _, t0_4⟩ := nest_at Tryz.underlying27 t0_2 1 _ rfl [c0_2] (by kernel_rfl)
  obtain ⟨z0_2, e0_2, -, w0_2⟩ := DataW.trod_int Tryz.underlying25 t0_4
  have x0_2 : c0_2 = .int .u16 z0_2 := by simpa using e0_2
  obtain ⟨_, _, t0_5⟩ := nest_at Tryz.underlying29 hf0 2 _ rfl [c0_3, c0_4] (by kernel_rfl)
  obtain ⟨_, _, t0_6⟩ := nest_at Tryz.underlying27 t0_5 0 _ rfl [c0_3] (by kernel_rfl)
  obtain ⟨z0_3, e0_3, -, w0_3⟩ := DataW.trod_int Tryz.underlying24 t0_6
  have x0_3 : c0_3 = .int .u32 z0_3 := by simpa using e0_3
  obtain ⟨_, _, t0_7⟩ := nest_at Tryz.underlying27 t0_5 1 _ rfl [c0_4] (by kernel_rfl)
  obtain ⟨z0_4, e0_4, -, w0_4⟩ := DataW.trod_int Tryz.underlying25 t0_7
  have x0_4 : c0_4 = .int .u16 z0_4 := by simpa using e0_4
  subst x0_0 x0_1 x0_2 x0_3 x0_4
  have k1 := h1
  have lt1 : ∀ x ∈ p1, x.block < W.heap.size := by obtain ⟨m, hm⟩ := k1; exact DataW.trod_lt m _ _ _ hm
  obtain ⟨cs1, n1, y1, rfl, hz1, hf1⟩ := nest_open Tryz.underlying51 (hval 1 51 v1 rfl rfl) h1
  obtain ⟨c1_0, c1_1, c1_2, c1_3, c1_4, c1_5, c1_6, c1_7, c1_8, c1_9, c1_10, c1_11, c1_12, c1_13, c1_14, c1_15, c1_16, c1_17, c1_18, c1_19, rfl⟩ := array20n (hz1.trans (by kernel_rfl))
  obtain ⟨_, _, t1_1⟩ := nest_at Tryz.underlying51 hf1 0 _ rfl [c1_0, c1_1, c1_2, c1_3, c1_4, c1_5, c1_6, c1_7] (by kernel_rfl)
  obtain ⟨_, _, t1_2⟩ := nest_at Tryz.underlying47 t1_1 0 _ rfl [c1_0] (by kernel_rfl)
  obtain ⟨z1_0, e1_0, -, w1_0⟩ := DataW.trod_int Tryz.underlying5 t1_2
  have x1_0 : c1_0 = .int .u8 z1_0 := by simpa using e1_0
  obtain ⟨_, _, t1_3⟩ := nest_at Tryz.underlying47 t1_1 1 _ rfl [c1_1] (by kernel_rfl)
  obtain ⟨z1_1, e1_1, -, w1_1⟩ := DataW.trod_int Tryz.underlying25 t1_3
  have x1_1 : c1_1 = .int .u16 z1_1 := by simpa using e1_1
  obtain ⟨_, _, t1_4⟩ := nest_at Tryz.underlying47 t1_1 2 _ rfl [c1_2] (by kernel_rfl)
  obtain ⟨z1_2, e1_2, -⟩ := DataW.trod_bool Tryz.underlying4 t1_4
  have x1_2 : c1_2 = .bool z1_2 := by simpa using e1_2
  obtain ⟨_, _, t1_5⟩ := nest_at Tryz.underlying47 t1_1 3 _ rfl [c1_3] (by kernel_rfl)
  obtain ⟨z1_3, e1_3, -, w1_3⟩ := DataW.trod_int Tryz.underlying5 t1_5
  have x1_3 : c1_3 = .int .u8 z1_3 := by simpa using e1_3
  obtain ⟨_, _, t1_6⟩ := nest_at Tryz.underlying47 t1_1 4 _ rfl [c1_4] (by kernel_rfl)
  obtain ⟨z1_4, e1_4, -, w1_4⟩ := DataW.trod_int Tryz.underlying5 t1_6
  have x1_4 : c1_4 = .int .u8 z1_4 := by simpa using e1_4
  obtain ⟨_, _, t1_7⟩ := nest_at Tryz.underlying47 t1_1 5 _ rfl [c1_5] (by kernel_rfl)
  obtain ⟨z1_5, e1_5, -, w1_5⟩ := DataW.trod_int Tryz.underlying24 t1_7
  have x1_5 : c1_5 = .int .u32 z1_5 := by simpa using e1_5
  obtain ⟨_, _, t1_8⟩ := nest_at Tryz.underlying47 t1_1 6 _ rfl [c1_6] (by kernel_rfl)
  obtain ⟨z1_6, e1_6, -, w1_6⟩ := DataW.trod_int Tryz.underlying24 t1_8
  have x1_6 : c1_6 = .int .u32 z1_6 := by simpa using e1_6
  obtain ⟨_, _, t1_9⟩ := nest_at Tryz.underlying47 t1_1 7 _ rfl [c1_7] (by kernel_rfl)
  obtain ⟨z1_7, e1_7, -, w1_7⟩ := DataW.trod_string Tryz.underlying9 t1_9
  have x1_7 : c1_7 = .string z1_7 := by simpa using e1_7
  obtain ⟨_, _, t1_10⟩ := nest_at Tryz.underlying51 hf1 1 _ rfl [c1_8, c1_9, c1_10, c1_11, c1_12, c1_13, c1_14, c1_15, c1_16, c1_17] (by kernel_rfl)
  obtain ⟨_, _, t1_11⟩ := nest_at Tryz.underlying49 t1_10 0 _ rfl [c1_8] (by kernel_rfl)
  obtain ⟨z1_8, e1_8, -, w1_8⟩ := DataW.trod_int Tryz.underlying25 t1_11
  have x1_8 : c1_8 = .int .u16 z1_8 := by simpa using e1_8
  obtain ⟨_, _, t1_12⟩ := nest_at Tryz.underlying49 t1_10 1 _ rfl [c1_9] (by kernel_rfl)
  obtain ⟨z1_9, e1_9, -, w1_9⟩ := DataW.trod_int Tryz.underlying25 t1_12
  have x1_9 : c1_9 = .int .u16 z1_9 := by simpa using e1_9
  obtain ⟨_, _, t1_13⟩ := nest_at Tryz.underlying49 t1_10 2 _ rfl [c1_10] (by kernel_rfl)
  obtain ⟨z1_10, e1_10, -, w1_10⟩ := DataW.trod_int Tryz.underlying23 t1_13
  have x1_10 : c1_10 = .int .u32 z1_10 := by simpa using e1_10
  obtain ⟨_, _, t1_14⟩ := nest_at Tryz.underlying49 t1_10 3 _ rfl [c1_11] (by kernel_rfl)
  obtain ⟨z1_11, e1_11, -, w1_11⟩ := DataW.trod_int Tryz.underlying23 t1_14
  have x1_11 : c1_11 = .int .u32 z1_11 := by simpa using e1_11
  obtain ⟨_, _, t1_15⟩ := nest_at Tryz.underlying49 t1_10 4 _ rfl [c1_12] (by kernel_rfl)
  obtain ⟨z1_12, e1_12, -, w1_12⟩ := DataW.trod_int Tryz.underlying5 t1_15
  have x1_12 : c1_12 = .int .u8 z1_12 := by simpa using e1_12
  obtain ⟨_, _, t1_16⟩ := nest_at Tryz.underlying49 t1_10 5 _ rfl [c1_13] (by kernel_rfl)
  obtain ⟨z1_13, e1_13, -, w1_13⟩ := DataW.trod_int Tryz.underlying5 t1_16
  have x1_13 : c1_13 = .int .u8 z1_13 := by simpa using e1_13
  obtain ⟨_, _, t1_17⟩ := nest_at Tryz.underlying49 t1_10 6 _ rfl [c1_14] (by kernel_rfl)
  obtain ⟨z1_14, e1_14, -, w1_14⟩ := DataW.trod_int Tryz.underlying25 t1_17
  have x1_14 : c1_14 = .int .u16 z1_14 := by simpa using e1_14
  obtain ⟨_, _, t1_18⟩ := nest_at Tryz.underlying49 t1_10 7 _ rfl [c1_15] (by kernel_rfl)
  obtain ⟨z1_15, e1_15, -, w1_15⟩ := DataW.trod_int Tryz.underlying25 t1_18
  have x1_15 : c1_15 = .int .u16 z1_15 := by simpa using e1_15
  obtain ⟨_, _, t1_19⟩ := nest_at Tryz.underlying49 t1_10 8 _ rfl [c1_16] (by kernel_rfl)
  obtain ⟨z1_16, e1_16, -, w1_16⟩ := DataW.trod_int Tryz.underlying25 t1_19
  have x1_16 : c1_16 = .int .u16 z1_16 := by simpa using e1_16
  obtain ⟨_, _, t1_20⟩ := nest_at Tryz.underlying49 t1_10 9 _ rfl [c1_17] (by kernel_rfl)
  obtain ⟨z1_17, e1_17, -, w1_17⟩ := DataW.trod_string Tryz.underlying9 t1_20
  have x1_17 : c1_17 = .string z1_17 := by simpa using e1_17
  obtain ⟨_, _, t1_21⟩ := nest_at Tryz.underlying51 hf1 2 _ rfl [c1_18] (by kernel_rfl)
  obtain ⟨z1_18, e1_18, -, w1_18⟩ := DataW.trod_int Tryz.underlying5 t1_21
  have x1_18 : c1_18 = .int .u8 z1_18 := by simpa using e1_18
  obtain ⟨_, _, t1_22⟩ := nest_at Tryz.underlying51 hf1 3 _ rfl [c1_19] (by kernel_rfl)
  obtain ⟨z1_19, e1_19, -, w1_19⟩ := DataW.trod_string Tryz.underlying9 t1_22
  have x1_19 : c1_19 = .string z1_19 := by simpa using e1_19
  subst x1_0 x1_1 x1_2 x1_3 x1_4 x1_5 x1_6 x1_7 x1_8 x1_9 x1_10 x1_11 x1_12 x1_13 x1_14 x1_15 x1_16 x1_17 x1_18 x1_19
  obtain ⟨a2, rfl, rfl, rfl, w2⟩ := open_string Tryz.underlying9 (hval 2 9 v2 rfl rfl) h2
  clear hA0 hval0
  have ht := tab_of_laid (by kernel_rfl) hL
  refine (walk_ tupOk z0_0 z0_1 z0_2 z0_3 z0_4 z1_0 z1_1 z1_2 z1_3 z1_4 z1_5 z1_6 z1_7 z1_8 z1_9 z1_10 z1_11 z1_12 z1_13 z1_14 z1_15 z1_16 z1_17 z1_18 z1_19 a2 W ht w0_0 w0_1 w0_2 w0_3 w0_4 w1_0 w1_1 w1_3 w1_4 w1_5 w1_6 w1_7 w1_8 w1_9 w1_10 w1_11 w1_12 w1_13 w1_14 w1_15 w1_16 w1_17 w1_18 w1_19 w2).mono fun e W' ⟨he, bel⟩ => ?_
  subst he
  exact ⟨_, rfl, _, _, _, [], _, [], hW', trodAll_mk1 (shut_bool Tryz.underlying4 _), (trodAll_cons_mk (Below.trod laidOut (by kernel_rfl) (of_decide_eq_true (by kernel_rfl)) k0 bel lt0) (trodAll_cons_mk (Below.trod laidOut (by kernel_rfl) (of_decide_eq_true (by kernel_rfl)) k1 bel lt1) (trodAll_cons_mk (shut_string Tryz.underlying9 w2) trodAll_mk0))), rfl, bel.frame _, fun h => by cases h⟩
theorem over : Rows.tuplesSeenRow.holds Tryz.pinned (OpenSpec.ofChange Rows.tuplesSeenSpec) :=
  OpenClaim.holds_of_wide 5 Tryz.f5 rfl rfl rfl rfl rfl rfl rfl ⟨rfl, rfl, rfl, rfl, rfl⟩ rfl rfl rfl rfl rfl (by kernel_rfl) Tryz.func5 (by kernel_rfl)
    (of_decide_eq_true (by kernel_rfl)) (by unfold Func.isWrapper; first | (rw [if_pos (by decide +kernel)]; kernel_rfl) | (rw [if_neg (by decide +kernel)]; exact ⟨rfl, rfl⟩))
    (fun os started H enc _ => lifted os started H enc)
/-- The statement: the tied card. -/
theorem proved : Rows.TuplesSeenCardSaid :=
  Claim7.holds_tied_plain_at .later [] Rows.tuplesSeenCard.laidKinds true Rows.tuplesSeenCard.stood.harness Rows.tuplesSeenCard.stood.looks over (fun _ h => by cases h) (by kernel_rfl) (fun _ h => by cases h) tuplesSeen_row_tie rfl ⟨rfl, rfl⟩ (by kernel_rfl) rfl
    (fun f fn hf hfn => by
      obtain rfl : f = 5 := Option.some.inj ((show Tryz.prog.funcNamed "porter/porterlaw08.TuplesSeen" = some 5 by kernel_rfl).symm.trans hf) |>.symm
      obtain rfl : fn = Tryz.f5 := (Option.some.inj (Tryz.func5.symm.trans hfn)).symm
      exact ⟨by kernel_rfl, fun j t ht => by
        rw [Tryz.params5] at ht
        have hm : t ∈ [29, 51, 9] := by simpa using Array.mem_of_getElem? ht
        have hall : ([29, 51, 9].all fun u => !Tryz.prog.wantsStandIn u) = true := by kernel_rfl
        exact (show Tryz.prog.wantsStandIn t = false by simpa using List.all_eq_true.1 hall t hm)⟩)
    (by kernel_rfl)
end Go.Proofs.YtidkgnanfhdhdaaGreatDoor.TuplesSeen
