/- EpochsNone (layer 14): what it asks of epochs that are none; its walk. Written by gen_epochsnone.py. -/
import Derived.Test.YtghicdajcmkfjaaEpoW
import Derived.Test.YtghicdajcmkfjaaEpoS
namespace Go.Proofs.Ytghicdajcmkfjaa
set_option linter.unusedVariables false
set_option linter.unusedSimpArgs false
open Go.ChangeShapes Go.WideShapes Go.ChangeAt Go.RowKit Go.PlainAid
attribute [local go_sem ↓] Go.wp_at_zero Go.wp_at_succ
/-- A pointer that is nil, or at epochs that New did not make. -/
structure EpNone where
  No : World → Value → Prop
  Z : Array Value
  nil : ∀ w, No w (.pointer none)
  zrun : ∀ u : World, (Sem.run Try.prog (zeroValue 44) u) = .ok (.agg Z) u
  zero : ∀ w : World, No (w.alloc (.cells Z 44)) (.pointer (some ⟨w.heap.size, 0, none⟩))
  on : ∀ {w w' : World} {v : Value}, No w v → Below w.heap.size w w' → No w' v
  nows : ∀ v w, No w v → Says Try.prog 22 #[v] w (.int .i64 0)
  enters : ∀ v (i : Int) w, No w v → Says Try.prog 11 #[v, .int .i64 i] w (.int .i64 1)
  leaves : ∀ v (i : Int) w, No w v → Says Try.prog 13 #[v, .int .i64 i] w (.int .i64 1)
  ins : ∀ v (i : Int) w, No w v → Says Try.prog 24 #[v, .int .i64 i] w (.bool false)
  seens : ∀ v (i : Int) w, No w v → Says Try.prog 26 #[v, .int .i64 i] w (.int .i64 (-1))
  advs : ∀ v w, No w v → Says Try.prog 15 #[v] w (.bool false)
  defers : ∀ v (i : Int) w, No w v → Says Try.prog 20 #[v, .int .i64 i] w (.int .i64 1)
  ripes : ∀ v w, No w v → Calls Try.prog 18 #[v] w fun e w' => ∃ a cap, e = .returned (.slice a 0 cap) ∧ Below w.heap.size w w'
  waits : ∀ v w, No w v → Says Try.prog 28 #[v] w (.int .i64 0)
namespace EpochsNone
set_option maxHeartbeats 4000000 in
set_option maxRecDepth 100000 in
theorem walk_ (K : EpochsOk) (N : EpNone) (wk sl : Int) (w : World) (hw : (Lit.int .i64 wk).wf = true) (hs : (Lit.int .i64 sl).wf = true) :
    Calls Try.prog 4 #[.int .i64 wk, .int .i64 sl] w fun e w' => e = .returned (.bool true) ∧ Below w.heap.size w w' := by
  have zr := N.zrun
  clear hw hs
  go_enter Try.func4, Try.ntmps4
  go_upto_region 3 with fail
  go_loopw [5, 6] (fun v si wr => ∃ k : Nat, k ≤ 2 ∧ si = .int .i64 (k : Int) ∧ N.No wr v ∧ Below w.heap.size w wr) (fun _ si _ => 2 - (intOf si).toNat)
  case atStart => exact ⟨0, Nat.zero_le _, rfl, N.nil _, Below.refl _ _⟩
  case round =>
    obtain ⟨k, hk, rfl, n0, B0⟩ := hrel
    by_cases hlt : k < 2
    · have t1 : decide ((k : Int) < 2) = true := by simp; omega
      have EW := Lib.hid (step_14 (j := k) (Nat.lt_of_le_of_lt hk (by decide)))
      have HL := Lib.hid hlt
      clear hlt hk
      go_wp2_with fail
      refine (N.nows _ _ n0).mono ?_; rintro e w1 ⟨rfl, x1⟩
      have n1 := N.on n0 x1
      have B1 := B0.trans (x1.mono B0.size)
      clear n0 B0 x1
      go_wp2_with fail
      refine (N.enters _ wk _ n1).mono ?_; rintro e w2 ⟨rfl, x2⟩
      have n2 := N.on n1 x2
      have B2 := B1.trans (x2.mono B1.size)
      clear n1 B1 x2
      go_wp2_with fail
      refine (N.leaves _ wk _ n2).mono ?_; rintro e w3 ⟨rfl, x3⟩
      have n3 := N.on n2 x3
      have B3 := B2.trans (x3.mono B2.size)
      clear n2 B2 x3
      go_wp2_with fail
      refine (N.ins _ wk _ n3).mono ?_; rintro e w4 ⟨rfl, x4⟩
      have n4 := N.on n3 x4
      have B4 := B3.trans (x4.mono B3.size)
      clear n3 B3 x4
      go_wp2_with fail
      refine (N.seens _ wk _ n4).mono ?_; rintro e w5 ⟨rfl, x5⟩
      have n5 := N.on n4 x5
      have B5 := B4.trans (x5.mono B4.size)
      clear n4 B4 x5
      go_wp2_with fail
      refine (N.advs _ _ n5).mono ?_; rintro e w6 ⟨rfl, x6⟩
      have n6 := N.on n5 x6
      have B6 := B5.trans (x6.mono B5.size)
      clear n5 B5 x6
      go_wp2_with fail
      refine (N.defers _ sl _ n6).mono ?_; rintro e w7 ⟨rfl, x7⟩
      have n7 := N.on n6 x7
      have B7 := B6.trans (x7.mono B6.size)
      clear n6 B6 x7
      go_wp2_with fail
      refine (N.ripes _ _ n7).mono ?_; rintro e w8 ⟨a8, c8, rfl, x8⟩
      have n8 := N.on n7 x8
      have B8 := B7.trans (x8.mono B7.size)
      clear n7 B7 x8
      go_wp2_with fail
      refine (N.waits _ _ n8).mono ?_; rintro e w9 ⟨rfl, x9⟩
      have n9 := N.on n8 x9
      have B9 := B8.trans (x9.mono B8.size)
      clear n8 B8 x9
      have x10 : Below w9.heap.size w9 (w9.alloc (.cells N.Z 44)) := (Below.refl _ _).alloc (Nat.le_refl _) _
      have nE := Lib.hid (N.zero w9)
      have BE := Lib.hid (B9.trans (x10.mono B9.size))
      clear n9 B9 x10
      go_wp2
      go_roundw
      case rel => exact ⟨k + 1, HL.out, by simp [EW.out], nE.out, BE.out⟩
      case measure => first | exact step_meas14 EW.out (step_less14 HL.out) | (simp [EW.out]; exact step_less14 HL.out) | exact step_less14 HL.out
    · obtain rfl : k = 2 := Nat.le_antisymm hk (Nat.le_of_not_lt hlt)
      have t1 : decide ((2 : Int) < 2) = false := by decide
      clear n0
      go_wp2_with fail
      refine (waited_ K _).mono ?_; rintro e w9 ⟨rfl, x9⟩
      have B9 := B0.trans (x9.mono B0.size)
      clear B0 x9
      go_wp2
      go_ret
      exact ⟨rfl, B9⟩
end EpochsNone
end Go.Proofs.Ytghicdajcmkfjaa
