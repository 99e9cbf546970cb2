/- What SlabNone asks of a slab that is none (layer 13); its walk. -/
import Derived.Test.YtlnbjpabcldmnaaSlaS
import Derived.Test.YtlnbjpabcldmnaaSlaQ
import Derived.Deep.DeepCutAuto
namespace Go.Proofs.Ytlnbjpabcldmnaa
set_option linter.unusedVariables false
set_option linter.unusedSimpArgs false
open Go.ChangeShapes Go.WideShapes Go.ChangeAt Go.RowKit Go.PlainAid
attribute [local go_sem ↓] Go.wp_at_zero Go.wp_at_succ
/-- A pointer that is nil, or at a slab that New did not make. -/
structure NoneOk where
  No : World → Value → Prop
  Z : Array Value
  nil : ∀ w, No w (.pointer none)
  zrun : ∀ u : World, (Sem.run Try.prog (zeroValue 51) u) = .ok (.agg Z) u
  zero : ∀ w : World, No (w.alloc (.cells Z 51)) (.pointer (some ⟨w.heap.size, 0, none⟩))
  on : ∀ {w w' : World} {v : Value}, No w v → Below w.heap.size w w' → No w' v
  takes : ∀ v w, No w v → Calls Try.prog 10 #[v] w fun e w' => e = .returned (.tuple #[.agg #[.int .i64 0, .int .u32 0], .int .i64 1]) ∧ Below w.heap.size w w'
  counts : ∀ v w, No w v → Calls Try.prog 18 #[v] w fun e w' => e = .returned (.tuple #[.int .i64 0, .int .i64 0, .int .i64 0]) ∧ Below w.heap.size w w'
  lives : ∀ v (i : Int) (g : Nat) w, No w v → g < 4294967296 → Calls Try.prog 22 #[v, .agg #[.int .i64 i, .int .u32 (g : Int)]] w fun e w' => e = .returned (.bool false) ∧ Below w.heap.size w w'
  gives : ∀ v (i : Int) (g : Nat) w, No w v → g < 4294967296 → Calls Try.prog 12 #[v, .agg #[.int .i64 i, .int .u32 (g : Int)]] w fun e w' => e = .returned (.int .i64 1) ∧ Below w.heap.size w w'
  retires : ∀ v (i : Int) (g : Nat) w, No w v → g < 4294967296 → Calls Try.prog 14 #[v, .agg #[.int .i64 i, .int .u32 (g : Int)]] w fun e w' => e = .returned (.int .i64 1) ∧ Below w.heap.size w w'
  frees : ∀ v (i : Int) w, No w v → Calls Try.prog 16 #[v, .int .i64 i] w fun e w' => e = .returned (.int .i64 1) ∧ Below w.heap.size w w'
  states : ∀ v (i : Int) w, No w v → Calls Try.prog 20 #[v, .int .i64 i] w fun e w' => e = .returned (.int .i64 (-1)) ∧ Below w.heap.size w w'
  sizes : ∀ v w, No w v → Calls Try.prog 24 #[v] w fun e w' => e = .returned (.int .i64 0) ∧ Below w.heap.size w w'
namespace SlabNone
set_option maxHeartbeats 4000000 in
set_option maxRecDepth 100000 in
theorem walkN (K : SlabOk) (N : NoneOk) (hs i : Int) (g : Nat) (w : World) (hg : g < 4294967296) :
    Calls Try.prog 4 #[.agg #[.int .i64 hs, .int .u32 (g : Int)], .int .i64 i] w fun e w' => e = .returned (.bool true) ∧ Below w.heap.size w w' := by
  have zr := N.zrun
  go_enter Try.func4, Try.ntmps4
  go_upto_region 3 with fail
  have B1 : Below w.heap.size w (w.alloc (.cells #[.int .i64 hs, .int .u32 (g : Int)] 34)) := (Below.refl _ _).alloc (Nat.le_refl _) _
  have H1 := Two.make w (.int .i64 hs) (.int .u32 (g : Int)) 34
  obtain ⟨w1, hw1⟩ : ∃ w1, w1 = w.alloc (.cells #[.int .i64 hs, .int .u32 (g : Int)] 34) := ⟨_, rfl⟩
  rw [← hw1] at B1 H1 ⊢
  clear hw1
  go_loopw [5, 6] (fun v si wr => ∃ k : Nat, k ≤ 2 ∧ si = .int .i64 (k : Int) ∧ N.No wr v ∧ Two wr w.heap.size (.int .i64 hs) (.int .u32 (g : Int)) ∧ Below w.heap.size w wr) (fun _ si _ => 2 - (intOf si).toNat)
  case atStart => exact ⟨0, Nat.zero_le _, rfl, N.nil _, H1, B1⟩
  case round =>
    obtain ⟨k, hk, rfl, hn, H2, B2⟩ := hrel
    clear H1 B1
    by_cases hlt : k < 2
    · have t1 : decide ((k : Int) < 2) = true := lt_two hlt
      have ew : wrap64 ((k : Int) + 1) = (k : Int) + 1 := step_64 (Nat.lt_trans hlt (by decide))
      have HLT := Lib.hid hlt
      clear hlt hk
      go_wp2_with fail
      refine (N.takes _ _ hn).mono ?_; rintro e w2 ⟨rfl, x2⟩
      have n2 := N.on hn x2
      have H3 := H2.on x2
      have B3 := B2.trans (x2.mono B2.size)
      clear hn H2 B2 x2
      go_wp2_with fail
      have A4 := Two.make w2 (.int .i64 0) (.int .u32 0) 34
      have x4 : Below w2.heap.size w2 (w2.alloc (.cells #[.int .i64 0, .int .u32 0] 34)) := (Below.refl _ _).alloc (Nat.le_refl _) _
      have n4 := N.on n2 x4
      have H4 := H3.on x4
      have B4 := B3.trans (x4.mono B3.size)
      obtain ⟨w4, hw4⟩ : ∃ x_ : World, x_ = w2.alloc (.cells #[.int .i64 0, .int .u32 0] 34) := ⟨_, rfl⟩
      rw [← hw4] at A4 n4 H4 B4 ⊢
      clear hw4 x4 n2 H3 B3
      refine (N.counts _ _ n4).mono ?_; rintro e w5 ⟨rfl, x5⟩
      have A5 := A4.on x5
      have n5 := N.on n4 x5
      have H5 := H4.on x5
      have B5 := B4.trans (x5.mono B4.size)
      clear A4 n4 H4 B4 x5
      obtain ⟨_, a0, a1⟩ := id A5
      obtain ⟨_, h5_0, h5_1⟩ := id H5
      go_wp2_with fail
      refine (N.lives _ hs g _ n5 hg).mono ?_; rintro e w6 ⟨rfl, x6⟩
      have n6 := N.on n5 x6
      have H6 := H5.on x6
      have B6 := B5.trans (x6.mono B5.size)
      clear n5 H5 B5 x6 h5_0 h5_1 a0 a1 A5
      obtain ⟨_, h6_0, h6_1⟩ := id H6
      go_wp2_with fail
      refine (N.gives _ hs g _ n6 hg).mono ?_; rintro e w7 ⟨rfl, x7⟩
      have n7 := N.on n6 x7
      have H7 := H6.on x7
      have B7 := B6.trans (x7.mono B6.size)
      clear n6 H6 B6 x7 h6_0 h6_1
      obtain ⟨_, h7_0, h7_1⟩ := id H7
      go_wp2_with fail
      refine (N.retires _ hs g _ n7 hg).mono ?_; rintro e w8 ⟨rfl, x8⟩
      have n8 := N.on n7 x8
      have H8 := H7.on x8
      have B8 := B7.trans (x8.mono B7.size)
      clear n7 H7 B7 x8 h7_0 h7_1
      obtain ⟨_, h8_0, h8_1⟩ := id H8
      go_wp2_with fail
      refine (N.frees _ i _ n8).mono ?_; rintro e w9 ⟨rfl, x9⟩
      have n9 := N.on n8 x9
      have H9 := H8.on x9
      have B9 := B8.trans (x9.mono B8.size)
      clear n8 H8 B8 x9 h8_0 h8_1
      obtain ⟨_, h9_0, h9_1⟩ := id H9
      go_wp2_with fail
      refine (N.states _ i _ n9).mono ?_; rintro e w10 ⟨rfl, x10⟩
      have n10 := N.on n9 x10
      have H10 := H9.on x10
      have B10 := B9.trans (x10.mono B9.size)
      clear n9 H9 B9 x10 h9_0 h9_1
      obtain ⟨_, h10_0, h10_1⟩ := id H10
      go_wp2_with fail
      refine (N.sizes _ _ n10).mono ?_; rintro e w11 ⟨rfl, x11⟩
      have n11 := N.on n10 x11
      have H11 := H10.on x11
      have B11 := B10.trans (x11.mono B10.size)
      clear n10 H10 B10 x11 h10_0 h10_1
      have x12 : Below w11.heap.size w11 (w11.alloc (.cells N.Z 51)) := (Below.refl _ _).alloc (Nat.le_refl _) _
      have n12 := N.zero w11
      have H12 := H11.on x12
      have B12 := B11.trans (x12.mono B11.size)
      clear n11 H11 B11 x12
      go_wp2
      go_roundw
      case rel => exact ⟨k + 1, HLT.out, by simp [ew], n12, H12, B12⟩
      case measure => first | exact step_meas ew (step_less HLT.out) | exact step_less HLT.out
    · obtain rfl : k = 2 := Nat.le_antisymm hk (Nat.le_of_not_lt hlt)
      have t1 : decide ((2 : Int) < 2) = false := by decide
      clear hn H2
      go_wp2_with fail
      refine (slotted_ K _).mono ?_; rintro e w9 ⟨rfl, x9⟩
      have B9 := B2.trans (x9.mono B2.size)
      clear B2 x9
      go_wp2
      go_ret
      exact ⟨rfl, B9⟩
end SlabNone
end Go.Proofs.Ytlnbjpabcldmnaa
