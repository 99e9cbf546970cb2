/- WheelsNone (layer 15): what it asks of wheels that are none; its walk. Written by gen_wheelsnone.py. -/
import Derived.Test.YtmephmjlajaopaaWd
namespace Go.Proofs.Ytmephmjlajaopaa
set_option linter.unusedVariables false
set_option linter.unusedSimpArgs false
open Go.ChangeShapes Go.WideShapes Go.ChangeAt Go.RowKit Go.PlainAid
attribute [local go_sem ↓] Go.wp_at_zero Go.wp_at_succ
/-- A pointer that is nil, or at a wheel that New did not make. -/
structure WhNone where
  No : World → Value → Prop
  Z : Array Value
  nil : ∀ w, No w (.pointer none)
  zrun : ∀ u : World, (Sem.run Try.prog (zeroValue 55) u) = .ok (.agg Z) u
  zero : ∀ w : World, No (w.alloc (.cells Z 55)) (.pointer (some ⟨w.heap.size, 0, none⟩))
  on : ∀ {w w' : World} {v : Value}, No w v → Below w.heap.size w w' → No w' v
  turns : ∀ v (n : Int) w, No w v → Calls Try.prog 14 #[v, .int .i64 n] w fun e w' => ∃ a c, e = .returned (.tuple #[.slice a 0 c, .int .i64 1]) ∧ Below w.heap.size w w'
  dues : ∀ v (s g : Int) w, No w v → Says Try.prog 19 #[v, .agg #[.int .i64 s, .int .u32 g]] w (.tuple #[.int .i64 0, .bool false])
  nexts : ∀ v w, No w v → Says Try.prog 21 #[v] w (.tuple #[.int .i64 0, .bool false])
  puts : ∀ v (s g n : Int) w, No w v → Says Try.prog 17 #[v, .agg #[.int .i64 s, .int .u32 g], .int .i64 n] w (.int .i64 1)
  cuts : ∀ v (s g : Int) w, No w v → Says Try.prog 12 #[v, .agg #[.int .i64 s, .int .u32 g]] w (.bool false)
  counts : ∀ v w, No w v → Says Try.prog 23 #[v] w (.int .i64 0)
namespace WheelsNone
set_option maxHeartbeats 4000000 in
set_option maxRecDepth 100000 in
theorem walk_ (K : WheelsOk) (N : WhNone) (s g n : Int) (w : World) (hs : (Lit.int .i64 s).wf = true) (hg : (Lit.int .u32 g).wf = true) (hn : (Lit.int .i64 n).wf = true) :
    Calls Try.prog 4 #[.agg #[.int .i64 s, .int .u32 g], .int .i64 n] w fun e w' => e = .returned (.bool true) ∧ Below w.heap.size w w' := by
  have zr := N.zrun
  clear hs hg hn
  go_enter Try.func4, Try.ntmps4
  go_upto_region 3 with fail
  have BA : Below w.heap.size w (w.alloc (.cells #[.int .i64 s, .int .u32 g] 34)) := (Below.refl _ _).alloc (Nat.le_refl _) _
  have ha : (w.alloc (.cells #[.int .i64 s, .int .u32 g] 34)).cell? ⟨w.heap.size, 0, none⟩ = some (.int .i64 s) := by simp [go_sem]
  have hb : (w.alloc (.cells #[.int .i64 s, .int .u32 g] 34)).cell? ⟨w.heap.size, 1, none⟩ = some (.int .u32 g) := by simp [go_sem]
  have hz : w.heap.size < (w.alloc (.cells #[.int .i64 s, .int .u32 g] 34)).heap.size := by simp
  obtain ⟨u, hu⟩ : ∃ x_ : World, x_ = w.alloc (.cells #[.int .i64 s, .int .u32 g] 34) := ⟨_, rfl⟩
  rw [← hu] at BA ha hb hz ⊢
  clear hu
  have HC := Lib.hid (And.intro ha (And.intro hb hz))
  clear ha hb hz
  go_loopw [5, 6] (fun v si wr => ∃ k : Nat, k ≤ 2 ∧ si = .int .i64 (k : Int) ∧ N.No wr v ∧ Below u.heap.size u wr) (fun _ si _ => 2 - (intOf si).toNat)
  case atStart => exact ⟨0, Nat.zero_le _, rfl, N.nil _, Below.refl _ _⟩
  case round =>
    obtain ⟨k, hk, rfl, n0, B0⟩ := hrel
    by_cases hlt : k < 2
    · have t1 : decide ((k : Int) < 2) = true := by simp; omega
      have EW := Lib.hid (step_15 (j := k) (Nat.lt_of_le_of_lt hk (by decide)))
      have HL := Lib.hid hlt
      clear hlt hk
      have d0 := (B0.cell (p := ⟨w.heap.size, 0, none⟩) HC.out.2.2).trans HC.out.1
      have d1 := (B0.cell (p := ⟨w.heap.size, 1, none⟩) HC.out.2.2).trans HC.out.2.1
      go_wp2_with fail
      clear d0 d1
      refine (N.turns _ n _ n0).mono ?_; rintro e w1 ⟨a1, c1, rfl, x1⟩
      have n1 := N.on n0 x1
      have B1 := B0.trans (x1.mono B0.size)
      clear n0 B0 x1
      have d0 := (B1.cell (p := ⟨w.heap.size, 0, none⟩) HC.out.2.2).trans HC.out.1
      have d1 := (B1.cell (p := ⟨w.heap.size, 1, none⟩) HC.out.2.2).trans HC.out.2.1
      go_wp2_with fail
      clear d0 d1
      refine (N.dues _ s g _ n1).mono ?_; rintro e w2 ⟨rfl, x2⟩
      have n2 := N.on n1 x2
      have B2 := B1.trans (x2.mono B1.size)
      clear n1 B1 x2
      have d0 := (B2.cell (p := ⟨w.heap.size, 0, none⟩) HC.out.2.2).trans HC.out.1
      have d1 := (B2.cell (p := ⟨w.heap.size, 1, none⟩) HC.out.2.2).trans HC.out.2.1
      go_wp2_with fail
      clear d0 d1
      refine (N.nexts _ _ n2).mono ?_; rintro e w3 ⟨rfl, x3⟩
      have n3 := N.on n2 x3
      have B3 := B2.trans (x3.mono B2.size)
      clear n2 B2 x3
      have d0 := (B3.cell (p := ⟨w.heap.size, 0, none⟩) HC.out.2.2).trans HC.out.1
      have d1 := (B3.cell (p := ⟨w.heap.size, 1, none⟩) HC.out.2.2).trans HC.out.2.1
      go_wp2_with fail
      clear d0 d1
      refine (N.puts _ s g n _ n3).mono ?_; rintro e w4 ⟨rfl, x4⟩
      have n4 := N.on n3 x4
      have B4 := B3.trans (x4.mono B3.size)
      clear n3 B3 x4
      have d0 := (B4.cell (p := ⟨w.heap.size, 0, none⟩) HC.out.2.2).trans HC.out.1
      have d1 := (B4.cell (p := ⟨w.heap.size, 1, none⟩) HC.out.2.2).trans HC.out.2.1
      go_wp2_with fail
      clear d0 d1
      refine (N.cuts _ s g _ n4).mono ?_; rintro e w5 ⟨rfl, x5⟩
      have n5 := N.on n4 x5
      have B5 := B4.trans (x5.mono B4.size)
      clear n4 B4 x5
      have d0 := (B5.cell (p := ⟨w.heap.size, 0, none⟩) HC.out.2.2).trans HC.out.1
      have d1 := (B5.cell (p := ⟨w.heap.size, 1, none⟩) HC.out.2.2).trans HC.out.2.1
      go_wp2_with fail
      clear d0 d1
      refine (N.counts _ _ n5).mono ?_; rintro e w6 ⟨rfl, x6⟩
      have n6 := N.on n5 x6
      have B6 := B5.trans (x6.mono B5.size)
      clear n5 B5 x6
      have x7 : Below w6.heap.size w6 (w6.alloc (.cells N.Z 55)) := (Below.refl _ _).alloc (Nat.le_refl _) _
      have nE := Lib.hid (N.zero w6)
      have BE := Lib.hid (B6.trans (x7.mono B6.size))
      clear n6 B6 x7
      go_wp2
      go_roundw
      case rel => exact ⟨k + 1, HL.out, by simp [EW.out], nE.out, BE.out⟩
      case measure => first | exact step_meas15 EW.out (step_less15 HL.out) | (simp [EW.out]; exact step_less15 HL.out) | exact step_less15 HL.out
    · obtain rfl : k = 2 := Nat.le_antisymm hk (Nat.le_of_not_lt hlt)
      have t1 : decide ((2 : Int) < 2) = false := by decide
      clear n0
      go_wp2_with fail
      refine (timed_ K _).mono ?_; rintro e w9 ⟨rfl, x9⟩
      have B9 := B0.trans (x9.mono B0.size)
      clear B0 x9
      go_wp2
      go_ret
      exact ⟨rfl, BA.trans (B9.mono BA.size)⟩
end WheelsNone
end Go.Proofs.Ytmephmjlajaopaa
