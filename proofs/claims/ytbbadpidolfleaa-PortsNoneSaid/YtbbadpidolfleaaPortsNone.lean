/- PortsNone (layer 16): its walk. Written by gen_portsnone.py. -/
import Derived.Test.YtbbadpidolfleaaVg
import Derived.Test.YtbbadpidolfleaaPoN
import Derived.Test.YtbbadpidolfleaaPzR
namespace Go.Proofs.Ytbbadpidolfleaa
set_option linter.unusedVariables false
set_option linter.unusedSimpArgs false
open Go.ChangeShapes Go.WideShapes Go.ChangeAt Go.RowKit Go.PlainAid
attribute [local go_sem ↓] Go.wp_at_zero Go.wp_at_succ
namespace PortsNone
set_option maxHeartbeats 8000000 in
set_option maxRecDepth 100000 in
theorem run_ (K : PortsOk) (N : PoNone) (x : Ac) (w : World) :
    Calls Try.prog 5 #[.agg #[.int .u8 x.kd, .int .u8 x.pr, .int .u8 x.inn, .int .u8 x.out, .int .u8 x.sp, .int .u8 x.w.pr, .int .u32 x.w.ii, .int .u16 x.w.ip, .int .u32 x.w.oi, .int .u16 x.w.fr, .int .u16 x.w.to, .int .u16 x.w.dr, .int .u32 x.fi, .int .u16 x.fp]] w fun e w' => e = .returned (.bool true) ∧ Below w.heap.size w w' := by
  have zr := N.zrun
  have BA : Below w.heap.size w (w.alloc (.cells #[.int .u8 x.kd, .int .u8 x.pr, .int .u8 x.inn, .int .u8 x.out, .int .u8 x.sp, .int .u8 x.w.pr, .int .u32 x.w.ii, .int .u16 x.w.ip, .int .u32 x.w.oi, .int .u16 x.w.fr, .int .u16 x.w.to, .int .u16 x.w.dr, .int .u32 x.fi, .int .u16 x.fp] 38)) := (Below.refl _ _).alloc (Nat.le_refl _) _
  have A0 := AcB.made w x 38
  have hz : w.heap.size < (w.alloc (.cells #[.int .u8 x.kd, .int .u8 x.pr, .int .u8 x.inn, .int .u8 x.out, .int .u8 x.sp, .int .u8 x.w.pr, .int .u32 x.w.ii, .int .u16 x.w.ip, .int .u32 x.w.oi, .int .u16 x.w.fr, .int .u16 x.w.to, .int .u16 x.w.dr, .int .u32 x.fi, .int .u16 x.fp] 38)).heap.size := by simp
  go_enter Try.func5, Try.ntmps5
  go_upto_region 3 with fail
  obtain ⟨u, hu⟩ : ∃ x_ : World, x_ = w.alloc (.cells #[.int .u8 x.kd, .int .u8 x.pr, .int .u8 x.inn, .int .u8 x.out, .int .u8 x.sp, .int .u8 x.w.pr, .int .u32 x.w.ii, .int .u16 x.w.ip, .int .u32 x.w.oi, .int .u16 x.w.fr, .int .u16 x.w.to, .int .u16 x.w.dr, .int .u32 x.fi, .int .u16 x.fp] 38) := ⟨_, rfl⟩
  rw [← hu] at BA A0 hz ⊢
  clear hu
  have HA := Lib.hid A0
  clear A0
  go_loopw [3, 4] (fun v si wr => ∃ k : Nat, k ≤ 2 ∧ si = .int .i64 (k : Int) ∧ N.No wr v ∧ Below u.heap.size u wr) (fun _ si _ => 2 - (intOf si).toNat)
  case atStart => exact ⟨0, Nat.zero_le _, rfl, N.nil _, Below.refl _ _⟩
  case round =>
    obtain ⟨k, hk, rfl, n0, B0⟩ := hrel
    by_cases hlt : k < 2
    · have t1 : decide ((k : Int) < 2) = true := by simp; omega
      have EW := Lib.hid (show wrap64 ((k : Int) + 1) = ((k + 1 : Nat) : Int) from by rw [IntWalk.wrap64_in _ (by omega)]; omega)
      have HL := Lib.hid hlt
      clear hlt hk
      have A0 := HA.out.on B0
      obtain ⟨_, d0, d1, d2, d3, d4, d5, d6, d7, d8, d9, d10, d11, d12, d13⟩ := id A0
      clear A0
      go_wp2_with fail
      clear d0 d1 d2 d3 d4 d5 d6 d7 d8 d9 d10 d11 d12 d13 
      refine (N.takes _ x.w _ n0).mono ?_; rintro e w1 ⟨rfl, x1⟩
      have n1 := N.on n0 x1
      have B1 := B0.trans (x1.mono B0.size)
      clear n0 B0 x1 
      go_upto_region 6 with fail
      have x2 : Below w1.heap.size w1 (w1.alloc (.cells #[.int .u32 0, .int .u16 0] 34)) := (Below.refl _ _).alloc (Nat.le_refl _) _
      have n2 := N.on n1 x2
      have B2 := B1.trans (x2.mono B1.size)
      have E2 := EpB.made w1 0 0 34
      clear n1 B1 x2 
      obtain ⟨w2, hw2⟩ : ∃ x_ : World, x_ = w1.alloc (.cells #[.int .u32 0, .int .u16 0] 34) := ⟨_, rfl⟩
      rw [← hw2] at n2 B2 E2 ⊢
      clear hw2
      obtain ⟨bE, hbE⟩ : ∃ b_, b_ = w1.heap.size := ⟨_, rfl⟩
      rw [← hbE] at E2 ⊢
      clear hbE
      have A2 := HA.out.on B2
      obtain ⟨_, d0, d1, d2, d3, d4, d5, d6, d7, d8, d9, d10, d11, d12, d13⟩ := id A2
      clear A2
      go_wp2_with fail
      clear d0 d1 d2 d3 d4 d5 d6 d7 d8 d9 d10 d11 d12 d13 
      have kk : Says _ _ _ w2 (.tuple #[.agg #[.int .u8 0, .int .u32 0, .int .u16 0, .int .u32 0, .int .u16 0, .int .i64 0, .int .i64 0], .bool false]) := N.ofs _ x.pr x.fi x.fp _ n2
      refine kk.mono ?_; rintro e w3 ⟨rfl, x3⟩
      clear kk
      have n3 := N.on n2 x3
      have B3 := B2.trans (x3.mono B2.size)
      have E3 := E2.on x3
      clear n2 B2 x3 E2
      go_upto_region 7 with fail
      have x4 : Below w3.heap.size w3 (w3.alloc (.cells #[.int .u8 0, .int .u32 0, .int .u16 0, .int .u32 0, .int .u16 0, .int .i64 0, .int .i64 0] 44)) := (Below.refl _ _).alloc (Nat.le_refl _) _
      have n4 := N.on n3 x4
      have B4 := B3.trans (x4.mono B3.size)
      have E4 := E3.on x4
      have R4 := RowB.none w3 44
      clear n3 B3 x4 E3
      obtain ⟨w4, hw4⟩ : ∃ x_ : World, x_ = w3.alloc (.cells #[.int .u8 0, .int .u32 0, .int .u16 0, .int .u32 0, .int .u16 0, .int .i64 0, .int .i64 0] 44) := ⟨_, rfl⟩
      rw [← hw4] at n4 B4 E4 R4 ⊢
      clear hw4
      obtain ⟨bR, hbR⟩ : ∃ b_, b_ = w3.heap.size := ⟨_, rfl⟩
      rw [← hbR] at R4 ⊢
      clear hbR
      have A4 := HA.out.on B4
      obtain ⟨_, d0, d1, d2, d3, d4, d5, d6, d7, d8, d9, d10, d11, d12, d13⟩ := id A4
      clear A4
      go_wp2_with fail
      clear d0 d1 d2 d3 d4 d5 d6 d7 d8 d9 d10 d11 d12 d13 
      have kk : Says _ _ _ w4 (.tuple #[.agg #[.int .u8 0, .int .u32 0, .int .u16 0, .int .u32 0, .int .u16 0, .int .i64 0, .int .i64 0], .bool false]) := N.owners _ x.pr x.fi x.fp _ n4
      refine kk.mono ?_; rintro e w5 ⟨rfl, x5⟩
      clear kk
      have n5 := N.on n4 x5
      have B5 := B4.trans (x5.mono B4.size)
      have E5 := E4.on x5
      have R5 := R4.on x5
      clear n4 B4 x5 E4 R4
      go_upto_region 8 with fail
      have x6 : Below w5.heap.size w5 (w5.alloc (.cells #[.int .u8 0, .int .u32 0, .int .u16 0, .int .u32 0, .int .u16 0, .int .i64 0, .int .i64 0] 44)) := (Below.refl _ _).alloc (Nat.le_refl _) _
      have n6 := N.on n5 x6
      have B6 := B5.trans (x6.mono B5.size)
      have E6 := E5.on x6
      have R6 := R5.on x6
      have Q6 := RowB.none w5 44
      clear n5 B5 x6 E5 R5
      obtain ⟨w6, hw6⟩ : ∃ x_ : World, x_ = w5.alloc (.cells #[.int .u8 0, .int .u32 0, .int .u16 0, .int .u32 0, .int .u16 0, .int .i64 0, .int .i64 0] 44) := ⟨_, rfl⟩
      rw [← hw6] at n6 B6 E6 R6 Q6 ⊢
      clear hw6
      obtain ⟨bQ, hbQ⟩ : ∃ b_, b_ = w5.heap.size := ⟨_, rfl⟩
      rw [← hbQ] at Q6 ⊢
      clear hbQ
      have A6 := HA.out.on B6
      obtain ⟨_, d0, d1, d2, d3, d4, d5, d6, d7, d8, d9, d10, d11, d12, d13⟩ := id A6
      clear A6
      obtain ⟨_, e0, e1, _⟩ := id E6
      obtain ⟨_, r0, r1, r2, r3, r4, r5, r6, _⟩ := id R6
      simp only [Ro.zero] at r0 r1 r2 r3 r4 r5 r6
      obtain ⟨_, q0, q1, q2, q3, q4, q5, q6, _⟩ := id Q6
      simp only [Ro.zero] at q0 q1 q2 q3 q4 q5 q6
      go_wp2_with fail
      clear d0 d1 d2 d3 d4 d5 d6 d7 d8 d9 d10 d11 d12 d13 e0 e1 r0 r1 r2 r3 r4 r5 r6 q0 q1 q2 q3 q4 q5 q6
      refine (N.fixes _ x.pr x.fi x.fp x.fi x.fp _ n6).mono ?_; rintro e w7 ⟨rfl, x7⟩
      have n7 := N.on n6 x7
      have B7 := B6.trans (x7.mono B6.size)
      have E7 := E6.on x7
      have R7 := R6.on x7
      have Q7 := Q6.on x7
      clear n6 B6 x7 E6 R6 Q6
      have A7 := HA.out.on B7
      obtain ⟨_, d0, d1, d2, d3, d4, d5, d6, d7, d8, d9, d10, d11, d12, d13⟩ := id A7
      clear A7
      obtain ⟨_, e0, e1, _⟩ := id E7
      obtain ⟨_, r0, r1, r2, r3, r4, r5, r6, _⟩ := id R7
      simp only [Ro.zero] at r0 r1 r2 r3 r4 r5 r6
      obtain ⟨_, q0, q1, q2, q3, q4, q5, q6, _⟩ := id Q7
      simp only [Ro.zero] at q0 q1 q2 q3 q4 q5 q6
      go_wp2_with fail
      clear d0 d1 d2 d3 d4 d5 d6 d7 d8 d9 d10 d11 d12 d13 e0 e1 r0 r1 r2 r3 r4 r5 r6 q0 q1 q2 q3 q4 q5 q6
      refine (N.cons _ x.pr x.fi x.fp _ n7).mono ?_; rintro e w8 ⟨rfl, x8⟩
      have n8 := N.on n7 x8
      have B8 := B7.trans (x8.mono B7.size)
      have E8 := E7.on x8
      have R8 := R7.on x8
      have Q8 := Q7.on x8
      clear n7 B7 x8 E7 R7 Q7
      have A8 := HA.out.on B8
      obtain ⟨_, d0, d1, d2, d3, d4, d5, d6, d7, d8, d9, d10, d11, d12, d13⟩ := id A8
      clear A8
      obtain ⟨_, e0, e1, _⟩ := id E8
      obtain ⟨_, r0, r1, r2, r3, r4, r5, r6, _⟩ := id R8
      simp only [Ro.zero] at r0 r1 r2 r3 r4 r5 r6
      obtain ⟨_, q0, q1, q2, q3, q4, q5, q6, _⟩ := id Q8
      simp only [Ro.zero] at q0 q1 q2 q3 q4 q5 q6
      go_wp2_with fail
      clear d0 d1 d2 d3 d4 d5 d6 d7 d8 d9 d10 d11 d12 d13 e0 e1 r0 r1 r2 r3 r4 r5 r6 q0 q1 q2 q3 q4 q5 q6
      refine (N.drps _ x.pr x.fi x.fp _ n8).mono ?_; rintro e w9 ⟨rfl, x9⟩
      have n9 := N.on n8 x9
      have B9 := B8.trans (x9.mono B8.size)
      have E9 := E8.on x9
      have R9 := R8.on x9
      have Q9 := Q8.on x9
      clear n8 B8 x9 E8 R8 Q8
      have A9 := HA.out.on B9
      obtain ⟨_, d0, d1, d2, d3, d4, d5, d6, d7, d8, d9, d10, d11, d12, d13⟩ := id A9
      clear A9
      obtain ⟨_, e0, e1, _⟩ := id E9
      obtain ⟨_, r0, r1, r2, r3, r4, r5, r6, _⟩ := id R9
      simp only [Ro.zero] at r0 r1 r2 r3 r4 r5 r6
      obtain ⟨_, q0, q1, q2, q3, q4, q5, q6, _⟩ := id Q9
      simp only [Ro.zero] at q0 q1 q2 q3 q4 q5 q6
      go_wp2_with fail
      clear d0 d1 d2 d3 d4 d5 d6 d7 d8 d9 d10 d11 d12 d13 e0 e1 r0 r1 r2 r3 r4 r5 r6 q0 q1 q2 q3 q4 q5 q6
      refine (N.rels _ x.pr x.fi x.fp _ n9).mono ?_; rintro e w10 ⟨rfl, x10⟩
      have n10 := N.on n9 x10
      have B10 := B9.trans (x10.mono B9.size)
      have E10 := E9.on x10
      have R10 := R9.on x10
      have Q10 := Q9.on x10
      clear n9 B9 x10 E9 R9 Q9
      have A10 := HA.out.on B10
      obtain ⟨_, d0, d1, d2, d3, d4, d5, d6, d7, d8, d9, d10, d11, d12, d13⟩ := id A10
      clear A10
      obtain ⟨_, e0, e1, _⟩ := id E10
      obtain ⟨_, r0, r1, r2, r3, r4, r5, r6, _⟩ := id R10
      simp only [Ro.zero] at r0 r1 r2 r3 r4 r5 r6
      obtain ⟨_, q0, q1, q2, q3, q4, q5, q6, _⟩ := id Q10
      simp only [Ro.zero] at q0 q1 q2 q3 q4 q5 q6
      go_wp2_with fail
      clear d0 d1 d2 d3 d4 d5 d6 d7 d8 d9 d10 d11 d12 d13 e0 e1 r0 r1 r2 r3 r4 r5 r6 q0 q1 q2 q3 q4 q5 q6
      refine (N.lists _ _ n10).mono ?_; rintro e w11 ⟨rfl, x11⟩
      have n11 := N.on n10 x11
      have B11 := B10.trans (x11.mono B10.size)
      have E11 := E10.on x11
      have R11 := R10.on x11
      have Q11 := Q10.on x11
      clear n10 B10 x11 E10 R10 Q10
      have A11 := HA.out.on B11
      obtain ⟨_, d0, d1, d2, d3, d4, d5, d6, d7, d8, d9, d10, d11, d12, d13⟩ := id A11
      clear A11
      obtain ⟨_, e0, e1, _⟩ := id E11
      obtain ⟨_, r0, r1, r2, r3, r4, r5, r6, _⟩ := id R11
      simp only [Ro.zero] at r0 r1 r2 r3 r4 r5 r6
      obtain ⟨_, q0, q1, q2, q3, q4, q5, q6, _⟩ := id Q11
      simp only [Ro.zero] at q0 q1 q2 q3 q4 q5 q6
      go_wp2_with fail
      clear d0 d1 d2 d3 d4 d5 d6 d7 d8 d9 d10 d11 d12 d13 e0 e1 r0 r1 r2 r3 r4 r5 r6 q0 q1 q2 q3 q4 q5 q6
      refine (N.counts _ _ n11).mono ?_; rintro e w12 ⟨rfl, x12⟩
      have n12 := N.on n11 x12
      have B12 := B11.trans (x12.mono B11.size)
      have E12 := E11.on x12
      have R12 := R11.on x12
      have Q12 := Q11.on x12
      clear n11 B11 x12 E11 R11 Q11
      have A12 := HA.out.on B12
      obtain ⟨_, d0, d1, d2, d3, d4, d5, d6, d7, d8, d9, d10, d11, d12, d13⟩ := id A12
      clear A12
      obtain ⟨_, e0, e1, _⟩ := id E12
      obtain ⟨_, r0, r1, r2, r3, r4, r5, r6, _⟩ := id R12
      simp only [Ro.zero] at r0 r1 r2 r3 r4 r5 r6
      obtain ⟨_, q0, q1, q2, q3, q4, q5, q6, _⟩ := id Q12
      simp only [Ro.zero] at q0 q1 q2 q3 q4 q5 q6
      go_wp2_with fail
      clear d0 d1 d2 d3 d4 d5 d6 d7 d8 d9 d10 d11 d12 d13 e0 e1 r0 r1 r2 r3 r4 r5 r6 q0 q1 q2 q3 q4 q5 q6
      refine (N.copies _ _ n12).mono ?_; rintro e w13 ⟨rfl, x13⟩
      have n13 := N.on n12 x13
      have B13 := B12.trans (x13.mono B12.size)
      have E13 := E12.on x13
      have R13 := R12.on x13
      have Q13 := Q12.on x13
      clear n12 B12 x13 E12 R12 Q12
      have x14 : Below w13.heap.size w13 (w13.alloc (.cells N.Z 63)) := (Below.refl _ _).alloc (Nat.le_refl _) _
      have nE := Lib.hid (N.zero w13)
      have BE := Lib.hid (B13.trans (x14.mono B13.size))
      clear n13 B13 x14 E13 R13 Q13
      go_wp2
      go_roundw
      case rel => exact ⟨k + 1, HL.out, by simp [EW.out], nE.out, BE.out⟩
      case measure => first | exact meas_up EW.out HL.out | (simp [EW.out]; exact meas_up' HL.out) | exact meas_up' HL.out
    · obtain rfl : k = 2 := Nat.le_antisymm hk (Nat.le_of_not_lt hlt)
      have t1 : decide ((2 : Int) < 2) = false := by decide
      clear n0
      go_wp2_with fail
      refine (let_ K _).mono ?_; rintro e w9 ⟨rfl, x9⟩
      have B9 := B0.trans (x9.mono B0.size)
      clear B0 x9
      go_wp2
      go_ret
      exact ⟨rfl, BA.trans (B9.mono BA.size)⟩
theorem walk_ (K : PortsOk) (N : PoNone) (z0 z1 z2 z3 z4 z5 z6 z7 z8 z9 z10 z11 z12 z13 : Int) (w : World) (w0 : (Lit.int .u8 z0).wf = true) (w1 : (Lit.int .u8 z1).wf = true) (w2 : (Lit.int .u8 z2).wf = true) (w3 : (Lit.int .u8 z3).wf = true) (w4 : (Lit.int .u8 z4).wf = true) (w5 : (Lit.int .u8 z5).wf = true) (w6 : (Lit.int .u32 z6).wf = true) (w7 : (Lit.int .u16 z7).wf = true) (w8 : (Lit.int .u32 z8).wf = true) (w9 : (Lit.int .u16 z9).wf = true) (w10 : (Lit.int .u16 z10).wf = true) (w11 : (Lit.int .u16 z11).wf = true) (w12 : (Lit.int .u32 z12).wf = true) (w13 : (Lit.int .u16 z13).wf = true) :
    Calls Try.prog 5 #[.agg #[.int .u8 z0, .int .u8 z1, .int .u8 z2, .int .u8 z3, .int .u8 z4, .int .u8 z5, .int .u32 z6, .int .u16 z7, .int .u32 z8, .int .u16 z9, .int .u16 z10, .int .u16 z11, .int .u32 z12, .int .u16 z13]] w fun e w' => e = .returned (.bool true) ∧ Below w.heap.size w w' :=
  run_ K N ⟨z0, z1, z2, z3, z4, ⟨z5, z6, z7, z8, z9, z10, z11⟩, z12, z13⟩ w
end PortsNone
end Go.Proofs.Ytbbadpidolfleaa
