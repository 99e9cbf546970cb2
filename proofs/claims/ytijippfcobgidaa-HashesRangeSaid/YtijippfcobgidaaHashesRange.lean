/- HashesRange (layer 12). Written by gen_hasw.py. -/
import Derived.Test.YtijippfcobgidaaHasG
namespace Go.Proofs.Ytijippfcobgidaa.HashesRange
set_option linter.unusedVariables false
set_option linter.unusedSimpArgs false
open Go.ChangeShapes Go.WideShapes Go.ChangeAt Go.RowKit Go.PlainAid
attribute [local go_sem ↓] Go.wp_at_zero Go.wp_at_succ
theorem ofV_nat (k n : Nat) (h : 1 ≤ k) : ofV (k : Int) n = ((n % k : Nat) : Int) := by unfold ofV; rw [if_neg (by omega)]; exact (Int.natCast_emod n k).symm
theorem tmod_nat {x k y : Nat} (h : x % k = y) : (x : Int).tmod (k : Int) = (y : Int) ∧ (x : Int) % (k : Int) = (y : Int) := by
  have e : (x : Int) % (k : Int) = (y : Int) := by rw [← h]; exact (Int.natCast_emod x k).symm
  exact ⟨by rw [Int.tmod_eq_emod_of_nonneg (by omega)]; exact e, e⟩
set_option maxHeartbeats 4000000 in
set_option maxRecDepth 100000 in
theorem walkN (p a m b n f g : Nat) (w : World) (h0 : p < 256) (h1 : a < 4294967296) (h2 : m < 65536) (h3 : b < 4294967296) (h4 : n < 65536) (hf : f < 65536) (hg : g < 256) :
    Calls Try.prog 5 #[.agg #[.int .u8 (p : Int), .int .u32 (a : Int), .int .u16 (m : Int), .int .u32 (b : Int), .int .u16 (n : Int)], .int .u16 (f : Int), .int .u8 (g : Int)] w fun e w' => e = .returned (.bool true) ∧ Below w.heap.size w w' := by
  obtain ⟨k, hk⟩ : ∃ k, k = 1 + f := ⟨_, rfl⟩
  obtain ⟨l, hl⟩ : ∃ l, l = 1 + g := ⟨_, rfl⟩
  obtain ⟨M, hM⟩ : ∃ M, M = k * l := ⟨_, rfl⟩
  have k1 : 1 ≤ k := by omega
  have kb : k ≤ 65536 := by omega
  have lb : l ≤ 256 := by omega
  have M1 : 1 ≤ M := by rw [hM]; exact Nat.mul_pos (by omega) (by omega)
  have Mb : M ≤ 16777216 := by rw [hM]; exact Nat.mul_le_mul kb lb
  have eM : (k : Int) * (l : Int) = (M : Int) := by rw [hM]; exact (Int.natCast_mul k l).symm
  have c1 := fun u => of12_ p a m b n (k : Int) u h0 h1 h2 h3 h4 (by omega)
  have c2 := fun u => of12_ p a m b n (M : Int) u h0 h1 h2 h3 h4 (by omega)
  have c3 := fun u => both12_ p a m b n p b n a m (k : Int) u h0 h1 h2 h3 h4 h0 h3 h4 h1 h2 (by omega)
  have c4 := fun u => of12_ p a m b n 4294967296 u h0 h1 h2 h3 h4 (by omega)
  have c5 := fun u => of12_ p a m b n 1 u h0 h1 h2 h3 h4 (by omega)
  have hN := haT_lt p a m b n
  generalize haT p a m b n = N at *
  generalize haT p b n a m = N' at *
  rw [ofV_nat k N k1] at c1
  rw [ofV_nat M N M1] at c2
  rw [ofV_nat k N k1, ofV_nat k N' k1] at c3
  rw [show (4294967296 : Int) = ((4294967296 : Nat) : Int) from rfl, ofV_nat 4294967296 N (by omega), Nat.mod_eq_of_lt hN] at c4
  rw [show (1 : Int) = ((1 : Nat) : Int) from rfl, ofV_nat 1 N (by omega), Nat.mod_one] at c5
  have r1 : N % M % k = N % k := by rw [hM]; exact Nat.mod_mul_right_mod _ _ _
  have A1 : N % k < k := Nat.mod_lt _ (by omega)
  have B1 : N % M < M := Nat.mod_lt _ (by omega)
  have D1 : N' % k < k := Nat.mod_lt _ (by omega)
  obtain ⟨A, hA⟩ : ∃ A, A = N % k := ⟨_, rfl⟩
  obtain ⟨B, hB⟩ : ∃ B, B = N % M := ⟨_, rfl⟩
  obtain ⟨D, hD⟩ : ∃ D, D = N' % k := ⟨_, rfl⟩
  rw [← hA] at c1 c3 A1 r1
  rw [← hB] at c2 B1 r1
  rw [← hD] at c3 D1
  obtain ⟨e1, e2⟩ := tmod_nat r1
  obtain ⟨e3, e4⟩ := tmod_nat hA.symm
  have t1 : decide ((A : Int) < (k : Int)) = true := by simp; omega
  have t2 : decide ((B : Int) < (M : Int)) = true := by simp; omega
  have t3 : decide ((D : Int) < (k : Int)) = true := by simp; omega
  have t4 : ((k : Int) == 0) = false := by simp; omega
  have t5 : decide ((0 : Int) ≤ (A : Int)) = true := by simp
  have t6 : decide ((0 : Int) ≤ (B : Int)) = true := by simp
  have t7 : decide ((0 : Int) ≤ (D : Int)) = true := by simp
  have y1 : IntKind.i64.wrap (f : Int) = (f : Int) := IntWalk.i64_in _ (by omega)
  have y2 : IntKind.i64.wrap (g : Int) = (g : Int) := IntWalk.i64_in _ (by omega)
  have y3 : IntKind.i64.wrap (1 + (f : Int)) = (k : Int) := by rw [show 1 + (f : Int) = (k : Int) by omega]; exact IntWalk.i64_in _ (by omega)
  have y4 : IntKind.i64.wrap (1 + (g : Int)) = (l : Int) := by rw [show 1 + (g : Int) = (l : Int) by omega]; exact IntWalk.i64_in _ (by omega)
  have y5 : IntKind.i64.wrap (M : Int) = (M : Int) := IntWalk.i64_in _ (by omega)
  clear hk hl hM hA hB hD r1 hN
  go_enter Try.func5, Try.ntmps5
  have B1 := Below.refl w.heap.size w
  go_wp2_with fail
  have A_2 := Box5.make w (.int .u8 (p : Int)) (.int .u32 (a : Int)) (.int .u16 (m : Int)) (.int .u32 (b : Int)) (.int .u16 (n : Int)) 28
  have B3 := B1.alloc B1.size (.cells #[.int .u8 (p : Int), .int .u32 (a : Int), .int .u16 (m : Int), .int .u32 (b : Int), .int .u16 (n : Int)] 28)
  clear B1
  obtain ⟨u1, hu1⟩ : ∃ x_ : World, x_ = w.alloc (.cells #[.int .u8 (p : Int), .int .u32 (a : Int), .int .u16 (m : Int), .int .u32 (b : Int), .int .u16 (n : Int)] 28) := ⟨_, rfl⟩
  rw [← hu1] at A_2 B3 ⊢
  clear hu1
  obtain ⟨s1, x0, x1, x2, x3, x4⟩ := id A_2
  have p0 : ∀ q_ : Later u1.heap.size u1, q_.u.cell? ⟨w.heap.size, 0, none⟩ = some (.int .u8 (p : Int)) := fun q_ => q_.block s1 x0
  have p1 : ∀ q_ : Later u1.heap.size u1, q_.u.cell? ⟨w.heap.size, 1, none⟩ = some (.int .u32 (a : Int)) := fun q_ => q_.block s1 x1
  have p2 : ∀ q_ : Later u1.heap.size u1, q_.u.cell? ⟨w.heap.size, 2, none⟩ = some (.int .u16 (m : Int)) := fun q_ => q_.block s1 x2
  have p3 : ∀ q_ : Later u1.heap.size u1, q_.u.cell? ⟨w.heap.size, 3, none⟩ = some (.int .u32 (b : Int)) := fun q_ => q_.block s1 x3
  have p4 : ∀ q_ : Later u1.heap.size u1, q_.u.cell? ⟨w.heap.size, 4, none⟩ = some (.int .u16 (n : Int)) := fun q_ => q_.block s1 x4
  clear x0 x1 x2 x3 x4
  refine region_later (B := u1.heap.size) (by kernel_rfl) (by kernel_rfl) ?_
  repeat (go_big_quiet_step (first
    | (go_at_call_of 8 (Value.int IntKind.i64 (k : Int)); exact later_of _ (Nat.le_refl _) (c1 _))
    | (go_at_call_of 8 (Value.int IntKind.i64 (M : Int)); exact later_of _ (Nat.le_refl _) (c2 _))))
  refine later_end fun w9 b9 => ?_
  clear p0 p1 p2 p3 p4 s1 c1 c2
  have A_4 := A_2.on b9
  have B5 := B3.trans (b9.mono B3.size)
  clear A_2 B3 b9
  obtain ⟨_, a1_0, a1_1, a1_2, a1_3, a1_4⟩ := id A_4
  go_wp2_with fail
  refine (c3 _).mono ?_; rintro e w2 ⟨rfl, x2⟩
  have A_6 := A_4.on x2
  have B7 := B5.trans (x2.mono B5.size)
  clear a1_0 a1_1 a1_2 a1_3 a1_4 A_4 B5 x2
  obtain ⟨_, a2_0, a2_1, a2_2, a2_3, a2_4⟩ := id A_6
  go_wp2_with fail
  refine (c4 _).mono ?_; rintro e w3 ⟨rfl, x3⟩
  have A_8 := A_6.on x3
  have B9 := B7.trans (x3.mono B7.size)
  clear a2_0 a2_1 a2_2 a2_3 a2_4 A_6 B7 x3
  obtain ⟨_, a3_0, a3_1, a3_2, a3_3, a3_4⟩ := id A_8
  go_wp2_with fail
  refine (c5 _).mono ?_; rintro e w4 ⟨rfl, x4⟩
  have A_10 := A_8.on x4
  have B11 := B9.trans (x4.mono B9.size)
  clear a3_0 a3_1 a3_2 a3_3 a3_4 A_8 B9 x4
  obtain ⟨_, a4_0, a4_1, a4_2, a4_3, a4_4⟩ := id A_10
  go_wp2_with fail
  refine (mixed12_ _).mono ?_; rintro e w5 ⟨rfl, x5⟩
  have A_12 := A_10.on x5
  have B13 := B11.trans (x5.mono B11.size)
  clear a4_0 a4_1 a4_2 a4_3 a4_4 A_10 B11 x5
  go_wp2
  go_ret
  exact ⟨rfl, B13⟩
theorem walk (p a m b n x y : Int) (w : World) (hp : (Lit.int .u8 p).wf = true) (ha : (Lit.int .u32 a).wf = true) (hm : (Lit.int .u16 m).wf = true) (hb : (Lit.int .u32 b).wf = true) (hn : (Lit.int .u16 n).wf = true) (hx : (Lit.int .u16 x).wf = true) (hy : (Lit.int .u8 y).wf = true) :
    Calls Try.prog 5 #[.agg #[.int .u8 p, .int .u32 a, .int .u16 m, .int .u32 b, .int .u16 n], .int .u16 x, .int .u8 y] w fun e w' => e = .returned (.bool true) ∧ Below w.heap.size w w' := by
  obtain ⟨p0, p1⟩ := bounds_u8 hp
  obtain ⟨a0, a1⟩ := bounds_u32 ha
  obtain ⟨m0, m1⟩ := bounds_u16 hm
  obtain ⟨b0, b1⟩ := bounds_u32 hb
  obtain ⟨n0, n1⟩ := bounds_u16 hn
  obtain ⟨x0, x1⟩ := bounds_u16 hx
  obtain ⟨y0, y1⟩ := bounds_u8 hy
  obtain ⟨p, rfl⟩ := Int.eq_ofNat_of_zero_le p0
  obtain ⟨a, rfl⟩ := Int.eq_ofNat_of_zero_le a0
  obtain ⟨m, rfl⟩ := Int.eq_ofNat_of_zero_le m0
  obtain ⟨b, rfl⟩ := Int.eq_ofNat_of_zero_le b0
  obtain ⟨n, rfl⟩ := Int.eq_ofNat_of_zero_le n0
  obtain ⟨x, rfl⟩ := Int.eq_ofNat_of_zero_le x0
  obtain ⟨y, rfl⟩ := Int.eq_ofNat_of_zero_le y0
  exact walkN p a m b n x y w (by omega) (by omega) (by omega) (by omega) (by omega) (by omega) (by omega)
end Go.Proofs.Ytijippfcobgidaa.HashesRange
