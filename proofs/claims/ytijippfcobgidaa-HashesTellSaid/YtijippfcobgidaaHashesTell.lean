/- HashesTell (layer 12). Written by gen_hasw.py. -/
import Derived.Test.YtijippfcobgidaaHasG
namespace Go.Proofs.Ytijippfcobgidaa.HashesTell
set_option linter.unusedVariables false
set_option linter.unusedSimpArgs false
open Go.ChangeShapes Go.WideShapes Go.ChangeAt Go.RowKit Go.PlainAid
attribute [local go_sem ↓] Go.wp_at_zero Go.wp_at_succ
set_option maxHeartbeats 2000000 in
set_option maxRecDepth 100000 in
theorem walkN (p a m b n q c k d j : Nat) (z : Int) (w : World) (h0 : p < 256) (h1 : a < 4294967296) (h2 : m < 65536) (h3 : b < 4294967296) (h4 : n < 65536) (i0 : q < 256) (i1 : c < 4294967296) (i2 : k < 65536) (i3 : d < 4294967296) (i4 : j < 65536) (hz : z ≤ 9223372036854775807) :
    Calls Try.prog 3 #[.agg #[.int .u8 (p : Int), .int .u32 (a : Int), .int .u16 (m : Int), .int .u32 (b : Int), .int .u16 (n : Int)], .agg #[.int .u8 (q : Int), .int .u32 (c : Int), .int .u16 (k : Int), .int .u32 (d : Int), .int .u16 (j : Int)], .int .i64 z] w fun e w' => e = .returned (.bool true) ∧ Below w.heap.size w w' := by
  have c1 := fun u => both12_ p a m b n q c k d j z u h0 h1 h2 h3 h4 i0 i1 i2 i3 i4 hz
  have c2 := fun u => rboth12_ p a m b n q c k d j z u h0 h1 h2 h3 h4 i0 i1 i2 i3 i4 hz
  have c3 := fun u => of12_ p a m b n z u h0 h1 h2 h3 h4 hz
  have c4 := fun u => of12_ q c k d j z u i0 i1 i2 i3 i4 hz
  generalize ofV z (haT p a m b n) = x at *
  generalize ofV z (haT q c k d j) = y at *
  go_enter Try.func3, Try.ntmps3
  have B1 := Below.refl w.heap.size w
  go_wp2_with fail
  have A_2 := Box5.make w (.int .u8 (p : Int)) (.int .u32 (a : Int)) (.int .u16 (m : Int)) (.int .u32 (b : Int)) (.int .u16 (n : Int)) 28
  have B3 := B1.alloc B1.size (.cells #[.int .u8 (p : Int), .int .u32 (a : Int), .int .u16 (m : Int), .int .u32 (b : Int), .int .u16 (n : Int)] 28)
  clear B1
  have A_4 := A_2.past (o := (.cells #[.int .u8 (q : Int), .int .u32 (c : Int), .int .u16 (k : Int), .int .u32 (d : Int), .int .u16 (j : Int)] 28))
  have hs_ : (w.alloc (.cells #[.int .u8 (p : Int), .int .u32 (a : Int), .int .u16 (m : Int), .int .u32 (b : Int), .int .u16 (n : Int)] 28)).heap.size = w.heap.size + 1 := by simp
  have B_5 := Box5.make (w.alloc (.cells #[.int .u8 (p : Int), .int .u32 (a : Int), .int .u16 (m : Int), .int .u32 (b : Int), .int .u16 (n : Int)] 28)) (.int .u8 (q : Int)) (.int .u32 (c : Int)) (.int .u16 (k : Int)) (.int .u32 (d : Int)) (.int .u16 (j : Int)) 28
  rw [hs_] at B_5
  clear hs_
  have B6 := B3.alloc B3.size (.cells #[.int .u8 (q : Int), .int .u32 (c : Int), .int .u16 (k : Int), .int .u32 (d : Int), .int .u16 (j : Int)] 28)
  clear A_2 B3
  obtain ⟨u1, hu1⟩ : ∃ x_ : World, x_ = (w.alloc (.cells #[.int .u8 (p : Int), .int .u32 (a : Int), .int .u16 (m : Int), .int .u32 (b : Int), .int .u16 (n : Int)] 28)).alloc (.cells #[.int .u8 (q : Int), .int .u32 (c : Int), .int .u16 (k : Int), .int .u32 (d : Int), .int .u16 (j : Int)] 28) := ⟨_, rfl⟩
  rw [← hu1] at A_4 B_5 B6 ⊢
  clear hu1
  refine (c1 _).mono ?_; rintro e w2 ⟨rfl, x2⟩
  have A_7 := A_4.on x2
  have B_8 := B_5.on x2
  have B9 := B6.trans (x2.mono B6.size)
  clear A_4 B_5 B6 x2
  obtain ⟨_, a1_0, a1_1, a1_2, a1_3, a1_4⟩ := id A_7
  obtain ⟨_, b2_0, b2_1, b2_2, b2_3, b2_4⟩ := id B_8
  go_wp2_with fail
  refine (c2 _).mono ?_; rintro e w3 ⟨rfl, x3⟩
  have A_10 := A_7.on x3
  have B_11 := B_8.on x3
  have B12 := B9.trans (x3.mono B9.size)
  clear a1_0 a1_1 a1_2 a1_3 a1_4 b2_0 b2_1 b2_2 b2_3 b2_4 A_7 B_8 B9 x3
  obtain ⟨_, a3_0, a3_1, a3_2, a3_3, a3_4⟩ := id A_10
  obtain ⟨_, b4_0, b4_1, b4_2, b4_3, b4_4⟩ := id B_11
  go_wp2_with fail
  refine (c3 _).mono ?_; rintro e w4 ⟨rfl, x4⟩
  have A_13 := A_10.on x4
  have B_14 := B_11.on x4
  have B15 := B12.trans (x4.mono B12.size)
  clear a3_0 a3_1 a3_2 a3_3 a3_4 b4_0 b4_1 b4_2 b4_3 b4_4 A_10 B_11 B12 x4
  obtain ⟨_, a5_0, a5_1, a5_2, a5_3, a5_4⟩ := id A_13
  obtain ⟨_, b6_0, b6_1, b6_2, b6_3, b6_4⟩ := id B_14
  go_wp2_with fail
  refine (c4 _).mono ?_; rintro e w5 ⟨rfl, x5⟩
  have A_16 := A_13.on x5
  have B_17 := B_14.on x5
  have B18 := B15.trans (x5.mono B15.size)
  clear a5_0 a5_1 a5_2 a5_3 a5_4 b6_0 b6_1 b6_2 b6_3 b6_4 A_13 B_14 B15 x5
  obtain ⟨_, a7_0, a7_1, a7_2, a7_3, a7_4⟩ := id A_16
  obtain ⟨_, b8_0, b8_1, b8_2, b8_3, b8_4⟩ := id B_17
  go_wp2_with fail
  refine (mixed12_ _).mono ?_; rintro e w6 ⟨rfl, x6⟩
  have A_19 := A_16.on x6
  have B_20 := B_17.on x6
  have B21 := B18.trans (x6.mono B18.size)
  clear a7_0 a7_1 a7_2 a7_3 a7_4 b8_0 b8_1 b8_2 b8_3 b8_4 A_16 B_17 B18 x6
  go_wp2
  go_ret
  exact ⟨rfl, B21⟩
theorem walk (p a m b n q c k d j z : Int) (w : World) (hp : (Lit.int .u8 p).wf = true) (ha : (Lit.int .u32 a).wf = true) (hm : (Lit.int .u16 m).wf = true) (hb : (Lit.int .u32 b).wf = true) (hn : (Lit.int .u16 n).wf = true) (hq : (Lit.int .u8 q).wf = true) (hc : (Lit.int .u32 c).wf = true) (hk : (Lit.int .u16 k).wf = true) (hd : (Lit.int .u32 d).wf = true) (hj : (Lit.int .u16 j).wf = true) (hz : (Lit.int .i64 z).wf = true) :
    Calls Try.prog 3 #[.agg #[.int .u8 p, .int .u32 a, .int .u16 m, .int .u32 b, .int .u16 n], .agg #[.int .u8 q, .int .u32 c, .int .u16 k, .int .u32 d, .int .u16 j], .int .i64 z] w fun e w' => e = .returned (.bool true) ∧ Below w.heap.size w w' := by
  obtain ⟨p0, p1⟩ := bounds_u8 hp
  obtain ⟨a0, a1⟩ := bounds_u32 ha
  obtain ⟨m0, m1⟩ := bounds_u16 hm
  obtain ⟨b0, b1⟩ := bounds_u32 hb
  obtain ⟨n0, n1⟩ := bounds_u16 hn
  obtain ⟨q0, q1⟩ := bounds_u8 hq
  obtain ⟨c0, c1⟩ := bounds_u32 hc
  obtain ⟨k0, k1⟩ := bounds_u16 hk
  obtain ⟨d0, d1⟩ := bounds_u32 hd
  obtain ⟨j0, j1⟩ := bounds_u16 hj
  obtain ⟨p, rfl⟩ := Int.eq_ofNat_of_zero_le p0
  obtain ⟨a, rfl⟩ := Int.eq_ofNat_of_zero_le a0
  obtain ⟨m, rfl⟩ := Int.eq_ofNat_of_zero_le m0
  obtain ⟨b, rfl⟩ := Int.eq_ofNat_of_zero_le b0
  obtain ⟨n, rfl⟩ := Int.eq_ofNat_of_zero_le n0
  obtain ⟨q, rfl⟩ := Int.eq_ofNat_of_zero_le q0
  obtain ⟨c, rfl⟩ := Int.eq_ofNat_of_zero_le c0
  obtain ⟨k, rfl⟩ := Int.eq_ofNat_of_zero_le k0
  obtain ⟨d, rfl⟩ := Int.eq_ofNat_of_zero_le d0
  obtain ⟨j, rfl⟩ := Int.eq_ofNat_of_zero_le j0
  exact walkN p a m b n q c k d j z w (by omega) (by omega) (by omega) (by omega) (by omega) (by omega) (by omega) (by omega) (by omega) (by omega) (bounds_i64 hz).2
end Go.Proofs.Ytijippfcobgidaa.HashesTell
