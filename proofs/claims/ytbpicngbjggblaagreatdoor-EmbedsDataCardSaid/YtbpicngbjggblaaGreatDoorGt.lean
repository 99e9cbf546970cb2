/- Texts of this proof, together: RewD, RewE, RewF. -/
import Derived.Test.YtbpicngbjggblaaGreatDoorGs
import Derived.Test.YtbpicngbjggblaaGreatDoorGa
import Derived.Test.YtbpicngbjggblaaGreatDoorGb
import Derived.Test.YtbpicngbjggblaaGreatDoorGf
import Derived.Test.YtbpicngbjggblaaGreatDoorGc
import Derived.Test.YtbpicngbjggblaaGreatDoorGn
import Derived.BigRegion
import Derived.Deep.DeepCutAuto
namespace Go.Proofs.YtbpicngbjggblaaGreatDoor
set_option maxHeartbeats 4000000
set_option maxRecDepth 100000
set_option linter.unusedVariables false
set_option linter.unusedSimpArgs false
open Go.ChangeShapes Go.WideShapes Go.ChangeAt Go.RowKit Go.PlainAid
attribute [local go_sem ↓] Go.wp_at_zero Go.wp_at_succ
theorem vWith_at {s p : ByteArray} {i : Int} {k : Nat} (hi : i = (k : Int)) (h : k + p.size ≤ s.size) : vWith s i p = withB s k p := by
  unfold vWith
  rw [hi, if_pos (okAt_yes h), Int.toNat_natCast]
theorem v16_at {s : ByteArray} {i : Int} {k : Nat} (hi : i = (k : Int)) (h : k + 2 ≤ s.size) : v16 s i = g16 s k := by
  have e : okAt s k 2 = true := okAt_yes (m := 2) (by omega)
  unfold v16
  rw [hi, if_pos e, Int.toNat_natCast]
theorem with9_ (s p : ByteArray) (i : Int) (k : Nat) (w : World) (hi : i = (k : Int)) (hs : s.size ≤ 1000000) (hp : p.size ≤ 1000000) (h : k + p.size ≤ s.size) :
    Cw_ 40 #[.string s, .int .i64 i, .string p] (.string (withB s k p)) w := by
  have c := fun u => rwith_any s i p u (by unfold maxLen; omega) (by unfold maxLen; omega)
  rw [vWith_at hi h] at c
  generalize withB s k p = R at *
  generalize okAt s i p.size = y at *
  clear hi h hs hp
  go_enter Tryz.func40, Tryz.ntmps40
  go_wp2_with fail
  refine (c _).mono ?_; rintro e w1 ⟨rfl, b1⟩
  go_wp2
  go_ret
  exact ⟨rfl, b1⟩
theorem word9_ (s : ByteArray) (i : Int) (k : Nat) (w : World) (hi : i = (k : Int)) (hs : s.size ≤ 1000000) (h : k + 2 ≤ s.size) :
    Calls Tryz.prog 71 #[.string s, .int .i64 i] w fun e w' => e = .returned (.int .u16 (g16 s k)) ∧ w = w' := by
  have c := fun u => rget16_any s i u (by unfold maxLen; omega)
  rw [v16_at hi h] at c
  generalize g16 s k = R at *
  generalize okAt s i 2 = y at *
  clear hi h hs
  go_enter Tryz.func71, Tryz.ntmps71
  go_wp2_with fail
  refine (c _).mono ?_; rintro e w1 ⟨rfl, rfl⟩
  go_wp2
  go_ret
  exact ⟨rfl, rfl⟩
theorem pair9_ (a m b n : Int) (w : World) (hc : okC a m b n) :
    Cw_ 85 #[.agg #[.int .u32 a, .int .u16 m, .int .u32 b, .int .u16 n]] (.string (strOfNums (wordL (adW a b)))) w := by
  have HV : Hid (strOfNums (wordL (adW a b)) = strOfNums (wordL [a / 65536, a % 65536]) ++ strOfNums (wordL [b / 65536, b % 65536])) := by show _ = _; rw [W_app]; rfl
  have k1 := fun u => rput32 a u hc.1 hc.2.1
  have k2 := fun u => rput32 b u hc.2.2.2.2.1 hc.2.2.2.2.2.1
  have z1 : (strOfNums (wordL [a / 65536, a % 65536])).size = 4 := by rw [size_W]; rfl
  have z2 : (strOfNums (wordL [b / 65536, b % 65536])).size = 4 := by rw [size_W]; rfl
  generalize strOfNums (wordL [a / 65536, a % 65536]) = S1 at *
  generalize strOfNums (wordL [b / 65536, b % 65536]) = S2 at *
  have q1 : S1.size + S2.size ≤ 9223372036854775807 := by omega
  clear hc z1 z2
  go_enter Tryz.func85, Tryz.ntmps85
  have B1 := Below.refl w.heap.size w
  go_upto_region 1 with fail
  have C_2 := Box4.make w (.int .u32 a) (.int .u16 m) (.int .u32 b) (.int .u16 n) 39
  have B3 := B1.alloc B1.size (.cells #[.int .u32 a, .int .u16 m, .int .u32 b, .int .u16 n] 39)
  clear B1
  obtain ⟨u1, hu1⟩ : ∃ x, x = w.alloc (.cells #[.int .u32 a, .int .u16 m, .int .u32 b, .int .u16 n] 39) := ⟨_, rfl⟩
  rw [← hu1] at C_2 B3 ⊢
  clear hu1
  obtain ⟨zc, gc0, gc1, gc2, gc3⟩ := id C_2
  have Fc0 := lat_ gc0 zc
  have Fc2 := lat_ gc2 zc
  clear gc0 gc1 gc2 gc3
  refine region_later (B := u1.heap.size) (by kernel_rfl) (by kernel_rfl) ?_
  repeat (go_big_quiet_step (first
    | (go_at_call_of 92 a; exact later_of _ (Nat.le_refl _) (k1 _))
    | (go_at_call_of 92 b; exact later_of _ (Nat.le_refl _) (k2 _))))
  refine later_end fun w2 x2 => ?_
  have C_4 := C_2.on x2
  have B5 := B3.trans (x2.mono B3.size)
  clear Fc0 Fc2 zc C_2 B3 x2
  go_wp2
  go_ret
  rw [HV.out]
  exact ⟨rfl, B5⟩
theorem query9_ (L : ByteArray) (id : Int) (w : World) (hz : L.size ≤ 1000000) (h : 8 ≤ L.size) (i0 : 0 ≤ id) (i1 : id ≤ 65535) :
    Cw_ 84 #[.string L, .int .u16 id] (.string (icC L id)) w := by
  have g0 := g16_nonneg L 2
  have g1 := g16_le L 2
  have g2 := g16_nonneg L 4
  have g3 := g16_le L 4
  have bd := updW_bd g0 g1 g2 g3 i0 i1
  have zP : (strOfNums (wordL [id])).size = 2 := by rw [size_W]; rfl
  have zQ : (strOfNums (wordL [updW (g16 L 2) (g16 L 4) id])).size = 2 := by rw [size_W]; rfl
  have zW := size_withB L 4 (strOfNums (wordL [id])) (by omega)
  have c2 := fun u => word9_ L 2 2 u rfl hz (by omega)
  have c4 := fun u => word9_ L 4 4 u rfl hz (by omega)
  have cu := fun u => rupdate_ (g16 L 2) (g16 L 4) id u g0 g1 g2 g3 i0 i1
  have p1 := fun u => rput16 id u i0 i1
  have p2 := fun u => rput16 (updW (g16 L 2) (g16 L 4) id) u bd.1 bd.2
  have x1 := fun u => with9_ L (strOfNums (wordL [id])) 4 4 u rfl hz (by omega) (by omega)
  have x2 := fun u => with9_ (withB L 4 (strOfNums (wordL [id]))) (strOfNums (wordL [updW (g16 L 2) (g16 L 4) id])) 2 2 u rfl (by omega) (by omega) (by omega)
  have HV : Hid (withB (withB L 4 (strOfNums (wordL [id]))) 2 (strOfNums (wordL [updW (g16 L 2) (g16 L 4) id])) = icC L id) := rfl
  generalize strOfNums (wordL [updW (g16 L 2) (g16 L 4) id]) = Q at *
  generalize strOfNums (wordL [id]) = P at *
  generalize withB (withB L 4 P) 2 Q = R at *
  generalize withB L 4 P = X at *
  generalize updW (g16 L 2) (g16 L 4) id = v at *
  generalize g16 L 2 = u2 at *
  generalize g16 L 4 = u4 at *
  clear g0 g1 g2 g3 bd zP zQ zW
  go_enter Tryz.func84, Tryz.ntmps84
  have B1 := Below.refl w.heap.size w
  go_wp2_with fail
  refine (c2 _).mono ?_; rintro e w1 ⟨rfl, rfl⟩
  go_wp2_with fail
  refine (c4 _).mono ?_; rintro e w2 ⟨rfl, rfl⟩
  go_wp2_with fail
  refine (cu _).mono ?_; rintro e w3 ⟨rfl, rfl⟩
  go_wp2_with fail
  refine (p1 _).mono ?_; rintro e w4 ⟨rfl, x4⟩
  have B2 := B1.trans (x4.mono B1.size)
  clear B1 x4
  go_wp2_with fail
  refine (x1 _).mono ?_; rintro e w5 ⟨rfl, x5⟩
  have B3 := B2.trans (x5.mono B2.size)
  clear B2 x5
  go_wp2_with fail
  refine (p2 _).mono ?_; rintro e w6 ⟨rfl, x6⟩
  have B4 := B3.trans (x6.mono B3.size)
  clear B3 x6
  go_wp2_with fail
  refine (x2 _).mono ?_; rintro e w7 ⟨rfl, x7⟩
  have B5 := B4.trans (x7.mono B4.size)
  clear B4 x7
  go_wp2
  go_ret
  rw [HV.out]
  exact ⟨rfl, B5⟩
theorem ports9_tcp (L : ByteArray) (oa ob a m b n : Int) (w : World) (ho : okC oa 0 ob 0) (hc : okC a m b n) (hz : L.size ≤ 1000000) (h : 20 ≤ L.size) :
    Cw_ 83 #[.string L, .string (strOfNums (wordL (adW oa ob))), .agg #[.int .u32 a, .int .u16 m, .int .u32 b, .int .u16 n], .int .i64 16] (.string (ptC L 16 m n (pSum L 16 oa ob a m b n))) w := by
  have bd := pSum_bd (L := L) (k := 16) ho hc
  have g0 := g16_nonneg L 16
  have g1 := g16_le L 16
  obtain ⟨h0, h1, h2, h3, h4, h5, h6, h7⟩ := id hc
  have zA : (strOfNums (wordL (adW oa ob))).size = 8 := by rw [size_W]; rfl
  have zB : (strOfNums (wordL (adW a b))).size = 8 := by rw [size_W]; rfl
  have zP : (strOfNums (wordL [m, n])).size = 4 := by rw [size_W]; rfl
  have zE := size_extract' L 0 4 (by omega) (by omega)
  have zW := size_withB L 0 (strOfNums (wordL [m, n])) (by omega)
  have cw := fun u => word9_ L 16 16 u rfl hz (by omega)
  have cp := fun u => pair9_ a m b n u hc
  have HR : Hid (∀ u (q : Nat), q < u.heap.size → u.cell? ⟨q, 0, none⟩ = some (.int .u16 m) → u.cell? ⟨q, 1, none⟩ = some (.int .u16 n) → Calls Tryz.prog 91 #[.slice (some ⟨q, 0, none⟩) 2 2] u fun e w' => e = .returned (.string (strOfNums (wordL [m, n]))) ∧ Below u.heap.size u w') := fun u q hq e0 e1 => rword_any _ 2 2 [m, n] u (row2 hq e0 e1) (by omega) (two_wf h2 h3 h6 h7)
  have cu := fun u => rupdates_ (g16 L 16) (strOfNums (wordL (adW oa ob)) ++ L.extract 0 4) (strOfNums (wordL (adW a b)) ++ strOfNums (wordL [m, n])) u g0 g1 (by rw [ByteArray.size_append]; unfold maxLen; omega) (by rw [ByteArray.size_append]; unfold maxLen; omega)
  rw [pSum_V (by omega) ho hc] at cu
  have x1 := fun u => with9_ L (strOfNums (wordL [m, n])) 0 0 u rfl hz (by omega) (by omega)
  have q1 : (strOfNums (wordL (adW oa ob))).size + (L.extract 0 4).size ≤ 9223372036854775807 := by omega
  have q2 : (strOfNums (wordL (adW a b))).size + (strOfNums (wordL [m, n])).size ≤ 9223372036854775807 := by omega
  have i4 : (4 : Int) ≤ (L.size : Int) := by omega
  have cq := fun u => rput16 (pSum L 16 oa ob a m b n) u bd.1 bd.2
  have zQ : (strOfNums (wordL [pSum L 16 oa ob a m b n])).size = 2 := by rw [size_W]; rfl
  have x2 := fun u => with9_ (withB L 0 (strOfNums (wordL [m, n]))) (strOfNums (wordL [pSum L 16 oa ob a m b n])) 16 16 u rfl (by omega) (by omega) (by omega)
  have HV : Hid (withB (withB L 0 (strOfNums (wordL [m, n]))) 16 (strOfNums (wordL [pSum L 16 oa ob a m b n])) = ptC L 16 m n (pSum L 16 oa ob a m b n)) := rfl
  generalize strOfNums (wordL [pSum L 16 oa ob a m b n]) = Q at *
  generalize ptC L 16 m n (pSum L 16 oa ob a m b n) = RR at *
  generalize pSum L 16 oa ob a m b n = v at *
  generalize withB (withB L 0 (strOfNums (wordL [m, n]))) 16 Q = R at *
  generalize withB L 0 (strOfNums (wordL [m, n])) = X at *
  generalize strOfNums (wordL [m, n]) = PT at *
  generalize strOfNums (wordL (adW a b)) = PR at *
  generalize strOfNums (wordL (adW oa ob)) = OA at *
  generalize g16 L 16 = g at *
  clear bd g0 g1 h0 h1 h2 h3 h4 h5 h6 h7 zA zB zP zE zW zQ ho hc h hz
  go_enter Tryz.func83, Tryz.ntmps83
  have B1 := Below.refl w.heap.size w
  go_wp2_with fail
  have C_2 := Box4.make w (.int .u32 a) (.int .u16 m) (.int .u32 b) (.int .u16 n) 39
  have B3 := B1.alloc B1.size (.cells #[.int .u32 a, .int .u16 m, .int .u32 b, .int .u16 n] 39)
  clear B1
  have al := alO_ B3 (.cells #[.int .u16 m, .int .u16 n] 24)
  have C_4 := C_2.on al
  have B5 := B3.trans (al.mono B3.size)
  clear al
  clear C_2 B3
  refine (HR.out _ (w.heap.size + 1) (by simp) (by simp [go_sem]) (by simp [go_sem])).mono ?_; rintro e w1 ⟨rfl, x_1⟩
  have C_6 := C_4.on x_1
  have B7 := B5.trans (x_1.mono B5.size)
  clear C_4 B5 x_1
  go_wp2_with fail
  refine (cw _).mono ?_; rintro e w2 ⟨rfl, rfl⟩
  go_wp2_with fail
  obtain ⟨zc, gc0, gc1, gc2, gc3⟩ := id C_6
  have Fc0 := lat_ gc0 zc
  have Fc1 := lat_ gc1 zc
  have Fc2 := lat_ gc2 zc
  have Fc3 := lat_ gc3 zc
  clear gc0 gc1 gc2 gc3
  refine region_later (B := w1.heap.size) (by kernel_rfl) (by kernel_rfl) ?_
  repeat (go_big_quiet_step (first
    | (go_at_call 85; exact later_of _ (Nat.le_refl _) (cp _))
    | (go_at_call 39; exact later_same _ (cu _))))
  refine later_end fun w3 x3 => ?_
  have C_8 := C_6.on x3
  have B9 := B7.trans (x3.mono B7.size)
  clear Fc0 Fc1 Fc2 Fc3 zc C_6 B7 x3
  go_wp2_with fail
  refine (x1 _).mono ?_; rintro e w4 ⟨rfl, x4⟩
  have C_10 := C_8.on x4
  have B11 := B9.trans (x4.mono B9.size)
  clear C_8 B9 x4
  go_wp2_with fail
  refine (cq _).mono ?_; rintro e w5 ⟨rfl, x5⟩
  have C_12 := C_10.on x5
  have B13 := B11.trans (x5.mono B11.size)
  clear C_10 B11 x5
  go_wp2_with fail
  refine (x2 _).mono ?_; rintro e w6 ⟨rfl, x6⟩
  have C_14 := C_12.on x6
  have B15 := B13.trans (x6.mono B13.size)
  clear C_12 B13 x6
  go_wp2
  go_ret
  rw [HV.out]
  exact ⟨rfl, B15⟩
theorem ports9_udp (L : ByteArray) (oa ob a m b n : Int) (w : World) (ho : okC oa 0 ob 0) (hc : okC a m b n) (hz : L.size ≤ 1000000) (h : 8 ≤ L.size) :
    Cw_ 83 #[.string L, .string (strOfNums (wordL (adW oa ob))), .agg #[.int .u32 a, .int .u16 m, .int .u32 b, .int .u16 n], .int .i64 6] (.string (ptC L 6 m n (uSum L oa ob a m b n))) w := by
  have bd := pSum_bd (L := L) (k := 6) ho hc
  have g0 := g16_nonneg L 6
  have g1 := g16_le L 6
  obtain ⟨h0, h1, h2, h3, h4, h5, h6, h7⟩ := id hc
  have zA : (strOfNums (wordL (adW oa ob))).size = 8 := by rw [size_W]; rfl
  have zB : (strOfNums (wordL (adW a b))).size = 8 := by rw [size_W]; rfl
  have zP : (strOfNums (wordL [m, n])).size = 4 := by rw [size_W]; rfl
  have zE := size_extract' L 0 4 (by omega) (by omega)
  have zW := size_withB L 0 (strOfNums (wordL [m, n])) (by omega)
  have cw := fun u => word9_ L 6 6 u rfl hz (by omega)
  have cp := fun u => pair9_ a m b n u hc
  have HR : Hid (∀ u (q : Nat), q < u.heap.size → u.cell? ⟨q, 0, none⟩ = some (.int .u16 m) → u.cell? ⟨q, 1, none⟩ = some (.int .u16 n) → Calls Tryz.prog 91 #[.slice (some ⟨q, 0, none⟩) 2 2] u fun e w' => e = .returned (.string (strOfNums (wordL [m, n]))) ∧ Below u.heap.size u w') := fun u q hq e0 e1 => rword_any _ 2 2 [m, n] u (row2 hq e0 e1) (by omega) (two_wf h2 h3 h6 h7)
  have cu := fun u => rupdates_ (g16 L 6) (strOfNums (wordL (adW oa ob)) ++ L.extract 0 4) (strOfNums (wordL (adW a b)) ++ strOfNums (wordL [m, n])) u g0 g1 (by rw [ByteArray.size_append]; unfold maxLen; omega) (by rw [ByteArray.size_append]; unfold maxLen; omega)
  rw [pSum_V (by omega) ho hc] at cu
  have x1 := fun u => with9_ L (strOfNums (wordL [m, n])) 0 0 u rfl hz (by omega) (by omega)
  have q1 : (strOfNums (wordL (adW oa ob))).size + (L.extract 0 4).size ≤ 9223372036854775807 := by omega
  have q2 : (strOfNums (wordL (adW a b))).size + (strOfNums (wordL [m, n])).size ≤ 9223372036854775807 := by omega
  have i4 : (4 : Int) ≤ (L.size : Int) := by omega
  have bu := uSum_bd (L := L) ho hc
  have cq := fun u => rput16 (uSum L oa ob a m b n) u bu.1 bu.2
  have zQ : (strOfNums (wordL [uSum L oa ob a m b n])).size = 2 := by rw [size_W]; rfl
  have x2 := fun u => with9_ (withB L 0 (strOfNums (wordL [m, n]))) (strOfNums (wordL [uSum L oa ob a m b n])) 6 6 u rfl (by omega) (by omega) (by omega)
  have HV : Hid (withB (withB L 0 (strOfNums (wordL [m, n]))) 6 (strOfNums (wordL [uSum L oa ob a m b n])) = ptC L 6 m n (uSum L oa ob a m b n)) := rfl
  have HU : (g16 L 6 = 0 ∧ uSum L oa ob a m b n = 0) ∨ (¬ g16 L 6 = 0 ∧ pSum L 6 oa ob a m b n = 0 ∧ uSum L oa ob a m b n = 65535) ∨ (¬ g16 L 6 = 0 ∧ ¬ pSum L 6 oa ob a m b n = 0 ∧ uSum L oa ob a m b n = pSum L 6 oa ob a m b n) := by
    by_cases c0 : g16 L 6 = 0
    · exact .inl ⟨c0, by unfold uSum; rw [if_pos c0]⟩
    · by_cases c1 : pSum L 6 oa ob a m b n = 0
      · exact .inr (.inl ⟨c0, c1, by unfold uSum; rw [if_neg c0, if_pos c1]⟩)
      · exact .inr (.inr ⟨c0, c1, by unfold uSum; rw [if_neg c0, if_neg c1]⟩)
  generalize strOfNums (wordL [uSum L oa ob a m b n]) = Q at *
  generalize ptC L 6 m n (uSum L oa ob a m b n) = RR at *
  generalize uSum L oa ob a m b n = vv at *
  generalize pSum L 6 oa ob a m b n = v at *
  generalize withB (withB L 0 (strOfNums (wordL [m, n]))) 6 Q = R at *
  generalize withB L 0 (strOfNums (wordL [m, n])) = X at *
  generalize strOfNums (wordL [m, n]) = PT at *
  generalize strOfNums (wordL (adW a b)) = PR at *
  generalize strOfNums (wordL (adW oa ob)) = OA at *
  generalize g16 L 6 = g at *
  clear bd g0 g1 h0 h1 h2 h3 h4 h5 h6 h7 zA zB zP zE zW zQ ho hc h hz
  clear bu
  have key : ((g == 0) = true ∧ vv = 0) ∨ ((g == 0) = false ∧ (v == 0) = true ∧ vv = 65535) ∨ ((g == 0) = false ∧ (v == 0) = false ∧ vv = v) := by
    rcases HU with ⟨c0, c1⟩ | ⟨c0, c1, c2⟩ | ⟨c0, c1, c2⟩
    · exact .inl ⟨by simpa using c0, c1⟩
    · exact .inr (.inl ⟨by simpa using c0, by simpa using c1, c2⟩)
    · exact .inr (.inr ⟨by simpa using c0, by simpa using c1, c2⟩)
  clear HU
  rcases key with ⟨k1, rfl⟩ | ⟨k1, k2, rfl⟩ | ⟨k1, k2, rfl⟩
  all_goals
    go_enter Tryz.func83, Tryz.ntmps83
    have B1 := Below.refl w.heap.size w
    go_wp2_with fail
    have C_2 := Box4.make w (.int .u32 a) (.int .u16 m) (.int .u32 b) (.int .u16 n) 39
    have B3 := B1.alloc B1.size (.cells #[.int .u32 a, .int .u16 m, .int .u32 b, .int .u16 n] 39)
    clear B1
    have al := alO_ B3 (.cells #[.int .u16 m, .int .u16 n] 24)
    have C_4 := C_2.on al
    have B5 := B3.trans (al.mono B3.size)
    clear al
    clear C_2 B3
    refine (HR.out _ (w.heap.size + 1) (by simp) (by simp [go_sem]) (by simp [go_sem])).mono ?_; rintro e w1 ⟨rfl, x_1⟩
    have C_6 := C_4.on x_1
    have B7 := B5.trans (x_1.mono B5.size)
    clear C_4 B5 x_1
    go_wp2_with fail
    refine (cw _).mono ?_; rintro e w2 ⟨rfl, rfl⟩
    go_wp2_with fail
    obtain ⟨zc, gc0, gc1, gc2, gc3⟩ := id C_6
    have Fc0 := lat_ gc0 zc
    have Fc1 := lat_ gc1 zc
    have Fc2 := lat_ gc2 zc
    have Fc3 := lat_ gc3 zc
    clear gc0 gc1 gc2 gc3
    refine region_later (B := w1.heap.size) (by kernel_rfl) (by kernel_rfl) ?_
    repeat (go_big_quiet_step (first
      | (go_at_call 85; exact later_of _ (Nat.le_refl _) (cp _))
      | (go_at_call 39; exact later_same _ (cu _))))
    refine later_end fun w3 x3 => ?_
    have C_8 := C_6.on x3
    have B9 := B7.trans (x3.mono B7.size)
    clear Fc0 Fc1 Fc2 Fc3 zc C_6 B7 x3
    go_wp2_with fail
    refine (x1 _).mono ?_; rintro e w4 ⟨rfl, x4⟩
    have C_10 := C_8.on x4
    have B11 := B9.trans (x4.mono B9.size)
    clear C_8 B9 x4
    go_wp2_with fail
    refine (cq _).mono ?_; rintro e w5 ⟨rfl, x5⟩
    have C_12 := C_10.on x5
    have B13 := B11.trans (x5.mono B11.size)
    clear C_10 B11 x5
    go_wp2_with fail
    refine (x2 _).mono ?_; rintro e w6 ⟨rfl, x6⟩
    have C_14 := C_12.on x6
    have B15 := B13.trans (x6.mono B13.size)
    clear C_12 B13 x6
    go_wp2
    go_ret
    rw [HV.out]
    exact ⟨rfl, B15⟩
theorem conv1 (W : World) (n : Nat) (x : Int) (hn : n = W.heap.size) :
    (convert 45 9 (.slice (some ⟨n, 0, none⟩) 1 1)).run Tryz.prog (W.alloc (.cells #[.int .u8 x] 5)) = .ok (.string (strOfNums [x])) (W.alloc (.cells #[.int .u8 x] 5)) := by
  subst hn
  exact run_convert_bytes_arg (P := Tryz.prog) (W.alloc (.cells #[.int .u8 x] 5)) 45 5 Tryz.underlying45 Tryz.underlying5 W.heap.size 0 1 1 [x] rfl (by
    intro i hi
    match i, hi with
    | 0, _ => simp) 9 Tryz.underlying9
theorem head9_ (s : ByteArray) (a m b n : Int) (w : World) (hc : okC a m b n) (hz : s.size ≤ 1000000) (h : 20 ≤ s.size) (ht : 2 ≤ bt s 8) :
    Cw_ 82 #[.string s, .agg #[.int .u32 a, .int .u16 m, .int .u32 b, .int .u16 n]] (.string (headC s a b)) w := by
  have t1 := bt_le s 8
  have bd := hSum_bd ht (okC_ad hc)
  have g0 := g16_nonneg s 10
  have g1 := g16_le s 10
  have hb := get_bt s
  have i8 : (8 : Int) < (s.size : Int) := by omega
  have e0 : IntKind.u8.wrap (bt s 8 - 1) = bt s 8 - 1 := IntWalk.u8_in _ (by omega)
  have zT := h2B_size (a := a) (b := b) h
  have z1 : (strOfNums [bt s 8 - 1]).size = 1 := by rw [strOfNums_size]; rfl
  have z2 : (strOfNums (wordL (adW a b))).size = 8 := by rw [size_W]; rfl
  have z3 : (strOfNums (wordL [hSum s a b])).size = 2 := by rw [size_W]; rfl
  have z4 := h1B_size h
  have zs1 := size_extract' s 8 10 (by omega) (by omega)
  have zs2 := size_extract' s 12 20 (by omega) (by omega)
  have zt1 := size_extract' (h2B s a b) 8 10 (by omega) (by rw [zT]; omega)
  have zt2 := size_extract' (h2B s a b) 12 20 (by omega) (by rw [zT]; omega)
  have q1 : (s.extract 8 10).size + (s.extract 12 20).size ≤ 9223372036854775807 := by omega
  have q2 : ((h2B s a b).extract 8 10).size + ((h2B s a b).extract 12 20).size ≤ 9223372036854775807 := by omega
  have i10 : (10 : Int) ≤ (s.size : Int) := by omega
  have i20 : (20 : Int) ≤ (s.size : Int) := by omega
  have j10 : (10 : Int) ≤ ((h2B s a b).size : Int) := by rw [zT]; omega
  have j20 : (20 : Int) ≤ ((h2B s a b).size : Int) := by rw [zT]; omega
  have cw := fun u => word9_ s 10 10 u rfl hz (by omega)
  have cp := fun u => pair9_ a m b n u hc
  have cu := fun u => rupdates_ (g16 s 10) (s.extract 8 10 ++ s.extract 12 20) ((h2B s a b).extract 8 10 ++ (h2B s a b).extract 12 20) u g0 g1 (by rw [ByteArray.size_append]; unfold maxLen; omega) (by rw [ByteArray.size_append]; unfold maxLen; omega)
  rw [hSum_V h ht (okC_ad hc)] at cu
  have cq := fun u => rput16 (hSum s a b) u bd.1 bd.2
  have x1 : Cb_ 40 #[.string s, .int .i64 8, .string (strOfNums [bt s 8 - 1])] (.string (h1B s)) := fun u => with9_ s (strOfNums [bt s 8 - 1]) 8 8 u rfl hz (by omega) (by omega)
  have x2 : Cb_ 40 #[.string (h1B s), .int .i64 12, .string (strOfNums (wordL (adW a b)))] (.string (h2B s a b)) := fun u => with9_ (h1B s) (strOfNums (wordL (adW a b))) 12 12 u rfl (by omega) (by omega) (by omega)
  have x3 : Cb_ 40 #[.string (h2B s a b), .int .i64 10, .string (strOfNums (wordL [hSum s a b]))] (.string (headC s a b)) := fun u => with9_ (h2B s a b) (strOfNums (wordL [hSum s a b])) 10 10 u rfl (by omega) (by omega) (by omega)
  have kv := conv1 (w.alloc (.cells #[.int .u32 a, .int .u16 m, .int .u32 b, .int .u16 n] 39)) (w.heap.size + 1) (bt s 8 - 1) (by simp)
  generalize strOfNums (wordL [hSum s a b]) = Q at *
  generalize headC s a b = RR at *
  generalize hSum s a b = v at *
  generalize strOfNums (wordL (adW a b)) = PR at *
  generalize h2B s a b = T at *
  generalize h1B s = H1 at *
  generalize strOfNums [bt s 8 - 1] = Z1 at *
  clear t1 bd g0 g1 z1 z2 z3 z4 zs1 zs2 zt1 zt2 zT hc hz h ht
  generalize g16 s 10 = g at *
  go_enter Tryz.func82, Tryz.ntmps82
  have B1 := Below.refl w.heap.size w
  go_wp2_with fail
  have C_2 := Box4.make w (.int .u32 a) (.int .u16 m) (.int .u32 b) (.int .u16 n) 39
  have B3 := B1.alloc B1.size (.cells #[.int .u32 a, .int .u16 m, .int .u32 b, .int .u16 n] 39)
  clear B1
  have al := alO_ B3 (.cells #[.int .u8 (bt s 8 - 1)] 5)
  have C_4 := C_2.on al
  have B5 := B3.trans (al.mono B3.size)
  clear al
  clear C_2 B3
  refine (x1 _).mono ?_; rintro e w1 ⟨rfl, x1⟩
  have C_6 := C_4.on x1
  have B7 := B5.trans (x1.mono B5.size)
  clear C_4 B5 x1
  clear x1 kv
  obtain ⟨_, c1_0, c1_1, c1_2, c1_3⟩ := id C_6
  go_wp2_with fail
  refine (cp _).mono ?_; rintro e w2 ⟨rfl, x2⟩
  have C_8 := C_6.on x2
  have B9 := B7.trans (x2.mono B7.size)
  clear c1_0 c1_1 c1_2 c1_3 C_6 B7 x2
  go_wp2_with fail
  refine (x2 _).mono ?_; rintro e w3 ⟨rfl, x3⟩
  have C_10 := C_8.on x3
  have B11 := B9.trans (x3.mono B9.size)
  clear C_8 B9 x3
  go_wp2_with fail
  refine region_later (B := w3.heap.size) (by kernel_rfl) (by kernel_rfl) ?_
  repeat (go_big_quiet_step (first
    | (go_at_call 71; exact later_same _ (cw _))
    | (go_at_call 39; exact later_same _ (cu _))))
  refine later_end fun w4 x4 => ?_
  have C_12 := C_10.on x4
  have B13 := B11.trans (x4.mono B11.size)
  clear C_10 B11 x4
  go_wp2_with fail
  refine (cq _).mono ?_; rintro e w5 ⟨rfl, x5⟩
  have C_14 := C_12.on x5
  have B15 := B13.trans (x5.mono B13.size)
  clear C_12 B13 x5
  go_wp2_with fail
  refine (x3 _).mono ?_; rintro e w6 ⟨rfl, x6⟩
  have C_16 := C_14.on x6
  have B17 := B15.trans (x6.mono B15.size)
  clear C_14 B15 x6
  go_wp2
  go_ret
  exact ⟨rfl, B17⟩
theorem rapply9_refused (s : ByteArray) (q : Int) (e1 : (q != 0) = true) (co : Cb_ 68 #[.string s] (.tuple #[.agg #[.int .u8 0, .int .u32 0, .int .u16 0, .int .u32 0, .int .u16 0, .int .i64 0, .int .u8 0, .bool false, .int .u8 0], .int .i64 q])) (a m b n : Int) (w : World) :
    Cw_ 37 #[.string s, .agg #[.int .u32 a, .int .u16 m, .int .u32 b, .int .u16 n]] (.tuple #[.string ⟨#[]⟩, .int .i64 q]) w := by
  go_enter Tryz.func37, Tryz.ntmps37
  have B1 := Below.refl w.heap.size w
  go_wp2_with fail
  have C_2 := Box4.make w (.int .u32 a) (.int .u16 m) (.int .u32 b) (.int .u16 n) 39
  have B3 := B1.alloc B1.size (.cells #[.int .u32 a, .int .u16 m, .int .u32 b, .int .u16 n] 39)
  clear B1
  refine (co _).mono ?_; rintro e w1 ⟨rfl, x1⟩
  have C_4 := C_2.on x1
  have B5 := B3.trans (x1.mono B3.size)
  clear C_2 B3 x1
  clear co
  have al := alO_ B5 (.cells #[.int .u8 0, .int .u32 0, .int .u16 0, .int .u32 0, .int .u16 0, .int .i64 0, .int .u8 0, .bool false, .int .u8 0] 120)
  have C_6 := C_4.on al
  have X_7 := Box9.make w1 (.int .u8 0) (.int .u32 0) (.int .u16 0) (.int .u32 0) (.int .u16 0) (.int .i64 0) (.int .u8 0) (.bool false) (.int .u8 0) 120
  have B8 := B5.trans (al.mono B5.size)
  clear al
  clear C_4 B5
  go_wp2
  go_ret2
  exact ⟨rfl, B8⟩
theorem rapply9_ttl (s : ByteArray) (pr h5 xm h6 xn kk ff tt : Int) (aa : Bool) (e2 : decide (tt < 2) = true) (co : Cb_ 68 #[.string s] (.tuple #[.agg #[.int .u8 pr, .int .u32 h5, .int .u16 xm, .int .u32 h6, .int .u16 xn, .int .i64 kk, .int .u8 ff, .bool aa, .int .u8 tt], .int .i64 0])) (a m b n : Int) (w : World) :
    Cw_ 37 #[.string s, .agg #[.int .u32 a, .int .u16 m, .int .u32 b, .int .u16 n]] (.tuple #[.string ⟨#[]⟩, .int .i64 8]) w := by
  go_enter Tryz.func37, Tryz.ntmps37
  have B1 := Below.refl w.heap.size w
  go_wp2_with fail
  have C_2 := Box4.make w (.int .u32 a) (.int .u16 m) (.int .u32 b) (.int .u16 n) 39
  have B3 := B1.alloc B1.size (.cells #[.int .u32 a, .int .u16 m, .int .u32 b, .int .u16 n] 39)
  clear B1
  refine (co _).mono ?_; rintro e w1 ⟨rfl, x1⟩
  have C_4 := C_2.on x1
  have B5 := B3.trans (x1.mono B3.size)
  clear C_2 B3 x1
  clear co
  have al := alO_ B5 (.cells #[.int .u8 pr, .int .u32 h5, .int .u16 xm, .int .u32 h6, .int .u16 xn, .int .i64 kk, .int .u8 ff, .bool aa, .int .u8 tt] 120)
  have C_6 := C_4.on al
  have X_7 := Box9.make w1 (.int .u8 pr) (.int .u32 h5) (.int .u16 xm) (.int .u32 h6) (.int .u16 xn) (.int .i64 kk) (.int .u8 ff) (.bool aa) (.int .u8 tt) 120
  have B8 := B5.trans (al.mono B5.size)
  clear al
  clear C_4 B5
  obtain ⟨_, x1_0, x1_1, x1_2, x1_3, x1_4, x1_5, x1_6, x1_7, x1_8⟩ := id X_7
  go_wp2
  go_ret2
  exact ⟨rfl, B8⟩
theorem rapply9_tcp (s L HB LB : ByteArray) (a m b n h5 xm h6 xn kk ff tt h0 h1 h3 h4 q : Int) (h2 aa : Bool) (h7 : ByteArray) (o : Nat) (e2 : decide (tt < 2) = false) (i0 : (0 : Int) < (s.size : Int)) (e4 : bt s 0 % 16 * 4 = (o : Int)) (n60 : o ≤ 60) (io : (o : Int) ≤ (s.size : Int)) (i20 : (20 : Int) ≤ (s.size : Int)) (z : HB.size + LB.size ≤ 9223372036854775807) (co : Cb_ 68 #[.string s] (.tuple #[.agg #[.int .u8 6, .int .u32 h5, .int .u16 xm, .int .u32 h6, .int .u16 xn, .int .i64 kk, .int .u8 ff, .bool aa, .int .u8 tt], .int .i64 0])) (cp : Cb_ 69 #[.string s] (.tuple #[.agg #[.int .u8 h0, .int .u16 h1, .bool h2, .int .u8 h3, .int .u8 h4, .int .u32 h5, .int .u32 h6, .string h7], .string L, .int .i64 q])) (ch : Cb_ 82 #[.string (s.extract 0 o), .agg #[.int .u32 a, .int .u16 m, .int .u32 b, .int .u16 n]] (.string HB)) (ct : Cb_ 83 #[.string L, .string (s.extract 12 20), .agg #[.int .u32 a, .int .u16 m, .int .u32 b, .int .u16 n], .int .i64 16] (.string LB)) (w : World) :
    Cw_ 37 #[.string s, .agg #[.int .u32 a, .int .u16 m, .int .u32 b, .int .u16 n]] (.tuple #[.string (HB ++ LB), .int .i64 0]) w := by
  have hb := get_bt s
  have b0 := bt_nonneg s 0
  have b1 := bt_le s 0
  go_enter Tryz.func37, Tryz.ntmps37
  have B1 := Below.refl w.heap.size w
  go_wp2_with fail
  have C_2 := Box4.make w (.int .u32 a) (.int .u16 m) (.int .u32 b) (.int .u16 n) 39
  have B3 := B1.alloc B1.size (.cells #[.int .u32 a, .int .u16 m, .int .u32 b, .int .u16 n] 39)
  clear B1
  refine (co _).mono ?_; rintro e w1 ⟨rfl, x1⟩
  have C_4 := C_2.on x1
  have B5 := B3.trans (x1.mono B3.size)
  clear C_2 B3 x1
  clear co
  have al := alO_ B5 (.cells #[.int .u8 6, .int .u32 h5, .int .u16 xm, .int .u32 h6, .int .u16 xn, .int .i64 kk, .int .u8 ff, .bool aa, .int .u8 tt] 120)
  have C_6 := C_4.on al
  have X_7 := Box9.make w1 (.int .u8 6) (.int .u32 h5) (.int .u16 xm) (.int .u32 h6) (.int .u16 xn) (.int .i64 kk) (.int .u8 ff) (.bool aa) (.int .u8 tt) 120
  have B8 := B5.trans (al.mono B5.size)
  clear al
  clear C_4 B5
  obtain ⟨_, x1_0, x1_1, x1_2, x1_3, x1_4, x1_5, x1_6, x1_7, x1_8⟩ := id X_7
  go_wp2_with fail
  refine (cp _).mono ?_; rintro e w2 ⟨rfl, x2⟩
  have C_9 := C_6.on x2
  have X_10 := X_7.on x2
  have B11 := B8.trans (x2.mono B8.size)
  clear x1_0 x1_1 x1_2 x1_3 x1_4 x1_5 x1_6 x1_7 x1_8 C_6 X_7 B8 x2
  clear cp
  have al := alO_ B11 (.cells #[.int .u8 h0, .int .u16 h1, .bool h2, .int .u8 h3, .int .u8 h4, .int .u32 h5, .int .u32 h6, .string h7] 50)
  have C_12 := C_9.on al
  have X_13 := X_10.on al
  have B14 := B11.trans (al.mono B11.size)
  clear al
  clear C_9 X_10 B11
  go_wp2_with fail
  obtain ⟨u3, hu3⟩ : ∃ x, x = w2.alloc (.cells #[.int .u8 h0, .int .u16 h1, .bool h2, .int .u8 h3, .int .u8 h4, .int .u32 h5, .int .u32 h6, .string h7] 50) := ⟨_, rfl⟩
  rw [← hu3] at C_12 X_13 B14 ⊢
  clear hu3
  obtain ⟨zc, gc0, gc1, gc2, gc3⟩ := id C_12
  have Fc0 := lat_ gc0 zc
  have Fc1 := lat_ gc1 zc
  have Fc2 := lat_ gc2 zc
  have Fc3 := lat_ gc3 zc
  clear gc0 gc1 gc2 gc3
  refine region_later (B := u3.heap.size) (by kernel_rfl) (by kernel_rfl) ?_
  repeat (go_big_quiet_step (first
    | (go_at_call 82; exact later_of _ (Nat.le_refl _) (ch _))))
  refine later_end fun w4 x4 => ?_
  have C_15 := C_12.on x4
  have X_16 := X_13.on x4
  have B17 := B14.trans (x4.mono B14.size)
  clear Fc0 Fc1 Fc2 Fc3 zc C_12 X_13 B14 x4
  clear ch
  obtain ⟨_, x2_0, x2_1, x2_2, x2_3, x2_4, x2_5, x2_6, x2_7, x2_8⟩ := id X_16
  go_wp2_with fail
  clear x2_0 x2_1 x2_2 x2_3 x2_4 x2_5 x2_6 x2_7 x2_8
  obtain ⟨zc, gc0, gc1, gc2, gc3⟩ := id C_15
  have Fc0 := lat_ gc0 zc
  have Fc1 := lat_ gc1 zc
  have Fc2 := lat_ gc2 zc
  have Fc3 := lat_ gc3 zc
  clear gc0 gc1 gc2 gc3
  refine region_later (B := w4.heap.size) (by kernel_rfl) (by kernel_rfl) ?_
  repeat (go_big_quiet_step (first
    | (go_at_call 83; exact later_of _ (Nat.le_refl _) (ct _))))
  refine later_end fun w5 x5 => ?_
  have C_18 := C_15.on x5
  have X_19 := X_16.on x5
  have B20 := B17.trans (x5.mono B17.size)
  clear Fc0 Fc1 Fc2 Fc3 zc C_15 X_16 B17 x5
  go_wp2
  go_ret2
  exact ⟨rfl, B20⟩
theorem rapply9_udp (s L HB LB : ByteArray) (a m b n h5 xm h6 xn kk ff tt h0 h1 h3 h4 q : Int) (h2 aa : Bool) (h7 : ByteArray) (o : Nat) (e2 : decide (tt < 2) = false) (i0 : (0 : Int) < (s.size : Int)) (e4 : bt s 0 % 16 * 4 = (o : Int)) (n60 : o ≤ 60) (io : (o : Int) ≤ (s.size : Int)) (i20 : (20 : Int) ≤ (s.size : Int)) (z : HB.size + LB.size ≤ 9223372036854775807) (co : Cb_ 68 #[.string s] (.tuple #[.agg #[.int .u8 17, .int .u32 h5, .int .u16 xm, .int .u32 h6, .int .u16 xn, .int .i64 kk, .int .u8 ff, .bool aa, .int .u8 tt], .int .i64 0])) (cp : Cb_ 69 #[.string s] (.tuple #[.agg #[.int .u8 h0, .int .u16 h1, .bool h2, .int .u8 h3, .int .u8 h4, .int .u32 h5, .int .u32 h6, .string h7], .string L, .int .i64 q])) (ch : Cb_ 82 #[.string (s.extract 0 o), .agg #[.int .u32 a, .int .u16 m, .int .u32 b, .int .u16 n]] (.string HB)) (ct : Cb_ 83 #[.string L, .string (s.extract 12 20), .agg #[.int .u32 a, .int .u16 m, .int .u32 b, .int .u16 n], .int .i64 6] (.string LB)) (w : World) :
    Cw_ 37 #[.string s, .agg #[.int .u32 a, .int .u16 m, .int .u32 b, .int .u16 n]] (.tuple #[.string (HB ++ LB), .int .i64 0]) w := by
  have hb := get_bt s
  have b0 := bt_nonneg s 0
  have b1 := bt_le s 0
  go_enter Tryz.func37, Tryz.ntmps37
  have B1 := Below.refl w.heap.size w
  go_wp2_with fail
  have C_2 := Box4.make w (.int .u32 a) (.int .u16 m) (.int .u32 b) (.int .u16 n) 39
  have B3 := B1.alloc B1.size (.cells #[.int .u32 a, .int .u16 m, .int .u32 b, .int .u16 n] 39)
  clear B1
  refine (co _).mono ?_; rintro e w1 ⟨rfl, x1⟩
  have C_4 := C_2.on x1
  have B5 := B3.trans (x1.mono B3.size)
  clear C_2 B3 x1
  clear co
  have al := alO_ B5 (.cells #[.int .u8 17, .int .u32 h5, .int .u16 xm, .int .u32 h6, .int .u16 xn, .int .i64 kk, .int .u8 ff, .bool aa, .int .u8 tt] 120)
  have C_6 := C_4.on al
  have X_7 := Box9.make w1 (.int .u8 17) (.int .u32 h5) (.int .u16 xm) (.int .u32 h6) (.int .u16 xn) (.int .i64 kk) (.int .u8 ff) (.bool aa) (.int .u8 tt) 120
  have B8 := B5.trans (al.mono B5.size)
  clear al
  clear C_4 B5
  obtain ⟨_, x1_0, x1_1, x1_2, x1_3, x1_4, x1_5, x1_6, x1_7, x1_8⟩ := id X_7
  go_wp2_with fail
  refine (cp _).mono ?_; rintro e w2 ⟨rfl, x2⟩
  have C_9 := C_6.on x2
  have X_10 := X_7.on x2
  have B11 := B8.trans (x2.mono B8.size)
  clear x1_0 x1_1 x1_2 x1_3 x1_4 x1_5 x1_6 x1_7 x1_8 C_6 X_7 B8 x2
  clear cp
  have al := alO_ B11 (.cells #[.int .u8 h0, .int .u16 h1, .bool h2, .int .u8 h3, .int .u8 h4, .int .u32 h5, .int .u32 h6, .string h7] 50)
  have C_12 := C_9.on al
  have X_13 := X_10.on al
  have B14 := B11.trans (al.mono B11.size)
  clear al
  clear C_9 X_10 B11
  go_wp2_with fail
  obtain ⟨u3, hu3⟩ : ∃ x, x = w2.alloc (.cells #[.int .u8 h0, .int .u16 h1, .bool h2, .int .u8 h3, .int .u8 h4, .int .u32 h5, .int .u32 h6, .string h7] 50) := ⟨_, rfl⟩
  rw [← hu3] at C_12 X_13 B14 ⊢
  clear hu3
  obtain ⟨zc, gc0, gc1, gc2, gc3⟩ := id C_12
  have Fc0 := lat_ gc0 zc
  have Fc1 := lat_ gc1 zc
  have Fc2 := lat_ gc2 zc
  have Fc3 := lat_ gc3 zc
  clear gc0 gc1 gc2 gc3
  refine region_later (B := u3.heap.size) (by kernel_rfl) (by kernel_rfl) ?_
  repeat (go_big_quiet_step (first
    | (go_at_call 82; exact later_of _ (Nat.le_refl _) (ch _))))
  refine later_end fun w4 x4 => ?_
  have C_15 := C_12.on x4
  have X_16 := X_13.on x4
  have B17 := B14.trans (x4.mono B14.size)
  clear Fc0 Fc1 Fc2 Fc3 zc C_12 X_13 B14 x4
  clear ch
  obtain ⟨_, x2_0, x2_1, x2_2, x2_3, x2_4, x2_5, x2_6, x2_7, x2_8⟩ := id X_16
  go_wp2_with fail
  clear x2_0 x2_1 x2_2 x2_3 x2_4 x2_5 x2_6 x2_7 x2_8
  obtain ⟨zc, gc0, gc1, gc2, gc3⟩ := id C_15
  have Fc0 := lat_ gc0 zc
  have Fc1 := lat_ gc1 zc
  have Fc2 := lat_ gc2 zc
  have Fc3 := lat_ gc3 zc
  clear gc0 gc1 gc2 gc3
  refine region_later (B := w4.heap.size) (by kernel_rfl) (by kernel_rfl) ?_
  repeat (go_big_quiet_step (first
    | (go_at_call 83; exact later_of _ (Nat.le_refl _) (ct _))))
  refine later_end fun w5 x5 => ?_
  have C_18 := C_15.on x5
  have X_19 := X_16.on x5
  have B20 := B17.trans (x5.mono B17.size)
  clear Fc0 Fc1 Fc2 Fc3 zc C_15 X_16 B17 x5
  go_wp2
  go_ret2
  exact ⟨rfl, B20⟩
theorem rapply9_err (s L HB : ByteArray) (a m b n h5 xm h6 xn ff tt h0 h1 h3 h4 q : Int) (h2 aa : Bool) (h7 : ByteArray) (o : Nat) (e2 : decide (tt < 2) = false) (i0 : (0 : Int) < (s.size : Int)) (e4 : bt s 0 % 16 * 4 = (o : Int)) (n60 : o ≤ 60) (io : (o : Int) ≤ (s.size : Int)) (i20 : (20 : Int) ≤ (s.size : Int)) (z : HB.size + L.size ≤ 9223372036854775807) (co : Cb_ 68 #[.string s] (.tuple #[.agg #[.int .u8 1, .int .u32 h5, .int .u16 xm, .int .u32 h6, .int .u16 xn, .int .i64 3, .int .u8 ff, .bool aa, .int .u8 tt], .int .i64 0])) (cp : Cb_ 69 #[.string s] (.tuple #[.agg #[.int .u8 h0, .int .u16 h1, .bool h2, .int .u8 h3, .int .u8 h4, .int .u32 h5, .int .u32 h6, .string h7], .string L, .int .i64 q])) (ch : Cb_ 82 #[.string (s.extract 0 o), .agg #[.int .u32 a, .int .u16 m, .int .u32 b, .int .u16 n]] (.string HB))  (w : World) :
    Cw_ 37 #[.string s, .agg #[.int .u32 a, .int .u16 m, .int .u32 b, .int .u16 n]] (.tuple #[.string (HB ++ L), .int .i64 0]) w := by
  have hb := get_bt s
  have b0 := bt_nonneg s 0
  have b1 := bt_le s 0
  go_enter Tryz.func37, Tryz.ntmps37
  have B1 := Below.refl w.heap.size w
  go_wp2_with fail
  have C_2 := Box4.make w (.int .u32 a) (.int .u16 m) (.int .u32 b) (.int .u16 n) 39
  have B3 := B1.alloc B1.size (.cells #[.int .u32 a, .int .u16 m, .int .u32 b, .int .u16 n] 39)
  clear B1
  refine (co _).mono ?_; rintro e w1 ⟨rfl, x1⟩
  have C_4 := C_2.on x1
  have B5 := B3.trans (x1.mono B3.size)
  clear C_2 B3 x1
  clear co
  have al := alO_ B5 (.cells #[.int .u8 1, .int .u32 h5, .int .u16 xm, .int .u32 h6, .int .u16 xn, .int .i64 3, .int .u8 ff, .bool aa, .int .u8 tt] 120)
  have C_6 := C_4.on al
  have X_7 := Box9.make w1 (.int .u8 1) (.int .u32 h5) (.int .u16 xm) (.int .u32 h6) (.int .u16 xn) (.int .i64 3) (.int .u8 ff) (.bool aa) (.int .u8 tt) 120
  have B8 := B5.trans (al.mono B5.size)
  clear al
  clear C_4 B5
  obtain ⟨_, x1_0, x1_1, x1_2, x1_3, x1_4, x1_5, x1_6, x1_7, x1_8⟩ := id X_7
  go_wp2_with fail
  refine (cp _).mono ?_; rintro e w2 ⟨rfl, x2⟩
  have C_9 := C_6.on x2
  have X_10 := X_7.on x2
  have B11 := B8.trans (x2.mono B8.size)
  clear x1_0 x1_1 x1_2 x1_3 x1_4 x1_5 x1_6 x1_7 x1_8 C_6 X_7 B8 x2
  clear cp
  have al := alO_ B11 (.cells #[.int .u8 h0, .int .u16 h1, .bool h2, .int .u8 h3, .int .u8 h4, .int .u32 h5, .int .u32 h6, .string h7] 50)
  have C_12 := C_9.on al
  have X_13 := X_10.on al
  have B14 := B11.trans (al.mono B11.size)
  clear al
  clear C_9 X_10 B11
  go_wp2_with fail
  obtain ⟨u3, hu3⟩ : ∃ x, x = w2.alloc (.cells #[.int .u8 h0, .int .u16 h1, .bool h2, .int .u8 h3, .int .u8 h4, .int .u32 h5, .int .u32 h6, .string h7] 50) := ⟨_, rfl⟩
  rw [← hu3] at C_12 X_13 B14 ⊢
  clear hu3
  obtain ⟨zc, gc0, gc1, gc2, gc3⟩ := id C_12
  have Fc0 := lat_ gc0 zc
  have Fc1 := lat_ gc1 zc
  have Fc2 := lat_ gc2 zc
  have Fc3 := lat_ gc3 zc
  clear gc0 gc1 gc2 gc3
  refine region_later (B := u3.heap.size) (by kernel_rfl) (by kernel_rfl) ?_
  repeat (go_big_quiet_step (first
    | (go_at_call 82; exact later_of _ (Nat.le_refl _) (ch _))))
  refine later_end fun w4 x4 => ?_
  have C_15 := C_12.on x4
  have X_16 := X_13.on x4
  have B17 := B14.trans (x4.mono B14.size)
  clear Fc0 Fc1 Fc2 Fc3 zc C_12 X_13 B14 x4
  clear ch
  obtain ⟨_, x2_0, x2_1, x2_2, x2_3, x2_4, x2_5, x2_6, x2_7, x2_8⟩ := id X_16
  go_wp2
  go_ret2
  exact ⟨rfl, B17⟩
theorem rapply9_ask (s L HB LB : ByteArray) (a m b n h5 xm h6 xn ff tt h0 h1 h3 h4 q : Int) (h2 : Bool) (h7 : ByteArray) (o : Nat) (e2 : decide (tt < 2) = false) (i0 : (0 : Int) < (s.size : Int)) (e4 : bt s 0 % 16 * 4 = (o : Int)) (n60 : o ≤ 60) (io : (o : Int) ≤ (s.size : Int)) (i20 : (20 : Int) ≤ (s.size : Int)) (z : HB.size + LB.size ≤ 9223372036854775807) (co : Cb_ 68 #[.string s] (.tuple #[.agg #[.int .u8 1, .int .u32 h5, .int .u16 xm, .int .u32 h6, .int .u16 xn, .int .i64 2, .int .u8 ff, .bool true, .int .u8 tt], .int .i64 0])) (cp : Cb_ 69 #[.string s] (.tuple #[.agg #[.int .u8 h0, .int .u16 h1, .bool h2, .int .u8 h3, .int .u8 h4, .int .u32 h5, .int .u32 h6, .string h7], .string L, .int .i64 q])) (ch : Cb_ 82 #[.string (s.extract 0 o), .agg #[.int .u32 a, .int .u16 m, .int .u32 b, .int .u16 n]] (.string HB)) (cy : Cb_ 84 #[.string L, .int .u16 m] (.string LB)) (w : World) :
    Cw_ 37 #[.string s, .agg #[.int .u32 a, .int .u16 m, .int .u32 b, .int .u16 n]] (.tuple #[.string (HB ++ LB), .int .i64 0]) w := by
  have hb := get_bt s
  have b0 := bt_nonneg s 0
  have b1 := bt_le s 0
  go_enter Tryz.func37, Tryz.ntmps37
  have B1 := Below.refl w.heap.size w
  go_wp2_with fail
  have C_2 := Box4.make w (.int .u32 a) (.int .u16 m) (.int .u32 b) (.int .u16 n) 39
  have B3 := B1.alloc B1.size (.cells #[.int .u32 a, .int .u16 m, .int .u32 b, .int .u16 n] 39)
  clear B1
  refine (co _).mono ?_; rintro e w1 ⟨rfl, x1⟩
  have C_4 := C_2.on x1
  have B5 := B3.trans (x1.mono B3.size)
  clear C_2 B3 x1
  clear co
  have al := alO_ B5 (.cells #[.int .u8 1, .int .u32 h5, .int .u16 xm, .int .u32 h6, .int .u16 xn, .int .i64 2, .int .u8 ff, .bool true, .int .u8 tt] 120)
  have C_6 := C_4.on al
  have X_7 := Box9.make w1 (.int .u8 1) (.int .u32 h5) (.int .u16 xm) (.int .u32 h6) (.int .u16 xn) (.int .i64 2) (.int .u8 ff) (.bool true) (.int .u8 tt) 120
  have B8 := B5.trans (al.mono B5.size)
  clear al
  clear C_4 B5
  obtain ⟨_, x1_0, x1_1, x1_2, x1_3, x1_4, x1_5, x1_6, x1_7, x1_8⟩ := id X_7
  go_wp2_with fail
  refine (cp _).mono ?_; rintro e w2 ⟨rfl, x2⟩
  have C_9 := C_6.on x2
  have X_10 := X_7.on x2
  have B11 := B8.trans (x2.mono B8.size)
  clear x1_0 x1_1 x1_2 x1_3 x1_4 x1_5 x1_6 x1_7 x1_8 C_6 X_7 B8 x2
  clear cp
  have al := alO_ B11 (.cells #[.int .u8 h0, .int .u16 h1, .bool h2, .int .u8 h3, .int .u8 h4, .int .u32 h5, .int .u32 h6, .string h7] 50)
  have C_12 := C_9.on al
  have X_13 := X_10.on al
  have B14 := B11.trans (al.mono B11.size)
  clear al
  clear C_9 X_10 B11
  go_wp2_with fail
  obtain ⟨u3, hu3⟩ : ∃ x, x = w2.alloc (.cells #[.int .u8 h0, .int .u16 h1, .bool h2, .int .u8 h3, .int .u8 h4, .int .u32 h5, .int .u32 h6, .string h7] 50) := ⟨_, rfl⟩
  rw [← hu3] at C_12 X_13 B14 ⊢
  clear hu3
  obtain ⟨zc, gc0, gc1, gc2, gc3⟩ := id C_12
  have Fc0 := lat_ gc0 zc
  have Fc1 := lat_ gc1 zc
  have Fc2 := lat_ gc2 zc
  have Fc3 := lat_ gc3 zc
  clear gc0 gc1 gc2 gc3
  refine region_later (B := u3.heap.size) (by kernel_rfl) (by kernel_rfl) ?_
  repeat (go_big_quiet_step (first
    | (go_at_call 82; exact later_of _ (Nat.le_refl _) (ch _))))
  refine later_end fun w4 x4 => ?_
  have C_15 := C_12.on x4
  have X_16 := X_13.on x4
  have B17 := B14.trans (x4.mono B14.size)
  clear Fc0 Fc1 Fc2 Fc3 zc C_12 X_13 B14 x4
  clear ch
  obtain ⟨_, c2_0, c2_1, c2_2, c2_3⟩ := id C_15
  obtain ⟨_, x3_0, x3_1, x3_2, x3_3, x3_4, x3_5, x3_6, x3_7, x3_8⟩ := id X_16
  go_wp2_with fail
  refine (cy _).mono ?_; rintro e w5 ⟨rfl, x5⟩
  have C_18 := C_15.on x5
  have X_19 := X_16.on x5
  have B20 := B17.trans (x5.mono B17.size)
  clear c2_0 c2_1 c2_2 c2_3 x3_0 x3_1 x3_2 x3_3 x3_4 x3_5 x3_6 x3_7 x3_8 C_15 X_16 B17 x5
  go_wp2
  go_ret2
  exact ⟨rfl, B20⟩
theorem rapply9_told (s L HB LB : ByteArray) (a m b n h5 xm h6 xn ff tt h0 h1 h3 h4 q : Int) (h2 : Bool) (h7 : ByteArray) (o : Nat) (e2 : decide (tt < 2) = false) (i0 : (0 : Int) < (s.size : Int)) (e4 : bt s 0 % 16 * 4 = (o : Int)) (n60 : o ≤ 60) (io : (o : Int) ≤ (s.size : Int)) (i20 : (20 : Int) ≤ (s.size : Int)) (z : HB.size + LB.size ≤ 9223372036854775807) (co : Cb_ 68 #[.string s] (.tuple #[.agg #[.int .u8 1, .int .u32 h5, .int .u16 xm, .int .u32 h6, .int .u16 xn, .int .i64 2, .int .u8 ff, .bool false, .int .u8 tt], .int .i64 0])) (cp : Cb_ 69 #[.string s] (.tuple #[.agg #[.int .u8 h0, .int .u16 h1, .bool h2, .int .u8 h3, .int .u8 h4, .int .u32 h5, .int .u32 h6, .string h7], .string L, .int .i64 q])) (ch : Cb_ 82 #[.string (s.extract 0 o), .agg #[.int .u32 a, .int .u16 m, .int .u32 b, .int .u16 n]] (.string HB)) (cy : Cb_ 84 #[.string L, .int .u16 n] (.string LB)) (w : World) :
    Cw_ 37 #[.string s, .agg #[.int .u32 a, .int .u16 m, .int .u32 b, .int .u16 n]] (.tuple #[.string (HB ++ LB), .int .i64 0]) w := by
  have hb := get_bt s
  have b0 := bt_nonneg s 0
  have b1 := bt_le s 0
  go_enter Tryz.func37, Tryz.ntmps37
  have B1 := Below.refl w.heap.size w
  go_wp2_with fail
  have C_2 := Box4.make w (.int .u32 a) (.int .u16 m) (.int .u32 b) (.int .u16 n) 39
  have B3 := B1.alloc B1.size (.cells #[.int .u32 a, .int .u16 m, .int .u32 b, .int .u16 n] 39)
  clear B1
  refine (co _).mono ?_; rintro e w1 ⟨rfl, x1⟩
  have C_4 := C_2.on x1
  have B5 := B3.trans (x1.mono B3.size)
  clear C_2 B3 x1
  clear co
  have al := alO_ B5 (.cells #[.int .u8 1, .int .u32 h5, .int .u16 xm, .int .u32 h6, .int .u16 xn, .int .i64 2, .int .u8 ff, .bool false, .int .u8 tt] 120)
  have C_6 := C_4.on al
  have X_7 := Box9.make w1 (.int .u8 1) (.int .u32 h5) (.int .u16 xm) (.int .u32 h6) (.int .u16 xn) (.int .i64 2) (.int .u8 ff) (.bool false) (.int .u8 tt) 120
  have B8 := B5.trans (al.mono B5.size)
  clear al
  clear C_4 B5
  obtain ⟨_, x1_0, x1_1, x1_2, x1_3, x1_4, x1_5, x1_6, x1_7, x1_8⟩ := id X_7
  go_wp2_with fail
  refine (cp _).mono ?_; rintro e w2 ⟨rfl, x2⟩
  have C_9 := C_6.on x2
  have X_10 := X_7.on x2
  have B11 := B8.trans (x2.mono B8.size)
  clear x1_0 x1_1 x1_2 x1_3 x1_4 x1_5 x1_6 x1_7 x1_8 C_6 X_7 B8 x2
  clear cp
  have al := alO_ B11 (.cells #[.int .u8 h0, .int .u16 h1, .bool h2, .int .u8 h3, .int .u8 h4, .int .u32 h5, .int .u32 h6, .string h7] 50)
  have C_12 := C_9.on al
  have X_13 := X_10.on al
  have B14 := B11.trans (al.mono B11.size)
  clear al
  clear C_9 X_10 B11
  go_wp2_with fail
  obtain ⟨u3, hu3⟩ : ∃ x, x = w2.alloc (.cells #[.int .u8 h0, .int .u16 h1, .bool h2, .int .u8 h3, .int .u8 h4, .int .u32 h5, .int .u32 h6, .string h7] 50) := ⟨_, rfl⟩
  rw [← hu3] at C_12 X_13 B14 ⊢
  clear hu3
  obtain ⟨zc, gc0, gc1, gc2, gc3⟩ := id C_12
  have Fc0 := lat_ gc0 zc
  have Fc1 := lat_ gc1 zc
  have Fc2 := lat_ gc2 zc
  have Fc3 := lat_ gc3 zc
  clear gc0 gc1 gc2 gc3
  refine region_later (B := u3.heap.size) (by kernel_rfl) (by kernel_rfl) ?_
  repeat (go_big_quiet_step (first
    | (go_at_call 82; exact later_of _ (Nat.le_refl _) (ch _))))
  refine later_end fun w4 x4 => ?_
  have C_15 := C_12.on x4
  have X_16 := X_13.on x4
  have B17 := B14.trans (x4.mono B14.size)
  clear Fc0 Fc1 Fc2 Fc3 zc C_12 X_13 B14 x4
  clear ch
  obtain ⟨_, c2_0, c2_1, c2_2, c2_3⟩ := id C_15
  obtain ⟨_, x3_0, x3_1, x3_2, x3_3, x3_4, x3_5, x3_6, x3_7, x3_8⟩ := id X_16
  go_wp2_with fail
  refine (cy _).mono ?_; rintro e w5 ⟨rfl, x5⟩
  have C_18 := C_15.on x5
  have X_19 := X_16.on x5
  have B20 := B17.trans (x5.mono B17.size)
  clear c2_0 c2_1 c2_2 c2_3 x3_0 x3_1 x3_2 x3_3 x3_4 x3_5 x3_6 x3_7 x3_8 C_15 X_16 B17 x5
  go_wp2
  go_ret2
  exact ⟨rfl, B20⟩
theorem rapply9_ (s : ByteArray) (a m b n : Int) (w : World) (hs : s.size ≤ 1000000) (hc : okC a m b n) :
    Cw_ 37 #[.string s, .agg #[.int .u32 a, .int .u16 m, .int .u32 b, .int .u16 n]] (.tuple #[.string (rwB s a m b n), .int .i64 (rwR s)]) w := by
  have co := fun u => rof8_ s u hs
  by_cases hr : seenR s = 0
  rotate_left
  · have hR : rwR s = seenR s := by unfold rwR; rw [if_neg hr]
    obtain ⟨n1, n2⟩ := s_no (s := s) hr
    rw [n1, n1, n1, n1, n1, n1, n1, n1, n2] at co
    rw [rw_no (by rw [hR]; exact hr), hR]
    exact rapply9_refused s (seenR s) (by simpa using hr) co a m b n w
  obtain ⟨n1, n2⟩ := s_yes (s := s) hr
  rw [n1, n1, n1, n1, n1, n1, n1, n1, n2, hr] at co
  by_cases h2 : bt s 8 < 2
  · have hR : rwR s = 8 := by unfold rwR; rw [if_pos hr, if_pos h2]
    rw [rw_no (by rw [hR]; decide), hR]
    exact rapply9_ttl s _ _ _ _ _ _ _ _ _ (by simpa using h2) co a m b n w
  have hR : rwR s = 0 := rw_is hr (by omega)
  obtain ⟨hp, ho⟩ := seen_ip hr
  obtain ⟨f1, f2, f3, f4, f5, f6, f7, f8, f9⟩ := ip_facts hp
  have cp := fun u => rparse4_ s u (by unfold maxLen; omega)
  have y1 := (p_yes hp).1
  rw [y1, y1, y1, y1, y1, y1, hp] at cp
  have o60 : ownN s ≤ 60 := by have := bt_le s 0; have := bt_nonneg s 0; unfold ownN; omega
  have e4 : bt s 0 % 16 * 4 = (ownN s : Int) := by have := bt_nonneg s 0; unfold ownN; omega
  have zo := size_extract' s 0 (ownN s) (Nat.zero_le _) f4
  have b8 : bt (s.extract 0 (ownN s)) 8 = bt s 8 := bt_ext0 s _ 8 (by omega) f4
  have ch := fun u => head9_ (s.extract 0 (ownN s)) a m b n u hc (by omega) (by omega) (by rw [b8]; omega)
  have zh := headC_size (s := s.extract 0 (ownN s)) (a := a) (b := b) (by omega)
  have zl : (pP s).size ≤ 1000000 := by
    obtain ⟨_, _, _, y4⟩ := p_yes hp
    rw [y4, ByteArray.size_extract]; omega
  have zc := ld_size ho (g32 s 12) (g32 s 16) a m b n
  have eB : rwB s a m b n = headC (s.extract 0 (ownN s)) a b ++ ldC (bt s 9) (pP s) (g32 s 12) (g32 s 16) a m b n := by unfold rwB; rw [if_pos hR]
  have e2 : decide (bt s 8 < 2) = false := by simp; omega
  have hq := okC_of s
  obtain ⟨c0, c1, c2, c3, c4, c5, c6, c7⟩ := id hc
  rw [eB, hR]
  rcases oR_cases ho with ⟨k, t1⟩ | ⟨k, t1⟩ | ⟨k, t1, q⟩
  · rw [k] at co zc ⊢
    have ct := fun u => ports9_tcp (pP s) (g32 s 12) (g32 s 16) a m b n u hq hc zl (tOk_size t1)
    rw [← ldC_tcp, ← ext_addrs f1] at ct
    exact rapply9_tcp s (pP s) _ _ a m b n _ _ _ _ _ _ _ _ _ _ _ _ _ _ _ (ownN s) e2 (by omega) e4 o60 (by omega) (by omega) (by omega) co cp ch ct w
  · rw [k] at co zc ⊢
    have ct := fun u => ports9_udp (pP s) (g32 s 12) (g32 s 16) a m b n u hq hc zl (uOk_size t1)
    rw [← ldC_udp, ← ext_addrs f1] at ct
    exact rapply9_udp s (pP s) _ _ a m b n _ _ _ _ _ _ _ _ _ _ _ _ _ _ _ (ownN s) e2 (by omega) e4 o60 (by omega) (by omega) (by omega) co cp ch ct w
  · rw [k] at co zc ⊢
    have eK : oK 1 (pP s) = if qIs (bt (pP s) 0) (bt (pP s) 1) = true then 2 else 3 := by unfold oK; rw [if_pos rfl]
    have eA : oA 1 (pP s) = qAsk (bt (pP s) 0) (bt (pP s) 1) := by unfold oA; simp
    rw [eK, eA] at co
    cases hqi : qIs (bt (pP s) 0) (bt (pP s) 1) with
    | false =>
      rw [hqi] at co
      rw [if_neg (by decide)] at co
      rw [ld_err hqi] at zc ⊢
      exact rapply9_err s (pP s) _ a m b n _ _ _ _ _ _ _ _ _ _ _ _ _ _ (ownN s) e2 (by omega) e4 o60 (by omega) (by omega) (by omega) co cp ch w
    | true =>
      rw [hqi] at co
      rw [if_pos rfl] at co
      have e5 := ldC_ic (pP s) (g32 s 12) (g32 s 16) a m b n
      rw [if_pos hqi] at e5
      cases hqa : qAsk (bt (pP s) 0) (bt (pP s) 1) with
      | true =>
        rw [hqa] at co e5
        rw [if_pos rfl] at e5
        have cy := fun u => query9_ (pP s) m u zl (mOk_size t1) c2 c3
        rw [← e5] at cy
        exact rapply9_ask s (pP s) _ _ a m b n _ _ _ _ _ _ _ _ _ _ _ _ _ (ownN s) e2 (by omega) e4 o60 (by omega) (by omega) (by omega) co cp ch cy w
      | false =>
        rw [hqa] at co e5
        rw [if_neg (by decide)] at e5
        have cy := fun u => query9_ (pP s) n u zl (mOk_size t1) c6 c7
        rw [← e5] at cy
        exact rapply9_told s (pP s) _ _ a m b n _ _ _ _ _ _ _ _ _ _ _ _ _ (ownN s) e2 (by omega) e4 o60 (by omega) (by omega) (by omega) co cp ch cy w
end Go.Proofs.YtbpicngbjggblaaGreatDoor
