/- Texts of this proof, together: TupA, TupL, TupD, TupV, TupM. -/
import Derived.Test.YtbpicngbjggblaaGreatDoorGm
import Derived.Test.YtbpicngbjggblaaGreatDoorGc
import Derived.Test.YtbpicngbjggblaaGreatDoorGh
import Derived.Test.YtbpicngbjggblaaGreatDoorGf
import Derived.Test.YtbpicngbjggblaaGreatDoorGj
import Derived.Test.YtbpicngbjggblaaGreatDoorGb
import Derived.Test.YtbpicngbjggblaaGreatDoorGd
import Derived.Test.YtbpicngbjggblaaGreatDoorGk
namespace Go.Proofs.YtbpicngbjggblaaGreatDoor
set_option maxHeartbeats 4000000
set_option maxRecDepth 100000
set_option linter.unusedVariables false
set_option linter.unusedSimpArgs false
open Go.ChangeShapes Go.WideShapes Go.ChangeAt Go.RowKit Go.PlainAid
attribute [local go_sem ↓] Go.wp_at_zero Go.wp_at_succ
def loadT (a m b n fl : Int) (d : ByteArray) : ByteArray := slT a b (tPutB m n 1000 2000 0 fl 512 0 0 ⟨#[]⟩ d)
def loadU (a m b n : Int) (d : ByteArray) : ByteArray := slU a b (udpB m n 0 d)
def loadM (m n : Int) (d : ByteArray) : ByteArray := if n = 0 then slI (icP 8 0 0 (wiM ⟨#[0, 0, 0, 1]⟩ m) d) else slI (icP 0 0 0 (wiM (wiM ⟨#[0, 0, 0, 1]⟩ m) n) d)
def loadB (p a m b n fl : Int) (d : ByteArray) : ByteArray := if p = 6 then loadT a m b n fl d else if p = 17 then loadU a m b n d else loadM m n d
theorem tPutB_size (sp dp sq ak lo fl wi su ur : Int) (o p : ByteArray) : (tPutB sp dp sq ak lo fl wi su ur o p).size ≤ 20 + o.size + p.size := by
  unfold tPutB
  split
  · unfold tcpB; rw [ByteArray.size_append, ByteArray.size_append, size_W]; show 2 * 10 + _ + _ ≤ _; omega
  · show 0 ≤ _; omega
theorem icP_size (ty co su : Int) (r d : ByteArray) : (icP ty co su r d).size ≤ 4 + r.size + d.size := by
  unfold icP
  split
  · unfold icB; rw [ByteArray.size_append, ByteArray.size_append, size_W]; show 2 * 2 + _ + _ ≤ _; omega
  · show 0 ≤ _; omega
theorem rload8_tcp  (a m b n fl : Int) (d : ByteArray) (w : World) (a0 : 0 ≤ a) (a1 : a ≤ 4294967295) (m0 : 0 ≤ m) (m1 : m ≤ 65535) (b0 : 0 ≤ b) (b1 : b ≤ 4294967295) (n0 : 0 ≤ n) (n1 : n ≤ 65535) (f0 : 0 ≤ fl) (f1 : fl ≤ 255) (hd : d.size ≤ 900000) :
    Cw_ 58 #[.agg #[.int .u8 6, .int .u32 a, .int .u16 m, .int .u32 b, .int .u16 n], .int .u8 fl, .string d] (.string (loadT a m b n fl d)) w := by
  have cp := fun u => rput6_ m n 1000 2000 0 fl 512 0 0 ⟨#[]⟩ d u m0 m1 n0 n1 (by omega) (by omega) (by omega) (by omega) (by omega) (by omega) f0 f1 (by omega) (by omega) (by omega) (by omega) (by omega) (by omega) (by decide) (by omega)
  have zp := tPutB_size m n 1000 2000 0 fl 512 0 0 ⟨#[]⟩ d
  have z0 : (⟨#[]⟩ : ByteArray).size = 0 := rfl
  have cs := fun u => rseal6_ a b (tPutB m n 1000 2000 0 fl 512 0 0 ⟨#[]⟩ d) u a0 a1 b0 b1 (by omega)
  have HV : Hid (loadT a m b n fl d = slT a b (tPutB m n 1000 2000 0 fl 512 0 0 ⟨#[]⟩ d)) := rfl
  generalize slT a b (tPutB m n 1000 2000 0 fl 512 0 0 ⟨#[]⟩ d) = R at *
  generalize tPutB m n 1000 2000 0 fl 512 0 0 ⟨#[]⟩ d = P at *
  generalize tE (⟨#[]⟩ : ByteArray).size 0 = q at *
  clear zp z0
  go_enter Tryz.func58, Tryz.ntmps58
  have B1 := Below.refl w.heap.size w
  go_wp2_with fail
  have T_2 := Box5.make w (.int .u8 6) (.int .u32 a) (.int .u16 m) (.int .u32 b) (.int .u16 n) 33
  have B3 := B1.alloc B1.size (.cells #[.int .u8 6, .int .u32 a, .int .u16 m, .int .u32 b, .int .u16 n] 33)
  clear B1
  refine (cp _).mono ?_; rintro e w1 ⟨rfl, x1⟩
  have T_4 := T_2.on x1
  have B5 := B3.trans (x1.mono B3.size)
  clear T_2 B3 x1
  clear cp
  obtain ⟨_, t1_0, t1_1, t1_2, t1_3, t1_4⟩ := id T_4
  go_wp2_with fail
  refine (cs _).mono ?_; rintro e w2 ⟨rfl, x2⟩
  have T_6 := T_4.on x2
  have B7 := B5.trans (x2.mono B5.size)
  clear t1_0 t1_1 t1_2 t1_3 t1_4 T_4 B5 x2
  clear cs
  go_wp2
  go_ret
  rw [HV.out]
  exact ⟨rfl, B7⟩
theorem rload8_udp  (a m b n fl : Int) (d : ByteArray) (w : World) (a0 : 0 ≤ a) (a1 : a ≤ 4294967295) (m0 : 0 ≤ m) (m1 : m ≤ 65535) (b0 : 0 ≤ b) (b1 : b ≤ 4294967295) (n0 : 0 ≤ n) (n1 : n ≤ 65535) (f0 : 0 ≤ fl) (f1 : fl ≤ 255) (hd : d.size ≤ 900000) :
    Cw_ 58 #[.agg #[.int .u8 17, .int .u32 a, .int .u16 m, .int .u32 b, .int .u16 n], .int .u8 fl, .string d] (.string (loadU a m b n d)) w := by
  have cp := fun u => rput5_ m n 0 0 d u m0 m1 n0 n1 (by omega) (by omega) (by omega)
  have zp : (udpB m n 0 d).size = 8 + d.size := by unfold udpB; rw [ByteArray.size_append, size_W]; rfl
  have cs := fun u => rseal5_ a b (udpB m n 0 d) u a0 a1 b0 b1 (by omega)
  have HV : Hid (loadU a m b n d = slU a b (udpB m n 0 d)) := rfl
  generalize slU a b (udpB m n 0 d) = R at *
  generalize udpB m n 0 d = P at *
  clear zp
  go_enter Tryz.func58, Tryz.ntmps58
  have B1 := Below.refl w.heap.size w
  go_wp2_with fail
  have T_2 := Box5.make w (.int .u8 17) (.int .u32 a) (.int .u16 m) (.int .u32 b) (.int .u16 n) 33
  have B3 := B1.alloc B1.size (.cells #[.int .u8 17, .int .u32 a, .int .u16 m, .int .u32 b, .int .u16 n] 33)
  clear B1
  obtain ⟨u1, hu1⟩ : ∃ x, x = w.alloc (.cells #[.int .u8 17, .int .u32 a, .int .u16 m, .int .u32 b, .int .u16 n] 33) := ⟨_, rfl⟩
  rw [← hu1] at T_2 B3 ⊢
  clear hu1
  obtain ⟨zt, gt0, gt1, gt2, gt3, gt4⟩ := id T_2
  have Ft1 := lat_ gt1 zt
  have Ft2 := lat_ gt2 zt
  have Ft3 := lat_ gt3 zt
  have Ft4 := lat_ gt4 zt
  clear gt0 gt1 gt2 gt3 gt4
  refine region_later (B := u1.heap.size) (by kernel_rfl) (by kernel_rfl) ?_
  repeat (go_big_quiet_step (first
    | (go_at_call 111; exact later_of _ (Nat.le_refl _) (cp _))
    | (go_at_call 110; exact later_of _ (Nat.le_refl _) (cs _))))
  refine later_end fun w2 x2 => ?_
  have T_4 := T_2.on x2
  have B5 := B3.trans (x2.mono B3.size)
  clear Ft1 Ft2 Ft3 Ft4 zt T_2 B3 x2
  go_wp2
  go_ret
  rw [HV.out]
  exact ⟨rfl, B5⟩
theorem rload8_ask (p : Int) (a m b n fl : Int) (d : ByteArray) (w : World) (a0 : 0 ≤ a) (a1 : a ≤ 4294967295) (m0 : 0 ≤ m) (m1 : m ≤ 65535) (b0 : 0 ≤ b) (b1 : b ≤ 4294967295) (n0 : 0 ≤ n) (n1 : n ≤ 65535) (f0 : 0 ≤ fl) (f1 : fl ≤ 255) (hd : d.size ≤ 900000) (p6 : ¬ p = 6) (p17 : ¬ p = 17) (hn : n = 0) :
    Cw_ 58 #[.agg #[.int .u8 p, .int .u32 a, .int .u16 m, .int .u32 b, .int .u16 n], .int .u8 fl, .string d] (.string (loadM m n d)) w := by
  have e6 : (p == 6) = false := by simpa using p6
  have e17 : (p == 17) = false := by simpa using p17
  have en : (n != 0) = false := by simpa using hn
  obtain ⟨r0, hr0⟩ : ∃ r, r = (⟨#[0, 0, 0, 1]⟩ : ByteArray) := ⟨_, rfl⟩
  have z0 : r0.size = 4 := by rw [hr0]; rfl
  obtain ⟨r1, hr1⟩ : ∃ r, r = wiM r0 m := ⟨_, rfl⟩
  have z1 : r1.size = 4 := by rw [hr1, wiM_size, z0]
  have c1 := fun u => rwith7_ 8 0 0 r0 d m u m0 m1 (by omega)
  rw [← hr1] at c1
  have cp := fun u => rput7_ 8 0 0 r1 d u (by omega) (by omega) (by omega) (by omega) (by omega) (by omega) (by omega) (by omega)
  have zp := icP_size 8 0 0 r1 d
  have cs := fun u => rseal7_ (icP 8 0 0 r1 d) u (by omega)
  have HV : Hid (loadM m n d = slI (icP 8 0 0 r1 d)) := by show _ = _; unfold loadM; rw [if_pos hn, ← hr0, ← hr1]
  generalize slI (icP 8 0 0 r1 d) = R at *
  generalize icP 8 0 0 r1 d = P at *
  generalize icE r1.size = q at *
  rw [hr0] at c1
  clear zp hr1 z1 z0 hr0 p6 p17 hn
  go_enter Tryz.func58, Tryz.ntmps58
  have B1 := Below.refl w.heap.size w
  go_wp2_with fail
  have T_2 := Box5.make w (.int .u8 p) (.int .u32 a) (.int .u16 m) (.int .u32 b) (.int .u16 n) 33
  have B3 := B1.alloc B1.size (.cells #[.int .u8 p, .int .u32 a, .int .u16 m, .int .u32 b, .int .u16 n] 33)
  clear B1
  have al := alO_ B3 (.cells #[.int .u8 8, .int .u8 0, .int .u16 0, .string ⟨#[0, 0, 0, 1]⟩, .string d] 81)
  have T_4 := T_2.on al
  have hs_ : (w.alloc (.cells #[.int .u8 p, .int .u32 a, .int .u16 m, .int .u32 b, .int .u16 n] 33)).heap.size = w.heap.size + 1 := by simp
  have M_5 := Box5.make (w.alloc (.cells #[.int .u8 p, .int .u32 a, .int .u16 m, .int .u32 b, .int .u16 n] 33)) (.int .u8 8) (.int .u8 0) (.int .u16 0) (.string ⟨#[0, 0, 0, 1]⟩) (.string d) 81
  rw [hs_] at M_5
  clear hs_
  have B6 := B3.trans (al.mono B3.size)
  clear al
  clear T_2 B3
  have fzM_7 : ∀ i, ((w.alloc (.cells #[.int .u8 p, .int .u32 a, .int .u16 m, .int .u32 b, .int .u16 n] 33)).alloc (.cells #[.int .u8 8, .int .u8 0, .int .u16 0, .string ⟨#[0, 0, 0, 1]⟩, .string d] 81)).frozen? ⟨(w.heap.size + 1), i, none⟩ = false := by intro i; simp [go_sem]
  refine (c1 _).mono ?_; rintro e w1 ⟨rfl, x1⟩
  have fzM_8 := fzB_ x1 M_5.1 fzM_7
  clear fzM_7
  have T_9 := T_4.on x1
  have M_10 := M_5.on x1
  have B11 := B6.trans (x1.mono B6.size)
  clear T_4 M_5 B6 x1
  clear c1
  have ne1_ : ¬ w.heap.size + 1 = w.heap.size := by omega
  have ne2_ : ¬ w.heap.size = w.heap.size + 1 := by omega
  obtain ⟨_, t1_0, t1_1, t1_2, t1_3, t1_4⟩ := id T_9
  obtain ⟨_, m2_0, m2_1, m2_2, m2_3, m2_4⟩ := id M_10
  go_wp2_with fail
  clear t1_0 t1_1 t1_2 t1_3 t1_4 m2_0 m2_1 m2_2 m2_3 m2_4
  obtain ⟨_, t3_0, t3_1, t3_2, t3_3, t3_4⟩ := id T_9
  obtain ⟨_, m4_0, m4_1, m4_2, m4_3, m4_4⟩ := id M_10
  have B12 := (((((B11.setCell (p := ⟨(w.heap.size + 1), 0, none⟩) (by show w.heap.size ≤ w.heap.size + 1; omega) (.int .u8 8)).setCell (p := ⟨(w.heap.size + 1), 1, none⟩) (by show w.heap.size ≤ w.heap.size + 1; omega) (.int .u8 0)).setCell (p := ⟨(w.heap.size + 1), 2, none⟩) (by show w.heap.size ≤ w.heap.size + 1; omega) (.int .u16 0)).setCell (p := ⟨(w.heap.size + 1), 3, none⟩) (by show w.heap.size ≤ w.heap.size + 1; omega) (.string r1)).setCell (p := ⟨(w.heap.size + 1), 4, none⟩) (by show w.heap.size ≤ w.heap.size + 1; omega) (.string d))
  have T_13 : Box5 (((((w1.setCell ⟨(w.heap.size + 1), 0, none⟩ (.int .u8 8)).setCell ⟨(w.heap.size + 1), 1, none⟩ (.int .u8 0)).setCell ⟨(w.heap.size + 1), 2, none⟩ (.int .u16 0)).setCell ⟨(w.heap.size + 1), 3, none⟩ (.string r1)).setCell ⟨(w.heap.size + 1), 4, none⟩ (.string d)) w.heap.size (.int .u8 p) (.int .u32 a) (.int .u16 m) (.int .u32 b) (.int .u16 n) := ⟨by have := T_9.1; simpa using this, by simp [go_sem, t3_0, t3_1, t3_2, t3_3, t3_4, m4_0, m4_1, m4_2, m4_3, m4_4]⟩
  have M_14 : Box5 (((((w1.setCell ⟨(w.heap.size + 1), 0, none⟩ (.int .u8 8)).setCell ⟨(w.heap.size + 1), 1, none⟩ (.int .u8 0)).setCell ⟨(w.heap.size + 1), 2, none⟩ (.int .u16 0)).setCell ⟨(w.heap.size + 1), 3, none⟩ (.string r1)).setCell ⟨(w.heap.size + 1), 4, none⟩ (.string d)) (w.heap.size + 1) (.int .u8 8) (.int .u8 0) (.int .u16 0) (.string r1) (.string d) := ⟨by have := M_10.1; simpa using this, by simp [go_sem, t3_0, t3_1, t3_2, t3_3, t3_4, m4_0, m4_1, m4_2, m4_3, m4_4]⟩
  have fzM_15 : ∀ i, (((((w1.setCell ⟨(w.heap.size + 1), 0, none⟩ (.int .u8 8)).setCell ⟨(w.heap.size + 1), 1, none⟩ (.int .u8 0)).setCell ⟨(w.heap.size + 1), 2, none⟩ (.int .u16 0)).setCell ⟨(w.heap.size + 1), 3, none⟩ (.string r1)).setCell ⟨(w.heap.size + 1), 4, none⟩ (.string d)).frozen? ⟨(w.heap.size + 1), i, none⟩ = false := by intro i; simp [fzM_8]
  clear t3_0 t3_1 t3_2 t3_3 t3_4 m4_0 m4_1 m4_2 m4_3 m4_4 T_9 M_10 fzM_8 B11
  obtain ⟨u2, hu2⟩ : ∃ x, x = (((((w1.setCell ⟨(w.heap.size + 1), 0, none⟩ (.int .u8 8)).setCell ⟨(w.heap.size + 1), 1, none⟩ (.int .u8 0)).setCell ⟨(w.heap.size + 1), 2, none⟩ (.int .u16 0)).setCell ⟨(w.heap.size + 1), 3, none⟩ (.string r1)).setCell ⟨(w.heap.size + 1), 4, none⟩ (.string d)) := ⟨_, rfl⟩
  rw [← hu2] at T_13 M_14 fzM_15 B12 ⊢
  clear hu2
  refine (cp _).mono ?_; rintro e w3 ⟨rfl, x3⟩
  have fzM_16 := fzB_ x3 M_14.1 fzM_15
  clear fzM_15
  have T_17 := T_13.on x3
  have M_18 := M_14.on x3
  have B19 := B12.trans (x3.mono B12.size)
  clear T_13 M_14 B12 x3
  clear cp
  go_wp2_with fail
  refine (cs _).mono ?_; rintro e w4 ⟨rfl, x4⟩
  have fzM_20 := fzB_ x4 M_18.1 fzM_16
  clear fzM_16
  have T_21 := T_17.on x4
  have M_22 := M_18.on x4
  have B23 := B19.trans (x4.mono B19.size)
  clear T_17 M_18 B19 x4
  clear cs
  go_wp2
  go_ret
  rw [HV.out]
  exact ⟨rfl, B23⟩
theorem rload8_told (p : Int) (a m b n fl : Int) (d : ByteArray) (w : World) (a0 : 0 ≤ a) (a1 : a ≤ 4294967295) (m0 : 0 ≤ m) (m1 : m ≤ 65535) (b0 : 0 ≤ b) (b1 : b ≤ 4294967295) (n0 : 0 ≤ n) (n1 : n ≤ 65535) (f0 : 0 ≤ fl) (f1 : fl ≤ 255) (hd : d.size ≤ 900000) (p6 : ¬ p = 6) (p17 : ¬ p = 17) (hn : ¬ n = 0) :
    Cw_ 58 #[.agg #[.int .u8 p, .int .u32 a, .int .u16 m, .int .u32 b, .int .u16 n], .int .u8 fl, .string d] (.string (loadM m n d)) w := by
  have e6 : (p == 6) = false := by simpa using p6
  have e17 : (p == 17) = false := by simpa using p17
  have en : (n != 0) = true := by simpa using hn
  obtain ⟨r0, hr0⟩ : ∃ r, r = (⟨#[0, 0, 0, 1]⟩ : ByteArray) := ⟨_, rfl⟩
  have z0 : r0.size = 4 := by rw [hr0]; rfl
  obtain ⟨r1, hr1⟩ : ∃ r, r = wiM r0 m := ⟨_, rfl⟩
  have z1 : r1.size = 4 := by rw [hr1, wiM_size, z0]
  have c1 := fun u => rwith7_ 8 0 0 r0 d m u m0 m1 (by omega)
  rw [← hr1] at c1
  obtain ⟨r2, hr2⟩ : ∃ r, r = wiM r1 n := ⟨_, rfl⟩
  have z2 : r2.size = 4 := by rw [hr2, wiM_size, z1]
  have c2 := fun u => rwith7_ 0 0 0 r1 d n u n0 n1 (by omega)
  rw [← hr2] at c2
  have cp := fun u => rput7_ 0 0 0 r2 d u (by omega) (by omega) (by omega) (by omega) (by omega) (by omega) (by omega) (by omega)
  have zp := icP_size 0 0 0 r2 d
  have cs := fun u => rseal7_ (icP 0 0 0 r2 d) u (by omega)
  have HV : Hid (loadM m n d = slI (icP 0 0 0 r2 d)) := by show _ = _; unfold loadM; rw [if_neg hn, ← hr0, ← hr1, ← hr2]
  generalize slI (icP 0 0 0 r2 d) = R at *
  generalize icP 0 0 0 r2 d = P at *
  generalize icE r2.size = q at *
  rw [hr0] at c1
  clear zp hr1 z1 z0 hr0 p6 p17 hn hr2 z2
  go_enter Tryz.func58, Tryz.ntmps58
  have B1 := Below.refl w.heap.size w
  go_wp2_with fail
  have T_2 := Box5.make w (.int .u8 p) (.int .u32 a) (.int .u16 m) (.int .u32 b) (.int .u16 n) 33
  have B3 := B1.alloc B1.size (.cells #[.int .u8 p, .int .u32 a, .int .u16 m, .int .u32 b, .int .u16 n] 33)
  clear B1
  have al := alO_ B3 (.cells #[.int .u8 8, .int .u8 0, .int .u16 0, .string ⟨#[0, 0, 0, 1]⟩, .string d] 81)
  have T_4 := T_2.on al
  have hs_ : (w.alloc (.cells #[.int .u8 p, .int .u32 a, .int .u16 m, .int .u32 b, .int .u16 n] 33)).heap.size = w.heap.size + 1 := by simp
  have M_5 := Box5.make (w.alloc (.cells #[.int .u8 p, .int .u32 a, .int .u16 m, .int .u32 b, .int .u16 n] 33)) (.int .u8 8) (.int .u8 0) (.int .u16 0) (.string ⟨#[0, 0, 0, 1]⟩) (.string d) 81
  rw [hs_] at M_5
  clear hs_
  have B6 := B3.trans (al.mono B3.size)
  clear al
  clear T_2 B3
  have fzM_7 : ∀ i, ((w.alloc (.cells #[.int .u8 p, .int .u32 a, .int .u16 m, .int .u32 b, .int .u16 n] 33)).alloc (.cells #[.int .u8 8, .int .u8 0, .int .u16 0, .string ⟨#[0, 0, 0, 1]⟩, .string d] 81)).frozen? ⟨(w.heap.size + 1), i, none⟩ = false := by intro i; simp [go_sem]
  refine (c1 _).mono ?_; rintro e w1 ⟨rfl, x1⟩
  have fzM_8 := fzB_ x1 M_5.1 fzM_7
  clear fzM_7
  have T_9 := T_4.on x1
  have M_10 := M_5.on x1
  have B11 := B6.trans (x1.mono B6.size)
  clear T_4 M_5 B6 x1
  clear c1
  have ne1_ : ¬ w.heap.size + 1 = w.heap.size := by omega
  have ne2_ : ¬ w.heap.size = w.heap.size + 1 := by omega
  obtain ⟨_, t1_0, t1_1, t1_2, t1_3, t1_4⟩ := id T_9
  obtain ⟨_, m2_0, m2_1, m2_2, m2_3, m2_4⟩ := id M_10
  go_wp2_with fail
  clear t1_0 t1_1 t1_2 t1_3 t1_4 m2_0 m2_1 m2_2 m2_3 m2_4
  obtain ⟨_, t3_0, t3_1, t3_2, t3_3, t3_4⟩ := id T_9
  obtain ⟨_, m4_0, m4_1, m4_2, m4_3, m4_4⟩ := id M_10
  have B12 := ((((((B11.setCell (p := ⟨(w.heap.size + 1), 0, none⟩) (by show w.heap.size ≤ w.heap.size + 1; omega) (.int .u8 8)).setCell (p := ⟨(w.heap.size + 1), 1, none⟩) (by show w.heap.size ≤ w.heap.size + 1; omega) (.int .u8 0)).setCell (p := ⟨(w.heap.size + 1), 2, none⟩) (by show w.heap.size ≤ w.heap.size + 1; omega) (.int .u16 0)).setCell (p := ⟨(w.heap.size + 1), 3, none⟩) (by show w.heap.size ≤ w.heap.size + 1; omega) (.string r1)).setCell (p := ⟨(w.heap.size + 1), 4, none⟩) (by show w.heap.size ≤ w.heap.size + 1; omega) (.string d)).setCell (p := ⟨(w.heap.size + 1), 0, none⟩) (by show w.heap.size ≤ w.heap.size + 1; omega) (.int .u8 0))
  have T_13 : Box5 ((((((w1.setCell ⟨(w.heap.size + 1), 0, none⟩ (.int .u8 8)).setCell ⟨(w.heap.size + 1), 1, none⟩ (.int .u8 0)).setCell ⟨(w.heap.size + 1), 2, none⟩ (.int .u16 0)).setCell ⟨(w.heap.size + 1), 3, none⟩ (.string r1)).setCell ⟨(w.heap.size + 1), 4, none⟩ (.string d)).setCell ⟨(w.heap.size + 1), 0, none⟩ (.int .u8 0)) w.heap.size (.int .u8 p) (.int .u32 a) (.int .u16 m) (.int .u32 b) (.int .u16 n) := ⟨by have := T_9.1; simpa using this, by simp [go_sem, t3_0, t3_1, t3_2, t3_3, t3_4, m4_0, m4_1, m4_2, m4_3, m4_4]⟩
  have M_14 : Box5 ((((((w1.setCell ⟨(w.heap.size + 1), 0, none⟩ (.int .u8 8)).setCell ⟨(w.heap.size + 1), 1, none⟩ (.int .u8 0)).setCell ⟨(w.heap.size + 1), 2, none⟩ (.int .u16 0)).setCell ⟨(w.heap.size + 1), 3, none⟩ (.string r1)).setCell ⟨(w.heap.size + 1), 4, none⟩ (.string d)).setCell ⟨(w.heap.size + 1), 0, none⟩ (.int .u8 0)) (w.heap.size + 1) (.int .u8 0) (.int .u8 0) (.int .u16 0) (.string r1) (.string d) := ⟨by have := M_10.1; simpa using this, by simp [go_sem, t3_0, t3_1, t3_2, t3_3, t3_4, m4_0, m4_1, m4_2, m4_3, m4_4]⟩
  have fzM_15 : ∀ i, ((((((w1.setCell ⟨(w.heap.size + 1), 0, none⟩ (.int .u8 8)).setCell ⟨(w.heap.size + 1), 1, none⟩ (.int .u8 0)).setCell ⟨(w.heap.size + 1), 2, none⟩ (.int .u16 0)).setCell ⟨(w.heap.size + 1), 3, none⟩ (.string r1)).setCell ⟨(w.heap.size + 1), 4, none⟩ (.string d)).setCell ⟨(w.heap.size + 1), 0, none⟩ (.int .u8 0)).frozen? ⟨(w.heap.size + 1), i, none⟩ = false := by intro i; simp [fzM_8]
  clear t3_0 t3_1 t3_2 t3_3 t3_4 m4_0 m4_1 m4_2 m4_3 m4_4 T_9 M_10 fzM_8 B11
  obtain ⟨u2, hu2⟩ : ∃ x, x = ((((((w1.setCell ⟨(w.heap.size + 1), 0, none⟩ (.int .u8 8)).setCell ⟨(w.heap.size + 1), 1, none⟩ (.int .u8 0)).setCell ⟨(w.heap.size + 1), 2, none⟩ (.int .u16 0)).setCell ⟨(w.heap.size + 1), 3, none⟩ (.string r1)).setCell ⟨(w.heap.size + 1), 4, none⟩ (.string d)).setCell ⟨(w.heap.size + 1), 0, none⟩ (.int .u8 0)) := ⟨_, rfl⟩
  rw [← hu2] at T_13 M_14 fzM_15 B12 ⊢
  clear hu2
  refine (c2 _).mono ?_; rintro e w3 ⟨rfl, x3⟩
  have fzM_16 := fzB_ x3 M_14.1 fzM_15
  clear fzM_15
  have T_17 := T_13.on x3
  have M_18 := M_14.on x3
  have B19 := B12.trans (x3.mono B12.size)
  clear T_13 M_14 B12 x3
  clear c2
  obtain ⟨_, t5_0, t5_1, t5_2, t5_3, t5_4⟩ := id T_17
  obtain ⟨_, m6_0, m6_1, m6_2, m6_3, m6_4⟩ := id M_18
  go_wp2_with fail
  clear t5_0 t5_1 t5_2 t5_3 t5_4 m6_0 m6_1 m6_2 m6_3 m6_4
  obtain ⟨_, t7_0, t7_1, t7_2, t7_3, t7_4⟩ := id T_17
  obtain ⟨_, m8_0, m8_1, m8_2, m8_3, m8_4⟩ := id M_18
  have B20 := (((((B19.setCell (p := ⟨(w.heap.size + 1), 0, none⟩) (by show w.heap.size ≤ w.heap.size + 1; omega) (.int .u8 0)).setCell (p := ⟨(w.heap.size + 1), 1, none⟩) (by show w.heap.size ≤ w.heap.size + 1; omega) (.int .u8 0)).setCell (p := ⟨(w.heap.size + 1), 2, none⟩) (by show w.heap.size ≤ w.heap.size + 1; omega) (.int .u16 0)).setCell (p := ⟨(w.heap.size + 1), 3, none⟩) (by show w.heap.size ≤ w.heap.size + 1; omega) (.string r2)).setCell (p := ⟨(w.heap.size + 1), 4, none⟩) (by show w.heap.size ≤ w.heap.size + 1; omega) (.string d))
  have T_21 : Box5 (((((w3.setCell ⟨(w.heap.size + 1), 0, none⟩ (.int .u8 0)).setCell ⟨(w.heap.size + 1), 1, none⟩ (.int .u8 0)).setCell ⟨(w.heap.size + 1), 2, none⟩ (.int .u16 0)).setCell ⟨(w.heap.size + 1), 3, none⟩ (.string r2)).setCell ⟨(w.heap.size + 1), 4, none⟩ (.string d)) w.heap.size (.int .u8 p) (.int .u32 a) (.int .u16 m) (.int .u32 b) (.int .u16 n) := ⟨by have := T_17.1; simpa using this, by simp [go_sem, t7_0, t7_1, t7_2, t7_3, t7_4, m8_0, m8_1, m8_2, m8_3, m8_4]⟩
  have M_22 : Box5 (((((w3.setCell ⟨(w.heap.size + 1), 0, none⟩ (.int .u8 0)).setCell ⟨(w.heap.size + 1), 1, none⟩ (.int .u8 0)).setCell ⟨(w.heap.size + 1), 2, none⟩ (.int .u16 0)).setCell ⟨(w.heap.size + 1), 3, none⟩ (.string r2)).setCell ⟨(w.heap.size + 1), 4, none⟩ (.string d)) (w.heap.size + 1) (.int .u8 0) (.int .u8 0) (.int .u16 0) (.string r2) (.string d) := ⟨by have := M_18.1; simpa using this, by simp [go_sem, t7_0, t7_1, t7_2, t7_3, t7_4, m8_0, m8_1, m8_2, m8_3, m8_4]⟩
  have fzM_23 : ∀ i, (((((w3.setCell ⟨(w.heap.size + 1), 0, none⟩ (.int .u8 0)).setCell ⟨(w.heap.size + 1), 1, none⟩ (.int .u8 0)).setCell ⟨(w.heap.size + 1), 2, none⟩ (.int .u16 0)).setCell ⟨(w.heap.size + 1), 3, none⟩ (.string r2)).setCell ⟨(w.heap.size + 1), 4, none⟩ (.string d)).frozen? ⟨(w.heap.size + 1), i, none⟩ = false := by intro i; simp [fzM_16]
  clear t7_0 t7_1 t7_2 t7_3 t7_4 m8_0 m8_1 m8_2 m8_3 m8_4 T_17 M_18 fzM_16 B19
  obtain ⟨u4, hu4⟩ : ∃ x, x = (((((w3.setCell ⟨(w.heap.size + 1), 0, none⟩ (.int .u8 0)).setCell ⟨(w.heap.size + 1), 1, none⟩ (.int .u8 0)).setCell ⟨(w.heap.size + 1), 2, none⟩ (.int .u16 0)).setCell ⟨(w.heap.size + 1), 3, none⟩ (.string r2)).setCell ⟨(w.heap.size + 1), 4, none⟩ (.string d)) := ⟨_, rfl⟩
  rw [← hu4] at T_21 M_22 fzM_23 B20 ⊢
  clear hu4
  refine (cp _).mono ?_; rintro e w5 ⟨rfl, x5⟩
  have fzM_24 := fzB_ x5 M_22.1 fzM_23
  clear fzM_23
  have T_25 := T_21.on x5
  have M_26 := M_22.on x5
  have B27 := B20.trans (x5.mono B20.size)
  clear T_21 M_22 B20 x5
  clear cp
  go_wp2_with fail
  refine (cs _).mono ?_; rintro e w6 ⟨rfl, x6⟩
  have fzM_28 := fzB_ x6 M_26.1 fzM_24
  clear fzM_24
  have T_29 := T_25.on x6
  have M_30 := M_26.on x6
  have B31 := B27.trans (x6.mono B27.size)
  clear T_25 M_26 B27 x6
  clear cs
  go_wp2
  go_ret
  rw [HV.out]
  exact ⟨rfl, B31⟩
theorem rload8_ (p a m b n fl : Int) (d : ByteArray) (w : World) (a0 : 0 ≤ a) (a1 : a ≤ 4294967295) (m0 : 0 ≤ m) (m1 : m ≤ 65535) (b0 : 0 ≤ b) (b1 : b ≤ 4294967295) (n0 : 0 ≤ n) (n1 : n ≤ 65535) (f0 : 0 ≤ fl) (f1 : fl ≤ 255) (hd : d.size ≤ 900000) :
    Cw_ 58 #[.agg #[.int .u8 p, .int .u32 a, .int .u16 m, .int .u32 b, .int .u16 n], .int .u8 fl, .string d] (.string (loadB p a m b n fl d)) w := by
  unfold loadB
  by_cases h6 : p = 6
  · subst h6; rw [if_pos rfl]; exact rload8_tcp a m b n fl d w a0 a1 m0 m1 b0 b1 n0 n1 f0 f1 hd
  · rw [if_neg h6]
    by_cases h17 : p = 17
    · subst h17; rw [if_pos rfl]; exact rload8_udp a m b n fl d w a0 a1 m0 m1 b0 b1 n0 n1 f0 f1 hd
    · rw [if_neg h17]
      by_cases hn : n = 0
      · exact rload8_ask p a m b n fl d w a0 a1 m0 m1 b0 b1 n0 n1 f0 f1 hd h6 h17 hn
      · exact rload8_told p a m b n fl d w a0 a1 m0 m1 b0 b1 n0 n1 f0 f1 hd h6 h17 hn
theorem slU_size (a b : Int) (s : ByteArray) : (slU a b s).size ≤ s.size + 2 := by
  unfold slU
  split
  · omega
  · rw [ByteArray.size_append, ByteArray.size_append, size_W, ByteArray.size_extract, ByteArray.size_extract]; show _ + 2 * 1 + _ ≤ _; omega
theorem slT_size (a b : Int) (s : ByteArray) : (slT a b s).size ≤ s.size + 2 := by
  unfold slT
  split
  · omega
  · rw [ByteArray.size_append, ByteArray.size_append, size_W, ByteArray.size_extract, ByteArray.size_extract]; show _ + 2 * 1 + _ ≤ _; omega
theorem slI_size (s : ByteArray) : (slI s).size ≤ s.size + 2 := by
  unfold slI
  split
  · omega
  · rw [ByteArray.size_append, ByteArray.size_append, size_W, ByteArray.size_extract, ByteArray.size_extract]; show _ + 2 * 1 + _ ≤ _; omega
theorem loadB_size (p a m b n fl : Int) (d : ByteArray) : (loadB p a m b n fl d).size ≤ d.size + 100 := by
  unfold loadB
  have z0 : (⟨#[]⟩ : ByteArray).size = 0 := rfl
  have z4 : (⟨#[0, 0, 0, 1]⟩ : ByteArray).size = 4 := rfl
  split
  · have h1 := slT_size a b (tPutB m n 1000 2000 0 fl 512 0 0 ⟨#[]⟩ d)
    have h2 := tPutB_size m n 1000 2000 0 fl 512 0 0 ⟨#[]⟩ d
    unfold loadT; omega
  · split
    · have h1 := slU_size a b (udpB m n 0 d)
      have h2 : (udpB m n 0 d).size = 8 + d.size := by unfold udpB; rw [ByteArray.size_append, size_W]; rfl
      unfold loadU; omega
    · unfold loadM
      split
      · have h1 := slI_size (icP 8 0 0 (wiM ⟨#[0, 0, 0, 1]⟩ m) d)
        have h2 := icP_size 8 0 0 (wiM ⟨#[0, 0, 0, 1]⟩ m) d
        rw [wiM_size] at h2; omega
      · have h1 := slI_size (icP 0 0 0 (wiM (wiM ⟨#[0, 0, 0, 1]⟩ m) n) d)
        have h2 := icP_size 0 0 0 (wiM (wiM ⟨#[0, 0, 0, 1]⟩ m) n) d
        rw [wiM_size, wiM_size] at h2; omega
def madeB (p a m b n fl tt : Int) (d : ByteArray) : ByteArray := putB 0 0 false tt p a b ⟨#[]⟩ (loadB p a m b n fl d)
theorem rmade8_ (p a m b n fl tt : Int) (d : ByteArray) (w : World) (p0 : 0 ≤ p) (p1 : p ≤ 255) (a0 : 0 ≤ a) (a1 : a ≤ 4294967295) (m0 : 0 ≤ m) (m1 : m ≤ 65535) (b0 : 0 ≤ b) (b1 : b ≤ 4294967295) (n0 : 0 ≤ n) (n1 : n ≤ 65535) (f0 : 0 ≤ fl) (f1 : fl ≤ 255) (t0 : 0 ≤ tt) (t1 : tt ≤ 255) (hd : d.size ≤ 900000) :
    Cw_ 25 #[.agg #[.int .u8 p, .int .u32 a, .int .u16 m, .int .u32 b, .int .u16 n], .int .u8 fl, .int .u8 tt, .string d] (.string (madeB p a m b n fl tt d)) w := by
  have zl := loadB_size p a m b n fl d
  have cl := fun u => rload8_ p a m b n fl d u a0 a1 m0 m1 b0 b1 n0 n1 f0 f1 hd
  have cp := fun u => rput4_ 0 0 false tt p a b ⟨#[]⟩ (loadB p a m b n fl d) u (by omega) (by omega) (by omega) (by omega) t0 t1 p0 p1 a0 a1 b0 b1 (by decide) (by unfold maxLen; omega)
  have HV : Hid (madeB p a m b n fl tt d = putB 0 0 false tt p a b ⟨#[]⟩ (loadB p a m b n fl d)) := rfl
  have HN : ¬ putE (⟨#[]⟩ : ByteArray).size (loadB p a m b n fl d).size = 0 → Hid (putB 0 0 false tt p a b ⟨#[]⟩ (loadB p a m b n fl d) = ⟨#[]⟩) := fun h => by show _ = _; unfold putB; rw [if_neg h]
  generalize putB 0 0 false tt p a b ⟨#[]⟩ (loadB p a m b n fl d) = R at *
  generalize putE (⟨#[]⟩ : ByteArray).size (loadB p a m b n fl d).size = q at *
  generalize loadB p a m b n fl d = L at *
  clear zl
  go_enter Tryz.func25, Tryz.ntmps25
  have B1 := Below.refl w.heap.size w
  go_wp2_with fail
  have T_2 := Box5.make w (.int .u8 p) (.int .u32 a) (.int .u16 m) (.int .u32 b) (.int .u16 n) 33
  have B3 := B1.alloc B1.size (.cells #[.int .u8 p, .int .u32 a, .int .u16 m, .int .u32 b, .int .u16 n] 33)
  clear B1
  obtain ⟨u1, hu1⟩ : ∃ x, x = w.alloc (.cells #[.int .u8 p, .int .u32 a, .int .u16 m, .int .u32 b, .int .u16 n] 33) := ⟨_, rfl⟩
  rw [← hu1] at T_2 B3 ⊢
  clear hu1
  obtain ⟨zt, gt0, gt1, gt2, gt3, gt4⟩ := id T_2
  have Ft0 := lat_ gt0 zt
  have Ft1 := lat_ gt1 zt
  have Ft2 := lat_ gt2 zt
  have Ft3 := lat_ gt3 zt
  have Ft4 := lat_ gt4 zt
  clear gt0 gt1 gt2 gt3 gt4
  refine region_later (B := u1.heap.size) (by kernel_rfl) (by kernel_rfl) ?_
  repeat (go_big_quiet_step (first
    | (go_at_call 58; exact later_of _ (Nat.le_refl _) (cl _))
    | (go_at_call 13; exact later_of _ (Nat.le_refl _) (cp _))))
  refine later_end fun w2 x2 => ?_
  have T_4 := T_2.on x2
  have B5 := B3.trans (x2.mono B3.size)
  clear Ft0 Ft1 Ft2 Ft3 Ft4 zt T_2 B3 x2
  by_cases hq : q = 0
  · have e1 : (q != 0) = false := by simpa using hq
    clear HN
    go_wp2
    go_ret
    rw [HV.out]
    exact ⟨rfl, B5⟩
  · have e1 : (q != 0) = true := by simpa using hq
    have HN := HN hq
    go_wp2
    go_ret
    rw [HV.out, HN.out]
    exact ⟨rfl, B5⟩
end Go.Proofs.YtbpicngbjggblaaGreatDoor
namespace Go.Proofs.YtbpicngbjggblaaGreatDoor
set_option linter.unusedVariables false
set_option linter.unusedSimpArgs false
open Go.ChangeShapes Go.WideShapes Go.ChangeAt Go.RowKit Go.PlainAid
namespace TupLaid
def M1 : ByteArray := ⟨#[69, 0, 0, 29, 0, 0, 0, 0, 64, 17, 108, 202, 10, 0, 0, 1, 1, 2, 3, 4, 0, 5, 0, 53, 0, 9, 128, 155, 113]⟩
theorem r1 : seenR M1 = 0 := by kernel_rfl
theorem m1 : madeB 17 167772161 5 16909060 53 0 64 ⟨#[113]⟩ = M1 := by kernel_rfl
theorem s1 : sI M1 (bt M1 9) = 17 ∧ sI M1 (g32 M1 12) = 167772161 ∧ sI M1 (oM (bt M1 9) (pP M1)) = 5 ∧ sI M1 (g32 M1 16) = 16909060 ∧ sI M1 (oN (bt M1 9) (pP M1)) = 53 ∧ sI M1 (oK (bt M1 9) (pP M1)) = 2 ∧ sI M1 (oF (bt M1 9) (pP M1)) = 0 ∧ sB M1 (oA (bt M1 9) (pP M1)) = false ∧ sI M1 (bt M1 8) = 64 := ⟨by kernel_rfl, by kernel_rfl, by kernel_rfl, by kernel_rfl, by kernel_rfl, by kernel_rfl, by kernel_rfl, by kernel_rfl, by kernel_rfl⟩
def M2 : ByteArray := ⟨#[69, 0, 0, 40, 0, 0, 0, 0, 64, 6, 108, 202, 10, 0, 0, 1, 1, 2, 3, 4, 0, 5, 0, 80, 0, 0, 3, 232, 0, 0, 7, 208, 80, 2, 2, 0, 147, 207, 0, 0]⟩
theorem r2 : seenR M2 = 0 := by kernel_rfl
theorem m2 : madeB 6 167772161 5 16909060 80 2 64 ⟨#[]⟩ = M2 := by kernel_rfl
theorem s2 : sI M2 (bt M2 9) = 6 ∧ sI M2 (g32 M2 12) = 167772161 ∧ sI M2 (oM (bt M2 9) (pP M2)) = 5 ∧ sI M2 (g32 M2 16) = 16909060 ∧ sI M2 (oN (bt M2 9) (pP M2)) = 80 ∧ sI M2 (oK (bt M2 9) (pP M2)) = 1 ∧ sI M2 (oF (bt M2 9) (pP M2)) = 2 ∧ sB M2 (oA (bt M2 9) (pP M2)) = false ∧ sI M2 (bt M2 8) = 64 := ⟨by kernel_rfl, by kernel_rfl, by kernel_rfl, by kernel_rfl, by kernel_rfl, by kernel_rfl, by kernel_rfl, by kernel_rfl, by kernel_rfl⟩
def M3 : ByteArray := ⟨#[69, 0, 0, 40, 0, 0, 0, 0, 64, 6, 108, 202, 10, 0, 0, 1, 1, 2, 3, 4, 0, 5, 0, 80, 0, 0, 3, 232, 0, 0, 7, 208, 80, 18, 2, 0, 147, 191, 0, 0]⟩
theorem r3 : seenR M3 = 0 := by kernel_rfl
theorem m3 : madeB 6 167772161 5 16909060 80 18 64 ⟨#[]⟩ = M3 := by kernel_rfl
theorem s3 : sI M3 (bt M3 9) = 6 ∧ sI M3 (g32 M3 12) = 167772161 ∧ sI M3 (oM (bt M3 9) (pP M3)) = 5 ∧ sI M3 (g32 M3 16) = 16909060 ∧ sI M3 (oN (bt M3 9) (pP M3)) = 80 ∧ sI M3 (oK (bt M3 9) (pP M3)) = 2 ∧ sI M3 (oF (bt M3 9) (pP M3)) = 18 ∧ sB M3 (oA (bt M3 9) (pP M3)) = false ∧ sI M3 (bt M3 8) = 64 := ⟨by kernel_rfl, by kernel_rfl, by kernel_rfl, by kernel_rfl, by kernel_rfl, by kernel_rfl, by kernel_rfl, by kernel_rfl, by kernel_rfl⟩
def M4 : ByteArray := ⟨#[69, 0, 0, 28, 0, 0, 0, 0, 64, 1, 108, 219, 10, 0, 0, 1, 1, 2, 3, 4, 8, 0, 247, 247, 0, 7, 0, 1]⟩
theorem r4 : seenR M4 = 0 := by kernel_rfl
theorem m4 : madeB 1 167772161 7 16909060 0 0 64 ⟨#[]⟩ = M4 := by kernel_rfl
def M5 : ByteArray := ⟨#[69, 0, 0, 28, 0, 0, 0, 0, 64, 1, 108, 219, 10, 0, 0, 1, 1, 2, 3, 4, 0, 0, 255, 247, 0, 7, 0, 1]⟩
theorem r5 : seenR M5 = 0 := by kernel_rfl
def M6 : ByteArray := ⟨#[69, 0, 0, 28, 0, 0, 0, 0, 64, 2, 108, 218, 10, 0, 0, 1, 1, 2, 3, 4, 49, 50, 51, 52, 53, 54, 55, 56]⟩
theorem r6 : seenR M6 = 6 := by kernel_rfl
def M7 : ByteArray := ⟨#[69, 0, 0, 28, 0, 0, 0, 0, 64, 1, 108, 219, 10, 0, 0, 1, 1, 2, 3, 4, 5, 0, 49, 50, 51, 52, 53, 54]⟩
theorem r7 : seenR M7 = 6 := by kernel_rfl
def M8 : ByteArray := ⟨#[69, 0, 0, 27, 0, 0, 0, 0, 64, 17, 108, 204, 10, 0, 0, 1, 1, 2, 3, 4, 49, 50, 51, 52, 53, 54, 55]⟩
theorem r8 : seenR M8 = 7 := by kernel_rfl
def T9 : List UInt8 := [105, 99, 109, 112, 32, 49, 46, 50, 46, 51, 46, 52, 58, 53, 32, 49, 46, 50, 46, 51, 46, 52, 58, 54]
theorem t9 : tupR T9 = none := by kernel_rfl
def X1 : List UInt8 := [117, 100, 112, 32, 49, 48, 46, 48, 46, 48, 46, 49, 58, 53, 32, 49, 46, 50, 46, 51, 46, 52, 58, 53, 51]
theorem x1 : ttextL 17 167772161 5 16909060 53 = X1 := by kernel_rfl
end TupLaid
end Go.Proofs.YtbpicngbjggblaaGreatDoor
