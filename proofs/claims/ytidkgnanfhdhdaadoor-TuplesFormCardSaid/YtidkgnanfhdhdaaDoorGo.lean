/- Texts of this proof, together: TupL, TupA, TupD, TupV, TupM. -/
import Derived.Test.YtidkgnanfhdhdaaDoorGm
import Derived.Test.YtidkgnanfhdhdaaDoorGc
import Derived.Test.YtidkgnanfhdhdaaDoorGh
import Derived.Test.YtidkgnanfhdhdaaDoorGf
import Derived.Test.YtidkgnanfhdhdaaDoorGj
import Derived.Test.YtidkgnanfhdhdaaDoorGb
import Derived.Test.YtidkgnanfhdhdaaDoorGd
import Derived.Test.YtidkgnanfhdhdaaDoorGk
namespace Go.Proofs.YtidkgnanfhdhdaaDoor
set_option linter.unusedVariables false
set_option linter.unusedSimpArgs false
open Go.ChangeShapes Go.WideShapes Go.ChangeAt Go.RowKit Go.PlainAid
attribute [local go_sem ↓] Go.wp_at_zero Go.wp_at_succ
def loadT (a m b n fl : Int) (d : ByteArray) : ByteArray := slT a b (tPutB m n 1000 2000 0 fl 512 0 0 ⟨#[]⟩ d)
def loadU (a m b n : Int) (d : ByteArray) : ByteArray := slU a b (udpB m n 0 d)
def loadM (m n : Int) (d : ByteArray) : ByteArray := if n = 0 then slI (icP 8 0 0 (wiM ⟨#[0, 0, 0, 1]⟩ m) d) else slI (icP 0 0 0 (wiM (wiM ⟨#[0, 0, 0, 1]⟩ m) n) d)
def loadB (p a m b n fl : Int) (d : ByteArray) : ByteArray := if p = 6 then loadT a m b n fl d else if p = 17 then loadU a m b n d else loadM m n d
theorem tPutB_size (sp dp sq ak lo fl wi su ur : Int) (o p : ByteArray) : (tPutB sp dp sq ak lo fl wi su ur o p).size ≤ 20 + o.size + p.size := by
  unfold tPutB
  split
  · unfold tcpB; rw [ByteArray.size_append, ByteArray.size_append, size_W]; show 2 * 10 + _ + _ ≤ _; omega
  · show 0 ≤ _; omega
theorem icP_size (ty co su : Int) (r d : ByteArray) : (icP ty co su r d).size ≤ 4 + r.size + d.size := by
  unfold icP
  split
  · unfold icB; rw [ByteArray.size_append, ByteArray.size_append, size_W]; show 2 * 2 + _ + _ ≤ _; omega
  · show 0 ≤ _; omega
set_option maxHeartbeats 4000000 in
set_option maxRecDepth 100000 in
theorem rload8_tcp  (a m b n fl : Int) (d : ByteArray) (w : World) (a0 : 0 ≤ a) (a1 : a ≤ 4294967295) (m0 : 0 ≤ m) (m1 : m ≤ 65535) (b0 : 0 ≤ b) (b1 : b ≤ 4294967295) (n0 : 0 ≤ n) (n1 : n ≤ 65535) (f0 : 0 ≤ fl) (f1 : fl ≤ 255) (hd : d.size ≤ 900000) :
    Calls Tryd.prog 27 #[.agg #[.int .u8 6, .int .u32 a, .int .u16 m, .int .u32 b, .int .u16 n], .int .u8 fl, .string d] w fun e w' => e = .returned (.string (loadT a m b n fl d)) ∧ Below w.heap.size w w' := by
  have cp := fun u => rput6_ m n 1000 2000 0 fl 512 0 0 ⟨#[]⟩ d u m0 m1 n0 n1 (by omega) (by omega) (by omega) (by omega) (by omega) (by omega) f0 f1 (by omega) (by omega) (by omega) (by omega) (by omega) (by omega) (by decide) (by omega)
  have zp := tPutB_size m n 1000 2000 0 fl 512 0 0 ⟨#[]⟩ d
  have z0 : (⟨#[]⟩ : ByteArray).size = 0 := rfl
  have cs := fun u => rseal6_ a b (tPutB m n 1000 2000 0 fl 512 0 0 ⟨#[]⟩ d) u a0 a1 b0 b1 (by omega)
  have HV : Hid (loadT a m b n fl d = slT a b (tPutB m n 1000 2000 0 fl 512 0 0 ⟨#[]⟩ d)) := rfl
  generalize slT a b (tPutB m n 1000 2000 0 fl 512 0 0 ⟨#[]⟩ d) = R at *
  generalize tPutB m n 1000 2000 0 fl 512 0 0 ⟨#[]⟩ d = P at *
  generalize tE (⟨#[]⟩ : ByteArray).size 0 = q at *
  clear zp z0
  go_enter Tryd.func27, Tryd.ntmps27
  have B1 := Below.refl w.heap.size w
  go_wp2_with fail
  have T_2 := Box5.make w (.int .u8 6) (.int .u32 a) (.int .u16 m) (.int .u32 b) (.int .u16 n) 29
  have B3 := B1.alloc B1.size (.cells #[.int .u8 6, .int .u32 a, .int .u16 m, .int .u32 b, .int .u16 n] 29)
  clear B1
  refine (cp _).mono ?_; rintro e w1 ⟨rfl, x1⟩
  have T_4 := T_2.on x1
  have B5 := B3.trans (x1.mono B3.size)
  clear T_2 B3 x1
  clear cp
  obtain ⟨_, t1_0, t1_1, t1_2, t1_3, t1_4⟩ := id T_4
  go_wp2_with fail
  refine (cs _).mono ?_; rintro e w2 ⟨rfl, x2⟩
  have T_6 := T_4.on x2
  have B7 := B5.trans (x2.mono B5.size)
  clear t1_0 t1_1 t1_2 t1_3 t1_4 T_4 B5 x2
  clear cs
  go_wp2
  go_ret
  rw [HV.out]
  exact ⟨rfl, B7⟩
set_option maxHeartbeats 4000000 in
set_option maxRecDepth 100000 in
theorem rload8_udp  (a m b n fl : Int) (d : ByteArray) (w : World) (a0 : 0 ≤ a) (a1 : a ≤ 4294967295) (m0 : 0 ≤ m) (m1 : m ≤ 65535) (b0 : 0 ≤ b) (b1 : b ≤ 4294967295) (n0 : 0 ≤ n) (n1 : n ≤ 65535) (f0 : 0 ≤ fl) (f1 : fl ≤ 255) (hd : d.size ≤ 900000) :
    Calls Tryd.prog 27 #[.agg #[.int .u8 17, .int .u32 a, .int .u16 m, .int .u32 b, .int .u16 n], .int .u8 fl, .string d] w fun e w' => e = .returned (.string (loadU a m b n d)) ∧ Below w.heap.size w w' := by
  have cp := fun u => rput5_ m n 0 0 d u m0 m1 n0 n1 (by omega) (by omega) (by omega)
  have zp : (udpB m n 0 d).size = 8 + d.size := by unfold udpB; rw [ByteArray.size_append, size_W]; rfl
  have cs := fun u => rseal5_ a b (udpB m n 0 d) u a0 a1 b0 b1 (by omega)
  have HV : Hid (loadU a m b n d = slU a b (udpB m n 0 d)) := rfl
  generalize slU a b (udpB m n 0 d) = R at *
  generalize udpB m n 0 d = P at *
  clear zp
  go_enter Tryd.func27, Tryd.ntmps27
  have B1 := Below.refl w.heap.size w
  go_wp2_with fail
  have T_2 := Box5.make w (.int .u8 17) (.int .u32 a) (.int .u16 m) (.int .u32 b) (.int .u16 n) 29
  have B3 := B1.alloc B1.size (.cells #[.int .u8 17, .int .u32 a, .int .u16 m, .int .u32 b, .int .u16 n] 29)
  clear B1
  obtain ⟨u1, hu1⟩ : ∃ x, x = w.alloc (.cells #[.int .u8 17, .int .u32 a, .int .u16 m, .int .u32 b, .int .u16 n] 29) := ⟨_, rfl⟩
  rw [← hu1] at T_2 B3 ⊢
  clear hu1
  obtain ⟨zt, gt0, gt1, gt2, gt3, gt4⟩ := id T_2
  have Ft1 : ∀ x : Later u1.heap.size u1, x.u.cell? ⟨w.heap.size, 1, none⟩ = some (.int .u32 a) := fun x => x.block zt gt1
  have Ft2 : ∀ x : Later u1.heap.size u1, x.u.cell? ⟨w.heap.size, 2, none⟩ = some (.int .u16 m) := fun x => x.block zt gt2
  have Ft3 : ∀ x : Later u1.heap.size u1, x.u.cell? ⟨w.heap.size, 3, none⟩ = some (.int .u32 b) := fun x => x.block zt gt3
  have Ft4 : ∀ x : Later u1.heap.size u1, x.u.cell? ⟨w.heap.size, 4, none⟩ = some (.int .u16 n) := fun x => x.block zt gt4
  clear gt0 gt1 gt2 gt3 gt4
  refine region_later (B := u1.heap.size) (by kernel_rfl) (by kernel_rfl) ?_
  repeat (go_big_quiet_step (first
    | (go_at_call 48; exact later_of _ (Nat.le_refl _) (cp _))
    | (go_at_call 47; exact later_of _ (Nat.le_refl _) (cs _))))
  refine later_end fun w2 x2 => ?_
  have T_4 := T_2.on x2
  have B5 := B3.trans (x2.mono B3.size)
  clear Ft1 Ft2 Ft3 Ft4 zt T_2 B3 x2
  go_wp2
  go_ret
  rw [HV.out]
  exact ⟨rfl, B5⟩
set_option maxHeartbeats 4000000 in
set_option maxRecDepth 100000 in
theorem rload8_ask (p : Int) (a m b n fl : Int) (d : ByteArray) (w : World) (a0 : 0 ≤ a) (a1 : a ≤ 4294967295) (m0 : 0 ≤ m) (m1 : m ≤ 65535) (b0 : 0 ≤ b) (b1 : b ≤ 4294967295) (n0 : 0 ≤ n) (n1 : n ≤ 65535) (f0 : 0 ≤ fl) (f1 : fl ≤ 255) (hd : d.size ≤ 900000) (p6 : ¬ p = 6) (p17 : ¬ p = 17) (hn : n = 0) :
    Calls Tryd.prog 27 #[.agg #[.int .u8 p, .int .u32 a, .int .u16 m, .int .u32 b, .int .u16 n], .int .u8 fl, .string d] w fun e w' => e = .returned (.string (loadM m n d)) ∧ Below w.heap.size w w' := by
  have e6 : (p == 6) = false := by simpa using p6
  have e17 : (p == 17) = false := by simpa using p17
  have en : (n != 0) = false := by simpa using hn
  obtain ⟨r0, hr0⟩ : ∃ r, r = (⟨#[0, 0, 0, 1]⟩ : ByteArray) := ⟨_, rfl⟩
  have z0 : r0.size = 4 := by rw [hr0]; rfl
  obtain ⟨r1, hr1⟩ : ∃ r, r = wiM r0 m := ⟨_, rfl⟩
  have z1 : r1.size = 4 := by rw [hr1, wiM_size, z0]
  have c1 := fun u => rwith7_ 8 0 0 r0 d m u m0 m1 (by omega)
  rw [← hr1] at c1
  have cp := fun u => rput7_ 8 0 0 r1 d u (by omega) (by omega) (by omega) (by omega) (by omega) (by omega) (by omega) (by omega)
  have zp := icP_size 8 0 0 r1 d
  have cs := fun u => rseal7_ (icP 8 0 0 r1 d) u (by omega)
  have HV : Hid (loadM m n d = slI (icP 8 0 0 r1 d)) := by show _ = _; unfold loadM; rw [if_pos hn, ← hr0, ← hr1]
  generalize slI (icP 8 0 0 r1 d) = R at *
  generalize icP 8 0 0 r1 d = P at *
  generalize icE r1.size = q at *
  rw [hr0] at c1
  clear zp hr1 z1 z0 hr0 p6 p17 hn
  go_enter Tryd.func27, Tryd.ntmps27
  have B1 := Below.refl w.heap.size w
  go_wp2_with fail
  have T_2 := Box5.make w (.int .u8 p) (.int .u32 a) (.int .u16 m) (.int .u32 b) (.int .u16 n) 29
  have B3 := B1.alloc B1.size (.cells #[.int .u8 p, .int .u32 a, .int .u16 m, .int .u32 b, .int .u16 n] 29)
  clear B1
  have T_4 := T_2.past (o := (.cells #[.int .u8 8, .int .u8 0, .int .u16 0, .string ⟨#[0, 0, 0, 1]⟩, .string d] 101))
  have hs_ : (w.alloc (.cells #[.int .u8 p, .int .u32 a, .int .u16 m, .int .u32 b, .int .u16 n] 29)).heap.size = w.heap.size + 1 := by simp
  have M_5 := Box5.make (w.alloc (.cells #[.int .u8 p, .int .u32 a, .int .u16 m, .int .u32 b, .int .u16 n] 29)) (.int .u8 8) (.int .u8 0) (.int .u16 0) (.string ⟨#[0, 0, 0, 1]⟩) (.string d) 101
  rw [hs_] at M_5
  clear hs_
  have B6 := B3.alloc B3.size (.cells #[.int .u8 8, .int .u8 0, .int .u16 0, .string ⟨#[0, 0, 0, 1]⟩, .string d] 101)
  clear T_2 B3
  have fzM_7 : ∀ i, ((w.alloc (.cells #[.int .u8 p, .int .u32 a, .int .u16 m, .int .u32 b, .int .u16 n] 29)).alloc (.cells #[.int .u8 8, .int .u8 0, .int .u16 0, .string ⟨#[0, 0, 0, 1]⟩, .string d] 101)).frozen? ⟨(w.heap.size + 1), i, none⟩ = false := by intro i; simp [go_sem]
  refine (c1 _).mono ?_; rintro e w1 ⟨rfl, x1⟩
  have fzM_8 : ∀ i, w1.frozen? ⟨(w.heap.size + 1), i, none⟩ = false := fun i => (x1.frozen (p := ⟨_, i, none⟩) M_5.1).trans (fzM_7 i)
  clear fzM_7
  have T_9 := T_4.on x1
  have M_10 := M_5.on x1
  have B11 := B6.trans (x1.mono B6.size)
  clear T_4 M_5 B6 x1
  clear c1
  have ne1_ : ¬ w.heap.size + 1 = w.heap.size := by omega
  have ne2_ : ¬ w.heap.size = w.heap.size + 1 := by omega
  obtain ⟨_, t1_0, t1_1, t1_2, t1_3, t1_4⟩ := id T_9
  obtain ⟨_, m2_0, m2_1, m2_2, m2_3, m2_4⟩ := id M_10
  go_wp2_with fail
  clear t1_0 t1_1 t1_2 t1_3 t1_4 m2_0 m2_1 m2_2 m2_3 m2_4
  obtain ⟨_, t3_0, t3_1, t3_2, t3_3, t3_4⟩ := id T_9
  obtain ⟨_, m4_0, m4_1, m4_2, m4_3, m4_4⟩ := id M_10
  have B12 := (((((B11.setCell (p := ⟨(w.heap.size + 1), 0, none⟩) (by show w.heap.size ≤ w.heap.size + 1; omega) (.int .u8 8)).setCell (p := ⟨(w.heap.size + 1), 1, none⟩) (by show w.heap.size ≤ w.heap.size + 1; omega) (.int .u8 0)).setCell (p := ⟨(w.heap.size + 1), 2, none⟩) (by show w.heap.size ≤ w.heap.size + 1; omega) (.int .u16 0)).setCell (p := ⟨(w.heap.size + 1), 3, none⟩) (by show w.heap.size ≤ w.heap.size + 1; omega) (.string r1)).setCell (p := ⟨(w.heap.size + 1), 4, none⟩) (by show w.heap.size ≤ w.heap.size + 1; omega) (.string d))
  have T_13 : Box5 (((((w1.setCell ⟨(w.heap.size + 1), 0, none⟩ (.int .u8 8)).setCell ⟨(w.heap.size + 1), 1, none⟩ (.int .u8 0)).setCell ⟨(w.heap.size + 1), 2, none⟩ (.int .u16 0)).setCell ⟨(w.heap.size + 1), 3, none⟩ (.string r1)).setCell ⟨(w.heap.size + 1), 4, none⟩ (.string d)) w.heap.size (.int .u8 p) (.int .u32 a) (.int .u16 m) (.int .u32 b) (.int .u16 n) := ⟨by have := T_9.1; simpa using this, by simp [go_sem, t3_0, t3_1, t3_2, t3_3, t3_4, m4_0, m4_1, m4_2, m4_3, m4_4], by simp [go_sem, t3_0, t3_1, t3_2, t3_3, t3_4, m4_0, m4_1, m4_2, m4_3, m4_4], by simp [go_sem, t3_0, t3_1, t3_2, t3_3, t3_4, m4_0, m4_1, m4_2, m4_3, m4_4], by simp [go_sem, t3_0, t3_1, t3_2, t3_3, t3_4, m4_0, m4_1, m4_2, m4_3, m4_4], by simp [go_sem, t3_0, t3_1, t3_2, t3_3, t3_4, m4_0, m4_1, m4_2, m4_3, m4_4]⟩
  have M_14 : Box5 (((((w1.setCell ⟨(w.heap.size + 1), 0, none⟩ (.int .u8 8)).setCell ⟨(w.heap.size + 1), 1, none⟩ (.int .u8 0)).setCell ⟨(w.heap.size + 1), 2, none⟩ (.int .u16 0)).setCell ⟨(w.heap.size + 1), 3, none⟩ (.string r1)).setCell ⟨(w.heap.size + 1), 4, none⟩ (.string d)) (w.heap.size + 1) (.int .u8 8) (.int .u8 0) (.int .u16 0) (.string r1) (.string d) := ⟨by have := M_10.1; simpa using this, by simp [go_sem, t3_0, t3_1, t3_2, t3_3, t3_4, m4_0, m4_1, m4_2, m4_3, m4_4], by simp [go_sem, t3_0, t3_1, t3_2, t3_3, t3_4, m4_0, m4_1, m4_2, m4_3, m4_4], by simp [go_sem, t3_0, t3_1, t3_2, t3_3, t3_4, m4_0, m4_1, m4_2, m4_3, m4_4], by simp [go_sem, t3_0, t3_1, t3_2, t3_3, t3_4, m4_0, m4_1, m4_2, m4_3, m4_4], by simp [go_sem, t3_0, t3_1, t3_2, t3_3, t3_4, m4_0, m4_1, m4_2, m4_3, m4_4]⟩
  have fzM_15 : ∀ i, (((((w1.setCell ⟨(w.heap.size + 1), 0, none⟩ (.int .u8 8)).setCell ⟨(w.heap.size + 1), 1, none⟩ (.int .u8 0)).setCell ⟨(w.heap.size + 1), 2, none⟩ (.int .u16 0)).setCell ⟨(w.heap.size + 1), 3, none⟩ (.string r1)).setCell ⟨(w.heap.size + 1), 4, none⟩ (.string d)).frozen? ⟨(w.heap.size + 1), i, none⟩ = false := by intro i; simp [fzM_8]
  clear t3_0 t3_1 t3_2 t3_3 t3_4 m4_0 m4_1 m4_2 m4_3 m4_4 T_9 M_10 fzM_8 B11
  obtain ⟨u2, hu2⟩ : ∃ x, x = (((((w1.setCell ⟨(w.heap.size + 1), 0, none⟩ (.int .u8 8)).setCell ⟨(w.heap.size + 1), 1, none⟩ (.int .u8 0)).setCell ⟨(w.heap.size + 1), 2, none⟩ (.int .u16 0)).setCell ⟨(w.heap.size + 1), 3, none⟩ (.string r1)).setCell ⟨(w.heap.size + 1), 4, none⟩ (.string d)) := ⟨_, rfl⟩
  rw [← hu2] at T_13 M_14 fzM_15 B12 ⊢
  clear hu2
  refine (cp _).mono ?_; rintro e w3 ⟨rfl, x3⟩
  have fzM_16 : ∀ i, w3.frozen? ⟨(w.heap.size + 1), i, none⟩ = false := fun i => (x3.frozen (p := ⟨_, i, none⟩) M_14.1).trans (fzM_15 i)
  clear fzM_15
  have T_17 := T_13.on x3
  have M_18 := M_14.on x3
  have B19 := B12.trans (x3.mono B12.size)
  clear T_13 M_14 B12 x3
  clear cp
  go_wp2_with fail
  refine (cs _).mono ?_; rintro e w4 ⟨rfl, x4⟩
  have fzM_20 : ∀ i, w4.frozen? ⟨(w.heap.size + 1), i, none⟩ = false := fun i => (x4.frozen (p := ⟨_, i, none⟩) M_18.1).trans (fzM_16 i)
  clear fzM_16
  have T_21 := T_17.on x4
  have M_22 := M_18.on x4
  have B23 := B19.trans (x4.mono B19.size)
  clear T_17 M_18 B19 x4
  clear cs
  go_wp2
  go_ret
  rw [HV.out]
  exact ⟨rfl, B23⟩
set_option maxHeartbeats 4000000 in
set_option maxRecDepth 100000 in
theorem rload8_told (p : Int) (a m b n fl : Int) (d : ByteArray) (w : World) (a0 : 0 ≤ a) (a1 : a ≤ 4294967295) (m0 : 0 ≤ m) (m1 : m ≤ 65535) (b0 : 0 ≤ b) (b1 : b ≤ 4294967295) (n0 : 0 ≤ n) (n1 : n ≤ 65535) (f0 : 0 ≤ fl) (f1 : fl ≤ 255) (hd : d.size ≤ 900000) (p6 : ¬ p = 6) (p17 : ¬ p = 17) (hn : ¬ n = 0) :
    Calls Tryd.prog 27 #[.agg #[.int .u8 p, .int .u32 a, .int .u16 m, .int .u32 b, .int .u16 n], .int .u8 fl, .string d] w fun e w' => e = .returned (.string (loadM m n d)) ∧ Below w.heap.size w w' := by
  have e6 : (p == 6) = false := by simpa using p6
  have e17 : (p == 17) = false := by simpa using p17
  have en : (n != 0) = true := by simpa using hn
  obtain ⟨r0, hr0⟩ : ∃ r, r = (⟨#[0, 0, 0, 1]⟩ : ByteArray) := ⟨_, rfl⟩
  have z0 : r0.size = 4 := by rw [hr0]; rfl
  obtain ⟨r1, hr1⟩ : ∃ r, r = wiM r0 m := ⟨_, rfl⟩
  have z1 : r1.size = 4 := by rw [hr1, wiM_size, z0]
  have c1 := fun u => rwith7_ 8 0 0 r0 d m u m0 m1 (by omega)
  rw [← hr1] at c1
  obtain ⟨r2, hr2⟩ : ∃ r, r = wiM r1 n := ⟨_, rfl⟩
  have z2 : r2.size = 4 := by rw [hr2, wiM_size, z1]
  have c2 := fun u => rwith7_ 0 0 0 r1 d n u n0 n1 (by omega)
  rw [← hr2] at c2
  have cp := fun u => rput7_ 0 0 0 r2 d u (by omega) (by omega) (by omega) (by omega) (by omega) (by omega) (by omega) (by omega)
  have zp := icP_size 0 0 0 r2 d
  have cs := fun u => rseal7_ (icP 0 0 0 r2 d) u (by omega)
  have HV : Hid (loadM m n d = slI (icP 0 0 0 r2 d)) := by show _ = _; unfold loadM; rw [if_neg hn, ← hr0, ← hr1, ← hr2]
  generalize slI (icP 0 0 0 r2 d) = R at *
  generalize icP 0 0 0 r2 d = P at *
  generalize icE r2.size = q at *
  rw [hr0] at c1
  clear zp hr1 z1 z0 hr0 p6 p17 hn hr2 z2
  go_enter Tryd.func27, Tryd.ntmps27
  have B1 := Below.refl w.heap.size w
  go_wp2_with fail
  have T_2 := Box5.make w (.int .u8 p) (.int .u32 a) (.int .u16 m) (.int .u32 b) (.int .u16 n) 29
  have B3 := B1.alloc B1.size (.cells #[.int .u8 p, .int .u32 a, .int .u16 m, .int .u32 b, .int .u16 n] 29)
  clear B1
  have T_4 := T_2.past (o := (.cells #[.int .u8 8, .int .u8 0, .int .u16 0, .string ⟨#[0, 0, 0, 1]⟩, .string d] 101))
  have hs_ : (w.alloc (.cells #[.int .u8 p, .int .u32 a, .int .u16 m, .int .u32 b, .int .u16 n] 29)).heap.size = w.heap.size + 1 := by simp
  have M_5 := Box5.make (w.alloc (.cells #[.int .u8 p, .int .u32 a, .int .u16 m, .int .u32 b, .int .u16 n] 29)) (.int .u8 8) (.int .u8 0) (.int .u16 0) (.string ⟨#[0, 0, 0, 1]⟩) (.string d) 101
  rw [hs_] at M_5
  clear hs_
  have B6 := B3.alloc B3.size (.cells #[.int .u8 8, .int .u8 0, .int .u16 0, .string ⟨#[0, 0, 0, 1]⟩, .string d] 101)
  clear T_2 B3
  have fzM_7 : ∀ i, ((w.alloc (.cells #[.int .u8 p, .int .u32 a, .int .u16 m, .int .u32 b, .int .u16 n] 29)).alloc (.cells #[.int .u8 8, .int .u8 0, .int .u16 0, .string ⟨#[0, 0, 0, 1]⟩, .string d] 101)).frozen? ⟨(w.heap.size + 1), i, none⟩ = false := by intro i; simp [go_sem]
  refine (c1 _).mono ?_; rintro e w1 ⟨rfl, x1⟩
  have fzM_8 : ∀ i, w1.frozen? ⟨(w.heap.size + 1), i, none⟩ = false := fun i => (x1.frozen (p := ⟨_, i, none⟩) M_5.1).trans (fzM_7 i)
  clear fzM_7
  have T_9 := T_4.on x1
  have M_10 := M_5.on x1
  have B11 := B6.trans (x1.mono B6.size)
  clear T_4 M_5 B6 x1
  clear c1
  have ne1_ : ¬ w.heap.size + 1 = w.heap.size := by omega
  have ne2_ : ¬ w.heap.size = w.heap.size + 1 := by omega
  obtain ⟨_, t1_0, t1_1, t1_2, t1_3, t1_4⟩ := id T_9
  obtain ⟨_, m2_0, m2_1, m2_2, m2_3, m2_4⟩ := id M_10
  go_wp2_with fail
  clear t1_0 t1_1 t1_2 t1_3 t1_4 m2_0 m2_1 m2_2 m2_3 m2_4
  obtain ⟨_, t3_0, t3_1, t3_2, t3_3, t3_4⟩ := id T_9
  obtain ⟨_, m4_0, m4_1, m4_2, m4_3, m4_4⟩ := id M_10
  have B12 := ((((((B11.setCell (p := ⟨(w.heap.size + 1), 0, none⟩) (by show w.heap.size ≤ w.heap.size + 1; omega) (.int .u8 8)).setCell (p := ⟨(w.heap.size + 1), 1, none⟩) (by show w.heap.size ≤ w.heap.size + 1; omega) (.int .u8 0)).setCell (p := ⟨(w.heap.size + 1), 2, none⟩) (by show w.heap.size ≤ w.heap.size + 1; omega) (.int .u16 0)).setCell (p := ⟨(w.heap.size + 1), 3, none⟩) (by show w.heap.size ≤ w.heap.size + 1; omega) (.string r1)).setCell (p := ⟨(w.heap.size + 1), 4, none⟩) (by show w.heap.size ≤ w.heap.size + 1; omega) (.string d)).setCell (p := ⟨(w.heap.size + 1), 0, none⟩) (by show w.heap.size ≤ w.heap.size + 1; omega) (.int .u8 0))
  have T_13 : Box5 ((((((w1.setCell ⟨(w.heap.size + 1), 0, none⟩ (.int .u8 8)).setCell ⟨(w.heap.size + 1), 1, none⟩ (.int .u8 0)).setCell ⟨(w.heap.size + 1), 2, none⟩ (.int .u16 0)).setCell ⟨(w.heap.size + 1), 3, none⟩ (.string r1)).setCell ⟨(w.heap.size + 1), 4, none⟩ (.string d)).setCell ⟨(w.heap.size + 1), 0, none⟩ (.int .u8 0)) w.heap.size (.int .u8 p) (.int .u32 a) (.int .u16 m) (.int .u32 b) (.int .u16 n) := ⟨by have := T_9.1; simpa using this, by simp [go_sem, t3_0, t3_1, t3_2, t3_3, t3_4, m4_0, m4_1, m4_2, m4_3, m4_4], by simp [go_sem, t3_0, t3_1, t3_2, t3_3, t3_4, m4_0, m4_1, m4_2, m4_3, m4_4], by simp [go_sem, t3_0, t3_1, t3_2, t3_3, t3_4, m4_0, m4_1, m4_2, m4_3, m4_4], by simp [go_sem, t3_0, t3_1, t3_2, t3_3, t3_4, m4_0, m4_1, m4_2, m4_3, m4_4], by simp [go_sem, t3_0, t3_1, t3_2, t3_3, t3_4, m4_0, m4_1, m4_2, m4_3, m4_4]⟩
  have M_14 : Box5 ((((((w1.setCell ⟨(w.heap.size + 1), 0, none⟩ (.int .u8 8)).setCell ⟨(w.heap.size + 1), 1, none⟩ (.int .u8 0)).setCell ⟨(w.heap.size + 1), 2, none⟩ (.int .u16 0)).setCell ⟨(w.heap.size + 1), 3, none⟩ (.string r1)).setCell ⟨(w.heap.size + 1), 4, none⟩ (.string d)).setCell ⟨(w.heap.size + 1), 0, none⟩ (.int .u8 0)) (w.heap.size + 1) (.int .u8 0) (.int .u8 0) (.int .u16 0) (.string r1) (.string d) := ⟨by have := M_10.1; simpa using this, by simp [go_sem, t3_0, t3_1, t3_2, t3_3, t3_4, m4_0, m4_1, m4_2, m4_3, m4_4], by simp [go_sem, t3_0, t3_1, t3_2, t3_3, t3_4, m4_0, m4_1, m4_2, m4_3, m4_4], by simp [go_sem, t3_0, t3_1, t3_2, t3_3, t3_4, m4_0, m4_1, m4_2, m4_3, m4_4], by simp [go_sem, t3_0, t3_1, t3_2, t3_3, t3_4, m4_0, m4_1, m4_2, m4_3, m4_4], by simp [go_sem, t3_0, t3_1, t3_2, t3_3, t3_4, m4_0, m4_1, m4_2, m4_3, m4_4]⟩
  have fzM_15 : ∀ i, ((((((w1.setCell ⟨(w.heap.size + 1), 0, none⟩ (.int .u8 8)).setCell ⟨(w.heap.size + 1), 1, none⟩ (.int .u8 0)).setCell ⟨(w.heap.size + 1), 2, none⟩ (.int .u16 0)).setCell ⟨(w.heap.size + 1), 3, none⟩ (.string r1)).setCell ⟨(w.heap.size + 1), 4, none⟩ (.string d)).setCell ⟨(w.heap.size + 1), 0, none⟩ (.int .u8 0)).frozen? ⟨(w.heap.size + 1), i, none⟩ = false := by intro i; simp [fzM_8]
  clear t3_0 t3_1 t3_2 t3_3 t3_4 m4_0 m4_1 m4_2 m4_3 m4_4 T_9 M_10 fzM_8 B11
  obtain ⟨u2, hu2⟩ : ∃ x, x = ((((((w1.setCell ⟨(w.heap.size + 1), 0, none⟩ (.int .u8 8)).setCell ⟨(w.heap.size + 1), 1, none⟩ (.int .u8 0)).setCell ⟨(w.heap.size + 1), 2, none⟩ (.int .u16 0)).setCell ⟨(w.heap.size + 1), 3, none⟩ (.string r1)).setCell ⟨(w.heap.size + 1), 4, none⟩ (.string d)).setCell ⟨(w.heap.size + 1), 0, none⟩ (.int .u8 0)) := ⟨_, rfl⟩
  rw [← hu2] at T_13 M_14 fzM_15 B12 ⊢
  clear hu2
  refine (c2 _).mono ?_; rintro e w3 ⟨rfl, x3⟩
  have fzM_16 : ∀ i, w3.frozen? ⟨(w.heap.size + 1), i, none⟩ = false := fun i => (x3.frozen (p := ⟨_, i, none⟩) M_14.1).trans (fzM_15 i)
  clear fzM_15
  have T_17 := T_13.on x3
  have M_18 := M_14.on x3
  have B19 := B12.trans (x3.mono B12.size)
  clear T_13 M_14 B12 x3
  clear c2
  obtain ⟨_, t5_0, t5_1, t5_2, t5_3, t5_4⟩ := id T_17
  obtain ⟨_, m6_0, m6_1, m6_2, m6_3, m6_4⟩ := id M_18
  go_wp2_with fail
  clear t5_0 t5_1 t5_2 t5_3 t5_4 m6_0 m6_1 m6_2 m6_3 m6_4
  obtain ⟨_, t7_0, t7_1, t7_2, t7_3, t7_4⟩ := id T_17
  obtain ⟨_, m8_0, m8_1, m8_2, m8_3, m8_4⟩ := id M_18
  have B20 := (((((B19.setCell (p := ⟨(w.heap.size + 1), 0, none⟩) (by show w.heap.size ≤ w.heap.size + 1; omega) (.int .u8 0)).setCell (p := ⟨(w.heap.size + 1), 1, none⟩) (by show w.heap.size ≤ w.heap.size + 1; omega) (.int .u8 0)).setCell (p := ⟨(w.heap.size + 1), 2, none⟩) (by show w.heap.size ≤ w.heap.size + 1; omega) (.int .u16 0)).setCell (p := ⟨(w.heap.size + 1), 3, none⟩) (by show w.heap.size ≤ w.heap.size + 1; omega) (.string r2)).setCell (p := ⟨(w.heap.size + 1), 4, none⟩) (by show w.heap.size ≤ w.heap.size + 1; omega) (.string d))
  have T_21 : Box5 (((((w3.setCell ⟨(w.heap.size + 1), 0, none⟩ (.int .u8 0)).setCell ⟨(w.heap.size + 1), 1, none⟩ (.int .u8 0)).setCell ⟨(w.heap.size + 1), 2, none⟩ (.int .u16 0)).setCell ⟨(w.heap.size + 1), 3, none⟩ (.string r2)).setCell ⟨(w.heap.size + 1), 4, none⟩ (.string d)) w.heap.size (.int .u8 p) (.int .u32 a) (.int .u16 m) (.int .u32 b) (.int .u16 n) := ⟨by have := T_17.1; simpa using this, by simp [go_sem, t7_0, t7_1, t7_2, t7_3, t7_4, m8_0, m8_1, m8_2, m8_3, m8_4], by simp [go_sem, t7_0, t7_1, t7_2, t7_3, t7_4, m8_0, m8_1, m8_2, m8_3, m8_4], by simp [go_sem, t7_0, t7_1, t7_2, t7_3, t7_4, m8_0, m8_1, m8_2, m8_3, m8_4], by simp [go_sem, t7_0, t7_1, t7_2, t7_3, t7_4, m8_0, m8_1, m8_2, m8_3, m8_4], by simp [go_sem, t7_0, t7_1, t7_2, t7_3, t7_4, m8_0, m8_1, m8_2, m8_3, m8_4]⟩
  have M_22 : Box5 (((((w3.setCell ⟨(w.heap.size + 1), 0, none⟩ (.int .u8 0)).setCell ⟨(w.heap.size + 1), 1, none⟩ (.int .u8 0)).setCell ⟨(w.heap.size + 1), 2, none⟩ (.int .u16 0)).setCell ⟨(w.heap.size + 1), 3, none⟩ (.string r2)).setCell ⟨(w.heap.size + 1), 4, none⟩ (.string d)) (w.heap.size + 1) (.int .u8 0) (.int .u8 0) (.int .u16 0) (.string r2) (.string d) := ⟨by have := M_18.1; simpa using this, by simp [go_sem, t7_0, t7_1, t7_2, t7_3, t7_4, m8_0, m8_1, m8_2, m8_3, m8_4], by simp [go_sem, t7_0, t7_1, t7_2, t7_3, t7_4, m8_0, m8_1, m8_2, m8_3, m8_4], by simp [go_sem, t7_0, t7_1, t7_2, t7_3, t7_4, m8_0, m8_1, m8_2, m8_3, m8_4], by simp [go_sem, t7_0, t7_1, t7_2, t7_3, t7_4, m8_0, m8_1, m8_2, m8_3, m8_4], by simp [go_sem, t7_0, t7_1, t7_2, t7_3, t7_4, m8_0, m8_1, m8_2, m8_3, m8_4]⟩
  have fzM_23 : ∀ i, (((((w3.setCell ⟨(w.heap.size + 1), 0, none⟩ (.int .u8 0)).setCell ⟨(w.heap.size + 1), 1, none⟩ (.int .u8 0)).setCell ⟨(w.heap.size + 1), 2, none⟩ (.int .u16 0)).setCell ⟨(w.heap.size + 1), 3, none⟩ (.string r2)).setCell ⟨(w.heap.size + 1), 4, none⟩ (.string d)).frozen? ⟨(w.heap.size + 1), i, none⟩ = false := by intro i; simp [fzM_16]
  clear t7_0 t7_1 t7_2 t7_3 t7_4 m8_0 m8_1 m8_2 m8_3 m8_4 T_17 M_18 fzM_16 B19
  obtain ⟨u4, hu4⟩ : ∃ x, x = (((((w3.setCell ⟨(w.heap.size + 1), 0, none⟩ (.int .u8 0)).setCell ⟨(w.heap.size + 1), 1, none⟩ (.int .u8 0)).setCell ⟨(w.heap.size + 1), 2, none⟩ (.int .u16 0)).setCell ⟨(w.heap.size + 1), 3, none⟩ (.string r2)).setCell ⟨(w.heap.size + 1), 4, none⟩ (.string d)) := ⟨_, rfl⟩
  rw [← hu4] at T_21 M_22 fzM_23 B20 ⊢
  clear hu4
  refine (cp _).mono ?_; rintro e w5 ⟨rfl, x5⟩
  have fzM_24 : ∀ i, w5.frozen? ⟨(w.heap.size + 1), i, none⟩ = false := fun i => (x5.frozen (p := ⟨_, i, none⟩) M_22.1).trans (fzM_23 i)
  clear fzM_23
  have T_25 := T_21.on x5
  have M_26 := M_22.on x5
  have B27 := B20.trans (x5.mono B20.size)
  clear T_21 M_22 B20 x5
  clear cp
  go_wp2_with fail
  refine (cs _).mono ?_; rintro e w6 ⟨rfl, x6⟩
  have fzM_28 : ∀ i, w6.frozen? ⟨(w.heap.size + 1), i, none⟩ = false := fun i => (x6.frozen (p := ⟨_, i, none⟩) M_26.1).trans (fzM_24 i)
  clear fzM_24
  have T_29 := T_25.on x6
  have M_30 := M_26.on x6
  have B31 := B27.trans (x6.mono B27.size)
  clear T_25 M_26 B27 x6
  clear cs
  go_wp2
  go_ret
  rw [HV.out]
  exact ⟨rfl, B31⟩
end Go.Proofs.YtidkgnanfhdhdaaDoor

namespace Go.Proofs.YtidkgnanfhdhdaaDoor
set_option linter.unusedVariables false
set_option linter.unusedSimpArgs false
open Go.ChangeShapes Go.WideShapes Go.ChangeAt Go.RowKit Go.PlainAid
attribute [local go_sem ↓] Go.wp_at_zero Go.wp_at_succ
end Go.Proofs.YtidkgnanfhdhdaaDoor

namespace Go.Proofs.YtidkgnanfhdhdaaDoor
set_option linter.unusedVariables false
set_option linter.unusedSimpArgs false
open Go.ChangeShapes Go.WideShapes Go.ChangeAt Go.RowKit Go.PlainAid
attribute [local go_sem ↓] Go.wp_at_zero Go.wp_at_succ
theorem rload8_ (p a m b n fl : Int) (d : ByteArray) (w : World) (a0 : 0 ≤ a) (a1 : a ≤ 4294967295) (m0 : 0 ≤ m) (m1 : m ≤ 65535) (b0 : 0 ≤ b) (b1 : b ≤ 4294967295) (n0 : 0 ≤ n) (n1 : n ≤ 65535) (f0 : 0 ≤ fl) (f1 : fl ≤ 255) (hd : d.size ≤ 900000) :
    Calls Tryd.prog 27 #[.agg #[.int .u8 p, .int .u32 a, .int .u16 m, .int .u32 b, .int .u16 n], .int .u8 fl, .string d] w fun e w' => e = .returned (.string (loadB p a m b n fl d)) ∧ Below w.heap.size w w' := by
  unfold loadB
  by_cases h6 : p = 6
  · subst h6; rw [if_pos rfl]; exact rload8_tcp a m b n fl d w a0 a1 m0 m1 b0 b1 n0 n1 f0 f1 hd
  · rw [if_neg h6]
    by_cases h17 : p = 17
    · subst h17; rw [if_pos rfl]; exact rload8_udp a m b n fl d w a0 a1 m0 m1 b0 b1 n0 n1 f0 f1 hd
    · rw [if_neg h17]
      by_cases hn : n = 0
      · exact rload8_ask p a m b n fl d w a0 a1 m0 m1 b0 b1 n0 n1 f0 f1 hd h6 h17 hn
      · exact rload8_told p a m b n fl d w a0 a1 m0 m1 b0 b1 n0 n1 f0 f1 hd h6 h17 hn
theorem slU_size (a b : Int) (s : ByteArray) : (slU a b s).size ≤ s.size + 2 := by
  unfold slU
  split
  · omega
  · rw [ByteArray.size_append, ByteArray.size_append, size_W, ByteArray.size_extract, ByteArray.size_extract]; show _ + 2 * 1 + _ ≤ _; omega
theorem slT_size (a b : Int) (s : ByteArray) : (slT a b s).size ≤ s.size + 2 := by
  unfold slT
  split
  · omega
  · rw [ByteArray.size_append, ByteArray.size_append, size_W, ByteArray.size_extract, ByteArray.size_extract]; show _ + 2 * 1 + _ ≤ _; omega
theorem slI_size (s : ByteArray) : (slI s).size ≤ s.size + 2 := by
  unfold slI
  split
  · omega
  · rw [ByteArray.size_append, ByteArray.size_append, size_W, ByteArray.size_extract, ByteArray.size_extract]; show _ + 2 * 1 + _ ≤ _; omega
theorem loadB_size (p a m b n fl : Int) (d : ByteArray) : (loadB p a m b n fl d).size ≤ d.size + 100 := by
  unfold loadB
  have z0 : (⟨#[]⟩ : ByteArray).size = 0 := rfl
  have z4 : (⟨#[0, 0, 0, 1]⟩ : ByteArray).size = 4 := rfl
  split
  · have h1 := slT_size a b (tPutB m n 1000 2000 0 fl 512 0 0 ⟨#[]⟩ d)
    have h2 := tPutB_size m n 1000 2000 0 fl 512 0 0 ⟨#[]⟩ d
    unfold loadT; omega
  · split
    · have h1 := slU_size a b (udpB m n 0 d)
      have h2 : (udpB m n 0 d).size = 8 + d.size := by unfold udpB; rw [ByteArray.size_append, size_W]; rfl
      unfold loadU; omega
    · unfold loadM
      split
      · have h1 := slI_size (icP 8 0 0 (wiM ⟨#[0, 0, 0, 1]⟩ m) d)
        have h2 := icP_size 8 0 0 (wiM ⟨#[0, 0, 0, 1]⟩ m) d
        rw [wiM_size] at h2; omega
      · have h1 := slI_size (icP 0 0 0 (wiM (wiM ⟨#[0, 0, 0, 1]⟩ m) n) d)
        have h2 := icP_size 0 0 0 (wiM (wiM ⟨#[0, 0, 0, 1]⟩ m) n) d
        rw [wiM_size, wiM_size] at h2; omega
def madeB (p a m b n fl tt : Int) (d : ByteArray) : ByteArray := putB 0 0 false tt p a b ⟨#[]⟩ (loadB p a m b n fl d)
set_option maxHeartbeats 4000000 in
set_option maxRecDepth 100000 in
theorem rmade8_ (p a m b n fl tt : Int) (d : ByteArray) (w : World) (p0 : 0 ≤ p) (p1 : p ≤ 255) (a0 : 0 ≤ a) (a1 : a ≤ 4294967295) (m0 : 0 ≤ m) (m1 : m ≤ 65535) (b0 : 0 ≤ b) (b1 : b ≤ 4294967295) (n0 : 0 ≤ n) (n1 : n ≤ 65535) (f0 : 0 ≤ fl) (f1 : fl ≤ 255) (t0 : 0 ≤ tt) (t1 : tt ≤ 255) (hd : d.size ≤ 900000) :
    Calls Tryd.prog 13 #[.agg #[.int .u8 p, .int .u32 a, .int .u16 m, .int .u32 b, .int .u16 n], .int .u8 fl, .int .u8 tt, .string d] w fun e w' => e = .returned (.string (madeB p a m b n fl tt d)) ∧ Below w.heap.size w w' := by
  have zl := loadB_size p a m b n fl d
  have cl := fun u => rload8_ p a m b n fl d u a0 a1 m0 m1 b0 b1 n0 n1 f0 f1 hd
  have cp := fun u => rput4_ 0 0 false tt p a b ⟨#[]⟩ (loadB p a m b n fl d) u (by omega) (by omega) (by omega) (by omega) t0 t1 p0 p1 a0 a1 b0 b1 (by decide) (by unfold maxLen; omega)
  have HV : Hid (madeB p a m b n fl tt d = putB 0 0 false tt p a b ⟨#[]⟩ (loadB p a m b n fl d)) := rfl
  have HN : ¬ putE (⟨#[]⟩ : ByteArray).size (loadB p a m b n fl d).size = 0 → Hid (putB 0 0 false tt p a b ⟨#[]⟩ (loadB p a m b n fl d) = ⟨#[]⟩) := fun h => by show _ = _; unfold putB; rw [if_neg h]
  generalize putB 0 0 false tt p a b ⟨#[]⟩ (loadB p a m b n fl d) = R at *
  generalize putE (⟨#[]⟩ : ByteArray).size (loadB p a m b n fl d).size = q at *
  generalize loadB p a m b n fl d = L at *
  clear zl
  go_enter Tryd.func13, Tryd.ntmps13
  have B1 := Below.refl w.heap.size w
  go_wp2_with fail
  have T_2 := Box5.make w (.int .u8 p) (.int .u32 a) (.int .u16 m) (.int .u32 b) (.int .u16 n) 29
  have B3 := B1.alloc B1.size (.cells #[.int .u8 p, .int .u32 a, .int .u16 m, .int .u32 b, .int .u16 n] 29)
  clear B1
  obtain ⟨u1, hu1⟩ : ∃ x, x = w.alloc (.cells #[.int .u8 p, .int .u32 a, .int .u16 m, .int .u32 b, .int .u16 n] 29) := ⟨_, rfl⟩
  rw [← hu1] at T_2 B3 ⊢
  clear hu1
  obtain ⟨zt, gt0, gt1, gt2, gt3, gt4⟩ := id T_2
  have Ft0 : ∀ x : Later u1.heap.size u1, x.u.cell? ⟨w.heap.size, 0, none⟩ = some (.int .u8 p) := fun x => x.block zt gt0
  have Ft1 : ∀ x : Later u1.heap.size u1, x.u.cell? ⟨w.heap.size, 1, none⟩ = some (.int .u32 a) := fun x => x.block zt gt1
  have Ft2 : ∀ x : Later u1.heap.size u1, x.u.cell? ⟨w.heap.size, 2, none⟩ = some (.int .u16 m) := fun x => x.block zt gt2
  have Ft3 : ∀ x : Later u1.heap.size u1, x.u.cell? ⟨w.heap.size, 3, none⟩ = some (.int .u32 b) := fun x => x.block zt gt3
  have Ft4 : ∀ x : Later u1.heap.size u1, x.u.cell? ⟨w.heap.size, 4, none⟩ = some (.int .u16 n) := fun x => x.block zt gt4
  clear gt0 gt1 gt2 gt3 gt4
  refine region_later (B := u1.heap.size) (by kernel_rfl) (by kernel_rfl) ?_
  repeat (go_big_quiet_step (first
    | (go_at_call 27; exact later_of _ (Nat.le_refl _) (cl _))
    | (go_at_call 26; exact later_of _ (Nat.le_refl _) (cp _))))
  refine later_end fun w2 x2 => ?_
  have T_4 := T_2.on x2
  have B5 := B3.trans (x2.mono B3.size)
  clear Ft0 Ft1 Ft2 Ft3 Ft4 zt T_2 B3 x2
  by_cases hq : q = 0
  · have e1 : (q != 0) = false := by simpa using hq
    clear HN
    go_wp2
    go_ret
    rw [HV.out]
    exact ⟨rfl, B5⟩
  · have e1 : (q != 0) = true := by simpa using hq
    have HN := HN hq
    go_wp2
    go_ret
    rw [HV.out, HN.out]
    exact ⟨rfl, B5⟩
end Go.Proofs.YtidkgnanfhdhdaaDoor

namespace Go.Proofs.YtidkgnanfhdhdaaDoor
set_option linter.unusedVariables false
set_option linter.unusedSimpArgs false
open Go.ChangeShapes Go.WideShapes Go.ChangeAt Go.RowKit Go.PlainAid
namespace TupLaid
def M1 : ByteArray := ⟨#[69, 0, 0, 29, 0, 0, 0, 0, 64, 17, 108, 202, 10, 0, 0, 1, 1, 2, 3, 4, 0, 5, 0, 53, 0, 9, 128, 155, 113]⟩
theorem r1 : seenR M1 = 0 := by kernel_rfl
theorem m1 : madeB 17 167772161 5 16909060 53 0 64 ⟨#[113]⟩ = M1 := by kernel_rfl
theorem s1 : sI M1 (bt M1 9) = 17 ∧ sI M1 (g32 M1 12) = 167772161 ∧ sI M1 (oM (bt M1 9) (pP M1)) = 5 ∧ sI M1 (g32 M1 16) = 16909060 ∧ sI M1 (oN (bt M1 9) (pP M1)) = 53 ∧ sI M1 (oK (bt M1 9) (pP M1)) = 2 ∧ sI M1 (oF (bt M1 9) (pP M1)) = 0 ∧ sB M1 (oA (bt M1 9) (pP M1)) = false ∧ sI M1 (bt M1 8) = 64 := ⟨by kernel_rfl, by kernel_rfl, by kernel_rfl, by kernel_rfl, by kernel_rfl, by kernel_rfl, by kernel_rfl, by kernel_rfl, by kernel_rfl⟩
def M2 : ByteArray := ⟨#[69, 0, 0, 40, 0, 0, 0, 0, 64, 6, 108, 202, 10, 0, 0, 1, 1, 2, 3, 4, 0, 5, 0, 80, 0, 0, 3, 232, 0, 0, 7, 208, 80, 2, 2, 0, 147, 207, 0, 0]⟩
theorem r2 : seenR M2 = 0 := by kernel_rfl
theorem m2 : madeB 6 167772161 5 16909060 80 2 64 ⟨#[]⟩ = M2 := by kernel_rfl
theorem s2 : sI M2 (bt M2 9) = 6 ∧ sI M2 (g32 M2 12) = 167772161 ∧ sI M2 (oM (bt M2 9) (pP M2)) = 5 ∧ sI M2 (g32 M2 16) = 16909060 ∧ sI M2 (oN (bt M2 9) (pP M2)) = 80 ∧ sI M2 (oK (bt M2 9) (pP M2)) = 1 ∧ sI M2 (oF (bt M2 9) (pP M2)) = 2 ∧ sB M2 (oA (bt M2 9) (pP M2)) = false ∧ sI M2 (bt M2 8) = 64 := ⟨by kernel_rfl, by kernel_rfl, by kernel_rfl, by kernel_rfl, by kernel_rfl, by kernel_rfl, by kernel_rfl, by kernel_rfl, by kernel_rfl⟩
def M3 : ByteArray := ⟨#[69, 0, 0, 40, 0, 0, 0, 0, 64, 6, 108, 202, 10, 0, 0, 1, 1, 2, 3, 4, 0, 5, 0, 80, 0, 0, 3, 232, 0, 0, 7, 208, 80, 18, 2, 0, 147, 191, 0, 0]⟩
theorem r3 : seenR M3 = 0 := by kernel_rfl
theorem m3 : madeB 6 167772161 5 16909060 80 18 64 ⟨#[]⟩ = M3 := by kernel_rfl
theorem s3 : sI M3 (bt M3 9) = 6 ∧ sI M3 (g32 M3 12) = 167772161 ∧ sI M3 (oM (bt M3 9) (pP M3)) = 5 ∧ sI M3 (g32 M3 16) = 16909060 ∧ sI M3 (oN (bt M3 9) (pP M3)) = 80 ∧ sI M3 (oK (bt M3 9) (pP M3)) = 2 ∧ sI M3 (oF (bt M3 9) (pP M3)) = 18 ∧ sB M3 (oA (bt M3 9) (pP M3)) = false ∧ sI M3 (bt M3 8) = 64 := ⟨by kernel_rfl, by kernel_rfl, by kernel_rfl, by kernel_rfl, by kernel_rfl, by kernel_rfl, by kernel_rfl, by kernel_rfl, by kernel_rfl⟩
def M4 : ByteArray := ⟨#[69, 0, 0, 28, 0, 0, 0, 0, 64, 1, 108, 219, 10, 0, 0, 1, 1, 2, 3, 4, 8, 0, 247, 247, 0, 7, 0, 1]⟩
theorem r4 : seenR M4 = 0 := by kernel_rfl
theorem m4 : madeB 1 167772161 7 16909060 0 0 64 ⟨#[]⟩ = M4 := by kernel_rfl
theorem s4 : sI M4 (bt M4 9) = 1 ∧ sI M4 (g32 M4 12) = 167772161 ∧ sI M4 (oM (bt M4 9) (pP M4)) = 7 ∧ sI M4 (g32 M4 16) = 16909060 ∧ sI M4 (oN (bt M4 9) (pP M4)) = 0 ∧ sI M4 (oK (bt M4 9) (pP M4)) = 2 ∧ sI M4 (oF (bt M4 9) (pP M4)) = 0 ∧ sB M4 (oA (bt M4 9) (pP M4)) = true ∧ sI M4 (bt M4 8) = 64 := ⟨by kernel_rfl, by kernel_rfl, by kernel_rfl, by kernel_rfl, by kernel_rfl, by kernel_rfl, by kernel_rfl, by kernel_rfl, by kernel_rfl⟩
def M5 : ByteArray := ⟨#[69, 0, 0, 28, 0, 0, 0, 0, 64, 1, 108, 219, 10, 0, 0, 1, 1, 2, 3, 4, 0, 0, 255, 247, 0, 7, 0, 1]⟩
theorem r5 : seenR M5 = 0 := by kernel_rfl
theorem m5 : madeB 1 167772161 0 16909060 7 0 64 ⟨#[]⟩ = M5 := by kernel_rfl
theorem s5 : sI M5 (bt M5 9) = 1 ∧ sI M5 (g32 M5 12) = 167772161 ∧ sI M5 (oM (bt M5 9) (pP M5)) = 0 ∧ sI M5 (g32 M5 16) = 16909060 ∧ sI M5 (oN (bt M5 9) (pP M5)) = 7 ∧ sI M5 (oK (bt M5 9) (pP M5)) = 2 ∧ sI M5 (oF (bt M5 9) (pP M5)) = 0 ∧ sB M5 (oA (bt M5 9) (pP M5)) = false ∧ sI M5 (bt M5 8) = 64 := ⟨by kernel_rfl, by kernel_rfl, by kernel_rfl, by kernel_rfl, by kernel_rfl, by kernel_rfl, by kernel_rfl, by kernel_rfl, by kernel_rfl⟩
def M6 : ByteArray := ⟨#[69, 0, 0, 28, 0, 0, 0, 0, 64, 2, 108, 218, 10, 0, 0, 1, 1, 2, 3, 4, 49, 50, 51, 52, 53, 54, 55, 56]⟩
theorem r6 : seenR M6 = 6 := by kernel_rfl
theorem m6 : putB 0 0 false 64 2 167772161 16909060 ⟨#[]⟩ ⟨#[49, 50, 51, 52, 53, 54, 55, 56]⟩ = M6 := by kernel_rfl
def M7 : ByteArray := ⟨#[69, 0, 0, 28, 0, 0, 0, 0, 64, 1, 108, 219, 10, 0, 0, 1, 1, 2, 3, 4, 5, 0, 49, 50, 51, 52, 53, 54]⟩
theorem r7 : seenR M7 = 6 := by kernel_rfl
theorem m7 : putB 0 0 false 64 1 167772161 16909060 ⟨#[]⟩ ⟨#[5, 0, 49, 50, 51, 52, 53, 54]⟩ = M7 := by kernel_rfl
def M8 : ByteArray := ⟨#[69, 0, 0, 27, 0, 0, 0, 0, 64, 17, 108, 204, 10, 0, 0, 1, 1, 2, 3, 4, 49, 50, 51, 52, 53, 54, 55]⟩
theorem r8 : seenR M8 = 7 := by kernel_rfl
theorem m8 : putB 0 0 false 64 17 167772161 16909060 ⟨#[]⟩ ⟨#[49, 50, 51, 52, 53, 54, 55]⟩ = M8 := by kernel_rfl
def T9 : List UInt8 := [105, 99, 109, 112, 32, 49, 46, 50, 46, 51, 46, 52, 58, 53, 32, 49, 46, 50, 46, 51, 46, 52, 58, 54]
theorem t9 : tupR T9 = none := by kernel_rfl
def T10 : List UInt8 := [116, 99, 112, 32, 49, 46, 50, 46, 51, 46, 52, 58, 53]
theorem t10 : tupR T10 = none := by kernel_rfl
def X1 : List UInt8 := [117, 100, 112, 32, 49, 48, 46, 48, 46, 48, 46, 49, 58, 53, 32, 49, 46, 50, 46, 51, 46, 52, 58, 53, 51]
theorem x1 : ttextL 17 167772161 5 16909060 53 = X1 := by kernel_rfl
end TupLaid
end Go.Proofs.YtidkgnanfhdhdaaDoor

namespace Go.Proofs.YtidkgnanfhdhdaaDoor
set_option linter.unusedVariables false
set_option linter.unusedSimpArgs false
open Go.ChangeShapes Go.WideShapes Go.ChangeAt Go.RowKit Go.PlainAid
attribute [local go_sem ↓] Go.wp_at_zero Go.wp_at_succ
structure TupOk : Prop where
  ofs : ∀ (s : ByteArray) (w : World), s.size ≤ 1000000 → Tab w → Calls Tryd.prog 7 #[.string s] w fun e w' => e = .returned (.tuple #[.agg #[.int .u8 (sI s (bt s 9)), .int .u32 (sI s (g32 s 12)), .int .u16 (sI s (oM (bt s 9) (pP s))), .int .u32 (sI s (g32 s 16)), .int .u16 (sI s (oN (bt s 9) (pP s))), .int .i64 (sI s (oK (bt s 9) (pP s))), .int .u8 (sI s (oF (bt s 9) (pP s))), .bool (sB s (oA (bt s 9) (pP s))), .int .u8 (sI s (bt s 8))], .int .i64 (seenR s)]) ∧ Below w.heap.size w w'
  backs : ∀ (p a m b n : Int) (w : World), 0 ≤ p → p ≤ 255 → 0 ≤ a → a ≤ 4294967295 → 0 ≤ m → m ≤ 65535 → 0 ≤ b → b ≤ 4294967295 → 0 ≤ n → n ≤ 65535 → Tab w → Calls Tryd.prog 9 #[.agg #[.int .u8 p, .int .u32 a, .int .u16 m, .int .u32 b, .int .u16 n]] w fun e w' => e = .returned (.agg #[.int .u8 p, .int .u32 b, .int .u16 n, .int .u32 a, .int .u16 m]) ∧ Below w.heap.size w w'
  mays : ∀ (p a m b n : Int) (w : World), 0 ≤ p → p ≤ 255 → 0 ≤ a → a ≤ 4294967295 → 0 ≤ m → m ≤ 65535 → 0 ≤ b → b ≤ 4294967295 → 0 ≤ n → n ≤ 65535 → Tab w → Calls Tryd.prog 8 #[.agg #[.int .u8 p, .int .u32 a, .int .u16 m, .int .u32 b, .int .u16 n]] w fun e w' => e = .returned (.bool (tmay p m n)) ∧ Below w.heap.size w w'
  lesses : ∀ (p q : Int) (a m b n c k d l : Nat) (w : World), 0 ≤ p → p ≤ 255 → 0 ≤ q → q ≤ 255 → a < 4294967296 → m ≤ 65535 → b < 4294967296 → n ≤ 65535 → c < 4294967296 → k ≤ 65535 → d < 4294967296 → l ≤ 65535 → Tab w → Calls Tryd.prog 10 #[.agg #[.int .u8 p, .int .u32 (a : Int), .int .u16 (m : Int), .int .u32 (b : Int), .int .u16 (n : Int)], .agg #[.int .u8 q, .int .u32 (c : Int), .int .u16 (k : Int), .int .u32 (d : Int), .int .u16 (l : Int)]] w fun e w' => e = .returned (.bool (tless p q a m b n c k d l)) ∧ Below w.heap.size w w'
  texts : ∀ (p a m b n : Nat) (w : World), p ≤ 255 → a < 4294967296 → m ≤ 65535 → b < 4294967296 → n ≤ 65535 → Tab w → Calls Tryd.prog 12 #[.agg #[.int .u8 (p : Int), .int .u32 (a : Int), .int .u16 (m : Int), .int .u32 (b : Int), .int .u16 (n : Int)]] w fun e w' => e = .returned (.string (str (ttextL p a m b n))) ∧ Below w.heap.size w w'
  parses : ∀ (l : List UInt8) (w : World), l.length ≤ 1000000 → Tab w → Calls Tryd.prog 11 #[.string (str l)] w fun e w' => e = .returned (.tuple #[.agg #[.int .u8 (tupP l : Nat), .int .u32 (tupA l : Nat), .int .u16 (tupM l : Nat), .int .u32 (tupB l : Nat), .int .u16 (tupN l : Nat)], .int .i64 (tupE l)]) ∧ Below w.heap.size w w'
set_option maxHeartbeats 1000000 in
theorem one_ (p a b : Int) (w : World) :
    Calls Tryd.prog 14 #[.int .u8 p, .int .u16 a, .int .u16 b] w fun e w' => e = .returned (.agg #[.int .u8 p, .int .u32 167772161, .int .u16 a, .int .u32 16909060, .int .u16 b]) ∧ Below w.heap.size w w' := by
  go_enter Tryd.func14, Tryd.ntmps14
  go_wp2
  refine bodyPost_ret (v := .agg #[.int .u8 p, .int .u32 167772161, .int .u16 a, .int .u32 16909060, .int .u16 b]) (by simp [results, Tryd.results14, go_sem]) rfl ?_
  exact ⟨rfl, (Below.refl _ _).alloc (Nat.le_refl _) _⟩
set_option maxHeartbeats 1000000 in
theorem carrying_ (p : Int) (d : ByteArray) (w : World) (p0 : 0 ≤ p) (p1 : p ≤ 255) (hd : d.size ≤ 900000) :
    Calls Tryd.prog 15 #[.int .u8 p, .string d] w fun e w' => e = .returned (.string (putB 0 0 false 64 p 167772161 16909060 ⟨#[]⟩ d)) ∧ Below w.heap.size w w' := by
  have cp := fun u => rput4_ 0 0 false 64 p 167772161 16909060 ⟨#[]⟩ d u (by omega) (by omega) (by omega) (by omega) (by omega) (by omega) p0 p1 (by omega) (by omega) (by omega) (by omega) (by decide) (by unfold maxLen; omega)
  generalize putB 0 0 false 64 p 167772161 16909060 ⟨#[]⟩ d = R at *
  generalize putE (⟨#[]⟩ : ByteArray).size d.size = q at *
  go_enter Tryd.func15, Tryd.ntmps15
  go_wp2_with fail
  refine (cp _).mono ?_; rintro e w1 ⟨rfl, b1⟩
  clear cp
  go_wp2
  go_ret
  exact ⟨rfl, b1⟩
set_option maxHeartbeats 4000000 in
set_option maxRecDepth 100000 in
theorem watched_ (K : TupOk) (w : World) (ht : Tab w) :
    Calls Tryd.prog 6 #[] w fun e w' => e = .returned (.bool true) ∧ Below w.heap.size w w' := by
  have cm1 := fun u => rmade8_ 17 167772161 5 16909060 53 0 64 ⟨#[113]⟩ u (by omega) (by omega) (by omega) (by omega) (by omega) (by omega) (by omega) (by omega) (by omega) (by omega) (by omega) (by omega) (by omega) (by omega) (by decide)
  rw [TupLaid.m1] at cm1
  have co1 := fun u hu => K.ofs TupLaid.M1 u (by decide) hu
  rw [TupLaid.s1.1, TupLaid.s1.2.1, TupLaid.s1.2.2.1, TupLaid.s1.2.2.2.1, TupLaid.s1.2.2.2.2.1, TupLaid.s1.2.2.2.2.2.1, TupLaid.s1.2.2.2.2.2.2.1, TupLaid.s1.2.2.2.2.2.2.2.1, TupLaid.s1.2.2.2.2.2.2.2.2, TupLaid.r1] at co1
  have cm2 := fun u => rmade8_ 6 167772161 5 16909060 80 2 64 ⟨#[]⟩ u (by omega) (by omega) (by omega) (by omega) (by omega) (by omega) (by omega) (by omega) (by omega) (by omega) (by omega) (by omega) (by omega) (by omega) (by decide)
  rw [TupLaid.m2] at cm2
  have co2 := fun u hu => K.ofs TupLaid.M2 u (by decide) hu
  rw [TupLaid.s2.1, TupLaid.s2.2.1, TupLaid.s2.2.2.1, TupLaid.s2.2.2.2.1, TupLaid.s2.2.2.2.2.1, TupLaid.s2.2.2.2.2.2.1, TupLaid.s2.2.2.2.2.2.2.1, TupLaid.s2.2.2.2.2.2.2.2.1, TupLaid.s2.2.2.2.2.2.2.2.2, TupLaid.r2] at co2
  have cm3 := fun u => rmade8_ 6 167772161 5 16909060 80 18 64 ⟨#[]⟩ u (by omega) (by omega) (by omega) (by omega) (by omega) (by omega) (by omega) (by omega) (by omega) (by omega) (by omega) (by omega) (by omega) (by omega) (by decide)
  rw [TupLaid.m3] at cm3
  have co3 := fun u hu => K.ofs TupLaid.M3 u (by decide) hu
  rw [TupLaid.s3.1, TupLaid.s3.2.1, TupLaid.s3.2.2.1, TupLaid.s3.2.2.2.1, TupLaid.s3.2.2.2.2.1, TupLaid.s3.2.2.2.2.2.1, TupLaid.s3.2.2.2.2.2.2.1, TupLaid.s3.2.2.2.2.2.2.2.1, TupLaid.s3.2.2.2.2.2.2.2.2, TupLaid.r3] at co3
  have cm4 := fun u => rmade8_ 1 167772161 7 16909060 0 0 64 ⟨#[]⟩ u (by omega) (by omega) (by omega) (by omega) (by omega) (by omega) (by omega) (by omega) (by omega) (by omega) (by omega) (by omega) (by omega) (by omega) (by decide)
  rw [TupLaid.m4] at cm4
  have co4 := fun u hu => K.ofs TupLaid.M4 u (by decide) hu
  rw [TupLaid.s4.1, TupLaid.s4.2.1, TupLaid.s4.2.2.1, TupLaid.s4.2.2.2.1, TupLaid.s4.2.2.2.2.1, TupLaid.s4.2.2.2.2.2.1, TupLaid.s4.2.2.2.2.2.2.1, TupLaid.s4.2.2.2.2.2.2.2.1, TupLaid.s4.2.2.2.2.2.2.2.2, TupLaid.r4] at co4
  have cm5 := fun u => rmade8_ 1 167772161 0 16909060 7 0 64 ⟨#[]⟩ u (by omega) (by omega) (by omega) (by omega) (by omega) (by omega) (by omega) (by omega) (by omega) (by omega) (by omega) (by omega) (by omega) (by omega) (by decide)
  rw [TupLaid.m5] at cm5
  have co5 := fun u hu => K.ofs TupLaid.M5 u (by decide) hu
  rw [TupLaid.s5.1, TupLaid.s5.2.1, TupLaid.s5.2.2.1, TupLaid.s5.2.2.2.1, TupLaid.s5.2.2.2.2.1, TupLaid.s5.2.2.2.2.2.1, TupLaid.s5.2.2.2.2.2.2.1, TupLaid.s5.2.2.2.2.2.2.2.1, TupLaid.s5.2.2.2.2.2.2.2.2, TupLaid.r5] at co5
  have cm6 := fun u => carrying_ 2 ⟨#[49, 50, 51, 52, 53, 54, 55, 56]⟩ u (by omega) (by omega) (by decide)
  rw [TupLaid.m6] at cm6
  have n6 := s_no (s := TupLaid.M6) (by rw [TupLaid.r6]; decide)
  have co6 := fun u hu => K.ofs TupLaid.M6 u (by decide) hu
  rw [n6.1, n6.1, n6.1, n6.1, n6.1, n6.1, n6.1, n6.1, n6.2, TupLaid.r6] at co6
  clear n6
  have cm7 := fun u => carrying_ 1 ⟨#[5, 0, 49, 50, 51, 52, 53, 54]⟩ u (by omega) (by omega) (by decide)
  rw [TupLaid.m7] at cm7
  have n7 := s_no (s := TupLaid.M7) (by rw [TupLaid.r7]; decide)
  have co7 := fun u hu => K.ofs TupLaid.M7 u (by decide) hu
  rw [n7.1, n7.1, n7.1, n7.1, n7.1, n7.1, n7.1, n7.1, n7.2, TupLaid.r7] at co7
  clear n7
  have cm8 := fun u => carrying_ 17 ⟨#[49, 50, 51, 52, 53, 54, 55]⟩ u (by omega) (by omega) (by decide)
  rw [TupLaid.m8] at cm8
  have n8 := s_no (s := TupLaid.M8) (by rw [TupLaid.r8]; decide)
  have co8 := fun u hu => K.ofs TupLaid.M8 u (by decide) hu
  rw [n8.1, n8.1, n8.1, n8.1, n8.1, n8.1, n8.1, n8.1, n8.2, TupLaid.r8] at co8
  clear n8
  have co9 := fun u hu => K.parses TupLaid.T9 u (by decide) hu
  rw [(tup_none TupLaid.t9).1, (tup_none TupLaid.t9).2.1, (tup_none TupLaid.t9).2.2.1, (tup_none TupLaid.t9).2.2.2.1, (tup_none TupLaid.t9).2.2.2.2.1, (tup_none TupLaid.t9).2.2.2.2.2] at co9
  have co10 := fun u hu => K.parses TupLaid.T10 u (by decide) hu
  rw [(tup_none TupLaid.t10).1, (tup_none TupLaid.t10).2.1, (tup_none TupLaid.t10).2.2.1, (tup_none TupLaid.t10).2.2.2.1, (tup_none TupLaid.t10).2.2.2.2.1, (tup_none TupLaid.t10).2.2.2.2.2] at co10
  have ct := fun u hu => K.texts 17 167772161 5 16909060 53 u (by omega) (by omega) (by omega) (by omega) (by omega) hu
  rw [TupLaid.x1] at ct
  have ex : ((str TupLaid.X1).toList == [117, 100, 112, 32, 49, 48, 46, 48, 46, 48, 46, 49, 58, 53, 32, 49, 46, 50, 46, 51, 46, 52, 58, 53, 51]) = true := by rw [str_toList]; rfl
  have h9 : str TupLaid.T9 = ⟨#[105, 99, 109, 112, 32, 49, 46, 50, 46, 51, 46, 52, 58, 53, 32, 49, 46, 50, 46, 51, 46, 52, 58, 54]⟩ := rfl
  have h10 : str TupLaid.T10 = ⟨#[116, 99, 112, 32, 49, 46, 50, 46, 51, 46, 52, 58, 53]⟩ := rfl
  rw [h9] at co9
  rw [h10] at co10
  clear h9 h10
  obtain ⟨X1, hX1⟩ : ∃ x, x = str TupLaid.X1 := ⟨_, rfl⟩
  rw [← hX1] at ct ex
  clear hX1
  go_enter Tryd.func6, Tryd.ntmps6
  have B1 := Below.refl w.heap.size w
  go_wp2_with fail
  refine (one_ _ _ _ _).mono ?_; rintro e w1 ⟨rfl, x1⟩
  have B2 := B1.trans (x1.mono B1.size)
  clear B1 x1
  go_wp2_with fail
  refine (cm1 _).mono ?_; rintro e w2 ⟨rfl, x2⟩
  have B3 := B2.trans (x2.mono B2.size)
  clear B2 x2
  go_wp2_with fail
  refine (co1 _ (ht.on B3)).mono ?_; rintro e w3 ⟨rfl, x3⟩
  have B4 := B3.trans (x3.mono B3.size)
  clear B3 x3
  have A_5 := Box9.make w3 (.int .u8 17) (.int .u32 167772161) (.int .u16 5) (.int .u32 16909060) (.int .u16 53) (.int .i64 2) (.int .u8 0) (.bool false) (.int .u8 64) 31
  have B6 := B4.alloc B4.size (.cells #[.int .u8 17, .int .u32 167772161, .int .u16 5, .int .u32 16909060, .int .u16 53, .int .i64 2, .int .u8 0, .bool false, .int .u8 64] 31)
  clear B4
  clear cm1 co1
  go_wp2_with fail
  refine (one_ _ _ _ _).mono ?_; rintro e w4 ⟨rfl, x4⟩
  have A_7 := A_5.on x4
  have B8 := B6.trans (x4.mono B6.size)
  clear A_5 B6 x4
  go_wp2_with fail
  refine (cm2 _).mono ?_; rintro e w5 ⟨rfl, x5⟩
  have A_9 := A_7.on x5
  have B10 := B8.trans (x5.mono B8.size)
  clear A_7 B8 x5
  go_wp2_with fail
  refine (co2 _ (ht.on B10)).mono ?_; rintro e w6 ⟨rfl, x6⟩
  have A_11 := A_9.on x6
  have B12 := B10.trans (x6.mono B10.size)
  clear A_9 B10 x6
  have A_13 := A_11.past (o := (.cells #[.int .u8 6, .int .u32 167772161, .int .u16 5, .int .u32 16909060, .int .u16 80, .int .i64 1, .int .u8 2, .bool false, .int .u8 64] 31))
  have B_14 := Box9.make w6 (.int .u8 6) (.int .u32 167772161) (.int .u16 5) (.int .u32 16909060) (.int .u16 80) (.int .i64 1) (.int .u8 2) (.bool false) (.int .u8 64) 31
  have B15 := B12.alloc B12.size (.cells #[.int .u8 6, .int .u32 167772161, .int .u16 5, .int .u32 16909060, .int .u16 80, .int .i64 1, .int .u8 2, .bool false, .int .u8 64] 31)
  clear A_11 B12
  clear cm2 co2
  go_wp2_with fail
  refine (one_ _ _ _ _).mono ?_; rintro e w7 ⟨rfl, x7⟩
  have A_16 := A_13.on x7
  have B_17 := B_14.on x7
  have B18 := B15.trans (x7.mono B15.size)
  clear A_13 B_14 B15 x7
  go_wp2_with fail
  refine (cm3 _).mono ?_; rintro e w8 ⟨rfl, x8⟩
  have A_19 := A_16.on x8
  have B_20 := B_17.on x8
  have B21 := B18.trans (x8.mono B18.size)
  clear A_16 B_17 B18 x8
  go_wp2_with fail
  refine (co3 _ (ht.on B21)).mono ?_; rintro e w9 ⟨rfl, x9⟩
  have A_22 := A_19.on x9
  have B_23 := B_20.on x9
  have B24 := B21.trans (x9.mono B21.size)
  clear A_19 B_20 B21 x9
  have A_25 := A_22.past (o := (.cells #[.int .u8 6, .int .u32 167772161, .int .u16 5, .int .u32 16909060, .int .u16 80, .int .i64 2, .int .u8 18, .bool false, .int .u8 64] 31))
  have B_26 := B_23.past (o := (.cells #[.int .u8 6, .int .u32 167772161, .int .u16 5, .int .u32 16909060, .int .u16 80, .int .i64 2, .int .u8 18, .bool false, .int .u8 64] 31))
  have C_27 := Box9.make w9 (.int .u8 6) (.int .u32 167772161) (.int .u16 5) (.int .u32 16909060) (.int .u16 80) (.int .i64 2) (.int .u8 18) (.bool false) (.int .u8 64) 31
  have B28 := B24.alloc B24.size (.cells #[.int .u8 6, .int .u32 167772161, .int .u16 5, .int .u32 16909060, .int .u16 80, .int .i64 2, .int .u8 18, .bool false, .int .u8 64] 31)
  clear A_22 B_23 B24
  clear cm3 co3
  go_wp2_with fail
  refine (one_ _ _ _ _).mono ?_; rintro e w10 ⟨rfl, x10⟩
  have A_29 := A_25.on x10
  have B_30 := B_26.on x10
  have C_31 := C_27.on x10
  have B32 := B28.trans (x10.mono B28.size)
  clear A_25 B_26 C_27 B28 x10
  go_wp2_with fail
  refine (cm4 _).mono ?_; rintro e w11 ⟨rfl, x11⟩
  have A_33 := A_29.on x11
  have B_34 := B_30.on x11
  have C_35 := C_31.on x11
  have B36 := B32.trans (x11.mono B32.size)
  clear A_29 B_30 C_31 B32 x11
  go_wp2_with fail
  refine (co4 _ (ht.on B36)).mono ?_; rintro e w12 ⟨rfl, x12⟩
  have A_37 := A_33.on x12
  have B_38 := B_34.on x12
  have C_39 := C_35.on x12
  have B40 := B36.trans (x12.mono B36.size)
  clear A_33 B_34 C_35 B36 x12
  have A_41 := A_37.past (o := (.cells #[.int .u8 1, .int .u32 167772161, .int .u16 7, .int .u32 16909060, .int .u16 0, .int .i64 2, .int .u8 0, .bool true, .int .u8 64] 31))
  have B_42 := B_38.past (o := (.cells #[.int .u8 1, .int .u32 167772161, .int .u16 7, .int .u32 16909060, .int .u16 0, .int .i64 2, .int .u8 0, .bool true, .int .u8 64] 31))
  have C_43 := C_39.past (o := (.cells #[.int .u8 1, .int .u32 167772161, .int .u16 7, .int .u32 16909060, .int .u16 0, .int .i64 2, .int .u8 0, .bool true, .int .u8 64] 31))
  have D_44 := Box9.make w12 (.int .u8 1) (.int .u32 167772161) (.int .u16 7) (.int .u32 16909060) (.int .u16 0) (.int .i64 2) (.int .u8 0) (.bool true) (.int .u8 64) 31
  have B45 := B40.alloc B40.size (.cells #[.int .u8 1, .int .u32 167772161, .int .u16 7, .int .u32 16909060, .int .u16 0, .int .i64 2, .int .u8 0, .bool true, .int .u8 64] 31)
  clear A_37 B_38 C_39 B40
  clear cm4 co4
  go_wp2_with fail
  refine (one_ _ _ _ _).mono ?_; rintro e w13 ⟨rfl, x13⟩
  have A_46 := A_41.on x13
  have B_47 := B_42.on x13
  have C_48 := C_43.on x13
  have D_49 := D_44.on x13
  have B50 := B45.trans (x13.mono B45.size)
  clear A_41 B_42 C_43 D_44 B45 x13
  go_wp2_with fail
  refine (cm5 _).mono ?_; rintro e w14 ⟨rfl, x14⟩
  have A_51 := A_46.on x14
  have B_52 := B_47.on x14
  have C_53 := C_48.on x14
  have D_54 := D_49.on x14
  have B55 := B50.trans (x14.mono B50.size)
  clear A_46 B_47 C_48 D_49 B50 x14
  go_wp2_with fail
  refine (co5 _ (ht.on B55)).mono ?_; rintro e w15 ⟨rfl, x15⟩
  have A_56 := A_51.on x15
  have B_57 := B_52.on x15
  have C_58 := C_53.on x15
  have D_59 := D_54.on x15
  have B60 := B55.trans (x15.mono B55.size)
  clear A_51 B_52 C_53 D_54 B55 x15
  have A_61 := A_56.past (o := (.cells #[.int .u8 1, .int .u32 167772161, .int .u16 0, .int .u32 16909060, .int .u16 7, .int .i64 2, .int .u8 0, .bool false, .int .u8 64] 31))
  have B_62 := B_57.past (o := (.cells #[.int .u8 1, .int .u32 167772161, .int .u16 0, .int .u32 16909060, .int .u16 7, .int .i64 2, .int .u8 0, .bool false, .int .u8 64] 31))
  have C_63 := C_58.past (o := (.cells #[.int .u8 1, .int .u32 167772161, .int .u16 0, .int .u32 16909060, .int .u16 7, .int .i64 2, .int .u8 0, .bool false, .int .u8 64] 31))
  have D_64 := D_59.past (o := (.cells #[.int .u8 1, .int .u32 167772161, .int .u16 0, .int .u32 16909060, .int .u16 7, .int .i64 2, .int .u8 0, .bool false, .int .u8 64] 31))
  have E_65 := Box9.make w15 (.int .u8 1) (.int .u32 167772161) (.int .u16 0) (.int .u32 16909060) (.int .u16 7) (.int .i64 2) (.int .u8 0) (.bool false) (.int .u8 64) 31
  have B66 := B60.alloc B60.size (.cells #[.int .u8 1, .int .u32 167772161, .int .u16 0, .int .u32 16909060, .int .u16 7, .int .i64 2, .int .u8 0, .bool false, .int .u8 64] 31)
  clear A_56 B_57 C_58 D_59 B60
  clear cm5 co5
  go_wp2_with fail
  refine (cm6 _).mono ?_; rintro e w16 ⟨rfl, x16⟩
  have A_67 := A_61.on x16
  have B_68 := B_62.on x16
  have C_69 := C_63.on x16
  have D_70 := D_64.on x16
  have E_71 := E_65.on x16
  have B72 := B66.trans (x16.mono B66.size)
  clear A_61 B_62 C_63 D_64 E_65 B66 x16
  go_wp2_with fail
  refine (co6 _ (ht.on B72)).mono ?_; rintro e w17 ⟨rfl, x17⟩
  have A_73 := A_67.on x17
  have B_74 := B_68.on x17
  have C_75 := C_69.on x17
  have D_76 := D_70.on x17
  have E_77 := E_71.on x17
  have B78 := B72.trans (x17.mono B72.size)
  clear A_67 B_68 C_69 D_70 E_71 B72 x17
  have A_79 := A_73.past (o := (.cells #[.int .u8 0, .int .u32 0, .int .u16 0, .int .u32 0, .int .u16 0, .int .i64 0, .int .u8 0, .bool false, .int .u8 0] 31))
  have B_80 := B_74.past (o := (.cells #[.int .u8 0, .int .u32 0, .int .u16 0, .int .u32 0, .int .u16 0, .int .i64 0, .int .u8 0, .bool false, .int .u8 0] 31))
  have C_81 := C_75.past (o := (.cells #[.int .u8 0, .int .u32 0, .int .u16 0, .int .u32 0, .int .u16 0, .int .i64 0, .int .u8 0, .bool false, .int .u8 0] 31))
  have D_82 := D_76.past (o := (.cells #[.int .u8 0, .int .u32 0, .int .u16 0, .int .u32 0, .int .u16 0, .int .i64 0, .int .u8 0, .bool false, .int .u8 0] 31))
  have E_83 := E_77.past (o := (.cells #[.int .u8 0, .int .u32 0, .int .u16 0, .int .u32 0, .int .u16 0, .int .i64 0, .int .u8 0, .bool false, .int .u8 0] 31))
  have B84 := B78.alloc B78.size (.cells #[.int .u8 0, .int .u32 0, .int .u16 0, .int .u32 0, .int .u16 0, .int .i64 0, .int .u8 0, .bool false, .int .u8 0] 31)
  clear A_73 B_74 C_75 D_76 E_77 B78
  clear cm6 co6
  go_wp2_with fail
  refine (cm7 _).mono ?_; rintro e w18 ⟨rfl, x18⟩
  have A_85 := A_79.on x18
  have B_86 := B_80.on x18
  have C_87 := C_81.on x18
  have D_88 := D_82.on x18
  have E_89 := E_83.on x18
  have B90 := B84.trans (x18.mono B84.size)
  clear A_79 B_80 C_81 D_82 E_83 B84 x18
  go_wp2_with fail
  refine (co7 _ (ht.on B90)).mono ?_; rintro e w19 ⟨rfl, x19⟩
  have A_91 := A_85.on x19
  have B_92 := B_86.on x19
  have C_93 := C_87.on x19
  have D_94 := D_88.on x19
  have E_95 := E_89.on x19
  have B96 := B90.trans (x19.mono B90.size)
  clear A_85 B_86 C_87 D_88 E_89 B90 x19
  have A_97 := A_91.past (o := (.cells #[.int .u8 0, .int .u32 0, .int .u16 0, .int .u32 0, .int .u16 0, .int .i64 0, .int .u8 0, .bool false, .int .u8 0] 31))
  have B_98 := B_92.past (o := (.cells #[.int .u8 0, .int .u32 0, .int .u16 0, .int .u32 0, .int .u16 0, .int .i64 0, .int .u8 0, .bool false, .int .u8 0] 31))
  have C_99 := C_93.past (o := (.cells #[.int .u8 0, .int .u32 0, .int .u16 0, .int .u32 0, .int .u16 0, .int .i64 0, .int .u8 0, .bool false, .int .u8 0] 31))
  have D_100 := D_94.past (o := (.cells #[.int .u8 0, .int .u32 0, .int .u16 0, .int .u32 0, .int .u16 0, .int .i64 0, .int .u8 0, .bool false, .int .u8 0] 31))
  have E_101 := E_95.past (o := (.cells #[.int .u8 0, .int .u32 0, .int .u16 0, .int .u32 0, .int .u16 0, .int .i64 0, .int .u8 0, .bool false, .int .u8 0] 31))
  have B102 := B96.alloc B96.size (.cells #[.int .u8 0, .int .u32 0, .int .u16 0, .int .u32 0, .int .u16 0, .int .i64 0, .int .u8 0, .bool false, .int .u8 0] 31)
  clear A_91 B_92 C_93 D_94 E_95 B96
  clear cm7 co7
  go_wp2_with fail
  refine (cm8 _).mono ?_; rintro e w20 ⟨rfl, x20⟩
  have A_103 := A_97.on x20
  have B_104 := B_98.on x20
  have C_105 := C_99.on x20
  have D_106 := D_100.on x20
  have E_107 := E_101.on x20
  have B108 := B102.trans (x20.mono B102.size)
  clear A_97 B_98 C_99 D_100 E_101 B102 x20
  go_wp2_with fail
  refine (co8 _ (ht.on B108)).mono ?_; rintro e w21 ⟨rfl, x21⟩
  have A_109 := A_103.on x21
  have B_110 := B_104.on x21
  have C_111 := C_105.on x21
  have D_112 := D_106.on x21
  have E_113 := E_107.on x21
  have B114 := B108.trans (x21.mono B108.size)
  clear A_103 B_104 C_105 D_106 E_107 B108 x21
  have A_115 := A_109.past (o := (.cells #[.int .u8 0, .int .u32 0, .int .u16 0, .int .u32 0, .int .u16 0, .int .i64 0, .int .u8 0, .bool false, .int .u8 0] 31))
  have B_116 := B_110.past (o := (.cells #[.int .u8 0, .int .u32 0, .int .u16 0, .int .u32 0, .int .u16 0, .int .i64 0, .int .u8 0, .bool false, .int .u8 0] 31))
  have C_117 := C_111.past (o := (.cells #[.int .u8 0, .int .u32 0, .int .u16 0, .int .u32 0, .int .u16 0, .int .i64 0, .int .u8 0, .bool false, .int .u8 0] 31))
  have D_118 := D_112.past (o := (.cells #[.int .u8 0, .int .u32 0, .int .u16 0, .int .u32 0, .int .u16 0, .int .i64 0, .int .u8 0, .bool false, .int .u8 0] 31))
  have E_119 := E_113.past (o := (.cells #[.int .u8 0, .int .u32 0, .int .u16 0, .int .u32 0, .int .u16 0, .int .i64 0, .int .u8 0, .bool false, .int .u8 0] 31))
  have B120 := B114.alloc B114.size (.cells #[.int .u8 0, .int .u32 0, .int .u16 0, .int .u32 0, .int .u16 0, .int .i64 0, .int .u8 0, .bool false, .int .u8 0] 31)
  clear A_109 B_110 C_111 D_112 E_113 B114
  clear cm8 co8
  go_wp2_with fail
  refine (co9 _ (ht.on B120)).mono ?_; rintro e w22 ⟨rfl, x22⟩
  have A_121 := A_115.on x22
  have B_122 := B_116.on x22
  have C_123 := C_117.on x22
  have D_124 := D_118.on x22
  have E_125 := E_119.on x22
  have B126 := B120.trans (x22.mono B120.size)
  clear A_115 B_116 C_117 D_118 E_119 B120 x22
  have A_127 := A_121.past (o := (.cells #[.int .u8 0, .int .u32 0, .int .u16 0, .int .u32 0, .int .u16 0] 29))
  have B_128 := B_122.past (o := (.cells #[.int .u8 0, .int .u32 0, .int .u16 0, .int .u32 0, .int .u16 0] 29))
  have C_129 := C_123.past (o := (.cells #[.int .u8 0, .int .u32 0, .int .u16 0, .int .u32 0, .int .u16 0] 29))
  have D_130 := D_124.past (o := (.cells #[.int .u8 0, .int .u32 0, .int .u16 0, .int .u32 0, .int .u16 0] 29))
  have E_131 := E_125.past (o := (.cells #[.int .u8 0, .int .u32 0, .int .u16 0, .int .u32 0, .int .u16 0] 29))
  have B132 := B126.alloc B126.size (.cells #[.int .u8 0, .int .u32 0, .int .u16 0, .int .u32 0, .int .u16 0] 29)
  clear A_121 B_122 C_123 D_124 E_125 B126
  clear co9
  go_wp2_with fail
  refine (co10 _ (ht.on B132)).mono ?_; rintro e w23 ⟨rfl, x23⟩
  have A_133 := A_127.on x23
  have B_134 := B_128.on x23
  have C_135 := C_129.on x23
  have D_136 := D_130.on x23
  have E_137 := E_131.on x23
  have B138 := B132.trans (x23.mono B132.size)
  clear A_127 B_128 C_129 D_130 E_131 B132 x23
  have A_139 := A_133.past (o := (.cells #[.int .u8 0, .int .u32 0, .int .u16 0, .int .u32 0, .int .u16 0] 29))
  have B_140 := B_134.past (o := (.cells #[.int .u8 0, .int .u32 0, .int .u16 0, .int .u32 0, .int .u16 0] 29))
  have C_141 := C_135.past (o := (.cells #[.int .u8 0, .int .u32 0, .int .u16 0, .int .u32 0, .int .u16 0] 29))
  have D_142 := D_136.past (o := (.cells #[.int .u8 0, .int .u32 0, .int .u16 0, .int .u32 0, .int .u16 0] 29))
  have E_143 := E_137.past (o := (.cells #[.int .u8 0, .int .u32 0, .int .u16 0, .int .u32 0, .int .u16 0] 29))
  have B144 := B138.alloc B138.size (.cells #[.int .u8 0, .int .u32 0, .int .u16 0, .int .u32 0, .int .u16 0] 29)
  clear A_133 B_134 C_135 D_136 E_137 B138
  clear co10
  go_wp2_with fail
  obtain ⟨u24, hu24⟩ : ∃ x, x = w23.alloc (.cells #[.int .u8 0, .int .u32 0, .int .u16 0, .int .u32 0, .int .u16 0] 29) := ⟨_, rfl⟩
  rw [← hu24] at A_139 B_140 C_141 D_142 E_143 B144 ⊢
  clear hu24
  have HT := ht.on B144
  obtain ⟨za, ga0, ga1, ga2, ga3, ga4, ga5, ga6, ga7, ga8⟩ := id A_139
  have Fa0 : ∀ x : Later u24.heap.size u24, x.u.cell? ⟨w3.heap.size, 0, none⟩ = some (.int .u8 17) := fun x => x.block za ga0
  have Fa1 : ∀ x : Later u24.heap.size u24, x.u.cell? ⟨w3.heap.size, 1, none⟩ = some (.int .u32 167772161) := fun x => x.block za ga1
  have Fa2 : ∀ x : Later u24.heap.size u24, x.u.cell? ⟨w3.heap.size, 2, none⟩ = some (.int .u16 5) := fun x => x.block za ga2
  have Fa3 : ∀ x : Later u24.heap.size u24, x.u.cell? ⟨w3.heap.size, 3, none⟩ = some (.int .u32 16909060) := fun x => x.block za ga3
  have Fa4 : ∀ x : Later u24.heap.size u24, x.u.cell? ⟨w3.heap.size, 4, none⟩ = some (.int .u16 53) := fun x => x.block za ga4
  have Fa5 : ∀ x : Later u24.heap.size u24, x.u.cell? ⟨w3.heap.size, 5, none⟩ = some (.int .i64 2) := fun x => x.block za ga5
  clear ga0 ga1 ga2 ga3 ga4 ga5 ga6 ga7 ga8
  obtain ⟨zb, gb0, gb1, gb2, gb3, gb4, gb5, gb6, gb7, gb8⟩ := id B_140
  have Fb5 : ∀ x : Later u24.heap.size u24, x.u.cell? ⟨w6.heap.size, 5, none⟩ = some (.int .i64 1) := fun x => x.block zb gb5
  clear gb0 gb1 gb2 gb3 gb4 gb5 gb6 gb7 gb8
  obtain ⟨zc, gc0, gc1, gc2, gc3, gc4, gc5, gc6, gc7, gc8⟩ := id C_141
  have Fc5 : ∀ x : Later u24.heap.size u24, x.u.cell? ⟨w9.heap.size, 5, none⟩ = some (.int .i64 2) := fun x => x.block zc gc5
  have Fc6 : ∀ x : Later u24.heap.size u24, x.u.cell? ⟨w9.heap.size, 6, none⟩ = some (.int .u8 18) := fun x => x.block zc gc6
  clear gc0 gc1 gc2 gc3 gc4 gc5 gc6 gc7 gc8
  obtain ⟨zd, gd0, gd1, gd2, gd3, gd4, gd5, gd6, gd7, gd8⟩ := id D_142
  have Fd0 : ∀ x : Later u24.heap.size u24, x.u.cell? ⟨w12.heap.size, 0, none⟩ = some (.int .u8 1) := fun x => x.block zd gd0
  have Fd1 : ∀ x : Later u24.heap.size u24, x.u.cell? ⟨w12.heap.size, 1, none⟩ = some (.int .u32 167772161) := fun x => x.block zd gd1
  have Fd2 : ∀ x : Later u24.heap.size u24, x.u.cell? ⟨w12.heap.size, 2, none⟩ = some (.int .u16 7) := fun x => x.block zd gd2
  have Fd3 : ∀ x : Later u24.heap.size u24, x.u.cell? ⟨w12.heap.size, 3, none⟩ = some (.int .u32 16909060) := fun x => x.block zd gd3
  have Fd4 : ∀ x : Later u24.heap.size u24, x.u.cell? ⟨w12.heap.size, 4, none⟩ = some (.int .u16 0) := fun x => x.block zd gd4
  have Fd7 : ∀ x : Later u24.heap.size u24, x.u.cell? ⟨w12.heap.size, 7, none⟩ = some (.bool true) := fun x => x.block zd gd7
  clear gd0 gd1 gd2 gd3 gd4 gd5 gd6 gd7 gd8
  obtain ⟨ze, ge0, ge1, ge2, ge3, ge4, ge5, ge6, ge7, ge8⟩ := id E_143
  have Fe0 : ∀ x : Later u24.heap.size u24, x.u.cell? ⟨w15.heap.size, 0, none⟩ = some (.int .u8 1) := fun x => x.block ze ge0
  have Fe1 : ∀ x : Later u24.heap.size u24, x.u.cell? ⟨w15.heap.size, 1, none⟩ = some (.int .u32 167772161) := fun x => x.block ze ge1
  have Fe2 : ∀ x : Later u24.heap.size u24, x.u.cell? ⟨w15.heap.size, 2, none⟩ = some (.int .u16 0) := fun x => x.block ze ge2
  have Fe3 : ∀ x : Later u24.heap.size u24, x.u.cell? ⟨w15.heap.size, 3, none⟩ = some (.int .u32 16909060) := fun x => x.block ze ge3
  have Fe4 : ∀ x : Later u24.heap.size u24, x.u.cell? ⟨w15.heap.size, 4, none⟩ = some (.int .u16 7) := fun x => x.block ze ge4
  have Fe7 : ∀ x : Later u24.heap.size u24, x.u.cell? ⟨w15.heap.size, 7, none⟩ = some (.bool false) := fun x => x.block ze ge7
  have Fe8 : ∀ x : Later u24.heap.size u24, x.u.cell? ⟨w15.heap.size, 8, none⟩ = some (.int .u8 64) := fun x => x.block ze ge8
  clear ge0 ge1 ge2 ge3 ge4 ge5 ge6 ge7 ge8
  refine region_later (B := u24.heap.size) (by kernel_rfl) (by kernel_rfl) ?_
  repeat (go_big_quiet_step (first
    | (go_at_call 12; exact later_of _ (Nat.le_refl _) (ct _ (HT.on (Later.h _))))
    | (go_at_call 14; exact later_of _ (Nat.le_refl _) (one_ _ _ _ _))))
  refine later_end fun w25 x25 => ?_
  have A_145 := A_139.on x25
  have B_146 := B_140.on x25
  have C_147 := C_141.on x25
  have D_148 := D_142.on x25
  have E_149 := E_143.on x25
  have B150 := B144.trans (x25.mono B144.size)
  clear Fa0 Fa1 Fa2 Fa3 Fa4 Fa5 za Fb5 zb Fc5 Fc6 zc Fd0 Fd1 Fd2 Fd3 Fd4 Fd7 zd Fe0 Fe1 Fe2 Fe3 Fe4 Fe7 Fe8 ze A_139 B_140 C_141 D_142 E_143 B144 x25
  go_wp2
  go_ret
  exact ⟨rfl, B150⟩
end Go.Proofs.YtidkgnanfhdhdaaDoor
