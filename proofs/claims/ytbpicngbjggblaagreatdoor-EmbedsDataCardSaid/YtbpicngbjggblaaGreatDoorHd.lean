/- Texts of this proof, together: EmbNB, EmbNO, Beside, EmbNL, EmbNA, EmbNZ. -/
import Derived.Test.YtbpicngbjggblaaGreatDoorGa
import Derived.Test.YtbpicngbjggblaaGreatDoorGs
import Derived.Test.YtbpicngbjggblaaGreatDoorGt
import Derived.Test.YtbpicngbjggblaaGreatDoorGl
import Derived.Test.YtbpicngbjggblaaGreatDoorGc
import Derived.Test.YtbpicngbjggblaaGreatDoorGf
import Derived.Test.YtbpicngbjggblaaGreatDoorGz
import Derived.Test.YtbpicngbjggblaaGreatDoorTake
import Derived.Test.YtbpicngbjggblaaGreatDoorGb
import Derived.Test.YtbpicngbjggblaaGreatDoorGj
import Derived.BigRegion
import Derived.Deep.DeepCutAuto
import Derived.Deep.RegionHeld3
import Derived.Deep.DrawnRows
namespace Go.Proofs.YtbpicngbjggblaaGreatDoor
set_option maxHeartbeats 4000000
set_option maxRecDepth 100000
set_option linter.unusedVariables false
set_option linter.unusedSimpArgs false
open Go.ChangeShapes Go.WideShapes Go.ChangeAt Go.RowKit Go.PlainAid
attribute [local go_sem ↓] Go.wp_at_zero Go.wp_at_succ
theorem emGet16_ (D : ByteArray) (i : Int) (hz : D.size ≤ 1000000) (w : World) :
    Cw_ 64 #[.string D, .int .i64 i] (.int .u16 (v16 D i)) w := by
  have c := fun u => get16_any D i u (by unfold maxLen; omega)
  generalize v16 D i = R at *
  generalize okAt D i 2 = y at *
  clear hz
  go_enter Tryz.func64, Tryz.ntmps64
  have B1 := Below.refl w.heap.size w
  go_wp2_with fail
  refine (c _).mono ?_; rintro e w1 ⟨rfl, x1⟩
  have B2 := B1.trans (x1.mono B1.size)
  clear B1 x1
  go_wp2
  go_ret
  exact ⟨rfl, B2⟩
theorem emAddress_ (D : ByteArray) (i : Int) (hz : D.size ≤ 1000000) (w : World) :
    Cw_ 66 #[.string D, .int .i64 i] (.int .u32 (v32 D i)) w := by
  have c := fun u => get32_any D i u (by unfold maxLen; omega)
  generalize v32 D i = R at *
  generalize okAt D i 4 = y at *
  clear hz
  go_enter Tryz.func66, Tryz.ntmps66
  have B1 := Below.refl w.heap.size w
  go_wp2_with fail
  refine (c _).mono ?_; rintro e w1 ⟨rfl, x1⟩
  have B2 := B1.trans (x1.mono B1.size)
  clear B1 x1
  go_wp2
  go_ret
  exact ⟨rfl, B2⟩
theorem v32_atN {s : ByteArray} {i : Int} {k : Nat} (hi : i = (k : Int)) (h : k + 4 ≤ s.size) : v32 s i = g32 s k := by
  subst hi
  have e : okAt s k 4 = true := okAt_yes (m := 4) (by omega)
  unfold v32
  rw [if_pos e, Int.toNat_natCast]
theorem emWord_ (D : ByteArray) (i : Int) (k : Nat) (w : World) (hi : i = (k : Int)) (hz : D.size ≤ 1000000) (h : k + 2 ≤ D.size) :
    Cw_ 64 #[.string D, .int .i64 i] (.int .u16 (g16 D k)) w := by
  have c := emGet16_ D i hz w
  rw [v16_at hi h] at c
  exact c
theorem emAddr_ (D : ByteArray) (i : Int) (k : Nat) (w : World) (hi : i = (k : Int)) (hz : D.size ≤ 1000000) (h : k + 4 ≤ D.size) :
    Cw_ 66 #[.string D, .int .i64 i] (.int .u32 (g32 D k)) w := by
  have c := emAddress_ D i hz w
  rw [v32_atN hi h] at c
  exact c
theorem emByte_ (D : ByteArray) (i : Int) (k : Nat) (hi : i = (k : Int)) (hz : D.size ≤ 1000000) (h : k < D.size) (w : World) :
    Cw_ 65 #[.string D, .int .i64 i] (.int .u8 (bt D k)) w := by
  subst hi
  have hb := get_bt D
  have i0 : (k : Int) < (D.size : Int) := by omega
  clear hz
  go_enter Tryz.func65, Tryz.ntmps65
  have B1 := Below.refl w.heap.size w
  go_wp2
  go_ret
  exact ⟨rfl, B1⟩
theorem emHas_ (D : ByteArray) (i r : Int) (er : wrap64 ((D.size : Int) - 2) = r) (w : World) :
    Cw_ 128 #[.string D, .int .i64 i, .int .i64 2] (.bool (decide (i ≤ r))) w := by
  go_enter Tryz.func128, Tryz.ntmps128
  have B1 := Below.refl w.heap.size w
  go_wp2
  go_ret
  exact ⟨rfl, B1⟩
theorem emEven_v (D R : ByteArray) (z : (D.size : Int) ≤ 1000000) (hR : D.extract 0 (D.size - D.size % 2) = R) (w : World) :
    Cw_ 35 #[.string D] (.string R) w := by
  go_enter Tryz.func35, Tryz.ntmps35
  have B1 := Below.refl w.heap.size w
  go_wp2
  go_ret
  rw [hR]
  exact ⟨rfl, B1⟩
theorem emAddrs_v (a m b n : Int) (S1 S2 : ByteArray) (z : S1.size + S2.size ≤ 9223372036854775807) (c1 : Cb_ 125 #[.int .u32 a] (.string S1)) (c2 : Cb_ 125 #[.int .u32 b] (.string S2)) (w : World) :
    Cw_ 74 #[.agg #[.int .u32 a, .int .u16 m], .agg #[.int .u32 b, .int .u16 n]] (.string (S1 ++ S2)) w := by
  go_enter Tryz.func74, Tryz.ntmps74
  have B1 := Below.refl w.heap.size w
  go_wp2_with fail
  have A_2 := Box2.make w (.int .u32 a) (.int .u16 m) 26
  have B3 := B1.alloc B1.size (.cells #[.int .u32 a, .int .u16 m] 26)
  clear B1
  have al := alO_ B3 (.cells #[.int .u32 b, .int .u16 n] 26)
  have A_4 := A_2.on al
  have hs_ : (w.alloc (.cells #[.int .u32 a, .int .u16 m] 26)).heap.size = w.heap.size + 1 := by simp
  have C_5 := Box2.make (w.alloc (.cells #[.int .u32 a, .int .u16 m] 26)) (.int .u32 b) (.int .u16 n) 26
  rw [hs_] at C_5
  clear hs_
  have B6 := B3.trans (al.mono B3.size)
  clear al
  clear A_2 B3
  obtain ⟨u1, hu1⟩ : ∃ x, x = (w.alloc (.cells #[.int .u32 a, .int .u16 m] 26)).alloc (.cells #[.int .u32 b, .int .u16 n] 26) := ⟨_, rfl⟩
  rw [← hu1] at A_4 C_5 B6 ⊢
  clear hu1
  obtain ⟨za, ga0, ga1⟩ := id A_4
  have Fa0 := lat_ ga0 za
  have Fa1 := lat_ ga1 za
  clear ga0 ga1
  obtain ⟨zc, gc0, gc1⟩ := id C_5
  have Fc0 := lat_ gc0 zc
  have Fc1 := lat_ gc1 zc
  clear gc0 gc1
  refine region_later (B := u1.heap.size) (by kernel_rfl) (by kernel_rfl) ?_
  repeat (go_big_quiet_step (first
    | (go_at_call_of 125 a; exact later_of _ (Nat.le_refl _) (c1 _))
    | (go_at_call_of 125 b; exact later_of _ (Nat.le_refl _) (c2 _))))
  refine later_end fun w2 x2 => ?_
  have A_7 := A_4.on x2
  have C_8 := C_5.on x2
  have B9 := B6.trans (x2.mono B6.size)
  clear Fa0 Fa1 za Fc0 Fc1 zc A_4 C_5 B6 x2
  go_wp2
  go_ret
  exact ⟨rfl, B9⟩
theorem emPorts_v (a m b n : Int) (WD : ByteArray) (cw : ∀ (u : World) (j : Nat), j < u.heap.size → u.cell? ⟨j, 0, none⟩ = some (.int .u16 m) → u.cell? ⟨j, 1, none⟩ = some (.int .u16 n) → Calls Tryz.prog 81 #[.slice (some ⟨j, 0, none⟩) 2 2] u fun e w' => e = .returned (.string WD) ∧ Below u.heap.size u w') (w : World) :
    Cw_ 127 #[.agg #[.int .u32 a, .int .u16 m], .agg #[.int .u32 b, .int .u16 n]] (.string WD) w := by
  go_enter Tryz.func127, Tryz.ntmps127
  have B1 := Below.refl w.heap.size w
  go_wp2_with fail
  have A_2 := Box2.make w (.int .u32 a) (.int .u16 m) 26
  have B3 := B1.alloc B1.size (.cells #[.int .u32 a, .int .u16 m] 26)
  clear B1
  have al := alO_ B3 (.cells #[.int .u32 b, .int .u16 n] 26)
  have A_4 := A_2.on al
  have hs_ : (w.alloc (.cells #[.int .u32 a, .int .u16 m] 26)).heap.size = w.heap.size + 1 := by simp
  have C_5 := Box2.make (w.alloc (.cells #[.int .u32 a, .int .u16 m] 26)) (.int .u32 b) (.int .u16 n) 26
  rw [hs_] at C_5
  clear hs_
  have B6 := B3.trans (al.mono B3.size)
  clear al
  clear A_2 B3
  obtain ⟨_, a1_0, a1_1⟩ := id A_4
  obtain ⟨_, c2_0, c2_1⟩ := id C_5
  go_wp2_with fail
  clear a1_0 a1_1 c2_0 c2_1
  clear A_4 C_5
  have B7 := B6.alloc B6.size (.cells #[.int .u16 m, .int .u16 n] 24)
  clear B6
  refine (cw _ _ (by simp) (by simp [go_sem]) (by simp [go_sem])).mono ?_; rintro e w1 ⟨rfl, x1⟩
  have B8 := B7.trans (x1.mono B7.size)
  clear B7 x1
  go_wp2
  go_ret
  exact ⟨rfl, B8⟩
theorem emQuery_v (D : ByteArray) (o : Nat) (o60 : o ≤ 60) (b0 b1 : Int) (qa qi : Bool) (c0 : Cb_ 65 #[.string D, .int .i64 (o : Int)] (.int .u8 b0)) (c1 : Cb_ 65 #[.string D, .int .i64 ((o : Int) + 1)] (.int .u8 b1)) (cq : Cb_ 18 #[.agg #[.int .u8 b0, .int .u8 b1, .int .u16 0, .string ⟨#[]⟩, .string ⟨#[]⟩]] (.tuple #[.bool qa, .bool qi])) (w : World) :
    Cw_ 67 #[.agg #[.string D, .int .i64 (o : Int)]] (.tuple #[.bool qa, .bool qi]) w := by
  go_enter Tryz.func67, Tryz.ntmps67
  have B1 := Below.refl w.heap.size w
  go_wp2_with fail
  have P_2 := Box2.make w (.string D) (.int .i64 (o : Int)) 77
  have B3 := B1.alloc B1.size (.cells #[.string D, .int .i64 (o : Int)] 77)
  clear B1
  obtain ⟨u1, hu1⟩ : ∃ x, x = w.alloc (.cells #[.string D, .int .i64 (o : Int)] 77) := ⟨_, rfl⟩
  rw [← hu1] at P_2 B3 ⊢
  clear hu1
  obtain ⟨zp, gp0, gp1⟩ := id P_2
  have Fp0 := lat_ gp0 zp
  have Fp1 := lat_ gp1 zp
  clear gp0 gp1
  refine region_later (B := u1.heap.size) (by kernel_rfl) (by kernel_rfl) ?_
  repeat (go_big_quiet_step (first
    | (go_at_call 65; with_reducible exact later_of _ (Nat.le_refl _) (c0 _))
    | (go_at_call 65; with_reducible exact later_of _ (Nat.le_refl _) (c1 _))
    | (go_at_call 18; exact later_of _ (Nat.le_refl _) (cq _))))
  refine later_end fun w2 x2 => ?_
  have P_4 := P_2.on x2
  have B5 := B3.trans (x2.mono B3.size)
  clear Fp0 Fp1 zp P_2 B3 x2
  go_wp2
  go_ret2
  exact ⟨rfl, B5⟩
theorem emEven_ (D : ByteArray) (w : World) (hz : D.size ≤ 1000000) :
    Calls Tryz.prog 35 #[.string D] w fun e w' => e = .returned (.string (evB D)) ∧ Below w.heap.size w w' :=
  emEven_v D _ (by omega) (show D.extract 0 (D.size - D.size % 2) = evB D by unfold evB; rw [show D.size - D.size % 2 = 2 * (D.size / 2) by omega]) w
theorem emAddrs_ (a m b n : Int) (hc : okC a 0 b 0) (w : World) :
    Cw_ 74 #[.agg #[.int .u32 a, .int .u16 m], .agg #[.int .u32 b, .int .u16 n]] (.string (strOfNums (wordL (adW a b)))) w := by
  obtain ⟨h0, h1, _, _, h4, h5, _, _⟩ := hc
  have z1 : (strOfNums (wordL [a / 65536, a % 65536])).size = 4 := by rw [size_W]; rfl
  have z2 : (strOfNums (wordL [b / 65536, b % 65536])).size = 4 := by rw [size_W]; rfl
  rw [show strOfNums (wordL (adW a b)) = strOfNums (wordL [a / 65536, a % 65536]) ++ strOfNums (wordL [b / 65536, b % 65536]) by rw [strOfNums_append, ← wordL_append]; rfl]
  exact emAddrs_v a m b n _ _ (by omega) (fun u => put32 a u h0 h1) (fun u => put32 b u h4 h5) w
theorem emPorts_ (a m b n : Int) (m0 : 0 ≤ m) (m1 : m ≤ 65535) (n0 : 0 ≤ n) (n1 : n ≤ 65535) (w : World) :
    Calls Tryz.prog 127 #[.agg #[.int .u32 a, .int .u16 m], .agg #[.int .u32 b, .int .u16 n]] w fun e w' => e = .returned (.string (strOfNums (wordL [m, n]))) ∧ Below w.heap.size w w' :=
  emPorts_v a m b n _ (fun u j hj q0 q1 => word_any _ 2 2 [m, n] u (row2 hj q0 q1) (by omega) (two_wf m0 m1 n0 n1)) w
theorem emQuery_ (D : ByteArray) (o : Nat) (h : o + 2 ≤ D.size) (o60 : o ≤ 60) (hz : D.size ≤ 1000000) (w : World) :
    Calls Tryz.prog 67 #[.agg #[.string D, .int .i64 (o : Int)]] w fun e w' => e = .returned (.tuple #[.bool (qAsk (bt D o) (bt D (o + 1))), .bool (qIs (bt D o) (bt D (o + 1)))]) ∧ Below w.heap.size w w' :=
  emQuery_v D o o60 _ _ _ _ (fun u => emByte_ D _ o rfl hz (by omega) u) (fun u => emByte_ D _ (o + 1) (by omega) hz (by omega) u) (fun u => icmpQuery_ _ _ _ _ _ u (bt_nonneg _ _) (bt_le _ _) (bt_nonneg _ _) (bt_le _ _)) w
theorem emOpen_short (D : ByteArray) (e1 : decide (D.size < 20) = true) (e2 : decide ((D.size : Int) < 20) = true) (w : World) :
    Cw_ 29 #[.string D] (.tuple #[.agg #[.string ⟨#[]⟩, .int .i64 0], .bool false]) w := by
  have hb := get_bt D
  have b0 := bt_nonneg D 0
  have b1 := bt_le D 0
  go_enter Tryz.func29, Tryz.ntmps29
  have B1 := Below.refl w.heap.size w
  go_upto_region 1 with fail
  have R_2 := Box2.make w (.string ⟨#[]⟩) (.int .i64 0) 77
  have B3 := B1.alloc B1.size (.cells #[.string ⟨#[]⟩, .int .i64 0] 77)
  clear B1
  have fzR_4 : ∀ i, (w.alloc (.cells #[.string ⟨#[]⟩, .int .i64 0] 77)).frozen? ⟨w.heap.size, i, none⟩ = false := by intro i; simp [go_sem]
  obtain ⟨u1, hu1⟩ : ∃ x, x = w.alloc (.cells #[.string ⟨#[]⟩, .int .i64 0] 77) := ⟨_, rfl⟩
  rw [← hu1] at R_2 fzR_4 B3 ⊢
  clear hu1
  obtain ⟨_, r1_0, r1_1⟩ := id R_2
  go_wp2
  refine box2_ (b := w.heap.size) R_2.some B3 (Nat.le_refl _) fun Z x0 x1 BZ _ _ => ?_
  refine bodyPost_ret (v := .tuple #[.agg #[.string ⟨#[]⟩, .int .i64 0], .bool false]) (by simp [results, Tryz.results29, go_sem, x0, x1]) rfl ?_
  exact ⟨rfl, BZ⟩
theorem emOpen_ver (D : ByteArray) (e1 : decide (D.size < 20) = false) (e2 : decide ((D.size : Int) < 20) = false) (i0 : (0 : Int) < (D.size : Int)) (e3 : (bt D 0 / 16 == 4) = false) (e4 : (bt D 0 / 16 != 4) = true) (w : World) :
    Cw_ 29 #[.string D] (.tuple #[.agg #[.string ⟨#[]⟩, .int .i64 0], .bool false]) w := by
  have hb := get_bt D
  have b0 := bt_nonneg D 0
  have b1 := bt_le D 0
  go_enter Tryz.func29, Tryz.ntmps29
  have B1 := Below.refl w.heap.size w
  go_upto_region 1 with fail
  have R_2 := Box2.make w (.string ⟨#[]⟩) (.int .i64 0) 77
  have B3 := B1.alloc B1.size (.cells #[.string ⟨#[]⟩, .int .i64 0] 77)
  clear B1
  have fzR_4 : ∀ i, (w.alloc (.cells #[.string ⟨#[]⟩, .int .i64 0] 77)).frozen? ⟨w.heap.size, i, none⟩ = false := by intro i; simp [go_sem]
  obtain ⟨u1, hu1⟩ : ∃ x, x = w.alloc (.cells #[.string ⟨#[]⟩, .int .i64 0] 77) := ⟨_, rfl⟩
  rw [← hu1] at R_2 fzR_4 B3 ⊢
  clear hu1
  obtain ⟨_, r1_0, r1_1⟩ := id R_2
  go_wp2
  refine box2_ (b := w.heap.size) R_2.some B3 (Nat.le_refl _) fun Z x0 x1 BZ _ _ => ?_
  refine bodyPost_ret (v := .tuple #[.agg #[.string ⟨#[]⟩, .int .i64 0], .bool false]) (by simp [results, Tryz.results29, go_sem, x0, x1]) rfl ?_
  exact ⟨rfl, BZ⟩
theorem emOpen_low (D : ByteArray) (e1 : decide (D.size < 20) = false) (e2 : decide ((D.size : Int) < 20) = false) (i0 : (0 : Int) < (D.size : Int)) (e3 : (bt D 0 / 16 == 4) = true) (e4 : (bt D 0 / 16 != 4) = false) (ea : bits .and .u8 (bt D 0) 15 = bt D 0 % 16) (o : Nat) (e5 : bt D 0 % 16 * 4 = (o : Int)) (o60 : o ≤ 60) (e6 : decide (o < 20) = true) (e7 : decide ((o : Int) < 20) = true) (w : World) :
    Cw_ 29 #[.string D] (.tuple #[.agg #[.string ⟨#[]⟩, .int .i64 0], .bool false]) w := by
  have hb := get_bt D
  have b0 := bt_nonneg D 0
  have b1 := bt_le D 0
  go_enter Tryz.func29, Tryz.ntmps29
  have B1 := Below.refl w.heap.size w
  go_upto_region 1 with fail
  have R_2 := Box2.make w (.string ⟨#[]⟩) (.int .i64 0) 77
  have B3 := B1.alloc B1.size (.cells #[.string ⟨#[]⟩, .int .i64 0] 77)
  clear B1
  have fzR_4 : ∀ i, (w.alloc (.cells #[.string ⟨#[]⟩, .int .i64 0] 77)).frozen? ⟨w.heap.size, i, none⟩ = false := by intro i; simp [go_sem]
  obtain ⟨u1, hu1⟩ : ∃ x, x = w.alloc (.cells #[.string ⟨#[]⟩, .int .i64 0] 77) := ⟨_, rfl⟩
  rw [← hu1] at R_2 fzR_4 B3 ⊢
  clear hu1
  obtain ⟨_, r1_0, r1_1⟩ := id R_2
  go_wp2
  refine box2_ (b := w.heap.size) R_2.some B3 (Nat.le_refl _) fun Z x0 x1 BZ _ _ => ?_
  refine bodyPost_ret (v := .tuple #[.agg #[.string ⟨#[]⟩, .int .i64 0], .bool false]) (by simp [results, Tryz.results29, go_sem, x0, x1]) rfl ?_
  exact ⟨rfl, BZ⟩
theorem emOpen_few (D : ByteArray) (e1 : decide (D.size < 20) = false) (e2 : decide ((D.size : Int) < 20) = false) (i0 : (0 : Int) < (D.size : Int)) (e3 : (bt D 0 / 16 == 4) = true) (e4 : (bt D 0 / 16 != 4) = false) (ea : bits .and .u8 (bt D 0) 15 = bt D 0 % 16) (o : Nat) (e5 : bt D 0 % 16 * 4 = (o : Int)) (o60 : o ≤ 60) (e6 : decide (o < 20) = false) (e7 : decide ((o : Int) < 20) = false) (r : Int) (er : wrap64 ((D.size : Int) - 8) = r) (e8 : decide (r < (o : Int)) = true) (w : World) :
    Cw_ 29 #[.string D] (.tuple #[.agg #[.string ⟨#[]⟩, .int .i64 0], .bool false]) w := by
  have hb := get_bt D
  have b0 := bt_nonneg D 0
  have b1 := bt_le D 0
  go_enter Tryz.func29, Tryz.ntmps29
  have B1 := Below.refl w.heap.size w
  go_upto_region 1 with fail
  have R_2 := Box2.make w (.string ⟨#[]⟩) (.int .i64 0) 77
  have B3 := B1.alloc B1.size (.cells #[.string ⟨#[]⟩, .int .i64 0] 77)
  clear B1
  have fzR_4 : ∀ i, (w.alloc (.cells #[.string ⟨#[]⟩, .int .i64 0] 77)).frozen? ⟨w.heap.size, i, none⟩ = false := by intro i; simp [go_sem]
  obtain ⟨u1, hu1⟩ : ∃ x, x = w.alloc (.cells #[.string ⟨#[]⟩, .int .i64 0] 77) := ⟨_, rfl⟩
  rw [← hu1] at R_2 fzR_4 B3 ⊢
  clear hu1
  obtain ⟨_, r1_0, r1_1⟩ := id R_2
  go_wp2
  refine box2_ (b := w.heap.size) R_2.some B3 (Nat.le_refl _) fun Z x0 x1 BZ _ _ => ?_
  refine bodyPost_ret (v := .tuple #[.agg #[.string ⟨#[]⟩, .int .i64 0], .bool false]) (by simp [results, Tryz.results29, go_sem, x0, x1]) rfl ?_
  exact ⟨rfl, BZ⟩
theorem emOpen_piece (D : ByteArray) (e1 : decide (D.size < 20) = false) (e2 : decide ((D.size : Int) < 20) = false) (i0 : (0 : Int) < (D.size : Int)) (e3 : (bt D 0 / 16 == 4) = true) (e4 : (bt D 0 / 16 != 4) = false) (ea : bits .and .u8 (bt D 0) 15 = bt D 0 % 16) (o : Nat) (e5 : bt D 0 % 16 * 4 = (o : Int)) (o60 : o ≤ 60) (e6 : decide (o < 20) = false) (e7 : decide ((o : Int) < 20) = false) (r : Int) (er : wrap64 ((D.size : Int) - 8) = r) (e8 : decide (r < (o : Int)) = false) (q k : Int) (em : bits .and .u16 q 8191 = k) (cw : Cb_ 64 #[.string D, .int .i64 6] (.int .u16 q)) (en : (k != 0) = true) (w : World) :
    Cw_ 29 #[.string D] (.tuple #[.agg #[.string ⟨#[]⟩, .int .i64 0], .bool false]) w := by
  have hb := get_bt D
  have b0 := bt_nonneg D 0
  have b1 := bt_le D 0
  go_enter Tryz.func29, Tryz.ntmps29
  have B1 := Below.refl w.heap.size w
  go_upto_region 1 with fail
  have R_2 := Box2.make w (.string ⟨#[]⟩) (.int .i64 0) 77
  have B3 := B1.alloc B1.size (.cells #[.string ⟨#[]⟩, .int .i64 0] 77)
  clear B1
  have fzR_4 : ∀ i, (w.alloc (.cells #[.string ⟨#[]⟩, .int .i64 0] 77)).frozen? ⟨w.heap.size, i, none⟩ = false := by intro i; simp [go_sem]
  obtain ⟨u1, hu1⟩ : ∃ x, x = w.alloc (.cells #[.string ⟨#[]⟩, .int .i64 0] 77) := ⟨_, rfl⟩
  rw [← hu1] at R_2 fzR_4 B3 ⊢
  clear hu1
  obtain ⟨_, r1_0, r1_1⟩ := id R_2
  go_upto_region 7 with fail
  clear r1_0 r1_1
  obtain ⟨_, r2_0, r2_1⟩ := id R_2
  have B5 := ((B3.setCell (p := ⟨w.heap.size, 0, none⟩) (Nat.le_refl _) (.string D)).setCell (p := ⟨w.heap.size, 1, none⟩) (Nat.le_refl _) (.int .i64 (o : Int)))
  have R_6 : Box2 ((u1.setCell ⟨w.heap.size, 0, none⟩ (.string D)).setCell ⟨w.heap.size, 1, none⟩ (.int .i64 (o : Int))) w.heap.size (.string D) (.int .i64 (o : Int)) := ⟨by have := R_2.1; simpa using this, by simp [go_sem, r2_0, r2_1]⟩
  have fzR_7 : ∀ i, ((u1.setCell ⟨w.heap.size, 0, none⟩ (.string D)).setCell ⟨w.heap.size, 1, none⟩ (.int .i64 (o : Int))).frozen? ⟨w.heap.size, i, none⟩ = false := by intro i; simp [fzR_4]
  clear r2_0 r2_1 R_2 fzR_4 B3
  obtain ⟨u2, hu2⟩ : ∃ x, x = ((u1.setCell ⟨w.heap.size, 0, none⟩ (.string D)).setCell ⟨w.heap.size, 1, none⟩ (.int .i64 (o : Int))) := ⟨_, rfl⟩
  rw [← hu2] at R_6 fzR_7 B5 ⊢
  clear hu2
  obtain ⟨_, r3_0, r3_1⟩ := id R_6
  go_wp2_with fail
  refine (cw _).mono ?_; rintro e w3 ⟨rfl, x3⟩
  have fzR_8 := fzB_ x3 R_6.1 fzR_7
  clear fzR_7
  have R_9 := R_6.on x3
  have B10 := B5.trans (x3.mono B5.size)
  clear r3_0 r3_1 R_6 B5 x3
  obtain ⟨_, r4_0, r4_1⟩ := id R_9
  go_wp2
  refine box2_ (b := w.heap.size) R_9.some B10 (Nat.le_refl _) fun Z x0 x1 BZ _ _ => ?_
  refine bodyPost_ret (v := .tuple #[.agg #[.string ⟨#[]⟩, .int .i64 0], .bool false]) (by simp [results, Tryz.results29, go_sem, x0, x1]) rfl ?_
  exact ⟨rfl, BZ⟩
theorem emOpen_yes (D : ByteArray) (e1 : decide (D.size < 20) = false) (e2 : decide ((D.size : Int) < 20) = false) (i0 : (0 : Int) < (D.size : Int)) (e3 : (bt D 0 / 16 == 4) = true) (e4 : (bt D 0 / 16 != 4) = false) (ea : bits .and .u8 (bt D 0) 15 = bt D 0 % 16) (o : Nat) (e5 : bt D 0 % 16 * 4 = (o : Int)) (o60 : o ≤ 60) (e6 : decide (o < 20) = false) (e7 : decide ((o : Int) < 20) = false) (r : Int) (er : wrap64 ((D.size : Int) - 8) = r) (e8 : decide (r < (o : Int)) = false) (q k : Int) (em : bits .and .u16 q 8191 = k) (cw : Cb_ 64 #[.string D, .int .i64 6] (.int .u16 q)) (en : (k != 0) = false) (w : World) :
    Cw_ 29 #[.string D] (.tuple #[.agg #[.string D, .int .i64 (o : Int)], .bool true]) w := by
  have hb := get_bt D
  have b0 := bt_nonneg D 0
  have b1 := bt_le D 0
  go_enter Tryz.func29, Tryz.ntmps29
  have B1 := Below.refl w.heap.size w
  go_upto_region 1 with fail
  have R_2 := Box2.make w (.string ⟨#[]⟩) (.int .i64 0) 77
  have B3 := B1.alloc B1.size (.cells #[.string ⟨#[]⟩, .int .i64 0] 77)
  clear B1
  have fzR_4 : ∀ i, (w.alloc (.cells #[.string ⟨#[]⟩, .int .i64 0] 77)).frozen? ⟨w.heap.size, i, none⟩ = false := by intro i; simp [go_sem]
  obtain ⟨u1, hu1⟩ : ∃ x, x = w.alloc (.cells #[.string ⟨#[]⟩, .int .i64 0] 77) := ⟨_, rfl⟩
  rw [← hu1] at R_2 fzR_4 B3 ⊢
  clear hu1
  obtain ⟨_, r1_0, r1_1⟩ := id R_2
  go_upto_region 7 with fail
  clear r1_0 r1_1
  obtain ⟨_, r2_0, r2_1⟩ := id R_2
  have B5 := ((B3.setCell (p := ⟨w.heap.size, 0, none⟩) (Nat.le_refl _) (.string D)).setCell (p := ⟨w.heap.size, 1, none⟩) (Nat.le_refl _) (.int .i64 (o : Int)))
  have R_6 : Box2 ((u1.setCell ⟨w.heap.size, 0, none⟩ (.string D)).setCell ⟨w.heap.size, 1, none⟩ (.int .i64 (o : Int))) w.heap.size (.string D) (.int .i64 (o : Int)) := ⟨by have := R_2.1; simpa using this, by simp [go_sem, r2_0, r2_1]⟩
  have fzR_7 : ∀ i, ((u1.setCell ⟨w.heap.size, 0, none⟩ (.string D)).setCell ⟨w.heap.size, 1, none⟩ (.int .i64 (o : Int))).frozen? ⟨w.heap.size, i, none⟩ = false := by intro i; simp [fzR_4]
  clear r2_0 r2_1 R_2 fzR_4 B3
  obtain ⟨u2, hu2⟩ : ∃ x, x = ((u1.setCell ⟨w.heap.size, 0, none⟩ (.string D)).setCell ⟨w.heap.size, 1, none⟩ (.int .i64 (o : Int))) := ⟨_, rfl⟩
  rw [← hu2] at R_6 fzR_7 B5 ⊢
  clear hu2
  obtain ⟨_, r3_0, r3_1⟩ := id R_6
  go_wp2_with fail
  refine (cw _).mono ?_; rintro e w3 ⟨rfl, x3⟩
  have fzR_8 := fzB_ x3 R_6.1 fzR_7
  clear fzR_7
  have R_9 := R_6.on x3
  have B10 := B5.trans (x3.mono B5.size)
  clear r3_0 r3_1 R_6 B5 x3
  obtain ⟨_, r4_0, r4_1⟩ := id R_9
  go_wp2
  refine box2_ (b := w.heap.size) R_9.some B10 (Nat.le_refl _) fun Z x0 x1 BZ _ _ => ?_
  refine bodyPost_ret (v := .tuple #[.agg #[.string D, .int .i64 (o : Int)], .bool true]) (by simp [results, Tryz.results29, go_sem, x0, x1]) rfl ?_
  exact ⟨rfl, BZ⟩
/-- Whether there is a packet, and what is told of it. -/
def opB (D : ByteArray) : Bool := decide (20 ≤ D.size ∧ bt D 0 / 16 = 4 ∧ 20 ≤ ownN D ∧ ownN D + 8 ≤ D.size ∧ g16 D 6 % 8192 = 0)
def opS (D : ByteArray) : ByteArray := if opB D = true then D else ⟨#[]⟩
def opO (D : ByteArray) : Int := if opB D = true then (ownN D : Int) else 0
theorem emOpen_ (D : ByteArray) (w : World) (hz : D.size ≤ 1000000) :
    Cw_ 29 #[.string D] (.tuple #[.agg #[.string (opS D), .int .i64 (opO D)], .bool (opB D)]) w := by
  have b0 := bt_nonneg D 0
  have b1 := bt_le D 0
  have no : opB D = false → opS D = ⟨#[]⟩ ∧ opO D = 0 := fun h => by unfold opS opO; rw [h]; exact ⟨rfl, rfl⟩
  by_cases h20 : D.size < 20
  · have h : opB D = false := decide_eq_false (by omega)
    rw [(no h).1, (no h).2, h]
    exact emOpen_short D (by simpa using h20) (by simp; omega) w
  have e1 : decide (D.size < 20) = false := by simpa using h20
  have e2 : decide ((D.size : Int) < 20) = false := by simp; omega
  have i0 : (0 : Int) < (D.size : Int) := by omega
  by_cases h4 : bt D 0 / 16 = 4
  rotate_left
  · have h : opB D = false := decide_eq_false (by omega)
    rw [(no h).1, (no h).2, h]
    exact emOpen_ver D e1 e2 i0 (by simpa using h4) (by simpa using h4) w
  have e3 : (bt D 0 / 16 == 4) = true := by simpa using h4
  have e4 : (bt D 0 / 16 != 4) = false := by simpa using h4
  have e5 : bt D 0 % 16 * 4 = (ownN D : Int) := by unfold ownN; omega
  have o60 : ownN D ≤ 60 := by omega
  have ea : bits .and .u8 (bt D 0) 15 = bt D 0 % 16 := bits_mask .u8 8 (by decide) (fun n h₀ h₁ => by rw [IntKind.wrap_u8]; omega) 4 (by decide) _ b0 (by omega)
  by_cases c1 : ownN D < 20
  · have h : opB D = false := decide_eq_false (by omega)
    rw [(no h).1, (no h).2, h]
    exact emOpen_low D e1 e2 i0 e3 e4 ea (ownN D) e5 o60 (by simpa using c1) (by simp; omega) w
  have e6 : decide (ownN D < 20) = false := by simpa using c1
  have e7 : decide ((ownN D : Int) < 20) = false := by simp; omega
  have er : wrap64 ((D.size : Int) - 8) = (D.size : Int) - 8 := IntWalk.wrap64_in _ ⟨by omega, by omega⟩
  by_cases c2 : D.size < ownN D + 8
  · have h : opB D = false := decide_eq_false (by omega)
    rw [(no h).1, (no h).2, h]
    exact emOpen_few D e1 e2 i0 e3 e4 ea (ownN D) e5 o60 e6 e7 _ er (by simp; omega) w
  have e8 : decide ((D.size : Int) - 8 < (ownN D : Int)) = false := by simp; omega
  have em : bits .and .u16 (g16 D 6) 8191 = g16 D 6 % 8192 := bits_mask .u16 16 (by decide) (fun n h₀ h₁ => by rw [IntKind.wrap_u16]; omega) 13 (by decide) _ (g16_nonneg _ _) (by have := g16_le D 6; omega)
  have cw := fun u => emWord_ D 6 6 u rfl hz (by omega)
  by_cases c3 : g16 D 6 % 8192 = 0
  · have h : opB D = true := decide_eq_true ⟨by omega, by omega, by omega, by omega, by omega⟩
    rw [show opS D = D by unfold opS; rw [if_pos h], show opO D = (ownN D : Int) by unfold opO; rw [if_pos h], h]
    exact emOpen_yes D e1 e2 i0 e3 e4 ea (ownN D) e5 o60 e6 e7 _ er e8 _ _ em cw (by simpa using c3) w
  · have h : opB D = false := decide_eq_false (by omega)
    rw [(no h).1, (no h).2, h]
    exact emOpen_piece D e1 e2 i0 e3 e4 ea (ownN D) e5 o60 e6 e7 _ er e8 _ _ em cw (by simpa using c3) w
end Go.Proofs.YtbpicngbjggblaaGreatDoor
namespace Go.Proofs.YtbpicngbjggblaaGreatDoor
set_option linter.unusedVariables false
set_option linter.unusedSimpArgs false
open Go.ChangeShapes Go.WideShapes Go.ChangeAt Go.RowKit
/-- Blocks that were there are as they were, but for those of which S speaks; the streams are as they were; no block has gone. -/
structure Beside (S : Nat → Prop) (w w' : World) : Prop where
  os : w'.os = w.os
  tape : w'.tape = w.tape
  output : w'.output = w.output
  size : w.heap.size ≤ w'.heap.size
  block : ∀ k, k < w.heap.size → ¬ S k → w'.heap[k]? = w.heap[k]?
theorem Beside.refl (S : Nat → Prop) (w : World) : Beside S w w := ⟨rfl, rfl, rfl, Nat.le_refl _, fun _ _ _ => rfl⟩
theorem Beside.trans {S : Nat → Prop} {a b c : World} (h : Beside S a b) (k : Beside S b c) : Beside S a c :=
  ⟨k.os.trans h.os, k.tape.trans h.tape, k.output.trans h.output, Nat.le_trans h.size k.size, fun i hi hn => (k.block i (Nat.lt_of_lt_of_le hi h.size) hn).trans (h.block i hi hn)⟩
theorem Beside.mono {S T : Nat → Prop} {w w' : World} (h : Beside S w w') (hm : ∀ k, k < w.heap.size → S k → T k) : Beside T w w' := ⟨h.os, h.tape, h.output, h.size, fun k hk hn => h.block k hk (fun s => hn (hm k hk s))⟩
theorem Beside.of {S : Nat → Prop} {w w' : World} (h : Below w.heap.size w w') : Beside S w w' := ⟨h.os, h.tape, h.output, h.size, fun k hk _ => h.block k hk⟩
theorem Beside.from {n : Nat} {w w' : World} (h : Below n w w') : Beside (fun k => n ≤ k) w w' := ⟨h.os, h.tape, h.output, h.size, fun k _ hn => h.block k (by omega)⟩
/-- What it speaks of is from B on: below B all is as it was. -/
theorem Beside.below {S : Nat → Prop} {B : Nat} {w w' : World} (h : Beside S w w') (hS : ∀ k, k < w.heap.size → S k → B ≤ k) (hB : B ≤ w.heap.size) : Below B w w' :=
  ⟨h.os, h.tape, h.output, h.size, fun k hk => h.block k (by omega) (fun s => by have := hS k (by omega) s; omega)⟩
theorem Beside.after {S : Nat → Prop} {B : Nat} {a w w' : World} (b : Below B a w) (hB : B ≤ w.heap.size) (h : Beside S w w') (hS : ∀ k, k < w.heap.size → S k → B ≤ k) : Below B a w' := b.trans (h.below hS hB)
theorem Beside.cell {S : Nat → Prop} {w w' : World} (h : Beside S w w') {p : Addr} (hp : p.block < w.heap.size) (hn : ¬ S p.block) : w'.cell? p = w.cell? p := World.cell?_of_block (w := w) (h.block p.block hp hn)
theorem Beside.frozen {S : Nat → Prop} {w w' : World} (h : Beside S w w') {p : Addr} (hp : p.block < w.heap.size) (hn : ¬ S p.block) : w'.frozen? p = w.frozen? p := World.frozen?_of_block (w := w) (h.block p.block hp hn)
theorem Beside.setCell {S : Nat → Prop} {a w : World} (h : Beside S a w) {p : Addr} (hp : S p.block) (u : Value) : Beside S a (w.setCell p u) :=
  h.trans ⟨rfl, rfl, rfl, by simp [World.setCell], fun k hk hn => Below.heap_setCell _ _ _ _ (fun e => hn (e ▸ hp))⟩
theorem Beside.alloc {S : Nat → Prop} {a w : World} (h : Beside S a w) (o : Obj) : Beside S a (w.alloc o) :=
  h.trans (Beside.of ((Below.refl w.heap.size w).alloc (Nat.le_refl _) o))
theorem Beside.drew {S : Nat → Prop} {a w : World} (h : Beside S a w) : Beside S a w.drew := ⟨h.os, h.tape, h.output, h.size, h.block⟩
theorem Box4.by {S : Nat → Prop} {w w' : World} {b : Nat} {v0 v1 v2 v3 : Value} (h : Box4 w b v0 v1 v2 v3) (hb : Beside S w w') (hn : ¬ S b) : Box4 w' b v0 v1 v2 v3 := by
  obtain ⟨h, h0, h1, h2, h3⟩ := h
  exact ⟨Nat.lt_of_lt_of_le h hb.size, (hb.cell (p := ⟨b, 0, none⟩) h hn).trans h0, (hb.cell (p := ⟨b, 1, none⟩) h hn).trans h1, (hb.cell (p := ⟨b, 2, none⟩) h hn).trans h2, (hb.cell (p := ⟨b, 3, none⟩) h hn).trans h3⟩
end Go.Proofs.YtbpicngbjggblaaGreatDoor
namespace Go.Proofs.YtbpicngbjggblaaGreatDoor
set_option maxHeartbeats 4000000
set_option maxRecDepth 100000
set_option linter.unusedVariables false
set_option linter.unusedSimpArgs false
open Go.ChangeShapes Go.WideShapes Go.ChangeAt Go.RowKit Go.PlainAid
attribute [local go_sem ↓] Go.wp_at_zero Go.wp_at_succ
theorem Box2.by {S : Nat → Prop} {w w' : World} {b : Nat} {v0 v1 : Value} (h : Box2 w b v0 v1) (hb : Beside S w w') (hn : ¬ S b) : Box2 w' b v0 v1 := by
  obtain ⟨h, h0, h1⟩ := h
  exact ⟨Nat.lt_of_lt_of_le h hb.size, (hb.cell (p := ⟨b, 0, none⟩) h hn).trans h0, (hb.cell (p := ⟨b, 1, none⟩) h hn).trans h1⟩
theorem Box5.by {S : Nat → Prop} {w w' : World} {b : Nat} {v0 v1 v2 v3 v4 : Value} (h : Box5 w b v0 v1 v2 v3 v4) (hb : Beside S w w') (hn : ¬ S b) : Box5 w' b v0 v1 v2 v3 v4 := by
  obtain ⟨h, h0, h1, h2, h3, h4⟩ := h
  exact ⟨Nat.lt_of_lt_of_le h hb.size, (hb.cell (p := ⟨b, 0, none⟩) h hn).trans h0, (hb.cell (p := ⟨b, 1, none⟩) h hn).trans h1, (hb.cell (p := ⟨b, 2, none⟩) h hn).trans h2, (hb.cell (p := ⟨b, 3, none⟩) h hn).trans h3, (hb.cell (p := ⟨b, 4, none⟩) h hn).trans h4⟩
/-- A packet behind a pointer, its text laid anew: all blocks beside it are as they were. -/
structure Laid (p : Nat) (D : ByteArray) (o : Nat) (w w' : World) : Prop where
  beside : Beside (· = p) w w'
  box : Box2 w' p (.string D) (.int .i64 (o : Int))
  mark : ∀ i, w'.frozen? ⟨p, i, none⟩ = false
theorem emLay_ (w : World) (p o : Nat) (D part R : ByteArray) (i : Int) (y : Bool) (cw : Cb_ 126 #[.string D, .int .i64 i, .string part] (.tuple #[.string R, .bool y])) (hP : Box2 w p (.string D) (.int .i64 (o : Int))) (fzP : ∀ i, w.frozen? ⟨p, i, none⟩ = false) :
    Calls Tryz.prog 75 #[.pointer (some ⟨p, 0, none⟩), .int .i64 i, .string part] w fun e w' => e = .returned (.tuple #[]) ∧ Laid p R o w w' := by
  obtain ⟨hp, h0, h1⟩ := id hP
  go_enter Tryz.func75, Tryz.ntmps75
  go_wp2_with fail
  refine (cw _).mono ?_; rintro e w1 ⟨rfl, x1⟩
  obtain ⟨k, k0, k1⟩ := hP.on x1
  have f1 : ∀ i, w1.frozen? ⟨p, i, none⟩ = false := fun i => (x1.frozen (p := ⟨_, i, none⟩) hp).trans (fzP i)
  clear h0 h1 hP fzP
  go_wp2
  first | go_end0 | refine bodyPost_ret (results_none rfl _ _ _) rfl ?_
  refine ⟨rfl, ⟨Beside.setCell (S := (· = p)) (Beside.of x1) (p := ⟨p, 0, none⟩) rfl _, ⟨by simpa using k, by simp [go_sem, k0], by simp [go_sem, k1]⟩, fun i => by simp [f1]⟩⟩
theorem emPorts_none (w : World) (p o : Nat) (D : ByteArray) (k : Nat) (k16 : k ≤ 16) (o60 : o ≤ 60) (oa oc ob od a m b n S : Int) (PT D1 : ByteArray) (y1 : Bool) (c1 : Cb_ 127 #[.agg #[.int .u32 a, .int .u16 m], .agg #[.int .u32 b, .int .u16 n]] (.string PT)) (l1 : ∀ (u : World) (i : Int), i = (o : Int) → Calls Tryz.prog 126 #[.string D, .int .i64 i, .string PT] u fun e w' => e = .returned (.tuple #[.string D1, .bool y1]) ∧ Below u.heap.size u w') (cg : ∀ (u : World) (i : Int), i = (k : Int) + (o : Int) → Calls Tryz.prog 64 #[.string D1, .int .i64 i] u fun e w' => e = .returned (.int .u16 S) ∧ Below u.heap.size u w') (ch : ∀ (u : World) (i : Int), i = (k : Int) + (o : Int) → Calls Tryz.prog 128 #[.string D1, .int .i64 i, .int .i64 2] u fun e w' => e = .returned (.bool false) ∧ Below u.heap.size u w') (pr : Int)  (hP : Box2 w p (.string D) (.int .i64 (o : Int))) (fzP : ∀ i, w.frozen? ⟨p, i, none⟩ = false) :
    Calls Tryz.prog 77 #[.pointer (some ⟨p, 0, none⟩), .agg #[.int .u8 pr, .int .u32 oa, .int .u16 oc, .int .u32 ob, .int .u16 od], .agg #[.int .u32 a, .int .u16 m, .int .u32 b, .int .u16 n], .int .i64 (k : Int)] w fun e w' => e = .returned (.tuple #[]) ∧ Laid p D1 o w w' := by
  go_enter Tryz.func77, Tryz.ntmps77
  have hp := Lib.hid hP.1
  have B0 := Beside.refl (· = p) w
  go_upto_region 1 with fail
  have fzP_1 := fzA_ (o := (.cells #[.int .u8 pr, .int .u32 oa, .int .u16 oc, .int .u32 ob, .int .u16 od] 33)) hP.1 fzP
  clear fzP
  have P_2 := hP.past (o := (.cells #[.int .u8 pr, .int .u32 oa, .int .u16 oc, .int .u32 ob, .int .u16 od] 33))
  have T_3 := Box5.make w (.int .u8 pr) (.int .u32 oa) (.int .u16 oc) (.int .u32 ob) (.int .u16 od) 33
  clear hP
  have B4 := Beside.alloc B0 (.cells #[.int .u8 pr, .int .u32 oa, .int .u16 oc, .int .u32 ob, .int .u16 od] 33)
  clear B0
  have fzP_5 := fzA_ (o := (.cells #[.int .u32 a, .int .u16 m, .int .u32 b, .int .u16 n] 28)) P_2.1 fzP_1
  clear fzP_1
  have P_6 := P_2.past (o := (.cells #[.int .u32 a, .int .u16 m, .int .u32 b, .int .u16 n] 28))
  have T_7 := T_3.past (o := (.cells #[.int .u32 a, .int .u16 m, .int .u32 b, .int .u16 n] 28))
  have hs_ : (w.alloc (.cells #[.int .u8 pr, .int .u32 oa, .int .u16 oc, .int .u32 ob, .int .u16 od] 33)).heap.size = w.heap.size + 1 := by simp
  have C_8 := Box4.make (w.alloc (.cells #[.int .u8 pr, .int .u32 oa, .int .u16 oc, .int .u32 ob, .int .u16 od] 33)) (.int .u32 a) (.int .u16 m) (.int .u32 b) (.int .u16 n) 28
  rw [hs_] at C_8
  clear hs_
  clear P_2 T_3
  have B9 := Beside.alloc B4 (.cells #[.int .u32 a, .int .u16 m, .int .u32 b, .int .u16 n] 28)
  clear B4
  obtain ⟨u1, hu1⟩ : ∃ x, x = (w.alloc (.cells #[.int .u8 pr, .int .u32 oa, .int .u16 oc, .int .u32 ob, .int .u16 od] 33)).alloc (.cells #[.int .u32 a, .int .u16 m, .int .u32 b, .int .u16 n] 28) := ⟨_, rfl⟩
  rw [← hu1] at P_6 T_7 C_8 fzP_5 B9 ⊢
  clear hu1
  obtain ⟨zp, gp0, gp1⟩ := id P_6
  have Fp0 := lat_ gp0 zp
  have Fp1 := lat_ gp1 zp
  clear gp0 gp1
  obtain ⟨zc, gc0, gc1, gc2, gc3⟩ := id C_8
  have Fc0 := lat_ gc0 zc
  have Fc1 := lat_ gc1 zc
  have Fc2 := lat_ gc2 zc
  have Fc3 := lat_ gc3 zc
  clear gc0 gc1 gc2 gc3
  refine region_lead (B := u1.heap.size) 13 1 (by kernel_rfl) (by kernel_rfl) (by kernel_rfl) (by kernel_rfl) ?_
  simp only [List.take_succ_cons, List.take_zero]
  repeat (go_big_quiet_step (first
    | (go_at_call 127; exact later_of _ (Nat.le_refl _) (c1 _))))
  refine lead_end (by kernel_rfl) (by kernel_rfl) rfl fun w1 x1 K hK => ?_
  have fzP_10 := fzB_ x1 P_6.1 fzP_5
  clear fzP_5
  have P_11 := P_6.on x1
  have T_12 := T_7.on x1
  have C_13 := C_8.on x1
  have B14 := B9.trans (Beside.of x1)
  clear Fp0 Fp1 zp Fc0 Fc1 Fc2 Fc3 zc P_6 T_7 C_8 B9 x1
  obtain ⟨_, p1_0, p1_1⟩ := id P_11
  go_simp
  clear p1_0 p1_1
  refine (emLay_ _ p o _ PT D1 _ _ (fun u => l1 u _ (by first | rfl | omega | (simp only [IntKind.wrap_i64]; omega) | (unfold wrap64; omega))) P_11 fzP_10).mono ?_; rintro e w2 ⟨rfl, x2⟩
  have P_15 := x2.box
  have T_16 := T_12.by x2.beside (fun e => by have := hp.out; omega)
  have C_17 := C_13.by x2.beside (fun e => by have := hp.out; omega)
  have fzP_18 := x2.mark
  have B19 := B14.trans x2.beside
  clear P_11 T_12 C_13 B14 x2 fzP_10
  show K _ _
  refine hK.out _ _ ?_
  clear hK K l1
  obtain ⟨_, p2_0, p2_1⟩ := id P_15
  go_wp2_with fail
  refine (cg _ _ (by first | rfl | omega | (simp only [IntKind.wrap_i64]; omega) | (unfold wrap64; omega))).mono ?_; rintro e w3 ⟨rfl, x3⟩
  have fzP_20 := fzB_ x3 P_15.1 fzP_18
  clear fzP_18
  have P_21 := P_15.on x3
  have T_22 := T_16.on x3
  have C_23 := C_17.on x3
  have B24 := B19.trans (Beside.of x3)
  clear p2_0 p2_1 P_15 T_16 C_17 B19 x3
  obtain ⟨_, p3_0, p3_1⟩ := id P_21
  clear cg
  go_wp2_with fail
  refine (ch _ _ (by first | rfl | omega | (simp only [IntKind.wrap_i64]; omega) | (unfold wrap64; omega))).mono ?_; rintro e w4 ⟨rfl, x4⟩
  have fzP_25 := fzB_ x4 P_21.1 fzP_20
  clear fzP_20
  have P_26 := P_21.on x4
  have T_27 := T_22.on x4
  have C_28 := C_23.on x4
  have B29 := B24.trans (Beside.of x4)
  clear p3_0 p3_1 P_21 T_22 C_23 B24 x4
  clear ch
  go_wp2
  first | go_end0 | refine bodyPost_ret (results_none rfl _ _ _) rfl ?_
  exact ⟨rfl, ⟨B29, P_26, fzP_25⟩⟩
theorem emPorts_bare (w : World) (p o : Nat) (D : ByteArray) (k : Nat) (k16 : k ≤ 16) (o60 : o ≤ 60) (oa oc ob od a m b n S : Int) (PT D1 : ByteArray) (y1 : Bool) (c1 : Cb_ 127 #[.agg #[.int .u32 a, .int .u16 m], .agg #[.int .u32 b, .int .u16 n]] (.string PT)) (l1 : ∀ (u : World) (i : Int), i = (o : Int) → Calls Tryz.prog 126 #[.string D, .int .i64 i, .string PT] u fun e w' => e = .returned (.tuple #[.string D1, .bool y1]) ∧ Below u.heap.size u w') (cg : ∀ (u : World) (i : Int), i = (k : Int) + (o : Int) → Calls Tryz.prog 64 #[.string D1, .int .i64 i] u fun e w' => e = .returned (.int .u16 S) ∧ Below u.heap.size u w') (ch : ∀ (u : World) (i : Int), i = (k : Int) + (o : Int) → Calls Tryz.prog 128 #[.string D1, .int .i64 i, .int .i64 2] u fun e w' => e = .returned (.bool true) ∧ Below u.heap.size u w') (e1 : (S == 0) = true)  (hP : Box2 w p (.string D) (.int .i64 (o : Int))) (fzP : ∀ i, w.frozen? ⟨p, i, none⟩ = false) :
    Calls Tryz.prog 77 #[.pointer (some ⟨p, 0, none⟩), .agg #[.int .u8 17, .int .u32 oa, .int .u16 oc, .int .u32 ob, .int .u16 od], .agg #[.int .u32 a, .int .u16 m, .int .u32 b, .int .u16 n], .int .i64 (k : Int)] w fun e w' => e = .returned (.tuple #[]) ∧ Laid p D1 o w w' := by
  go_enter Tryz.func77, Tryz.ntmps77
  have hp := Lib.hid hP.1
  have B0 := Beside.refl (· = p) w
  go_upto_region 1 with fail
  have fzP_1 := fzA_ (o := (.cells #[.int .u8 17, .int .u32 oa, .int .u16 oc, .int .u32 ob, .int .u16 od] 33)) hP.1 fzP
  clear fzP
  have P_2 := hP.past (o := (.cells #[.int .u8 17, .int .u32 oa, .int .u16 oc, .int .u32 ob, .int .u16 od] 33))
  have T_3 := Box5.make w (.int .u8 17) (.int .u32 oa) (.int .u16 oc) (.int .u32 ob) (.int .u16 od) 33
  clear hP
  have B4 := Beside.alloc B0 (.cells #[.int .u8 17, .int .u32 oa, .int .u16 oc, .int .u32 ob, .int .u16 od] 33)
  clear B0
  have fzP_5 := fzA_ (o := (.cells #[.int .u32 a, .int .u16 m, .int .u32 b, .int .u16 n] 28)) P_2.1 fzP_1
  clear fzP_1
  have P_6 := P_2.past (o := (.cells #[.int .u32 a, .int .u16 m, .int .u32 b, .int .u16 n] 28))
  have T_7 := T_3.past (o := (.cells #[.int .u32 a, .int .u16 m, .int .u32 b, .int .u16 n] 28))
  have hs_ : (w.alloc (.cells #[.int .u8 17, .int .u32 oa, .int .u16 oc, .int .u32 ob, .int .u16 od] 33)).heap.size = w.heap.size + 1 := by simp
  have C_8 := Box4.make (w.alloc (.cells #[.int .u8 17, .int .u32 oa, .int .u16 oc, .int .u32 ob, .int .u16 od] 33)) (.int .u32 a) (.int .u16 m) (.int .u32 b) (.int .u16 n) 28
  rw [hs_] at C_8
  clear hs_
  clear P_2 T_3
  have B9 := Beside.alloc B4 (.cells #[.int .u32 a, .int .u16 m, .int .u32 b, .int .u16 n] 28)
  clear B4
  obtain ⟨u1, hu1⟩ : ∃ x, x = (w.alloc (.cells #[.int .u8 17, .int .u32 oa, .int .u16 oc, .int .u32 ob, .int .u16 od] 33)).alloc (.cells #[.int .u32 a, .int .u16 m, .int .u32 b, .int .u16 n] 28) := ⟨_, rfl⟩
  rw [← hu1] at P_6 T_7 C_8 fzP_5 B9 ⊢
  clear hu1
  obtain ⟨zp, gp0, gp1⟩ := id P_6
  have Fp0 := lat_ gp0 zp
  have Fp1 := lat_ gp1 zp
  clear gp0 gp1
  obtain ⟨zc, gc0, gc1, gc2, gc3⟩ := id C_8
  have Fc0 := lat_ gc0 zc
  have Fc1 := lat_ gc1 zc
  have Fc2 := lat_ gc2 zc
  have Fc3 := lat_ gc3 zc
  clear gc0 gc1 gc2 gc3
  refine region_lead (B := u1.heap.size) 13 1 (by kernel_rfl) (by kernel_rfl) (by kernel_rfl) (by kernel_rfl) ?_
  simp only [List.take_succ_cons, List.take_zero]
  repeat (go_big_quiet_step (first
    | (go_at_call 127; exact later_of _ (Nat.le_refl _) (c1 _))))
  refine lead_end (by kernel_rfl) (by kernel_rfl) rfl fun w1 x1 K hK => ?_
  have fzP_10 := fzB_ x1 P_6.1 fzP_5
  clear fzP_5
  have P_11 := P_6.on x1
  have T_12 := T_7.on x1
  have C_13 := C_8.on x1
  have B14 := B9.trans (Beside.of x1)
  clear Fp0 Fp1 zp Fc0 Fc1 Fc2 Fc3 zc P_6 T_7 C_8 B9 x1
  obtain ⟨_, p1_0, p1_1⟩ := id P_11
  go_simp
  clear p1_0 p1_1
  refine (emLay_ _ p o _ PT D1 _ _ (fun u => l1 u _ (by first | rfl | omega | (simp only [IntKind.wrap_i64]; omega) | (unfold wrap64; omega))) P_11 fzP_10).mono ?_; rintro e w2 ⟨rfl, x2⟩
  have P_15 := x2.box
  have T_16 := T_12.by x2.beside (fun e => by have := hp.out; omega)
  have C_17 := C_13.by x2.beside (fun e => by have := hp.out; omega)
  have fzP_18 := x2.mark
  have B19 := B14.trans x2.beside
  clear P_11 T_12 C_13 B14 x2 fzP_10
  show K _ _
  refine hK.out _ _ ?_
  clear hK K l1
  obtain ⟨_, p2_0, p2_1⟩ := id P_15
  go_wp2_with fail
  refine (cg _ _ (by first | rfl | omega | (simp only [IntKind.wrap_i64]; omega) | (unfold wrap64; omega))).mono ?_; rintro e w3 ⟨rfl, x3⟩
  have fzP_20 := fzB_ x3 P_15.1 fzP_18
  clear fzP_18
  have P_21 := P_15.on x3
  have T_22 := T_16.on x3
  have C_23 := C_17.on x3
  have B24 := B19.trans (Beside.of x3)
  clear p2_0 p2_1 P_15 T_16 C_17 B19 x3
  obtain ⟨_, p3_0, p3_1⟩ := id P_21
  clear cg
  go_wp2_with fail
  refine (ch _ _ (by first | rfl | omega | (simp only [IntKind.wrap_i64]; omega) | (unfold wrap64; omega))).mono ?_; rintro e w4 ⟨rfl, x4⟩
  have fzP_25 := fzB_ x4 P_21.1 fzP_20
  clear fzP_20
  have P_26 := P_21.on x4
  have T_27 := T_22.on x4
  have C_28 := C_23.on x4
  have B29 := B24.trans (Beside.of x4)
  clear p3_0 p3_1 P_21 T_22 C_23 B24 x4
  clear ch
  obtain ⟨_, t4_0, t4_1, t4_2, t4_3, t4_4⟩ := id T_27
  go_wp2
  first | go_end0 | refine bodyPost_ret (results_none rfl _ _ _) rfl ?_
  exact ⟨rfl, ⟨B29, P_26, fzP_25⟩⟩
theorem emPorts_tcp (w : World) (p o : Nat) (D : ByteArray) (k : Nat) (k16 : k ≤ 16) (o60 : o ≤ 60) (oa oc ob od a m b n S : Int) (PT D1 : ByteArray) (y1 : Bool) (c1 : Cb_ 127 #[.agg #[.int .u32 a, .int .u16 m], .agg #[.int .u32 b, .int .u16 n]] (.string PT)) (l1 : ∀ (u : World) (i : Int), i = (o : Int) → Calls Tryz.prog 126 #[.string D, .int .i64 i, .string PT] u fun e w' => e = .returned (.tuple #[.string D1, .bool y1]) ∧ Below u.heap.size u w') (cg : ∀ (u : World) (i : Int), i = (k : Int) + (o : Int) → Calls Tryz.prog 64 #[.string D1, .int .i64 i] u fun e w' => e = .returned (.int .u16 S) ∧ Below u.heap.size u w') (ch : ∀ (u : World) (i : Int), i = (k : Int) + (o : Int) → Calls Tryz.prog 128 #[.string D1, .int .i64 i, .int .i64 2] u fun e w' => e = .returned (.bool true) ∧ Below u.heap.size u w') (A1 Q1 A2 Q2 SV D2 : ByteArray) (V : Int) (y2 : Bool) (z1 : A1.size + Q1.size ≤ 9223372036854775807) (z2 : A2.size + Q2.size ≤ 9223372036854775807) (a1 : Cb_ 74 #[.agg #[.int .u32 oa, .int .u16 oc], .agg #[.int .u32 ob, .int .u16 od]] (.string A1)) (q1 : Cb_ 127 #[.agg #[.int .u32 oa, .int .u16 oc], .agg #[.int .u32 ob, .int .u16 od]] (.string Q1)) (a2 : Cb_ 74 #[.agg #[.int .u32 a, .int .u16 m], .agg #[.int .u32 b, .int .u16 n]] (.string A2)) (q2 : Cb_ 127 #[.agg #[.int .u32 a, .int .u16 m], .agg #[.int .u32 b, .int .u16 n]] (.string Q2)) (cu : Cb_ 34 #[.int .u16 S, .string (A1 ++ Q1), .string (A2 ++ Q2)] (.int .u16 V)) (cs : Cb_ 76 #[.int .u16 V] (.string SV)) (l2 : ∀ (u : World) (i : Int), i = (k : Int) + (o : Int) → Calls Tryz.prog 126 #[.string D1, .int .i64 i, .string SV] u fun e w' => e = .returned (.tuple #[.string D2, .bool y2]) ∧ Below u.heap.size u w')  (hP : Box2 w p (.string D) (.int .i64 (o : Int))) (fzP : ∀ i, w.frozen? ⟨p, i, none⟩ = false) :
    Calls Tryz.prog 77 #[.pointer (some ⟨p, 0, none⟩), .agg #[.int .u8 6, .int .u32 oa, .int .u16 oc, .int .u32 ob, .int .u16 od], .agg #[.int .u32 a, .int .u16 m, .int .u32 b, .int .u16 n], .int .i64 (k : Int)] w fun e w' => e = .returned (.tuple #[]) ∧ Laid p D2 o w w' := by
  go_enter Tryz.func77, Tryz.ntmps77
  have hp := Lib.hid hP.1
  have B0 := Beside.refl (· = p) w
  go_upto_region 1 with fail
  have fzP_1 := fzA_ (o := (.cells #[.int .u8 6, .int .u32 oa, .int .u16 oc, .int .u32 ob, .int .u16 od] 33)) hP.1 fzP
  clear fzP
  have P_2 := hP.past (o := (.cells #[.int .u8 6, .int .u32 oa, .int .u16 oc, .int .u32 ob, .int .u16 od] 33))
  have T_3 := Box5.make w (.int .u8 6) (.int .u32 oa) (.int .u16 oc) (.int .u32 ob) (.int .u16 od) 33
  clear hP
  have B4 := Beside.alloc B0 (.cells #[.int .u8 6, .int .u32 oa, .int .u16 oc, .int .u32 ob, .int .u16 od] 33)
  clear B0
  have fzP_5 := fzA_ (o := (.cells #[.int .u32 a, .int .u16 m, .int .u32 b, .int .u16 n] 28)) P_2.1 fzP_1
  clear fzP_1
  have P_6 := P_2.past (o := (.cells #[.int .u32 a, .int .u16 m, .int .u32 b, .int .u16 n] 28))
  have T_7 := T_3.past (o := (.cells #[.int .u32 a, .int .u16 m, .int .u32 b, .int .u16 n] 28))
  have hs_ : (w.alloc (.cells #[.int .u8 6, .int .u32 oa, .int .u16 oc, .int .u32 ob, .int .u16 od] 33)).heap.size = w.heap.size + 1 := by simp
  have C_8 := Box4.make (w.alloc (.cells #[.int .u8 6, .int .u32 oa, .int .u16 oc, .int .u32 ob, .int .u16 od] 33)) (.int .u32 a) (.int .u16 m) (.int .u32 b) (.int .u16 n) 28
  rw [hs_] at C_8
  clear hs_
  clear P_2 T_3
  have B9 := Beside.alloc B4 (.cells #[.int .u32 a, .int .u16 m, .int .u32 b, .int .u16 n] 28)
  clear B4
  obtain ⟨u1, hu1⟩ : ∃ x, x = (w.alloc (.cells #[.int .u8 6, .int .u32 oa, .int .u16 oc, .int .u32 ob, .int .u16 od] 33)).alloc (.cells #[.int .u32 a, .int .u16 m, .int .u32 b, .int .u16 n] 28) := ⟨_, rfl⟩
  rw [← hu1] at P_6 T_7 C_8 fzP_5 B9 ⊢
  clear hu1
  obtain ⟨zp, gp0, gp1⟩ := id P_6
  have Fp0 := lat_ gp0 zp
  have Fp1 := lat_ gp1 zp
  clear gp0 gp1
  obtain ⟨zc, gc0, gc1, gc2, gc3⟩ := id C_8
  have Fc0 := lat_ gc0 zc
  have Fc1 := lat_ gc1 zc
  have Fc2 := lat_ gc2 zc
  have Fc3 := lat_ gc3 zc
  clear gc0 gc1 gc2 gc3
  refine region_lead (B := u1.heap.size) 13 1 (by kernel_rfl) (by kernel_rfl) (by kernel_rfl) (by kernel_rfl) ?_
  simp only [List.take_succ_cons, List.take_zero]
  repeat (go_big_quiet_step (first
    | (go_at_call 127; exact later_of _ (Nat.le_refl _) (c1 _))))
  refine lead_end (by kernel_rfl) (by kernel_rfl) rfl fun w1 x1 K hK => ?_
  have fzP_10 := fzB_ x1 P_6.1 fzP_5
  clear fzP_5
  have P_11 := P_6.on x1
  have T_12 := T_7.on x1
  have C_13 := C_8.on x1
  have B14 := B9.trans (Beside.of x1)
  clear Fp0 Fp1 zp Fc0 Fc1 Fc2 Fc3 zc P_6 T_7 C_8 B9 x1
  obtain ⟨_, p1_0, p1_1⟩ := id P_11
  go_simp
  clear p1_0 p1_1
  refine (emLay_ _ p o _ PT D1 _ _ (fun u => l1 u _ (by first | rfl | omega | (simp only [IntKind.wrap_i64]; omega) | (unfold wrap64; omega))) P_11 fzP_10).mono ?_; rintro e w2 ⟨rfl, x2⟩
  have P_15 := x2.box
  have T_16 := T_12.by x2.beside (fun e => by have := hp.out; omega)
  have C_17 := C_13.by x2.beside (fun e => by have := hp.out; omega)
  have fzP_18 := x2.mark
  have B19 := B14.trans x2.beside
  clear P_11 T_12 C_13 B14 x2 fzP_10
  show K _ _
  refine hK.out _ _ ?_
  clear hK K l1
  obtain ⟨_, p2_0, p2_1⟩ := id P_15
  go_wp2_with fail
  refine (cg _ _ (by first | rfl | omega | (simp only [IntKind.wrap_i64]; omega) | (unfold wrap64; omega))).mono ?_; rintro e w3 ⟨rfl, x3⟩
  have fzP_20 := fzB_ x3 P_15.1 fzP_18
  clear fzP_18
  have P_21 := P_15.on x3
  have T_22 := T_16.on x3
  have C_23 := C_17.on x3
  have B24 := B19.trans (Beside.of x3)
  clear p2_0 p2_1 P_15 T_16 C_17 B19 x3
  obtain ⟨_, p3_0, p3_1⟩ := id P_21
  clear cg
  go_wp2_with fail
  refine (ch _ _ (by first | rfl | omega | (simp only [IntKind.wrap_i64]; omega) | (unfold wrap64; omega))).mono ?_; rintro e w4 ⟨rfl, x4⟩
  have fzP_25 := fzB_ x4 P_21.1 fzP_20
  clear fzP_20
  have P_26 := P_21.on x4
  have T_27 := T_22.on x4
  have C_28 := C_23.on x4
  have B29 := B24.trans (Beside.of x4)
  clear p3_0 p3_1 P_21 T_22 C_23 B24 x4
  clear ch
  obtain ⟨_, t4_0, t4_1, t4_2, t4_3, t4_4⟩ := id T_27
  go_upto_region 5 with fail
  clear t4_0 t4_1 t4_2 t4_3 t4_4
  obtain ⟨zt, gt0, gt1, gt2, gt3, gt4⟩ := id T_27
  have Ft0 := lat_ gt0 zt
  have Ft1 := lat_ gt1 zt
  have Ft2 := lat_ gt2 zt
  have Ft3 := lat_ gt3 zt
  have Ft4 := lat_ gt4 zt
  clear gt0 gt1 gt2 gt3 gt4
  refine region_later (B := w4.heap.size) (by kernel_rfl) (by kernel_rfl) ?_
  repeat (go_big_quiet_step (first
    | (go_at_call 74; exact later_of _ (Nat.le_refl _) (a1 _))
    | (go_at_call 127; exact later_of _ (Nat.le_refl _) (q1 _))))
  refine later_end fun w5 x5 => ?_
  have fzP_30 := fzB_ x5 P_26.1 fzP_25
  clear fzP_25
  have P_31 := P_26.on x5
  have T_32 := T_27.on x5
  have C_33 := C_28.on x5
  have B34 := B29.trans (Beside.of x5)
  clear Ft0 Ft1 Ft2 Ft3 Ft4 zt P_26 T_27 C_28 B29 x5
  clear a1 q1
  go_upto_region 6 with fail
  obtain ⟨zc, gc0, gc1, gc2, gc3⟩ := id C_33
  have Fc0 := lat_ gc0 zc
  have Fc1 := lat_ gc1 zc
  have Fc2 := lat_ gc2 zc
  have Fc3 := lat_ gc3 zc
  clear gc0 gc1 gc2 gc3
  refine region_later (B := w5.heap.size) (by kernel_rfl) (by kernel_rfl) ?_
  repeat (go_big_quiet_step (first
    | (go_at_call 74; exact later_of _ (Nat.le_refl _) (a2 _))
    | (go_at_call 127; exact later_of _ (Nat.le_refl _) (q2 _))))
  refine later_end fun w6 x6 => ?_
  have fzP_35 := fzB_ x6 P_31.1 fzP_30
  clear fzP_30
  have P_36 := P_31.on x6
  have T_37 := T_32.on x6
  have C_38 := C_33.on x6
  have B39 := B34.trans (Beside.of x6)
  clear Fc0 Fc1 Fc2 Fc3 zc P_31 T_32 C_33 B34 x6
  clear a2 q2
  go_wp2_with fail
  refine (cu _).mono ?_; rintro e w7 ⟨rfl, x7⟩
  have fzP_40 := fzB_ x7 P_36.1 fzP_35
  clear fzP_35
  have P_41 := P_36.on x7
  have T_42 := T_37.on x7
  have C_43 := C_38.on x7
  have B44 := B39.trans (Beside.of x7)
  clear P_36 T_37 C_38 B39 x7
  obtain ⟨_, t5_0, t5_1, t5_2, t5_3, t5_4⟩ := id T_42
  clear cu
  go_upto_region 10 with fail
  clear t5_0 t5_1 t5_2 t5_3 t5_4
  obtain ⟨zp, gp0, gp1⟩ := id P_41
  have Fp0 := lat_ gp0 zp
  have Fp1 := lat_ gp1 zp
  clear gp0 gp1
  refine region_lead (B := w7.heap.size) 6 1 (by kernel_rfl) (by kernel_rfl) (by kernel_rfl) (by kernel_rfl) ?_
  simp only [List.take_succ_cons, List.take_zero]
  repeat (go_big_quiet_step (first
    | (go_at_call 76; exact later_of _ (Nat.le_refl _) (cs _))))
  refine lead_end (by kernel_rfl) (by kernel_rfl) rfl fun w8 x8 K hK => ?_
  have fzP_45 := fzB_ x8 P_41.1 fzP_40
  clear fzP_40
  have P_46 := P_41.on x8
  have T_47 := T_42.on x8
  have C_48 := C_43.on x8
  have B49 := B44.trans (Beside.of x8)
  clear Fp0 Fp1 zp P_41 T_42 C_43 B44 x8
  obtain ⟨_, p6_0, p6_1⟩ := id P_46
  go_simp
  clear p6_0 p6_1
  refine (emLay_ _ p o _ SV D2 _ _ (fun u => l2 u _ (by first | rfl | omega | (simp only [IntKind.wrap_i64]; omega) | (unfold wrap64; omega))) P_46 fzP_45).mono ?_; rintro e w9 ⟨rfl, x9⟩
  have P_50 := x9.box
  have T_51 := T_47.by x9.beside (fun e => by have := hp.out; omega)
  have C_52 := C_48.by x9.beside (fun e => by have := hp.out; omega)
  have fzP_53 := x9.mark
  have B54 := B49.trans x9.beside
  clear P_46 T_47 C_48 B49 x9 fzP_45
  show K _ _
  refine hK.out _ _ ?_
  clear hK K l2
  go_wp2
  first | go_end0 | refine bodyPost_ret (results_none rfl _ _ _) rfl ?_
  exact ⟨rfl, ⟨B54, P_50, fzP_53⟩⟩
theorem emPorts_udp (w : World) (p o : Nat) (D : ByteArray) (k : Nat) (k16 : k ≤ 16) (o60 : o ≤ 60) (oa oc ob od a m b n S : Int) (PT D1 : ByteArray) (y1 : Bool) (c1 : Cb_ 127 #[.agg #[.int .u32 a, .int .u16 m], .agg #[.int .u32 b, .int .u16 n]] (.string PT)) (l1 : ∀ (u : World) (i : Int), i = (o : Int) → Calls Tryz.prog 126 #[.string D, .int .i64 i, .string PT] u fun e w' => e = .returned (.tuple #[.string D1, .bool y1]) ∧ Below u.heap.size u w') (cg : ∀ (u : World) (i : Int), i = (k : Int) + (o : Int) → Calls Tryz.prog 64 #[.string D1, .int .i64 i] u fun e w' => e = .returned (.int .u16 S) ∧ Below u.heap.size u w') (ch : ∀ (u : World) (i : Int), i = (k : Int) + (o : Int) → Calls Tryz.prog 128 #[.string D1, .int .i64 i, .int .i64 2] u fun e w' => e = .returned (.bool true) ∧ Below u.heap.size u w') (A1 Q1 A2 Q2 SV D2 : ByteArray) (V : Int) (y2 : Bool) (z1 : A1.size + Q1.size ≤ 9223372036854775807) (z2 : A2.size + Q2.size ≤ 9223372036854775807) (a1 : Cb_ 74 #[.agg #[.int .u32 oa, .int .u16 oc], .agg #[.int .u32 ob, .int .u16 od]] (.string A1)) (q1 : Cb_ 127 #[.agg #[.int .u32 oa, .int .u16 oc], .agg #[.int .u32 ob, .int .u16 od]] (.string Q1)) (a2 : Cb_ 74 #[.agg #[.int .u32 a, .int .u16 m], .agg #[.int .u32 b, .int .u16 n]] (.string A2)) (q2 : Cb_ 127 #[.agg #[.int .u32 a, .int .u16 m], .agg #[.int .u32 b, .int .u16 n]] (.string Q2)) (cu : Cb_ 34 #[.int .u16 S, .string (A1 ++ Q1), .string (A2 ++ Q2)] (.int .u16 V)) (cs : Cb_ 76 #[.int .u16 V] (.string SV)) (l2 : ∀ (u : World) (i : Int), i = (k : Int) + (o : Int) → Calls Tryz.prog 126 #[.string D1, .int .i64 i, .string SV] u fun e w' => e = .returned (.tuple #[.string D2, .bool y2]) ∧ Below u.heap.size u w') (e1 : (S == 0) = false) (e2 : (V == 0) = false)  (hP : Box2 w p (.string D) (.int .i64 (o : Int))) (fzP : ∀ i, w.frozen? ⟨p, i, none⟩ = false) :
    Calls Tryz.prog 77 #[.pointer (some ⟨p, 0, none⟩), .agg #[.int .u8 17, .int .u32 oa, .int .u16 oc, .int .u32 ob, .int .u16 od], .agg #[.int .u32 a, .int .u16 m, .int .u32 b, .int .u16 n], .int .i64 (k : Int)] w fun e w' => e = .returned (.tuple #[]) ∧ Laid p D2 o w w' := by
  go_enter Tryz.func77, Tryz.ntmps77
  have hp := Lib.hid hP.1
  have B0 := Beside.refl (· = p) w
  go_upto_region 1 with fail
  have fzP_1 := fzA_ (o := (.cells #[.int .u8 17, .int .u32 oa, .int .u16 oc, .int .u32 ob, .int .u16 od] 33)) hP.1 fzP
  clear fzP
  have P_2 := hP.past (o := (.cells #[.int .u8 17, .int .u32 oa, .int .u16 oc, .int .u32 ob, .int .u16 od] 33))
  have T_3 := Box5.make w (.int .u8 17) (.int .u32 oa) (.int .u16 oc) (.int .u32 ob) (.int .u16 od) 33
  clear hP
  have B4 := Beside.alloc B0 (.cells #[.int .u8 17, .int .u32 oa, .int .u16 oc, .int .u32 ob, .int .u16 od] 33)
  clear B0
  have fzP_5 := fzA_ (o := (.cells #[.int .u32 a, .int .u16 m, .int .u32 b, .int .u16 n] 28)) P_2.1 fzP_1
  clear fzP_1
  have P_6 := P_2.past (o := (.cells #[.int .u32 a, .int .u16 m, .int .u32 b, .int .u16 n] 28))
  have T_7 := T_3.past (o := (.cells #[.int .u32 a, .int .u16 m, .int .u32 b, .int .u16 n] 28))
  have hs_ : (w.alloc (.cells #[.int .u8 17, .int .u32 oa, .int .u16 oc, .int .u32 ob, .int .u16 od] 33)).heap.size = w.heap.size + 1 := by simp
  have C_8 := Box4.make (w.alloc (.cells #[.int .u8 17, .int .u32 oa, .int .u16 oc, .int .u32 ob, .int .u16 od] 33)) (.int .u32 a) (.int .u16 m) (.int .u32 b) (.int .u16 n) 28
  rw [hs_] at C_8
  clear hs_
  clear P_2 T_3
  have B9 := Beside.alloc B4 (.cells #[.int .u32 a, .int .u16 m, .int .u32 b, .int .u16 n] 28)
  clear B4
  obtain ⟨u1, hu1⟩ : ∃ x, x = (w.alloc (.cells #[.int .u8 17, .int .u32 oa, .int .u16 oc, .int .u32 ob, .int .u16 od] 33)).alloc (.cells #[.int .u32 a, .int .u16 m, .int .u32 b, .int .u16 n] 28) := ⟨_, rfl⟩
  rw [← hu1] at P_6 T_7 C_8 fzP_5 B9 ⊢
  clear hu1
  obtain ⟨zp, gp0, gp1⟩ := id P_6
  have Fp0 := lat_ gp0 zp
  have Fp1 := lat_ gp1 zp
  clear gp0 gp1
  obtain ⟨zc, gc0, gc1, gc2, gc3⟩ := id C_8
  have Fc0 := lat_ gc0 zc
  have Fc1 := lat_ gc1 zc
  have Fc2 := lat_ gc2 zc
  have Fc3 := lat_ gc3 zc
  clear gc0 gc1 gc2 gc3
  refine region_lead (B := u1.heap.size) 13 1 (by kernel_rfl) (by kernel_rfl) (by kernel_rfl) (by kernel_rfl) ?_
  simp only [List.take_succ_cons, List.take_zero]
  repeat (go_big_quiet_step (first
    | (go_at_call 127; exact later_of _ (Nat.le_refl _) (c1 _))))
  refine lead_end (by kernel_rfl) (by kernel_rfl) rfl fun w1 x1 K hK => ?_
  have fzP_10 := fzB_ x1 P_6.1 fzP_5
  clear fzP_5
  have P_11 := P_6.on x1
  have T_12 := T_7.on x1
  have C_13 := C_8.on x1
  have B14 := B9.trans (Beside.of x1)
  clear Fp0 Fp1 zp Fc0 Fc1 Fc2 Fc3 zc P_6 T_7 C_8 B9 x1
  obtain ⟨_, p1_0, p1_1⟩ := id P_11
  go_simp
  clear p1_0 p1_1
  refine (emLay_ _ p o _ PT D1 _ _ (fun u => l1 u _ (by first | rfl | omega | (simp only [IntKind.wrap_i64]; omega) | (unfold wrap64; omega))) P_11 fzP_10).mono ?_; rintro e w2 ⟨rfl, x2⟩
  have P_15 := x2.box
  have T_16 := T_12.by x2.beside (fun e => by have := hp.out; omega)
  have C_17 := C_13.by x2.beside (fun e => by have := hp.out; omega)
  have fzP_18 := x2.mark
  have B19 := B14.trans x2.beside
  clear P_11 T_12 C_13 B14 x2 fzP_10
  show K _ _
  refine hK.out _ _ ?_
  clear hK K l1
  obtain ⟨_, p2_0, p2_1⟩ := id P_15
  go_wp2_with fail
  refine (cg _ _ (by first | rfl | omega | (simp only [IntKind.wrap_i64]; omega) | (unfold wrap64; omega))).mono ?_; rintro e w3 ⟨rfl, x3⟩
  have fzP_20 := fzB_ x3 P_15.1 fzP_18
  clear fzP_18
  have P_21 := P_15.on x3
  have T_22 := T_16.on x3
  have C_23 := C_17.on x3
  have B24 := B19.trans (Beside.of x3)
  clear p2_0 p2_1 P_15 T_16 C_17 B19 x3
  obtain ⟨_, p3_0, p3_1⟩ := id P_21
  clear cg
  go_wp2_with fail
  refine (ch _ _ (by first | rfl | omega | (simp only [IntKind.wrap_i64]; omega) | (unfold wrap64; omega))).mono ?_; rintro e w4 ⟨rfl, x4⟩
  have fzP_25 := fzB_ x4 P_21.1 fzP_20
  clear fzP_20
  have P_26 := P_21.on x4
  have T_27 := T_22.on x4
  have C_28 := C_23.on x4
  have B29 := B24.trans (Beside.of x4)
  clear p3_0 p3_1 P_21 T_22 C_23 B24 x4
  clear ch
  obtain ⟨_, t4_0, t4_1, t4_2, t4_3, t4_4⟩ := id T_27
  go_upto_region 5 with fail
  clear t4_0 t4_1 t4_2 t4_3 t4_4
  obtain ⟨zt, gt0, gt1, gt2, gt3, gt4⟩ := id T_27
  have Ft0 := lat_ gt0 zt
  have Ft1 := lat_ gt1 zt
  have Ft2 := lat_ gt2 zt
  have Ft3 := lat_ gt3 zt
  have Ft4 := lat_ gt4 zt
  clear gt0 gt1 gt2 gt3 gt4
  refine region_later (B := w4.heap.size) (by kernel_rfl) (by kernel_rfl) ?_
  repeat (go_big_quiet_step (first
    | (go_at_call 74; exact later_of _ (Nat.le_refl _) (a1 _))
    | (go_at_call 127; exact later_of _ (Nat.le_refl _) (q1 _))))
  refine later_end fun w5 x5 => ?_
  have fzP_30 := fzB_ x5 P_26.1 fzP_25
  clear fzP_25
  have P_31 := P_26.on x5
  have T_32 := T_27.on x5
  have C_33 := C_28.on x5
  have B34 := B29.trans (Beside.of x5)
  clear Ft0 Ft1 Ft2 Ft3 Ft4 zt P_26 T_27 C_28 B29 x5
  clear a1 q1
  go_upto_region 6 with fail
  obtain ⟨zc, gc0, gc1, gc2, gc3⟩ := id C_33
  have Fc0 := lat_ gc0 zc
  have Fc1 := lat_ gc1 zc
  have Fc2 := lat_ gc2 zc
  have Fc3 := lat_ gc3 zc
  clear gc0 gc1 gc2 gc3
  refine region_later (B := w5.heap.size) (by kernel_rfl) (by kernel_rfl) ?_
  repeat (go_big_quiet_step (first
    | (go_at_call 74; exact later_of _ (Nat.le_refl _) (a2 _))
    | (go_at_call 127; exact later_of _ (Nat.le_refl _) (q2 _))))
  refine later_end fun w6 x6 => ?_
  have fzP_35 := fzB_ x6 P_31.1 fzP_30
  clear fzP_30
  have P_36 := P_31.on x6
  have T_37 := T_32.on x6
  have C_38 := C_33.on x6
  have B39 := B34.trans (Beside.of x6)
  clear Fc0 Fc1 Fc2 Fc3 zc P_31 T_32 C_33 B34 x6
  clear a2 q2
  go_wp2_with fail
  refine (cu _).mono ?_; rintro e w7 ⟨rfl, x7⟩
  have fzP_40 := fzB_ x7 P_36.1 fzP_35
  clear fzP_35
  have P_41 := P_36.on x7
  have T_42 := T_37.on x7
  have C_43 := C_38.on x7
  have B44 := B39.trans (Beside.of x7)
  clear P_36 T_37 C_38 B39 x7
  obtain ⟨_, t5_0, t5_1, t5_2, t5_3, t5_4⟩ := id T_42
  clear cu
  go_upto_region 10 with fail
  clear t5_0 t5_1 t5_2 t5_3 t5_4
  obtain ⟨zp, gp0, gp1⟩ := id P_41
  have Fp0 := lat_ gp0 zp
  have Fp1 := lat_ gp1 zp
  clear gp0 gp1
  refine region_lead (B := w7.heap.size) 6 1 (by kernel_rfl) (by kernel_rfl) (by kernel_rfl) (by kernel_rfl) ?_
  simp only [List.take_succ_cons, List.take_zero]
  repeat (go_big_quiet_step (first
    | (go_at_call 76; exact later_of _ (Nat.le_refl _) (cs _))))
  refine lead_end (by kernel_rfl) (by kernel_rfl) rfl fun w8 x8 K hK => ?_
  have fzP_45 := fzB_ x8 P_41.1 fzP_40
  clear fzP_40
  have P_46 := P_41.on x8
  have T_47 := T_42.on x8
  have C_48 := C_43.on x8
  have B49 := B44.trans (Beside.of x8)
  clear Fp0 Fp1 zp P_41 T_42 C_43 B44 x8
  obtain ⟨_, p6_0, p6_1⟩ := id P_46
  go_simp
  clear p6_0 p6_1
  refine (emLay_ _ p o _ SV D2 _ _ (fun u => l2 u _ (by first | rfl | omega | (simp only [IntKind.wrap_i64]; omega) | (unfold wrap64; omega))) P_46 fzP_45).mono ?_; rintro e w9 ⟨rfl, x9⟩
  have P_50 := x9.box
  have T_51 := T_47.by x9.beside (fun e => by have := hp.out; omega)
  have C_52 := C_48.by x9.beside (fun e => by have := hp.out; omega)
  have fzP_53 := x9.mark
  have B54 := B49.trans x9.beside
  clear P_46 T_47 C_48 B49 x9 fzP_45
  show K _ _
  refine hK.out _ _ ?_
  clear hK K l2
  go_wp2
  first | go_end0 | refine bodyPost_ret (results_none rfl _ _ _) rfl ?_
  exact ⟨rfl, ⟨B54, P_50, fzP_53⟩⟩
theorem emPorts_full (w : World) (p o : Nat) (D : ByteArray) (k : Nat) (k16 : k ≤ 16) (o60 : o ≤ 60) (oa oc ob od a m b n S : Int) (PT D1 : ByteArray) (y1 : Bool) (c1 : Cb_ 127 #[.agg #[.int .u32 a, .int .u16 m], .agg #[.int .u32 b, .int .u16 n]] (.string PT)) (l1 : ∀ (u : World) (i : Int), i = (o : Int) → Calls Tryz.prog 126 #[.string D, .int .i64 i, .string PT] u fun e w' => e = .returned (.tuple #[.string D1, .bool y1]) ∧ Below u.heap.size u w') (cg : ∀ (u : World) (i : Int), i = (k : Int) + (o : Int) → Calls Tryz.prog 64 #[.string D1, .int .i64 i] u fun e w' => e = .returned (.int .u16 S) ∧ Below u.heap.size u w') (ch : ∀ (u : World) (i : Int), i = (k : Int) + (o : Int) → Calls Tryz.prog 128 #[.string D1, .int .i64 i, .int .i64 2] u fun e w' => e = .returned (.bool true) ∧ Below u.heap.size u w') (A1 Q1 A2 Q2 SV D2 : ByteArray) (V : Int) (y2 : Bool) (z1 : A1.size + Q1.size ≤ 9223372036854775807) (z2 : A2.size + Q2.size ≤ 9223372036854775807) (a1 : Cb_ 74 #[.agg #[.int .u32 oa, .int .u16 oc], .agg #[.int .u32 ob, .int .u16 od]] (.string A1)) (q1 : Cb_ 127 #[.agg #[.int .u32 oa, .int .u16 oc], .agg #[.int .u32 ob, .int .u16 od]] (.string Q1)) (a2 : Cb_ 74 #[.agg #[.int .u32 a, .int .u16 m], .agg #[.int .u32 b, .int .u16 n]] (.string A2)) (q2 : Cb_ 127 #[.agg #[.int .u32 a, .int .u16 m], .agg #[.int .u32 b, .int .u16 n]] (.string Q2)) (cu : Cb_ 34 #[.int .u16 S, .string (A1 ++ Q1), .string (A2 ++ Q2)] (.int .u16 V)) (cs : Cb_ 76 #[.int .u16 65535] (.string SV)) (l2 : ∀ (u : World) (i : Int), i = (k : Int) + (o : Int) → Calls Tryz.prog 126 #[.string D1, .int .i64 i, .string SV] u fun e w' => e = .returned (.tuple #[.string D2, .bool y2]) ∧ Below u.heap.size u w') (e1 : (S == 0) = false) (e2 : (V == 0) = true)  (hP : Box2 w p (.string D) (.int .i64 (o : Int))) (fzP : ∀ i, w.frozen? ⟨p, i, none⟩ = false) :
    Calls Tryz.prog 77 #[.pointer (some ⟨p, 0, none⟩), .agg #[.int .u8 17, .int .u32 oa, .int .u16 oc, .int .u32 ob, .int .u16 od], .agg #[.int .u32 a, .int .u16 m, .int .u32 b, .int .u16 n], .int .i64 (k : Int)] w fun e w' => e = .returned (.tuple #[]) ∧ Laid p D2 o w w' := by
  go_enter Tryz.func77, Tryz.ntmps77
  have hp := Lib.hid hP.1
  have B0 := Beside.refl (· = p) w
  go_upto_region 1 with fail
  have fzP_1 := fzA_ (o := (.cells #[.int .u8 17, .int .u32 oa, .int .u16 oc, .int .u32 ob, .int .u16 od] 33)) hP.1 fzP
  clear fzP
  have P_2 := hP.past (o := (.cells #[.int .u8 17, .int .u32 oa, .int .u16 oc, .int .u32 ob, .int .u16 od] 33))
  have T_3 := Box5.make w (.int .u8 17) (.int .u32 oa) (.int .u16 oc) (.int .u32 ob) (.int .u16 od) 33
  clear hP
  have B4 := Beside.alloc B0 (.cells #[.int .u8 17, .int .u32 oa, .int .u16 oc, .int .u32 ob, .int .u16 od] 33)
  clear B0
  have fzP_5 := fzA_ (o := (.cells #[.int .u32 a, .int .u16 m, .int .u32 b, .int .u16 n] 28)) P_2.1 fzP_1
  clear fzP_1
  have P_6 := P_2.past (o := (.cells #[.int .u32 a, .int .u16 m, .int .u32 b, .int .u16 n] 28))
  have T_7 := T_3.past (o := (.cells #[.int .u32 a, .int .u16 m, .int .u32 b, .int .u16 n] 28))
  have hs_ : (w.alloc (.cells #[.int .u8 17, .int .u32 oa, .int .u16 oc, .int .u32 ob, .int .u16 od] 33)).heap.size = w.heap.size + 1 := by simp
  have C_8 := Box4.make (w.alloc (.cells #[.int .u8 17, .int .u32 oa, .int .u16 oc, .int .u32 ob, .int .u16 od] 33)) (.int .u32 a) (.int .u16 m) (.int .u32 b) (.int .u16 n) 28
  rw [hs_] at C_8
  clear hs_
  clear P_2 T_3
  have B9 := Beside.alloc B4 (.cells #[.int .u32 a, .int .u16 m, .int .u32 b, .int .u16 n] 28)
  clear B4
  obtain ⟨u1, hu1⟩ : ∃ x, x = (w.alloc (.cells #[.int .u8 17, .int .u32 oa, .int .u16 oc, .int .u32 ob, .int .u16 od] 33)).alloc (.cells #[.int .u32 a, .int .u16 m, .int .u32 b, .int .u16 n] 28) := ⟨_, rfl⟩
  rw [← hu1] at P_6 T_7 C_8 fzP_5 B9 ⊢
  clear hu1
  obtain ⟨zp, gp0, gp1⟩ := id P_6
  have Fp0 := lat_ gp0 zp
  have Fp1 := lat_ gp1 zp
  clear gp0 gp1
  obtain ⟨zc, gc0, gc1, gc2, gc3⟩ := id C_8
  have Fc0 := lat_ gc0 zc
  have Fc1 := lat_ gc1 zc
  have Fc2 := lat_ gc2 zc
  have Fc3 := lat_ gc3 zc
  clear gc0 gc1 gc2 gc3
  refine region_lead (B := u1.heap.size) 13 1 (by kernel_rfl) (by kernel_rfl) (by kernel_rfl) (by kernel_rfl) ?_
  simp only [List.take_succ_cons, List.take_zero]
  repeat (go_big_quiet_step (first
    | (go_at_call 127; exact later_of _ (Nat.le_refl _) (c1 _))))
  refine lead_end (by kernel_rfl) (by kernel_rfl) rfl fun w1 x1 K hK => ?_
  have fzP_10 := fzB_ x1 P_6.1 fzP_5
  clear fzP_5
  have P_11 := P_6.on x1
  have T_12 := T_7.on x1
  have C_13 := C_8.on x1
  have B14 := B9.trans (Beside.of x1)
  clear Fp0 Fp1 zp Fc0 Fc1 Fc2 Fc3 zc P_6 T_7 C_8 B9 x1
  obtain ⟨_, p1_0, p1_1⟩ := id P_11
  go_simp
  clear p1_0 p1_1
  refine (emLay_ _ p o _ PT D1 _ _ (fun u => l1 u _ (by first | rfl | omega | (simp only [IntKind.wrap_i64]; omega) | (unfold wrap64; omega))) P_11 fzP_10).mono ?_; rintro e w2 ⟨rfl, x2⟩
  have P_15 := x2.box
  have T_16 := T_12.by x2.beside (fun e => by have := hp.out; omega)
  have C_17 := C_13.by x2.beside (fun e => by have := hp.out; omega)
  have fzP_18 := x2.mark
  have B19 := B14.trans x2.beside
  clear P_11 T_12 C_13 B14 x2 fzP_10
  show K _ _
  refine hK.out _ _ ?_
  clear hK K l1
  obtain ⟨_, p2_0, p2_1⟩ := id P_15
  go_wp2_with fail
  refine (cg _ _ (by first | rfl | omega | (simp only [IntKind.wrap_i64]; omega) | (unfold wrap64; omega))).mono ?_; rintro e w3 ⟨rfl, x3⟩
  have fzP_20 := fzB_ x3 P_15.1 fzP_18
  clear fzP_18
  have P_21 := P_15.on x3
  have T_22 := T_16.on x3
  have C_23 := C_17.on x3
  have B24 := B19.trans (Beside.of x3)
  clear p2_0 p2_1 P_15 T_16 C_17 B19 x3
  obtain ⟨_, p3_0, p3_1⟩ := id P_21
  clear cg
  go_wp2_with fail
  refine (ch _ _ (by first | rfl | omega | (simp only [IntKind.wrap_i64]; omega) | (unfold wrap64; omega))).mono ?_; rintro e w4 ⟨rfl, x4⟩
  have fzP_25 := fzB_ x4 P_21.1 fzP_20
  clear fzP_20
  have P_26 := P_21.on x4
  have T_27 := T_22.on x4
  have C_28 := C_23.on x4
  have B29 := B24.trans (Beside.of x4)
  clear p3_0 p3_1 P_21 T_22 C_23 B24 x4
  clear ch
  obtain ⟨_, t4_0, t4_1, t4_2, t4_3, t4_4⟩ := id T_27
  go_upto_region 5 with fail
  clear t4_0 t4_1 t4_2 t4_3 t4_4
  obtain ⟨zt, gt0, gt1, gt2, gt3, gt4⟩ := id T_27
  have Ft0 := lat_ gt0 zt
  have Ft1 := lat_ gt1 zt
  have Ft2 := lat_ gt2 zt
  have Ft3 := lat_ gt3 zt
  have Ft4 := lat_ gt4 zt
  clear gt0 gt1 gt2 gt3 gt4
  refine region_later (B := w4.heap.size) (by kernel_rfl) (by kernel_rfl) ?_
  repeat (go_big_quiet_step (first
    | (go_at_call 74; exact later_of _ (Nat.le_refl _) (a1 _))
    | (go_at_call 127; exact later_of _ (Nat.le_refl _) (q1 _))))
  refine later_end fun w5 x5 => ?_
  have fzP_30 := fzB_ x5 P_26.1 fzP_25
  clear fzP_25
  have P_31 := P_26.on x5
  have T_32 := T_27.on x5
  have C_33 := C_28.on x5
  have B34 := B29.trans (Beside.of x5)
  clear Ft0 Ft1 Ft2 Ft3 Ft4 zt P_26 T_27 C_28 B29 x5
  clear a1 q1
  go_upto_region 6 with fail
  obtain ⟨zc, gc0, gc1, gc2, gc3⟩ := id C_33
  have Fc0 := lat_ gc0 zc
  have Fc1 := lat_ gc1 zc
  have Fc2 := lat_ gc2 zc
  have Fc3 := lat_ gc3 zc
  clear gc0 gc1 gc2 gc3
  refine region_later (B := w5.heap.size) (by kernel_rfl) (by kernel_rfl) ?_
  repeat (go_big_quiet_step (first
    | (go_at_call 74; exact later_of _ (Nat.le_refl _) (a2 _))
    | (go_at_call 127; exact later_of _ (Nat.le_refl _) (q2 _))))
  refine later_end fun w6 x6 => ?_
  have fzP_35 := fzB_ x6 P_31.1 fzP_30
  clear fzP_30
  have P_36 := P_31.on x6
  have T_37 := T_32.on x6
  have C_38 := C_33.on x6
  have B39 := B34.trans (Beside.of x6)
  clear Fc0 Fc1 Fc2 Fc3 zc P_31 T_32 C_33 B34 x6
  clear a2 q2
  go_wp2_with fail
  refine (cu _).mono ?_; rintro e w7 ⟨rfl, x7⟩
  have fzP_40 := fzB_ x7 P_36.1 fzP_35
  clear fzP_35
  have P_41 := P_36.on x7
  have T_42 := T_37.on x7
  have C_43 := C_38.on x7
  have B44 := B39.trans (Beside.of x7)
  clear P_36 T_37 C_38 B39 x7
  obtain ⟨_, t5_0, t5_1, t5_2, t5_3, t5_4⟩ := id T_42
  clear cu
  go_upto_region 10 with fail
  clear t5_0 t5_1 t5_2 t5_3 t5_4
  obtain ⟨zp, gp0, gp1⟩ := id P_41
  have Fp0 := lat_ gp0 zp
  have Fp1 := lat_ gp1 zp
  clear gp0 gp1
  refine region_lead (B := w7.heap.size) 6 1 (by kernel_rfl) (by kernel_rfl) (by kernel_rfl) (by kernel_rfl) ?_
  simp only [List.take_succ_cons, List.take_zero]
  repeat (go_big_quiet_step (first
    | (go_at_call 76; exact later_of _ (Nat.le_refl _) (cs _))))
  refine lead_end (by kernel_rfl) (by kernel_rfl) rfl fun w8 x8 K hK => ?_
  have fzP_45 := fzB_ x8 P_41.1 fzP_40
  clear fzP_40
  have P_46 := P_41.on x8
  have T_47 := T_42.on x8
  have C_48 := C_43.on x8
  have B49 := B44.trans (Beside.of x8)
  clear Fp0 Fp1 zp P_41 T_42 C_43 B44 x8
  obtain ⟨_, p6_0, p6_1⟩ := id P_46
  go_simp
  clear p6_0 p6_1
  refine (emLay_ _ p o _ SV D2 _ _ (fun u => l2 u _ (by first | rfl | omega | (simp only [IntKind.wrap_i64]; omega) | (unfold wrap64; omega))) P_46 fzP_45).mono ?_; rintro e w9 ⟨rfl, x9⟩
  have P_50 := x9.box
  have T_51 := T_47.by x9.beside (fun e => by have := hp.out; omega)
  have C_52 := C_48.by x9.beside (fun e => by have := hp.out; omega)
  have fzP_53 := x9.mark
  have B54 := B49.trans x9.beside
  clear P_46 T_47 C_48 B49 x9 fzP_45
  show K _ _
  refine hK.out _ _ ?_
  clear hK K l2
  go_wp2
  first | go_end0 | refine bodyPost_ret (results_none rfl _ _ _) rfl ?_
  exact ⟨rfl, ⟨B54, P_50, fzP_53⟩⟩
theorem emID_ask (w : World) (p o : Nat) (D : ByteArray) (o60 : o ≤ 60) (a m b n g h V : Int) (WD D1 : ByteArray) (qi y1 : Bool) (cg : Cb_ 64 #[.string D, .int .i64 ((o : Int) + 4)] (.int .u16 g)) (cq : Cb_ 67 #[.agg #[.string D, .int .i64 (o : Int)]] (.tuple #[.bool true, .bool qi])) (ch : Cb_ 64 #[.string D, .int .i64 ((o : Int) + 2)] (.int .u16 h)) (cu : Cb_ 80 #[.int .u16 h, .int .u16 g, .int .u16 m] (.int .u16 V)) (cw : ∀ (u : World) (j : Nat), j < u.heap.size → u.cell? ⟨j, 0, none⟩ = some (.int .u16 V) → u.cell? ⟨j, 1, none⟩ = some (.int .u16 m) → Calls Tryz.prog 81 #[.slice (some ⟨j, 0, none⟩) 2 2] u fun e w' => e = .returned (.string WD) ∧ Below u.heap.size u w') (l1 : ∀ (u : World) (i : Int), i = (o : Int) + 2 → Calls Tryz.prog 126 #[.string D, .int .i64 i, .string WD] u fun e w' => e = .returned (.tuple #[.string D1, .bool y1]) ∧ Below u.heap.size u w')  (hP : Box2 w p (.string D) (.int .i64 (o : Int))) (fzP : ∀ i, w.frozen? ⟨p, i, none⟩ = false) :
    Calls Tryz.prog 78 #[.pointer (some ⟨p, 0, none⟩), .agg #[.int .u32 a, .int .u16 m, .int .u32 b, .int .u16 n]] w fun e w' => e = .returned (.tuple #[]) ∧ Laid p D1 o w w' := by
  go_enter Tryz.func78, Tryz.ntmps78
  have hp := Lib.hid hP.1
  have B0 := Beside.refl (· = p) w
  go_upto_region 1 with fail
  have fzP_1 := fzA_ (o := (.cells #[.int .u32 a, .int .u16 m, .int .u32 b, .int .u16 n] 28)) hP.1 fzP
  clear fzP
  have P_2 := hP.past (o := (.cells #[.int .u32 a, .int .u16 m, .int .u32 b, .int .u16 n] 28))
  have C_3 := Box4.make w (.int .u32 a) (.int .u16 m) (.int .u32 b) (.int .u16 n) 28
  clear hP
  have B4 := Beside.alloc B0 (.cells #[.int .u32 a, .int .u16 m, .int .u32 b, .int .u16 n] 28)
  clear B0
  obtain ⟨u1, hu1⟩ : ∃ x, x = w.alloc (.cells #[.int .u32 a, .int .u16 m, .int .u32 b, .int .u16 n] 28) := ⟨_, rfl⟩
  rw [← hu1] at P_2 C_3 fzP_1 B4 ⊢
  clear hu1
  obtain ⟨zp, gp0, gp1⟩ := id P_2
  have Fp0 := lat_ gp0 zp
  have Fp1 := lat_ gp1 zp
  clear gp0 gp1
  obtain ⟨zc, gc0, gc1, gc2, gc3⟩ := id C_3
  have Fc0 := lat_ gc0 zc
  have Fc1 := lat_ gc1 zc
  have Fc2 := lat_ gc2 zc
  have Fc3 := lat_ gc3 zc
  clear gc0 gc1 gc2 gc3
  refine region_later (B := u1.heap.size) (by kernel_rfl) (by kernel_rfl) ?_
  repeat (go_big_quiet_step (first
    | (go_at_call 64; with_reducible exact later_of _ (Nat.le_refl _) (cg _))))
  refine later_end fun w1 x1 => ?_
  have fzP_5 := fzB_ x1 P_2.1 fzP_1
  clear fzP_1
  have P_6 := P_2.on x1
  have C_7 := C_3.on x1
  have B8 := B4.trans (Beside.of x1)
  clear Fp0 Fp1 zp Fc0 Fc1 Fc2 Fc3 zc P_2 C_3 B4 x1
  clear cg
  obtain ⟨_, p1_0, p1_1⟩ := id P_6
  obtain ⟨_, c2_0, c2_1, c2_2, c2_3⟩ := id C_7
  go_wp2_with fail
  refine (cq _).mono ?_; rintro e w2 ⟨rfl, x2⟩
  have fzP_9 := fzB_ x2 P_6.1 fzP_5
  clear fzP_5
  have P_10 := P_6.on x2
  have C_11 := C_7.on x2
  have B12 := B8.trans (Beside.of x2)
  clear p1_0 p1_1 c2_0 c2_1 c2_2 c2_3 P_6 C_7 B8 x2
  clear cq
  obtain ⟨_, c3_0, c3_1, c3_2, c3_3⟩ := id C_11
  go_upto_region 5 with fail
  clear c3_0 c3_1 c3_2 c3_3
  obtain ⟨zp, gp0, gp1⟩ := id P_10
  have Fp0 := lat_ gp0 zp
  have Fp1 := lat_ gp1 zp
  clear gp0 gp1
  refine region_later (B := w2.heap.size) (by kernel_rfl) (by kernel_rfl) ?_
  repeat (go_big_quiet_step (first
    | (go_at_call 64; with_reducible exact later_of _ (Nat.le_refl _) (ch _))
    | (go_at_call 80; exact later_of _ (Nat.le_refl _) (cu _))))
  refine later_end fun w3 x3 => ?_
  have fzP_13 := fzB_ x3 P_10.1 fzP_9
  clear fzP_9
  have P_14 := P_10.on x3
  have C_15 := C_11.on x3
  have B16 := B12.trans (Beside.of x3)
  clear Fp0 Fp1 zp P_10 C_11 B12 x3
  clear ch cu
  go_upto_region 6 with fail
  clear C_15
  refine wp_region_noPanic ?_
  refine wp_region_held_drew (S := (fun w' => w'.cell? ⟨p, 1, none⟩ = some (.int .i64 (o : Int)))) (by kernel_rfl) (by obtain ⟨_, q0, q1⟩ := P_14.on ((Below.refl _ _).drew); exact q1) (fun hHeld => ?_)
  refine tk_ 0 (v := ?_) (by assumption) ?_ ?_
  rotate_left
  · intro w hSw
    (try dsimp only at hSw)
    go_simp
    with_reducible rfl
  try simp only [Act.put, puS_]
  refine tk_ 1 (v := ?_) (by assumption) ?_ ?_
  rotate_left
  · intro w hSw
    (try dsimp only at hSw)
    go_simp
    with_reducible rfl
  try simp only [Act.put, puS_]
  refine tk_ 2 (v := ?_) (by assumption) ?_ ?_
  rotate_left
  · intro w hSw
    (try dsimp only at hSw)
    go_simp
    with_reducible rfl
  try simp only [Act.put, puS_]
  refine tk_ 3 (v := ?_) (by assumption) ?_ ?_
  rotate_left
  · intro w hSw
    (try dsimp only at hSw)
    go_simp
    with_reducible rfl
  try simp only [Act.put, puS_]
  refine tk_ 4 (v := ?_) (by assumption) ?_ ?_
  rotate_left
  · intro w hSw
    (try dsimp only at hSw)
    go_simp
    with_reducible rfl
  try simp only [Act.put, puS_]
  refine tk_ 5 (v := ?_) (by assumption) ?_ ?_
  rotate_left
  · intro w hSw
    (try dsimp only at hSw)
    go_simp
    with_reducible rfl
  try simp only [Act.put, puS_]
  refine tk_ 6 (v := ?_) (by assumption) ?_ ?_
  rotate_left
  · intro w hSw
    (try dsimp only at hSw)
    go_simp
    with_reducible rfl
  try simp only [Act.put, puS_]
  refine tk_ 7 (v := ?_) (by assumption) ?_ ?_
  rotate_left
  · intro w hSw
    (try dsimp only at hSw)
    go_simp
    with_reducible rfl
  try simp only [Act.put, puS_]
  refine tk_ 8 (v := ?_) (by assumption) ?_ ?_
  rotate_left
  · intro w hSw
    (try dsimp only at hSw)
    go_simp
    with_reducible rfl
  try simp only [Act.put, puS_]
  refine tk_ 9 (v := ?_) (by assumption) ?_ ?_
  rotate_left
  · intro w hSw
    (try dsimp only at hSw)
    go_simp
    with_reducible rfl
  try simp only [Act.put, puS_]
  refine rd_ 10 (fun K hK => ?_)
  go_simp
  clear hHeld
  have fzP_17 := fzA_ (o := (.cells #[.int .u16 V, .int .u16 m] 24)) P_14.1 fzP_13
  clear fzP_13
  have P_18 := P_14.past (o := (.cells #[.int .u16 V, .int .u16 m] 24))
  have Q_19 := Box2.make w3 (.int .u16 V) (.int .u16 m) 24
  clear P_14
  have B20 := Beside.alloc B16 (.cells #[.int .u16 V, .int .u16 m] 24)
  clear B16
  have fzP_21 := fzD_ P_18.1 fzP_17
  clear fzP_17
  have P_22 := P_18.on ((Below.refl _ _).drew)
  have Q_23 := Q_19.on ((Below.refl _ _).drew)
  clear P_18 Q_19
  have B24 := Beside.drew B20
  clear B20
  obtain ⟨u4, hu4⟩ : ∃ x, x = (w3.alloc (.cells #[.int .u16 V, .int .u16 m] 24)).drew := ⟨_, rfl⟩
  rw [← hu4] at P_22 Q_23 fzP_21 B24 ⊢
  clear hu4
  refine hK.out _ _ (by obtain ⟨_, q0, q1⟩ := id P_22; exact q1) (fun _ => ?_)
  clear hK K
  try simp only [Act.put, puS_]
  refine rd_ 11 (fun K hK => ?_)
  go_simp
  refine (cw _ _ Q_23.1 Q_23.2.1 Q_23.2.2).mono ?_; rintro e w11 ⟨rfl, x11⟩
  have fzP_25 := fzB_ x11 P_22.1 fzP_21
  clear fzP_21
  have P_26 := P_22.on x11
  have Q_27 := Q_23.on x11
  have B28 := B24.trans (Beside.of x11)
  clear P_22 Q_23 B24 x11
  show K _ _
  clear Q_27
  clear cw
  refine hK.out _ _ (by obtain ⟨_, q0, q1⟩ := id P_26; exact q1) (fun _ => ?_)
  clear hK K
  try simp only [Act.put, puS_]
  refine rd_ 12 (fun K hK => ?_)
  go_simp
  refine (emLay_ _ p o _ WD D1 _ _ (fun u => l1 u _ (by first | rfl | omega | (simp only [IntKind.wrap_i64]; omega) | (unfold wrap64; omega))) P_26 fzP_25).mono ?_; rintro e w12 ⟨rfl, x12⟩
  have P_29 := x12.box
  have fzP_30 := x12.mark
  have B31 := B28.trans x12.beside
  clear P_26 B28 x12 fzP_25
  show K _ _
  refine hK.out _ _ (by obtain ⟨_, q0, q1⟩ := id P_29; exact q1) (fun _ => ?_)
  clear hK K
  try simp only [Act.put, puS_]
  refine wpAnyH_done (by kernel_rfl) (NoPanic.normal ?_) _
  go_wp2
  first | go_end0 | refine bodyPost_ret (results_none rfl _ _ _) rfl ?_
  exact ⟨rfl, ⟨B31, P_29, fzP_30⟩⟩
theorem emID_told (w : World) (p o : Nat) (D : ByteArray) (o60 : o ≤ 60) (a m b n g h V : Int) (WD D1 : ByteArray) (qi y1 : Bool) (cg : Cb_ 64 #[.string D, .int .i64 ((o : Int) + 4)] (.int .u16 g)) (cq : Cb_ 67 #[.agg #[.string D, .int .i64 (o : Int)]] (.tuple #[.bool false, .bool qi])) (ch : Cb_ 64 #[.string D, .int .i64 ((o : Int) + 2)] (.int .u16 h)) (cu : Cb_ 80 #[.int .u16 h, .int .u16 g, .int .u16 n] (.int .u16 V)) (cw : ∀ (u : World) (j : Nat), j < u.heap.size → u.cell? ⟨j, 0, none⟩ = some (.int .u16 V) → u.cell? ⟨j, 1, none⟩ = some (.int .u16 n) → Calls Tryz.prog 81 #[.slice (some ⟨j, 0, none⟩) 2 2] u fun e w' => e = .returned (.string WD) ∧ Below u.heap.size u w') (l1 : ∀ (u : World) (i : Int), i = (o : Int) + 2 → Calls Tryz.prog 126 #[.string D, .int .i64 i, .string WD] u fun e w' => e = .returned (.tuple #[.string D1, .bool y1]) ∧ Below u.heap.size u w')  (hP : Box2 w p (.string D) (.int .i64 (o : Int))) (fzP : ∀ i, w.frozen? ⟨p, i, none⟩ = false) :
    Calls Tryz.prog 78 #[.pointer (some ⟨p, 0, none⟩), .agg #[.int .u32 a, .int .u16 m, .int .u32 b, .int .u16 n]] w fun e w' => e = .returned (.tuple #[]) ∧ Laid p D1 o w w' := by
  go_enter Tryz.func78, Tryz.ntmps78
  have hp := Lib.hid hP.1
  have B0 := Beside.refl (· = p) w
  go_upto_region 1 with fail
  have fzP_1 := fzA_ (o := (.cells #[.int .u32 a, .int .u16 m, .int .u32 b, .int .u16 n] 28)) hP.1 fzP
  clear fzP
  have P_2 := hP.past (o := (.cells #[.int .u32 a, .int .u16 m, .int .u32 b, .int .u16 n] 28))
  have C_3 := Box4.make w (.int .u32 a) (.int .u16 m) (.int .u32 b) (.int .u16 n) 28
  clear hP
  have B4 := Beside.alloc B0 (.cells #[.int .u32 a, .int .u16 m, .int .u32 b, .int .u16 n] 28)
  clear B0
  obtain ⟨u1, hu1⟩ : ∃ x, x = w.alloc (.cells #[.int .u32 a, .int .u16 m, .int .u32 b, .int .u16 n] 28) := ⟨_, rfl⟩
  rw [← hu1] at P_2 C_3 fzP_1 B4 ⊢
  clear hu1
  obtain ⟨zp, gp0, gp1⟩ := id P_2
  have Fp0 := lat_ gp0 zp
  have Fp1 := lat_ gp1 zp
  clear gp0 gp1
  obtain ⟨zc, gc0, gc1, gc2, gc3⟩ := id C_3
  have Fc0 := lat_ gc0 zc
  have Fc1 := lat_ gc1 zc
  have Fc2 := lat_ gc2 zc
  have Fc3 := lat_ gc3 zc
  clear gc0 gc1 gc2 gc3
  refine region_later (B := u1.heap.size) (by kernel_rfl) (by kernel_rfl) ?_
  repeat (go_big_quiet_step (first
    | (go_at_call 64; with_reducible exact later_of _ (Nat.le_refl _) (cg _))))
  refine later_end fun w1 x1 => ?_
  have fzP_5 := fzB_ x1 P_2.1 fzP_1
  clear fzP_1
  have P_6 := P_2.on x1
  have C_7 := C_3.on x1
  have B8 := B4.trans (Beside.of x1)
  clear Fp0 Fp1 zp Fc0 Fc1 Fc2 Fc3 zc P_2 C_3 B4 x1
  clear cg
  obtain ⟨_, p1_0, p1_1⟩ := id P_6
  obtain ⟨_, c2_0, c2_1, c2_2, c2_3⟩ := id C_7
  go_wp2_with fail
  refine (cq _).mono ?_; rintro e w2 ⟨rfl, x2⟩
  have fzP_9 := fzB_ x2 P_6.1 fzP_5
  clear fzP_5
  have P_10 := P_6.on x2
  have C_11 := C_7.on x2
  have B12 := B8.trans (Beside.of x2)
  clear p1_0 p1_1 c2_0 c2_1 c2_2 c2_3 P_6 C_7 B8 x2
  clear cq
  obtain ⟨_, c3_0, c3_1, c3_2, c3_3⟩ := id C_11
  go_upto_region 5 with fail
  clear c3_0 c3_1 c3_2 c3_3
  obtain ⟨zp, gp0, gp1⟩ := id P_10
  have Fp0 := lat_ gp0 zp
  have Fp1 := lat_ gp1 zp
  clear gp0 gp1
  refine region_later (B := w2.heap.size) (by kernel_rfl) (by kernel_rfl) ?_
  repeat (go_big_quiet_step (first
    | (go_at_call 64; with_reducible exact later_of _ (Nat.le_refl _) (ch _))
    | (go_at_call 80; exact later_of _ (Nat.le_refl _) (cu _))))
  refine later_end fun w3 x3 => ?_
  have fzP_13 := fzB_ x3 P_10.1 fzP_9
  clear fzP_9
  have P_14 := P_10.on x3
  have C_15 := C_11.on x3
  have B16 := B12.trans (Beside.of x3)
  clear Fp0 Fp1 zp P_10 C_11 B12 x3
  clear ch cu
  go_upto_region 6 with fail
  clear C_15
  refine wp_region_noPanic ?_
  refine wp_region_held_drew (S := (fun w' => w'.cell? ⟨p, 1, none⟩ = some (.int .i64 (o : Int)))) (by kernel_rfl) (by obtain ⟨_, q0, q1⟩ := P_14.on ((Below.refl _ _).drew); exact q1) (fun hHeld => ?_)
  refine tk_ 0 (v := ?_) (by assumption) ?_ ?_
  rotate_left
  · intro w hSw
    (try dsimp only at hSw)
    go_simp
    with_reducible rfl
  try simp only [Act.put, puS_]
  refine tk_ 1 (v := ?_) (by assumption) ?_ ?_
  rotate_left
  · intro w hSw
    (try dsimp only at hSw)
    go_simp
    with_reducible rfl
  try simp only [Act.put, puS_]
  refine tk_ 2 (v := ?_) (by assumption) ?_ ?_
  rotate_left
  · intro w hSw
    (try dsimp only at hSw)
    go_simp
    with_reducible rfl
  try simp only [Act.put, puS_]
  refine tk_ 3 (v := ?_) (by assumption) ?_ ?_
  rotate_left
  · intro w hSw
    (try dsimp only at hSw)
    go_simp
    with_reducible rfl
  try simp only [Act.put, puS_]
  refine tk_ 4 (v := ?_) (by assumption) ?_ ?_
  rotate_left
  · intro w hSw
    (try dsimp only at hSw)
    go_simp
    with_reducible rfl
  try simp only [Act.put, puS_]
  refine tk_ 5 (v := ?_) (by assumption) ?_ ?_
  rotate_left
  · intro w hSw
    (try dsimp only at hSw)
    go_simp
    with_reducible rfl
  try simp only [Act.put, puS_]
  refine tk_ 6 (v := ?_) (by assumption) ?_ ?_
  rotate_left
  · intro w hSw
    (try dsimp only at hSw)
    go_simp
    with_reducible rfl
  try simp only [Act.put, puS_]
  refine tk_ 7 (v := ?_) (by assumption) ?_ ?_
  rotate_left
  · intro w hSw
    (try dsimp only at hSw)
    go_simp
    with_reducible rfl
  try simp only [Act.put, puS_]
  refine tk_ 8 (v := ?_) (by assumption) ?_ ?_
  rotate_left
  · intro w hSw
    (try dsimp only at hSw)
    go_simp
    with_reducible rfl
  try simp only [Act.put, puS_]
  refine tk_ 9 (v := ?_) (by assumption) ?_ ?_
  rotate_left
  · intro w hSw
    (try dsimp only at hSw)
    go_simp
    with_reducible rfl
  try simp only [Act.put, puS_]
  refine rd_ 10 (fun K hK => ?_)
  go_simp
  clear hHeld
  have fzP_17 := fzA_ (o := (.cells #[.int .u16 V, .int .u16 n] 24)) P_14.1 fzP_13
  clear fzP_13
  have P_18 := P_14.past (o := (.cells #[.int .u16 V, .int .u16 n] 24))
  have Q_19 := Box2.make w3 (.int .u16 V) (.int .u16 n) 24
  clear P_14
  have B20 := Beside.alloc B16 (.cells #[.int .u16 V, .int .u16 n] 24)
  clear B16
  have fzP_21 := fzD_ P_18.1 fzP_17
  clear fzP_17
  have P_22 := P_18.on ((Below.refl _ _).drew)
  have Q_23 := Q_19.on ((Below.refl _ _).drew)
  clear P_18 Q_19
  have B24 := Beside.drew B20
  clear B20
  obtain ⟨u4, hu4⟩ : ∃ x, x = (w3.alloc (.cells #[.int .u16 V, .int .u16 n] 24)).drew := ⟨_, rfl⟩
  rw [← hu4] at P_22 Q_23 fzP_21 B24 ⊢
  clear hu4
  refine hK.out _ _ (by obtain ⟨_, q0, q1⟩ := id P_22; exact q1) (fun _ => ?_)
  clear hK K
  try simp only [Act.put, puS_]
  refine rd_ 11 (fun K hK => ?_)
  go_simp
  refine (cw _ _ Q_23.1 Q_23.2.1 Q_23.2.2).mono ?_; rintro e w11 ⟨rfl, x11⟩
  have fzP_25 := fzB_ x11 P_22.1 fzP_21
  clear fzP_21
  have P_26 := P_22.on x11
  have Q_27 := Q_23.on x11
  have B28 := B24.trans (Beside.of x11)
  clear P_22 Q_23 B24 x11
  show K _ _
  clear Q_27
  clear cw
  refine hK.out _ _ (by obtain ⟨_, q0, q1⟩ := id P_26; exact q1) (fun _ => ?_)
  clear hK K
  try simp only [Act.put, puS_]
  refine rd_ 12 (fun K hK => ?_)
  go_simp
  refine (emLay_ _ p o _ WD D1 _ _ (fun u => l1 u _ (by first | rfl | omega | (simp only [IntKind.wrap_i64]; omega) | (unfold wrap64; omega))) P_26 fzP_25).mono ?_; rintro e w12 ⟨rfl, x12⟩
  have P_29 := x12.box
  have fzP_30 := x12.mark
  have B31 := B28.trans x12.beside
  clear P_26 B28 x12 fzP_25
  show K _ _
  refine hK.out _ _ (by obtain ⟨_, q0, q1⟩ := id P_29; exact q1) (fun _ => ?_)
  clear hK K
  try simp only [Act.put, puS_]
  refine wpAnyH_done (by kernel_rfl) (NoPanic.normal ?_) _
  go_wp2
  first | go_end0 | refine bodyPost_ret (results_none rfl _ _ _) rfl ?_
  exact ⟨rfl, ⟨B31, P_29, fzP_30⟩⟩
end Go.Proofs.YtbpicngbjggblaaGreatDoor
namespace Go.Proofs.YtbpicngbjggblaaGreatDoor
set_option linter.unusedVariables false
set_option linter.unusedSimpArgs false
open Go.ChangeShapes Go.WideShapes Go.ChangeAt Go.RowKit Go.PlainAid
def chH (D : ByteArray) (a b : Int) : ByteArray := withB (withB D 10 (strOfNums (wordL [emS D a b]))) 12 (strOfNums (wordL (adW a b)))
def chP (D : ByteArray) (a m b n : Int) : ByteArray := withB (chH D a b) (ownN D) (strOfNums (wordL [m, n]))
def chS (D : ByteArray) (k : Nat) (v a m b n : Int) : ByteArray := withB (chP D a m b n) (k + ownN D) (strOfNums (wordL [v]))
def chI (D : ByteArray) (a b id : Int) : ByteArray := withB (chH D a b) (ownN D + 2) (strOfNums (wordL [updW (g16 (inL D) 2) (g16 (inL D) 4) id, id]))
theorem chH_size {D : ByteArray} {a b : Int} (h : 20 ≤ D.size) : (chH D a b).size = D.size := by
  have e1 : (withB D 10 (strOfNums (wordL [emS D a b]))).size = D.size := size_withW _ _ _ (by show 10 + 2 * 1 ≤ _; omega)
  unfold chH
  rw [size_withW _ _ _ (by rw [e1]; show 12 + 2 * 4 ≤ _; omega), e1]
theorem chH_word {D : ByteArray} {a b : Int} (h : 20 ≤ D.size) (hc : okC a 0 b 0) (j : Nat) :
    g16 (chH D a b) (2 * j) = if j = 5 then emS D a b else if 6 ≤ j ∧ j < 10 then (adW a b).getD (j - 6) 0 else g16 D (2 * j) := by
  have bd := emS_bd (D := D) hc
  have e1 : (withB D 10 (strOfNums (wordL [emS D a b]))).size = D.size := size_withW _ _ _ (by show 10 + 2 * 1 ≤ _; omega)
  have k1 : g16 (withB D 10 (strOfNums (wordL [emS D a b]))) (2 * j) = _ := g16_with _ [emS D a b] 5 j (one_wf bd.1 bd.2) (by show 2 * 5 + 2 * 1 ≤ _; omega)
  have k2 : g16 (chH D a b) (2 * j) = _ := g16_with _ (adW a b) 6 j (adW_wf hc) (by rw [e1]; show 2 * 6 + 2 * 4 ≤ _; omega)
  have l1 : [emS D a b].length = 1 := rfl
  have l4 : (adW a b).length = 4 := rfl
  rw [k2, k1, l1, l4]
  by_cases c5 : j = 5
  · subst c5; rw [if_neg (by omega), if_pos (by omega), if_pos rfl]; simp
  by_cases c6 : 6 ≤ j ∧ j < 10
  · rw [if_pos (by omega), if_neg c5, if_pos c6]
  · rw [if_neg (by omega), if_neg (by omega), if_neg c5, if_neg c6]
theorem chP_size {D : ByteArray} {a m b n : Int} (h : 20 ≤ ownN D) (h8 : ownN D + 8 ≤ D.size) : (chP D a m b n).size = D.size := by
  have e1 := chH_size (D := D) (a := a) (b := b) (by omega)
  unfold chP
  rw [size_withW _ _ _ (by rw [e1]; show ownN D + 2 * 2 ≤ _; omega), e1]
theorem chP_word {D : ByteArray} {a m b n : Int} (h : 20 ≤ ownN D) (h8 : ownN D + 8 ≤ D.size) (hc : okC a m b n) (K : Nat) (hK : ownN D = 2 * K) (j : Nat) :
    g16 (chP D a m b n) (2 * j) = if K ≤ j ∧ j < K + 2 then [m, n].getD (j - K) 0 else g16 (chH D a b) (2 * j) := by
  have e1 := chH_size (D := D) (a := a) (b := b) (by omega)
  obtain ⟨_, _, h2, h3, _, _, h6, h7⟩ := hc
  unfold chP
  rw [hK]
  exact g16_with _ [m, n] K j (two_wf h2 h3 h6 h7) (by rw [e1]; show 2 * K + 2 * 2 ≤ _; omega)
theorem chS_size {D : ByteArray} {k : Nat} {v a m b n : Int} (h : 20 ≤ ownN D) (h8 : ownN D + 8 ≤ D.size) (hk : k + ownN D + 2 ≤ D.size) : (chS D k v a m b n).size = D.size := by
  have e1 := chP_size (a := a) (m := m) (b := b) (n := n) h h8
  unfold chS
  rw [size_withW _ _ _ (by rw [e1]; show k + ownN D + 2 * 1 ≤ _; omega), e1]
theorem chS_word {D : ByteArray} {v a m b n : Int} (h : 20 ≤ ownN D) (h8 : ownN D + 8 ≤ D.size) (v0 : 0 ≤ v) (v1 : v ≤ 65535) (K q : Nat) (hK : ownN D = 2 * K) (hk : 2 * q + ownN D + 2 ≤ D.size) (j : Nat) :
    g16 (chS D (2 * q) v a m b n) (2 * j) = if j = q + K then v else g16 (chP D a m b n) (2 * j) := by
  have e1 := chP_size (a := a) (m := m) (b := b) (n := n) h h8
  unfold chS
  rw [hK, show 2 * q + 2 * K = 2 * (q + K) by omega, g16_with _ [v] (q + K) j (one_wf v0 v1) (by rw [e1]; show 2 * (q + K) + 2 * 1 ≤ _; omega)]
  have l1 : [v].length = 1 := rfl
  rw [l1]
  by_cases c : j = q + K
  · subst c; rw [if_pos (by omega), if_pos rfl]; simp
  · rw [if_neg (by omega), if_neg c]
theorem chI_size {D : ByteArray} {a b id : Int} (h : 20 ≤ ownN D) (h8 : ownN D + 8 ≤ D.size) : (chI D a b id).size = D.size := by
  have e1 := chH_size (D := D) (a := a) (b := b) (by omega)
  unfold chI
  rw [size_withW _ _ _ (by rw [e1]; show ownN D + 2 + 2 * 2 ≤ _; omega), e1]
theorem chI_word {D : ByteArray} {a b id : Int} (h : 20 ≤ ownN D) (h8 : ownN D + 8 ≤ D.size) (i0 : 0 ≤ id) (i1 : id ≤ 65535) (K : Nat) (hK : ownN D = 2 * K) (j : Nat) :
    g16 (chI D a b id) (2 * j) = if K + 1 ≤ j ∧ j < K + 1 + 2 then [updW (g16 (inL D) 2) (g16 (inL D) 4) id, id].getD (j - (K + 1)) 0 else g16 (chH D a b) (2 * j) := by
  have e1 := chH_size (D := D) (a := a) (b := b) (by omega)
  have bd := updW_bd (g16_nonneg (inL D) 2) (g16_le (inL D) 2) (g16_nonneg (inL D) 4) (g16_le (inL D) 4) i0 i1
  unfold chI
  rw [hK, show 2 * K + 2 = 2 * (K + 1) by omega]
  exact g16_with _ [_, id] (K + 1) j (two_wf bd.1 bd.2 i0 i1) (by rw [e1]; show 2 * (K + 1) + 2 * 2 ≤ _; omega)
/-- What has the words of the packet, translated, is it. -/
theorem emD_eq {D X : ByteArray} (h : lkR D = 0) {a m b n : Int} (hc : okC a m b n) (K : Nat) (hK : ownN D = 2 * K) (hz : X.size = D.size)
    (hl : ∀ j, j < K → g16 X (2 * j) = g16 (chH D a b) (2 * j))
    (hh : ∀ j, g16 X (2 * (K + j)) = g16 (emL (bt D 9) (inAsk D) (inL D) (g32 D 12) (g32 D 16) a m b n) (2 * j)) : X = emD D a m b n := by
  obtain ⟨h0, h1, h2, h3, h4, h5⟩ := lk_zero h
  have ho := okC_of D
  have hcd := okC_ad hc
  have zH := emH_size (D := D) (a := a) (b := b) h2 (by omega)
  have zL := inL_size (D := D) (by omega)
  have zE := emL_size h ho hc
  have e : emD D a m b n = emH D a b ++ emL (bt D 9) (inAsk D) (inL D) (g32 D 12) (g32 D 16) a m b n := rfl
  rw [e]
  refine ba_w (by rw [ByteArray.size_append, zH, zE, zL]; omega) fun j hj => ?_
  by_cases c : j < K
  · rw [hl j c, chH_word h0 hcd, g16_app_l _ _ _ (by rw [zH]; omega), emH_word h2 (by omega) hcd j (by omega)]
  · obtain ⟨i, rfl⟩ : ∃ i, j = K + i := ⟨j - K, by omega⟩
    rw [hh i]
    have k := g16_app_r (emH D a b) (emL (bt D 9) (inAsk D) (inL D) (g32 D 12) (g32 D 16) a m b n) (2 * i)
    rw [zH, hK] at k
    rw [show 2 * (K + i) = 2 * K + 2 * i by omega, k]
theorem chH_high {D : ByteArray} {a b : Int} (h : 20 ≤ ownN D) (h8 : ownN D + 8 ≤ D.size) (hc : okC a 0 b 0) (K : Nat) (hK : ownN D = 2 * K) (j : Nat) : g16 (chH D a b) (2 * (K + j)) = g16 (inL D) (2 * j) := by
  rw [chH_word (by omega) hc, if_neg (by omega), if_neg (by omega), inL_g16, hK, show 2 * (K + j) = 2 * K + 2 * j by omega]
/-- TCP whose sum is there, TCP whose sum is not, UDP without a sum, UDP with one, a query. -/
theorem ch_six {D : ByteArray} (h : lkR D = 0) {a m b n : Int} (hc : okC a m b n) (hp : bt D 9 = 6) (h18 : 18 ≤ (inL D).size) :
    chS D 16 (pSum (inL D) 16 (g32 D 12) (g32 D 16) a m b n) a m b n = emD D a m b n := by
  obtain ⟨h0, h1, h2, h3, h4, h5⟩ := lk_zero h
  have zL := inL_size (D := D) (by omega)
  obtain ⟨K, hK⟩ : ∃ K, ownN D = 2 * K := ⟨ownN D / 2, by have := ownN_four D; omega⟩
  have bd := pSum_bd (L := inL D) (k := 16) (okC_of D) hc
  have W := fun j => chS_word (a := a) (m := m) (b := b) (n := n) h2 h3 bd.1 bd.2 K 8 hK (by omega) j
  refine emD_eq h hc K hK (chS_size h2 h3 (by omega)) (fun j hj => ?_) (fun j => ?_)
  · rw [W, if_neg (by omega), chP_word h2 h3 hc K hK, if_neg (by omega)]
  · rw [W, hp, (emL_6 h18 (okC_of D) hc).2 j, chP_word h2 h3 hc K hK, chH_high h2 h3 (okC_ad hc) K hK]
    by_cases c8 : j = 8
    · subst c8; rw [if_pos (by omega), if_pos rfl]
    · rw [if_neg (by omega), if_neg c8]
      by_cases c0 : j = 0
      · subst c0; rw [if_pos (by omega), if_pos rfl, Nat.add_zero, Nat.sub_self]; rfl
      · by_cases c1 : j = 1
        · subst c1; rw [if_pos (by omega), if_neg c0, if_pos rfl, Nat.add_sub_cancel_left]; rfl
        · rw [if_neg (by omega), if_neg c0, if_neg c1]
theorem ch_short {D : ByteArray} (h : lkR D = 0) {a m b n : Int} (hc : okC a m b n) (hp : bt D 9 = 6) (h18 : (inL D).size < 18) :
    chP D a m b n = emD D a m b n := by
  obtain ⟨h0, h1, h2, h3, h4, h5⟩ := lk_zero h
  have zL := inL_size (D := D) (by omega)
  obtain ⟨K, hK⟩ : ∃ K, ownN D = 2 * K := ⟨ownN D / 2, by have := ownN_four D; omega⟩
  refine emD_eq h hc K hK (chP_size h2 h3) (fun j hj => ?_) (fun j => ?_)
  · rw [chP_word h2 h3 hc K hK, if_neg (by omega)]
  · rw [hp, (emL_6s (by omega) h18 hc).2 j, chP_word h2 h3 hc K hK, chH_high h2 h3 (okC_ad hc) K hK]
    by_cases c0 : j = 0
    · subst c0; rw [if_pos (by omega), if_pos rfl, Nat.add_zero, Nat.sub_self]; rfl
    · by_cases c1 : j = 1
      · subst c1; rw [if_pos (by omega), if_neg c0, if_pos rfl, Nat.add_sub_cancel_left]; rfl
      · rw [if_neg (by omega), if_neg c0, if_neg c1]
theorem ch_bare {D : ByteArray} (h : lkR D = 0) {a m b n : Int} (hc : okC a m b n) (hp : bt D 9 = 17) (hs : g16 (inL D) 6 = 0) :
    chP D a m b n = emD D a m b n := by
  obtain ⟨h0, h1, h2, h3, h4, h5⟩ := lk_zero h
  have zL := inL_size (D := D) (by omega)
  obtain ⟨K, hK⟩ : ∃ K, ownN D = 2 * K := ⟨ownN D / 2, by have := ownN_four D; omega⟩
  refine emD_eq h hc K hK (chP_size h2 h3) (fun j hj => ?_) (fun j => ?_)
  · rw [chP_word h2 h3 hc K hK, if_neg (by omega)]
  · rw [hp, (emL_17 (by omega) (okC_of D) hc).2 j, chP_word h2 h3 hc K hK, chH_high h2 h3 (okC_ad hc) K hK]
    by_cases c3 : j = 3
    · subst c3; rw [if_neg (by omega), if_pos rfl]; unfold uSum; rw [if_pos hs]; exact hs
    · rw [if_neg c3]
      by_cases c0 : j = 0
      · subst c0; rw [if_pos (by omega), if_pos rfl, Nat.add_zero, Nat.sub_self]; rfl
      · by_cases c1 : j = 1
        · subst c1; rw [if_pos (by omega), if_neg c0, if_pos rfl, Nat.add_sub_cancel_left]; rfl
        · rw [if_neg (by omega), if_neg c0, if_neg c1]
theorem ch_udp {D : ByteArray} (h : lkR D = 0) {a m b n : Int} (hc : okC a m b n) (hp : bt D 9 = 17) :
    chS D 6 (uSum (inL D) (g32 D 12) (g32 D 16) a m b n) a m b n = emD D a m b n := by
  obtain ⟨h0, h1, h2, h3, h4, h5⟩ := lk_zero h
  have zL := inL_size (D := D) (by omega)
  obtain ⟨K, hK⟩ : ∃ K, ownN D = 2 * K := ⟨ownN D / 2, by have := ownN_four D; omega⟩
  have bd := uSum_bd (L := inL D) (okC_of D) hc
  have W := fun j => chS_word (a := a) (m := m) (b := b) (n := n) h2 h3 bd.1 bd.2 K 3 hK (by omega) j
  refine emD_eq h hc K hK (chS_size h2 h3 (by omega)) (fun j hj => ?_) (fun j => ?_)
  · rw [W, if_neg (by omega), chP_word h2 h3 hc K hK, if_neg (by omega)]
  · rw [W, hp, (emL_17 (by omega) (okC_of D) hc).2 j, chP_word h2 h3 hc K hK, chH_high h2 h3 (okC_ad hc) K hK]
    by_cases c8 : j = 3
    · subst c8; rw [if_pos (by omega), if_pos rfl]
    · rw [if_neg (by omega), if_neg c8]
      by_cases c0 : j = 0
      · subst c0; rw [if_pos (by omega), if_pos rfl, Nat.add_zero, Nat.sub_self]; rfl
      · by_cases c1 : j = 1
        · subst c1; rw [if_pos (by omega), if_neg c0, if_pos rfl, Nat.add_sub_cancel_left]; rfl
        · rw [if_neg (by omega), if_neg c0, if_neg c1]
theorem ch_query {D : ByteArray} (h : lkR D = 0) {a m b n : Int} (hc : okC a m b n) (hp : bt D 9 = 1) :
    chI D a b (if inAsk D = true then m else n) = emD D a m b n := by
  obtain ⟨h0, h1, h2, h3, h4, h5⟩ := lk_zero h
  have zL := inL_size (D := D) (by omega)
  obtain ⟨K, hK⟩ : ∃ K, ownN D = 2 * K := ⟨ownN D / 2, by have := ownN_four D; omega⟩
  have hid : 0 ≤ (if inAsk D = true then m else n) ∧ (if inAsk D = true then m else n) ≤ 65535 := by
    obtain ⟨_, _, q2, q3, _, _, q6, q7⟩ := hc
    split <;> omega
  have W := fun j => chI_word (a := a) (b := b) h2 h3 hid.1 hid.2 K hK j
  refine emD_eq h hc K hK (chI_size h2 h3) (fun j hj => ?_) (fun j => ?_)
  · rw [W, if_neg (by omega)]
  · rw [W, hp, (emL_1 (by omega) hc).2 j, chH_high h2 h3 (okC_ad hc) K hK]
    by_cases c1 : j = 1
    · subst c1; rw [if_pos (by omega), if_pos rfl, Nat.sub_self]; rfl
    · rw [if_neg c1]
      by_cases c2 : j = 2
      · subst c2; rw [if_pos (by omega), if_pos rfl, show K + 2 - (K + 1) = 1 by omega]; rfl
      · rw [if_neg (by omega), if_neg c2]
/-- The numbers that the code reads on its way. -/
theorem chP_sum {D : ByteArray} (h : lkR D = 0) {a m b n : Int} (hc : okC a m b n) (q : Nat) (hq : 2 ≤ q) : g16 (chP D a m b n) (2 * q + ownN D) = g16 (inL D) (2 * q) := by
  obtain ⟨h0, h1, h2, h3, h4, h5⟩ := lk_zero h
  obtain ⟨K, hK⟩ : ∃ K, ownN D = 2 * K := ⟨ownN D / 2, by have := ownN_four D; omega⟩
  rw [hK, show 2 * q + 2 * K = 2 * (K + q) by omega, chP_word h2 h3 hc K hK, if_neg (by omega), chH_high h2 h3 (okC_ad hc) K hK]
theorem chH_at {D : ByteArray} (h : lkR D = 0) {a b : Int} (hc : okC a 0 b 0) (q : Nat) : g16 (chH D a b) (ownN D + 2 * q) = g16 (inL D) (2 * q) := by
  obtain ⟨h0, h1, h2, h3, h4, h5⟩ := lk_zero h
  obtain ⟨K, hK⟩ : ∃ K, ownN D = 2 * K := ⟨ownN D / 2, by have := ownN_four D; omega⟩
  rw [hK, show 2 * K + 2 * q = 2 * (K + q) by omega, chH_high h2 h3 hc K hK]
theorem chH_bt {D : ByteArray} (h : lkR D = 0) {a b : Int} (hc : okC a 0 b 0) (k : Nat) : bt (chH D a b) (ownN D + k) = bt D (ownN D + k) := by
  obtain ⟨h0, h1, h2, h3, h4, h5⟩ := lk_zero h
  have o4 := ownN_four D
  have e : k = 2 * (k / 2) ∨ k = 2 * (k / 2) + 1 := by omega
  have g := chH_at h hc (k / 2)
  rw [inL_g16] at g
  obtain ⟨b0, b1⟩ := bt_w0 _ g
  rcases e with e | e
  · rw [e]; exact b0
  · rw [e, ← Nat.add_assoc]; exact b1
/-- The message, its Data and its Sum being others; the packet that carries it. -/
def meB (s D : ByteArray) : ByteArray := icB (bt (pP s) 0) (bt (pP s) 1) (msV s D) (mR (pP s)) D
def paB (s D : ByteArray) : ByteArray := s.extract 0 (ownN s) ++ meB s D
theorem pa_is {s : ByteArray} (hi : inR s = 0) {D : ByteArray} (hz : D.size = (eD s).size) {a m b n : Int} :
    (paB s D).size = ownN s + (pP s).size ∧ rwR (paB s D) = (if bt s 8 < 2 then 8 else 0) ∧
    rwB (paB s D) a m b n = if bt s 8 < 2 then ⟨#[]⟩ else withB (withB (rwB s a m b n) (ownN s + 2) (strOfNums (wordL [msV s D]))) (ownN s + 8) D := by
  obtain ⟨hs, hk, hl⟩ := in_zero hi
  obtain ⟨k9, t1, qf, er⟩ := err_kind hs hk
  obtain ⟨eE, eZ⟩ := eD_is t1
  have zM := mOk_size t1
  obtain ⟨_, _, y2, y3⟩ := mOk_yes t1
  obtain ⟨f1, f2, f3, f4, f5, f6, f7, f8, f9⟩ := ip_facts (seen_ip hs).1
  have hp := (seen_ip hs).1
  obtain ⟨N, hN⟩ : ∃ N : Nat, g16 s 2 = (N : Int) := ⟨(g16 s 2).toNat, by have := g16_nonneg s 2; omega⟩
  have ep := (p_yes hp).2.2.2
  rw [hN, Int.toNat_natCast] at ep
  rw [hN] at f5 f6 f7
  have pz : (pP s).size = N - ownN s := by rw [ep]; exact size_extract' s (ownN s) N (by omega) (by omega)
  have zr : (mR (pP s)).size = 4 := by rw [y2]; exact size_extract' _ 4 8 (by omega) zM
  have vb : 0 ≤ msV s D ∧ msV s D ≤ 65535 := updV_bd _ _ (g16_nonneg _ _) (g16_le _ _)
  obtain ⟨i1, i2, i3, i4, i5, i6⟩ := icB_parts (bt (pP s) 0) (bt (pP s) 1) (msV s D) (mR (pP s)) D (bt_nonneg _ _) (bt_le _ _) (bt_nonneg _ _) (bt_le _ _) vb.1 vb.2 zr
  have eY : icB (bt (pP s) 0) (bt (pP s) 1) (msV s D) (mR (pP s)) D = meB s D := rfl
  rw [eY] at i1 i2 i3 i4 i5 i6
  obtain ⟨x, hx⟩ : ∃ x, msV s D = x := ⟨_, rfl⟩
  rw [hx] at vb i4 ⊢
  have zh : (s.extract 0 (ownN s)).size = ownN s := (size_extract' s 0 (ownN s) (Nat.zero_le _) f4).trans (Nat.sub_zero _)
  obtain ⟨Y, hY⟩ : ∃ Y, meB s D = Y := ⟨_, rfl⟩
  obtain ⟨H, hH⟩ : ∃ H, s.extract 0 (ownN s) = H := ⟨_, rfl⟩
  have eX : paB s D = H ++ Y := by unfold paB; rw [hY, hH]
  rw [hY] at i1 i2 i3 i4 i5 i6
  have bh : ∀ i, i < ownN s → bt H i = bt s i := fun i hi => by rw [← hH]; exact bt_ext0 s _ i hi f4
  rw [hH] at zh f8
  rw [eX]
  clear eY
  have bl : ∀ i, i < ownN s → bt (H ++ Y) i = bt s i := fun i hi => by rw [bt_append_left H Y i (by omega), bh i hi]
  have gl : ∀ i, i + 1 < ownN s → g16 (H ++ Y) i = g16 s i := fun i hi => by unfold g16; rw [bl i (by omega), bl (i + 1) hi]
  have zX : (H ++ Y).size = N := by rw [ByteArray.size_append]; omega
  have ow : ownN (H ++ Y) = ownN s := by unfold ownN; rw [bl 0 (by omega)]
  have hh : (H ++ Y).extract 0 (ownN s) = H := by rw [← zh]; exact ext_app_l H Y
  have ip : pR (H ++ Y) = 0 := by
    refine ip_zero (by omega) (by rw [bl 0 (by omega)]; exact f2) (by rw [ow]; exact f3) (by rw [ow]; omega) (by rw [ow, gl 2 (by omega), hN]; exact f5) (by rw [gl 2 (by omega), hN, zX]; exact Int.le_refl _) (by rw [gl 2 (by omega), hN]; exact f7) (by rw [ow, hh]; exact f8) (by rw [gl 6 (by omega)]; exact f9)
  have pY : pP (H ++ Y) = Y := by
    rw [(p_yes ip).2.2.2, ow, gl 2 (by omega), hN, Int.toNat_natCast]
    have k := ext_app_r H Y 0 Y.size
    rw [zh, Nat.add_zero, ext_all, show ownN s + Y.size = N by omega] at k
    exact k
  have t2 : mOk Y = true := by unfold mOk at t1 ⊢; simp; omega
  have b9 : bt (H ++ Y) 9 = 1 := by rw [bl 9 (by omega)]; exact k9
  have se : seenR (H ++ Y) = 0 := seen_of ip (by unfold oR; rw [b9, if_neg (by omega), if_neg (by omega), if_pos rfl, pY, if_pos t2, i2, i3, er]; simp)
  have b8 : bt (H ++ Y) 8 = bt s 8 := bl 8 (by omega)
  have r1 : rwR (H ++ Y) = if bt s 8 < 2 then 8 else 0 := by unfold rwR; rw [if_pos se, b8]
  refine ⟨by omega, r1, ?_⟩
  by_cases h8 : bt s 8 < 2
  · rw [if_pos h8] at r1 ⊢
    exact rw_no (by rw [r1]; decide) _ _ _ _
  rw [if_neg h8] at r1 ⊢
  have rs := rw_is hs (by omega : 2 ≤ bt s 8)
  have e1 : rwB (H ++ Y) a m b n = headC H a b ++ Y := by
    unfold rwB
    rw [if_pos r1, ow, hh, b9, pY, ld_err (by rw [i2, i3]; exact qf)]
  have e2 : rwB s a m b n = headC H a b ++ pP s := by
    unfold rwB
    rw [if_pos rs, hH, k9, ld_err qf]
  have zC : (headC H a b).size = ownN s := by rw [headC_size (by omega), zh]
  rw [e1, e2]
  generalize headC H a b = C at *
  have zx : (strOfNums (wordL [x])).size = 2 := by rw [size_W]; rfl
  have z0 : (C ++ pP s).size = N := by rw [ByteArray.size_append]; omega
  have z1 : (withB (C ++ pP s) (ownN s + 2) (strOfNums (wordL [x]))).size = N := by rw [size_withB _ _ _ (by rw [zx]; omega), z0]
  have z2 : (withB (withB (C ++ pP s) (ownN s + 2) (strOfNums (wordL [x]))) (ownN s + 8) D).size = N := by rw [size_withB _ _ _ (by rw [z1]; omega), z1]
  refine ba_bt (by rw [ByteArray.size_append, z2]; omega) fun i hi => ?_
  rw [ByteArray.size_append] at hi
  rw [bt_with _ _ _ _ (by rw [z1]; omega), bt_with _ _ _ _ (by rw [zx]; omega), zx]
  by_cases c : i < ownN s
  · rw [if_neg (by omega), if_neg (by omega), bt_append_left _ _ _ (by omega), bt_append_left _ _ _ (by omega)]
  obtain ⟨y, rfl⟩ : ∃ y, i = ownN s + y := ⟨i - ownN s, by omega⟩
  have r : ∀ Z : ByteArray, bt (C ++ Z) (ownN s + y) = bt Z y := fun Z => by rw [← zC]; exact bt_append_right C Z y
  rw [r, r]
  by_cases c8 : 8 ≤ y
  · have a1 := bt_ext Y 8 Y.size (y - 8) (by omega) (Nat.le_refl _)
    rw [i6, show 8 + (y - 8) = y by omega] at a1
    rw [if_pos (by omega), show ownN s + y - (ownN s + 8) = y - 8 by omega]
    exact a1.symm
  rw [if_neg (by omega)]
  by_cases c2 : 2 ≤ y ∧ y < 4
  · rw [if_pos (by omega)]
    have g := g16_W [x] (one_wf vb.1 vb.2) 0
    have w := bt_w0 (X := Y) (Y := strOfNums (wordL [x])) 0
    have q : g16 Y 2 = g16 (strOfNums (wordL [x])) 0 := by rw [i4]; exact g.symm
    have u0 : bt Y 2 = bt (strOfNums (wordL [x])) 0 := by rw [bt_hi, bt_hi, q]
    have u1 : bt Y (2 + 1) = bt (strOfNums (wordL [x])) (0 + 1) := by rw [bt_lo, bt_lo, q]
    rcases (by omega : y = 2 ∨ y = 3) with rfl | rfl
    · rw [show ownN s + 2 - (ownN s + 2) = 0 by omega]; exact u0
    · rw [show ownN s + 3 - (ownN s + 2) = 0 + 1 by omega]; exact u1
  rw [if_neg (by omega)]
  by_cases c4 : 4 ≤ y
  · have a1 := bt_ext Y 4 8 (y - 4) (by omega) (by omega)
    have a2 := bt_ext (pP s) 4 8 (y - 4) (by omega) (by omega)
    rw [show 4 + (y - 4) = y by omega] at a1 a2
    rw [← a1, ← a2, i5, y2]
  · rcases (by omega : y = 0 ∨ y = 1) with rfl | rfl
    · exact i2
    · exact i3
/-- So of the Data, translated. -/
theorem tr_code {s : ByteArray} (hi : inR s = 0) {a m b n c k d l : Int} (hd : okC c k d l) :
    rwR (paB s (emD (eD s) c k d l)) = trR s ∧ rwB (paB s (emD (eD s) c k d l)) a m b n = trB s a m b n c k d l := by
  obtain ⟨_, h2, h3⟩ := pa_is hi (D := emD (eD s) c k d l) (em_facts (in_zero hi).2.2 hd).size (a := a) (m := m) (b := b) (n := n)
  have e : trR s = if bt s 8 < 2 then 8 else 0 := by unfold trR; rw [if_pos hi]
  refine ⟨by rw [h2, e], ?_⟩
  rw [h3]
  unfold trB
  rw [e]
  by_cases h8 : bt s 8 < 2
  · rw [if_pos h8, if_pos h8, if_neg (by decide)]
  · rw [if_neg h8, if_neg h8, if_pos rfl]
end Go.Proofs.YtbpicngbjggblaaGreatDoor
