/- Texts of this proof, together: TupNA, TupNS, TupNG, TupNO, TupNP, TupN. -/
import Derived.Test.YtbpicngbjggblaaGreatDoorGm
import Derived.Test.YtbpicngbjggblaaGreatDoorGo
import Derived.Test.YtbpicngbjggblaaGreatDoorGc
import Derived.Test.YtbpicngbjggblaaGreatDoorGk
import Derived.Test.YtbpicngbjggblaaGreatDoorGd
import Derived.Test.YtbpicngbjggblaaGreatDoorGe
import Derived.Test.YtbpicngbjggblaaGreatDoorGi
import Derived.Test.YtbpicngbjggblaaGreatDoorGg
import Derived.Test.YtbpicngbjggblaaGreatDoorGl
import Derived.Test.YtbpicngbjggblaaGreatDoorGn
import Derived.Test.YtbpicngbjggblaaGreatDoorGw
import Derived.BigRegion
import Derived.Deep.DeepCutAuto
namespace Go.Proofs.YtbpicngbjggblaaGreatDoor
set_option maxHeartbeats 4000000
set_option maxRecDepth 100000
set_option linter.unusedVariables false
set_option linter.unusedSimpArgs false
open Go.ChangeShapes Go.WideShapes Go.ChangeAt Go.RowKit Go.PlainAid
attribute [local go_sem ↓] Go.wp_at_zero Go.wp_at_succ
theorem name8_ (pr : Int) (w : World) :
    Calls Tryz.prog 62 #[.int .u8 pr] w fun e w' => e = .returned (.string (tword pr)) ∧ w = w' := by
  rcases tword_cases pr with ⟨h, e⟩ | ⟨h, e⟩ | ⟨h, e⟩ | ⟨h1, h2, h3, e⟩
  case inr.inr.inr =>
    have HE := Lib.hid e
    have k1 : (pr == 1) = false := by simpa using h1
    have k2 : (pr == 6) = false := by simpa using h2
    have k3 : (pr == 17) = false := by simpa using h3
    clear e h1 h2 h3
    go_enter Tryz.func62, Tryz.ntmps62
    go_wp2
    go_ret
    rw [HE.out]
    exact ⟨rfl, rfl⟩
  all_goals
    have HE := Lib.hid e
    clear e
    subst h
    go_enter Tryz.func62, Tryz.ntmps62
    go_wp2
    go_ret
    rw [HE.out]
    exact ⟨rfl, rfl⟩
theorem may8_ (p a m b n : Int) (w : World) :
    Cw_ 61 #[.agg #[.int .u8 p, .int .u32 a, .int .u16 m, .int .u32 b, .int .u16 n]] (.bool (tmay p m n)) w := by
  have B0 : Below w.heap.size w (w.alloc (.cells #[.int .u8 p, .int .u32 a, .int .u16 m, .int .u32 b, .int .u16 n] 33)) := (Below.refl _ _).alloc (Nat.le_refl _) _
  have cw := fun u => name8_ p u
  have key : ∃ x y : Bool, (m != 0) = !x ∧ (n != 0) = !y ∧ decide (m = 0) = x ∧ decide (n = 0) = y := ⟨decide (m = 0), decide (n = 0), by simp [bne, BEq.beq], by simp [bne, BEq.beq], rfl, rfl⟩
  obtain ⟨x, y, k1, k2, l1, l2⟩ := key
  rcases tword_cases p with ⟨h, e⟩ | ⟨h, e⟩ | ⟨h, e⟩ | ⟨h1, h2, h3, e⟩
  case inr.inr.inr =>
    have HE : Hid (tmay p m n = false) := by show _ = _; unfold tmay; simp [h1, h2, h3]
    rw [e] at cw
    clear e h1 h2 h3 l1 l2
    cases x <;> cases y
    all_goals
      simp only [Bool.not_true, Bool.not_false] at k1 k2
      go_enter Tryz.func61, Tryz.ntmps61
      go_wp2_with fail
      refine (cw _).mono ?_; rintro e w1 ⟨rfl, rfl⟩
      go_wp2
      go_ret
      rw [HE.out]
      exact ⟨rfl, B0⟩
  case inl =>
    have HE : Hid (tmay p m n = (x || y)) := by show _ = _; unfold tmay; rw [l1, l2]; simp [h]
    rw [e] at cw
    clear e l1 l2
    subst h
    cases x <;> cases y
    all_goals
      simp only [Bool.not_true, Bool.not_false] at k1 k2
      go_enter Tryz.func61, Tryz.ntmps61
      go_wp2_with fail
      refine (cw _).mono ?_; rintro e w1 ⟨rfl, rfl⟩
      go_wp2
      go_ret
      rw [HE.out]
      exact ⟨rfl, B0⟩
  all_goals
    have HE : Hid (tmay p m n = true) := by show _ = _; unfold tmay; simp [h]
    rw [e] at cw
    clear e l1 l2
    subst h
    cases x <;> cases y
    all_goals
      simp only [Bool.not_true, Bool.not_false] at k1 k2
      go_enter Tryz.func61, Tryz.ntmps61
      go_wp2_with fail
      refine (cw _).mono ?_; rintro e w1 ⟨rfl, rfl⟩
      go_wp2
      go_ret
      rw [HE.out]
      exact ⟨rfl, B0⟩
theorem text8_ (p a m b n : Nat) (w : World) (ha : a < 4294967296) (hm : m ≤ 65535) (hb : b < 4294967296) (hn : n ≤ 65535) (ht : Tab w) :
    Cw_ 27 #[.agg #[.int .u8 (p : Int), .int .u32 (a : Int), .int .u16 (m : Int), .int .u32 (b : Int), .int .u16 (n : Int)]] (.string (str (ttextL p a m b n))) w := by
  have cm := fun u => may8_ (p : Int) a m b n u
  have cw := fun u => name8_ (p : Int) u
  have c1 := fun u hu => pointText_ a m u ha hm hu
  have c2 := fun u hu => pointText_ b n u hb hn hu
  rw [tword_str] at cw
  by_cases hk : tmay (p : Int) m n = true
  rotate_left
  · have hk2 : tmay (p : Int) m n = false := by simpa using hk
    have HV : Hid (str (ttextL p a m b n) = ⟨#[]⟩) := by show _ = _; unfold ttextL; rw [if_neg hk]; rfl
    rw [hk2] at cm
    clear hk hk2 cw c1 c2
    go_enter Tryz.func27, Tryz.ntmps27
    have B1 := Below.refl w.heap.size w
    go_wp2_with fail
    have T_2 := Box5.make w (.int .u8 (p : Int)) (.int .u32 (a : Int)) (.int .u16 (m : Int)) (.int .u32 (b : Int)) (.int .u16 (n : Int)) 33
    have B3 := B1.alloc B1.size (.cells #[.int .u8 (p : Int), .int .u32 (a : Int), .int .u16 (m : Int), .int .u32 (b : Int), .int .u16 (n : Int)] 33)
    clear B1
    refine (cm _).mono ?_; rintro e w1 ⟨rfl, x1⟩
    have T_4 := T_2.on x1
    have B5 := B3.trans (x1.mono B3.size)
    clear T_2 B3 x1
    clear cm
    go_wp2
    go_ret
    rw [HV.out]
    exact ⟨rfl, B5⟩
  have HV : Hid (str (ttextL p a m b n) = str (twL p) ++ ⟨#[32]⟩ ++ str (pointL a m) ++ ⟨#[32]⟩ ++ str (pointL b n)) := by
    show _ = _
    unfold ttextL
    rw [if_pos hk, show (⟨#[32]⟩ : ByteArray) = str [32] from rfl, str_app, str_app, str_app, str_app]
    simp
  rw [hk] at cm
  have z1 : (str (twL p)).size ≤ 4 := by
    rw [str_size]
    unfold twL
    split
    · decide
    · split
      · decide
      · split <;> decide
  have z2 : (str (pointL a m)).size ≤ 100000 := by
    rw [str_size]
    have h1 := textL_len a ha
    have h2 := dec_len m
    simp [pointL]; omega
  have z3 : (str (pointL b n)).size ≤ 100000 := by
    rw [str_size]
    have h1 := textL_len b hb
    have h2 := dec_len n
    simp [pointL]; omega
  generalize str (twL p) = S1 at *
  generalize str (pointL a m) = S2 at *
  generalize str (pointL b n) = S3 at *
  have q1 : S1.size + 1 ≤ 9223372036854775807 := by omega
  have q2 : S1.size + 1 + S2.size ≤ 9223372036854775807 := by omega
  have q3 : S1.size + 1 + S2.size + 1 ≤ 9223372036854775807 := by omega
  have q4 : S1.size + 1 + S2.size + 1 + S3.size ≤ 9223372036854775807 := by omega
  clear hk z1 z2 z3
  go_enter Tryz.func27, Tryz.ntmps27
  have B1 := Below.refl w.heap.size w
  go_wp2_with fail
  have T_2 := Box5.make w (.int .u8 (p : Int)) (.int .u32 (a : Int)) (.int .u16 (m : Int)) (.int .u32 (b : Int)) (.int .u16 (n : Int)) 33
  have B3 := B1.alloc B1.size (.cells #[.int .u8 (p : Int), .int .u32 (a : Int), .int .u16 (m : Int), .int .u32 (b : Int), .int .u16 (n : Int)] 33)
  clear B1
  refine (cm _).mono ?_; rintro e w1 ⟨rfl, x1⟩
  have T_4 := T_2.on x1
  have B5 := B3.trans (x1.mono B3.size)
  clear T_2 B3 x1
  clear cm
  go_wp2_with fail
  have HT := ht.on B5
  obtain ⟨zt, gt0, gt1, gt2, gt3, gt4⟩ := id T_4
  have Ft0 := lat_ gt0 zt
  have Ft1 := lat_ gt1 zt
  have Ft2 := lat_ gt2 zt
  have Ft3 := lat_ gt3 zt
  have Ft4 := lat_ gt4 zt
  clear gt0 gt1 gt2 gt3 gt4
  refine region_later (B := w1.heap.size) (by kernel_rfl) (by kernel_rfl) ?_
  repeat (go_big_quiet_step (first
    | (go_at_call 62; exact later_same _ (cw _))
    | (go_at_call_of 63 (a : Int); exact later_of _ (Nat.le_refl _) (c1 _ (HT.on (Later.h _))))
    | (go_at_call_of 63 (b : Int); exact later_of _ (Nat.le_refl _) (c2 _ (HT.on (Later.h _))))))
  refine later_end fun w2 x2 => ?_
  have T_6 := T_4.on x2
  have B7 := B5.trans (x2.mono B5.size)
  clear Ft0 Ft1 Ft2 Ft3 Ft4 zt T_4 B5 x2
  go_wp2
  go_ret
  rw [HV.out]
  exact ⟨rfl, B7⟩
/-- A box of 9 cells that is written whole: its cells, and its marks. -/
theorem box9f_ {W0 W : World} {b n : Nat} {v0 v1 v2 v3 v4 v5 v6 v7 v8 : Value} {M : World → Prop} (h : ∀ j, j < 9 → (W.cell? ⟨b, j, none⟩).isSome = true) (hb : Below n W0 W) (hn : n ≤ b)
    (k : ∀ X : World, X.cell? ⟨b, 0, none⟩ = some v0 → X.cell? ⟨b, 1, none⟩ = some v1 → X.cell? ⟨b, 2, none⟩ = some v2 → X.cell? ⟨b, 3, none⟩ = some v3 → X.cell? ⟨b, 4, none⟩ = some v4 → X.cell? ⟨b, 5, none⟩ = some v5 → X.cell? ⟨b, 6, none⟩ = some v6 → X.cell? ⟨b, 7, none⟩ = some v7 → X.cell? ⟨b, 8, none⟩ = some v8 → Below n W0 X → (∀ a : Addr, ¬ b = a.block → X.cell? a = W.cell? a) → X.heap.size = W.heap.size → (∀ a : Addr, X.frozen? a = W.frozen? a) → M X) :
    M (((((((((W.setCell ⟨b, 0, none⟩ v0).setCell ⟨b, 1, none⟩ v1).setCell ⟨b, 2, none⟩ v2).setCell ⟨b, 3, none⟩ v3).setCell ⟨b, 4, none⟩ v4).setCell ⟨b, 5, none⟩ v5).setCell ⟨b, 6, none⟩ v6).setCell ⟨b, 7, none⟩ v7).setCell ⟨b, 8, none⟩ v8) := by
  have f : ∀ a : Addr, (((((((((W.setCell ⟨b, 0, none⟩ v0).setCell ⟨b, 1, none⟩ v1).setCell ⟨b, 2, none⟩ v2).setCell ⟨b, 3, none⟩ v3).setCell ⟨b, 4, none⟩ v4).setCell ⟨b, 5, none⟩ v5).setCell ⟨b, 6, none⟩ v6).setCell ⟨b, 7, none⟩ v7).setCell ⟨b, 8, none⟩ v8).frozen? a = W.frozen? a := by intro a; simp
  have key := box9_ (W0 := W0) (W := W) (b := b) (n := n) (v0 := v0) (v1 := v1) (v2 := v2) (v3 := v3) (v4 := v4) (v5 := v5) (v6 := v6) (v7 := v7) (v8 := v8) (M := fun X => (∀ a : Addr, X.frozen? a = W.frozen? a) → M X) h hb hn k
  exact key f
theorem seen8_ (h0 h1 h3 h5 h6 : Int) (h2 : Bool) (h7 L : ByteArray) (pr k m n : Int) (w : World) :
    Cw_ 94 #[.agg #[.int .u8 h0, .int .u16 h1, .bool h2, .int .u8 h3, .int .u8 pr, .int .u32 h5, .int .u32 h6, .string h7, .string L], .int .i64 k, .int .u16 m, .int .u16 n] (.agg #[.int .u8 pr, .int .u32 h5, .int .u16 m, .int .u32 h6, .int .u16 n, .int .i64 k, .int .u8 0, .bool false, .int .u8 h3]) w := by
  go_enter Tryz.func94, Tryz.ntmps94
  have B1 := Below.refl w.heap.size w
  go_upto_region 1 with fail
  have P_2 := Box9.make w (.int .u8 h0) (.int .u16 h1) (.bool h2) (.int .u8 h3) (.int .u8 pr) (.int .u32 h5) (.int .u32 h6) (.string h7) (.string L) 98
  have B3 := B1.alloc B1.size (.cells #[.int .u8 h0, .int .u16 h1, .bool h2, .int .u8 h3, .int .u8 pr, .int .u32 h5, .int .u32 h6, .string h7, .string L] 98)
  clear B1
  have al := alO_ B3 (.cells #[.int .u8 0, .int .u32 0, .int .u16 0, .int .u32 0, .int .u16 0, .int .i64 0, .int .u8 0, .bool false, .int .u8 0] 55)
  have P_4 := P_2.on al
  have hs_ : (w.alloc (.cells #[.int .u8 h0, .int .u16 h1, .bool h2, .int .u8 h3, .int .u8 pr, .int .u32 h5, .int .u32 h6, .string h7, .string L] 98)).heap.size = w.heap.size + 1 := by simp
  have R_5 := Box9.make (w.alloc (.cells #[.int .u8 h0, .int .u16 h1, .bool h2, .int .u8 h3, .int .u8 pr, .int .u32 h5, .int .u32 h6, .string h7, .string L] 98)) (.int .u8 0) (.int .u32 0) (.int .u16 0) (.int .u32 0) (.int .u16 0) (.int .i64 0) (.int .u8 0) (.bool false) (.int .u8 0) 55
  rw [hs_] at R_5
  clear hs_
  have B6 := B3.trans (al.mono B3.size)
  clear al
  clear P_2 B3
  have fzR_7 : ∀ i, ((w.alloc (.cells #[.int .u8 h0, .int .u16 h1, .bool h2, .int .u8 h3, .int .u8 pr, .int .u32 h5, .int .u32 h6, .string h7, .string L] 98)).alloc (.cells #[.int .u8 0, .int .u32 0, .int .u16 0, .int .u32 0, .int .u16 0, .int .i64 0, .int .u8 0, .bool false, .int .u8 0] 55)).frozen? ⟨(w.heap.size + 1), i, none⟩ = false := by intro i; simp [go_sem]
  obtain ⟨u1, hu1⟩ : ∃ x, x = (w.alloc (.cells #[.int .u8 h0, .int .u16 h1, .bool h2, .int .u8 h3, .int .u8 pr, .int .u32 h5, .int .u32 h6, .string h7, .string L] 98)).alloc (.cells #[.int .u8 0, .int .u32 0, .int .u16 0, .int .u32 0, .int .u16 0, .int .i64 0, .int .u8 0, .bool false, .int .u8 0] 55) := ⟨_, rfl⟩
  rw [← hu1] at P_4 R_5 fzR_7 B6 ⊢
  clear hu1
  obtain ⟨_, p1_0, p1_1, p1_2, p1_3, p1_4, p1_5, p1_6, p1_7, p1_8⟩ := id P_4
  obtain ⟨_, r2_0, r2_1, r2_2, r2_3, r2_4, r2_5, r2_6, r2_7, r2_8⟩ := id R_5
  go_wp2
  refine box9_ (b := w.heap.size + 1) R_5.some B6 (Nat.le_succ _) fun Z y0 y1 y2 y3 y4 y5 y6 y7 y8 BZ _ _ => ?_
  refine bodyPost_ret (v := .agg #[.int .u8 pr, .int .u32 h5, .int .u16 m, .int .u32 h6, .int .u16 n, .int .i64 k, .int .u8 0, .bool false, .int .u8 h3]) (by simp [results, Tryz.results94, go_sem, y0, y1, y2, y3, y4, y5, y6, y7, y8]) rfl ?_
  exact ⟨rfl, BZ⟩
theorem datagram8_bad (h0 h1 h3 h5 h6 : Int) (h2 : Bool) (h7 L : ByteArray) (cm : Cb_ 95 #[.string L] (.tuple #[.agg #[.int .u16 0, .int .u16 0, .int .u16 0, .int .u16 0], .string ⟨#[]⟩, .bool false])) (w : World) :
    Cw_ 45 #[.agg #[.int .u8 h0, .int .u16 h1, .bool h2, .int .u8 h3, .int .u8 17, .int .u32 h5, .int .u32 h6, .string h7, .string L]] (.tuple #[.agg #[.int .u8 0, .int .u32 0, .int .u16 0, .int .u32 0, .int .u16 0, .int .i64 0, .int .u8 0, .bool false, .int .u8 0], .int .i64 7]) w := by
  go_enter Tryz.func45, Tryz.ntmps45
  have B1 := Below.refl w.heap.size w
  go_wp2_with fail
  have P_2 := Box9.make w (.int .u8 h0) (.int .u16 h1) (.bool h2) (.int .u8 h3) (.int .u8 17) (.int .u32 h5) (.int .u32 h6) (.string h7) (.string L) 98
  have B3 := B1.alloc B1.size (.cells #[.int .u8 h0, .int .u16 h1, .bool h2, .int .u8 h3, .int .u8 17, .int .u32 h5, .int .u32 h6, .string h7, .string L] 98)
  clear B1
  have al := alO_ B3 (.cells #[.int .u8 0, .int .u32 0, .int .u16 0, .int .u32 0, .int .u16 0, .int .i64 0, .int .u8 0, .bool false, .int .u8 0] 55)
  have P_4 := P_2.on al
  have hs_ : (w.alloc (.cells #[.int .u8 h0, .int .u16 h1, .bool h2, .int .u8 h3, .int .u8 17, .int .u32 h5, .int .u32 h6, .string h7, .string L] 98)).heap.size = w.heap.size + 1 := by simp
  have R_5 := Box9.make (w.alloc (.cells #[.int .u8 h0, .int .u16 h1, .bool h2, .int .u8 h3, .int .u8 17, .int .u32 h5, .int .u32 h6, .string h7, .string L] 98)) (.int .u8 0) (.int .u32 0) (.int .u16 0) (.int .u32 0) (.int .u16 0) (.int .i64 0) (.int .u8 0) (.bool false) (.int .u8 0) 55
  rw [hs_] at R_5
  clear hs_
  have B6 := B3.trans (al.mono B3.size)
  clear al
  clear P_2 B3
  have fzR_7 : ∀ i, ((w.alloc (.cells #[.int .u8 h0, .int .u16 h1, .bool h2, .int .u8 h3, .int .u8 17, .int .u32 h5, .int .u32 h6, .string h7, .string L] 98)).alloc (.cells #[.int .u8 0, .int .u32 0, .int .u16 0, .int .u32 0, .int .u16 0, .int .i64 0, .int .u8 0, .bool false, .int .u8 0] 55)).frozen? ⟨(w.heap.size + 1), i, none⟩ = false := by intro i; simp [go_sem]
  obtain ⟨u1, hu1⟩ : ∃ x, x = (w.alloc (.cells #[.int .u8 h0, .int .u16 h1, .bool h2, .int .u8 h3, .int .u8 17, .int .u32 h5, .int .u32 h6, .string h7, .string L] 98)).alloc (.cells #[.int .u8 0, .int .u32 0, .int .u16 0, .int .u32 0, .int .u16 0, .int .i64 0, .int .u8 0, .bool false, .int .u8 0] 55) := ⟨_, rfl⟩
  rw [← hu1] at P_4 R_5 fzR_7 B6 ⊢
  clear hu1
  refine (cm _).mono ?_; rintro e w1 ⟨rfl, x1⟩
  have fzR_8 := fzB_ x1 R_5.1 fzR_7
  clear fzR_7
  have P_9 := P_4.on x1
  have R_10 := R_5.on x1
  have B11 := B6.trans (x1.mono B6.size)
  clear P_4 R_5 B6 x1
  clear cm
  have Lt := Lib.hid (show w.heap.size + 1 < w1.heap.size from R_10.1)
  have al := alO_ B11 (.cells #[.int .u16 0, .int .u16 0, .int .u16 0, .int .u16 0] 154)
  have fzR_12 := fzB_ al R_10.1 fzR_8
  clear fzR_8
  have P_13 := P_9.on al
  have R_14 := R_10.on al
  have G_15 := Box4.make w1 (.int .u16 0) (.int .u16 0) (.int .u16 0) (.int .u16 0) 154
  have B16 := B11.trans (al.mono B11.size)
  clear al
  clear P_9 R_10 B11
  obtain ⟨_, r1_0, r1_1, r1_2, r1_3, r1_4, r1_5, r1_6, r1_7, r1_8⟩ := id R_14
  go_wp2
  refine box9_ (b := w.heap.size + 1) R_14.some B16 (Nat.le_succ _) fun Z y0 y1 y2 y3 y4 y5 y6 y7 y8 BZ _ _ => ?_
  refine bodyPost_ret (v := .tuple #[.agg #[.int .u8 0, .int .u32 0, .int .u16 0, .int .u32 0, .int .u16 0, .int .i64 0, .int .u8 0, .bool false, .int .u8 0], .int .i64 7]) (by simp [results, Tryz.results45, go_sem, y0, y1, y2, y3, y4, y5, y6, y7, y8]) rfl ?_
  exact ⟨rfl, BZ⟩
theorem datagram8_ok (h0 h1 h3 h5 h6 : Int) (h2 : Bool) (h7 L : ByteArray) (g0 g1 g2 g3 : Int) (Q : ByteArray) (cm : Cb_ 95 #[.string L] (.tuple #[.agg #[.int .u16 g0, .int .u16 g1, .int .u16 g2, .int .u16 g3], .string Q, .bool true])) (w : World) :
    Cw_ 45 #[.agg #[.int .u8 h0, .int .u16 h1, .bool h2, .int .u8 h3, .int .u8 17, .int .u32 h5, .int .u32 h6, .string h7, .string L]] (.tuple #[.agg #[.int .u8 17, .int .u32 h5, .int .u16 g0, .int .u32 h6, .int .u16 g1, .int .i64 2, .int .u8 0, .bool false, .int .u8 h3], .int .i64 0]) w := by
  go_enter Tryz.func45, Tryz.ntmps45
  have B1 := Below.refl w.heap.size w
  go_wp2_with fail
  have P_2 := Box9.make w (.int .u8 h0) (.int .u16 h1) (.bool h2) (.int .u8 h3) (.int .u8 17) (.int .u32 h5) (.int .u32 h6) (.string h7) (.string L) 98
  have B3 := B1.alloc B1.size (.cells #[.int .u8 h0, .int .u16 h1, .bool h2, .int .u8 h3, .int .u8 17, .int .u32 h5, .int .u32 h6, .string h7, .string L] 98)
  clear B1
  have al := alO_ B3 (.cells #[.int .u8 0, .int .u32 0, .int .u16 0, .int .u32 0, .int .u16 0, .int .i64 0, .int .u8 0, .bool false, .int .u8 0] 55)
  have P_4 := P_2.on al
  have hs_ : (w.alloc (.cells #[.int .u8 h0, .int .u16 h1, .bool h2, .int .u8 h3, .int .u8 17, .int .u32 h5, .int .u32 h6, .string h7, .string L] 98)).heap.size = w.heap.size + 1 := by simp
  have R_5 := Box9.make (w.alloc (.cells #[.int .u8 h0, .int .u16 h1, .bool h2, .int .u8 h3, .int .u8 17, .int .u32 h5, .int .u32 h6, .string h7, .string L] 98)) (.int .u8 0) (.int .u32 0) (.int .u16 0) (.int .u32 0) (.int .u16 0) (.int .i64 0) (.int .u8 0) (.bool false) (.int .u8 0) 55
  rw [hs_] at R_5
  clear hs_
  have B6 := B3.trans (al.mono B3.size)
  clear al
  clear P_2 B3
  have fzR_7 : ∀ i, ((w.alloc (.cells #[.int .u8 h0, .int .u16 h1, .bool h2, .int .u8 h3, .int .u8 17, .int .u32 h5, .int .u32 h6, .string h7, .string L] 98)).alloc (.cells #[.int .u8 0, .int .u32 0, .int .u16 0, .int .u32 0, .int .u16 0, .int .i64 0, .int .u8 0, .bool false, .int .u8 0] 55)).frozen? ⟨(w.heap.size + 1), i, none⟩ = false := by intro i; simp [go_sem]
  obtain ⟨u1, hu1⟩ : ∃ x, x = (w.alloc (.cells #[.int .u8 h0, .int .u16 h1, .bool h2, .int .u8 h3, .int .u8 17, .int .u32 h5, .int .u32 h6, .string h7, .string L] 98)).alloc (.cells #[.int .u8 0, .int .u32 0, .int .u16 0, .int .u32 0, .int .u16 0, .int .i64 0, .int .u8 0, .bool false, .int .u8 0] 55) := ⟨_, rfl⟩
  rw [← hu1] at P_4 R_5 fzR_7 B6 ⊢
  clear hu1
  refine (cm _).mono ?_; rintro e w1 ⟨rfl, x1⟩
  have fzR_8 := fzB_ x1 R_5.1 fzR_7
  clear fzR_7
  have P_9 := P_4.on x1
  have R_10 := R_5.on x1
  have B11 := B6.trans (x1.mono B6.size)
  clear P_4 R_5 B6 x1
  clear cm
  have Lt := Lib.hid (show w.heap.size + 1 < w1.heap.size from R_10.1)
  have al := alO_ B11 (.cells #[.int .u16 g0, .int .u16 g1, .int .u16 g2, .int .u16 g3] 154)
  have fzR_12 := fzB_ al R_10.1 fzR_8
  clear fzR_8
  have P_13 := P_9.on al
  have R_14 := R_10.on al
  have G_15 := Box4.make w1 (.int .u16 g0) (.int .u16 g1) (.int .u16 g2) (.int .u16 g3) 154
  have B16 := B11.trans (al.mono B11.size)
  clear al
  clear P_9 R_10 B11
  obtain ⟨_, p1_0, p1_1, p1_2, p1_3, p1_4, p1_5, p1_6, p1_7, p1_8⟩ := id P_13
  obtain ⟨_, g2_0, g2_1, g2_2, g2_3⟩ := id G_15
  go_wp2_with fail
  refine ((seen8_ h0 h1 h3 h5 h6 h2 h7 L 17 2 g0 g1 _)).mono ?_; rintro e w2 ⟨rfl, x2⟩
  have fzR_17 := fzB_ x2 R_14.1 fzR_12
  clear fzR_12
  have P_18 := P_13.on x2
  have R_19 := R_14.on x2
  have G_20 := G_15.on x2
  have B21 := B16.trans (x2.mono B16.size)
  clear p1_0 p1_1 p1_2 p1_3 p1_4 p1_5 p1_6 p1_7 p1_8 g2_0 g2_1 g2_2 g2_3 P_13 R_14 G_15 B16 x2
  obtain ⟨_, r3_0, r3_1, r3_2, r3_3, r3_4, r3_5, r3_6, r3_7, r3_8⟩ := id R_19
  go_wp2
  refine box9_ (b := w.heap.size + 1) R_19.some B21 (Nat.le_succ _) fun Z y0 y1 y2 y3 y4 y5 y6 y7 y8 BZ _ _ => ?_
  refine bodyPost_ret (v := .tuple #[.agg #[.int .u8 17, .int .u32 h5, .int .u16 g0, .int .u32 h6, .int .u16 g1, .int .i64 2, .int .u8 0, .bool false, .int .u8 h3], .int .i64 0]) (by simp [results, Tryz.results45, go_sem, y0, y1, y2, y3, y4, y5, y6, y7, y8]) rfl ?_
  exact ⟨rfl, BZ⟩
theorem segment8_bad (h0 h1 h3 h5 h6 : Int) (h2 : Bool) (h7 L : ByteArray) (cm : Cb_ 93 #[.string L] (.tuple #[.agg #[.int .u16 0, .int .u16 0, .int .u32 0, .int .u32 0, .int .u8 0, .int .u8 0, .int .u16 0, .int .u16 0, .int .u16 0, .string ⟨#[]⟩], .string ⟨#[]⟩, .bool false])) (w : World) :
    Cw_ 44 #[.agg #[.int .u8 h0, .int .u16 h1, .bool h2, .int .u8 h3, .int .u8 6, .int .u32 h5, .int .u32 h6, .string h7, .string L]] (.tuple #[.agg #[.int .u8 0, .int .u32 0, .int .u16 0, .int .u32 0, .int .u16 0, .int .i64 0, .int .u8 0, .bool false, .int .u8 0], .int .i64 7]) w := by
  go_enter Tryz.func44, Tryz.ntmps44
  have B1 := Below.refl w.heap.size w
  go_wp2_with fail
  have P_2 := Box9.make w (.int .u8 h0) (.int .u16 h1) (.bool h2) (.int .u8 h3) (.int .u8 6) (.int .u32 h5) (.int .u32 h6) (.string h7) (.string L) 98
  have B3 := B1.alloc B1.size (.cells #[.int .u8 h0, .int .u16 h1, .bool h2, .int .u8 h3, .int .u8 6, .int .u32 h5, .int .u32 h6, .string h7, .string L] 98)
  clear B1
  have al := alO_ B3 (.cells #[.int .u8 0, .int .u32 0, .int .u16 0, .int .u32 0, .int .u16 0, .int .i64 0, .int .u8 0, .bool false, .int .u8 0] 55)
  have P_4 := P_2.on al
  have hs_ : (w.alloc (.cells #[.int .u8 h0, .int .u16 h1, .bool h2, .int .u8 h3, .int .u8 6, .int .u32 h5, .int .u32 h6, .string h7, .string L] 98)).heap.size = w.heap.size + 1 := by simp
  have R_5 := Box9.make (w.alloc (.cells #[.int .u8 h0, .int .u16 h1, .bool h2, .int .u8 h3, .int .u8 6, .int .u32 h5, .int .u32 h6, .string h7, .string L] 98)) (.int .u8 0) (.int .u32 0) (.int .u16 0) (.int .u32 0) (.int .u16 0) (.int .i64 0) (.int .u8 0) (.bool false) (.int .u8 0) 55
  rw [hs_] at R_5
  clear hs_
  have B6 := B3.trans (al.mono B3.size)
  clear al
  clear P_2 B3
  have fzR_7 : ∀ i, ((w.alloc (.cells #[.int .u8 h0, .int .u16 h1, .bool h2, .int .u8 h3, .int .u8 6, .int .u32 h5, .int .u32 h6, .string h7, .string L] 98)).alloc (.cells #[.int .u8 0, .int .u32 0, .int .u16 0, .int .u32 0, .int .u16 0, .int .i64 0, .int .u8 0, .bool false, .int .u8 0] 55)).frozen? ⟨(w.heap.size + 1), i, none⟩ = false := by intro i; simp [go_sem]
  obtain ⟨u1, hu1⟩ : ∃ x, x = (w.alloc (.cells #[.int .u8 h0, .int .u16 h1, .bool h2, .int .u8 h3, .int .u8 6, .int .u32 h5, .int .u32 h6, .string h7, .string L] 98)).alloc (.cells #[.int .u8 0, .int .u32 0, .int .u16 0, .int .u32 0, .int .u16 0, .int .i64 0, .int .u8 0, .bool false, .int .u8 0] 55) := ⟨_, rfl⟩
  rw [← hu1] at P_4 R_5 fzR_7 B6 ⊢
  clear hu1
  refine (cm _).mono ?_; rintro e w1 ⟨rfl, x1⟩
  have fzR_8 := fzB_ x1 R_5.1 fzR_7
  clear fzR_7
  have P_9 := P_4.on x1
  have R_10 := R_5.on x1
  have B11 := B6.trans (x1.mono B6.size)
  clear P_4 R_5 B6 x1
  clear cm
  have Lt := Lib.hid (show w.heap.size + 1 < w1.heap.size from R_10.1)
  have al := alO_ B11 (.cells #[.int .u16 0, .int .u16 0, .int .u32 0, .int .u32 0, .int .u8 0, .int .u8 0, .int .u16 0, .int .u16 0, .int .u16 0, .string ⟨#[]⟩] 149)
  have fzR_12 := fzB_ al R_10.1 fzR_8
  clear fzR_8
  have P_13 := P_9.on al
  have R_14 := R_10.on al
  have G_15 := Box10.make w1 (.int .u16 0) (.int .u16 0) (.int .u32 0) (.int .u32 0) (.int .u8 0) (.int .u8 0) (.int .u16 0) (.int .u16 0) (.int .u16 0) (.string ⟨#[]⟩) 149
  have B16 := B11.trans (al.mono B11.size)
  clear al
  clear P_9 R_10 B11
  obtain ⟨_, r1_0, r1_1, r1_2, r1_3, r1_4, r1_5, r1_6, r1_7, r1_8⟩ := id R_14
  go_wp2
  refine box9_ (b := w.heap.size + 1) R_14.some B16 (Nat.le_succ _) fun Z y0 y1 y2 y3 y4 y5 y6 y7 y8 BZ _ _ => ?_
  refine bodyPost_ret (v := .tuple #[.agg #[.int .u8 0, .int .u32 0, .int .u16 0, .int .u32 0, .int .u16 0, .int .i64 0, .int .u8 0, .bool false, .int .u8 0], .int .i64 7]) (by simp [results, Tryz.results44, go_sem, y0, y1, y2, y3, y4, y5, y6, y7, y8]) rfl ?_
  exact ⟨rfl, BZ⟩
theorem segment8_first (h0 h1 h3 h5 h6 : Int) (h2 : Bool) (h7 L : ByteArray) (g0 g1 g2 g3 g4 g5 g6 g7 g8 : Int) (g9 Q : ByteArray) (cm : Cb_ 93 #[.string L] (.tuple #[.agg #[.int .u16 g0, .int .u16 g1, .int .u32 g2, .int .u32 g3, .int .u8 g4, .int .u8 g5, .int .u16 g6, .int .u16 g7, .int .u16 g8, .string g9], .string Q, .bool true])) (e2 : (bits .and .u8 g5 23 == 2) = true) (w : World) :
    Cw_ 44 #[.agg #[.int .u8 h0, .int .u16 h1, .bool h2, .int .u8 h3, .int .u8 6, .int .u32 h5, .int .u32 h6, .string h7, .string L]] (.tuple #[.agg #[.int .u8 6, .int .u32 h5, .int .u16 g0, .int .u32 h6, .int .u16 g1, .int .i64 1, .int .u8 g5, .bool false, .int .u8 h3], .int .i64 0]) w := by
  go_enter Tryz.func44, Tryz.ntmps44
  have B1 := Below.refl w.heap.size w
  go_wp2_with fail
  have P_2 := Box9.make w (.int .u8 h0) (.int .u16 h1) (.bool h2) (.int .u8 h3) (.int .u8 6) (.int .u32 h5) (.int .u32 h6) (.string h7) (.string L) 98
  have B3 := B1.alloc B1.size (.cells #[.int .u8 h0, .int .u16 h1, .bool h2, .int .u8 h3, .int .u8 6, .int .u32 h5, .int .u32 h6, .string h7, .string L] 98)
  clear B1
  have al := alO_ B3 (.cells #[.int .u8 0, .int .u32 0, .int .u16 0, .int .u32 0, .int .u16 0, .int .i64 0, .int .u8 0, .bool false, .int .u8 0] 55)
  have P_4 := P_2.on al
  have hs_ : (w.alloc (.cells #[.int .u8 h0, .int .u16 h1, .bool h2, .int .u8 h3, .int .u8 6, .int .u32 h5, .int .u32 h6, .string h7, .string L] 98)).heap.size = w.heap.size + 1 := by simp
  have R_5 := Box9.make (w.alloc (.cells #[.int .u8 h0, .int .u16 h1, .bool h2, .int .u8 h3, .int .u8 6, .int .u32 h5, .int .u32 h6, .string h7, .string L] 98)) (.int .u8 0) (.int .u32 0) (.int .u16 0) (.int .u32 0) (.int .u16 0) (.int .i64 0) (.int .u8 0) (.bool false) (.int .u8 0) 55
  rw [hs_] at R_5
  clear hs_
  have B6 := B3.trans (al.mono B3.size)
  clear al
  clear P_2 B3
  have fzR_7 : ∀ i, ((w.alloc (.cells #[.int .u8 h0, .int .u16 h1, .bool h2, .int .u8 h3, .int .u8 6, .int .u32 h5, .int .u32 h6, .string h7, .string L] 98)).alloc (.cells #[.int .u8 0, .int .u32 0, .int .u16 0, .int .u32 0, .int .u16 0, .int .i64 0, .int .u8 0, .bool false, .int .u8 0] 55)).frozen? ⟨(w.heap.size + 1), i, none⟩ = false := by intro i; simp [go_sem]
  obtain ⟨u1, hu1⟩ : ∃ x, x = (w.alloc (.cells #[.int .u8 h0, .int .u16 h1, .bool h2, .int .u8 h3, .int .u8 6, .int .u32 h5, .int .u32 h6, .string h7, .string L] 98)).alloc (.cells #[.int .u8 0, .int .u32 0, .int .u16 0, .int .u32 0, .int .u16 0, .int .i64 0, .int .u8 0, .bool false, .int .u8 0] 55) := ⟨_, rfl⟩
  rw [← hu1] at P_4 R_5 fzR_7 B6 ⊢
  clear hu1
  refine (cm _).mono ?_; rintro e w1 ⟨rfl, x1⟩
  have fzR_8 := fzB_ x1 R_5.1 fzR_7
  clear fzR_7
  have P_9 := P_4.on x1
  have R_10 := R_5.on x1
  have B11 := B6.trans (x1.mono B6.size)
  clear P_4 R_5 B6 x1
  clear cm
  have Lt := Lib.hid (show w.heap.size + 1 < w1.heap.size from R_10.1)
  have al := alO_ B11 (.cells #[.int .u16 g0, .int .u16 g1, .int .u32 g2, .int .u32 g3, .int .u8 g4, .int .u8 g5, .int .u16 g6, .int .u16 g7, .int .u16 g8, .string g9] 149)
  have fzR_12 := fzB_ al R_10.1 fzR_8
  clear fzR_8
  have P_13 := P_9.on al
  have R_14 := R_10.on al
  have G_15 := Box10.make w1 (.int .u16 g0) (.int .u16 g1) (.int .u32 g2) (.int .u32 g3) (.int .u8 g4) (.int .u8 g5) (.int .u16 g6) (.int .u16 g7) (.int .u16 g8) (.string g9) 149
  have B16 := B11.trans (al.mono B11.size)
  clear al
  clear P_9 R_10 B11
  have ne1_ : ¬ w.heap.size + 1 = w1.heap.size := by have := Lt.out; omega
  have ne2_ : ¬ w1.heap.size = w.heap.size + 1 := by have := Lt.out; omega
  obtain ⟨_, p1_0, p1_1, p1_2, p1_3, p1_4, p1_5, p1_6, p1_7, p1_8⟩ := id P_13
  obtain ⟨_, g2_0, g2_1, g2_2, g2_3, g2_4, g2_5, g2_6, g2_7, g2_8, g2_9⟩ := id G_15
  go_wp2_with fail
  refine ((seen8_ h0 h1 h3 h5 h6 h2 h7 L 6 2 g0 g1 _)).mono ?_; rintro e w2 ⟨rfl, x2⟩
  have fzR_17 := fzB_ x2 R_14.1 fzR_12
  clear fzR_12
  have P_18 := P_13.on x2
  have R_19 := R_14.on x2
  have G_20 := G_15.on x2
  have B21 := B16.trans (x2.mono B16.size)
  clear p1_0 p1_1 p1_2 p1_3 p1_4 p1_5 p1_6 p1_7 p1_8 g2_0 g2_1 g2_2 g2_3 g2_4 g2_5 g2_6 g2_7 g2_8 g2_9 P_13 R_14 G_15 B16 x2
  clear P_18
  obtain ⟨_, r3_0, r3_1, r3_2, r3_3, r3_4, r3_5, r3_6, r3_7, r3_8⟩ := id R_19
  go_upto_region 5 with fail
  refine box9f_ (b := w.heap.size + 1) R_19.some B21 (Nat.le_succ _) fun z3 y3_0 y3_1 y3_2 y3_3 y3_4 y3_5 y3_6 y3_7 y3_8 B22 far sz fzz => ?_
  have R_23 : Box9 z3 (w.heap.size + 1) (.int .u8 6) (.int .u32 h5) (.int .u16 g0) (.int .u32 h6) (.int .u16 g1) (.int .i64 2) (.int .u8 0) (.bool false) (.int .u8 h3) := ⟨by rw [sz]; exact R_19.1, y3_0, y3_1, y3_2, y3_3, y3_4, y3_5, y3_6, y3_7, y3_8⟩
  have G_24 := G_20.far far ne1_
  have fzR_25 : ∀ i, z3.frozen? ⟨(w.heap.size + 1), i, none⟩ = false := fun i => (fzz _).trans (fzR_17 i)
  clear r3_0 r3_1 r3_2 r3_3 r3_4 r3_5 r3_6 r3_7 r3_8 y3_0 y3_1 y3_2 y3_3 y3_4 y3_5 y3_6 y3_7 y3_8 R_19 B21 G_20 fzR_17 far sz fzz
  obtain ⟨_, r4_0, r4_1, r4_2, r4_3, r4_4, r4_5, r4_6, r4_7, r4_8⟩ := id R_23
  obtain ⟨_, g5_0, g5_1, g5_2, g5_3, g5_4, g5_5, g5_6, g5_7, g5_8, g5_9⟩ := id G_24
  go_upto_region 6 with fail
  clear r4_0 r4_1 r4_2 r4_3 r4_4 r4_5 r4_6 r4_7 r4_8 g5_0 g5_1 g5_2 g5_3 g5_4 g5_5 g5_6 g5_7 g5_8 g5_9
  obtain ⟨_, r6_0, r6_1, r6_2, r6_3, r6_4, r6_5, r6_6, r6_7, r6_8⟩ := id R_23
  obtain ⟨_, g7_0, g7_1, g7_2, g7_3, g7_4, g7_5, g7_6, g7_7, g7_8, g7_9⟩ := id G_24
  have B26 := (B22.setCell (p := ⟨(w.heap.size + 1), 6, none⟩) (Nat.le_succ _) (.int .u8 g5))
  have R_27 : Box9 (z3.setCell ⟨(w.heap.size + 1), 6, none⟩ (.int .u8 g5)) (w.heap.size + 1) (.int .u8 6) (.int .u32 h5) (.int .u16 g0) (.int .u32 h6) (.int .u16 g1) (.int .i64 2) (.int .u8 g5) (.bool false) (.int .u8 h3) := ⟨by have := R_23.1; simpa using this, by simp [go_sem, r6_0, r6_1, r6_2, r6_3, r6_4, r6_5, r6_6, r6_7, r6_8, g7_0, g7_1, g7_2, g7_3, g7_4, g7_5, g7_6, g7_7, g7_8, g7_9]⟩
  have G_28 : Box10 (z3.setCell ⟨(w.heap.size + 1), 6, none⟩ (.int .u8 g5)) w1.heap.size (.int .u16 g0) (.int .u16 g1) (.int .u32 g2) (.int .u32 g3) (.int .u8 g4) (.int .u8 g5) (.int .u16 g6) (.int .u16 g7) (.int .u16 g8) (.string g9) := ⟨by have := G_24.1; simpa using this, by simp [go_sem, r6_0, r6_1, r6_2, r6_3, r6_4, r6_5, r6_6, r6_7, r6_8, g7_0, g7_1, g7_2, g7_3, g7_4, g7_5, g7_6, g7_7, g7_8, g7_9]⟩
  have fzR_29 : ∀ i, (z3.setCell ⟨(w.heap.size + 1), 6, none⟩ (.int .u8 g5)).frozen? ⟨(w.heap.size + 1), i, none⟩ = false := by intro i; simp [fzR_25]
  clear r6_0 r6_1 r6_2 r6_3 r6_4 r6_5 r6_6 r6_7 r6_8 g7_0 g7_1 g7_2 g7_3 g7_4 g7_5 g7_6 g7_7 g7_8 g7_9 R_23 G_24 fzR_25 B22
  obtain ⟨u4, hu4⟩ : ∃ x, x = (z3.setCell ⟨(w.heap.size + 1), 6, none⟩ (.int .u8 g5)) := ⟨_, rfl⟩
  rw [← hu4] at R_27 G_28 fzR_29 B26 ⊢
  clear hu4
  obtain ⟨_, g8_0, g8_1, g8_2, g8_3, g8_4, g8_5, g8_6, g8_7, g8_8, g8_9⟩ := id G_28
  obtain ⟨_, r9_0, r9_1, r9_2, r9_3, r9_4, r9_5, r9_6, r9_7, r9_8⟩ := id R_27
  go_wp2
  have sm_ : ∀ j, j < 9 → ((u4.setCell ⟨w.heap.size + 1, 5, none⟩ (.int .i64 1)).cell? ⟨w.heap.size + 1, j, none⟩).isSome = true := by
    intro j hj
    match j, hj with
    | 0, _ => simp [go_sem, r9_0]
    | 1, _ => simp [go_sem, r9_1]
    | 2, _ => simp [go_sem, r9_2]
    | 3, _ => simp [go_sem, r9_3]
    | 4, _ => simp [go_sem, r9_4]
    | 5, _ => simp [go_sem, r9_5]
    | 6, _ => simp [go_sem, r9_6]
    | 7, _ => simp [go_sem, r9_7]
    | 8, _ => simp [go_sem, r9_8]
  refine box9_ (b := w.heap.size + 1) sm_ (B26.setCell (p := ⟨w.heap.size + 1, 5, none⟩) (Nat.le_succ _) (.int .i64 1)) (Nat.le_succ _) fun Z y0 y1 y2 y3 y4 y5 y6 y7 y8 BZ _ _ => ?_
  refine bodyPost_ret (v := .tuple #[.agg #[.int .u8 6, .int .u32 h5, .int .u16 g0, .int .u32 h6, .int .u16 g1, .int .i64 1, .int .u8 g5, .bool false, .int .u8 h3], .int .i64 0]) (by simp [results, Tryz.results44, go_sem, y0, y1, y2, y3, y4, y5, y6, y7, y8]) rfl ?_
  exact ⟨rfl, BZ⟩
theorem segment8_flow (h0 h1 h3 h5 h6 : Int) (h2 : Bool) (h7 L : ByteArray) (g0 g1 g2 g3 g4 g5 g6 g7 g8 : Int) (g9 Q : ByteArray) (cm : Cb_ 93 #[.string L] (.tuple #[.agg #[.int .u16 g0, .int .u16 g1, .int .u32 g2, .int .u32 g3, .int .u8 g4, .int .u8 g5, .int .u16 g6, .int .u16 g7, .int .u16 g8, .string g9], .string Q, .bool true])) (e2 : (bits .and .u8 g5 23 == 2) = false) (w : World) :
    Cw_ 44 #[.agg #[.int .u8 h0, .int .u16 h1, .bool h2, .int .u8 h3, .int .u8 6, .int .u32 h5, .int .u32 h6, .string h7, .string L]] (.tuple #[.agg #[.int .u8 6, .int .u32 h5, .int .u16 g0, .int .u32 h6, .int .u16 g1, .int .i64 2, .int .u8 g5, .bool false, .int .u8 h3], .int .i64 0]) w := by
  go_enter Tryz.func44, Tryz.ntmps44
  have B1 := Below.refl w.heap.size w
  go_wp2_with fail
  have P_2 := Box9.make w (.int .u8 h0) (.int .u16 h1) (.bool h2) (.int .u8 h3) (.int .u8 6) (.int .u32 h5) (.int .u32 h6) (.string h7) (.string L) 98
  have B3 := B1.alloc B1.size (.cells #[.int .u8 h0, .int .u16 h1, .bool h2, .int .u8 h3, .int .u8 6, .int .u32 h5, .int .u32 h6, .string h7, .string L] 98)
  clear B1
  have al := alO_ B3 (.cells #[.int .u8 0, .int .u32 0, .int .u16 0, .int .u32 0, .int .u16 0, .int .i64 0, .int .u8 0, .bool false, .int .u8 0] 55)
  have P_4 := P_2.on al
  have hs_ : (w.alloc (.cells #[.int .u8 h0, .int .u16 h1, .bool h2, .int .u8 h3, .int .u8 6, .int .u32 h5, .int .u32 h6, .string h7, .string L] 98)).heap.size = w.heap.size + 1 := by simp
  have R_5 := Box9.make (w.alloc (.cells #[.int .u8 h0, .int .u16 h1, .bool h2, .int .u8 h3, .int .u8 6, .int .u32 h5, .int .u32 h6, .string h7, .string L] 98)) (.int .u8 0) (.int .u32 0) (.int .u16 0) (.int .u32 0) (.int .u16 0) (.int .i64 0) (.int .u8 0) (.bool false) (.int .u8 0) 55
  rw [hs_] at R_5
  clear hs_
  have B6 := B3.trans (al.mono B3.size)
  clear al
  clear P_2 B3
  have fzR_7 : ∀ i, ((w.alloc (.cells #[.int .u8 h0, .int .u16 h1, .bool h2, .int .u8 h3, .int .u8 6, .int .u32 h5, .int .u32 h6, .string h7, .string L] 98)).alloc (.cells #[.int .u8 0, .int .u32 0, .int .u16 0, .int .u32 0, .int .u16 0, .int .i64 0, .int .u8 0, .bool false, .int .u8 0] 55)).frozen? ⟨(w.heap.size + 1), i, none⟩ = false := by intro i; simp [go_sem]
  obtain ⟨u1, hu1⟩ : ∃ x, x = (w.alloc (.cells #[.int .u8 h0, .int .u16 h1, .bool h2, .int .u8 h3, .int .u8 6, .int .u32 h5, .int .u32 h6, .string h7, .string L] 98)).alloc (.cells #[.int .u8 0, .int .u32 0, .int .u16 0, .int .u32 0, .int .u16 0, .int .i64 0, .int .u8 0, .bool false, .int .u8 0] 55) := ⟨_, rfl⟩
  rw [← hu1] at P_4 R_5 fzR_7 B6 ⊢
  clear hu1
  refine (cm _).mono ?_; rintro e w1 ⟨rfl, x1⟩
  have fzR_8 := fzB_ x1 R_5.1 fzR_7
  clear fzR_7
  have P_9 := P_4.on x1
  have R_10 := R_5.on x1
  have B11 := B6.trans (x1.mono B6.size)
  clear P_4 R_5 B6 x1
  clear cm
  have Lt := Lib.hid (show w.heap.size + 1 < w1.heap.size from R_10.1)
  have al := alO_ B11 (.cells #[.int .u16 g0, .int .u16 g1, .int .u32 g2, .int .u32 g3, .int .u8 g4, .int .u8 g5, .int .u16 g6, .int .u16 g7, .int .u16 g8, .string g9] 149)
  have fzR_12 := fzB_ al R_10.1 fzR_8
  clear fzR_8
  have P_13 := P_9.on al
  have R_14 := R_10.on al
  have G_15 := Box10.make w1 (.int .u16 g0) (.int .u16 g1) (.int .u32 g2) (.int .u32 g3) (.int .u8 g4) (.int .u8 g5) (.int .u16 g6) (.int .u16 g7) (.int .u16 g8) (.string g9) 149
  have B16 := B11.trans (al.mono B11.size)
  clear al
  clear P_9 R_10 B11
  have ne1_ : ¬ w.heap.size + 1 = w1.heap.size := by have := Lt.out; omega
  have ne2_ : ¬ w1.heap.size = w.heap.size + 1 := by have := Lt.out; omega
  obtain ⟨_, p1_0, p1_1, p1_2, p1_3, p1_4, p1_5, p1_6, p1_7, p1_8⟩ := id P_13
  obtain ⟨_, g2_0, g2_1, g2_2, g2_3, g2_4, g2_5, g2_6, g2_7, g2_8, g2_9⟩ := id G_15
  go_wp2_with fail
  refine ((seen8_ h0 h1 h3 h5 h6 h2 h7 L 6 2 g0 g1 _)).mono ?_; rintro e w2 ⟨rfl, x2⟩
  have fzR_17 := fzB_ x2 R_14.1 fzR_12
  clear fzR_12
  have P_18 := P_13.on x2
  have R_19 := R_14.on x2
  have G_20 := G_15.on x2
  have B21 := B16.trans (x2.mono B16.size)
  clear p1_0 p1_1 p1_2 p1_3 p1_4 p1_5 p1_6 p1_7 p1_8 g2_0 g2_1 g2_2 g2_3 g2_4 g2_5 g2_6 g2_7 g2_8 g2_9 P_13 R_14 G_15 B16 x2
  clear P_18
  obtain ⟨_, r3_0, r3_1, r3_2, r3_3, r3_4, r3_5, r3_6, r3_7, r3_8⟩ := id R_19
  go_upto_region 5 with fail
  refine box9f_ (b := w.heap.size + 1) R_19.some B21 (Nat.le_succ _) fun z3 y3_0 y3_1 y3_2 y3_3 y3_4 y3_5 y3_6 y3_7 y3_8 B22 far sz fzz => ?_
  have R_23 : Box9 z3 (w.heap.size + 1) (.int .u8 6) (.int .u32 h5) (.int .u16 g0) (.int .u32 h6) (.int .u16 g1) (.int .i64 2) (.int .u8 0) (.bool false) (.int .u8 h3) := ⟨by rw [sz]; exact R_19.1, y3_0, y3_1, y3_2, y3_3, y3_4, y3_5, y3_6, y3_7, y3_8⟩
  have G_24 := G_20.far far ne1_
  have fzR_25 : ∀ i, z3.frozen? ⟨(w.heap.size + 1), i, none⟩ = false := fun i => (fzz _).trans (fzR_17 i)
  clear r3_0 r3_1 r3_2 r3_3 r3_4 r3_5 r3_6 r3_7 r3_8 y3_0 y3_1 y3_2 y3_3 y3_4 y3_5 y3_6 y3_7 y3_8 R_19 B21 G_20 fzR_17 far sz fzz
  obtain ⟨_, r4_0, r4_1, r4_2, r4_3, r4_4, r4_5, r4_6, r4_7, r4_8⟩ := id R_23
  obtain ⟨_, g5_0, g5_1, g5_2, g5_3, g5_4, g5_5, g5_6, g5_7, g5_8, g5_9⟩ := id G_24
  go_upto_region 6 with fail
  clear r4_0 r4_1 r4_2 r4_3 r4_4 r4_5 r4_6 r4_7 r4_8 g5_0 g5_1 g5_2 g5_3 g5_4 g5_5 g5_6 g5_7 g5_8 g5_9
  obtain ⟨_, r6_0, r6_1, r6_2, r6_3, r6_4, r6_5, r6_6, r6_7, r6_8⟩ := id R_23
  obtain ⟨_, g7_0, g7_1, g7_2, g7_3, g7_4, g7_5, g7_6, g7_7, g7_8, g7_9⟩ := id G_24
  have B26 := (B22.setCell (p := ⟨(w.heap.size + 1), 6, none⟩) (Nat.le_succ _) (.int .u8 g5))
  have R_27 : Box9 (z3.setCell ⟨(w.heap.size + 1), 6, none⟩ (.int .u8 g5)) (w.heap.size + 1) (.int .u8 6) (.int .u32 h5) (.int .u16 g0) (.int .u32 h6) (.int .u16 g1) (.int .i64 2) (.int .u8 g5) (.bool false) (.int .u8 h3) := ⟨by have := R_23.1; simpa using this, by simp [go_sem, r6_0, r6_1, r6_2, r6_3, r6_4, r6_5, r6_6, r6_7, r6_8, g7_0, g7_1, g7_2, g7_3, g7_4, g7_5, g7_6, g7_7, g7_8, g7_9]⟩
  have G_28 : Box10 (z3.setCell ⟨(w.heap.size + 1), 6, none⟩ (.int .u8 g5)) w1.heap.size (.int .u16 g0) (.int .u16 g1) (.int .u32 g2) (.int .u32 g3) (.int .u8 g4) (.int .u8 g5) (.int .u16 g6) (.int .u16 g7) (.int .u16 g8) (.string g9) := ⟨by have := G_24.1; simpa using this, by simp [go_sem, r6_0, r6_1, r6_2, r6_3, r6_4, r6_5, r6_6, r6_7, r6_8, g7_0, g7_1, g7_2, g7_3, g7_4, g7_5, g7_6, g7_7, g7_8, g7_9]⟩
  have fzR_29 : ∀ i, (z3.setCell ⟨(w.heap.size + 1), 6, none⟩ (.int .u8 g5)).frozen? ⟨(w.heap.size + 1), i, none⟩ = false := by intro i; simp [fzR_25]
  clear r6_0 r6_1 r6_2 r6_3 r6_4 r6_5 r6_6 r6_7 r6_8 g7_0 g7_1 g7_2 g7_3 g7_4 g7_5 g7_6 g7_7 g7_8 g7_9 R_23 G_24 fzR_25 B22
  obtain ⟨u4, hu4⟩ : ∃ x, x = (z3.setCell ⟨(w.heap.size + 1), 6, none⟩ (.int .u8 g5)) := ⟨_, rfl⟩
  rw [← hu4] at R_27 G_28 fzR_29 B26 ⊢
  clear hu4
  obtain ⟨_, g8_0, g8_1, g8_2, g8_3, g8_4, g8_5, g8_6, g8_7, g8_8, g8_9⟩ := id G_28
  obtain ⟨_, r9_0, r9_1, r9_2, r9_3, r9_4, r9_5, r9_6, r9_7, r9_8⟩ := id R_27
  go_wp2
  refine box9_ (b := w.heap.size + 1) R_27.some B26 (Nat.le_succ _) fun Z y0 y1 y2 y3 y4 y5 y6 y7 y8 BZ _ _ => ?_
  refine bodyPost_ret (v := .tuple #[.agg #[.int .u8 6, .int .u32 h5, .int .u16 g0, .int .u32 h6, .int .u16 g1, .int .i64 2, .int .u8 g5, .bool false, .int .u8 h3], .int .i64 0]) (by simp [results, Tryz.results44, go_sem, y0, y1, y2, y3, y4, y5, y6, y7, y8]) rfl ?_
  exact ⟨rfl, BZ⟩
theorem message8_bad (h0 h1 h3 h5 h6 : Int) (h2 : Bool) (h7 L : ByteArray) (cm : Cb_ 47 #[.string L] (.tuple #[.agg #[.int .u8 0, .int .u8 0, .int .u16 0, .string ⟨#[]⟩, .string ⟨#[]⟩], .bool false])) (w : World) :
    Cw_ 46 #[.agg #[.int .u8 h0, .int .u16 h1, .bool h2, .int .u8 h3, .int .u8 1, .int .u32 h5, .int .u32 h6, .string h7, .string L]] (.tuple #[.agg #[.int .u8 0, .int .u32 0, .int .u16 0, .int .u32 0, .int .u16 0, .int .i64 0, .int .u8 0, .bool false, .int .u8 0], .int .i64 7]) w := by
  go_enter Tryz.func46, Tryz.ntmps46
  have B1 := Below.refl w.heap.size w
  go_wp2_with fail
  have P_2 := Box9.make w (.int .u8 h0) (.int .u16 h1) (.bool h2) (.int .u8 h3) (.int .u8 1) (.int .u32 h5) (.int .u32 h6) (.string h7) (.string L) 98
  have B3 := B1.alloc B1.size (.cells #[.int .u8 h0, .int .u16 h1, .bool h2, .int .u8 h3, .int .u8 1, .int .u32 h5, .int .u32 h6, .string h7, .string L] 98)
  clear B1
  have al := alO_ B3 (.cells #[.int .u8 0, .int .u32 0, .int .u16 0, .int .u32 0, .int .u16 0, .int .i64 0, .int .u8 0, .bool false, .int .u8 0] 55)
  have P_4 := P_2.on al
  have hs_ : (w.alloc (.cells #[.int .u8 h0, .int .u16 h1, .bool h2, .int .u8 h3, .int .u8 1, .int .u32 h5, .int .u32 h6, .string h7, .string L] 98)).heap.size = w.heap.size + 1 := by simp
  have R_5 := Box9.make (w.alloc (.cells #[.int .u8 h0, .int .u16 h1, .bool h2, .int .u8 h3, .int .u8 1, .int .u32 h5, .int .u32 h6, .string h7, .string L] 98)) (.int .u8 0) (.int .u32 0) (.int .u16 0) (.int .u32 0) (.int .u16 0) (.int .i64 0) (.int .u8 0) (.bool false) (.int .u8 0) 55
  rw [hs_] at R_5
  clear hs_
  have B6 := B3.trans (al.mono B3.size)
  clear al
  clear P_2 B3
  have fzR_7 : ∀ i, ((w.alloc (.cells #[.int .u8 h0, .int .u16 h1, .bool h2, .int .u8 h3, .int .u8 1, .int .u32 h5, .int .u32 h6, .string h7, .string L] 98)).alloc (.cells #[.int .u8 0, .int .u32 0, .int .u16 0, .int .u32 0, .int .u16 0, .int .i64 0, .int .u8 0, .bool false, .int .u8 0] 55)).frozen? ⟨(w.heap.size + 1), i, none⟩ = false := by intro i; simp [go_sem]
  obtain ⟨u1, hu1⟩ : ∃ x, x = (w.alloc (.cells #[.int .u8 h0, .int .u16 h1, .bool h2, .int .u8 h3, .int .u8 1, .int .u32 h5, .int .u32 h6, .string h7, .string L] 98)).alloc (.cells #[.int .u8 0, .int .u32 0, .int .u16 0, .int .u32 0, .int .u16 0, .int .i64 0, .int .u8 0, .bool false, .int .u8 0] 55) := ⟨_, rfl⟩
  rw [← hu1] at P_4 R_5 fzR_7 B6 ⊢
  clear hu1
  refine (cm _).mono ?_; rintro e w1 ⟨rfl, x1⟩
  have fzR_8 := fzB_ x1 R_5.1 fzR_7
  clear fzR_7
  have P_9 := P_4.on x1
  have R_10 := R_5.on x1
  have B11 := B6.trans (x1.mono B6.size)
  clear P_4 R_5 B6 x1
  clear cm
  have Lt := Lib.hid (show w.heap.size + 1 < w1.heap.size from R_10.1)
  have al := alO_ B11 (.cells #[.int .u8 0, .int .u8 0, .int .u16 0, .string ⟨#[]⟩, .string ⟨#[]⟩] 63)
  have fzR_12 := fzB_ al R_10.1 fzR_8
  clear fzR_8
  have P_13 := P_9.on al
  have R_14 := R_10.on al
  have G_15 := Box5.make w1 (.int .u8 0) (.int .u8 0) (.int .u16 0) (.string ⟨#[]⟩) (.string ⟨#[]⟩) 63
  have B16 := B11.trans (al.mono B11.size)
  clear al
  clear P_9 R_10 B11
  obtain ⟨_, r1_0, r1_1, r1_2, r1_3, r1_4, r1_5, r1_6, r1_7, r1_8⟩ := id R_14
  go_wp2
  refine box9_ (b := w.heap.size + 1) R_14.some B16 (Nat.le_succ _) fun Z y0 y1 y2 y3 y4 y5 y6 y7 y8 BZ _ _ => ?_
  refine bodyPost_ret (v := .tuple #[.agg #[.int .u8 0, .int .u32 0, .int .u16 0, .int .u32 0, .int .u16 0, .int .i64 0, .int .u8 0, .bool false, .int .u8 0], .int .i64 7]) (by simp [results, Tryz.results46, go_sem, y0, y1, y2, y3, y4, y5, y6, y7, y8]) rfl ?_
  exact ⟨rfl, BZ⟩
theorem message8_odd (h0 h1 h3 h5 h6 : Int) (h2 : Bool) (h7 L : ByteArray) (m0 m1 m2 : Int) (m3 m4 : ByteArray) (cm : Cb_ 47 #[.string L] (.tuple #[.agg #[.int .u8 m0, .int .u8 m1, .int .u16 m2, .string m3, .string m4], .bool true])) (cq : Cb_ 18 #[.agg #[.int .u8 m0, .int .u8 m1, .int .u16 m2, .string m3, .string m4]] (.tuple #[.bool false, .bool false])) (ce : Cb_ 97 #[.agg #[.int .u8 m0, .int .u8 m1, .int .u16 m2, .string m3, .string m4]] (.bool false)) (w : World) :
    Cw_ 46 #[.agg #[.int .u8 h0, .int .u16 h1, .bool h2, .int .u8 h3, .int .u8 1, .int .u32 h5, .int .u32 h6, .string h7, .string L]] (.tuple #[.agg #[.int .u8 0, .int .u32 0, .int .u16 0, .int .u32 0, .int .u16 0, .int .i64 0, .int .u8 0, .bool false, .int .u8 0], .int .i64 6]) w := by
  go_enter Tryz.func46, Tryz.ntmps46
  have B1 := Below.refl w.heap.size w
  go_wp2_with fail
  have P_2 := Box9.make w (.int .u8 h0) (.int .u16 h1) (.bool h2) (.int .u8 h3) (.int .u8 1) (.int .u32 h5) (.int .u32 h6) (.string h7) (.string L) 98
  have B3 := B1.alloc B1.size (.cells #[.int .u8 h0, .int .u16 h1, .bool h2, .int .u8 h3, .int .u8 1, .int .u32 h5, .int .u32 h6, .string h7, .string L] 98)
  clear B1
  have al := alO_ B3 (.cells #[.int .u8 0, .int .u32 0, .int .u16 0, .int .u32 0, .int .u16 0, .int .i64 0, .int .u8 0, .bool false, .int .u8 0] 55)
  have P_4 := P_2.on al
  have hs_ : (w.alloc (.cells #[.int .u8 h0, .int .u16 h1, .bool h2, .int .u8 h3, .int .u8 1, .int .u32 h5, .int .u32 h6, .string h7, .string L] 98)).heap.size = w.heap.size + 1 := by simp
  have R_5 := Box9.make (w.alloc (.cells #[.int .u8 h0, .int .u16 h1, .bool h2, .int .u8 h3, .int .u8 1, .int .u32 h5, .int .u32 h6, .string h7, .string L] 98)) (.int .u8 0) (.int .u32 0) (.int .u16 0) (.int .u32 0) (.int .u16 0) (.int .i64 0) (.int .u8 0) (.bool false) (.int .u8 0) 55
  rw [hs_] at R_5
  clear hs_
  have B6 := B3.trans (al.mono B3.size)
  clear al
  clear P_2 B3
  have fzR_7 : ∀ i, ((w.alloc (.cells #[.int .u8 h0, .int .u16 h1, .bool h2, .int .u8 h3, .int .u8 1, .int .u32 h5, .int .u32 h6, .string h7, .string L] 98)).alloc (.cells #[.int .u8 0, .int .u32 0, .int .u16 0, .int .u32 0, .int .u16 0, .int .i64 0, .int .u8 0, .bool false, .int .u8 0] 55)).frozen? ⟨(w.heap.size + 1), i, none⟩ = false := by intro i; simp [go_sem]
  obtain ⟨u1, hu1⟩ : ∃ x, x = (w.alloc (.cells #[.int .u8 h0, .int .u16 h1, .bool h2, .int .u8 h3, .int .u8 1, .int .u32 h5, .int .u32 h6, .string h7, .string L] 98)).alloc (.cells #[.int .u8 0, .int .u32 0, .int .u16 0, .int .u32 0, .int .u16 0, .int .i64 0, .int .u8 0, .bool false, .int .u8 0] 55) := ⟨_, rfl⟩
  rw [← hu1] at P_4 R_5 fzR_7 B6 ⊢
  clear hu1
  refine (cm _).mono ?_; rintro e w1 ⟨rfl, x1⟩
  have fzR_8 := fzB_ x1 R_5.1 fzR_7
  clear fzR_7
  have P_9 := P_4.on x1
  have R_10 := R_5.on x1
  have B11 := B6.trans (x1.mono B6.size)
  clear P_4 R_5 B6 x1
  clear cm
  have Lt := Lib.hid (show w.heap.size + 1 < w1.heap.size from R_10.1)
  have al := alO_ B11 (.cells #[.int .u8 m0, .int .u8 m1, .int .u16 m2, .string m3, .string m4] 63)
  have fzR_12 := fzB_ al R_10.1 fzR_8
  clear fzR_8
  have P_13 := P_9.on al
  have R_14 := R_10.on al
  have G_15 := Box5.make w1 (.int .u8 m0) (.int .u8 m1) (.int .u16 m2) (.string m3) (.string m4) 63
  have B16 := B11.trans (al.mono B11.size)
  clear al
  clear P_9 R_10 B11
  have ne1_ : ¬ w.heap.size + 1 = w1.heap.size := by have := Lt.out; omega
  have ne2_ : ¬ w1.heap.size = w.heap.size + 1 := by have := Lt.out; omega
  obtain ⟨_, g1_0, g1_1, g1_2, g1_3, g1_4⟩ := id G_15
  go_wp2_with fail
  refine (cq _).mono ?_; rintro e w2 ⟨rfl, x2⟩
  have fzR_17 := fzB_ x2 R_14.1 fzR_12
  clear fzR_12
  have P_18 := P_13.on x2
  have R_19 := R_14.on x2
  have G_20 := G_15.on x2
  have B21 := B16.trans (x2.mono B16.size)
  clear g1_0 g1_1 g1_2 g1_3 g1_4 P_13 R_14 G_15 B16 x2
  clear cq
  obtain ⟨_, g2_0, g2_1, g2_2, g2_3, g2_4⟩ := id G_20
  go_wp2_with fail
  refine (ce _).mono ?_; rintro e w3 ⟨rfl, x3⟩
  have fzR_22 := fzB_ x3 R_19.1 fzR_17
  clear fzR_17
  have P_23 := P_18.on x3
  have R_24 := R_19.on x3
  have G_25 := G_20.on x3
  have B26 := B21.trans (x3.mono B21.size)
  clear g2_0 g2_1 g2_2 g2_3 g2_4 P_18 R_19 G_20 B21 x3
  clear ce
  obtain ⟨_, r3_0, r3_1, r3_2, r3_3, r3_4, r3_5, r3_6, r3_7, r3_8⟩ := id R_24
  go_wp2
  refine box9_ (b := w.heap.size + 1) R_24.some B26 (Nat.le_succ _) fun Z y0 y1 y2 y3 y4 y5 y6 y7 y8 BZ _ _ => ?_
  refine bodyPost_ret (v := .tuple #[.agg #[.int .u8 0, .int .u32 0, .int .u16 0, .int .u32 0, .int .u16 0, .int .i64 0, .int .u8 0, .bool false, .int .u8 0], .int .i64 6]) (by simp [results, Tryz.results46, go_sem, y0, y1, y2, y3, y4, y5, y6, y7, y8]) rfl ?_
  exact ⟨rfl, BZ⟩
theorem message8_err (h0 h1 h3 h5 h6 : Int) (h2 : Bool) (h7 L : ByteArray) (m0 m1 m2 : Int) (m3 m4 : ByteArray) (cm : Cb_ 47 #[.string L] (.tuple #[.agg #[.int .u8 m0, .int .u8 m1, .int .u16 m2, .string m3, .string m4], .bool true])) (cq : Cb_ 18 #[.agg #[.int .u8 m0, .int .u8 m1, .int .u16 m2, .string m3, .string m4]] (.tuple #[.bool false, .bool false])) (ce : Cb_ 97 #[.agg #[.int .u8 m0, .int .u8 m1, .int .u16 m2, .string m3, .string m4]] (.bool true)) (w : World) :
    Cw_ 46 #[.agg #[.int .u8 h0, .int .u16 h1, .bool h2, .int .u8 h3, .int .u8 1, .int .u32 h5, .int .u32 h6, .string h7, .string L]] (.tuple #[.agg #[.int .u8 1, .int .u32 h5, .int .u16 0, .int .u32 h6, .int .u16 0, .int .i64 3, .int .u8 0, .bool false, .int .u8 h3], .int .i64 0]) w := by
  go_enter Tryz.func46, Tryz.ntmps46
  have B1 := Below.refl w.heap.size w
  go_wp2_with fail
  have P_2 := Box9.make w (.int .u8 h0) (.int .u16 h1) (.bool h2) (.int .u8 h3) (.int .u8 1) (.int .u32 h5) (.int .u32 h6) (.string h7) (.string L) 98
  have B3 := B1.alloc B1.size (.cells #[.int .u8 h0, .int .u16 h1, .bool h2, .int .u8 h3, .int .u8 1, .int .u32 h5, .int .u32 h6, .string h7, .string L] 98)
  clear B1
  have al := alO_ B3 (.cells #[.int .u8 0, .int .u32 0, .int .u16 0, .int .u32 0, .int .u16 0, .int .i64 0, .int .u8 0, .bool false, .int .u8 0] 55)
  have P_4 := P_2.on al
  have hs_ : (w.alloc (.cells #[.int .u8 h0, .int .u16 h1, .bool h2, .int .u8 h3, .int .u8 1, .int .u32 h5, .int .u32 h6, .string h7, .string L] 98)).heap.size = w.heap.size + 1 := by simp
  have R_5 := Box9.make (w.alloc (.cells #[.int .u8 h0, .int .u16 h1, .bool h2, .int .u8 h3, .int .u8 1, .int .u32 h5, .int .u32 h6, .string h7, .string L] 98)) (.int .u8 0) (.int .u32 0) (.int .u16 0) (.int .u32 0) (.int .u16 0) (.int .i64 0) (.int .u8 0) (.bool false) (.int .u8 0) 55
  rw [hs_] at R_5
  clear hs_
  have B6 := B3.trans (al.mono B3.size)
  clear al
  clear P_2 B3
  have fzR_7 : ∀ i, ((w.alloc (.cells #[.int .u8 h0, .int .u16 h1, .bool h2, .int .u8 h3, .int .u8 1, .int .u32 h5, .int .u32 h6, .string h7, .string L] 98)).alloc (.cells #[.int .u8 0, .int .u32 0, .int .u16 0, .int .u32 0, .int .u16 0, .int .i64 0, .int .u8 0, .bool false, .int .u8 0] 55)).frozen? ⟨(w.heap.size + 1), i, none⟩ = false := by intro i; simp [go_sem]
  obtain ⟨u1, hu1⟩ : ∃ x, x = (w.alloc (.cells #[.int .u8 h0, .int .u16 h1, .bool h2, .int .u8 h3, .int .u8 1, .int .u32 h5, .int .u32 h6, .string h7, .string L] 98)).alloc (.cells #[.int .u8 0, .int .u32 0, .int .u16 0, .int .u32 0, .int .u16 0, .int .i64 0, .int .u8 0, .bool false, .int .u8 0] 55) := ⟨_, rfl⟩
  rw [← hu1] at P_4 R_5 fzR_7 B6 ⊢
  clear hu1
  refine (cm _).mono ?_; rintro e w1 ⟨rfl, x1⟩
  have fzR_8 := fzB_ x1 R_5.1 fzR_7
  clear fzR_7
  have P_9 := P_4.on x1
  have R_10 := R_5.on x1
  have B11 := B6.trans (x1.mono B6.size)
  clear P_4 R_5 B6 x1
  clear cm
  have Lt := Lib.hid (show w.heap.size + 1 < w1.heap.size from R_10.1)
  have al := alO_ B11 (.cells #[.int .u8 m0, .int .u8 m1, .int .u16 m2, .string m3, .string m4] 63)
  have fzR_12 := fzB_ al R_10.1 fzR_8
  clear fzR_8
  have P_13 := P_9.on al
  have R_14 := R_10.on al
  have G_15 := Box5.make w1 (.int .u8 m0) (.int .u8 m1) (.int .u16 m2) (.string m3) (.string m4) 63
  have B16 := B11.trans (al.mono B11.size)
  clear al
  clear P_9 R_10 B11
  have ne1_ : ¬ w.heap.size + 1 = w1.heap.size := by have := Lt.out; omega
  have ne2_ : ¬ w1.heap.size = w.heap.size + 1 := by have := Lt.out; omega
  obtain ⟨_, g1_0, g1_1, g1_2, g1_3, g1_4⟩ := id G_15
  go_wp2_with fail
  refine (cq _).mono ?_; rintro e w2 ⟨rfl, x2⟩
  have fzR_17 := fzB_ x2 R_14.1 fzR_12
  clear fzR_12
  have P_18 := P_13.on x2
  have R_19 := R_14.on x2
  have G_20 := G_15.on x2
  have B21 := B16.trans (x2.mono B16.size)
  clear g1_0 g1_1 g1_2 g1_3 g1_4 P_13 R_14 G_15 B16 x2
  clear cq
  obtain ⟨_, g2_0, g2_1, g2_2, g2_3, g2_4⟩ := id G_20
  go_wp2_with fail
  refine (ce _).mono ?_; rintro e w3 ⟨rfl, x3⟩
  have fzR_22 := fzB_ x3 R_19.1 fzR_17
  clear fzR_17
  have P_23 := P_18.on x3
  have R_24 := R_19.on x3
  have G_25 := G_20.on x3
  have B26 := B21.trans (x3.mono B21.size)
  clear g2_0 g2_1 g2_2 g2_3 g2_4 P_18 R_19 G_20 B21 x3
  clear ce
  obtain ⟨_, p3_0, p3_1, p3_2, p3_3, p3_4, p3_5, p3_6, p3_7, p3_8⟩ := id P_23
  go_wp2_with fail
  refine ((seen8_ h0 h1 h3 h5 h6 h2 h7 L 1 3 0 0 _)).mono ?_; rintro e w4 ⟨rfl, x4⟩
  have fzR_27 := fzB_ x4 R_24.1 fzR_22
  clear fzR_22
  have P_28 := P_23.on x4
  have R_29 := R_24.on x4
  have G_30 := G_25.on x4
  have B31 := B26.trans (x4.mono B26.size)
  clear p3_0 p3_1 p3_2 p3_3 p3_4 p3_5 p3_6 p3_7 p3_8 P_23 R_24 G_25 B26 x4
  clear P_28 G_30
  obtain ⟨_, r4_0, r4_1, r4_2, r4_3, r4_4, r4_5, r4_6, r4_7, r4_8⟩ := id R_29
  go_upto_region 13 with fail
  refine box9f_ (b := w.heap.size + 1) R_29.some B31 (Nat.le_succ _) fun z5 y5_0 y5_1 y5_2 y5_3 y5_4 y5_5 y5_6 y5_7 y5_8 B32 far sz fzz => ?_
  have R_33 : Box9 z5 (w.heap.size + 1) (.int .u8 1) (.int .u32 h5) (.int .u16 0) (.int .u32 h6) (.int .u16 0) (.int .i64 3) (.int .u8 0) (.bool false) (.int .u8 h3) := ⟨by rw [sz]; exact R_29.1, y5_0, y5_1, y5_2, y5_3, y5_4, y5_5, y5_6, y5_7, y5_8⟩
  have fzR_34 : ∀ i, z5.frozen? ⟨(w.heap.size + 1), i, none⟩ = false := fun i => (fzz _).trans (fzR_27 i)
  clear r4_0 r4_1 r4_2 r4_3 r4_4 r4_5 r4_6 r4_7 r4_8 y5_0 y5_1 y5_2 y5_3 y5_4 y5_5 y5_6 y5_7 y5_8 R_29 B31 fzR_27 far sz fzz
  obtain ⟨_, r5_0, r5_1, r5_2, r5_3, r5_4, r5_5, r5_6, r5_7, r5_8⟩ := id R_33
  go_wp2
  refine box9_ (b := w.heap.size + 1) R_33.some B32 (Nat.le_succ _) fun Z y0 y1 y2 y3 y4 y5 y6 y7 y8 BZ _ _ => ?_
  refine bodyPost_ret (v := .tuple #[.agg #[.int .u8 1, .int .u32 h5, .int .u16 0, .int .u32 h6, .int .u16 0, .int .i64 3, .int .u8 0, .bool false, .int .u8 h3], .int .i64 0]) (by simp [results, Tryz.results46, go_sem, y0, y1, y2, y3, y4, y5, y6, y7, y8]) rfl ?_
  exact ⟨rfl, BZ⟩
theorem message8_ask (h0 h1 h3 h5 h6 : Int) (h2 : Bool) (h7 L : ByteArray) (m0 m1 m2 : Int) (m3 m4 : ByteArray) (cm : Cb_ 47 #[.string L] (.tuple #[.agg #[.int .u8 m0, .int .u8 m1, .int .u16 m2, .string m3, .string m4], .bool true])) (cq : Cb_ 18 #[.agg #[.int .u8 m0, .int .u8 m1, .int .u16 m2, .string m3, .string m4]] (.tuple #[.bool true, .bool true])) (j : Int) (ci : Cb_ 96 #[.agg #[.int .u8 m0, .int .u8 m1, .int .u16 m2, .string m3, .string m4]] (.int .u16 j)) (w : World) :
    Cw_ 46 #[.agg #[.int .u8 h0, .int .u16 h1, .bool h2, .int .u8 h3, .int .u8 1, .int .u32 h5, .int .u32 h6, .string h7, .string L]] (.tuple #[.agg #[.int .u8 1, .int .u32 h5, .int .u16 j, .int .u32 h6, .int .u16 0, .int .i64 2, .int .u8 0, .bool true, .int .u8 h3], .int .i64 0]) w := by
  go_enter Tryz.func46, Tryz.ntmps46
  have B1 := Below.refl w.heap.size w
  go_wp2_with fail
  have P_2 := Box9.make w (.int .u8 h0) (.int .u16 h1) (.bool h2) (.int .u8 h3) (.int .u8 1) (.int .u32 h5) (.int .u32 h6) (.string h7) (.string L) 98
  have B3 := B1.alloc B1.size (.cells #[.int .u8 h0, .int .u16 h1, .bool h2, .int .u8 h3, .int .u8 1, .int .u32 h5, .int .u32 h6, .string h7, .string L] 98)
  clear B1
  have al := alO_ B3 (.cells #[.int .u8 0, .int .u32 0, .int .u16 0, .int .u32 0, .int .u16 0, .int .i64 0, .int .u8 0, .bool false, .int .u8 0] 55)
  have P_4 := P_2.on al
  have hs_ : (w.alloc (.cells #[.int .u8 h0, .int .u16 h1, .bool h2, .int .u8 h3, .int .u8 1, .int .u32 h5, .int .u32 h6, .string h7, .string L] 98)).heap.size = w.heap.size + 1 := by simp
  have R_5 := Box9.make (w.alloc (.cells #[.int .u8 h0, .int .u16 h1, .bool h2, .int .u8 h3, .int .u8 1, .int .u32 h5, .int .u32 h6, .string h7, .string L] 98)) (.int .u8 0) (.int .u32 0) (.int .u16 0) (.int .u32 0) (.int .u16 0) (.int .i64 0) (.int .u8 0) (.bool false) (.int .u8 0) 55
  rw [hs_] at R_5
  clear hs_
  have B6 := B3.trans (al.mono B3.size)
  clear al
  clear P_2 B3
  have fzR_7 : ∀ i, ((w.alloc (.cells #[.int .u8 h0, .int .u16 h1, .bool h2, .int .u8 h3, .int .u8 1, .int .u32 h5, .int .u32 h6, .string h7, .string L] 98)).alloc (.cells #[.int .u8 0, .int .u32 0, .int .u16 0, .int .u32 0, .int .u16 0, .int .i64 0, .int .u8 0, .bool false, .int .u8 0] 55)).frozen? ⟨(w.heap.size + 1), i, none⟩ = false := by intro i; simp [go_sem]
  obtain ⟨u1, hu1⟩ : ∃ x, x = (w.alloc (.cells #[.int .u8 h0, .int .u16 h1, .bool h2, .int .u8 h3, .int .u8 1, .int .u32 h5, .int .u32 h6, .string h7, .string L] 98)).alloc (.cells #[.int .u8 0, .int .u32 0, .int .u16 0, .int .u32 0, .int .u16 0, .int .i64 0, .int .u8 0, .bool false, .int .u8 0] 55) := ⟨_, rfl⟩
  rw [← hu1] at P_4 R_5 fzR_7 B6 ⊢
  clear hu1
  refine (cm _).mono ?_; rintro e w1 ⟨rfl, x1⟩
  have fzR_8 := fzB_ x1 R_5.1 fzR_7
  clear fzR_7
  have P_9 := P_4.on x1
  have R_10 := R_5.on x1
  have B11 := B6.trans (x1.mono B6.size)
  clear P_4 R_5 B6 x1
  clear cm
  have Lt := Lib.hid (show w.heap.size + 1 < w1.heap.size from R_10.1)
  have al := alO_ B11 (.cells #[.int .u8 m0, .int .u8 m1, .int .u16 m2, .string m3, .string m4] 63)
  have fzR_12 := fzB_ al R_10.1 fzR_8
  clear fzR_8
  have P_13 := P_9.on al
  have R_14 := R_10.on al
  have G_15 := Box5.make w1 (.int .u8 m0) (.int .u8 m1) (.int .u16 m2) (.string m3) (.string m4) 63
  have B16 := B11.trans (al.mono B11.size)
  clear al
  clear P_9 R_10 B11
  have ne1_ : ¬ w.heap.size + 1 = w1.heap.size := by have := Lt.out; omega
  have ne2_ : ¬ w1.heap.size = w.heap.size + 1 := by have := Lt.out; omega
  obtain ⟨_, g1_0, g1_1, g1_2, g1_3, g1_4⟩ := id G_15
  go_wp2_with fail
  refine (cq _).mono ?_; rintro e w2 ⟨rfl, x2⟩
  have fzR_17 := fzB_ x2 R_14.1 fzR_12
  clear fzR_12
  have P_18 := P_13.on x2
  have R_19 := R_14.on x2
  have G_20 := G_15.on x2
  have B21 := B16.trans (x2.mono B16.size)
  clear g1_0 g1_1 g1_2 g1_3 g1_4 P_13 R_14 G_15 B16 x2
  clear cq
  go_upto_region 7 with fail
  obtain ⟨zp, gp0, gp1, gp2, gp3, gp4, gp5, gp6, gp7, gp8⟩ := id P_18
  have Fp0 := lat_ gp0 zp
  have Fp1 := lat_ gp1 zp
  have Fp2 := lat_ gp2 zp
  have Fp3 := lat_ gp3 zp
  have Fp4 := lat_ gp4 zp
  have Fp5 := lat_ gp5 zp
  have Fp6 := lat_ gp6 zp
  have Fp7 := lat_ gp7 zp
  have Fp8 := lat_ gp8 zp
  clear gp0 gp1 gp2 gp3 gp4 gp5 gp6 gp7 gp8
  obtain ⟨zg, gg0, gg1, gg2, gg3, gg4⟩ := id G_20
  have Fg0 := lat_ gg0 zg
  have Fg1 := lat_ gg1 zg
  have Fg2 := lat_ gg2 zg
  have Fg3 := lat_ gg3 zg
  have Fg4 := lat_ gg4 zg
  clear gg0 gg1 gg2 gg3 gg4
  refine region_lead (B := w2.heap.size) 4 1 (by kernel_rfl) (by kernel_rfl) (by kernel_rfl) (by kernel_rfl) ?_
  simp only [List.take_succ_cons, List.take_zero]
  repeat (go_big_quiet_step (first
    | (go_at_call 96; exact later_of _ (Nat.le_refl _) (ci _))
    | (go_at_call 94; exact later_of _ (Nat.le_refl _) (seen8_ h0 h1 h3 h5 h6 h2 h7 L 1 2 j 0 _))))
  refine lead_end (by kernel_rfl) (by kernel_rfl) rfl fun w3 x3 G hG => ?_
  have fzR_22 := fzB_ x3 R_19.1 fzR_17
  clear fzR_17
  have P_23 := P_18.on x3
  have R_24 := R_19.on x3
  have G_25 := G_20.on x3
  have B26 := B21.trans (x3.mono B21.size)
  clear Fp0 Fp1 Fp2 Fp3 Fp4 Fp5 Fp6 Fp7 Fp8 zp Fg0 Fg1 Fg2 Fg3 Fg4 zg P_18 R_19 G_20 B21 x3
  clear ci
  clear P_23 G_25
  obtain ⟨_, r2_0, r2_1, r2_2, r2_3, r2_4, r2_5, r2_6, r2_7, r2_8⟩ := id R_24
  go_simp
  refine hG.out _ _ ?_
  clear hG G
  refine box9f_ (b := w.heap.size + 1) R_24.some B26 (Nat.le_succ _) fun z4 y4_0 y4_1 y4_2 y4_3 y4_4 y4_5 y4_6 y4_7 y4_8 B27 far sz fzz => ?_
  have R_28 : Box9 z4 (w.heap.size + 1) (.int .u8 1) (.int .u32 h5) (.int .u16 j) (.int .u32 h6) (.int .u16 0) (.int .i64 2) (.int .u8 0) (.bool false) (.int .u8 h3) := ⟨by rw [sz]; exact R_24.1, y4_0, y4_1, y4_2, y4_3, y4_4, y4_5, y4_6, y4_7, y4_8⟩
  have fzR_29 : ∀ i, z4.frozen? ⟨(w.heap.size + 1), i, none⟩ = false := fun i => (fzz _).trans (fzR_22 i)
  clear r2_0 r2_1 r2_2 r2_3 r2_4 r2_5 r2_6 r2_7 r2_8 y4_0 y4_1 y4_2 y4_3 y4_4 y4_5 y4_6 y4_7 y4_8 R_24 B26 fzR_22 far sz fzz
  obtain ⟨_, r3_0, r3_1, r3_2, r3_3, r3_4, r3_5, r3_6, r3_7, r3_8⟩ := id R_28
  go_upto_region 13 with fail
  clear r3_0 r3_1 r3_2 r3_3 r3_4 r3_5 r3_6 r3_7 r3_8
  obtain ⟨_, r4_0, r4_1, r4_2, r4_3, r4_4, r4_5, r4_6, r4_7, r4_8⟩ := id R_28
  have B30 := (B27.setCell (p := ⟨(w.heap.size + 1), 7, none⟩) (Nat.le_succ _) (.bool true))
  have R_31 : Box9 (z4.setCell ⟨(w.heap.size + 1), 7, none⟩ (.bool true)) (w.heap.size + 1) (.int .u8 1) (.int .u32 h5) (.int .u16 j) (.int .u32 h6) (.int .u16 0) (.int .i64 2) (.int .u8 0) (.bool true) (.int .u8 h3) := ⟨by have := R_28.1; simpa using this, by simp [go_sem, r4_0, r4_1, r4_2, r4_3, r4_4, r4_5, r4_6, r4_7, r4_8]⟩
  have fzR_32 : ∀ i, (z4.setCell ⟨(w.heap.size + 1), 7, none⟩ (.bool true)).frozen? ⟨(w.heap.size + 1), i, none⟩ = false := by intro i; simp [fzR_29]
  clear r4_0 r4_1 r4_2 r4_3 r4_4 r4_5 r4_6 r4_7 r4_8 R_28 fzR_29 B27
  obtain ⟨u5, hu5⟩ : ∃ x, x = (z4.setCell ⟨(w.heap.size + 1), 7, none⟩ (.bool true)) := ⟨_, rfl⟩
  rw [← hu5] at R_31 fzR_32 B30 ⊢
  clear hu5
  obtain ⟨_, r5_0, r5_1, r5_2, r5_3, r5_4, r5_5, r5_6, r5_7, r5_8⟩ := id R_31
  go_wp2
  refine box9_ (b := w.heap.size + 1) R_31.some B30 (Nat.le_succ _) fun Z y0 y1 y2 y3 y4 y5 y6 y7 y8 BZ _ _ => ?_
  refine bodyPost_ret (v := .tuple #[.agg #[.int .u8 1, .int .u32 h5, .int .u16 j, .int .u32 h6, .int .u16 0, .int .i64 2, .int .u8 0, .bool true, .int .u8 h3], .int .i64 0]) (by simp [results, Tryz.results46, go_sem, y0, y1, y2, y3, y4, y5, y6, y7, y8]) rfl ?_
  exact ⟨rfl, BZ⟩
theorem message8_told (h0 h1 h3 h5 h6 : Int) (h2 : Bool) (h7 L : ByteArray) (m0 m1 m2 : Int) (m3 m4 : ByteArray) (cm : Cb_ 47 #[.string L] (.tuple #[.agg #[.int .u8 m0, .int .u8 m1, .int .u16 m2, .string m3, .string m4], .bool true])) (cq : Cb_ 18 #[.agg #[.int .u8 m0, .int .u8 m1, .int .u16 m2, .string m3, .string m4]] (.tuple #[.bool false, .bool true])) (j : Int) (ci : Cb_ 96 #[.agg #[.int .u8 m0, .int .u8 m1, .int .u16 m2, .string m3, .string m4]] (.int .u16 j)) (w : World) :
    Cw_ 46 #[.agg #[.int .u8 h0, .int .u16 h1, .bool h2, .int .u8 h3, .int .u8 1, .int .u32 h5, .int .u32 h6, .string h7, .string L]] (.tuple #[.agg #[.int .u8 1, .int .u32 h5, .int .u16 0, .int .u32 h6, .int .u16 j, .int .i64 2, .int .u8 0, .bool false, .int .u8 h3], .int .i64 0]) w := by
  go_enter Tryz.func46, Tryz.ntmps46
  have B1 := Below.refl w.heap.size w
  go_wp2_with fail
  have P_2 := Box9.make w (.int .u8 h0) (.int .u16 h1) (.bool h2) (.int .u8 h3) (.int .u8 1) (.int .u32 h5) (.int .u32 h6) (.string h7) (.string L) 98
  have B3 := B1.alloc B1.size (.cells #[.int .u8 h0, .int .u16 h1, .bool h2, .int .u8 h3, .int .u8 1, .int .u32 h5, .int .u32 h6, .string h7, .string L] 98)
  clear B1
  have al := alO_ B3 (.cells #[.int .u8 0, .int .u32 0, .int .u16 0, .int .u32 0, .int .u16 0, .int .i64 0, .int .u8 0, .bool false, .int .u8 0] 55)
  have P_4 := P_2.on al
  have hs_ : (w.alloc (.cells #[.int .u8 h0, .int .u16 h1, .bool h2, .int .u8 h3, .int .u8 1, .int .u32 h5, .int .u32 h6, .string h7, .string L] 98)).heap.size = w.heap.size + 1 := by simp
  have R_5 := Box9.make (w.alloc (.cells #[.int .u8 h0, .int .u16 h1, .bool h2, .int .u8 h3, .int .u8 1, .int .u32 h5, .int .u32 h6, .string h7, .string L] 98)) (.int .u8 0) (.int .u32 0) (.int .u16 0) (.int .u32 0) (.int .u16 0) (.int .i64 0) (.int .u8 0) (.bool false) (.int .u8 0) 55
  rw [hs_] at R_5
  clear hs_
  have B6 := B3.trans (al.mono B3.size)
  clear al
  clear P_2 B3
  have fzR_7 : ∀ i, ((w.alloc (.cells #[.int .u8 h0, .int .u16 h1, .bool h2, .int .u8 h3, .int .u8 1, .int .u32 h5, .int .u32 h6, .string h7, .string L] 98)).alloc (.cells #[.int .u8 0, .int .u32 0, .int .u16 0, .int .u32 0, .int .u16 0, .int .i64 0, .int .u8 0, .bool false, .int .u8 0] 55)).frozen? ⟨(w.heap.size + 1), i, none⟩ = false := by intro i; simp [go_sem]
  obtain ⟨u1, hu1⟩ : ∃ x, x = (w.alloc (.cells #[.int .u8 h0, .int .u16 h1, .bool h2, .int .u8 h3, .int .u8 1, .int .u32 h5, .int .u32 h6, .string h7, .string L] 98)).alloc (.cells #[.int .u8 0, .int .u32 0, .int .u16 0, .int .u32 0, .int .u16 0, .int .i64 0, .int .u8 0, .bool false, .int .u8 0] 55) := ⟨_, rfl⟩
  rw [← hu1] at P_4 R_5 fzR_7 B6 ⊢
  clear hu1
  refine (cm _).mono ?_; rintro e w1 ⟨rfl, x1⟩
  have fzR_8 := fzB_ x1 R_5.1 fzR_7
  clear fzR_7
  have P_9 := P_4.on x1
  have R_10 := R_5.on x1
  have B11 := B6.trans (x1.mono B6.size)
  clear P_4 R_5 B6 x1
  clear cm
  have Lt := Lib.hid (show w.heap.size + 1 < w1.heap.size from R_10.1)
  have al := alO_ B11 (.cells #[.int .u8 m0, .int .u8 m1, .int .u16 m2, .string m3, .string m4] 63)
  have fzR_12 := fzB_ al R_10.1 fzR_8
  clear fzR_8
  have P_13 := P_9.on al
  have R_14 := R_10.on al
  have G_15 := Box5.make w1 (.int .u8 m0) (.int .u8 m1) (.int .u16 m2) (.string m3) (.string m4) 63
  have B16 := B11.trans (al.mono B11.size)
  clear al
  clear P_9 R_10 B11
  have ne1_ : ¬ w.heap.size + 1 = w1.heap.size := by have := Lt.out; omega
  have ne2_ : ¬ w1.heap.size = w.heap.size + 1 := by have := Lt.out; omega
  obtain ⟨_, g1_0, g1_1, g1_2, g1_3, g1_4⟩ := id G_15
  go_wp2_with fail
  refine (cq _).mono ?_; rintro e w2 ⟨rfl, x2⟩
  have fzR_17 := fzB_ x2 R_14.1 fzR_12
  clear fzR_12
  have P_18 := P_13.on x2
  have R_19 := R_14.on x2
  have G_20 := G_15.on x2
  have B21 := B16.trans (x2.mono B16.size)
  clear g1_0 g1_1 g1_2 g1_3 g1_4 P_13 R_14 G_15 B16 x2
  clear cq
  go_upto_region 10 with fail
  obtain ⟨zp, gp0, gp1, gp2, gp3, gp4, gp5, gp6, gp7, gp8⟩ := id P_18
  have Fp0 := lat_ gp0 zp
  have Fp1 := lat_ gp1 zp
  have Fp2 := lat_ gp2 zp
  have Fp3 := lat_ gp3 zp
  have Fp4 := lat_ gp4 zp
  have Fp5 := lat_ gp5 zp
  have Fp6 := lat_ gp6 zp
  have Fp7 := lat_ gp7 zp
  have Fp8 := lat_ gp8 zp
  clear gp0 gp1 gp2 gp3 gp4 gp5 gp6 gp7 gp8
  obtain ⟨zg, gg0, gg1, gg2, gg3, gg4⟩ := id G_20
  have Fg0 := lat_ gg0 zg
  have Fg1 := lat_ gg1 zg
  have Fg2 := lat_ gg2 zg
  have Fg3 := lat_ gg3 zg
  have Fg4 := lat_ gg4 zg
  clear gg0 gg1 gg2 gg3 gg4
  refine region_lead (B := w2.heap.size) 4 1 (by kernel_rfl) (by kernel_rfl) (by kernel_rfl) (by kernel_rfl) ?_
  simp only [List.take_succ_cons, List.take_zero]
  repeat (go_big_quiet_step (first
    | (go_at_call 96; exact later_of _ (Nat.le_refl _) (ci _))
    | (go_at_call 94; exact later_of _ (Nat.le_refl _) (seen8_ h0 h1 h3 h5 h6 h2 h7 L 1 2 0 j _))))
  refine lead_end (by kernel_rfl) (by kernel_rfl) rfl fun w3 x3 G hG => ?_
  have fzR_22 := fzB_ x3 R_19.1 fzR_17
  clear fzR_17
  have P_23 := P_18.on x3
  have R_24 := R_19.on x3
  have G_25 := G_20.on x3
  have B26 := B21.trans (x3.mono B21.size)
  clear Fp0 Fp1 Fp2 Fp3 Fp4 Fp5 Fp6 Fp7 Fp8 zp Fg0 Fg1 Fg2 Fg3 Fg4 zg P_18 R_19 G_20 B21 x3
  clear ci
  clear P_23 G_25
  obtain ⟨_, r2_0, r2_1, r2_2, r2_3, r2_4, r2_5, r2_6, r2_7, r2_8⟩ := id R_24
  go_simp
  refine hG.out _ _ ?_
  clear hG G
  refine box9f_ (b := w.heap.size + 1) R_24.some B26 (Nat.le_succ _) fun z4 y4_0 y4_1 y4_2 y4_3 y4_4 y4_5 y4_6 y4_7 y4_8 B27 far sz fzz => ?_
  have R_28 : Box9 z4 (w.heap.size + 1) (.int .u8 1) (.int .u32 h5) (.int .u16 0) (.int .u32 h6) (.int .u16 j) (.int .i64 2) (.int .u8 0) (.bool false) (.int .u8 h3) := ⟨by rw [sz]; exact R_24.1, y4_0, y4_1, y4_2, y4_3, y4_4, y4_5, y4_6, y4_7, y4_8⟩
  have fzR_29 : ∀ i, z4.frozen? ⟨(w.heap.size + 1), i, none⟩ = false := fun i => (fzz _).trans (fzR_22 i)
  clear r2_0 r2_1 r2_2 r2_3 r2_4 r2_5 r2_6 r2_7 r2_8 y4_0 y4_1 y4_2 y4_3 y4_4 y4_5 y4_6 y4_7 y4_8 R_24 B26 fzR_22 far sz fzz
  obtain ⟨_, r3_0, r3_1, r3_2, r3_3, r3_4, r3_5, r3_6, r3_7, r3_8⟩ := id R_28
  go_wp2
  refine box9_ (b := w.heap.size + 1) R_28.some B27 (Nat.le_succ _) fun Z y0 y1 y2 y3 y4 y5 y6 y7 y8 BZ _ _ => ?_
  refine bodyPost_ret (v := .tuple #[.agg #[.int .u8 1, .int .u32 h5, .int .u16 0, .int .u32 h6, .int .u16 j, .int .i64 2, .int .u8 0, .bool false, .int .u8 h3], .int .i64 0]) (by simp [results, Tryz.results46, go_sem, y0, y1, y2, y3, y4, y5, y6, y7, y8]) rfl ?_
  exact ⟨rfl, BZ⟩
theorem of8_refused (s : ByteArray) (h0 h1 h3 h5 h6 : Int) (h2 : Bool) (h7 L : ByteArray) (q : Int) (e1 : (q != 0) = true) (cp : Cb_ 19 #[.string s] (.tuple #[.agg #[.int .u8 0, .int .u16 0, .bool false, .int .u8 0, .int .u8 0, .int .u32 0, .int .u32 0, .string ⟨#[]⟩], .string ⟨#[]⟩, .int .i64 q])) (w : World) :
    Cw_ 15 #[.string s] (.tuple #[.agg #[.int .u8 0, .int .u32 0, .int .u16 0, .int .u32 0, .int .u16 0, .int .i64 0, .int .u8 0, .bool false, .int .u8 0], .int .i64 q]) w := by
  go_enter Tryz.func15, Tryz.ntmps15
  have B1 := Below.refl w.heap.size w
  go_wp2_with fail
  have R_2 := Box9.make w (.int .u8 0) (.int .u32 0) (.int .u16 0) (.int .u32 0) (.int .u16 0) (.int .i64 0) (.int .u8 0) (.bool false) (.int .u8 0) 55
  have B3 := B1.alloc B1.size (.cells #[.int .u8 0, .int .u32 0, .int .u16 0, .int .u32 0, .int .u16 0, .int .i64 0, .int .u8 0, .bool false, .int .u8 0] 55)
  clear B1
  have fzR_4 : ∀ i, (w.alloc (.cells #[.int .u8 0, .int .u32 0, .int .u16 0, .int .u32 0, .int .u16 0, .int .i64 0, .int .u8 0, .bool false, .int .u8 0] 55)).frozen? ⟨w.heap.size, i, none⟩ = false := by intro i; simp [go_sem]
  refine (cp _).mono ?_; rintro e w1 ⟨rfl, x1⟩
  have fzR_5 := fzB_ x1 R_2.1 fzR_4
  clear fzR_4
  have R_6 := R_2.on x1
  have B7 := B3.trans (x1.mono B3.size)
  clear R_2 B3 x1
  clear cp
  have al := alO_ B7 (.cells #[.int .u8 0, .int .u16 0, .bool false, .int .u8 0, .int .u8 0, .int .u32 0, .int .u32 0, .string ⟨#[]⟩] 64)
  have fzR_8 := fzB_ al R_6.1 fzR_5
  clear fzR_5
  have R_9 := R_6.on al
  have H_10 := Box8.make w1 (.int .u8 0) (.int .u16 0) (.bool false) (.int .u8 0) (.int .u8 0) (.int .u32 0) (.int .u32 0) (.string ⟨#[]⟩) 64
  have B11 := B7.trans (al.mono B7.size)
  clear al
  clear R_6 B7
  obtain ⟨_, r1_0, r1_1, r1_2, r1_3, r1_4, r1_5, r1_6, r1_7, r1_8⟩ := id R_9
  go_wp2
  refine box9_ (b := w.heap.size) R_9.some B11 (Nat.le_refl _) fun Z y0 y1 y2 y3 y4 y5 y6 y7 y8 BZ _ _ => ?_
  refine bodyPost_ret (v := .tuple #[.agg #[.int .u8 0, .int .u32 0, .int .u16 0, .int .u32 0, .int .u16 0, .int .i64 0, .int .u8 0, .bool false, .int .u8 0], .int .i64 q]) (by simp [results, Tryz.results15, go_sem, y0, y1, y2, y3, y4, y5, y6, y7, y8]) rfl ?_
  exact ⟨rfl, BZ⟩
theorem of8_none (s : ByteArray) (h0 h1 h3 h5 h6 : Int) (h2 : Bool) (h7 L : ByteArray) (pr : Int) (e6 : (pr == 6) = false) (e17 : (pr == 17) = false) (e1 : (pr == 1) = false) (cp : Cb_ 19 #[.string s] (.tuple #[.agg #[.int .u8 h0, .int .u16 h1, .bool h2, .int .u8 h3, .int .u8 pr, .int .u32 h5, .int .u32 h6, .string h7], .string L, .int .i64 0])) (w : World) :
    Cw_ 15 #[.string s] (.tuple #[.agg #[.int .u8 0, .int .u32 0, .int .u16 0, .int .u32 0, .int .u16 0, .int .i64 0, .int .u8 0, .bool false, .int .u8 0], .int .i64 6]) w := by
  go_enter Tryz.func15, Tryz.ntmps15
  have B1 := Below.refl w.heap.size w
  go_wp2_with fail
  have R_2 := Box9.make w (.int .u8 0) (.int .u32 0) (.int .u16 0) (.int .u32 0) (.int .u16 0) (.int .i64 0) (.int .u8 0) (.bool false) (.int .u8 0) 55
  have B3 := B1.alloc B1.size (.cells #[.int .u8 0, .int .u32 0, .int .u16 0, .int .u32 0, .int .u16 0, .int .i64 0, .int .u8 0, .bool false, .int .u8 0] 55)
  clear B1
  have fzR_4 : ∀ i, (w.alloc (.cells #[.int .u8 0, .int .u32 0, .int .u16 0, .int .u32 0, .int .u16 0, .int .i64 0, .int .u8 0, .bool false, .int .u8 0] 55)).frozen? ⟨w.heap.size, i, none⟩ = false := by intro i; simp [go_sem]
  refine (cp _).mono ?_; rintro e w1 ⟨rfl, x1⟩
  have fzR_5 := fzB_ x1 R_2.1 fzR_4
  clear fzR_4
  have R_6 := R_2.on x1
  have B7 := B3.trans (x1.mono B3.size)
  clear R_2 B3 x1
  clear cp
  have al := alO_ B7 (.cells #[.int .u8 h0, .int .u16 h1, .bool h2, .int .u8 h3, .int .u8 pr, .int .u32 h5, .int .u32 h6, .string h7] 64)
  have fzR_8 := fzB_ al R_6.1 fzR_5
  clear fzR_5
  have R_9 := R_6.on al
  have H_10 := Box8.make w1 (.int .u8 h0) (.int .u16 h1) (.bool h2) (.int .u8 h3) (.int .u8 pr) (.int .u32 h5) (.int .u32 h6) (.string h7) 64
  have B11 := B7.trans (al.mono B7.size)
  clear al
  clear R_6 B7
  obtain ⟨_, h1_0, h1_1, h1_2, h1_3, h1_4, h1_5, h1_6, h1_7⟩ := id H_10
  have al := alO_ B11 (.cells #[.int .u8 h0, .int .u16 h1, .bool h2, .int .u8 h3, .int .u8 pr, .int .u32 h5, .int .u32 h6, .string h7, .string L] 98)
  have fzR_12 := fzB_ al R_9.1 fzR_8
  clear fzR_8
  have R_13 := R_9.on al
  have H_14 := H_10.on al
  have hs_ : (w1.alloc (.cells #[.int .u8 h0, .int .u16 h1, .bool h2, .int .u8 h3, .int .u8 pr, .int .u32 h5, .int .u32 h6, .string h7] 64)).heap.size = w1.heap.size + 1 := by simp
  have P_15 := Box9.make (w1.alloc (.cells #[.int .u8 h0, .int .u16 h1, .bool h2, .int .u8 h3, .int .u8 pr, .int .u32 h5, .int .u32 h6, .string h7] 64)) (.int .u8 h0) (.int .u16 h1) (.bool h2) (.int .u8 h3) (.int .u8 pr) (.int .u32 h5) (.int .u32 h6) (.string h7) (.string L) 98
  rw [hs_] at P_15
  clear hs_
  have B16 := B11.trans (al.mono B11.size)
  clear al
  clear R_9 H_10 B11
  obtain ⟨_, r2_0, r2_1, r2_2, r2_3, r2_4, r2_5, r2_6, r2_7, r2_8⟩ := id R_13
  obtain ⟨_, p3_0, p3_1, p3_2, p3_3, p3_4, p3_5, p3_6, p3_7, p3_8⟩ := id P_15
  go_wp2
  refine box9_ (b := w.heap.size) R_13.some B16 (Nat.le_refl _) fun Z y0 y1 y2 y3 y4 y5 y6 y7 y8 BZ _ _ => ?_
  refine bodyPost_ret (v := .tuple #[.agg #[.int .u8 0, .int .u32 0, .int .u16 0, .int .u32 0, .int .u16 0, .int .i64 0, .int .u8 0, .bool false, .int .u8 0], .int .i64 6]) (by simp [results, Tryz.results15, go_sem, y0, y1, y2, y3, y4, y5, y6, y7, y8]) rfl ?_
  exact ⟨rfl, BZ⟩
theorem of8_segment (s : ByteArray) (h0 h1 h3 h5 h6 : Int) (h2 : Bool) (h7 L : ByteArray) (x0 x1 x2 x3 x4 x5 x6 x8 r : Int) (x7 : Bool) (cp : Cb_ 19 #[.string s] (.tuple #[.agg #[.int .u8 h0, .int .u16 h1, .bool h2, .int .u8 h3, .int .u8 6, .int .u32 h5, .int .u32 h6, .string h7], .string L, .int .i64 0])) (cs : Cb_ 44 #[.agg #[.int .u8 h0, .int .u16 h1, .bool h2, .int .u8 h3, .int .u8 6, .int .u32 h5, .int .u32 h6, .string h7, .string L]] (.tuple #[.agg #[.int .u8 x0, .int .u32 x1, .int .u16 x2, .int .u32 x3, .int .u16 x4, .int .i64 x5, .int .u8 x6, .bool x7, .int .u8 x8], .int .i64 r])) (w : World) :
    Cw_ 15 #[.string s] (.tuple #[.agg #[.int .u8 x0, .int .u32 x1, .int .u16 x2, .int .u32 x3, .int .u16 x4, .int .i64 x5, .int .u8 x6, .bool x7, .int .u8 x8], .int .i64 r]) w := by
  go_enter Tryz.func15, Tryz.ntmps15
  have B1 := Below.refl w.heap.size w
  go_wp2_with fail
  have R_2 := Box9.make w (.int .u8 0) (.int .u32 0) (.int .u16 0) (.int .u32 0) (.int .u16 0) (.int .i64 0) (.int .u8 0) (.bool false) (.int .u8 0) 55
  have B3 := B1.alloc B1.size (.cells #[.int .u8 0, .int .u32 0, .int .u16 0, .int .u32 0, .int .u16 0, .int .i64 0, .int .u8 0, .bool false, .int .u8 0] 55)
  clear B1
  have fzR_4 : ∀ i, (w.alloc (.cells #[.int .u8 0, .int .u32 0, .int .u16 0, .int .u32 0, .int .u16 0, .int .i64 0, .int .u8 0, .bool false, .int .u8 0] 55)).frozen? ⟨w.heap.size, i, none⟩ = false := by intro i; simp [go_sem]
  refine (cp _).mono ?_; rintro e w1 ⟨rfl, x1⟩
  have fzR_5 := fzB_ x1 R_2.1 fzR_4
  clear fzR_4
  have R_6 := R_2.on x1
  have B7 := B3.trans (x1.mono B3.size)
  clear R_2 B3 x1
  clear cp
  have al := alO_ B7 (.cells #[.int .u8 h0, .int .u16 h1, .bool h2, .int .u8 h3, .int .u8 6, .int .u32 h5, .int .u32 h6, .string h7] 64)
  have fzR_8 := fzB_ al R_6.1 fzR_5
  clear fzR_5
  have R_9 := R_6.on al
  have H_10 := Box8.make w1 (.int .u8 h0) (.int .u16 h1) (.bool h2) (.int .u8 h3) (.int .u8 6) (.int .u32 h5) (.int .u32 h6) (.string h7) 64
  have B11 := B7.trans (al.mono B7.size)
  clear al
  clear R_6 B7
  obtain ⟨_, h1_0, h1_1, h1_2, h1_3, h1_4, h1_5, h1_6, h1_7⟩ := id H_10
  have al := alO_ B11 (.cells #[.int .u8 h0, .int .u16 h1, .bool h2, .int .u8 h3, .int .u8 6, .int .u32 h5, .int .u32 h6, .string h7, .string L] 98)
  have fzR_12 := fzB_ al R_9.1 fzR_8
  clear fzR_8
  have R_13 := R_9.on al
  have H_14 := H_10.on al
  have hs_ : (w1.alloc (.cells #[.int .u8 h0, .int .u16 h1, .bool h2, .int .u8 h3, .int .u8 6, .int .u32 h5, .int .u32 h6, .string h7] 64)).heap.size = w1.heap.size + 1 := by simp
  have P_15 := Box9.make (w1.alloc (.cells #[.int .u8 h0, .int .u16 h1, .bool h2, .int .u8 h3, .int .u8 6, .int .u32 h5, .int .u32 h6, .string h7] 64)) (.int .u8 h0) (.int .u16 h1) (.bool h2) (.int .u8 h3) (.int .u8 6) (.int .u32 h5) (.int .u32 h6) (.string h7) (.string L) 98
  rw [hs_] at P_15
  clear hs_
  have B16 := B11.trans (al.mono B11.size)
  clear al
  clear R_9 H_10 B11
  obtain ⟨_, p2_0, p2_1, p2_2, p2_3, p2_4, p2_5, p2_6, p2_7, p2_8⟩ := id P_15
  go_wp2_with fail
  refine (cs _).mono ?_; rintro e w2 ⟨rfl, x2⟩
  have fzR_17 := fzB_ x2 R_13.1 fzR_12
  clear fzR_12
  have R_18 := R_13.on x2
  have H_19 := H_14.on x2
  have P_20 := P_15.on x2
  have B21 := B16.trans (x2.mono B16.size)
  clear h1_0 h1_1 h1_2 h1_3 h1_4 h1_5 h1_6 h1_7 p2_0 p2_1 p2_2 p2_3 p2_4 p2_5 p2_6 p2_7 p2_8 R_13 H_14 P_15 B16 x2
  clear cs
  obtain ⟨_, r3_0, r3_1, r3_2, r3_3, r3_4, r3_5, r3_6, r3_7, r3_8⟩ := id R_18
  go_wp2
  refine box9_ (b := w.heap.size) R_18.some B21 (Nat.le_refl _) fun Z y0 y1 y2 y3 y4 y5 y6 y7 y8 BZ _ _ => ?_
  refine bodyPost_ret (v := .tuple #[.agg #[.int .u8 x0, .int .u32 x1, .int .u16 x2, .int .u32 x3, .int .u16 x4, .int .i64 x5, .int .u8 x6, .bool x7, .int .u8 x8], .int .i64 r]) (by simp [results, Tryz.results15, go_sem, y0, y1, y2, y3, y4, y5, y6, y7, y8]) rfl ?_
  exact ⟨rfl, BZ⟩
theorem of8_datagram (s : ByteArray) (h0 h1 h3 h5 h6 : Int) (h2 : Bool) (h7 L : ByteArray) (x0 x1 x2 x3 x4 x5 x6 x8 r : Int) (x7 : Bool) (cp : Cb_ 19 #[.string s] (.tuple #[.agg #[.int .u8 h0, .int .u16 h1, .bool h2, .int .u8 h3, .int .u8 17, .int .u32 h5, .int .u32 h6, .string h7], .string L, .int .i64 0])) (cs : Cb_ 45 #[.agg #[.int .u8 h0, .int .u16 h1, .bool h2, .int .u8 h3, .int .u8 17, .int .u32 h5, .int .u32 h6, .string h7, .string L]] (.tuple #[.agg #[.int .u8 x0, .int .u32 x1, .int .u16 x2, .int .u32 x3, .int .u16 x4, .int .i64 x5, .int .u8 x6, .bool x7, .int .u8 x8], .int .i64 r])) (w : World) :
    Cw_ 15 #[.string s] (.tuple #[.agg #[.int .u8 x0, .int .u32 x1, .int .u16 x2, .int .u32 x3, .int .u16 x4, .int .i64 x5, .int .u8 x6, .bool x7, .int .u8 x8], .int .i64 r]) w := by
  go_enter Tryz.func15, Tryz.ntmps15
  have B1 := Below.refl w.heap.size w
  go_wp2_with fail
  have R_2 := Box9.make w (.int .u8 0) (.int .u32 0) (.int .u16 0) (.int .u32 0) (.int .u16 0) (.int .i64 0) (.int .u8 0) (.bool false) (.int .u8 0) 55
  have B3 := B1.alloc B1.size (.cells #[.int .u8 0, .int .u32 0, .int .u16 0, .int .u32 0, .int .u16 0, .int .i64 0, .int .u8 0, .bool false, .int .u8 0] 55)
  clear B1
  have fzR_4 : ∀ i, (w.alloc (.cells #[.int .u8 0, .int .u32 0, .int .u16 0, .int .u32 0, .int .u16 0, .int .i64 0, .int .u8 0, .bool false, .int .u8 0] 55)).frozen? ⟨w.heap.size, i, none⟩ = false := by intro i; simp [go_sem]
  refine (cp _).mono ?_; rintro e w1 ⟨rfl, x1⟩
  have fzR_5 := fzB_ x1 R_2.1 fzR_4
  clear fzR_4
  have R_6 := R_2.on x1
  have B7 := B3.trans (x1.mono B3.size)
  clear R_2 B3 x1
  clear cp
  have al := alO_ B7 (.cells #[.int .u8 h0, .int .u16 h1, .bool h2, .int .u8 h3, .int .u8 17, .int .u32 h5, .int .u32 h6, .string h7] 64)
  have fzR_8 := fzB_ al R_6.1 fzR_5
  clear fzR_5
  have R_9 := R_6.on al
  have H_10 := Box8.make w1 (.int .u8 h0) (.int .u16 h1) (.bool h2) (.int .u8 h3) (.int .u8 17) (.int .u32 h5) (.int .u32 h6) (.string h7) 64
  have B11 := B7.trans (al.mono B7.size)
  clear al
  clear R_6 B7
  obtain ⟨_, h1_0, h1_1, h1_2, h1_3, h1_4, h1_5, h1_6, h1_7⟩ := id H_10
  have al := alO_ B11 (.cells #[.int .u8 h0, .int .u16 h1, .bool h2, .int .u8 h3, .int .u8 17, .int .u32 h5, .int .u32 h6, .string h7, .string L] 98)
  have fzR_12 := fzB_ al R_9.1 fzR_8
  clear fzR_8
  have R_13 := R_9.on al
  have H_14 := H_10.on al
  have hs_ : (w1.alloc (.cells #[.int .u8 h0, .int .u16 h1, .bool h2, .int .u8 h3, .int .u8 17, .int .u32 h5, .int .u32 h6, .string h7] 64)).heap.size = w1.heap.size + 1 := by simp
  have P_15 := Box9.make (w1.alloc (.cells #[.int .u8 h0, .int .u16 h1, .bool h2, .int .u8 h3, .int .u8 17, .int .u32 h5, .int .u32 h6, .string h7] 64)) (.int .u8 h0) (.int .u16 h1) (.bool h2) (.int .u8 h3) (.int .u8 17) (.int .u32 h5) (.int .u32 h6) (.string h7) (.string L) 98
  rw [hs_] at P_15
  clear hs_
  have B16 := B11.trans (al.mono B11.size)
  clear al
  clear R_9 H_10 B11
  obtain ⟨_, p2_0, p2_1, p2_2, p2_3, p2_4, p2_5, p2_6, p2_7, p2_8⟩ := id P_15
  go_wp2_with fail
  refine (cs _).mono ?_; rintro e w2 ⟨rfl, x2⟩
  have fzR_17 := fzB_ x2 R_13.1 fzR_12
  clear fzR_12
  have R_18 := R_13.on x2
  have H_19 := H_14.on x2
  have P_20 := P_15.on x2
  have B21 := B16.trans (x2.mono B16.size)
  clear h1_0 h1_1 h1_2 h1_3 h1_4 h1_5 h1_6 h1_7 p2_0 p2_1 p2_2 p2_3 p2_4 p2_5 p2_6 p2_7 p2_8 R_13 H_14 P_15 B16 x2
  clear cs
  obtain ⟨_, r3_0, r3_1, r3_2, r3_3, r3_4, r3_5, r3_6, r3_7, r3_8⟩ := id R_18
  go_wp2
  refine box9_ (b := w.heap.size) R_18.some B21 (Nat.le_refl _) fun Z y0 y1 y2 y3 y4 y5 y6 y7 y8 BZ _ _ => ?_
  refine bodyPost_ret (v := .tuple #[.agg #[.int .u8 x0, .int .u32 x1, .int .u16 x2, .int .u32 x3, .int .u16 x4, .int .i64 x5, .int .u8 x6, .bool x7, .int .u8 x8], .int .i64 r]) (by simp [results, Tryz.results15, go_sem, y0, y1, y2, y3, y4, y5, y6, y7, y8]) rfl ?_
  exact ⟨rfl, BZ⟩
theorem of8_message (s : ByteArray) (h0 h1 h3 h5 h6 : Int) (h2 : Bool) (h7 L : ByteArray) (x0 x1 x2 x3 x4 x5 x6 x8 r : Int) (x7 : Bool) (cp : Cb_ 19 #[.string s] (.tuple #[.agg #[.int .u8 h0, .int .u16 h1, .bool h2, .int .u8 h3, .int .u8 1, .int .u32 h5, .int .u32 h6, .string h7], .string L, .int .i64 0])) (cs : Cb_ 46 #[.agg #[.int .u8 h0, .int .u16 h1, .bool h2, .int .u8 h3, .int .u8 1, .int .u32 h5, .int .u32 h6, .string h7, .string L]] (.tuple #[.agg #[.int .u8 x0, .int .u32 x1, .int .u16 x2, .int .u32 x3, .int .u16 x4, .int .i64 x5, .int .u8 x6, .bool x7, .int .u8 x8], .int .i64 r])) (w : World) :
    Cw_ 15 #[.string s] (.tuple #[.agg #[.int .u8 x0, .int .u32 x1, .int .u16 x2, .int .u32 x3, .int .u16 x4, .int .i64 x5, .int .u8 x6, .bool x7, .int .u8 x8], .int .i64 r]) w := by
  go_enter Tryz.func15, Tryz.ntmps15
  have B1 := Below.refl w.heap.size w
  go_wp2_with fail
  have R_2 := Box9.make w (.int .u8 0) (.int .u32 0) (.int .u16 0) (.int .u32 0) (.int .u16 0) (.int .i64 0) (.int .u8 0) (.bool false) (.int .u8 0) 55
  have B3 := B1.alloc B1.size (.cells #[.int .u8 0, .int .u32 0, .int .u16 0, .int .u32 0, .int .u16 0, .int .i64 0, .int .u8 0, .bool false, .int .u8 0] 55)
  clear B1
  have fzR_4 : ∀ i, (w.alloc (.cells #[.int .u8 0, .int .u32 0, .int .u16 0, .int .u32 0, .int .u16 0, .int .i64 0, .int .u8 0, .bool false, .int .u8 0] 55)).frozen? ⟨w.heap.size, i, none⟩ = false := by intro i; simp [go_sem]
  refine (cp _).mono ?_; rintro e w1 ⟨rfl, x1⟩
  have fzR_5 := fzB_ x1 R_2.1 fzR_4
  clear fzR_4
  have R_6 := R_2.on x1
  have B7 := B3.trans (x1.mono B3.size)
  clear R_2 B3 x1
  clear cp
  have al := alO_ B7 (.cells #[.int .u8 h0, .int .u16 h1, .bool h2, .int .u8 h3, .int .u8 1, .int .u32 h5, .int .u32 h6, .string h7] 64)
  have fzR_8 := fzB_ al R_6.1 fzR_5
  clear fzR_5
  have R_9 := R_6.on al
  have H_10 := Box8.make w1 (.int .u8 h0) (.int .u16 h1) (.bool h2) (.int .u8 h3) (.int .u8 1) (.int .u32 h5) (.int .u32 h6) (.string h7) 64
  have B11 := B7.trans (al.mono B7.size)
  clear al
  clear R_6 B7
  obtain ⟨_, h1_0, h1_1, h1_2, h1_3, h1_4, h1_5, h1_6, h1_7⟩ := id H_10
  have al := alO_ B11 (.cells #[.int .u8 h0, .int .u16 h1, .bool h2, .int .u8 h3, .int .u8 1, .int .u32 h5, .int .u32 h6, .string h7, .string L] 98)
  have fzR_12 := fzB_ al R_9.1 fzR_8
  clear fzR_8
  have R_13 := R_9.on al
  have H_14 := H_10.on al
  have hs_ : (w1.alloc (.cells #[.int .u8 h0, .int .u16 h1, .bool h2, .int .u8 h3, .int .u8 1, .int .u32 h5, .int .u32 h6, .string h7] 64)).heap.size = w1.heap.size + 1 := by simp
  have P_15 := Box9.make (w1.alloc (.cells #[.int .u8 h0, .int .u16 h1, .bool h2, .int .u8 h3, .int .u8 1, .int .u32 h5, .int .u32 h6, .string h7] 64)) (.int .u8 h0) (.int .u16 h1) (.bool h2) (.int .u8 h3) (.int .u8 1) (.int .u32 h5) (.int .u32 h6) (.string h7) (.string L) 98
  rw [hs_] at P_15
  clear hs_
  have B16 := B11.trans (al.mono B11.size)
  clear al
  clear R_9 H_10 B11
  obtain ⟨_, p2_0, p2_1, p2_2, p2_3, p2_4, p2_5, p2_6, p2_7, p2_8⟩ := id P_15
  go_wp2_with fail
  refine (cs _).mono ?_; rintro e w2 ⟨rfl, x2⟩
  have fzR_17 := fzB_ x2 R_13.1 fzR_12
  clear fzR_12
  have R_18 := R_13.on x2
  have H_19 := H_14.on x2
  have P_20 := P_15.on x2
  have B21 := B16.trans (x2.mono B16.size)
  clear h1_0 h1_1 h1_2 h1_3 h1_4 h1_5 h1_6 h1_7 p2_0 p2_1 p2_2 p2_3 p2_4 p2_5 p2_6 p2_7 p2_8 R_13 H_14 P_15 B16 x2
  clear cs
  obtain ⟨_, r3_0, r3_1, r3_2, r3_3, r3_4, r3_5, r3_6, r3_7, r3_8⟩ := id R_18
  go_wp2
  refine box9_ (b := w.heap.size) R_18.some B21 (Nat.le_refl _) fun Z y0 y1 y2 y3 y4 y5 y6 y7 y8 BZ _ _ => ?_
  refine bodyPost_ret (v := .tuple #[.agg #[.int .u8 x0, .int .u32 x1, .int .u16 x2, .int .u32 x3, .int .u16 x4, .int .i64 x5, .int .u8 x6, .bool x7, .int .u8 x8], .int .i64 r]) (by simp [results, Tryz.results15, go_sem, y0, y1, y2, y3, y4, y5, y6, y7, y8]) rfl ?_
  exact ⟨rfl, BZ⟩
theorem of8_ (s : ByteArray) (w : World) (hs : s.size ≤ 1000000) :
    Cw_ 15 #[.string s] (.tuple #[.agg #[.int .u8 (sI s (bt s 9)), .int .u32 (sI s (g32 s 12)), .int .u16 (sI s (oM (bt s 9) (pP s))), .int .u32 (sI s (g32 s 16)), .int .u16 (sI s (oN (bt s 9) (pP s))), .int .i64 (sI s (oK (bt s 9) (pP s))), .int .u8 (sI s (oF (bt s 9) (pP s))), .bool (sB s (oA (bt s 9) (pP s))), .int .u8 (sI s (bt s 8))], .int .i64 (seenR s)]) w := by
  have cp := fun u => ipParse_ s u (by unfold maxLen; omega)
  by_cases hr : pR s = 0
  rotate_left
  · have hR : seenR s = pR s := by unfold seenR; rw [if_neg hr]
    obtain ⟨n1, n2⟩ := s_no (s := s) (by rw [hR]; exact hr)
    rw [n1, n1, n1, n1, n1, n1, n1, n1, n2, hR]
    obtain ⟨y1, y2, y3, y4⟩ := p_no hr
    rw [y1, y1, y1, y1, y1, y1, y2, y3, y4] at cp
    have e1 : (pR s != 0) = true := by simpa using hr
    exact of8_refused s 0 0 0 0 0 false ⟨#[]⟩ ⟨#[]⟩ (pR s) e1 cp w
  have hR : seenR s = oR (bt s 9) (pP s) := by unfold seenR; rw [if_pos hr]
  have y4 := p_yes hr
  obtain ⟨y1, y2, y3, y4⟩ := y4
  rw [y1, y1, y1, y1, y1, y1, hr] at cp
  have hL : (pP s).size ≤ 1000000 := by rw [y4, ByteArray.size_extract]; omega
  have z : (∀ v, sI s v = if oR (bt s 9) (pP s) = 0 then v else 0) ∧ (∀ v, sB s v = if oR (bt s 9) (pP s) = 0 then v else false) := ⟨fun v => by unfold sI; rw [hR], fun v => by unfold sB; rw [hR]⟩
  obtain ⟨z1, z2⟩ := z
  rw [z1, z1, z1, z1, z1, z1, z1, z1, z2, hR]
  generalize bt s 1 = h0 at *
  generalize g16 s 4 = h1 at *
  generalize pF s = h2 at *
  generalize bt s 8 = h3 at *
  generalize bt s 9 = pr at *
  generalize g32 s 12 = h5 at *
  generalize g32 s 16 = h6 at *
  generalize pO s = h7 at *
  generalize pP s = L at *
  clear z1 z2 hR hr y1 y2 y3 y4
  by_cases h_6 : pr = 6
  · subst h_6
    have cm := fun u => tcpParse_ L u hL
    by_cases hk : tOk L = true
    · have o1 : oR 6 L = 0 := by unfold oR; rw [if_pos rfl, if_pos hk]
      have o2 : oM 6 L = g16 L 0 := by unfold oM; rw [if_neg (by decide)]
      have o3 : oN 6 L = g16 L 2 := by unfold oN; rw [if_neg (by decide)]
      have o5 : oF 6 L = bt L 13 := by unfold oF; rw [if_pos rfl]
      have o6 : oA 6 L = false := by unfold oA; simp
      obtain ⟨_, _, _, y1, y2, y3⟩ := tOk_yes hk
      rw [y1, y1, y1, y1, y1, y1, y1, y1, y1, hk] at cm
      by_cases hb : bits .and .u8 (bt L 13) 23 = 2
      · have o4 : oK 6 L = 1 := by unfold oK; rw [if_neg (by decide), if_pos ⟨rfl, hb⟩]
        rw [o1, o2, o3, o4, o5, o6]
        simp only [if_true]
        exact of8_segment s h0 h1 h3 h5 h6 h2 h7 L _ _ _ _ _ _ _ _ _ _ cp (fun u => segment8_first h0 h1 h3 h5 h6 h2 h7 L _ _ _ _ _ _ _ _ _ _ _ cm (by rw [hb]; rfl) u) w
      · have o4 : oK 6 L = 2 := by unfold oK; rw [if_neg (by decide), if_neg (fun h => hb h.2)]
        rw [o1, o2, o3, o4, o5, o6]
        simp only [if_true]
        exact of8_segment s h0 h1 h3 h5 h6 h2 h7 L _ _ _ _ _ _ _ _ _ _ cp (fun u => segment8_flow h0 h1 h3 h5 h6 h2 h7 L _ _ _ _ _ _ _ _ _ _ _ cm (by simpa using hb) u) w
    · have hk2 : tOk L = false := by simpa using hk
      rw [show oR 6 L = 7 by unfold oR; rw [if_pos rfl, if_neg hk]]
      simp only [show ¬ (7 : Int) = 0 by omega, if_false]
      obtain ⟨y1, y2, y3⟩ := tOk_no hk2
      rw [y1, y1, y1, y1, y1, y1, y1, y1, y1, y2, y3, hk2] at cm
      exact of8_segment s h0 h1 h3 h5 h6 h2 h7 L _ _ _ _ _ _ _ _ _ _ cp (fun u => segment8_bad h0 h1 h3 h5 h6 h2 h7 L cm u) w
  by_cases h_17 : pr = 17
  · subst h_17
    have cm := fun u => udpParse_ L u hL
    by_cases hk : uOk L = true
    · have o1 : oR 17 L = 0 := by unfold oR; rw [if_neg (by decide), if_pos rfl, if_pos hk]
      have o2 : oM 17 L = g16 L 0 := by unfold oM; rw [if_neg (by decide)]
      have o3 : oN 17 L = g16 L 2 := by unfold oN; rw [if_neg (by decide)]
      have o4 : oK 17 L = 2 := by unfold oK; rw [if_neg (by decide), if_neg (fun h => absurd h.1 (by decide))]
      have o5 : oF 17 L = 0 := by unfold oF; rw [if_neg (by decide)]
      have o6 : oA 17 L = false := by unfold oA; simp
      obtain ⟨_, _, y1, y2⟩ := uOk_yes hk
      rw [y1, y1, y1, y1, hk] at cm
      rw [o1, o2, o3, o4, o5, o6]
      simp only [if_true]
      exact of8_datagram s h0 h1 h3 h5 h6 h2 h7 L _ _ _ _ _ _ _ _ _ _ cp (fun u => datagram8_ok h0 h1 h3 h5 h6 h2 h7 L _ _ _ _ _ cm u) w
    · have hk2 : uOk L = false := by simpa using hk
      rw [show oR 17 L = 7 by unfold oR; rw [if_neg (by decide), if_pos rfl, if_neg hk]]
      simp only [show ¬ (7 : Int) = 0 by omega, if_false]
      obtain ⟨y1, y2⟩ := uOk_no hk2
      rw [y1, y1, y1, y1, y2, hk2] at cm
      exact of8_datagram s h0 h1 h3 h5 h6 h2 h7 L _ _ _ _ _ _ _ _ _ _ cp (fun u => datagram8_bad h0 h1 h3 h5 h6 h2 h7 L cm u) w
  by_cases h_1 : pr = 1
  rotate_left
  · have e6 : (pr == 6) = false := by simpa using h_6
    have e17 : (pr == 17) = false := by simpa using h_17
    have e1 : (pr == 1) = false := by simpa using h_1
    rw [show oR pr L = 6 by unfold oR; rw [if_neg h_6, if_neg h_17, if_neg h_1]]
    simp only [show ¬ (6 : Int) = 0 by omega, if_false]
    exact of8_none s h0 h1 h3 h5 h6 h2 h7 L pr e6 e17 e1 cp w
  subst h_1
  have cm := fun u => icmpParse_ L u hL
  by_cases hk : mOk L = true
  rotate_left
  · have hk2 : mOk L = false := by simpa using hk
    rw [show oR 1 L = 7 by unfold oR; rw [if_neg (by omega), if_neg (by omega), if_pos rfl, if_neg hk]]
    simp only [show ¬ (7 : Int) = 0 by omega, if_false]
    obtain ⟨y1, y2, y3⟩ := mOk_no hk2
    rw [y1, y1, y1, y2, y3, hk2] at cm
    exact of8_message s h0 h1 h3 h5 h6 h2 h7 L _ _ _ _ _ _ _ _ _ _ cp (fun u => message8_bad h0 h1 h3 h5 h6 h2 h7 L cm u) w
  obtain ⟨_, y1, y2, y3⟩ := mOk_yes hk
  have cq := fun u => icmpQuery_ (bt L 0) (bt L 1) (g16 L 2) (mR L) (mD L) u (bt_nonneg L 0) (bt_le L 0) (bt_nonneg L 1) (bt_le L 1)
  have ce := fun u => icmpError_ (bt L 0) (bt L 1) (g16 L 2) (mR L) (mD L) u (bt_nonneg L 0) (bt_le L 0) (bt_nonneg L 1) (bt_le L 1)
  have hz : (mR L).size ≤ 1000000 := by rw [y2, ByteArray.size_extract]; omega
  have ci := fun u => icmpID_ (bt L 0) (bt L 1) (g16 L 2) (mR L) (mD L) u hz
  have hsub := @q_sub (bt L 0) (bt L 1)
  rw [y1, y1, y1, hk] at cm
  have o1 : oR 1 L = if (qIs (bt L 0) (bt L 1) || erM (bt L 0)) = true then 0 else 6 := by unfold oR; rw [if_neg (by omega), if_neg (by omega), if_pos rfl, if_pos hk]
  have o2 : oM 1 L = if qAsk (bt L 0) (bt L 1) = true then idM (mR L) else 0 := by unfold oM; rw [if_pos rfl]
  have o3 : oN 1 L = if (qIs (bt L 0) (bt L 1) && !qAsk (bt L 0) (bt L 1)) = true then idM (mR L) else 0 := by unfold oN; rw [if_pos rfl]
  have o4 : oK 1 L = if qIs (bt L 0) (bt L 1) = true then 2 else 3 := by unfold oK; rw [if_pos rfl]
  have o5 : oF 1 L = 0 := by unfold oF; rw [if_neg (by omega)]
  have o6 : oA 1 L = qAsk (bt L 0) (bt L 1) := by unfold oA; simp
  rw [o1, o2, o3, o4, o5, o6]
  clear o1 o2 o3 o4 o5 o6
  generalize qAsk (bt L 0) (bt L 1) = qa at *
  generalize qIs (bt L 0) (bt L 1) = qi at *
  generalize erM (bt L 0) = em at *
  generalize idM (mR L) = j at *
  cases qi
  · have hqa : qa = false := by cases qa; rfl; exact absurd (hsub rfl) (by decide)
    subst hqa
    cases em
    · simp only [Bool.or_false, Bool.false_eq_true, if_false, show ¬ (6 : Int) = 0 by omega]
      exact of8_message s h0 h1 h3 h5 h6 h2 h7 L _ _ _ _ _ _ _ _ _ _ cp (fun u => message8_odd h0 h1 h3 h5 h6 h2 h7 L _ _ _ _ _ cm cq ce u) w
    · simp only [Bool.or_true, Bool.false_and, Bool.false_eq_true, if_true, if_false]
      exact of8_message s h0 h1 h3 h5 h6 h2 h7 L _ _ _ _ _ _ _ _ _ _ cp (fun u => message8_err h0 h1 h3 h5 h6 h2 h7 L _ _ _ _ _ cm cq ce u) w
  · cases qa
    · simp only [Bool.true_or, Bool.not_false, Bool.and_self, Bool.false_eq_true, if_true, if_false]
      exact of8_message s h0 h1 h3 h5 h6 h2 h7 L _ _ _ _ _ _ _ _ _ _ cp (fun u => message8_told h0 h1 h3 h5 h6 h2 h7 L _ _ _ _ _ cm cq j ci u) w
    · simp only [Bool.true_or, Bool.not_true, Bool.and_false, Bool.false_eq_true, if_true, if_false]
      exact of8_message s h0 h1 h3 h5 h6 h2 h7 L _ _ _ _ _ _ _ _ _ _ cp (fun u => message8_ask h0 h1 h3 h5 h6 h2 h7 L _ _ _ _ _ cm cq j ci u) w
end Go.Proofs.YtbpicngbjggblaaGreatDoor
