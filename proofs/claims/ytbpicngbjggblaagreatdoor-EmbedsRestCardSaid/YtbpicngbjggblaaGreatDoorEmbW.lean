/- The walk of EmbedsRest, the chapter's examples (J) being a premise. -/
import Derived.Test.YtbpicngbjggblaaGreatDoorEmbWZ
import Derived.Test.YtbpicngbjggblaaGreatDoorEmbWP
import Derived.Test.YtbpicngbjggblaaGreatDoorEmbWQ
import Derived.Test.YtbpicngbjggblaaGreatDoorEmbU
import Derived.Test.YtbpicngbjggblaaGreatDoorGy
namespace Go.Proofs.YtbpicngbjggblaaGreatDoor
set_option linter.unusedVariables false
set_option linter.unusedSimpArgs false
open Go.ChangeShapes Go.WideShapes Go.ChangeAt Go.RowKit Go.PlainAid
attribute [local go_sem ↓] Go.wp_at_zero Go.wp_at_succ
set_option maxHeartbeats 4000000 in
set_option maxRecDepth 100000 in
theorem rest10_no (J : ∀ u : World, Tab u → Calls Tryz.prog 8 #[] u fun e w' => e = .returned (.bool true) ∧ Below u.heap.size u w') (s : ByteArray) (a m b n c k8 d l t0 t1 t2 t3 t4 : Int) (e1 : decide (2500 < s.size) = false) (e2 : decide ((2500 : Int) < (s.size : Int)) = false) (ck : ∀ u : World, Tab u → Calls Tryz.prog 14 #[.string s, .int .u8 1] u fun e w' => e = .returned (.tuple #[.agg #[.int .u8 t0, .int .u32 t1, .int .u16 t2, .int .u32 t3, .int .u16 t4], .bool false]) ∧ Below u.heap.size u w') (w : World) (ht : Tab w) :
    Calls Tryz.prog 6 #[.string s, .agg #[.int .u32 a, .int .u16 m, .int .u32 b, .int .u16 n, .int .u32 c, .int .u16 k8, .int .u32 d, .int .u16 l]] w fun e w' => e = .returned (.bool true) ∧ Below w.heap.size w w' := by
  go_enter Tryz.func6, Tryz.ntmps6
  have B1 := Below.refl w.heap.size w
  go_wp2_with fail
  have C_2 := Box8.make w (.int .u32 a) (.int .u16 m) (.int .u32 b) (.int .u16 n) (.int .u32 c) (.int .u16 k8) (.int .u32 d) (.int .u16 l) 30
  have B3 := B1.alloc B1.size (.cells #[.int .u32 a, .int .u16 m, .int .u32 b, .int .u16 n, .int .u32 c, .int .u16 k8, .int .u32 d, .int .u16 l] 30)
  clear B1
  refine (ck _ (ht.on B3)).mono ?_; rintro e w1 ⟨rfl, x1⟩
  have C_4 := C_2.on x1
  have B5 := B3.trans (x1.mono B3.size)
  clear C_2 B3 x1
  clear ck
  have C_6 := C_4.past (o := (.cells #[.int .u8 t0, .int .u32 t1, .int .u16 t2, .int .u32 t3, .int .u16 t4] 33))
  have B7 := B5.alloc B5.size (.cells #[.int .u8 t0, .int .u32 t1, .int .u16 t2, .int .u32 t3, .int .u16 t4] 33)
  clear C_4 B5
  go_wp2_with fail
  refine (J _ (ht.on B7)).mono ?_; rintro e w2 ⟨rfl, x2⟩
  have C_8 := C_6.on x2
  have B9 := B7.trans (x2.mono B7.size)
  clear C_6 B7 x2
  go_wp2
  go_ret
  exact ⟨rfl, B9⟩
set_option maxHeartbeats 4000000 in
set_option maxRecDepth 100000 in
theorem rest10_ (K : EmOk) (J : ∀ u : World, Tab u → Calls Tryz.prog 8 #[] u fun e w' => e = .returned (.bool true) ∧ Below u.heap.size u w') (s : ByteArray) (a m b n c k8 d l : Int) (w : World) (ht : Tab w) (hc : okC a m b n) (hd : okC c k8 d l) :
    Calls Tryz.prog 6 #[.string s, .agg #[.int .u32 a, .int .u16 m, .int .u32 b, .int .u16 n, .int .u32 c, .int .u16 k8, .int .u32 d, .int .u16 l]] w fun e w' => e = .returned (.bool true) ∧ Below w.heap.size w w' := by
  by_cases h1 : 2500 < s.size
  · have e1 : decide (2500 < s.size) = true := by simpa using h1
    have e2 : decide ((2500 : Int) < (s.size : Int)) = true := by simp; omega
    have B0 := (Below.refl w.heap.size w).alloc (Nat.le_refl _) (.cells #[.int .u32 a, .int .u16 m, .int .u32 b, .int .u16 n, .int .u32 c, .int .u16 k8, .int .u32 d, .int .u16 l] 30)
    clear hc hd h1
    go_enter Tryz.func6, Tryz.ntmps6
    go_wp2_with fail
    refine (J _ (ht.on B0)).mono ?_; rintro e w1 ⟨rfl, b1⟩
    go_wp2
    go_ret
    exact ⟨rfl, B0.trans (b1.mono B0.size)⟩
  have e1 : decide (2500 < s.size) = false := by simpa using h1
  have e2 : decide ((2500 : Int) < (s.size : Int)) = false := by simp; omega
  have ca := fun u hu => K.translates s a m b n c k8 d l u (by omega) hc hd hu
  have ck := fun u hu => taken10_ K s 1 u hu (by omega)
  rw [tk_tr] at ck
  by_cases hr : trR s = 0
  rotate_left
  · rw [decide_eq_false hr] at ck
    exact rest10_no J s a m b n c k8 d l _ _ _ _ _ e1 e2 ck w ht
  obtain ⟨N, R, T⟩ := tr_facts hr hc hd
  obtain ⟨hi, h8⟩ := tr_zero hr
  obtain ⟨hs, hk, hl⟩ := in_zero hi
  obtain ⟨l0, l1, l2, l3, l4, l5⟩ := lk_zero hl
  have E := em_facts hl hd
  have zN : N ≤ 2500 := by have := R.le; omega
  have zU := T.size
  have zV := R.size
  have o0 := R.own0
  have hrw := rw_is hs h8
  have cv := fun u => rwApply_ s a m b n u (by omega) hc
  rw [hrw] at cv
  have cd := fun u => data10l_ s u (by omega)
  have cx := fun u => data10l_ (trB s a m b n c k8 d l) u (by omega)
  rw [T.data] at cx
  have zX := E.size
  obtain ⟨k9, tm, qf, er⟩ := err_kind hs hk
  have zE := (eD_is tm).2
  have zM := mOk_size tm
  have zP : (pP s).size = N - ownN s := by
    obtain ⟨_, _, _, y4⟩ := p_yes (seen_ip hs).1
    have := R.own1
    have := R.le
    rw [y4, R.len, Int.toNat_natCast]
    exact size_extract' s (ownN s) N R.own1 R.le
  have zD : (eD s).size ≤ 2500 := by omega
  have hD := fun u => head10_ (eD s) u (by omega) (by omega)
  have hS := fun u => sumIn10_ (eD s) u (by omega) (by omega)
  rw [decide_eq_true hr] at ck
  rw [hr] at ca
  have o60 : ownN (eD s) ≤ 60 := by have := bt_le (eD s) 0; have := bt_nonneg (eD s) 0; unfold ownN; omega
  have os60 : ownN s ≤ 60 := by have := bt_le s 0; have := bt_nonneg s 0; unfold ownN; omega
  have b0 := bt_nonneg (trB s a m b n c k8 d l) 0
  have f3 : bt (trB s a m b n c k8 d l) 0 % 16 * 4 = (ownN s : Int) := by have := T.own; unfold ownN at this ⊢; omega
  have zz := fun i => em_zone hl hd E i
  have r1 : (trB s a m b n c k8 d l).extract 0 (ownN s + 2) = (rwB s a m b n).extract 0 (ownN s + 2) := by
    have z1 := size_extract' (trB s a m b n c k8 d l) 0 (ownN s + 2) (Nat.zero_le _) (by omega)
    have z2 := size_extract' (rwB s a m b n) 0 (ownN s + 2) (Nat.zero_le _) (by omega)
    refine ba_bt (by omega) fun i hi => ?_
    rw [bt_ext0 _ _ _ (by omega) (by omega), bt_ext0 _ _ _ (by omega) (by omega), T.low i (by omega)]
  have r3 : (trB s a m b n c k8 d l).extract (ownN s + 4) (ownN s + 8) = (rwB s a m b n).extract (ownN s + 4) (ownN s + 8) := by
    have z1 := size_extract' (trB s a m b n c k8 d l) (ownN s + 4) (ownN s + 8) (by omega) (by omega)
    have z2 := size_extract' (rwB s a m b n) (ownN s + 4) (ownN s + 8) (by omega) (by omega)
    refine ba_bt (by omega) fun i hi => ?_
    rw [bt_ext _ _ _ _ (by omega) (by omega), bt_ext _ _ _ _ (by omega) (by omega), T.mid _ (by omega) (by omega)]
  have zn : ((trB s a m b n c k8 d l).size != (rwB s a m b n).size) = false := by rw [zU, zV]; simp
  have zi : (((trB s a m b n c k8 d l).size : Int) != ((rwB s a m b n).size : Int)) = false := by rw [zU, zV]; simp
  have z36 : decide ((trB s a m b n c k8 d l).size < 36) = false := by simp; omega
  have y36 : decide (((trB s a m b n c k8 d l).size : Int) < 36) = false := by simp; omega
  have l8 : decide (((trB s a m b n c k8 d l).size : Int) < ((ownN s : Int) + 8)) = false := by simp; omega
  have m8 : decide ((trB s a m b n c k8 d l).size < ownN s + 8) = false := by simp; omega
  have xn : ((eD s).size != (emD (eD s) c k8 d l).size) = false := by rw [zX]; simp
  have xi : (((eD s).size : Int) != ((emD (eD s) c k8 d l).size : Int)) = false := by rw [zX]; simp
  have z28 : decide ((eD s).size < 28) = false := by simp; omega
  have y28 : decide (((eD s).size : Int) < 28) = false := by simp; omega
  have zo : decide (((eD s).size : Int) < (ownN (eD s) : Int) + 8) = false := by simp; omega
  have i0 : (0 : Int) < ((trB s a m b n c k8 d l).size : Int) := by omega
  have u2 : ((ownN s : Int) + 2) ≤ ((trB s a m b n c k8 d l).size : Int) := by omega
  have v2 : ((ownN s : Int) + 2) ≤ ((rwB s a m b n).size : Int) := by omega
  have u8_ : ((ownN s : Int) + 8) ≤ ((trB s a m b n c k8 d l).size : Int) := by omega
  have v8_ : ((ownN s : Int) + 8) ≤ ((rwB s a m b n).size : Int) := by omega
  have p48 : ((ownN s : Int) + 4) ≤ ((ownN s : Int) + 8) := by omega
  have i9 : (9 : Int) < ((eD s).size : Int) := by omega
  have w2 : Hid (wrap64 ((ownN s : Int) + 2) = ((ownN s : Int) + 2)) := IntWalk.wrap64_in _ (by omega)
  have w4 : Hid (wrap64 ((ownN s : Int) + 4) = ((ownN s : Int) + 4)) := IntWalk.wrap64_in _ (by omega)
  have w8 : Hid (wrap64 ((ownN s : Int) + 8) = ((ownN s : Int) + 8)) := IntWalk.wrap64_in _ (by omega)
  have ew : Hid (wrap64 ((ownN (eD s) : Int) + 8) = (ownN (eD s) : Int) + 8) := IntWalk.wrap64_in _ (by omega)
  by_cases ks : 0 < siD (eD s)
  rotate_left
  · obtain ⟨s0, k6⟩ := si_none hl ks
    rw [s0] at hS
    exact rest10_z J s _ _ _ _ a m b n c k8 d l (bt (eD s) 9) _ _ _ _ _ (ownN (eD s)) (ownN s) _ _ e1 e2 zn zi z36 y36 i0 f3 w2.out w4.out w8.out l8 m8 u2 v2 u8_ v8_ p48 rfl r1.symm rfl r3.symm xn xi zX z28 y28 ew.out zo ⟨by omega, by omega, by omega, by omega⟩ rfl i9 (by rw [k6]; rfl) (by rw [k6]; rfl) (by rw [k6]; rfl)
      (fun i hi => by have := zz i; omega) ck ca cv cd cx hD hS w ht
  obtain ⟨s1, s2, s3⟩ := si_in hl ks
  rcases s2 with ⟨k1, s4⟩ | ⟨k1, s4⟩
  · exact rest10_q J s _ _ _ _ a m b n c k8 d l _ _ _ _ _ (ownN (eD s)) (ownN s) (siD (eD s)) _ _ e1 e2 zn zi z36 y36 i0 f3 w2.out w4.out w8.out l8 m8 u2 v2 u8_ v8_ p48 rfl r1.symm rfl r3.symm xn xi zX z28 y28 ew.out zo ⟨by omega, by omega, by omega, by omega, by omega, by omega⟩ k1 i9
      (fun i hi => by have := zz i; omega) ck ca cv cd cx hD hS w ht
  · exact rest10_p J s _ _ _ _ a m b n c k8 d l (bt (eD s) 9) _ _ _ _ _ (ownN (eD s)) (ownN s) (siD (eD s)) _ _ e1 e2 zn zi z36 y36 i0 f3 w2.out w4.out w8.out l8 m8 u2 v2 u8_ v8_ p48 rfl r1.symm rfl r3.symm xn xi zX z28 y28 ew.out zo ⟨by omega, by omega, by omega, by omega, by omega, by omega⟩ rfl i9 (by simpa using k1) (by simpa using k1) (by
        by_cases k17 : bt (eD s) 9 = 17
        · right
          have e := s3 k17
          have a1 : (bt (eD s) 9 == 17) = true := by rw [k17]; rfl
          by_cases q0 : bt (eD s) (siD (eD s)) = 0
          · right
            have a2 : (bt (eD s) (siD (eD s)) == 0) = true := by rw [q0]; rfl
            by_cases q1 : bt (eD s) (siD (eD s) + 1) = 0
            · right
              have a3 : (bt (eD s) (siD (eD s) + 1) == 0) = true := by rw [q1]; rfl
              rw [e] at q0 q1
              have r := em_none hl hd E k17 q0 q1
              rw [← e] at r
              exact ⟨a1, a2, a3, by rw [r.1]; rfl, by rw [r.2]; rfl⟩
            · left; exact ⟨a1, a2, by simpa using q1⟩
          · left; exact ⟨a1, by simpa using q0⟩
        · left; simpa using k17)
      (fun i hi => by have := zz i; omega) ck ca cv cd cx hD hS w ht
end Go.Proofs.YtbpicngbjggblaaGreatDoor
