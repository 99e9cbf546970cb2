/- The walk of RewriteSeen. -/
import Derived.Test.YtbglnebmfnoenaaGreatDoorRewSE
import Derived.Test.YtbglnebmfnoenaaGreatDoorRewST
import Derived.Test.YtbglnebmfnoenaaGreatDoorRewSA
import Derived.Test.YtbglnebmfnoenaaGreatDoorRewSD
namespace Go.Proofs.YtbglnebmfnoenaaGreatDoor.RewriteSeen
set_option linter.unusedVariables false
set_option linter.unusedSimpArgs false
open Go.ChangeShapes Go.WideShapes Go.ChangeAt Go.RowKit Go.PlainAid
attribute [local go_sem ↓] Go.wp_at_zero Go.wp_at_succ
theorem kq_two {pr : Int} {L : ByteArray} (h : oR pr L = 0) (h1 : ¬ pr = 1) : 2 ≤ kq pr L := by
  rcases oR_cases h with ⟨k, t1⟩ | ⟨k, t1⟩ | ⟨k, t1, q⟩
  · rw [k, kq_6]; omega
  · rw [k, kq_17]; omega
  · exact absurd k h1
theorem kq_one {pr : Int} {L : ByteArray} (h1 : pr = 1) (h2 : 0 < kq pr L) : kq pr L = 1 := by
  rw [h1, kq_1] at h2 ⊢
  split at h2
  · next q => rw [if_pos q]
  · omega
set_option maxHeartbeats 4000000 in
set_option maxRecDepth 100000 in
theorem walk_ (K : RwOk) (s : ByteArray) (a m b n : Int) (w : World) (ht : Tab w) (hs : s.size ≤ maxLen) (ha : (Lit.int .u32 a).wf = true) (hm : (Lit.int .u16 m).wf = true) (hb : (Lit.int .u32 b).wf = true) (hn : (Lit.int .u16 n).wf = true) :
    Calls Tryz.prog 5 #[.string s, .agg #[.int .u32 a, .int .u16 m, .int .u32 b, .int .u16 n]] w fun e w' => e = .returned (.bool true) ∧ Below w.heap.size w w' := by
  clear hs
  have hc : okC a m b n := ⟨(bounds_u32 ha).1, (bounds_u32 ha).2, (bounds_u16 hm).1, (bounds_u16 hm).2, (bounds_u32 hb).1, (bounds_u32 hb).2, (bounds_u16 hn).1, (bounds_u16 hn).2⟩
  clear ha hm hb hn
  by_cases h1 : 2500 < s.size
  · have e1 : decide (2500 < s.size) = true := by simpa using h1
    have e2 : decide ((2500 : Int) < (s.size : Int)) = true := by simp; omega
    have B0 := (Below.refl w.heap.size w).alloc (Nat.le_refl _) (.cells #[.int .u32 a, .int .u16 m, .int .u32 b, .int .u16 n] 28)
    clear hc h1
    go_enter Tryz.func5, Tryz.ntmps5
    go_wp2_with fail
    refine (examples9_ K _ (ht.on B0)).mono ?_; rintro e w1 ⟨rfl, b1⟩
    go_wp2
    go_ret
    exact ⟨rfl, B0.trans (b1.mono B0.size)⟩
  have e1 : decide (2500 < s.size) = false := by simpa using h1
  have e2 : decide ((2500 : Int) < (s.size : Int)) = false := by simp; omega
  have ca := fun u hu => K.applies s a m b n u (by omega) hc hu
  have ck := fun u => taken_ s 1 u (by omega)
  rw [tk_rw] at ck
  by_cases hr : rwR s = 0
  rotate_left
  · rw [decide_eq_false hr] at ck
    rw [rw_no hr] at ca
    have e3 : (rwR s != 0) = true := by simpa using hr
    generalize sI s (bt s 9) = v0 at *
    generalize sI s (g32 s 12) = v1 at *
    generalize sI s (oM (bt s 9) (pP s)) = v2 at *
    generalize sI s (g32 s 16) = v3 at *
    generalize sI s (oN (bt s 9) (pP s)) = v4 at *
    generalize sI s (oK (bt s 9) (pP s)) = v5 at *
    generalize sI s (oF (bt s 9) (pP s)) = v6 at *
    generalize sB s (oA (bt s 9) (pP s)) = v7 at *
    generalize sI s (bt s 8) = v8 at *
    generalize rwR s = q at *
    clear hr h1 hc
    go_enter Tryz.func5, Tryz.ntmps5
    have B1 := Below.refl w.heap.size w
    go_wp2_with fail
    have C_2 := Box4.make w (.int .u32 a) (.int .u16 m) (.int .u32 b) (.int .u16 n) 28
    have B3 := B1.alloc B1.size (.cells #[.int .u32 a, .int .u16 m, .int .u32 b, .int .u16 n] 28)
    clear B1
    refine (ck _).mono ?_; rintro e w1 ⟨rfl, x1⟩
    have C_4 := C_2.on x1
    have B5 := B3.trans (x1.mono B3.size)
    clear C_2 B3 x1
    clear ck
    have C_6 := C_4.past (o := (.cells #[.int .u8 v0, .int .u32 v1, .int .u16 v2, .int .u32 v3, .int .u16 v4, .int .i64 v5, .int .u8 v6, .bool v7, .int .u8 v8] 38))
    have X_7 := Box9.make w1 (.int .u8 v0) (.int .u32 v1) (.int .u16 v2) (.int .u32 v3) (.int .u16 v4) (.int .i64 v5) (.int .u8 v6) (.bool v7) (.int .u8 v8) 38
    have B8 := B5.alloc B5.size (.cells #[.int .u8 v0, .int .u32 v1, .int .u16 v2, .int .u32 v3, .int .u16 v4, .int .i64 v5, .int .u8 v6, .bool v7, .int .u8 v8] 38)
    clear C_4 B5
    obtain ⟨_, c1_0, c1_1, c1_2, c1_3⟩ := id C_6
    go_wp2_with fail
    refine (ca _ (ht.on B8)).mono ?_; rintro e w2 ⟨rfl, x2⟩
    have C_9 := C_6.on x2
    have X_10 := X_7.on x2
    have B11 := B8.trans (x2.mono B8.size)
    clear c1_0 c1_1 c1_2 c1_3 C_6 X_7 B8 x2
    clear ca
    go_wp2_with fail
    refine (examples9_ K _ (ht.on B11)).mono ?_; rintro e w3 ⟨rfl, x3⟩
    have C_12 := C_9.on x3
    have X_13 := X_10.on x3
    have B14 := B11.trans (x3.mono B11.size)
    clear C_9 X_10 B11 x3
    go_wp2
    go_ret
    exact ⟨rfl, B14⟩
  obtain ⟨N, R⟩ := rw_facts hr hc
  have hs := (rw_zero hr).1
  have h2 := (rw_zero hr).2
  obtain ⟨hp, ho⟩ := seen_ip hs
  have hq := okC_of s
  have S := ld_seen ho hq hc
  have Kq := ld_kq ho hq hc
  have kt := kAt_kq R.seen
  have ki := kq_in R.seen
  have zw := R.sizeW
  have cs := fun u => sumAt_ (rwB s a m b n) u R.seen (by have := R.size; have := R.le; omega)
  have co := fun u => of8_ (rwB s a m b n) u (by have := R.size; have := R.le; omega)
  have zo := zones hr hc R
  have f0 := R.size
  have f1 := R.own0
  have f2 := R.own1
  have f4 := R.le
  have f5 := R.own
  have b8 := bt_le s 8
  have w8 : IntKind.u8.wrap (bt s 8 - 1) = bt s 8 - 1 := IntWalk.u8_in _ (by omega)
  have o60 : ownN s ≤ 60 := by have := bt_le s 0; have := bt_nonneg s 0; unfold ownN; omega
  have f3 : bt (rwB s a m b n) 0 % 16 * 4 = (ownN s : Int) := by have := bt_nonneg (rwB s a m b n) 0; have := R.own; unfold ownN at this ⊢; omega
  rw [(s_yes R.seen).1, (s_yes R.seen).1, (s_yes R.seen).1, (s_yes R.seen).1, (s_yes R.seen).1, (s_yes R.seen).1, (s_yes R.seen).1, (s_yes R.seen).1, (s_yes R.seen).2, R.seen, R.b9, R.a12, R.a16, R.b8, R.load, S.2.1, S.2.2.1, S.2.2.2.1, S.2.2.2.2.1, S.2.2.2.2.2] at co
  rw [decide_eq_true hr, (s_yes hs).1, (s_yes hs).1, (s_yes hs).1, (s_yes hs).1, (s_yes hs).1, (s_yes hs).1, (s_yes hs).1, (s_yes hs).1, (s_yes hs).2] at ck
  rw [hr] at ca
  rw [R.b9, R.load, Kq, f5] at kt
  rw [R.b9, R.load, Kq] at ki
  rw [f5, R.load] at zw
  have zz : ∀ (q e : Nat), ((¬ bt s 9 = 1 ∧ q = ownN s ∧ e = 4) ∨ (bt s 9 = 1 ∧ q = ownN s + 4 ∧ e = 2)) → ∀ i : Nat, i < (rwB s a m b n).size → _ := fun q e hq i hi => zo i (by omega) q e hq
  clear zo
  have hsz : s.size ≤ 2500 := by omega
  rcases seen_kinds (m := m) (n := n) hs with ⟨k1, k2, k3, k4, k5⟩ | ⟨k1, k2, k3, k4, k5⟩ | ⟨k1, k2, kA, k3, k4, k5⟩ | ⟨k1, k2, kA, k3, k4, k5⟩
  · have kk : kAt (rwB s a m b n) = 0 := by omega
    have hz := zz (ownN s + 4) 2 (.inr ⟨k1, rfl, rfl⟩)
    rw [kk] at hz cs
    rw [k1] at co ck k2 k3 k4
    rw [k3, k4, k2] at co
    rw [k2] at ck
    exact seen_E K s (rwB s a m b n) _ _ _ _ _ _ a m b n _ (ownN s) w ht e1 e2 hsz f1 o60 (by omega) (by omega) w8 f3 ck ca co cs (Lib.hid hz)
  · have k6 := kq_two ho k1
    have hz := zz (ownN s) 4 (.inl ⟨k1, rfl, rfl⟩)
    have kd := ki k5
    rw [k3, k4] at co
    exact seen_T K s (rwB s a m b n) _ _ _ _ _ _ _ _ a m b n _ (ownN s) (kAt (rwB s a m b n)) w ht e1 e2 hsz f1 o60 (by omega) (by omega) (by omega) (by omega) (by omega) (by simpa using k1) (by simpa using k1) (by simpa using k2) w8 f3 ck ca co cs (Lib.hid hz)
  · have k6 := kq_one k1 k5
    have hz := zz (ownN s + 4) 2 (.inr ⟨k1, rfl, rfl⟩)
    have kd := ki k5
    rw [k1] at co ck k2 k3 k4 kA
    rw [k3, k4, kA] at co
    rw [kA] at ck
    exact seen_A K s (rwB s a m b n) _ _ _ _ _ _ _ a m b n (ownN s) (kAt (rwB s a m b n)) w ht e1 e2 hsz f1 o60 (by omega) (by omega) (by omega) (by omega) (by omega) (by simpa using k2) w8 f3 ck ca co cs (Lib.hid hz)
  · have k6 := kq_one k1 k5
    have hz := zz (ownN s + 4) 2 (.inr ⟨k1, rfl, rfl⟩)
    have kd := ki k5
    rw [k1] at co ck k2 k3 k4 kA
    rw [k3, k4, kA] at co
    rw [kA] at ck
    exact seen_D K s (rwB s a m b n) _ _ _ _ _ _ _ a m b n (ownN s) (kAt (rwB s a m b n)) w ht e1 e2 hsz f1 o60 (by omega) (by omega) (by omega) (by omega) (by omega) (by simpa using k2) w8 f3 ck ca co cs (Lib.hid hz)
end Go.Proofs.YtbglnebmfnoenaaGreatDoor.RewriteSeen
