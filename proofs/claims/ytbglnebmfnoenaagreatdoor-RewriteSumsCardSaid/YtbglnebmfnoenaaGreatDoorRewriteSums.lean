/- The walk of RewriteSums. -/
import Derived.Test.YtbglnebmfnoenaaGreatDoorGu
import Derived.Test.YtbglnebmfnoenaaGreatDoorGs
import Derived.Test.YtbglnebmfnoenaaGreatDoorGe
namespace Go.Proofs.YtbglnebmfnoenaaGreatDoor.RewriteSums
set_option linter.unusedVariables false
set_option linter.unusedSimpArgs false
open Go.ChangeShapes Go.WideShapes Go.ChangeAt Go.RowKit Go.PlainAid
attribute [local go_sem ↓] Go.wp_at_zero Go.wp_at_succ
set_option maxHeartbeats 4000000 in
set_option maxRecDepth 100000 in
theorem walk_ (K : RwOk) (s : ByteArray) (a m b n : Int) (w : World) (ht : Tab w) (hs : s.size ≤ maxLen) (ha : (Lit.int .u32 a).wf = true) (hm : (Lit.int .u16 m).wf = true) (hb : (Lit.int .u32 b).wf = true) (hn : (Lit.int .u16 n).wf = true) :
    Calls Tryz.prog 4 #[.string s, .agg #[.int .u32 a, .int .u16 m, .int .u32 b, .int .u16 n]] w fun e w' => e = .returned (.bool true) ∧ Below w.heap.size w w' := by
  clear hs
  have hc : okC a m b n := ⟨(bounds_u32 ha).1, (bounds_u32 ha).2, (bounds_u16 hm).1, (bounds_u16 hm).2, (bounds_u32 hb).1, (bounds_u32 hb).2, (bounds_u16 hn).1, (bounds_u16 hn).2⟩
  clear ha hm hb hn
  by_cases h1 : 2500 < s.size
  · have e1 : decide (2500 < s.size) = true := by simpa using h1
    have e2 : decide ((2500 : Int) < (s.size : Int)) = true := by simp; omega
    have B0 := (Below.refl w.heap.size w).alloc (Nat.le_refl _) (.cells #[.int .u32 a, .int .u16 m, .int .u32 b, .int .u16 n] 28)
    clear hc h1
    go_enter Tryz.func4, Tryz.ntmps4
    go_wp2_with fail
    refine (examples9_ K _ (ht.on B0)).mono ?_; rintro e w1 ⟨rfl, b1⟩
    go_wp2
    go_ret
    exact ⟨rfl, B0.trans (b1.mono B0.size)⟩
  have e1 : decide (2500 < s.size) = false := by simpa using h1
  have e2 : decide ((2500 : Int) < (s.size : Int)) = false := by simp; omega
  have ca := fun u hu => K.applies s a m b n u (by omega) hc hu
  have ck := fun u => taken_ s 1 u (by omega)
  rw [tk_rw] at ck
  by_cases hr : rwR s = 0
  rotate_left
  · rw [decide_eq_false hr] at ck
    rw [rw_no hr] at ca
    have e3 : (rwR s != 0) = true := by simpa using hr
    generalize sI s (bt s 9) = v0 at *
    generalize sI s (g32 s 12) = v1 at *
    generalize sI s (oM (bt s 9) (pP s)) = v2 at *
    generalize sI s (g32 s 16) = v3 at *
    generalize sI s (oN (bt s 9) (pP s)) = v4 at *
    generalize sI s (oK (bt s 9) (pP s)) = v5 at *
    generalize sI s (oF (bt s 9) (pP s)) = v6 at *
    generalize sB s (oA (bt s 9) (pP s)) = v7 at *
    generalize sI s (bt s 8) = v8 at *
    generalize rwR s = q at *
    clear hr h1 hc
    go_enter Tryz.func4, Tryz.ntmps4
    have B1 := Below.refl w.heap.size w
    go_wp2_with fail
    have C_2 := Box4.make w (.int .u32 a) (.int .u16 m) (.int .u32 b) (.int .u16 n) 28
    have B3 := B1.alloc B1.size (.cells #[.int .u32 a, .int .u16 m, .int .u32 b, .int .u16 n] 28)
    clear B1
    refine (ca _ (ht.on B3)).mono ?_; rintro e w1 ⟨rfl, x1⟩
    have C_4 := C_2.on x1
    have B5 := B3.trans (x1.mono B3.size)
    clear C_2 B3 x1
    clear ca
    go_wp2_with fail
    refine (ck _).mono ?_; rintro e w2 ⟨rfl, x2⟩
    have C_6 := C_4.on x2
    have B7 := B5.trans (x2.mono B5.size)
    clear C_4 B5 x2
    clear ck
    have C_8 := C_6.past (o := (.cells #[.int .u8 v0, .int .u32 v1, .int .u16 v2, .int .u32 v3, .int .u16 v4, .int .i64 v5, .int .u8 v6, .bool v7, .int .u8 v8] 38))
    have X_9 := Box9.make w2 (.int .u8 v0) (.int .u32 v1) (.int .u16 v2) (.int .u32 v3) (.int .u16 v4) (.int .i64 v5) (.int .u8 v6) (.bool v7) (.int .u8 v8) 38
    have B10 := B7.alloc B7.size (.cells #[.int .u8 v0, .int .u32 v1, .int .u16 v2, .int .u32 v3, .int .u16 v4, .int .i64 v5, .int .u8 v6, .bool v7, .int .u8 v8] 38)
    clear C_6 B7
    go_wp2_with fail
    refine (examples9_ K _ (ht.on B10)).mono ?_; rintro e w3 ⟨rfl, x3⟩
    have C_11 := C_8.on x3
    have X_12 := X_9.on x3
    have B13 := B10.trans (x3.mono B10.size)
    clear C_8 X_9 B10 x3
    go_wp2
    go_ret
    exact ⟨rfl, B13⟩
  obtain ⟨N, R⟩ := rw_facts hr hc
  have HR := rt_kept hr hc R
  have hp := (seen_ip (rw_zero hr).1).1
  have zN : N ≤ 2500 := by have := R.le; omega
  have r1 := fun u => right_ s u hp (by omega)
  have r2 := fun u => right_ (rwB s a m b n) u R.ip (by rw [R.size]; omega)
  rw [decide_eq_true hr] at ck
  rw [hr] at ca
  have f0 := R.size
  have f1 := R.own0
  have f2 := R.own1
  have b0 := bt_nonneg (rwB s a m b n) 0
  have b1 := bt_le (rwB s a m b n) 0
  have e5 := u8_and15 (bt (rwB s a m b n) 0) b0 b1
  have f3 : bt (rwB s a m b n) 0 % 16 * 4 = (ownN s : Int) := by have := R.own; unfold ownN at this ⊢; omega
  have hx : ((rwB s a m b n).extract 0 (ownN s)).size ≤ maxLen := by rw [size_extract' _ 0 (ownN s) (by omega) (by omega)]; unfold maxLen; omega
  have ch : ∀ u (k : Nat), k < u.heap.size → u.cell? ⟨k, 0, none⟩ = some (.string ((rwB s a m b n).extract 0 (ownN s))) → Calls Tryz.prog 12 #[.slice (some ⟨k, 0, none⟩) 1 1] u fun e w' => e = .returned (.bool true) ∧ Below u.heap.size u w' := fun u k hk h0 => by
    have := holds_ _ 1 1 [(rwB s a m b n).extract 0 (ownN s)] u (rowS1 hk h0 hx)
    rw [R.holds] at this
    exact this
  have CH := Lib.hid ch
  have hg := get_bt (rwB s a m b n)
  have e6 : decide ((rwB s a m b n).size < 20) = false := by simp; omega
  have e7 : decide (((rwB s a m b n).size : Int) < 20) = false := by simp; omega
  have e8 : decide (((rwB s a m b n).size : Int) < (ownN s : Int)) = false := by simp; omega
  have e9 : decide ((rwB s a m b n).size < ownN s) = false := by simp; omega
  have i0 : (0 : Int) < ((rwB s a m b n).size : Int) := by omega
  have io : (ownN s : Int) ≤ ((rwB s a m b n).size : Int) := by omega
  have o60 : ownN s ≤ 60 := by omega
  generalize sI s (bt s 9) = v0 at *
  generalize sI s (g32 s 12) = v1 at *
  generalize sI s (oM (bt s 9) (pP s)) = v2 at *
  generalize sI s (g32 s 16) = v3 at *
  generalize sI s (oN (bt s 9) (pP s)) = v4 at *
  generalize sI s (oK (bt s 9) (pP s)) = v5 at *
  generalize sI s (oF (bt s 9) (pP s)) = v6 at *
  generalize sB s (oA (bt s 9) (pP s)) = v7 at *
  generalize sI s (bt s 8) = v8 at *
  generalize voidV (pP s) = x1 at *
  generalize voidV (pP (rwB s a m b n)) = x2 at *
  generalize rtB s = x3 at *
  generalize rtB (rwB s a m b n) = x4 at *
  clear ch R f0 f1 f2 hx hp hr zN
  generalize ownN s = o at *
  generalize rwB s a m b n = T at *
  clear h1 hc
  have key : (x4 == x3) = true ∨ ((x4 == x3) = false ∧ x1 = true) ∨ ((x4 == x3) = false ∧ x1 = false ∧ x2 = true) := by
    cases x1 <;> cases x2 <;> cases x3 <;> cases x4 <;> simp_all
  clear HR
  rcases key with k1 | ⟨k1, rfl⟩ | ⟨k1, rfl, rfl⟩
  all_goals
    go_enter Tryz.func4, Tryz.ntmps4
    have B1 := Below.refl w.heap.size w
    go_wp2_with fail
    have C_2 := Box4.make w (.int .u32 a) (.int .u16 m) (.int .u32 b) (.int .u16 n) 28
    have B3 := B1.alloc B1.size (.cells #[.int .u32 a, .int .u16 m, .int .u32 b, .int .u16 n] 28)
    clear B1
    refine (ca _ (ht.on B3)).mono ?_; rintro e w1 ⟨rfl, x1⟩
    have C_4 := C_2.on x1
    have B5 := B3.trans (x1.mono B3.size)
    clear C_2 B3 x1
    clear ca
    go_wp2_with fail
    refine (ck _).mono ?_; rintro e w2 ⟨rfl, x2⟩
    have C_6 := C_4.on x2
    have B7 := B5.trans (x2.mono B5.size)
    clear C_4 B5 x2
    clear ck
    have C_8 := C_6.past (o := (.cells #[.int .u8 v0, .int .u32 v1, .int .u16 v2, .int .u32 v3, .int .u16 v4, .int .i64 v5, .int .u8 v6, .bool v7, .int .u8 v8] 38))
    have X_9 := Box9.make w2 (.int .u8 v0) (.int .u32 v1) (.int .u16 v2) (.int .u32 v3) (.int .u16 v4) (.int .i64 v5) (.int .u8 v6) (.bool v7) (.int .u8 v8) 38
    have B10 := B7.alloc B7.size (.cells #[.int .u8 v0, .int .u32 v1, .int .u16 v2, .int .u32 v3, .int .u16 v4, .int .i64 v5, .int .u8 v6, .bool v7, .int .u8 v8] 38)
    clear C_6 B7
    go_wp2_with fail
    have C_11 := C_8.past (o := (.cells #[.string (T.extract 0 o)] 9))
    have X_12 := X_9.past (o := (.cells #[.string (T.extract 0 o)] 9))
    have B13 := B10.alloc B10.size (.cells #[.string (T.extract 0 o)] 9)
    clear C_8 X_9 B10
    refine (CH.out _ (w2.heap.size + 1) (by simp) (by simp [go_sem])).mono ?_; rintro e w3 ⟨rfl, x_3⟩
    have C_14 := C_11.on x_3
    have X_15 := X_12.on x_3
    have B16 := B13.trans (x_3.mono B13.size)
    clear C_11 X_12 B13 x_3
    clear CH
    go_wp2_with fail
    refine (r1 _).mono ?_; rintro e w4 ⟨rfl, x4⟩
    have C_17 := C_14.on x4
    have X_18 := X_15.on x4
    have B19 := B16.trans (x4.mono B16.size)
    clear C_14 X_15 B16 x4
    clear r1
    go_wp2_with fail
    refine (r2 _).mono ?_; rintro e w5 ⟨rfl, x5⟩
    have C_20 := C_17.on x5
    have X_21 := X_18.on x5
    have B22 := B19.trans (x5.mono B19.size)
    clear C_17 X_18 B19 x5
    clear r2
    go_wp2_with fail
    refine (examples9_ K _ (ht.on B22)).mono ?_; rintro e w6 ⟨rfl, x6⟩
    have C_23 := C_20.on x6
    have X_24 := X_21.on x6
    have B25 := B22.trans (x6.mono B22.size)
    clear C_20 X_21 B22 x6
    go_wp2
    go_ret
    exact ⟨rfl, B25⟩
end Go.Proofs.YtbglnebmfnoenaaGreatDoor.RewriteSums
