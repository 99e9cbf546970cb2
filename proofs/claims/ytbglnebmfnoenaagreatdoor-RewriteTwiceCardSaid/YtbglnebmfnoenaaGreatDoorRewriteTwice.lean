/- The walk of RewriteTwice. -/
import Derived.Test.YtbglnebmfnoenaaGreatDoorGu
namespace Go.Proofs.YtbglnebmfnoenaaGreatDoor.RewriteTwice
set_option linter.unusedVariables false
set_option linter.unusedSimpArgs false
open Go.ChangeShapes Go.WideShapes Go.ChangeAt Go.RowKit Go.PlainAid
attribute [local go_sem ↓] Go.wp_at_zero Go.wp_at_succ
theorem tk_two {s : ByteArray} (h : tkB s 2 = true) : rwR s = 0 ∧ 3 ≤ bt s 8 := by
  unfold tkB at h
  simp only [Bool.and_eq_true, decide_eq_true_eq] at h
  obtain ⟨⟨h1, h2⟩, _⟩ := h
  rw [(s_yes h1).1] at h2
  exact ⟨rw_is h1 (by omega), by omega⟩
set_option maxHeartbeats 4000000 in
set_option maxRecDepth 100000 in
theorem walk_ (K : RwOk) (s : ByteArray) (a m b n c k d l : Int) (w : World) (ht : Tab w) (hs : s.size ≤ maxLen) (ha : (Lit.int .u32 a).wf = true) (hm : (Lit.int .u16 m).wf = true) (hb : (Lit.int .u32 b).wf = true) (hn : (Lit.int .u16 n).wf = true) (hc : (Lit.int .u32 c).wf = true) (hk : (Lit.int .u16 k).wf = true) (hd : (Lit.int .u32 d).wf = true) (hl : (Lit.int .u16 l).wf = true) :
    Calls Tryz.prog 7 #[.string s, .agg #[.int .u32 a, .int .u16 m, .int .u32 b, .int .u16 n], .agg #[.int .u32 c, .int .u16 k, .int .u32 d, .int .u16 l]] w fun e w' => e = .returned (.bool true) ∧ Below w.heap.size w w' := by
  clear hs
  have ok1 : okC a m b n := ⟨(bounds_u32 ha).1, (bounds_u32 ha).2, (bounds_u16 hm).1, (bounds_u16 hm).2, (bounds_u32 hb).1, (bounds_u32 hb).2, (bounds_u16 hn).1, (bounds_u16 hn).2⟩
  have ok2 : okC c k d l := ⟨(bounds_u32 hc).1, (bounds_u32 hc).2, (bounds_u16 hk).1, (bounds_u16 hk).2, (bounds_u32 hd).1, (bounds_u32 hd).2, (bounds_u16 hl).1, (bounds_u16 hl).2⟩
  clear ha hm hb hn hc hk hd hl
  by_cases h1 : 2500 < s.size
  · have e1 : decide (2500 < s.size) = true := by simpa using h1
    have e2 : decide ((2500 : Int) < (s.size : Int)) = true := by simp; omega
    have B0 := (((Below.refl w.heap.size w).alloc (Nat.le_refl _) (.cells #[.int .u32 a, .int .u16 m, .int .u32 b, .int .u16 n] 28)).alloc (by simp) (.cells #[.int .u32 c, .int .u16 k, .int .u32 d, .int .u16 l] 28))
    clear ok1 h1
    go_enter Tryz.func7, Tryz.ntmps7
    go_wp2_with fail
    refine (examples9_ K _ (ht.on B0)).mono ?_; rintro e w1 ⟨rfl, b1⟩
    go_wp2
    go_ret
    exact ⟨rfl, B0.trans (b1.mono B0.size)⟩
  have e1 : decide (2500 < s.size) = false := by simpa using h1
  have e2 : decide ((2500 : Int) < (s.size : Int)) = false := by simp; omega
  have ck := fun u => taken_ s 2 u (by omega)
  cases htk : tkB s 2 with
  | false =>
    rw [htk] at ck
    generalize sI s (bt s 9) = v0 at *
    generalize sI s (g32 s 12) = v1 at *
    generalize sI s (oM (bt s 9) (pP s)) = v2 at *
    generalize sI s (g32 s 16) = v3 at *
    generalize sI s (oN (bt s 9) (pP s)) = v4 at *
    generalize sI s (oK (bt s 9) (pP s)) = v5 at *
    generalize sI s (oF (bt s 9) (pP s)) = v6 at *
    generalize sB s (oA (bt s 9) (pP s)) = v7 at *
    generalize sI s (bt s 8) = v8 at *
    clear htk h1 ok1
    go_enter Tryz.func7, Tryz.ntmps7
    have B1 := Below.refl w.heap.size w
    go_wp2_with fail
    have C_2 := Box4.make w (.int .u32 a) (.int .u16 m) (.int .u32 b) (.int .u16 n) 28
    have B3 := B1.alloc B1.size (.cells #[.int .u32 a, .int .u16 m, .int .u32 b, .int .u16 n] 28)
    clear B1
    have C_4 := C_2.past (o := (.cells #[.int .u32 c, .int .u16 k, .int .u32 d, .int .u16 l] 28))
    have hs_ : (w.alloc (.cells #[.int .u32 a, .int .u16 m, .int .u32 b, .int .u16 n] 28)).heap.size = w.heap.size + 1 := by simp
    have D_5 := Box4.make (w.alloc (.cells #[.int .u32 a, .int .u16 m, .int .u32 b, .int .u16 n] 28)) (.int .u32 c) (.int .u16 k) (.int .u32 d) (.int .u16 l) 28
    rw [hs_] at D_5
    clear hs_
    have B6 := B3.alloc B3.size (.cells #[.int .u32 c, .int .u16 k, .int .u32 d, .int .u16 l] 28)
    clear C_2 B3
    refine (ck _).mono ?_; rintro e w1 ⟨rfl, x1⟩
    have C_7 := C_4.on x1
    have D_8 := D_5.on x1
    have B9 := B6.trans (x1.mono B6.size)
    clear C_4 D_5 B6 x1
    clear ck
    have C_10 := C_7.past (o := (.cells #[.int .u8 v0, .int .u32 v1, .int .u16 v2, .int .u32 v3, .int .u16 v4, .int .i64 v5, .int .u8 v6, .bool v7, .int .u8 v8] 38))
    have D_11 := D_8.past (o := (.cells #[.int .u8 v0, .int .u32 v1, .int .u16 v2, .int .u32 v3, .int .u16 v4, .int .i64 v5, .int .u8 v6, .bool v7, .int .u8 v8] 38))
    have X_12 := Box9.make w1 (.int .u8 v0) (.int .u32 v1) (.int .u16 v2) (.int .u32 v3) (.int .u16 v4) (.int .i64 v5) (.int .u8 v6) (.bool v7) (.int .u8 v8) 38
    have B13 := B9.alloc B9.size (.cells #[.int .u8 v0, .int .u32 v1, .int .u16 v2, .int .u32 v3, .int .u16 v4, .int .i64 v5, .int .u8 v6, .bool v7, .int .u8 v8] 38)
    clear C_7 D_8 B9
    go_wp2_with fail
    refine (examples9_ K _ (ht.on B13)).mono ?_; rintro e w2 ⟨rfl, x2⟩
    have C_14 := C_10.on x2
    have D_15 := D_11.on x2
    have X_16 := X_12.on x2
    have B17 := B13.trans (x2.mono B13.size)
    clear C_10 D_11 X_12 B13 x2
    go_wp2
    go_ret
    exact ⟨rfl, B17⟩
  | true =>
    rw [htk] at ck
    obtain ⟨hr, h3⟩ := tk_two htk
    clear htk
    obtain ⟨N, R⟩ := rw_facts hr ok1
    have ht2 : rwR (rwB s a m b n) = 0 := rw_is R.seen (by rw [R.b8]; omega)
    obtain ⟨N', R'⟩ := rw_facts ht2 ok2
    obtain ⟨M, Q⟩ := rw_facts hr ok2
    have HE := Lib.hid (rw_twice hr ok1 ok2 R R' Q)
    have zN := R.size
    have zN2 := R.le
    have z1 := R'.size
    have z1' := R'.own0
    have z1'' := R'.own1
    have z2 := Q.size
    have z2' := Q.own0
    have z2'' := Q.own1
    have z3 := Q.le
    have z4 := R'.le
    have ca := fun u hu => K.applies s a m b n u (by omega) ok1 hu
    have cb := fun u hu => K.applies (rwB s a m b n) c k d l u (by omega) ok2 hu
    have cc := fun u hu => K.applies s c k d l u (by omega) ok2 hu
    have p1 := fun u => plain_ (rwB (rwB s a m b n) c k d l) u R'.seen (by omega)
    have p2 := fun u => plain_ (rwB s c k d l) u Q.seen (by omega)
    rw [hr] at ca cc
    rw [ht2] at cb
    rw [HE.out] at p1
    have e3 : decide ((rwB (rwB s a m b n) c k d l).size < 20) = false := by simp; omega
    have e4 : decide (((rwB (rwB s a m b n) c k d l).size : Int) < 20) = false := by simp; omega
    have e5 : decide ((rwB s c k d l).size < 20) = false := by simp; omega
    have e6 : decide (((rwB s c k d l).size : Int) < 20) = false := by simp; omega
    clear R R' Q HE hr h3 ht2 zN zN2 z1 z1' z1'' z2 z2' z2'' z3 z4 h1
    generalize sI s (bt s 9) = v0 at *
    generalize sI s (g32 s 12) = v1 at *
    generalize sI s (oM (bt s 9) (pP s)) = v2 at *
    generalize sI s (g32 s 16) = v3 at *
    generalize sI s (oN (bt s 9) (pP s)) = v4 at *
    generalize sI s (oK (bt s 9) (pP s)) = v5 at *
    generalize sI s (oF (bt s 9) (pP s)) = v6 at *
    generalize sB s (oA (bt s 9) (pP s)) = v7 at *
    generalize sI s (bt s 8) = v8 at *
    generalize plB (rwB s c k d l) = P at *
    generalize rwB (rwB s a m b n) c k d l = U at *
    generalize rwB s a m b n = T at *
    generalize rwB s c k d l = V at *
    clear ok1 ok2
    go_enter Tryz.func7, Tryz.ntmps7
    have B1 := Below.refl w.heap.size w
    go_wp2_with fail
    have C_2 := Box4.make w (.int .u32 a) (.int .u16 m) (.int .u32 b) (.int .u16 n) 28
    have B3 := B1.alloc B1.size (.cells #[.int .u32 a, .int .u16 m, .int .u32 b, .int .u16 n] 28)
    clear B1
    have C_4 := C_2.past (o := (.cells #[.int .u32 c, .int .u16 k, .int .u32 d, .int .u16 l] 28))
    have hs_ : (w.alloc (.cells #[.int .u32 a, .int .u16 m, .int .u32 b, .int .u16 n] 28)).heap.size = w.heap.size + 1 := by simp
    have D_5 := Box4.make (w.alloc (.cells #[.int .u32 a, .int .u16 m, .int .u32 b, .int .u16 n] 28)) (.int .u32 c) (.int .u16 k) (.int .u32 d) (.int .u16 l) 28
    rw [hs_] at D_5
    clear hs_
    have B6 := B3.alloc B3.size (.cells #[.int .u32 c, .int .u16 k, .int .u32 d, .int .u16 l] 28)
    clear C_2 B3
    refine (ck _).mono ?_; rintro e w1 ⟨rfl, x1⟩
    have C_7 := C_4.on x1
    have D_8 := D_5.on x1
    have B9 := B6.trans (x1.mono B6.size)
    clear C_4 D_5 B6 x1
    clear ck
    have C_10 := C_7.past (o := (.cells #[.int .u8 v0, .int .u32 v1, .int .u16 v2, .int .u32 v3, .int .u16 v4, .int .i64 v5, .int .u8 v6, .bool v7, .int .u8 v8] 38))
    have D_11 := D_8.past (o := (.cells #[.int .u8 v0, .int .u32 v1, .int .u16 v2, .int .u32 v3, .int .u16 v4, .int .i64 v5, .int .u8 v6, .bool v7, .int .u8 v8] 38))
    have X_12 := Box9.make w1 (.int .u8 v0) (.int .u32 v1) (.int .u16 v2) (.int .u32 v3) (.int .u16 v4) (.int .i64 v5) (.int .u8 v6) (.bool v7) (.int .u8 v8) 38
    have B13 := B9.alloc B9.size (.cells #[.int .u8 v0, .int .u32 v1, .int .u16 v2, .int .u32 v3, .int .u16 v4, .int .i64 v5, .int .u8 v6, .bool v7, .int .u8 v8] 38)
    clear C_7 D_8 B9
    clear X_12
    obtain ⟨_, c1_0, c1_1, c1_2, c1_3⟩ := id C_10
    go_wp2_with fail
    refine (ca _ (ht.on B13)).mono ?_; rintro e w2 ⟨rfl, x2⟩
    have C_14 := C_10.on x2
    have D_15 := D_11.on x2
    have B16 := B13.trans (x2.mono B13.size)
    clear c1_0 c1_1 c1_2 c1_3 C_10 D_11 B13 x2
    clear ca
    obtain ⟨_, d2_0, d2_1, d2_2, d2_3⟩ := id D_15
    go_wp2_with fail
    refine (cb _ (ht.on B16)).mono ?_; rintro e w3 ⟨rfl, x3⟩
    have C_17 := C_14.on x3
    have D_18 := D_15.on x3
    have B19 := B16.trans (x3.mono B16.size)
    clear d2_0 d2_1 d2_2 d2_3 C_14 D_15 B16 x3
    clear cb
    obtain ⟨_, d3_0, d3_1, d3_2, d3_3⟩ := id D_18
    go_wp2_with fail
    refine (cc _ (ht.on B19)).mono ?_; rintro e w4 ⟨rfl, x4⟩
    have C_20 := C_17.on x4
    have D_21 := D_18.on x4
    have B22 := B19.trans (x4.mono B19.size)
    clear d3_0 d3_1 d3_2 d3_3 C_17 D_18 B19 x4
    clear cc
    go_wp2_with fail
    refine (p1 _).mono ?_; rintro e w5 ⟨rfl, x5⟩
    have C_23 := C_20.on x5
    have D_24 := D_21.on x5
    have B25 := B22.trans (x5.mono B22.size)
    clear C_20 D_21 B22 x5
    clear p1
    go_wp2_with fail
    refine (p2 _).mono ?_; rintro e w6 ⟨rfl, x6⟩
    have C_26 := C_23.on x6
    have D_27 := D_24.on x6
    have B28 := B25.trans (x6.mono B25.size)
    clear C_23 D_24 B25 x6
    clear p2
    go_wp2_with fail
    refine (examples9_ K _ (ht.on B28)).mono ?_; rintro e w7 ⟨rfl, x7⟩
    have C_29 := C_26.on x7
    have D_30 := D_27.on x7
    have B31 := B28.trans (x7.mono B28.size)
    clear C_26 D_27 B28 x7
    go_wp2
    go_ret
    exact ⟨rfl, B31⟩
end Go.Proofs.YtbglnebmfnoenaaGreatDoor.RewriteTwice
