/- The walk of RewriteBack. -/
import Derived.Test.YtbglnebmfnoenaaGreatDoorGu
namespace Go.Proofs.YtbglnebmfnoenaaGreatDoor.RewriteBack
set_option linter.unusedVariables false
set_option linter.unusedSimpArgs false
open Go.ChangeShapes Go.WideShapes Go.ChangeAt Go.RowKit Go.PlainAid
attribute [local go_sem ↓] Go.wp_at_zero Go.wp_at_succ
theorem tk_two {s : ByteArray} (h : tkB s 2 = true) : rwR s = 0 ∧ 3 ≤ bt s 8 := by
  unfold tkB at h
  simp only [Bool.and_eq_true, decide_eq_true_eq] at h
  obtain ⟨⟨h1, h2⟩, _⟩ := h
  rw [(s_yes h1).1] at h2
  exact ⟨rw_is h1 (by omega), by omega⟩
theorem ok_back {s : ByteArray} (h : seenR s = 0) : okC (g32 s 12) (oM (bt s 9) (pP s)) (g32 s 16) (oN (bt s 9) (pP s)) := by
  have hq := okC_of s
  have i := idM_bd (mR (pP s))
  have a1 := g16_nonneg (pP s) 0
  have a2 := g16_le (pP s) 0
  have a3 := g16_nonneg (pP s) 2
  have a4 := g16_le (pP s) 2
  refine ⟨hq.1, hq.2.1, ?_, ?_, hq.2.2.2.2.1, hq.2.2.2.2.2.1, ?_, ?_⟩
  · unfold oM; split
    · split <;> omega
    · omega
  · unfold oM; split
    · split <;> omega
    · omega
  · unfold oN; split
    · split <;> omega
    · omega
  · unfold oN; split
    · split <;> omega
    · omega
set_option maxHeartbeats 4000000 in
set_option maxRecDepth 100000 in
theorem walk_ (K : RwOk) (s : ByteArray) (a m b n : Int) (w : World) (ht : Tab w) (hs : s.size ≤ maxLen) (ha : (Lit.int .u32 a).wf = true) (hm : (Lit.int .u16 m).wf = true) (hb : (Lit.int .u32 b).wf = true) (hn : (Lit.int .u16 n).wf = true) :
    Calls Tryz.prog 6 #[.string s, .agg #[.int .u32 a, .int .u16 m, .int .u32 b, .int .u16 n]] w fun e w' => e = .returned (.bool true) ∧ Below w.heap.size w w' := by
  clear hs
  have ok1 : okC a m b n := ⟨(bounds_u32 ha).1, (bounds_u32 ha).2, (bounds_u16 hm).1, (bounds_u16 hm).2, (bounds_u32 hb).1, (bounds_u32 hb).2, (bounds_u16 hn).1, (bounds_u16 hn).2⟩
  clear ha hm hb hn
  by_cases h1 : 2500 < s.size
  · have e1 : decide (2500 < s.size) = true := by simpa using h1
    have e2 : decide ((2500 : Int) < (s.size : Int)) = true := by simp; omega
    have B0 := ((Below.refl w.heap.size w).alloc (Nat.le_refl _) (.cells #[.int .u32 a, .int .u16 m, .int .u32 b, .int .u16 n] 28))
    clear ok1 h1
    go_enter Tryz.func6, Tryz.ntmps6
    go_wp2_with fail
    refine (examples9_ K _ (ht.on B0)).mono ?_; rintro e w1 ⟨rfl, b1⟩
    go_wp2
    go_ret
    exact ⟨rfl, B0.trans (b1.mono B0.size)⟩
  have e1 : decide (2500 < s.size) = false := by simpa using h1
  have e2 : decide ((2500 : Int) < (s.size : Int)) = false := by simp; omega
  have ck := fun u => taken_ s 2 u (by omega)
  cases htk : tkB s 2 with
  | false =>
    rw [htk] at ck
    generalize sI s (bt s 9) = v0 at *
    generalize sI s (g32 s 12) = v1 at *
    generalize sI s (oM (bt s 9) (pP s)) = v2 at *
    generalize sI s (g32 s 16) = v3 at *
    generalize sI s (oN (bt s 9) (pP s)) = v4 at *
    generalize sI s (oK (bt s 9) (pP s)) = v5 at *
    generalize sI s (oF (bt s 9) (pP s)) = v6 at *
    generalize sB s (oA (bt s 9) (pP s)) = v7 at *
    generalize sI s (bt s 8) = v8 at *
    clear htk h1 ok1
    go_enter Tryz.func6, Tryz.ntmps6
    have B1 := Below.refl w.heap.size w
    go_wp2_with fail
    have C_2 := Box4.make w (.int .u32 a) (.int .u16 m) (.int .u32 b) (.int .u16 n) 28
    have B3 := B1.alloc B1.size (.cells #[.int .u32 a, .int .u16 m, .int .u32 b, .int .u16 n] 28)
    clear B1
    refine (ck _).mono ?_; rintro e w1 ⟨rfl, x1⟩
    have C_4 := C_2.on x1
    have B5 := B3.trans (x1.mono B3.size)
    clear C_2 B3 x1
    clear ck
    have C_6 := C_4.past (o := (.cells #[.int .u8 v0, .int .u32 v1, .int .u16 v2, .int .u32 v3, .int .u16 v4, .int .i64 v5, .int .u8 v6, .bool v7, .int .u8 v8] 38))
    have X_7 := Box9.make w1 (.int .u8 v0) (.int .u32 v1) (.int .u16 v2) (.int .u32 v3) (.int .u16 v4) (.int .i64 v5) (.int .u8 v6) (.bool v7) (.int .u8 v8) 38
    have B8 := B5.alloc B5.size (.cells #[.int .u8 v0, .int .u32 v1, .int .u16 v2, .int .u32 v3, .int .u16 v4, .int .i64 v5, .int .u8 v6, .bool v7, .int .u8 v8] 38)
    clear C_4 B5
    go_wp2_with fail
    refine (examples9_ K _ (ht.on B8)).mono ?_; rintro e w2 ⟨rfl, x2⟩
    have C_9 := C_6.on x2
    have X_10 := X_7.on x2
    have B11 := B8.trans (x2.mono B8.size)
    clear C_6 X_7 B8 x2
    go_wp2
    go_ret
    exact ⟨rfl, B11⟩
  | true =>
    rw [htk] at ck
    obtain ⟨hr, h3⟩ := tk_two htk
    clear htk
    have hsn := (rw_zero hr).1
    obtain ⟨n1, n2⟩ := s_yes hsn
    rw [n1, n1, n1, n1, n1, n1, n1, n1, n2] at ck
    clear n1 n2
    obtain ⟨N, R⟩ := rw_facts hr ok1
    have ht2 : rwR (rwB s a m b n) = 0 := rw_is R.seen (by rw [R.b8]; omega)
    have ok2 := ok_back hsn
    obtain ⟨N', R'⟩ := rw_facts ht2 ok2
    obtain ⟨eN, HE⟩ := rw_back hr ok1 R R' ok2
    subst eN
    have HE := Lib.hid HE
    have zN := R.le
    have z1 := R'.size
    have z1' := R'.own0
    have z1'' := R'.own1
    have zt := R.size
    have b8 : bt (rwB (rwB s a m b n) (g32 s 12) (oM (bt s 9) (pP s)) (g32 s 16) (oN (bt s 9) (pP s))) 8 = bt s 8 - 2 := by rw [R'.b8, R.b8]; omega
    have t0 := bt_le s 8
    have w8 : IntKind.u8.wrap (bt s 8 - 2) = bt s 8 - 2 := IntWalk.u8_in _ (by omega)
    have hp := (seen_ip hsn).1
    obtain ⟨_, _, y3, y4, _, _, _, y8⟩ := ip_all hp N' R.len
    have sx : seenR (s.extract 0 N') = 0 := seen_of y3 (by rw [y4, y8]; exact (seen_ip hsn).2)
    have zx := size_extract' s 0 N' (Nat.zero_le _) zN
    clear y3 y4 y8
    have ca := fun u hu => K.applies s a m b n u (by omega) ok1 hu
    have cb := fun u hu => K.applies (rwB s a m b n) (g32 s 12) (oM (bt s 9) (pP s)) (g32 s 16) (oN (bt s 9) (pP s)) u (by omega) ok2 hu
    have p1 := fun u => plain_ (rwB (rwB s a m b n) (g32 s 12) (oM (bt s 9) (pP s)) (g32 s 16) (oN (bt s 9) (pP s))) u R'.seen (by omega)
    have p2 := fun u => plain_ (s.extract 0 N') u sx (by omega)
    rw [hr] at ca
    rw [ht2] at cb
    rw [HE.out] at p1
    generalize plB (s.extract 0 N') = P at *
    generalize rwB (rwB s a m b n) (g32 s 12) (oM (bt s 9) (pP s)) (g32 s 16) (oN (bt s 9) (pP s)) = U at *
    generalize rwB s a m b n = T at *
    have hgU := get_bt U
    have hgs := get_bt s
    have e3 : decide (U.size < 20) = false := by simp; omega
    have e4 : decide ((U.size : Int) < 20) = false := by simp; omega
    have e5 : decide (s.size < U.size) = false := by simp; omega
    have e6 : decide ((s.size : Int) < (U.size : Int)) = false := by simp; omega
    have e7 : (bt U 8 != bt s 8 - 2) = false := by rw [b8]; simp
    have i1 : (8 : Int) < (U.size : Int) := by omega
    have i2 : (8 : Int) < (s.size : Int) := by omega
    have i3 : (U.size : Int) ≤ (s.size : Int) := by omega
    rw [← z1] at p2
    clear R R' HE hr h3 ht2 zN z1 z1' z1'' zt b8 t0 hp sx zx h1 hsn
    generalize oK (bt s 9) (pP s) = v5 at *
    generalize oM (bt s 9) (pP s) = v2 at *
    generalize oN (bt s 9) (pP s) = v4 at *
    generalize oF (bt s 9) (pP s) = v6 at *
    generalize oA (bt s 9) (pP s) = v7 at *
    generalize bt s 9 = v0 at *
    generalize g32 s 12 = v1 at *
    generalize g32 s 16 = v3 at *
    obtain ⟨v8, hv8⟩ : ∃ x, x = bt s 8 := ⟨_, rfl⟩
    have ck : ∀ u : World, Calls Tryz.prog 11 #[.string s, .int .u8 2] u fun e w' => e = .returned (.tuple #[.agg #[.int .u8 v0, .int .u32 v1, .int .u16 v2, .int .u32 v3, .int .u16 v4, .int .i64 v5, .int .u8 v6, .bool v7, .int .u8 v8], .bool true]) ∧ Below u.heap.size u w' := fun u => by rw [hv8]; exact ck u
    clear hv8 ok1 ok2
    go_enter Tryz.func6, Tryz.ntmps6
    have B1 := Below.refl w.heap.size w
    go_wp2_with fail
    have C_2 := Box4.make w (.int .u32 a) (.int .u16 m) (.int .u32 b) (.int .u16 n) 28
    have B3 := B1.alloc B1.size (.cells #[.int .u32 a, .int .u16 m, .int .u32 b, .int .u16 n] 28)
    clear B1
    refine (ck _).mono ?_; rintro e w1 ⟨rfl, x1⟩
    have C_4 := C_2.on x1
    have B5 := B3.trans (x1.mono B3.size)
    clear C_2 B3 x1
    clear ck
    have C_6 := C_4.past (o := (.cells #[.int .u8 v0, .int .u32 v1, .int .u16 v2, .int .u32 v3, .int .u16 v4, .int .i64 v5, .int .u8 v6, .bool v7, .int .u8 v8] 38))
    have X_7 := Box9.make w1 (.int .u8 v0) (.int .u32 v1) (.int .u16 v2) (.int .u32 v3) (.int .u16 v4) (.int .i64 v5) (.int .u8 v6) (.bool v7) (.int .u8 v8) 38
    have B8 := B5.alloc B5.size (.cells #[.int .u8 v0, .int .u32 v1, .int .u16 v2, .int .u32 v3, .int .u16 v4, .int .i64 v5, .int .u8 v6, .bool v7, .int .u8 v8] 38)
    clear C_4 B5
    obtain ⟨_, c1_0, c1_1, c1_2, c1_3⟩ := id C_6
    go_wp2_with fail
    refine (ca _ (ht.on B8)).mono ?_; rintro e w2 ⟨rfl, x2⟩
    have C_9 := C_6.on x2
    have X_10 := X_7.on x2
    have B11 := B8.trans (x2.mono B8.size)
    clear c1_0 c1_1 c1_2 c1_3 C_6 X_7 B8 x2
    clear ca
    obtain ⟨_, x2_0, x2_1, x2_2, x2_3, x2_4, x2_5, x2_6, x2_7, x2_8⟩ := id X_10
    go_wp2_with fail
    refine (cb _ (ht.on B11)).mono ?_; rintro e w3 ⟨rfl, x3⟩
    have C_12 := C_9.on x3
    have X_13 := X_10.on x3
    have B14 := B11.trans (x3.mono B11.size)
    clear x2_0 x2_1 x2_2 x2_3 x2_4 x2_5 x2_6 x2_7 x2_8 C_9 X_10 B11 x3
    clear cb
    clear C_12 X_13
    go_wp2_with fail
    refine region_later (B := w3.heap.size) (by kernel_rfl) (by kernel_rfl) ?_
    repeat (go_big_quiet_step (fail))
    refine later_end fun w4 x4 => ?_
    have B15 := B14.trans (x4.mono B14.size)
    clear B14 x4
    go_wp2_with fail
    have HT := ht.on B15
    refine region_later (B := w4.heap.size) (by kernel_rfl) (by kernel_rfl) ?_
    repeat (go_big_quiet_step (first
      | (go_at_call_of 16 (#[Value.string U]); exact later_of _ (Nat.le_refl _) (p1 _))
      | (go_at_call 16; exact later_of _ (Nat.le_refl _) (p2 _))
      | (go_at_call 8; exact later_of _ (Nat.le_refl _) (examples9_ K _ (HT.on (Later.h _))))))
    refine later_end fun w5 x5 => ?_
    have B16 := B15.trans (x5.mono B15.size)
    clear B15 x5
    go_wp2
    go_ret
    exact ⟨rfl, B16⟩
end Go.Proofs.YtbglnebmfnoenaaGreatDoor.RewriteBack
