/- The walk of AddrsBack. -/
import Derived.Test.YtaaobacmlaaajaaDoorAddrsQ
import Derived.Test.YtaaobacmlaaajaaDoorAddrsR
import Derived.Test.YtaaobacmlaaajaaDoorAddrsNestP
namespace Go.Proofs.YtaaobacmlaaajaaDoor.AddrsBack
set_option linter.unusedVariables false
set_option linter.unusedSimpArgs false
open Go.ChangeShapes Go.WideShapes Go.ChangeAt Go.RowKit Go.PlainAid
theorem point_back (a m : Nat) (ha : a < 4294967296) (hm : m ≤ 65535) : pointA (pointL a m) = a ∧ pointN (pointL a m) = m ∧ pointE (pointL a m) = 0 :=
  point_val ((pairV_iff 65535 58 _ a m (by decide) (by decide)).2 ⟨ha, hm, rfl⟩)
theorem parse_back (a : Nat) (ha : a < 4294967296) : parseA (textL a) = a ∧ parseE (textL a) = 0 := by
  unfold parseA parseE
  rw [parseV_text a ha]
  exact ⟨rfl, rfl⟩
theorem pref_yes (a n : Nat) (hm : mayV a (n : Int) = true) : prefL a (n : Int) = textL a ++ 47 :: Lib.decDigits n := by
  unfold prefL; rw [if_pos hm]; simp
theorem pref_back (a n : Nat) (ha : a < 4294967296) (hn : n ≤ 32) (hm : mayV a (n : Int) = true) : prefR (prefL a (n : Int)) = (a, n, 0) := by
  refine prefR_yes ?_ hm
  rw [pref_yes a n hm]
  exact (pairV_iff 32 47 _ a n (by decide) (by decide)).2 ⟨ha, hn, rfl⟩
theorem point_inj {a m b n : Nat} (ha : a < 4294967296) (hm : m ≤ 65535) (hb : b < 4294967296) (hn : n ≤ 65535) (h : pointL a m = pointL b n) : a = b ∧ m = n := by
  obtain ⟨h1, h2, _⟩ := point_back a m ha hm
  obtain ⟨g1, g2, _⟩ := point_back b n hb hn
  rw [h] at h1 h2
  exact ⟨h1.symm.trans g1, h2.symm.trans g2⟩
theorem pointL_len (a m : Nat) (ha : a < 4294967296) (hm : m ≤ 65535) : (pointL a m).length ≤ maxLen := by
  have h1 := textL_len a ha
  have h2 := dec_len m
  simp [pointL, maxLen]; omega
theorem prefL_len (a n : Nat) (ha : a < 4294967296) (hn : n ≤ 32) : (prefL a (n : Int)).length ≤ maxLen := by
  have h1 := textL_len a ha
  have h2 := dec_len n
  unfold prefL maxLen
  split
  · simp; omega
  · simp
set_option maxHeartbeats 4000000 in
set_option maxRecDepth 100000 in
theorem walkN (a m b n c : Nat) (w : World) (ht : Tab w) (ha : a < 4294967296) (hm : m ≤ 65535) (hb : b < 4294967296) (hn : n ≤ 65535) (hc : c ≤ 255) :
    Calls Tryd.prog 4 #[.agg #[.int .u32 (a : Int), .int .u16 (m : Int)], .agg #[.int .u32 (b : Int), .int .u16 (n : Int)], .int .u8 (c : Int)] w fun e w' => e = .returned (.bool true) ∧ Below w.heap.size w w' := by
  obtain ⟨w1, hw1⟩ : ∃ w1, w1 = (w.alloc (.cells #[.int .u32 (a : Int), .int .u16 (m : Int)] 26)).alloc (.cells #[.int .u32 (b : Int), .int .u16 (n : Int)] 26) := ⟨_, rfl⟩
  have B1 : Below w.heap.size w w1 := by rw [hw1]; exact ((Below.refl _ _).alloc (Nat.le_refl _) _).alloc (by simp) _
  have s0 : w.heap.size + 1 < w1.heap.size := by rw [hw1]; simp
  have s1 : w.heap.size < w1.heap.size := by omega
  have a0 : w1.cell? ⟨w.heap.size, 0, none⟩ = some (.int .u32 (a : Int)) := by rw [hw1]; simp [go_sem]
  have a1 : w1.cell? ⟨w.heap.size, 1, none⟩ = some (.int .u16 (m : Int)) := by rw [hw1]; simp [go_sem]
  have b0 : w1.cell? ⟨w.heap.size + 1, 0, none⟩ = some (.int .u32 (b : Int)) := by rw [hw1]; simp [go_sem]
  have b1 : w1.cell? ⟨w.heap.size + 1, 1, none⟩ = some (.int .u16 (n : Int)) := by rw [hw1]; simp [go_sem]
  have HW := Lib.hid hw1
  clear hw1
  have T1 : Tab w1 := ht.on B1
  obtain ⟨k, hk⟩ : ∃ k, k = wbits c := ⟨_, rfl⟩
  have hk32 : k ≤ 32 := by rw [hk]; unfold wbits; omega
  have c1 := fun u => whole_ a c u ha hc
  rw [← hk] at c1
  have hmay := may_first a k hk32
  have hhas : hasV (firstN a k) (k : Int) a = true := by rw [has_first a a k hk32]; simp
  have hF2 : firstN a k < 4294967296 := Nat.lt_of_le_of_lt (firstN_le a k) ha
  obtain ⟨F, hF⟩ : ∃ F, F = firstN a k := ⟨_, rfl⟩
  rw [← hF] at c1 hmay hhas hF2
  have c2 := fun u hu => pointText_ a m u ha hm hu
  have c3 := fun u => point_ (pointL a m) u (pointL_len a m ha hm)
  rw [(point_back a m ha hm).1, (point_back a m ha hm).2.1, (point_back a m ha hm).2.2] at c3
  have c4 := fun u hu => text_ a u ha hu
  have c5 := fun u => parse_ (textL a) u (by have := textL_len a ha; unfold maxLen; omega)
  rw [(parse_back a ha).1, (parse_back a ha).2] at c5
  have c6 := fun u hu => prefText_ F (k : Int) u hF2 (by omega) hu
  have c7 := fun u => prefix_ (prefL F (k : Int)) u (prefL_len F k hF2 hk32)
  rw [pref_back F k hF2 hk32 hmay] at c7
  simp only at c7
  have c8 := fun u => may_ F (k : Int) u hF2 (by omega)
  rw [hmay] at c8
  have c9 := fun u => has_ F (k : Int) a u hF2 ha (by omega)
  rw [hhas] at c9
  have c10 := fun u => less_ a m b n u ha hb hm hn
  have c11 := fun u => less_ b n a m u hb ha hn hm
  have c12 := fun u hu => pointText_ b n u hb hn hu
  have HSS : Hid ((str (pointL a m) = str (pointL b n)) ↔ (a = b ∧ m = n)) := by
    show _ ↔ _
    constructor
    · intro h; exact point_inj ha hm hb hn (str_inj h)
    · rintro ⟨rfl, rfl⟩; rfl
  obtain ⟨S1, hS1⟩ : ∃ s, s = str (pointL a m) := ⟨_, rfl⟩
  obtain ⟨S2, hS2⟩ : ∃ s, s = str (textL a) := ⟨_, rfl⟩
  obtain ⟨S3, hS3⟩ : ∃ s, s = str (prefL F (k : Int)) := ⟨_, rfl⟩
  obtain ⟨S4, hS4⟩ : ∃ s, s = str (pointL b n) := ⟨_, rfl⟩
  rw [← hS1] at c2 c3 HSS
  rw [← hS2] at c4 c5
  rw [← hS3] at c6 c7
  rw [← hS4] at c12 HSS
  clear hS1 hS2 hS3 hS4 hF hk hk32 hmay hhas hF2
  go_enter Tryd.func4, Tryd.ntmps4
  go_wp2_with fail
  rw [← HW.out]
  refine (c1 _).mono ?_; rintro e w2 ⟨rfl, g2⟩
  have a0 := kept_ g2 a0 s1
  have a1 := kept_ g2 a1 s1
  have b0 := kept_ g2 b0 s0
  have b1 := kept_ g2 b1 s0
  have s0 := Nat.lt_of_lt_of_le s0 g2.size
  have s1 := Nat.lt_of_lt_of_le s1 g2.size
  have T2 := T1.on g2
  have B2 := B1.trans (g2.mono B1.size)
  clear B1 g2 T1 c1
  go_wp2_with fail
  refine (c2 _ (T2.on ((Below.refl _ _).alloc (Nat.le_refl _) _))).mono ?_; rintro e w3 ⟨rfl, g3⟩
  have p0 : w3.cell? ⟨w2.heap.size, 0, none⟩ = some (.int .u32 (F : Int)) := kept_ g3 (by simp [go_sem]) (by simp)
  have p1 : w3.cell? ⟨w2.heap.size, 1, none⟩ = some (.int .i64 (k : Int)) := kept_ g3 (by simp [go_sem]) (by simp)
  have a0 := kept2_ g3 a0 s1
  have a1 := kept2_ g3 a1 s1
  have b0 := kept2_ g3 b0 s0
  have b1 := kept2_ g3 b1 s0
  obtain ⟨B3, u3⟩ := step_ B2 g3
  have s1 := Nat.lt_trans s1 u3
  have s0 := Nat.lt_trans s0 u3
  have sp := u3
  have T3 := T2.on (((Below.refl _ _).alloc (Nat.le_refl _) _).trans (g3.mono (by simp)))
  clear u3
  clear B2 g3 T2
  go_wp2_with fail
  refine (c3 _).mono ?_; rintro e w4 ⟨rfl, g4⟩
  have a0 := kept_ g4 a0 s1
  have a1 := kept_ g4 a1 s1
  have b0 := kept_ g4 b0 s0
  have b1 := kept_ g4 b1 s0
  have p0 := kept_ g4 p0 sp
  have p1 := kept_ g4 p1 sp
  have s1 := Nat.lt_of_lt_of_le s1 g4.size
  have s0 := Nat.lt_of_lt_of_le s0 g4.size
  have sp := Nat.lt_of_lt_of_le sp g4.size
  have B4 := B3.trans (g4.mono B3.size)
  have T4 := T3.on g4
  clear B3 g4 T3
  go_wp2_with fail
  refine (c4 _ (T4.on ((Below.refl _ _).alloc (Nat.le_refl _) _))).mono ?_; rintro e w5 ⟨rfl, g5⟩
  have x0 : w5.cell? ⟨w4.heap.size, 0, none⟩ = some (.int .u32 (a : Int)) := kept_ g5 (by simp [go_sem]) (by simp)
  have x1 : w5.cell? ⟨w4.heap.size, 1, none⟩ = some (.int .u16 (m : Int)) := kept_ g5 (by simp [go_sem]) (by simp)
  have a0 := kept2_ g5 a0 s1
  have a1 := kept2_ g5 a1 s1
  have b0 := kept2_ g5 b0 s0
  have b1 := kept2_ g5 b1 s0
  have p0 := kept2_ g5 p0 sp
  have p1 := kept2_ g5 p1 sp
  obtain ⟨B5, u5⟩ := step_ B4 g5
  have s1 := Nat.lt_trans s1 u5
  have s0 := Nat.lt_trans s0 u5
  have sp := Nat.lt_trans sp u5
  have sx := u5
  have T5 := T4.on (((Below.refl _ _).alloc (Nat.le_refl _) _).trans (g5.mono (by simp)))
  clear u5
  clear B4 g5 T4
  go_wp2_with fail
  refine (c5 _).mono ?_; rintro e w6 ⟨rfl, g6⟩
  have a0 := kept_ g6 a0 s1
  have a1 := kept_ g6 a1 s1
  have b0 := kept_ g6 b0 s0
  have b1 := kept_ g6 b1 s0
  have p0 := kept_ g6 p0 sp
  have p1 := kept_ g6 p1 sp
  have x0 := kept_ g6 x0 sx
  have x1 := kept_ g6 x1 sx
  have s1 := Nat.lt_of_lt_of_le s1 g6.size
  have s0 := Nat.lt_of_lt_of_le s0 g6.size
  have sp := Nat.lt_of_lt_of_le sp g6.size
  have sx := Nat.lt_of_lt_of_le sx g6.size
  have B6 := B5.trans (g6.mono B5.size)
  have T6 := T5.on g6
  clear B5 g6 T5
  go_wp2_with fail
  refine (c6 _ T6).mono ?_; rintro e w7 ⟨rfl, g7⟩
  have a0 := kept_ g7 a0 s1
  have a1 := kept_ g7 a1 s1
  have b0 := kept_ g7 b0 s0
  have b1 := kept_ g7 b1 s0
  have p0 := kept_ g7 p0 sp
  have p1 := kept_ g7 p1 sp
  have x0 := kept_ g7 x0 sx
  have x1 := kept_ g7 x1 sx
  have s1 := Nat.lt_of_lt_of_le s1 g7.size
  have s0 := Nat.lt_of_lt_of_le s0 g7.size
  have sp := Nat.lt_of_lt_of_le sp g7.size
  have sx := Nat.lt_of_lt_of_le sx g7.size
  have B7 := B6.trans (g7.mono B6.size)
  have T7 := T6.on g7
  clear B6 g7 T6
  go_wp2_with fail
  refine (c7 _).mono ?_; rintro e w8 ⟨rfl, g8⟩
  have a0 := kept_ g8 a0 s1
  have a1 := kept_ g8 a1 s1
  have b0 := kept_ g8 b0 s0
  have b1 := kept_ g8 b1 s0
  have p0 := kept_ g8 p0 sp
  have p1 := kept_ g8 p1 sp
  have x0 := kept_ g8 x0 sx
  have x1 := kept_ g8 x1 sx
  have s1 := Nat.lt_of_lt_of_le s1 g8.size
  have s0 := Nat.lt_of_lt_of_le s0 g8.size
  have sp := Nat.lt_of_lt_of_le sp g8.size
  have sx := Nat.lt_of_lt_of_le sx g8.size
  have B8 := B7.trans (g8.mono B7.size)
  have T8 := T7.on g8
  clear B7 g8 T7
  go_wp2_with fail
  refine (c8 _).mono ?_; rintro e w9 ⟨rfl, g9⟩
  have q0 : w9.cell? ⟨w8.heap.size, 0, none⟩ = some (.int .u32 (F : Int)) := kept_ g9 (by simp [go_sem]) (by simp)
  have q1 : w9.cell? ⟨w8.heap.size, 1, none⟩ = some (.int .i64 (k : Int)) := kept_ g9 (by simp [go_sem]) (by simp)
  have a0 := kept2_ g9 a0 s1
  have a1 := kept2_ g9 a1 s1
  have b0 := kept2_ g9 b0 s0
  have b1 := kept2_ g9 b1 s0
  have p0 := kept2_ g9 p0 sp
  have p1 := kept2_ g9 p1 sp
  have x0 := kept2_ g9 x0 sx
  have x1 := kept2_ g9 x1 sx
  obtain ⟨B9, u9⟩ := step_ B8 g9
  have s1 := Nat.lt_trans s1 u9
  have s0 := Nat.lt_trans s0 u9
  have sp := Nat.lt_trans sp u9
  have sx := Nat.lt_trans sx u9
  have sq := u9
  have T9 := T8.on (((Below.refl _ _).alloc (Nat.le_refl _) _).trans (g9.mono (by simp)))
  clear u9
  clear B8 g9 T8
  go_wp2_with fail
  refine (c9 _).mono ?_; rintro e w10 ⟨rfl, g10⟩
  have a0 := kept_ g10 a0 s1
  have a1 := kept_ g10 a1 s1
  have b0 := kept_ g10 b0 s0
  have b1 := kept_ g10 b1 s0
  have p0 := kept_ g10 p0 sp
  have p1 := kept_ g10 p1 sp
  have x0 := kept_ g10 x0 sx
  have x1 := kept_ g10 x1 sx
  have q0 := kept_ g10 q0 sq
  have q1 := kept_ g10 q1 sq
  have s1 := Nat.lt_of_lt_of_le s1 g10.size
  have s0 := Nat.lt_of_lt_of_le s0 g10.size
  have sp := Nat.lt_of_lt_of_le sp g10.size
  have sx := Nat.lt_of_lt_of_le sx g10.size
  have sq := Nat.lt_of_lt_of_le sq g10.size
  have B10 := B9.trans (g10.mono B9.size)
  have T10 := T9.on g10
  clear B9 g10 T9
  clear x0 x1 q0 q1 p0 p1 sx sq sp
  have hways : (a = b ∧ m = n ∧ lessV a m b n = false ∧ lessV b n a m = false) ∨ (¬ (a = b ∧ m = n) ∧ lessV a m b n = true ∧ lessV b n a m = false) ∨ (¬ (a = b ∧ m = n) ∧ lessV a m b n = false ∧ lessV b n a m = true) := by
    unfold lessV
    simp only [Bool.or_eq_true, Bool.or_eq_false_iff, Bool.and_eq_true, Bool.and_eq_false_iff, decide_eq_true_eq, decide_eq_false_iff_not]
    omega
  have d0 : ∀ q : Later w10.heap.size w10, q.u.cell? ⟨w.heap.size, 0, none⟩ = some (.int .u32 (a : Int)) := fun q => q.block s1 a0
  have d1 : ∀ q : Later w10.heap.size w10, q.u.cell? ⟨w.heap.size, 1, none⟩ = some (.int .u16 (m : Int)) := fun q => q.block s1 a1
  have d2 : ∀ q : Later w10.heap.size w10, q.u.cell? ⟨w.heap.size + 1, 0, none⟩ = some (.int .u32 (b : Int)) := fun q => q.block s0 b0
  have d3 : ∀ q : Later w10.heap.size w10, q.u.cell? ⟨w.heap.size + 1, 1, none⟩ = some (.int .u16 (n : Int)) := fun q => q.block s0 b1
  have k10 : ∀ q : Later w10.heap.size w10, Calls Tryd.prog 16 #[.agg #[.int .u32 (a : Int), .int .u16 (m : Int)], .agg #[.int .u32 (b : Int), .int .u16 (n : Int)]] q.u fun e w' => e = .returned (.bool (lessV a m b n)) ∧ Below q.u.heap.size q.u w' := fun q => c10 q.u
  have k11 : ∀ q : Later w10.heap.size w10, Calls Tryd.prog 16 #[.agg #[.int .u32 (b : Int), .int .u16 (n : Int)], .agg #[.int .u32 (a : Int), .int .u16 (m : Int)]] q.u fun e w' => e = .returned (.bool (lessV b n a m)) ∧ Below q.u.heap.size q.u w' := fun q => c11 q.u
  have HWAYS := Lib.hid hways
  clear c8 c9 c10 c11 hways
  go_wp2_with fail
  refine region_later (B := w10.heap.size) (by kernel_rfl) (by kernel_rfl) ?_
  repeat (go_big_quiet_step (first
    | (go_at_call 16; with_reducible exact later_of _ (Nat.le_refl _) (k10 _))
    | (go_at_call 16; with_reducible exact later_of _ (Nat.le_refl _) (k11 _))))
  refine later_end fun w11 g11 => ?_
  clear d0 d1 d2 d3 k10 k11
  have a0 := kept_ g11 a0 s1
  have a1 := kept_ g11 a1 s1
  have b0 := kept_ g11 b0 s0
  have b1 := kept_ g11 b1 s0
  have s0 := Nat.lt_of_lt_of_le s0 g11.size
  have s1 := Nat.lt_of_lt_of_le s1 g11.size
  have B11 := B10.trans (g11.mono B10.size)
  have T11 := T10.on g11
  clear B10 g11 T10
  have d0 : ∀ q : Later w11.heap.size w11, q.u.cell? ⟨w.heap.size, 0, none⟩ = some (.int .u32 (a : Int)) := fun q => q.block s1 a0
  have d1 : ∀ q : Later w11.heap.size w11, q.u.cell? ⟨w.heap.size, 1, none⟩ = some (.int .u16 (m : Int)) := fun q => q.block s1 a1
  have d2 : ∀ q : Later w11.heap.size w11, q.u.cell? ⟨w.heap.size + 1, 0, none⟩ = some (.int .u32 (b : Int)) := fun q => q.block s0 b0
  have d3 : ∀ q : Later w11.heap.size w11, q.u.cell? ⟨w.heap.size + 1, 1, none⟩ = some (.int .u16 (n : Int)) := fun q => q.block s0 b1
  have k2 : ∀ q : Later w11.heap.size w11, Calls Tryd.prog 8 #[.agg #[.int .u32 (a : Int), .int .u16 (m : Int)]] q.u fun e w' => e = .returned (.string S1) ∧ Below q.u.heap.size q.u w' := fun q => c2 q.u (T11.on q.h)
  have k12 : ∀ q : Later w11.heap.size w11, Calls Tryd.prog 8 #[.agg #[.int .u32 (b : Int), .int .u16 (n : Int)]] q.u fun e w' => e = .returned (.string S4) ∧ Below q.u.heap.size q.u w' := fun q => c12 q.u (T11.on q.h)
  clear a0 a1 b0 b1 s0 s1 ht ha hm hb hn hc c2 c12 T11
  obtain ⟨L1, hL1⟩ : ∃ L, L = lessV a m b n := ⟨_, rfl⟩
  obtain ⟨L2, hL2⟩ : ∃ L, L = lessV b n a m := ⟨_, rfl⟩
  rw [← hL1, ← hL2] at HWAYS
  rw [← hL1, ← hL2]
  clear hL1 hL2
  rcases HWAYS.out with ⟨e1, e2, l1, l2⟩ | ⟨hne, l1, l2⟩ | ⟨hne, l1, l2⟩
  · subst e1
    subst e2
    subst l1
    subst l2
    have hs : S1 = S4 := HSS.out.2 ⟨rfl, rfl⟩
    subst hs
    clear HSS HWAYS k12
    go_wp2_with fail
    refine region_later (B := w11.heap.size) (by kernel_rfl) (by kernel_rfl) ?_
    repeat (go_big_quiet_step (first
      | (go_at_call 8; exact later_of _ (Nat.le_refl _) (k2 _))
      | (go_at_call 18; exact later_of _ (Nat.le_refl _) (named_ _))))
    refine later_end fun w12 g12 => ?_
    have B12 := B11.trans (g12.mono B11.size)
    clear d0 d1 d2 d3 g12 k2
    go_wp2
    go_ret
    exact ⟨rfl, B12⟩
  all_goals
    subst l1
    subst l2
    have hs : ¬ S1 = S4 := fun h => hne (HSS.out.1 h)
    have hs2 : ¬ S1.toList = S4.toList := fun h => hs (str_ext (by rw [← Lib.toList_data, ← Lib.toList_data]; exact h))
    have hs3 : (S1.toList == S4.toList) = false := by simpa using hs2
    have hs4 : (S4.toList == S1.toList) = false := by simpa using fun h : S4.toList = S1.toList => hs2 h.symm
    have hcase : ((a == b) = false ∧ ((a : Int) == (b : Int)) = false ∧ ¬ (a : Int) = (b : Int)) ∨ (a = b ∧ (m == n) = false ∧ ((m : Int) == (n : Int)) = false ∧ ¬ (m : Int) = (n : Int)) := by
      by_cases h1 : a = b
      · have h2 : ¬ m = n := fun h2 => hne ⟨h1, h2⟩
        exact .inr ⟨h1, by simpa using h2, by simp; omega, by omega⟩
      · exact .inl ⟨by simpa using h1, by simp; omega, by omega⟩
    clear HSS HWAYS hne
    rcases hcase with ⟨h1, h2, h3⟩ | ⟨h0, h1, h2, h3⟩
    all_goals
      try subst h0
      go_wp2_with fail
      refine region_later (B := w11.heap.size) (by kernel_rfl) (by kernel_rfl) ?_
      repeat (go_big_quiet_step (first
        | (go_at_call_of 8 m; exact later_of _ (Nat.le_refl _) (k2 _))
        | (go_at_call_of 8 n; exact later_of _ (Nat.le_refl _) (k12 _))
        | (go_at_call 18; exact later_of _ (Nat.le_refl _) (named_ _))))
      refine later_end fun w12 g12 => ?_
      have B12 := B11.trans (g12.mono B11.size)
      clear d0 d1 d2 d3 g12 k2 k12
      go_wp2
      go_ret
      exact ⟨rfl, B12⟩
theorem walk (a m b n c : Int) (w : World) (ht : Tab w) (ha : (Lit.int .u32 a).wf = true) (hm : (Lit.int .u16 m).wf = true) (hb : (Lit.int .u32 b).wf = true) (hn : (Lit.int .u16 n).wf = true) (hc : (Lit.int .u8 c).wf = true) :
    Calls Tryd.prog 4 #[.agg #[.int .u32 a, .int .u16 m], .agg #[.int .u32 b, .int .u16 n], .int .u8 c] w fun e w' => e = .returned (.bool true) ∧ Below w.heap.size w w' := by
  obtain ⟨a0, a1⟩ := bounds_u32 ha
  obtain ⟨m0, m1⟩ := bounds_u16 hm
  obtain ⟨b0, b1⟩ := bounds_u32 hb
  obtain ⟨n0, n1⟩ := bounds_u16 hn
  obtain ⟨c0, c1⟩ := bounds_u8 hc
  obtain ⟨a, rfl⟩ := Int.eq_ofNat_of_zero_le a0
  obtain ⟨m, rfl⟩ := Int.eq_ofNat_of_zero_le m0
  obtain ⟨b, rfl⟩ := Int.eq_ofNat_of_zero_le b0
  obtain ⟨n, rfl⟩ := Int.eq_ofNat_of_zero_le n0
  obtain ⟨c, rfl⟩ := Int.eq_ofNat_of_zero_le c0
  exact walkN a m b n c w ht (by omega) (by omega) (by omega) (by omega) (by omega)
end Go.Proofs.YtaaobacmlaaajaaDoor.AddrsBack
