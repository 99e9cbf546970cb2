/- The walk of IpSame. -/
import Derived.Test.YtfiokjenfmpmlaaIpM
import Derived.Test.YtfiokjenfmpmlaaIpF
namespace Go.Proofs.Ytfiokjenfmpmlaa.IpSame
set_option linter.unusedVariables false
set_option linter.unusedSimpArgs false
open Go.ChangeShapes Go.WideShapes Go.ChangeAt Go.RowKit Go.PlainAid
theorem g32_bd (s : ByteArray) (k : Nat) : 0 ≤ g32 s k ∧ g32 s k ≤ 4294967295 := by
  rw [g32_two]
  have := g16_nonneg s k; have := g16_nonneg s (k + 2); have := g16_le s k; have := g16_le s (k + 2)
  omega
/-- Two bytes of a text. -/
theorem two_list (s : ByteArray) (k : Nat) (h : k + 2 ≤ s.size) : ∃ x y : UInt8, (s.extract k (k + 2)).toList = [x, y] ∧ g16 s k = (x.toNat : Int) * 256 + (y.toNat : Int) := by
  have hl : (s.extract k (k + 2)).toList.length = 2 := by rw [Lib.toList_data, len_data, size_extract' s k (k + 2) (by omega) h]; omega
  obtain ⟨l, hl2⟩ : ∃ l, l = (s.extract k (k + 2)).toList := ⟨_, rfl⟩
  rw [← hl2] at hl ⊢
  match l, hl with
  | [x, y], _ =>
    refine ⟨x, y, rfl, ?_⟩
    have b0 := bt_ext s k (k + 2) 0 (by omega) h
    have b1 := bt_ext s k (k + 2) 1 (by omega) h
    rw [Lib.toList_data] at hl2
    rw [bt_eq, ← hl2] at b0 b1
    unfold g16
    rw [Nat.add_zero] at b0
    rw [← b0, ← b1]
    rfl
theorem two_is (s : ByteArray) (k : Nat) (h : k + 2 ≤ s.size) (c : UInt8) : ((s.extract k (k + 2)).toList == [c, c]) = decide (g16 s k = (c.toNat : Int) * 257) := by
  obtain ⟨x, y, e1, e2⟩ := two_list s k h
  rw [e1, e2]
  have hx := x.toNat_lt; have hy := y.toNat_lt; have hc := c.toNat_lt
  by_cases hh : x = c ∧ y = c
  · obtain ⟨rfl, rfl⟩ := hh
    simp; omega
  · have : ¬ ((x.toNat : Int) * 256 + (y.toNat : Int) = (c.toNat : Int) * 257) := by
      intro h2
      refine hh ⟨UInt8.toNat_inj.1 (by omega), UInt8.toNat_inj.1 (by omega)⟩
    simp only [this, decide_false]
    simp only [List.cons_beq_cons, Bool.and_true, Bool.and_eq_false_iff, beq_eq_false_iff_ne, List.beq_nil_eq]
    by_cases h3 : x = c
    · right; simp; exact fun h4 => hh ⟨h3, h4⟩
    · left; exact h3
set_option maxRecDepth 100000 in
set_option maxHeartbeats 4000000 in
theorem walk (s : ByteArray) (w : World) (hs : s.size ≤ maxLen) :
    Calls Try.prog 6 #[.string s] w fun e w' => e = .returned (.bool true) ∧ Below w.heap.size w w' := by
  by_cases h : 2500 < s.size
  · have e1 : decide ((2500 : Int) < (s.size : Int)) = true := by simp; omega
    clear h
    go_enter Try.func6, Try.ntmps6
    go_wp2_with fail
    refine (headed_ _).mono ?_; rintro e w1 ⟨rfl, b1⟩
    go_wp2
    go_ret
    exact ⟨rfl, b1⟩
  have e1 : decide ((2500 : Int) < (s.size : Int)) = false := by simp; omega
  have hs2 : s.size < maxLen := by unfold maxLen; omega
  have c1 := fun u => parse_ s u hs2
  by_cases hr : pR s = 0
  rotate_left
  · obtain ⟨y1, y2, y3, y4⟩ := p_no hr
    rw [y1, y1, y1, y1, y1, y1, y2, y3, y4] at c1
    have e2 : (pR s != 0) = true := by simpa using hr
    generalize pR s = r at *
    clear h hr y1 y2 y3 y4 hs hs2
    go_enter Try.func6, Try.ntmps6
    go_wp2_with fail
    refine (c1 _).mono ?_; rintro e w1 ⟨rfl, b1⟩
    have B1 := b1.alloc b1.size (.cells #[.int .u8 0, .int .u16 0, .bool false, .int .u8 0, .int .u8 0, .int .u32 0, .int .u32 0, .string ⟨#[]⟩] 27)
    clear b1 c1
    go_wp2_with fail
    refine (headed_ _).mono ?_; rintro e w2 ⟨rfl, b2⟩
    have B2 := B1.trans (b2.mono B1.size)
    clear B1 b2
    go_wp2
    go_ret
    exact ⟨rfl, B2⟩
  obtain ⟨f20, g20, f60, fs, fm, fms, f2048, ff⟩ := pR_facts hr
  obtain ⟨y1, y2, y3, y4⟩ := p_yes hr
  obtain ⟨m, hm⟩ : ∃ m : Nat, g16 s 2 = (m : Int) := ⟨(g16 s 2).toNat, by have := g16_nonneg s 2; omega⟩
  have PP := put_parsed s m hr hm
  rw [y1, y1, y1, y1, y1, y1, y2, y3, y4, hr, hm, Int.toNat_natCast] at c1
  obtain ⟨n, hn⟩ : ∃ n, n = ownN s := ⟨_, rfl⟩
  rw [← hn] at c1 g20 f60 fs fm
  rw [hm] at fm fms f2048
  simp only [← hn] at PP
  obtain ⟨q1, q2, q3, q4, q5, q6, q7⟩ := PP
  have zo := size_extract' s 20 n (by omega) (by omega)
  have zp := size_extract' s n m (by omega) (by omega)
  have c2 := fun u => put_ (bt s 1) (g16 s 4) (decide (0 < g16 s 6)) (bt s 8) (bt s 9) (g32 s 12) (g32 s 16) (s.extract 20 n) (s.extract n m) u (bt_nonneg s 1) (bt_le s 1) (g16_nonneg s 4) (g16_le s 4) (bt_nonneg s 8) (bt_le s 8) (bt_nonneg s 9) (bt_le s 9)
    (g32_bd s 12).1 (g32_bd s 12).2 (g32_bd s 16).1 (g32_bd s 16).2 (by omega) (by omega)
  rw [q4] at c2
  have hB : putB (bt s 1) (g16 s 4) (decide (0 < g16 s 6)) (bt s 8) (bt s 9) (g32 s 12) (g32 s 16) (s.extract 20 n) (s.extract n m) = hdrS (bt s 1) (g16 s 4) (decide (0 < g16 s 6)) (bt s 8) (bt s 9) (g32 s 12) (g32 s 16) (s.extract 20 n) (20 + ((s.extract 20 n).size : Int) + ((s.extract n m).size : Int)) ++ s.extract n m := by unfold putB; rw [if_pos q4]
  rw [hB] at c2
  clear hB
  obtain ⟨t, ht⟩ : ∃ t, t = hdrS (bt s 1) (g16 s 4) (decide (0 < g16 s 6)) (bt s 8) (bt s 9) (g32 s 12) (g32 s 16) (s.extract 20 n) (20 + ((s.extract 20 n).size : Int) + ((s.extract n m).size : Int)) ++ s.extract n m := ⟨_, rfl⟩
  rw [← ht] at c2 q5 q6 q7
  have k1 := two_is s 10 (by omega) 255
  have k2 := two_is t 10 (by omega) 0
  rw [show ((255 : UInt8).toNat : Int) * 257 = 65535 by rfl] at k1
  rw [show ((0 : UInt8).toNat : Int) * 257 = 0 by rfl] at k2
  clear ht y1 y2 y3 y4 hr zo zp q4 ff hn hm
  generalize decide (0 < g16 s 6) = fl at *
  generalize bt s 1 = v1 at *
  generalize g16 s 4 = v2 at *
  generalize bt s 8 = v3 at *
  generalize bt s 9 = v4 at *
  generalize g32 s 12 = v5 at *
  generalize g32 s 16 = v6 at *
  obtain ⟨x, hx⟩ : ∃ x, x = s.extract 20 n := ⟨_, rfl⟩
  obtain ⟨p, hp⟩ : ∃ x, x = s.extract n m := ⟨_, rfl⟩
  rw [← hx, ← hp] at c1 c2
  clear hx hp
  have d1 : decide (s.size < m) = false := by simp; omega
  have d2 : decide ((m : Int) < 20) = false := by simp; omega
  have d3 : (m : Int) ≤ (s.size : Int) := by omega
  have d4 : (12 : Int) ≤ (m : Int) := by omega
  have d5 : (10 : Int) ≤ (m : Int) := by omega
  have d6 : (12 : Int) ≤ (s.size : Int) := by omega
  have d7 : (10 : Int) ≤ (s.size : Int) := by omega
  clear q1 q2 q3 f20 g20 f60 fs fm fms f2048 h hs hs2 n
  by_cases hg : g16 s 10 = 65535
  · obtain ⟨r1, r2, r3⟩ := q7 hg
    have e2 : ((s.extract 10 12).toList == [255, 255]) = true := by rw [k1]; simp [hg]
    have e3 : ((t.extract 10 12).toList == [0, 0]) = true := by rw [k2]; simp [r1]
    clear k1 k2 q6 q7 hg r1
    go_enter Try.func6, Try.ntmps6
    go_wp2_with fail
    refine (c1 _).mono ?_; rintro e w1 ⟨rfl, b1⟩
    have A1 := Box8.make w1 (.int .u8 v1) (.int .u16 v2) (.bool fl) (.int .u8 v3) (.int .u8 v4) (.int .u32 v5) (.int .u32 v6) (.string x) 27
    have B1 := b1.alloc b1.size (.cells #[.int .u8 v1, .int .u16 v2, .bool fl, .int .u8 v3, .int .u8 v4, .int .u32 v5, .int .u32 v6, .string x] 27)
    clear b1 c1
    go_wp2_with fail
    refine (c2 _).mono ?_; rintro e w2 ⟨rfl, b2⟩
    have B2 := B1.trans (b2.mono B1.size)
    clear A1 B1 b2 c2
    go_wp2_with fail
    refine region_later (B := w2.heap.size) (by kernel_rfl) (by kernel_rfl) ?_
    repeat (go_big_quiet_step (first
      | (go_at_call 8; exact later_of _ (Nat.le_refl _) (headed_ _))))
    refine later_end fun w3 b3 => ?_
    have B3 := B2.trans (b3.mono B2.size)
    clear B2 b3
    go_wp2
    go_ret
    exact ⟨rfl, B3⟩
  · have e4 := (q6 hg).symm
    have e2 : ((s.extract 10 12).toList == [255, 255]) = false := by rw [k1]; simp [hg]
    clear k1 k2 q6 q7 hg
    go_enter Try.func6, Try.ntmps6
    go_wp2_with fail
    refine (c1 _).mono ?_; rintro e w1 ⟨rfl, b1⟩
    have A1 := Box8.make w1 (.int .u8 v1) (.int .u16 v2) (.bool fl) (.int .u8 v3) (.int .u8 v4) (.int .u32 v5) (.int .u32 v6) (.string x) 27
    have B1 := b1.alloc b1.size (.cells #[.int .u8 v1, .int .u16 v2, .bool fl, .int .u8 v3, .int .u8 v4, .int .u32 v5, .int .u32 v6, .string x] 27)
    clear b1 c1
    go_wp2_with fail
    refine (c2 _).mono ?_; rintro e w2 ⟨rfl, b2⟩
    have B2 := B1.trans (b2.mono B1.size)
    clear A1 B1 b2 c2
    go_wp2_with fail
    refine (headed_ _).mono ?_; rintro e w3 ⟨rfl, b3⟩
    have B3 := B2.trans (b3.mono B2.size)
    clear B2 b3
    go_wp2
    go_ret
    exact ⟨rfl, B3⟩
end Go.Proofs.Ytfiokjenfmpmlaa.IpSame
