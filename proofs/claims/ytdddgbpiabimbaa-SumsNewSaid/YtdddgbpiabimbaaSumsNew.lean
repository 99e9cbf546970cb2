/- The walk of SumsNew. -/
import Derived.Test.YtdddgbpiabimbaaSumsLaid
import Derived.Test.YtdddgbpiabimbaaSumsQ
namespace Go.Proofs.Ytdddgbpiabimbaa.SumsNew
open Go.ChangeShapes Go.WideShapes Go.ChangeAt Go.RowKit Go.PlainAid
set_option maxRecDepth 100000 in
set_option maxHeartbeats 1000000 in
theorem first (a : Option Addr) (len cap : Nat) (a' : Option Addr) (len' cap' : Nat) (n : Int) (w : World) (hl : len ≤ maxLen) (h : 100 < len ∨ len < len') :
    Calls Try.prog 10 #[.slice a len cap, .slice a' len' cap', .int .u8 n] w fun e w' => e = .returned (.bool true) ∧ Below w.heap.size w w' := by
  unfold maxLen at hl
  by_cases h1 : 100 < len
  · have e1 : decide ((100 : Int) < len) = true := by simp; omega
    go_enter Try.func10, Try.ntmps10
    go_wp2_with fail
    refine (summed_ _).mono ?_; rintro e w1 ⟨rfl, b1⟩
    go_wp2
    go_ret
    exact ⟨rfl, b1⟩
  · have e1 : decide ((100 : Int) < len) = false := by simp; omega
    have e2 : decide (len < len') = true := by simp; omega
    go_enter Try.func10, Try.ntmps10
    go_wp2_with fail
    refine (summed_ _).mono ?_; rintro e w1 ⟨rfl, b1⟩
    go_wp2
    go_ret
    exact ⟨rfl, b1⟩
set_option maxRecDepth 100000 in
set_option maxHeartbeats 1000000 in
theorem walk (a : Option Addr) (len cap : Nat) (zs : List Int) (a' : Option Addr) (len' cap' : Nat) (zs' : List Int) (n : Int) (w : World) (hr : IsRow .u16 w a len cap zs) (hr' : IsRow .u16 w a' len' cap' zs') (hn : (Lit.int .u8 n).wf = true) :
    Calls Try.prog 10 #[.slice a len cap, .slice a' len' cap', .int .u8 n] w fun e w' => e = .returned (.bool true) ∧ Below w.heap.size w w' := by
  obtain ⟨n0, n1⟩ := bounds_u8 hn
  by_cases hf : 100 < len ∨ len < len'
  · exact first a len cap a' len' cap' n w hr.len_le hf
  have e1 : decide ((100 : Int) < len) = false := by simp; omega
  have e2 : decide (len < len') = false := by simp; omega
  have ROW := Lib.hid hr.row
  have WF := Lib.hid (fun x hx => bounds_u16 (hr.wf x hx))
  have ROW' := Lib.hid hr'.row
  have WF' := Lib.hid (fun x hx => bounds_u16 (hr'.wf x hx))
  clear hr hr' hn
  have hlen : len ≤ 100 := by omega
  have hlen' : len' ≤ len := by omega
  obtain ⟨ys, hys⟩ : ∃ ys, ys = zs.take len := ⟨_, rfl⟩
  obtain ⟨ys', hys'⟩ : ∃ ys, ys = zs'.take len' := ⟨_, rfl⟩
  rw [← hys] at ROW WF
  rw [← hys'] at ROW' WF'
  clear hys hys'
  have hk0 : 0 ≤ n % ((len : Int) - len' + 1) := Int.emod_nonneg _ (by omega)
  have hk1 : n % ((len : Int) - len' + 1) < (len : Int) - len' + 1 := Int.emod_lt_of_pos _ (by omega)
  obtain ⟨k, hk⟩ := Int.eq_ofNat_of_zero_le hk0
  have hkl : k + len' ≤ len := by omega
  have j9 : (((len : Int) - len' + 1) == 0) = false := by simp; omega
  have hk9 : (k : Int) ≤ 100 := by omega
  have S1 := Lib.hid (size_W ys)
  have S2 := Lib.hid (size_W ys')
  have L1 := Lib.hid ROW.out.1
  have L2 := Lib.hid ROW'.out.1
  have hin : 2 * k + (strOfNums (wordL ys')).size ≤ (strOfNums (wordL ys)).size := by rw [S1.out, S2.out, L1.out, L2.out]; omega
  have hs1 : (strOfNums (wordL ys)).size = 2 * len := by rw [S1.out, L1.out]
  have hs2 : (strOfNums (wordL ys')).size = 2 * len' := by rw [S2.out, L2.out]
  have hs3 := size_withB _ _ _ hin
  obtain ⟨t, ht⟩ : ∃ t, t = withB (strOfNums (wordL ys)) (2 * k) (strOfNums (wordL ys')) := ⟨_, rfl⟩
  obtain ⟨s, hs⟩ : ∃ s, s = strOfNums (wordL ys) := ⟨_, rfl⟩
  obtain ⟨p, hp⟩ : ∃ p, p = strOfNums (wordL ys') := ⟨_, rfl⟩
  rw [← hs, ← hp] at ht hin hs3
  rw [← hs] at hs1
  rw [← hp] at hs2
  rw [← ht] at hs3
  have IN := Lib.hid hin
  have HS := Lib.hid hs
  have HP := Lib.hid hp
  have HT := Lib.hid ht
  have hts : t.size = 2 * len := by omega
  have TS := Lib.hid hts
  have SS := Lib.hid hs1
  have PS := Lib.hid hs2
  have e4 : (t.size : Int) = 2 * (len : Int) := by omega
  have UN := upd_new s t (by omega) (by omega)
  obtain ⟨x0, x1⟩ := sumV_bd [s]
  obtain ⟨y0, y1⟩ := updV_bd s t x0 x1
  obtain ⟨z0, z1⟩ := sumV_bd [t]
  clear hk0 hk1 hf hkl hin hs hp ht hs1 hs2 hs3 hts S1 S2 L1 L2
  by_cases hab : updV (sumV [s]) s t = sumV [t]
  all_goals
    obtain ⟨ua, hua⟩ : ∃ ua, ua = updV (sumV [s]) s t := ⟨_, rfl⟩
    obtain ⟨ub, hub⟩ : ∃ ub, ub = sumV [t] := ⟨_, rfl⟩
    rw [← hua] at hab UN y0 y1
    rw [← hub] at hab UN z0 z1
    have UA := Lib.hid hua
    have UB := Lib.hid hub
    clear hua hub
    have g1 : (ua == ub) = decide (ua = ub) := by by_cases h : ua = ub <;> simp [h]
  · subst hab
    clear g1 UN
    go_enter Try.func10, Try.ntmps10
    go_wp2_with fail
    refine (word_any _ _ _ _ _ ROW.out (by omega) WF.out).mono ?_; rintro e w1 ⟨rfl, B1⟩
    rw [← HS.out]
    go_wp2_with fail
    refine (word_any _ _ _ _ _ (ROW'.out.kept B1) (by omega) WF'.out).mono ?_; rintro e w2 ⟨rfl, b2⟩
    rw [← HP.out]
    have B2 := B1.trans (b2.mono B1.size)
    clear B1 b2
    go_wp2_with fail
    refine (with_yes _ _ (2 * k) _ (by rw [SS.out]; unfold maxLen; omega) (by rw [PS.out]; unfold maxLen; omega) IN.out).mono ?_; rintro e w3 ⟨rfl, b3⟩
    rw [← HT.out]
    have B3 := B2.trans (b3.mono B2.size)
    clear B2 b3
    go_wp2_with fail
    refine (sum_ _ 1 1 [s] _ (rowS1 (by simp) (by simp) (by rw [SS.out]; unfold maxLen; omega))).mono ?_; rintro e w4 ⟨rfl, b4⟩
    have B4 : Below w.heap.size w w4 := (B3.alloc B3.size _).trans (b4.mono (by simp; have := B3.size; omega))
    clear B3 b4
    go_wp2_with fail
    refine (updates_ _ s t _ x0 x1 (by rw [SS.out]; unfold maxLen; omega) (by rw [TS.out]; unfold maxLen; omega)).mono ?_; rintro e w5 ⟨rfl, b5⟩
    rw [← UA.out]
    have B5 := B4.trans (b5.mono B4.size)
    clear B4 b5
    go_wp2_with fail
    refine (sum_ _ 1 1 [t] _ (rowS1 (by simp) (by simp) (by rw [TS.out]; unfold maxLen; omega))).mono ?_; rintro e w6 ⟨rfl, b6⟩
    rw [← UB.out]
    have B6 : Below w.heap.size w w6 := (B5.alloc B5.size _).trans (b6.mono (by simp; have := B5.size; omega))
    clear B5 b6
    go_wp2_with fail
    refine (summed_ _).mono ?_; rintro e w7 ⟨rfl, b7⟩
    have B7 := B6.trans (b7.mono B6.size)
    clear B6 b7
    go_wp2
    go_ret
    exact ⟨rfl, B7⟩
  · have g2 : ua % 65535 = 0 := by omega
    have g3 : ub % 65535 = 0 := by omega
    have g4 : (ua == ub) = false := by simp [hab]
    clear g1 UN hab
    go_enter Try.func10, Try.ntmps10
    go_wp2_with fail
    refine (word_any _ _ _ _ _ ROW.out (by omega) WF.out).mono ?_; rintro e w1 ⟨rfl, B1⟩
    rw [← HS.out]
    go_wp2_with fail
    refine (word_any _ _ _ _ _ (ROW'.out.kept B1) (by omega) WF'.out).mono ?_; rintro e w2 ⟨rfl, b2⟩
    rw [← HP.out]
    have B2 := B1.trans (b2.mono B1.size)
    clear B1 b2
    go_wp2_with fail
    refine (with_yes _ _ (2 * k) _ (by rw [SS.out]; unfold maxLen; omega) (by rw [PS.out]; unfold maxLen; omega) IN.out).mono ?_; rintro e w3 ⟨rfl, b3⟩
    rw [← HT.out]
    have B3 := B2.trans (b3.mono B2.size)
    clear B2 b3
    go_wp2_with fail
    refine (sum_ _ 1 1 [s] _ (rowS1 (by simp) (by simp) (by rw [SS.out]; unfold maxLen; omega))).mono ?_; rintro e w4 ⟨rfl, b4⟩
    have B4 : Below w.heap.size w w4 := (B3.alloc B3.size _).trans (b4.mono (by simp; have := B3.size; omega))
    clear B3 b4
    go_wp2_with fail
    refine (updates_ _ s t _ x0 x1 (by rw [SS.out]; unfold maxLen; omega) (by rw [TS.out]; unfold maxLen; omega)).mono ?_; rintro e w5 ⟨rfl, b5⟩
    rw [← UA.out]
    have B5 := B4.trans (b5.mono B4.size)
    clear B4 b5
    go_wp2_with fail
    refine (sum_ _ 1 1 [t] _ (rowS1 (by simp) (by simp) (by rw [TS.out]; unfold maxLen; omega))).mono ?_; rintro e w6 ⟨rfl, b6⟩
    rw [← UB.out]
    have B6 : Below w.heap.size w w6 := (B5.alloc B5.size _).trans (b6.mono (by simp; have := B5.size; omega))
    clear B5 b6
    go_wp2_with fail
    refine (summed_ _).mono ?_; rintro e w7 ⟨rfl, b7⟩
    have B7 := B6.trans (b7.mono B6.size)
    clear B6 b7
    go_wp2
    go_ret
    exact ⟨rfl, B7⟩
end Go.Proofs.Ytdddgbpiabimbaa.SumsNew
