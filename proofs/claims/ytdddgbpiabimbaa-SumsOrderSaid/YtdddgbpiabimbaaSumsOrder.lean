/- The walk of SumsOrder. -/
import Derived.Test.YtdddgbpiabimbaaSumsTurned
import Derived.Test.YtdddgbpiabimbaaSumsR
import Derived.Test.YtdddgbpiabimbaaRegion
import Derived.Test.YtdddgbpiabimbaaCut
import Derived.Deep.RegionWith
namespace Go.Proofs.Ytdddgbpiabimbaa.SumsOrder
open Go.ChangeShapes Go.WideShapes Go.ChangeAt Go.RowKit Go.PlainAid
set_option maxRecDepth 100000 in
set_option maxHeartbeats 1000000 in
theorem walk (a : Option Addr) (len cap : Nat) (zs : List Int) (n : Int) (w : World) (hr : IsRow .u16 w a len cap zs) (hn : (Lit.int .u8 n).wf = true) :
    Calls Try.prog 9 #[.slice a len cap, .int .u8 n] w fun e w' => e = .returned (.bool true) ∧ Below w.heap.size w w' := by
  obtain ⟨n0, n1⟩ := bounds_u8 hn
  have hlen := hr.len_le
  have hcap := hr.cap_le
  unfold maxLen at hlen
  have ROW := Lib.hid hr.row
  have WF := Lib.hid (fun x hx => bounds_u16 (hr.wf x hx))
  clear hr hn
  by_cases h1 : 200 < len
  · have e1 : decide ((200 : Int) < len) = true := by simp; omega
    go_enter Try.func9, Try.ntmps9
    go_wp2_with fail
    refine (summed_ _).mono ?_; rintro e w1 ⟨rfl, b1⟩
    go_wp2
    go_ret
    exact ⟨rfl, b1⟩
  have e1 : decide ((200 : Int) < len) = false := by simp; omega
  obtain ⟨ys, hys⟩ : ∃ ys, ys = zs.take len := ⟨_, rfl⟩
  rw [← hys] at ROW WF
  clear hys
  have hk0 : 0 ≤ n % ((len : Int) + 1) := Int.emod_nonneg _ (by omega)
  have hk1 : n % ((len : Int) + 1) < (len : Int) + 1 := Int.emod_lt_of_pos _ (by omega)
  obtain ⟨k, hk⟩ := Int.eq_ofNat_of_zero_le hk0
  have hkl : k ≤ len := by omega
  have j9 : (((len : Int) + 1) == 0) = false := by simp; omega
  obtain ⟨A1, C1, sl1, R1⟩ := cut_h (P := Try.prog) 32 (by kernel_rfl) (fun _ => by kernel_rfl) ROW.out k hkl hcap
  obtain ⟨A2, C2, sl2, R2⟩ := cut_l (P := Try.prog) 32 (by kernel_rfl) (fun _ => by kernel_rfl) ROW.out k hkl hcap
  have hl200 : len ≤ 200 := by omega
  have KL := Lib.hid hkl
  have LEN := Lib.hid ROW.out.1
  have RR1 := Lib.hid R1
  have RR2 := Lib.hid R2
  have S0 := Lib.hid (size_W ys)
  have S1 := Lib.hid (size_W (ys.take k))
  have S2 := Lib.hid (size_W (ys.drop k))
  have L1 := Lib.hid R1.1
  have L2 := Lib.hid R2.1
  have Q1 := Lib.hid (sumV_parts ys WF.out k)
  have Q2 := Lib.hid (sumV_parts' ys WF.out k)
  have Q3 := Lib.hid (sumV_joined ys WF.out k)
  have Q4 := sumV_sw ys WF.out
  have hsw : (ys.map fun z => z % 256 * 256 + z / 256) = ys.map sw := rfl
  have Q5 := wordL_swap ys WF.out
  rw [hsw] at Q5
  rw [← Q5] at Q4
  have Q4 := Lib.hid Q4
  obtain ⟨v0, v1⟩ := sumV_bd [strOfNums (wordL ys)]
  obtain ⟨s, hs⟩ : ∃ s, s = strOfNums (wordL ys) := ⟨_, rfl⟩
  obtain ⟨p, hp⟩ : ∃ s, s = strOfNums (wordL (ys.take k)) := ⟨_, rfl⟩
  obtain ⟨q, hq⟩ : ∃ s, s = strOfNums (wordL (ys.drop k)) := ⟨_, rfl⟩
  rw [← hs] at S0 Q1 Q2 Q3 Q4 v0 v1
  rw [← hp] at S1 Q1 Q2 Q3
  rw [← hq] at S2 Q1 Q2 Q3
  have HS := Lib.hid hs
  have HP := Lib.hid hp
  have HQ := Lib.hid hq
  obtain ⟨v, hv⟩ : ∃ v, v = sumV [s] := ⟨_, rfl⟩
  rw [← hv] at Q1 Q2 Q3 Q4 v0 v1
  have HV := Lib.hid hv
  have hsz : q.size + p.size ≤ 9223372036854775807 := by rw [S1.out, S2.out, L1.out, L2.out]; omega
  have sh1 : IntKind.u16.wrap (v * 256) = v % 256 * 256 := by rw [IntKind.wrap_u16]; omega
  have sh2 := u16_hl (v % 256) (v / 256) (by omega) (by omega) (by omega) (by omega)
  have wt := wf_take WF.out k
  have wd := wf_drop WF.out k
  have WT := Lib.hid wt
  have WD := Lib.hid wd
  clear hk0 hk1 hkl h1 hcap R1 R2 hs hp hq hv hsw Q5 wt wd
  go_enter Try.func9, Try.ntmps9
  go_wp2_with fail
  rw [hk]
  refine region_later (B := w.heap.size) (by kernel_rfl) (by kernel_rfl) ?_
  repeat (go_big_quiet_step (first
    | (go_at_call_of 22 a; exact later_of _ (Nat.le_refl _) (word_any a _ _ _ _ (ROW.out.kept (Later.h _)) (by omega) WF.out))
    | (go_at_call_of 22 A1; exact later_of _ (Nat.le_refl _) (word_any A1 _ _ _ _ (RR1.out.kept (Later.h _)) (by have := KL.out; omega) WT.out))
    | (go_at_call_of 22 A2; exact later_of _ (Nat.le_refl _) (word_any A2 _ _ _ _ (RR2.out.kept (Later.h _)) (by have := KL.out; omega) WD.out))))
  refine later_end fun w2 B2 => ?_
  rw [← HS.out, ← HP.out, ← HQ.out]
  have zs1 : s.size ≤ maxLen := by rw [S0.out, LEN.out]; unfold maxLen; omega
  have zs2 : p.size ≤ maxLen := by rw [S1.out, L1.out]; have := KL.out; unfold maxLen; omega
  have zs3 : q.size ≤ maxLen := by rw [S2.out, L2.out]; unfold maxLen; omega
  have zs4 : (q ++ p).size ≤ maxLen := by rw [ByteArray.size_append, S1.out, S2.out, L1.out, L2.out]; have := KL.out; unfold maxLen; omega
  have ZS := Lib.hid zs1
  have ZP := Lib.hid zs2
  have ZQ := Lib.hid zs3
  have ZQP := Lib.hid zs4
  have SZ := Lib.hid (show s.size = 2 * len by rw [S0.out, LEN.out])
  have ZT : Hid ((turnedB s).size ≤ maxLen) := by
    show _ ≤ _
    unfold turnedB
    rw [strOfNums_size]
    simp
    exact zs1
  clear zs1 zs2 zs3 zs4 sl1 sl2
  go_wp2_with fail
  refine (sum_ _ 1 1 [s] _ (rowS1 (by simp) (by simp) ZS.out)).mono ?_; rintro e w3 ⟨rfl, b3⟩
  have B3 : Below w.heap.size w w3 := (B2.alloc B2.size _).trans (b3.mono (by simp; have := B2.size; omega))
  clear B2 b3
  rw [← HV.out]
  go_wp2_with fail
  refine (sum_ _ 2 2 [p, q] _ (rowS2 (by simp) (by simp) (by simp) ZP.out ZQ.out)).mono ?_; rintro e w4 ⟨rfl, b4⟩
  have B4 : Below w.heap.size w w4 := (B3.alloc B3.size _).trans (b4.mono (by simp; have := B3.size; omega))
  clear B3 b4
  rw [Q1.out]
  go_wp2_with fail
  refine (sum_ _ 2 2 [q, p] _ (rowS2 (by simp) (by simp) (by simp) ZQ.out ZP.out)).mono ?_; rintro e w5 ⟨rfl, b5⟩
  have B5 : Below w.heap.size w w5 := (B4.alloc B4.size _).trans (b5.mono (by simp; have := B4.size; omega))
  clear B4 b5
  rw [Q2.out]
  go_wp2_with fail
  refine (sum_ _ 1 1 [q ++ p] _ (rowS1 (by simp) (by simp) ZQP.out)).mono ?_; rintro e w6 ⟨rfl, b6⟩
  have B6 : Below w.heap.size w w6 := (B5.alloc B5.size _).trans (b6.mono (by simp; have := B5.size; omega))
  clear B5 b6
  rw [Q3.out]
  go_wp2_with fail
  refine (turned_ s len _ SZ.out (by omega)).mono ?_; rintro e w7 ⟨rfl, b7⟩
  have B7 := B6.trans (b7.mono B6.size)
  clear B6 b7
  go_wp2_with fail
  refine (sum_ _ 1 1 [turnedB s] _ (rowS1 (by simp) (by simp) ZT.out)).mono ?_; rintro e w8 ⟨rfl, b8⟩
  have B8 : Below w.heap.size w w8 := (B7.alloc B7.size _).trans (b8.mono (by simp; have := B7.size; omega))
  clear B7 b8
  rw [Q4.out]
  go_wp2_with fail
  refine (summed_ _).mono ?_; rintro e w9 ⟨rfl, b9⟩
  have B9 := B8.trans (b9.mono B8.size)
  clear B8 b9
  go_wp2
  go_ret
  exact ⟨rfl, B9⟩
end Go.Proofs.Ytdddgbpiabimbaa.SumsOrder
