/- Plain: messages, put and parsed, parsed and put; IDs (layer 7). -/
import Derived.Test.YtlcgpjeggelbaaaIcmpP
namespace Go.Proofs.Ytlcgpjeggelbaaa
set_option linter.unusedVariables false
set_option linter.unusedSimpArgs false
open Go.ChangeShapes Go.WideShapes Go.ChangeAt Go.RowKit Go.PlainAid
theorem icB_parts (ty co su : Int) (r d : ByteArray) (t0 : 0 ≤ ty) (t1 : ty ≤ 255) (c0 : 0 ≤ co) (c1 : co ≤ 255) (s0 : 0 ≤ su) (s1 : su ≤ 65535) (hr : r.size = 4) :
    (icB ty co su r d).size = 8 + d.size ∧ bt (icB ty co su r d) 0 = ty ∧ bt (icB ty co su r d) 1 = co ∧ g16 (icB ty co su r d) 2 = su ∧ (icB ty co su r d).extract 4 8 = r ∧ (icB ty co su r d).extract 8 (icB ty co su r d).size = d := by
  have hw : ∀ n ∈ [256 * ty + co, su], 0 ≤ n ∧ n ≤ 65535 := by intro n hn; simp at hn; omega
  have g0 := g16_W _ hw 0
  have g1 := g16_W _ hw 1
  rw [show ([256 * ty + co, su] : List Int).getD 0 0 = 256 * ty + co from rfl, Nat.mul_zero] at g0
  rw [show ([256 * ty + co, su] : List Int).getD 1 0 = su from rfl, Nat.mul_one] at g1
  have zH : (strOfNums (wordL [256 * ty + co, su])).size = 4 := by rw [size_W]; rfl
  have e : icB ty co su r d = strOfNums (wordL [256 * ty + co, su]) ++ (r ++ d) := by unfold icB; rw [ByteArray.append_assoc]
  have e2 : icB ty co su r d = strOfNums (wordL [256 * ty + co, su]) ++ r ++ d := rfl
  have k0 : g16 (icB ty co su r d) 0 = 256 * ty + co := by rw [e, g16_app_l _ _ _ (by rw [zH]; omega), g0]
  have k1 : g16 (icB ty co su r d) 2 = su := by rw [e, g16_app_l _ _ _ (by rw [zH]; omega), g1]
  have zz : (icB ty co su r d).size = 8 + d.size := by rw [e2, ByteArray.size_append, ByteArray.size_append, zH, hr]
  refine ⟨zz, ?_, ?_, k1, ?_, ?_⟩
  · rw [bt_hi, k0]; omega
  · have := bt_lo (icB ty co su r d) 0
    rw [Nat.zero_add] at this
    rw [this, k0]; omega
  · have := ext_app_r (strOfNums (wordL [256 * ty + co, su])) (r ++ d) 0 r.size
    rw [zH, Nat.add_zero, hr, ← e] at this
    rw [show 4 + 4 = 8 from rfl] at this
    rw [this, ← hr, ext_app_l]
  · have := ext_app_r (strOfNums (wordL [256 * ty + co, su]) ++ r) d 0 d.size
    rw [ByteArray.size_append, zH, hr, Nat.add_zero, ← e2, ext_all] at this
    rw [zz]; exact this
theorem icB_of (s : ByteArray) (h : 8 ≤ s.size) : icB (bt s 0) (bt s 1) (g16 s 2) (s.extract 4 8) (s.extract 8 s.size) = s := by
  have e0 : 256 * bt s 0 + bt s 1 = g16 s 0 := by show _ = bt s 0 * 256 + bt s 1; omega
  unfold icB
  rw [e0]
  have a0 := g16_nonneg s 0; have a1 := g16_le s 0; have b0 := g16_nonneg s 2; have b1 := g16_le s 2
  have hw : ∀ n ∈ [g16 s 0, g16 s 2], 0 ≤ n ∧ n ≤ 65535 := by intro n hn; simp at hn; omega
  have e1 : strOfNums (wordL [g16 s 0, g16 s 2]) = s.extract 0 4 := by
    refine ba_g16 2 (by rw [size_W]; rfl) (by rw [size_extract' s 0 4 (by omega) (by omega)]) fun i hi => ?_
    rw [g16_W _ hw, g16_ext0 s 4 (2 * i) (by omega) (by omega)]
    match i, hi with
    | 0, _ => rfl
    | 1, _ => rfl
  rw [e1, ext_join s 0 4 8 (by omega) (by omega), ext_join s 0 8 s.size (by omega) h, ext_all]
theorem icP_yes (ty co su : Int) (r d : ByteArray) (h : r.size = 4) : icP ty co su r d = icB ty co su r d := by unfold icP; rw [if_pos h]
theorem icP_no (ty co su : Int) (r d : ByteArray) (h : ¬ r.size = 4) : icP ty co su r d = ⟨#[]⟩ := by unfold icP; rw [if_neg h]
theorem wiM_id (r : ByteArray) (k : Int) (h : 2 ≤ r.size) (k0 : 0 ≤ k) (k1 : k ≤ 65535) : idM (wiM r k) = k := by
  have hw : ∀ n ∈ [k], 0 ≤ n ∧ n ≤ 65535 := by intro n hn; simp at hn; omega
  have g := g16_W _ hw 0
  rw [Nat.mul_zero] at g
  unfold idM
  rw [wiM_size, if_pos h]
  unfold wiM
  rw [if_pos h, g16_app_l _ _ _ (by rw [size_W]; show 0 + 1 < 2 * 1; omega), g]
  rfl
theorem wiM_tail (r : ByteArray) (k : Int) (h : 2 ≤ r.size) : (wiM r k).extract 2 r.size = r.extract 2 r.size := by
  have zW : (strOfNums (wordL [k])).size = 2 := by rw [size_W]; rfl
  have z := wiM_size r k
  have zt := size_extract' r 2 r.size h (Nat.le_refl _)
  have := ext_app_r (strOfNums (wordL [k])) (r.extract 2 r.size) 0 (r.extract 2 r.size).size
  rw [zW, ext_all, show strOfNums (wordL [k]) ++ r.extract 2 r.size = wiM r k by unfold wiM; rw [if_pos h], zt, show 2 + (r.size - 2) = r.size by omega] at this
  exact this
theorem wiM_back (r : ByteArray) (k : Int) (h : 2 ≤ r.size) : wiM (wiM r k) (idM r) = r := by
  have t := wiM_tail r k h
  have z := wiM_size r k
  have hI : idM r = g16 r 0 := by unfold idM; rw [if_pos h]
  have hW := word_of r 0 (by omega)
  rw [Nat.zero_add] at hW
  rw [show wiM (wiM r k) (idM r) = strOfNums (wordL [idM r]) ++ (wiM r k).extract 2 (wiM r k).size by
    rw [show wiM (wiM r k) (idM r) = if 2 ≤ (wiM r k).size then strOfNums (wordL [idM r]) ++ (wiM r k).extract 2 (wiM r k).size else wiM r k from rfl, if_pos (by omega)]]
  rw [z, t, hI, ← hW, ext_join r 0 2 r.size (by omega) h, ext_all]
theorem qIs_er (ty co : Int) (h : qIs ty co = true) : erM ty = false := by
  unfold qIs at h
  unfold erM
  simp only [Bool.and_eq_true, Bool.or_eq_true, decide_eq_true_eq] at h
  simp only [Bool.or_eq_false_iff, decide_eq_false_iff_not]
  omega
end Go.Proofs.Ytlcgpjeggelbaaa
