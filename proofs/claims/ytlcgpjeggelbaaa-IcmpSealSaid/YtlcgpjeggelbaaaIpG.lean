/- Plain facts: a header of which one byte is another does not hold (layer 4). -/
import Derived.Test.YtlcgpjeggelbaaaIpF
namespace Go.Proofs.Ytlcgpjeggelbaaa
set_option linter.unusedVariables false
set_option linter.unusedSimpArgs false
open Go.ChangeShapes Go.WideShapes Go.ChangeAt Go.RowKit Go.PlainAid
theorem tot_one (s t : ByteArray) (j : Nat) (h : ∀ i, ¬ i = j → bt t i = bt s i) : ∀ k, tot t k = tot s k + (if j < 2 * k then (if j % 2 = 0 then 256 * (bt t j - bt s j) else bt t j - bt s j) else 0)
  | 0 => by simp [tot]
  | k + 1 => by
    show tot t k + g16 t (2 * k) = tot s k + g16 s (2 * k) + _
    rw [tot_one s t j h k]
    unfold g16
    by_cases c0 : j = 2 * k
    · subst c0
      rw [h (2 * k + 1) (by omega), if_neg (by omega), if_pos (by omega), if_pos (by omega)]; omega
    by_cases c1 : j = 2 * k + 1
    · subst c1
      rw [h (2 * k) (by omega), if_neg (by omega), if_pos (by omega), if_neg (by omega)]; omega
    rw [h (2 * k) (by omega), h (2 * k + 1) (by omega)]
    by_cases c2 : j < 2 * k
    · rw [if_pos c2, if_pos (by omega : j < 2 * (k + 1))]; omega
    · rw [if_neg c2, if_neg (by omega)]; omega
theorem holds_spoilt (s t : ByteArray) (n j : Nat) (hz : t.size = s.size) (hn : n ≤ s.size) (h2 : n % 2 = 0) (hj : j < n) (h : ∀ i, ¬ i = j → bt t i = bt s i) (hd : ¬ bt t j = bt s j)
    (hh : holdsV [s.extract 0 n] = true) : holdsV [t.extract 0 n] = false := by
  have zs := size_extract' s 0 n (Nat.zero_le _) hn
  have zt := size_extract' t 0 n (Nat.zero_le _) (by omega)
  have same : ∀ i, ¬ i = j → bt (t.extract 0 n) i = bt (s.extract 0 n) i := by
    intro i hi
    by_cases c : i < n
    · rw [bt_ext0 t n i c (by omega), bt_ext0 s n i c hn, h i hi]
    · rw [bt_eq, bt_eq, getD_ge _ _ _ (by rw [len_data]; omega), getD_ge _ _ _ (by rw [len_data]; omega)]
  have k := tot_one (s.extract 0 n) (t.extract 0 n) j same (n / 2)
  rw [if_pos (by omega), bt_ext0 t n j hj (by omega), bt_ext0 s n j hj hn] at k
  have p := tot_nonneg (s.extract 0 n) (n / 2)
  have q := tot_nonneg (t.extract 0 n) (n / 2)
  have b0 := bt_nonneg s j; have b1 := bt_le s j; have b2 := bt_nonneg t j; have b3 := bt_le t j
  unfold holdsV at hh ⊢
  rw [decide_eq_true_iff, sumV_cl, totTs1] at hh
  rw [decide_eq_false_iff_not, sumV_cl, totTs1]
  unfold totT half at *
  rw [show ((s.extract 0 n).size + 1) / 2 = n / 2 by omega] at hh
  rw [show ((t.extract 0 n).size + 1) / 2 = n / 2 by omega, k]
  rw [k] at q
  generalize tot (s.extract 0 n) (n / 2) = T at *
  generalize bt s j = x at *
  generalize bt t j = y at *
  unfold cl at *
  split at q <;> split at hh <;> split <;> first | omega | (simp_all; done) | (simp_all; omega)
theorem pR_zero {s : ByteArray} (h : pR s = 0) : 20 ≤ ownN s ∧ ownN s ≤ s.size ∧ holdsV [s.extract 0 (ownN s)] = true := by
  unfold pR at h
  by_cases h1 : s.size < 20
  · rw [if_pos h1] at h; omega
  rw [if_neg h1] at h
  by_cases h2 : bt s 0 / 16 = 4
  rotate_left
  · rw [if_pos h2] at h; omega
  rw [if_neg (not_not_intro h2)] at h
  by_cases h3 : ownN s < 20 ∨ s.size < ownN s ∨ g16 s 2 < (ownN s : Int) ∨ (s.size : Int) < g16 s 2 ∨ 2048 < g16 s 2
  · rw [if_pos h3] at h; omega
  rw [if_neg h3] at h
  by_cases hh : holdsV [s.extract 0 (ownN s)] = false
  · rw [if_pos hh] at h; omega
  exact ⟨by omega, by omega, by simpa using hh⟩
/-- What was taken is not taken when one of its header's bytes is another, if it says the same of the header's size. -/
theorem spoilt_no (s t : ByteArray) (j : Nat) (hz : t.size = s.size) (hj : j < ownN s) (h : ∀ i, ¬ i = j → bt t i = bt s i) (hd : ¬ bt t j = bt s j) (ho : ownN t = ownN s) (hs : pR s = 0) : ¬ pR t = 0 := by
  intro ht
  obtain ⟨s0, s1, s2⟩ := pR_zero hs
  obtain ⟨t0, t1, t2⟩ := pR_zero ht
  rw [ho] at t2
  have := holds_spoilt s t (ownN s) j hz s1 (by unfold ownN; omega) hj h hd s2
  rw [t2] at this
  exact absurd this (by decide)
end Go.Proofs.Ytlcgpjeggelbaaa
