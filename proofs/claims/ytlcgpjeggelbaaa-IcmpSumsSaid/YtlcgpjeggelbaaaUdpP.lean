/- Plain: datagrams (layer 5). -/
import Derived.Test.YtlcgpjeggelbaaaIpG
namespace Go.Proofs.Ytlcgpjeggelbaaa
set_option linter.unusedVariables false
set_option linter.unusedSimpArgs false
open Go.ChangeShapes Go.WideShapes Go.ChangeAt Go.RowKit Go.PlainAid
/-- A text that is a datagram. -/
def uOk (s : ByteArray) : Bool := decide (8 ≤ s.size) && decide (g16 s 4 = (s.size : Int))
def uI (s : ByteArray) (v : Int) : Int := if uOk s then v else 0
def uP (s : ByteArray) : ByteArray := if uOk s then s.extract 8 s.size else ⟨#[]⟩
/-- A datagram's bytes. -/
def udpB (a b c : Int) (p : ByteArray) : ByteArray := strOfNums (wordL [a, b, (8 + (p.size : Int)) % 65536, c]) ++ p
/-- What is summed ahead of a text of so many bytes. -/
def pseuB (a b pr n : Int) : ByteArray := strOfNums (wordL [a / 65536, a % 65536, b / 65536, b % 65536, pr, n % 65536])
def zeroB (s : ByteArray) (k : Nat) : ByteArray := s.extract 0 k ++ strOfNums [0, 0] ++ s.extract (k + 2) s.size
def ckU (a b : Int) (s : ByteArray) : Bool := decide (8 ≤ s.size) && (decide (g16 s 6 = 0) || holdsV [pseuB a b 17 s.size, s])
def slN (a b : Int) (s : ByteArray) : Int := if sumV [pseuB a b 17 s.size, zeroB s 6] = 0 then 65535 else sumV [pseuB a b 17 s.size, zeroB s 6]
def slU (a b : Int) (s : ByteArray) : ByteArray := if s.size < 8 then s else s.extract 0 6 ++ strOfNums (wordL [slN a b s]) ++ s.extract 8 s.size
theorem uOk_yes {s : ByteArray} (h : uOk s = true) : 8 ≤ s.size ∧ g16 s 4 = (s.size : Int) ∧ (∀ v, uI s v = v) ∧ uP s = s.extract 8 s.size := by
  have h' := h
  unfold uOk at h'
  simp only [Bool.and_eq_true, decide_eq_true_eq] at h'
  refine ⟨h'.1, h'.2, fun v => ?_, ?_⟩
  · unfold uI; rw [if_pos h]
  · unfold uP; rw [if_pos h]
theorem uOk_no {s : ByteArray} (h : uOk s = false) : (∀ v, uI s v = 0) ∧ uP s = ⟨#[]⟩ := by
  refine ⟨fun v => ?_, ?_⟩
  · unfold uI; rw [if_neg (by rw [h]; decide)]
  · unfold uP; rw [if_neg (by rw [h]; decide)]
theorem pseuB_size (a b pr n : Int) : (pseuB a b pr n).size = 12 := by unfold pseuB; rw [size_W]; rfl
theorem pseuB_wf {a b pr n : Int} (a0 : 0 ≤ a) (a1 : a ≤ 4294967295) (b0 : 0 ≤ b) (b1 : b ≤ 4294967295) (p0 : 0 ≤ pr) (p1 : pr ≤ 255) (n0 : 0 ≤ n) : ∀ x ∈ [a / 65536, a % 65536, b / 65536, b % 65536, pr, n % 65536], 0 ≤ x ∧ x ≤ 65535 := by
  intro x hx
  simp only [List.mem_cons, List.not_mem_nil, or_false] at hx
  omega
theorem pseuB_tot {a b pr n : Int} (a0 : 0 ≤ a) (a1 : a ≤ 4294967295) (b0 : 0 ≤ b) (b1 : b ≤ 4294967295) (p0 : 0 ≤ pr) (p1 : pr ≤ 255) (n0 : 0 ≤ n) : totT (pseuB a b pr n) = a / 65536 + a % 65536 + b / 65536 + b % 65536 + pr + n % 65536 := by
  unfold pseuB
  rw [totT_W _ (pseuB_wf a0 a1 b0 b1 p0 p1 n0)]
  simp only [List.sum_cons, List.sum_nil]
  omega
theorem totTs3 (a b c : ByteArray) : totTs [a, b, c] = totT a + totT b + totT c := by simp [totTs]; omega
/-- A text in three parts, the middle one a word. -/
theorem tot_mid (x z : ByteArray) (v : Int) (k : Nat) (hx : x.size = 2 * k) (v0 : 0 ≤ v) (v1 : v ≤ 65535) : totT (x ++ strOfNums (wordL [v]) ++ z) = totT x + v + totT z := by
  have h2 : (strOfNums (wordL [v])).size = 2 := by rw [size_W]; rfl
  rw [totT_app _ _ (k + 1) (by rw [ByteArray.size_append, h2]; omega), totT_app _ _ k hx, totT_W _ (by intro n hn; simp at hn; omega)]
  simp
theorem zero_word : strOfNums [0, 0] = strOfNums (wordL [0]) := by rfl
theorem parts3 (s : ByteArray) (k : Nat) (h : k + 2 ≤ s.size) : s.extract 0 k ++ s.extract k (k + 2) ++ s.extract (k + 2) s.size = s := by
  rw [ext_join s 0 k (k + 2) (by omega) (by omega), ext_join s 0 (k + 2) s.size (by omega) h, ext_all]
/-- The sum's total goes along with one word. -/
theorem tot_zeroB (s : ByteArray) (k : Nat) (h : 2 * k + 2 ≤ s.size) : totT (zeroB s (2 * k)) = totT (s.extract 0 (2 * k)) + totT (s.extract (2 * k + 2) s.size) := by
  unfold zeroB
  rw [zero_word, tot_mid _ _ 0 k (size_extract' s 0 (2 * k) (by omega) (by omega)) (by omega) (by omega)]
  omega
theorem word_of (s : ByteArray) (k : Nat) (h : k + 2 ≤ s.size) : s.extract k (k + 2) = strOfNums (wordL [g16 s k]) := by
  have d0 := g16_nonneg s k; have d1 := g16_le s k
  refine ba_g16 1 (by rw [size_extract' s k (k + 2) (by omega) h]; omega) (by rw [size_W]; rfl) fun i hi => ?_
  obtain rfl : i = 0 := by omega
  rw [g16_W _ (by intro n hn; simp at hn; omega)]
  show g16 (s.extract k (k + 2)) 0 = g16 s k
  unfold g16
  rw [bt_ext s k (k + 2) 0 (by omega) h, bt_ext s k (k + 2) (0 + 1) (by omega) h, Nat.add_zero, Nat.zero_add]
theorem tot_split (s : ByteArray) (k : Nat) (h : 2 * k + 2 ≤ s.size) : totT s = totT (zeroB s (2 * k)) + g16 s (2 * k) := by
  have d0 := g16_nonneg s (2 * k); have d1 := g16_le s (2 * k)
  have e := parts3 s (2 * k) h
  rw [word_of s (2 * k) h] at e
  rw [tot_zeroB s k h]
  have := tot_mid (s.extract 0 (2 * k)) (s.extract (2 * k + 2) s.size) (g16 s (2 * k)) k (size_extract' s 0 (2 * k) (by omega) (by omega)) d0 d1
  rw [e] at this
  omega
/-- A text in three parts, the middle one of two bytes. -/
theorem mid_parts (x m z : ByteArray) (hm : m.size = 2) : (x ++ m ++ z).size = x.size + 2 + z.size ∧ (x ++ m ++ z).extract 0 x.size = x ∧ (x ++ m ++ z).extract x.size (x.size + 2) = m ∧ (x ++ m ++ z).extract (x.size + 2) (x.size + 2 + z.size) = z := by
  have hz : (x ++ m).size = x.size + 2 := by rw [ByteArray.size_append, hm]
  refine ⟨by rw [ByteArray.size_append, hz], ?_, ?_, ?_⟩
  · rw [ByteArray.append_assoc, ext_app_l]
  · rw [ByteArray.append_assoc]
    have := ext_app_r x (m ++ z) 0 2
    rw [Nat.add_zero, ← hm, ext_app_l, hm] at this
    exact this
  · have := ext_app_r (x ++ m) z 0 z.size
    rw [hz, Nat.add_zero, ext_all] at this
    exact this
theorem slN_bd (a b : Int) (s : ByteArray) : 0 < slN a b s ∧ slN a b s ≤ 65535 := by
  have := sumV_bd [pseuB a b 17 s.size, zeroB s 6]
  unfold slN
  split <;> omega
theorem g16_mid (x z : ByteArray) (v : Int) (h0 : 0 ≤ v) (h1 : v ≤ 65535) : g16 (x ++ strOfNums (wordL [v]) ++ z) x.size = v := by
  have h2 : (strOfNums (wordL [v])).size = 2 := by rw [size_W]; rfl
  rw [g16_app_l _ _ _ (by rw [ByteArray.size_append, h2]; omega)]
  have := g16_app_r x (strOfNums (wordL [v])) 0
  rw [Nat.add_zero] at this
  rw [this]
  exact g16_W [v] (by intro n hn; simp at hn; omega) 0
/-- What is sealed. -/
theorem slU_facts (a b : Int) (s : ByteArray) (a0 : 0 ≤ a) (a1 : a ≤ 4294967295) (b0 : 0 ≤ b) (b1 : b ≤ 4294967295) (h : 8 ≤ s.size) :
    (slU a b s).size = s.size ∧ (slU a b s).extract 0 6 = s.extract 0 6 ∧ (slU a b s).extract 8 s.size = s.extract 8 s.size ∧ g16 (slU a b s) 6 = slN a b s ∧ slU a b (slU a b s) = slU a b s ∧ holdsV [pseuB a b 17 s.size, slU a b s] = true := by
  have hx := size_extract' s 0 6 (by omega) (by omega)
  have hz := size_extract' s 8 s.size h (Nat.le_refl _)
  have hn := slN_bd a b s
  have hm : (strOfNums (wordL [slN a b s])).size = 2 := by rw [size_W]; rfl
  have e : slU a b s = s.extract 0 6 ++ strOfNums (wordL [slN a b s]) ++ s.extract 8 s.size := by unfold slU; rw [if_neg (by omega)]
  obtain ⟨m1, m2, m3, m4⟩ := mid_parts (s.extract 0 6) (strOfNums (wordL [slN a b s])) (s.extract 8 s.size) hm
  rw [← e, hx, hz] at m1
  rw [← e, hx] at m2 m3
  rw [← e, hx, hz] at m4
  have z1 : (slU a b s).size = s.size := by omega
  have z2 : (slU a b s).extract 0 6 = s.extract 0 6 := m2
  have z3 : (slU a b s).extract 8 s.size = s.extract 8 s.size := by rw [show 6 - 0 + 2 + (s.size - 8) = s.size by omega] at m4; exact m4
  have z4 : g16 (slU a b s) 6 = slN a b s := by
    have := g16_mid (s.extract 0 6) (s.extract 8 s.size) (slN a b s) (by omega) hn.2
    rw [← e, hx] at this
    exact this
  have z5 : zeroB (slU a b s) 6 = zeroB s 6 := by unfold zeroB; rw [z1, z2, z3]
  have z6 : slN a b (slU a b s) = slN a b s := by unfold slN; rw [z1, z5]
  have z7 : slU a b (slU a b s) = slU a b s := by
    have e2 : slU a b (slU a b s) = (slU a b s).extract 0 6 ++ strOfNums (wordL [slN a b (slU a b s)]) ++ (slU a b s).extract 8 (slU a b s).size := by
      rw [show slU a b (slU a b s) = if (slU a b s).size < 8 then slU a b s else (slU a b s).extract 0 6 ++ strOfNums (wordL [slN a b (slU a b s)]) ++ (slU a b s).extract 8 (slU a b s).size from rfl, if_neg (by omega)]
    rw [e2, z1, z2, z3, z6, e]
  refine ⟨z1, z2, z3, z4, z7, ?_⟩
  have hT := tot_split (slU a b s) 3 (by omega)
  rw [show 2 * 3 = 6 by rfl, z5, z4] at hT
  have hP := pseuB_tot (pr := 17) (n := s.size) a0 a1 b0 b1 (by omega) (by omega) (by omega)
  have hp0 : 0 < totT (pseuB a b 17 s.size) := by omega
  have hz0 := totT_nonneg (zeroB s 6)
  unfold holdsV
  rw [decide_eq_true_iff, sumV_cl, totTs2, hT]
  have hs : sumV [pseuB a b 17 s.size, zeroB s 6] = 65535 - cl (totT (pseuB a b 17 s.size) + totT (zeroB s 6)) := by rw [sumV_cl, totTs2]
  unfold slN
  rw [hs]
  generalize totT (pseuB a b 17 s.size) = P at *
  generalize totT (zeroB s 6) = Z at *
  have hc := cl_full (t := P + Z) (by omega)
  split
  · next h0 =>
    have : cl (P + (Z + 65535)) = cl (P + Z) := by unfold cl at h0 ⊢; split at h0 <;> split <;> omega
    omega
  · rw [← Int.add_assoc, hc]; rfl
/-- What is right is not, with one byte another, unless it has no sum then. -/
theorem spoilt2 (p s t : ByteArray) (j : Nat) (hz : t.size = s.size) (hj : j < s.size) (h : ∀ i, ¬ i = j → bt t i = bt s i) (hd : ¬ bt t j = bt s j) (hh : holdsV [p, s] = true) : holdsV [p, t] = false := by
  have k := tot_one s t j h (half s)
  have hlt : j < 2 * half s := by unfold half; omega
  rw [if_pos hlt] at k
  have pt := totT_nonneg p
  have q := tot_nonneg t (half s)
  have b0 := bt_nonneg s j; have b1 := bt_le s j; have b2 := bt_nonneg t j; have b3 := bt_le t j
  have qs := tot_nonneg s (half s)
  unfold holdsV at hh ⊢
  rw [decide_eq_true_iff, sumV_cl, totTs2] at hh
  rw [decide_eq_false_iff_not, sumV_cl, totTs2]
  have e1 : totT s = tot s (half s) := rfl
  have e2 : totT t = tot t (half s) := by unfold totT half; rw [hz]
  rw [e1] at hh
  rw [e2, k]
  rw [k] at q
  generalize tot s (half s) = T at *
  generalize totT p = P at *
  generalize bt s j = x at *
  generalize bt t j = y at *
  unfold cl at *
  split at q <;> split at hh <;> split <;> first | omega | (simp_all; done) | (simp_all; omega)
/-- Two bytes of a text. -/
theorem two_list_ (s : ByteArray) (k : Nat) (h : k + 2 ≤ s.size) : ∃ x y : UInt8, (s.extract k (k + 2)).toList = [x, y] ∧ g16 s k = (x.toNat : Int) * 256 + (y.toNat : Int) := by
  have hl : (s.extract k (k + 2)).toList.length = 2 := by rw [Lib.toList_data, len_data, size_extract' s k (k + 2) (by omega) h]; omega
  obtain ⟨l, hl2⟩ : ∃ l, l = (s.extract k (k + 2)).toList := ⟨_, rfl⟩
  rw [← hl2] at hl ⊢
  match l, hl with
  | [x, y], _ =>
    refine ⟨x, y, rfl, ?_⟩
    have b0 := bt_ext s k (k + 2) 0 (by omega) h
    have b1 := bt_ext s k (k + 2) 1 (by omega) h
    rw [Lib.toList_data] at hl2
    rw [bt_eq, ← hl2] at b0 b1
    unfold g16
    rw [Nat.add_zero] at b0
    rw [← b0, ← b1]
    rfl
theorem two_is_ (s : ByteArray) (k : Nat) (h : k + 2 ≤ s.size) (c : UInt8) : ((s.extract k (k + 2)).toList == [c, c]) = decide (g16 s k = (c.toNat : Int) * 257) := by
  obtain ⟨x, y, e1, e2⟩ := two_list_ s k h
  rw [e1, e2]
  have hx := x.toNat_lt; have hy := y.toNat_lt; have hc := c.toNat_lt
  by_cases hh : x = c ∧ y = c
  · obtain ⟨rfl, rfl⟩ := hh
    simp; omega
  · have : ¬ ((x.toNat : Int) * 256 + (y.toNat : Int) = (c.toNat : Int) * 257) := by
      intro h2
      refine hh ⟨UInt8.toNat_inj.1 (by omega), UInt8.toNat_inj.1 (by omega)⟩
    simp only [this, decide_false]
    simp only [List.cons_beq_cons, Bool.and_true, Bool.and_eq_false_iff, beq_eq_false_iff_ne, List.beq_nil_eq]
    by_cases h3 : x = c
    · right; simp; exact fun h4 => hh ⟨h3, h4⟩
    · left; exact h3
/-- A byte of which one bit is turned. -/
theorem xor_bit_ (x : Int) (b : Nat) (h0 : 0 ≤ x) (h1 : x ≤ 255) (hb : b < 8) : 0 ≤ bits .xor .u8 x ((2 ^ b : Nat) : Int) ∧ bits .xor .u8 x ((2 ^ b : Nat) : Int) ≤ 255 ∧ ¬ bits .xor .u8 x ((2 ^ b : Nat) : Int) = x ∧ (4 ≤ b → bits .xor .u8 x ((2 ^ b : Nat) : Int) % 16 = x % 16) := by
  obtain ⟨X, hX⟩ : ∃ X : Nat, x = (X : Int) := ⟨x.toNat, by omega⟩
  subst hX
  have hp : 2 ^ b < 256 := by
    have := Nat.pow_lt_pow_right (a := 2) (by omega) hb
    simpa using this
  rw [u8_xor_nat X (2 ^ b) (by omega) hp]
  have hlt : X ^^^ 2 ^ b < 2 ^ 8 := Nat.xor_lt_two_pow (by omega) (by omega)
  refine ⟨by omega, by omega, ?_, ?_⟩
  · intro h
    have h2 : X ^^^ 2 ^ b = X ^^^ 0 := by rw [Nat.xor_zero]; omega
    have h3 : X ^^^ (X ^^^ 2 ^ b) = X ^^^ (X ^^^ 0) := by rw [h2]
    rw [← Nat.xor_assoc, ← Nat.xor_assoc, Nat.xor_self, Nat.zero_xor, Nat.zero_xor] at h3
    have := Nat.two_pow_pos b
    omega
  · intro h4
    have h5 : 2 ^ b % 2 ^ 4 = 0 := by
      rw [show b = 4 + (b - 4) by omega, Nat.pow_add, Nat.mul_mod_right]
    have h6 : (X ^^^ 2 ^ b) % 2 ^ 4 = X % 2 ^ 4 := by rw [Nat.xor_mod_two_pow, h5, Nat.xor_zero]
    have h7 : (X ^^^ 2 ^ b) % 16 = X % 16 := h6
    omega
end Go.Proofs.Ytlcgpjeggelbaaa
