/- Plain: segments (layer 6). -/
import Derived.Test.YtlcgpjeggelbaaaUdpP
namespace Go.Proofs.Ytlcgpjeggelbaaa
set_option linter.unusedVariables false
set_option linter.unusedSimpArgs false
open Go.ChangeShapes Go.WideShapes Go.ChangeAt Go.RowKit Go.PlainAid
/-- How many bytes a segment's header says that it has. -/
def tOwn (s : ByteArray) : Nat := (bt s 12 / 16).toNat * 4
/-- A text that is a segment. -/
def tOk (s : ByteArray) : Bool := decide (20 ≤ s.size) && decide (20 ≤ tOwn s) && decide (tOwn s ≤ s.size)
def tI (s : ByteArray) (v : Int) : Int := if tOk s then v else 0
def tO (s : ByteArray) : ByteArray := if tOk s then s.extract 20 (tOwn s) else ⟨#[]⟩
def tP (s : ByteArray) : ByteArray := if tOk s then s.extract (tOwn s) s.size else ⟨#[]⟩
/-- A segment's words, but for its options; its bytes; why it can't be put. -/
def tcpW (sp dp sq ak lo fl wi su ur : Int) (n : Nat) : List Int := [sp, dp, sq / 65536, sq % 65536, ak / 65536, ak % 65536, 256 * (80 + 4 * (n : Int) + lo) + fl, wi, su, ur]
def tcpB (sp dp sq ak lo fl wi su ur : Int) (o p : ByteArray) : ByteArray := strOfNums (wordL (tcpW sp dp sq ak lo fl wi su ur o.size)) ++ o ++ p
def tE (n : Nat) (lo : Int) : Int := if 40 < n ∨ ¬ n % 4 = 0 ∨ 15 < lo then 2 else 0
def ckT (a b : Int) (s : ByteArray) : Bool := decide (20 ≤ s.size) && holdsV [pseuB a b 6 s.size, s]
def slM (a b : Int) (s : ByteArray) : Int := sumV [pseuB a b 6 s.size, zeroB s 16]
def slT (a b : Int) (s : ByteArray) : ByteArray := if s.size < 20 then s else s.extract 0 16 ++ strOfNums (wordL [slM a b s]) ++ s.extract 18 s.size
theorem tOk_yes {s : ByteArray} (h : tOk s = true) : 20 ≤ s.size ∧ 20 ≤ tOwn s ∧ tOwn s ≤ s.size ∧ (∀ v, tI s v = v) ∧ tO s = s.extract 20 (tOwn s) ∧ tP s = s.extract (tOwn s) s.size := by
  have h' := h
  unfold tOk at h'
  simp only [Bool.and_eq_true, decide_eq_true_eq] at h'
  refine ⟨h'.1.1, h'.1.2, h'.2, fun v => ?_, ?_, ?_⟩
  · unfold tI; rw [if_pos h]
  · unfold tO; rw [if_pos h]
  · unfold tP; rw [if_pos h]
theorem tOk_no {s : ByteArray} (h : tOk s = false) : (∀ v, tI s v = 0) ∧ tO s = ⟨#[]⟩ ∧ tP s = ⟨#[]⟩ := by
  refine ⟨fun v => ?_, ?_, ?_⟩
  · unfold tI; rw [if_neg (by rw [h]; decide)]
  · unfold tO; rw [if_neg (by rw [h]; decide)]
  · unfold tP; rw [if_neg (by rw [h]; decide)]
/-- What is sealed. -/
theorem slT_facts (a b : Int) (s : ByteArray) (a0 : 0 ≤ a) (a1 : a ≤ 4294967295) (b0 : 0 ≤ b) (b1 : b ≤ 4294967295) (h : 20 ≤ s.size) :
    (slT a b s).size = s.size ∧ (slT a b s).extract 0 16 = s.extract 0 16 ∧ (slT a b s).extract 18 s.size = s.extract 18 s.size ∧ slT a b (slT a b s) = slT a b s ∧ holdsV [pseuB a b 6 s.size, slT a b s] = true := by
  have hx := size_extract' s 0 16 (by omega) (by omega)
  have hz := size_extract' s 18 s.size (by omega) (Nat.le_refl _)
  have hn : 0 ≤ slM a b s ∧ slM a b s ≤ 65535 := sumV_bd _
  have hm : (strOfNums (wordL [slM a b s])).size = 2 := by rw [size_W]; rfl
  have e : slT a b s = s.extract 0 16 ++ strOfNums (wordL [slM a b s]) ++ s.extract 18 s.size := by unfold slT; rw [if_neg (by omega)]
  obtain ⟨m1, m2, m3, m4⟩ := mid_parts (s.extract 0 16) (strOfNums (wordL [slM a b s])) (s.extract 18 s.size) hm
  rw [← e, hx, hz] at m1
  rw [← e, hx] at m2 m3
  rw [← e, hx, hz] at m4
  have z1 : (slT a b s).size = s.size := by omega
  have z2 : (slT a b s).extract 0 16 = s.extract 0 16 := m2
  have z3 : (slT a b s).extract 18 s.size = s.extract 18 s.size := by rw [show 16 - 0 + 2 + (s.size - 18) = s.size by omega] at m4; exact m4
  have z4 : g16 (slT a b s) 16 = slM a b s := by
    have := g16_mid (s.extract 0 16) (s.extract 18 s.size) (slM a b s) hn.1 hn.2
    rw [← e, hx] at this
    exact this
  have z5 : zeroB (slT a b s) 16 = zeroB s 16 := by unfold zeroB; rw [z1, z2, z3]
  have z6 : slM a b (slT a b s) = slM a b s := by unfold slM; rw [z1, z5]
  have z7 : slT a b (slT a b s) = slT a b s := by
    have e2 : slT a b (slT a b s) = (slT a b s).extract 0 16 ++ strOfNums (wordL [slM a b (slT a b s)]) ++ (slT a b s).extract 18 (slT a b s).size := by
      rw [show slT a b (slT a b s) = if (slT a b s).size < 20 then slT a b s else (slT a b s).extract 0 16 ++ strOfNums (wordL [slM a b (slT a b s)]) ++ (slT a b s).extract 18 (slT a b s).size from rfl, if_neg (by omega)]
    rw [e2, z1, z2, z3, z6, e]
  refine ⟨z1, z2, z3, z7, ?_⟩
  have hT := tot_split (slT a b s) 8 (by omega)
  rw [show 2 * 8 = 16 by rfl, z5, z4] at hT
  have hP := pseuB_tot (pr := 6) (n := s.size) a0 a1 b0 b1 (by omega) (by omega) (by omega)
  have hp0 : 0 < totT (pseuB a b 6 s.size) := by omega
  have hz0 := totT_nonneg (zeroB s 16)
  unfold holdsV
  rw [decide_eq_true_iff, sumV_cl, totTs2, hT]
  have hs : slM a b s = 65535 - cl (totT (pseuB a b 6 s.size) + totT (zeroB s 16)) := by unfold slM; rw [sumV_cl, totTs2]
  rw [hs]
  generalize totT (pseuB a b 6 s.size) = P at *
  generalize totT (zeroB s 16) = Z at *
  have hc := cl_full (t := P + Z) (by omega)
  rw [← Int.add_assoc, hc]; rfl
/-- Two totals that differ by no multiple of 65535 are not both right. -/
theorem spoilt_tot (p q s : ByteArray) (d : Int) (hd : totT q = totT p + d) (h1 : ¬ d % 65535 = 0) (hh : holdsV [p, s] = true) : holdsV [q, s] = false := by
  have pt := totT_nonneg p
  have qt := totT_nonneg q
  have st := totT_nonneg s
  unfold holdsV at hh ⊢
  rw [decide_eq_true_iff, sumV_cl, totTs2] at hh
  rw [decide_eq_false_iff_not, sumV_cl, totTs2]
  generalize totT p = P at *
  generalize totT q = Q at *
  generalize totT s = S at *
  unfold cl at *
  split at hh <;> split <;> omega
theorem xor_one_ (n : Nat) : n ^^^ 1 = n + 1 ∨ n = (n ^^^ 1) + 1 := by
  have h1 : (n ^^^ 1) / 2 = n / 2 := by
    have := Nat.xor_div_two_pow (a := n) (b := 1) (n := 1)
    simpa using this
  have h2 : (n ^^^ 1) % 2 = (n % 2) ^^^ 1 := by
    have := Nat.xor_mod_two_pow (a := n) (b := 1) (n := 1)
    simpa using this
  rcases (show n % 2 = 0 ∨ n % 2 = 1 by omega) with h | h
  · rw [h] at h2
    have : (0 ^^^ 1 : Nat) = 1 := by decide
    omega
  · rw [h] at h2
    have : (1 ^^^ 1 : Nat) = 0 := by decide
    omega
theorem xor_bit_pm (x r : Nat) : x ^^^ 2 ^ r = x + 2 ^ r ∨ x = (x ^^^ 2 ^ r) + 2 ^ r := by
  have h1 : (x ^^^ 2 ^ r) / 2 ^ r = x / 2 ^ r ^^^ 1 := by
    rw [Nat.xor_div_two_pow, Nat.div_self (Nat.two_pow_pos r)]
  have h2 : (x ^^^ 2 ^ r) % 2 ^ r = x % 2 ^ r := by
    rw [Nat.xor_mod_two_pow, Nat.mod_self, Nat.xor_zero]
  have h3 := Nat.div_add_mod x (2 ^ r)
  have h4 := Nat.div_add_mod (x ^^^ 2 ^ r) (2 ^ r)
  rw [h1, h2] at h4
  rcases xor_one_ (x / 2 ^ r) with h | h
  · rw [h, Nat.mul_add, Nat.mul_one] at h4; left; omega
  · right
    have h5 : 2 ^ r * (x / 2 ^ r) = 2 ^ r * (x / 2 ^ r ^^^ 1) + 2 ^ r := by
      conv => lhs; rw [h]
      rw [Nat.mul_add, Nat.mul_one]
    omega
theorem pow_no : ∀ r, r < 32 → ¬ 2 ^ r % 65535 = 0 := by decide
/-- A number of 32 bits of which one is turned. -/
theorem turn32 (x : Nat) (r : Nat) (hx : x < 4294967296) (hr : r < 32) : x ^^^ 2 ^ r < 4294967296 ∧ ∃ d : Int, (((x ^^^ 2 ^ r : Nat) : Int) / 65536 + ((x ^^^ 2 ^ r : Nat) : Int) % 65536 = (x : Int) / 65536 + (x : Int) % 65536 + d) ∧ ¬ d % 65535 = 0 := by
  have hp : 2 ^ r < 2 ^ 32 := Nat.pow_lt_pow_right (by omega) hr
  have hlt : x ^^^ 2 ^ r < 2 ^ 32 := Nat.xor_lt_two_pow (by omega) hp
  have h0 := pow_no r hr
  have h1 := xor_bit_pm x r
  refine ⟨by omega, ((x ^^^ 2 ^ r : Nat) : Int) / 65536 + ((x ^^^ 2 ^ r : Nat) : Int) % 65536 - ((x : Int) / 65536 + (x : Int) % 65536), by omega, ?_⟩
  generalize x ^^^ 2 ^ r = y at *
  generalize 2 ^ r = P at *
  omega
end Go.Proofs.Ytlcgpjeggelbaaa
