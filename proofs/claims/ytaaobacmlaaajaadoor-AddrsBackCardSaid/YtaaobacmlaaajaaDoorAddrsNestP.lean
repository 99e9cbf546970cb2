/- Plain mathematics: of two prefixes, which addresses they have. -/
import Derived.Test.YtaaobacmlaaajaaDoorAddrsG
namespace Go.Proofs.YtaaobacmlaaajaaDoor
set_option linter.unusedVariables false
theorem firstN_self (a n : Nat) : firstN (firstN a n) n = firstN a n := by
  have hp := sizeN_pos n
  unfold firstN
  rw [Nat.mul_div_cancel _ (by omega)]
theorem may_first (a n : Nat) (h : n ≤ 32) : mayV (firstN a n) (n : Int) = true := by
  rw [mayV_in h, firstN_self]; simp
theorem has_first (a z n : Nat) (h : n ≤ 32) : hasV (firstN a n) (n : Int) z = decide (z / sizeN n = a / sizeN n) := by
  have hp := sizeN_pos n
  have hd : firstN a n / sizeN n = a / sizeN n := by unfold firstN; exact Nat.mul_div_cancel _ (by omega)
  unfold hasV
  rw [may_first a n h]
  have : (n : Int).toNat = n := by omega
  rw [this, Bool.true_and, has_quo (firstN_self a n).symm, hd]
theorem first_quo (a n : Nat) : firstN a n / sizeN n = a / sizeN n := by
  have hp := sizeN_pos n
  unfold firstN; exact Nat.mul_div_cancel _ (by omega)
theorem last_quo (a n : Nat) : (firstN a n + (sizeN n - 1)) / sizeN n = a / sizeN n := by
  have hp := sizeN_pos n
  unfold firstN
  rw [Nat.mul_comm (a / sizeN n) (sizeN n), Nat.mul_add_div (by omega), show (sizeN n - 1) / sizeN n = 0 from Nat.div_eq_of_lt (by omega), Nat.add_zero]
theorem size_mul {m n : Nat} (h : n ≤ m) (hm : m ≤ 32) : sizeN n = sizeN m * 2 ^ (m - n) := by
  unfold sizeN
  rw [← Nat.pow_add]
  congr 1; omega
theorem quo_wide {m n : Nat} (h : n ≤ m) (hm : m ≤ 32) {z a : Nat} (hq : z / sizeN m = a / sizeN m) : z / sizeN n = a / sizeN n := by
  rw [size_mul h hm, ← Nat.div_div_eq_div_mul, ← Nat.div_div_eq_div_mul, hq]
theorem last_lt (a n : Nat) (ha : a < 4294967296) (hn : n ≤ 32) : firstN a n + (sizeN n - 1) < 4294967296 := by
  have hp := sizeN_pos n
  have e : 4294967296 = sizeN n * 2 ^ n := by
    unfold sizeN
    rw [← Nat.pow_add, show 32 - n + n = 32 by omega]
  have hq : a / sizeN n < 2 ^ n := by
    apply Nat.div_lt_of_lt_mul
    rw [← e]; exact ha
  have h1 : (a / sizeN n + 1) * sizeN n ≤ 2 ^ n * sizeN n := Nat.mul_le_mul_right _ hq
  rw [Nat.add_mul, Nat.mul_comm (2 ^ n), ← e] at h1
  unfold firstN
  omega
theorem in_range (a n z : Nat) : z / sizeN n = a / sizeN n ↔ firstN a n ≤ z ∧ z ≤ firstN a n + (sizeN n - 1) := by
  have hp := sizeN_pos n
  have h1 := Nat.div_add_mod z (sizeN n)
  have h2 := Nat.mod_lt z (show sizeN n > 0 by omega)
  have h3 : sizeN n * (z / sizeN n) = z / sizeN n * sizeN n := Nat.mul_comm _ _
  unfold firstN
  constructor
  · intro h
    rw [← h]
    omega
  · rintro ⟨g1, g2⟩
    have k1 : z / sizeN n < a / sizeN n + 1 := by
      apply Nat.div_lt_of_lt_mul
      rw [Nat.mul_add, Nat.mul_comm]; omega
    have k2 : a / sizeN n ≤ z / sizeN n := (Nat.le_div_iff_mul_le (by omega)).2 g1
    omega
end Go.Proofs.YtaaobacmlaaajaaDoor
