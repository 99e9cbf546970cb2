/- Plain: a tuple's thirteen bytes, and those of a tuple of which one byte is another one (layer 12). -/
import Derived.Test.YtijippfcobgidaaHasP
namespace Go.Proofs.Ytijippfcobgidaa
set_option linter.unusedVariables false
set_option linter.unusedSimpArgs false
/-- Four bytes, two bytes, the highest first. -/
def b4 (n : Nat) : List Nat := [n / 16777216 % 256, n / 65536 % 256, n / 256 % 256, n % 256]
def b2 (n : Nat) : List Nat := [n / 256 % 256, n % 256]
def haBytes (pr sa sp da dp : Nat) : List Nat := pr :: (b4 sa ++ (b2 sp ++ (b4 da ++ b2 dp)))
theorem xor_shr (a b j i : Nat) : ((a ^^^ b * 2 ^ j) / 2 ^ i) % 256 = (a / 2 ^ i % 256) ^^^ (b * 2 ^ j / 2 ^ i % 256) := by
  have h1 : (a ^^^ b * 2 ^ j) / 2 ^ i = a / 2 ^ i ^^^ b * 2 ^ j / 2 ^ i := by
    rw [← Nat.shiftRight_eq_div_pow, ← Nat.shiftRight_eq_div_pow, ← Nat.shiftRight_eq_div_pow, Nat.shiftRight_xor_distrib]
  rw [h1]
  exact Nat.xor_mod_two_pow (n := 8)
theorem b4_xor (n b : Nat) (hb : b < 256) :
    b4 (n ^^^ b) = [n / 16777216 % 256, n / 65536 % 256, n / 256 % 256, (n % 256) ^^^ b] ∧
    b4 (n ^^^ b * 256) = [n / 16777216 % 256, n / 65536 % 256, (n / 256 % 256) ^^^ b, n % 256] ∧
    b4 (n ^^^ b * 65536) = [n / 16777216 % 256, (n / 65536 % 256) ^^^ b, n / 256 % 256, n % 256] ∧
    b4 (n ^^^ b * 16777216) = [(n / 16777216 % 256) ^^^ b, n / 65536 % 256, n / 256 % 256, n % 256] := by
  have f : ∀ j i : Nat, ((n ^^^ b * 2 ^ j) / 2 ^ i) % 256 = (n / 2 ^ i % 256) ^^^ (b * 2 ^ j / 2 ^ i % 256) := fun j i => xor_shr n b j i
  have e0 : b * 2 ^ 0 = b := by omega
  have z : ∀ x : Nat, x ^^^ 0 = x := Nat.xor_zero
  refine ⟨?_, ?_, ?_, ?_⟩
  · have g := f 0
    rw [e0] at g
    unfold b4
    rw [show (n ^^^ b) / 16777216 % 256 = _ from g 24, show (n ^^^ b) / 65536 % 256 = _ from g 16, show (n ^^^ b) / 256 % 256 = _ from g 8]
    have g0 := g 0
    simp only [Nat.pow_zero, Nat.div_one] at g0
    rw [g0, Nat.mod_eq_of_lt hb, show b / 2 ^ 24 % 256 = 0 by omega, show b / 2 ^ 16 % 256 = 0 by omega, show b / 2 ^ 8 % 256 = 0 by omega, z, z, z]
  · have g := f 8
    unfold b4
    rw [show (n ^^^ b * 256) / 16777216 % 256 = _ from g 24, show (n ^^^ b * 256) / 65536 % 256 = _ from g 16, show (n ^^^ b * 256) / 256 % 256 = _ from g 8]
    have g0 := g 0
    simp only [Nat.pow_zero, Nat.div_one] at g0
    rw [show (n ^^^ b * 256) % 256 = _ from g0, show b * 2 ^ 8 / 2 ^ 24 % 256 = 0 by omega, show b * 2 ^ 8 / 2 ^ 16 % 256 = 0 by omega, show b * 2 ^ 8 / 2 ^ 8 % 256 = b by omega, show b * 2 ^ 8 % 256 = 0 by omega, z, z, z]
  · have g := f 16
    unfold b4
    rw [show (n ^^^ b * 65536) / 16777216 % 256 = _ from g 24, show (n ^^^ b * 65536) / 65536 % 256 = _ from g 16, show (n ^^^ b * 65536) / 256 % 256 = _ from g 8]
    have g0 := g 0
    simp only [Nat.pow_zero, Nat.div_one] at g0
    rw [show (n ^^^ b * 65536) % 256 = _ from g0, show b * 2 ^ 16 / 2 ^ 24 % 256 = 0 by omega, show b * 2 ^ 16 / 2 ^ 16 % 256 = b by omega, show b * 2 ^ 16 / 2 ^ 8 % 256 = 0 by omega, show b * 2 ^ 16 % 256 = 0 by omega, z, z, z]
  · have g := f 24
    unfold b4
    rw [show (n ^^^ b * 16777216) / 16777216 % 256 = _ from g 24, show (n ^^^ b * 16777216) / 65536 % 256 = _ from g 16, show (n ^^^ b * 16777216) / 256 % 256 = _ from g 8]
    have g0 := g 0
    simp only [Nat.pow_zero, Nat.div_one] at g0
    rw [show (n ^^^ b * 16777216) % 256 = _ from g0, show b * 2 ^ 24 / 2 ^ 24 % 256 = b by omega, show b * 2 ^ 24 / 2 ^ 16 % 256 = 0 by omega, show b * 2 ^ 24 / 2 ^ 8 % 256 = 0 by omega, show b * 2 ^ 24 % 256 = 0 by omega, z, z, z]
theorem b2_xor (n b : Nat) (hb : b < 256) : b2 (n ^^^ b) = [n / 256 % 256, (n % 256) ^^^ b] ∧ b2 (n ^^^ b * 256) = [(n / 256 % 256) ^^^ b, n % 256] := by
  obtain ⟨h1, h2, _, _⟩ := b4_xor n b hb
  unfold b4 at h1 h2
  simp only [List.cons.injEq, and_true] at h1 h2
  unfold b2
  rw [h1.2.2.1, h1.2.2.2, h2.2.2.1, h2.2.2.2]
  exact ⟨rfl, rfl⟩
/-- A tuple of which the byte 'at % 13' is turned by 'by'. -/
def haWith (k b pr sa sp da dp : Nat) : Nat × Nat × Nat × Nat × Nat :=
  if k = 0 then (pr ^^^ b, sa, sp, da, dp)
  else if k < 5 then (pr, sa ^^^ b * 2 ^ (8 * (k - 1)), sp, da, dp)
  else if k < 7 then (pr, sa, sp ^^^ b * 2 ^ (8 * (k - 5)), da, dp)
  else if k < 11 then (pr, sa, sp, da ^^^ b * 2 ^ (8 * (k - 7)), dp)
  else (pr, sa, sp, da, dp ^^^ b * 2 ^ (8 * (k - 11)))
theorem xor_self_iff {c b : Nat} : c = c ^^^ b ↔ b = 0 := by
  constructor
  · intro h
    have h2 := congrArg (fun x => c ^^^ x) h
    simp only [Nat.xor_self, ← Nat.xor_assoc, Nat.zero_xor] at h2
    exact h2.symm
  · rintro rfl; exact (Nat.xor_zero c).symm
theorem one_of (l r : List Nat) (c b : Nat) (hc : c < 256) (hb : b < 256) : (haNum (l ++ c :: r) = haNum (l ++ (c ^^^ b) :: r)) ↔ b = 0 := by
  rw [haNum_one l r c (c ^^^ b) hc (Nat.xor_lt_two_pow (n := 8) hc hb)]
  exact xor_self_iff
/-- Turned in one byte, a tuple has another number. -/
theorem haWith_num (k b pr sa sp da dp : Nat) (hk : k < 13) (hb : b < 256) (hp : pr < 256) :
    (haNum (haBytes pr sa sp da dp) = haNum (haBytes (haWith k b pr sa sp da dp).1 (haWith k b pr sa sp da dp).2.1 (haWith k b pr sa sp da dp).2.2.1 (haWith k b pr sa sp da dp).2.2.2.1 (haWith k b pr sa sp da dp).2.2.2.2)) ↔ b = 0 := by
  have m : ∀ x : Nat, x % 256 < 256 := fun x => Nat.mod_lt _ (by omega)
  obtain ⟨s0, s1, s2, s3⟩ := b4_xor sa b hb
  obtain ⟨d0, d1, d2, d3⟩ := b4_xor da b hb
  obtain ⟨p0, p1⟩ := b2_xor sp b hb
  obtain ⟨q0, q1⟩ := b2_xor dp b hb
  have hk' : k = 0 ∨ k = 1 ∨ k = 2 ∨ k = 3 ∨ k = 4 ∨ k = 5 ∨ k = 6 ∨ k = 7 ∨ k = 8 ∨ k = 9 ∨ k = 10 ∨ k = 11 ∨ k = 12 := by omega
  rcases hk' with rfl | rfl | rfl | rfl | rfl | rfl | rfl | rfl | rfl | rfl | rfl | rfl | rfl
  · exact one_of [] _ pr b hp hb
  · show haNum (haBytes pr sa sp da dp) = haNum (haBytes pr (sa ^^^ b * 1) sp da dp) ↔ _
    rw [Nat.mul_one]; unfold haBytes; rw [s0]
    exact one_of [pr, sa / 16777216 % 256, sa / 65536 % 256, sa / 256 % 256] _ (sa % 256) b (m _) hb
  · show haNum (haBytes pr sa sp da dp) = haNum (haBytes pr (sa ^^^ b * 256) sp da dp) ↔ _
    unfold haBytes; rw [s1]
    exact one_of [pr, sa / 16777216 % 256, sa / 65536 % 256] _ (sa / 256 % 256) b (m _) hb
  · show haNum (haBytes pr sa sp da dp) = haNum (haBytes pr (sa ^^^ b * 65536) sp da dp) ↔ _
    unfold haBytes; rw [s2]
    exact one_of [pr, sa / 16777216 % 256] _ (sa / 65536 % 256) b (m _) hb
  · show haNum (haBytes pr sa sp da dp) = haNum (haBytes pr (sa ^^^ b * 16777216) sp da dp) ↔ _
    unfold haBytes; rw [s3]
    exact one_of [pr] _ (sa / 16777216 % 256) b (m _) hb
  · show haNum (haBytes pr sa sp da dp) = haNum (haBytes pr sa (sp ^^^ b * 1) da dp) ↔ _
    rw [Nat.mul_one]; unfold haBytes; rw [p0]
    exact one_of (pr :: (b4 sa ++ [sp / 256 % 256])) _ (sp % 256) b (m _) hb
  · show haNum (haBytes pr sa sp da dp) = haNum (haBytes pr sa (sp ^^^ b * 256) da dp) ↔ _
    unfold haBytes; rw [p1]
    exact one_of (pr :: b4 sa) _ (sp / 256 % 256) b (m _) hb
  · show haNum (haBytes pr sa sp da dp) = haNum (haBytes pr sa sp (da ^^^ b * 1) dp) ↔ _
    rw [Nat.mul_one]; unfold haBytes; rw [d0]
    exact one_of (pr :: (b4 sa ++ (b2 sp ++ [da / 16777216 % 256, da / 65536 % 256, da / 256 % 256]))) _ (da % 256) b (m _) hb
  · show haNum (haBytes pr sa sp da dp) = haNum (haBytes pr sa sp (da ^^^ b * 256) dp) ↔ _
    unfold haBytes; rw [d1]
    exact one_of (pr :: (b4 sa ++ (b2 sp ++ [da / 16777216 % 256, da / 65536 % 256]))) _ (da / 256 % 256) b (m _) hb
  · show haNum (haBytes pr sa sp da dp) = haNum (haBytes pr sa sp (da ^^^ b * 65536) dp) ↔ _
    unfold haBytes; rw [d2]
    exact one_of (pr :: (b4 sa ++ (b2 sp ++ [da / 16777216 % 256]))) _ (da / 65536 % 256) b (m _) hb
  · show haNum (haBytes pr sa sp da dp) = haNum (haBytes pr sa sp (da ^^^ b * 16777216) dp) ↔ _
    unfold haBytes; rw [d3]
    exact one_of (pr :: (b4 sa ++ b2 sp)) _ (da / 16777216 % 256) b (m _) hb
  · show haNum (haBytes pr sa sp da dp) = haNum (haBytes pr sa sp da (dp ^^^ b * 1)) ↔ _
    rw [Nat.mul_one]; unfold haBytes; rw [q0]
    exact one_of (pr :: (b4 sa ++ (b2 sp ++ (b4 da ++ [dp / 256 % 256])))) _ (dp % 256) b (m _) hb
  · show haNum (haBytes pr sa sp da dp) = haNum (haBytes pr sa sp da (dp ^^^ b * 256)) ↔ _
    unfold haBytes; rw [q1]
    exact one_of (pr :: (b4 sa ++ (b2 sp ++ b4 da))) _ (dp / 256 % 256) b (m _) hb
theorem num_mod (l : List Nat) (n m : Nat) : haNum l % (n * m) % n = haNum l % n := Nat.mod_mul_right_mod _ _ _
theorem num_whole (l : List Nat) : haNum l % 4294967296 = haNum l := Nat.mod_eq_of_lt (haNum_lt l)
end Go.Proofs.Ytijippfcobgidaa
