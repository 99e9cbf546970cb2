/- Plain: the number of a tuple's bytes (layer 12): each step can be turned back. -/
import Derived.Test.YtijippfcobgidaaPlain
namespace Go.Proofs.Ytijippfcobgidaa
set_option linter.unusedVariables false
set_option linter.unusedSimpArgs false
/-- A byte's step; what is done behind all bytes. -/
def haA (n c : Nat) : Nat := (n + c) % 4294967296
def haB (n : Nat) : Nat := (n + n * 1024 % 4294967296) % 4294967296
def haC (n : Nat) : Nat := n ^^^ (n / 64)
def haStep (n c : Nat) : Nat := haC (haB (haA n c))
def haD (n : Nat) : Nat := (n + n * 8 % 4294967296) % 4294967296
def haE (n : Nat) : Nat := n ^^^ (n / 2048)
def haF (n : Nat) : Nat := (n + n * 32768 % 4294967296) % 4294967296
def haFin (n : Nat) : Nat := haF (haE (haD n))
def haNum (l : List Nat) : Nat := haFin (l.foldl haStep 0)
theorem haA_lt (n c : Nat) : haA n c < 4294967296 := Nat.mod_lt _ (by omega)
theorem haB_lt (n : Nat) : haB n < 4294967296 := Nat.mod_lt _ (by omega)
theorem haD_lt (n : Nat) : haD n < 4294967296 := Nat.mod_lt _ (by omega)
theorem haF_lt (n : Nat) : haF n < 4294967296 := Nat.mod_lt _ (by omega)
theorem xor_lt32 {a b : Nat} (ha : a < 4294967296) (hb : b < 4294967296) : a ^^^ b < 4294967296 := Nat.xor_lt_two_pow (n := 32) ha hb
theorem haC_lt {n : Nat} (h : n < 4294967296) : haC n < 4294967296 := xor_lt32 h (Nat.lt_of_le_of_lt (Nat.div_le_self _ _) h)
theorem haE_lt {n : Nat} (h : n < 4294967296) : haE n < 4294967296 := xor_lt32 h (Nat.lt_of_le_of_lt (Nat.div_le_self _ _) h)
theorem haStep_lt (n c : Nat) : haStep n c < 4294967296 := haC_lt (haB_lt _)
theorem haFin_lt (n : Nat) : haFin n < 4294967296 := haF_lt _
theorem haNum_lt (l : List Nat) : haNum l < 4294967296 := haFin_lt _
theorem odd_back (k inv n : Nat) (hk : k * inv % 4294967296 = 1) (hn : n < 4294967296) : (n * k % 4294967296) * inv % 4294967296 = n := by
  rw [Nat.mul_mod, Nat.mod_mod, ← Nat.mul_mod, Nat.mul_assoc, Nat.mul_mod, hk, Nat.mul_one, Nat.mod_mod, Nat.mod_eq_of_lt hn]
theorem haB_eq (n : Nat) : haB n = n * 1025 % 4294967296 := by unfold haB; omega
theorem haD_eq (n : Nat) : haD n = n * 9 % 4294967296 := by unfold haD; omega
theorem haF_eq (n : Nat) : haF n = n * 32769 % 4294967296 := by unfold haF; omega
theorem haB_inj {a b : Nat} (ha : a < 4294967296) (hb : b < 4294967296) (h : haB a = haB b) : a = b := by
  rw [haB_eq, haB_eq] at h
  rw [← odd_back 1025 3222273025 a (by decide) ha, ← odd_back 1025 3222273025 b (by decide) hb, h]
theorem haD_inj {a b : Nat} (ha : a < 4294967296) (hb : b < 4294967296) (h : haD a = haD b) : a = b := by
  rw [haD_eq, haD_eq] at h
  rw [← odd_back 9 954437177 a (by decide) ha, ← odd_back 9 954437177 b (by decide) hb, h]
theorem haF_inj {a b : Nat} (ha : a < 4294967296) (hb : b < 4294967296) (h : haF a = haF b) : a = b := by
  rw [haF_eq, haF_eq] at h
  rw [← odd_back 32769 1073709057 a (by decide) ha, ← odd_back 32769 1073709057 b (by decide) hb, h]
theorem shr_inj {a b s : Nat} (hs : 0 < s) (ha : a < 4294967296) (hb : b < 4294967296) (h : a ^^^ (a / 2 ^ s) = b ^^^ (b / 2 ^ s)) : a = b := by
  have hbit : ∀ k i : Nat, 32 ≤ i + k → a.testBit i = b.testBit i := by
    intro k
    induction k with
    | zero =>
      intro i hi
      have e : ∀ x : Nat, x < 4294967296 → x.testBit i = false := fun x hx => Nat.testBit_lt_two_pow (Nat.lt_of_lt_of_le hx (by show 2 ^ 32 ≤ 2 ^ i; exact Nat.pow_le_pow_right (by omega) (by omega)))
      rw [e a ha, e b hb]
    | succ k ih =>
      intro i hi
      have h1 := ih (i + s) (by omega)
      have h2 := congrArg (fun x => x.testBit i) h
      simp only [Nat.testBit_xor, Nat.testBit_div_two_pow] at h2
      have e1 : a.testBit (i + s) = b.testBit (i + s) := h1
      rw [Nat.add_comm] at e1
      revert h2
      rw [show s + i = i + s from Nat.add_comm _ _] at e1
      first
        | (rw [e1]; cases a.testBit i <;> cases b.testBit i <;> cases b.testBit (i + s) <;> simp)
        | (rw [show i + s = s + i from Nat.add_comm _ _] at e1; rw [e1]; cases a.testBit i <;> cases b.testBit i <;> cases b.testBit (s + i) <;> simp)
  exact Nat.eq_of_testBit_eq fun i => hbit 32 i (by omega)
theorem haC_inj {a b : Nat} (ha : a < 4294967296) (hb : b < 4294967296) (h : haC a = haC b) : a = b := shr_inj (s := 6) (by omega) ha hb h
theorem haE_inj {a b : Nat} (ha : a < 4294967296) (hb : b < 4294967296) (h : haE a = haE b) : a = b := shr_inj (s := 11) (by omega) ha hb h
theorem haStep_inj {a b c : Nat} (ha : a < 4294967296) (hb : b < 4294967296) (h : haStep a c = haStep b c) : a = b := by
  have h1 := haB_inj (haA_lt _ _) (haA_lt _ _) (haC_inj (haB_lt _) (haB_lt _) h)
  unfold haA at h1
  omega
theorem haStep_byte {n c d : Nat} (hc : c < 256) (hd : d < 256) (h : haStep n c = haStep n d) : c = d := by
  have h1 := haB_inj (haA_lt _ _) (haA_lt _ _) (haC_inj (haB_lt _) (haB_lt _) h)
  unfold haA at h1
  omega
theorem haFin_inj {a b : Nat} (ha : a < 4294967296) (hb : b < 4294967296) (h : haFin a = haFin b) : a = b :=
  haD_inj ha hb (haE_inj (haD_lt _) (haD_lt _) (haF_inj (haE_lt (haD_lt _)) (haE_lt (haD_lt _)) h))
theorem fold_lt : ∀ (l : List Nat) (n : Nat), n < 4294967296 → l.foldl haStep n < 4294967296
  | [], n, h => h
  | c :: l, n, _ => fold_lt l _ (haStep_lt n c)
theorem fold_inj : ∀ (l : List Nat) (a b : Nat), a < 4294967296 → b < 4294967296 → l.foldl haStep a = l.foldl haStep b → a = b
  | [], a, b, _, _, h => h
  | c :: l, a, b, ha, hb, h => haStep_inj ha hb (fold_inj l _ _ (haStep_lt a c) (haStep_lt b c) h)
/-- Bytes that are unlike in one place have unlike numbers. -/
theorem haNum_one (l r : List Nat) (c d : Nat) (hc : c < 256) (hd : d < 256) : (haNum (l ++ c :: r) = haNum (l ++ d :: r)) = (c = d) := by
  refine propext ⟨fun h => ?_, fun h => by rw [h]⟩
  have h1 := haFin_inj (fold_lt _ 0 (by omega)) (fold_lt _ 0 (by omega)) h
  rw [List.foldl_append, List.foldl_append, List.foldl_cons, List.foldl_cons] at h1
  exact haStep_byte hc hd (fold_inj r _ _ (haStep_lt _ _) (haStep_lt _ _) h1)
end Go.Proofs.Ytijippfcobgidaa
