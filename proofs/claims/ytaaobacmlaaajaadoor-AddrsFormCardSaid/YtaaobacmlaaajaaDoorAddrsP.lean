/- Plain mathematics: numbers, addresses, prefixes and endpoints as lists of bytes. -/
import Derived.PlainAid
import Derived.Lib.ItoaNum
import Derived.Lib.IndexLaws
import Derived.Lib.Bytealg
namespace Go.Proofs.YtaaobacmlaaajaaDoor
set_option linter.unusedVariables false
set_option linter.unusedSimpArgs false
open Go.Lib
/-- A byte that is a digit. -/
def isDig (c : UInt8) : Bool := decide (48 ≤ c.toNat) && decide (c.toNat ≤ 57)
def valF (n : Nat) (l : List UInt8) : Nat := l.foldl (fun n c => 10 * n + (c.toNat - 48)) n
def valL (l : List UInt8) : Nat := valF 0 l
/-- A number's text, read. -/
def numV (most : Nat) (l : List UInt8) : Option Nat :=
  if (l.all isDig && !l.isEmpty && (l.length == 1 || l.head? != some 48)) = true ∧ valL l ≤ most then some (valL l) else none
theorem valF_ge : ∀ (l : List UInt8) (n : Nat), n ≤ valF n l
  | [], n => Nat.le_refl _
  | c :: r, n => by
    have := valF_ge r (10 * n + (c.toNat - 48))
    show n ≤ valF (10 * n + (c.toNat - 48)) r
    omega
theorem valF_app (a b : List UInt8) (n : Nat) : valF n (a ++ b) = valF (valF n a) b := by simp [valF]
theorem valL_snoc (l : List UInt8) (c : UInt8) : valL (l ++ [c]) = 10 * valL l + (c.toNat - 48) := by simp [valL, valF]
theorem valL_app_ge (a b : List UInt8) : valL a ≤ valL (a ++ b) := by
  unfold valL
  rw [valF_app]
  exact valF_ge _ _
theorem isDig_of (d : Nat) (h : d < 10) : isDig (UInt8.ofNat (48 + d)) = true := by
  have e : (UInt8.ofNat (48 + d)).toNat = 48 + d := by simp; omega
  unfold isDig
  rw [e]
  simp
  omega
theorem digit_back (c : UInt8) (h : isDig c = true) : UInt8.ofNat (48 + (c.toNat - 48)) = c ∧ c.toNat - 48 < 10 := by
  unfold isDig at h
  simp at h
  refine ⟨?_, by omega⟩
  rw [show 48 + (c.toNat - 48) = c.toNat by omega]
  simp
theorem head_app {a b : List UInt8} (h : a ≠ []) : (a ++ b).head? = a.head? := by
  match a, h with
  | x :: r, _ => rfl
theorem dec_props (n : Nat) : (decDigits n).all isDig = true ∧ valL (decDigits n) = n ∧ decDigits n ≠ [] ∧ (1 ≤ n → (decDigits n).head? ≠ some 48) ∧ (n < 10 → (decDigits n).length = 1) := by
  induction n using Nat.strongRecOn with
  | _ n ih =>
    by_cases h : n < 10
    · rw [decDigits_one h]
      have e : (UInt8.ofNat (48 + n)).toNat = 48 + n := by simp; omega
      refine ⟨by rw [List.all_cons, isDig_of n h]; rfl, ?_, by simp, ?_, fun _ => rfl⟩
      · show 10 * 0 + ((UInt8.ofNat (48 + n)).toNat - 48) = n
        rw [e]; omega
      · intro h1 hc
        have hc := congrArg UInt8.toNat (Option.some.inj hc)
        rw [e] at hc
        have : (48 : UInt8).toNat = 48 := rfl
        omega
    · have e : decDigits n = decDigits (n / 10) ++ [UInt8.ofNat (48 + n % 10)] := by rw [decDigits, dif_neg h]
      obtain ⟨h1, h2, h3, h4, _⟩ := ih (n / 10) (by omega)
      have e2 : (UInt8.ofNat (48 + n % 10)).toNat = 48 + n % 10 := by simp; omega
      rw [e]
      refine ⟨by rw [List.all_append, h1, List.all_cons, isDig_of (n % 10) (by omega)]; rfl, ?_, by simp, ?_, fun hc => absurd hc h⟩
      · rw [valL_snoc, h2, e2]; omega
      · intro _
        rw [head_app h3]
        exact h4 (by omega)
theorem valL_pos (l : List UInt8) (hd : l.all isDig = true) (hn : l ≠ []) (hh : l.head? ≠ some 48) : 1 ≤ valL l := by
  match l, hn with
  | c :: r, _ =>
    have hc : isDig c = true := by simp at hd; exact hd.1
    have : valF (10 * 0 + (c.toNat - 48)) r ≥ 10 * 0 + (c.toNat - 48) := valF_ge _ _
    show 1 ≤ valF (10 * 0 + (c.toNat - 48)) r
    unfold isDig at hc
    simp at hc
    have : c.toNat ≠ 48 := by
      intro hc'
      apply hh
      simp
      exact UInt8.toNat_inj.1 hc'
    omega
theorem dec_val (l : List UInt8) : l.all isDig = true → l ≠ [] → (l.length = 1 ∨ l.head? ≠ some 48) → decDigits (valL l) = l := by
  suffices ∀ (n : Nat) (l : List UInt8), l.length = n → l.all isDig = true → l ≠ [] → (l.length = 1 ∨ l.head? ≠ some 48) → decDigits (valL l) = l from this _ l rfl
  intro n
  induction n with
  | zero => intro l hl _ hn; exact absurd (List.length_eq_zero_iff.1 hl) hn
  | succ n ih =>
    intro l hl hd hn hh
    obtain ⟨m, c, rfl⟩ : ∃ m c, l = m ++ [c] := ⟨l.dropLast, l.getLast hn, (List.dropLast_concat_getLast hn).symm⟩
    simp at hl
    rw [List.all_append] at hd
    simp only [Bool.and_eq_true] at hd
    have hc : isDig c = true := by simpa using hd.2
    obtain ⟨b1, b2⟩ := digit_back c hc
    rw [valL_snoc]
    by_cases hm : m = []
    · subst hm
      have e : valL [] = 0 := rfl
      rw [e, decDigits_one (by omega)]
      simp
      simpa using b1
    · have hh' : m.head? ≠ some 48 := by
        rcases hh with h | h
        · simp at h; exact absurd h hm
        · rwa [head_app hm] at h
      have hp := valL_pos m hd.1 hm hh'
      have i := ih m hl hd.1 hm (.inr hh')
      have h10 : ¬ 10 * valL m + (c.toNat - 48) < 10 := by omega
      rw [decDigits, dif_neg h10, show (10 * valL m + (c.toNat - 48)) / 10 = valL m by omega, show (10 * valL m + (c.toNat - 48)) % 10 = c.toNat - 48 by omega, i, b1]
theorem dec_inj {a b : Nat} (h : decDigits a = decDigits b) : a = b := by
  rw [← (dec_props a).2.1, h, (dec_props b).2.1]
theorem numV_some (most : Nat) (l : List UInt8) (n : Nat) : numV most l = some n ↔ n ≤ most ∧ decDigits n = l := by
  unfold numV
  constructor
  · intro h
    split at h
    · rename_i hc
      obtain ⟨hc, hm⟩ := hc
      simp only [Bool.and_eq_true, Bool.or_eq_true, Bool.not_eq_true', beq_iff_eq, bne_iff_ne] at hc
      have hv := Option.some.inj h
      subst hv
      exact ⟨hm, dec_val l hc.1.1 (by intro hn; rw [hn] at hc; simp at hc) (by rcases hc.2 with h | h; exact .inl h; exact .inr h)⟩
    · cases h
  · rintro ⟨hm, rfl⟩
    obtain ⟨h1, h2, h3, h4, h5⟩ := dec_props n
    rw [if_pos, h2]
    rw [h2]
    refine ⟨?_, hm⟩
    simp only [Bool.and_eq_true, Bool.or_eq_true, Bool.not_eq_true', beq_iff_eq, bne_iff_ne]
    refine ⟨⟨h1, by simpa using h3⟩, ?_⟩
    by_cases h0 : n < 10
    · exact .inl (h5 h0)
    · exact .inr (h4 (by omega))
theorem numV_dec (most n : Nat) (h : n ≤ most) : numV most (decDigits n) = some n := (numV_some _ _ _).2 ⟨h, rfl⟩
theorem numV_le {most : Nat} {l : List UInt8} {n : Nat} (h : numV most l = some n) : n ≤ most := ((numV_some _ _ _).1 h).1
theorem numV_none {most : Nat} {l : List UInt8} (h : numV most l = none) (n : Nat) (hn : n ≤ most) : decDigits n ≠ l := by
  intro hc
  rw [(numV_some most l n).2 ⟨hn, hc⟩] at h
  cases h
/-- A digit is neither a full stop, nor a slash, nor a colon. -/
theorem dec_no (n : Nat) (c : UInt8) (hc : isDig c = false) : c ∉ decDigits n := by
  intro h
  have := List.all_eq_true.1 (dec_props n).1 c h
  rw [hc] at this
  cases this
/-! ### Cuts at the first byte of a kind, at the last one -/
def cut1 (c : UInt8) : List UInt8 → List UInt8 × List UInt8 × Bool
  | [] => ([], [], false)
  | x :: r => if x = c then ([], r, true) else (x :: (cut1 c r).1, (cut1 c r).2)
theorem cut1_app (c : UInt8) : ∀ (a b : List UInt8), c ∉ a → cut1 c (a ++ c :: b) = (a, b, true)
  | [], b, _ => by simp [cut1]
  | x :: r, b, h => by
    simp at h
    simp [cut1, cut1_app c r b h.2, Ne.symm h.1]
theorem cut1_none (c : UInt8) : ∀ (a : List UInt8), c ∉ a → cut1 c a = (a, [], false)
  | [], _ => by simp [cut1]
  | x :: r, h => by
    simp at h
    simp [cut1, cut1_none c r h.2, Ne.symm h.1]
theorem mem_split {c : UInt8} : ∀ {l : List UInt8}, c ∈ l → ∃ a b, l = a ++ c :: b ∧ c ∉ a
  | x :: r, h => by
    by_cases hx : c = x
    · subst hx
      exact ⟨[], r, rfl, by simp⟩
    · have h' : c ∈ r := by simpa [hx] using h
      obtain ⟨a, b, rfl, ha⟩ := mem_split h'
      exact ⟨x :: a, b, rfl, by simp [hx, ha]⟩
theorem mem_split_last {c : UInt8} : ∀ {l : List UInt8}, c ∈ l → ∃ a b, l = a ++ c :: b ∧ c ∉ b
  | x :: r, h => by
    by_cases hx : c ∈ r
    · obtain ⟨a, b, rfl, ha⟩ := mem_split_last hx
      exact ⟨x :: a, b, rfl, ha⟩
    · have h' : c = x := by simpa [hx] using h
      subst h'
      exact ⟨[], r, rfl, hx⟩
theorem cut1_cases (c : UInt8) (l : List UInt8) : (∃ a b, l = a ++ c :: b ∧ c ∉ a ∧ cut1 c l = (a, b, true)) ∨ (c ∉ l ∧ cut1 c l = (l, [], false)) := by
  by_cases h : c ∈ l
  · obtain ⟨a, b, rfl, ha⟩ := mem_split h
    exact .inl ⟨a, b, rfl, ha, cut1_app c a b ha⟩
  · exact .inr ⟨h, cut1_none c l h⟩
/-- The last one; none: two texts of no bytes. -/
def cutZ (c : UInt8) (l : List UInt8) : List UInt8 × List UInt8 × Bool :=
  if c ∈ l then ((cut1 c l.reverse).2.1.reverse, (cut1 c l.reverse).1.reverse, true) else ([], [], false)
theorem cutZ_app (c : UInt8) (a b : List UInt8) (h : c ∉ b) : cutZ c (a ++ c :: b) = (a, b, true) := by
  have e : (a ++ c :: b).reverse = b.reverse ++ c :: a.reverse := by simp
  unfold cutZ
  rw [if_pos (by simp), e, cut1_app c _ _ (by simpa using h)]
  simp
theorem cutZ_none (c : UInt8) (a : List UInt8) (h : c ∉ a) : cutZ c a = ([], [], false) := by
  unfold cutZ
  rw [if_neg h]
theorem cutZ_cases (c : UInt8) (l : List UInt8) : (∃ a b, l = a ++ c :: b ∧ c ∉ b ∧ cutZ c l = (a, b, true)) ∨ (c ∉ l ∧ cutZ c l = ([], [], false)) := by
  by_cases h : c ∈ l
  · obtain ⟨a, b, rfl, ha⟩ := mem_split_last h
    exact .inl ⟨a, b, rfl, ha, cutZ_app c a b ha⟩
  · exact .inr ⟨h, cutZ_none c l h⟩
/-! ### Addresses -/
/-- As the program reads them: the first number first. -/
def parseC : Nat → Nat → List UInt8 → Option Nat
  | 0, a, _ => some a
  | k + 1, a, s => match numV 255 (cut1 46 s).1 with
    | none => none
    | some n => if (cut1 46 s).2.2 = decide (k = 0) then none else parseC k (a * 256 + n) (cut1 46 s).2.1
def parseV (s : List UInt8) : Option Nat := parseC 4 0 s
/-- As the document reads them: the last number first. -/
def parseR : Nat → Nat → Nat → List UInt8 → Option Nat
  | 0, _, a, _ => some a
  | 1, z, a, s => match numV 255 s with
    | none => none
    | some n => some (a + n * z)
  | k + 2, z, a, s => if (cutZ 46 s).2.2 = false then none else match numV 255 (cutZ 46 s).2.1 with
    | none => none
    | some n => parseR (k + 1) (z * 256) (a + n * z) (cutZ 46 s).1
theorem dot : isDig 46 = false := by decide
theorem stepC (k a : Nat) (s : List UInt8) (r : Nat) : parseC (k + 2) a s = some r ↔ ∃ n b, n ≤ 255 ∧ s = decDigits n ++ 46 :: b ∧ parseC (k + 1) (a * 256 + n) b = some r := by
  constructor
  · intro h
    unfold parseC at h
    rcases cut1_cases 46 s with ⟨x, y, hs, hx, hc⟩ | ⟨hx, hc⟩
    · rw [hc] at h
      simp only at h
      cases hn : numV 255 x with
      | none => rw [hn] at h; simp at h
      | some n =>
        rw [hn] at h
        simp at h
        obtain ⟨h1, h2⟩ := (numV_some _ _ _).1 hn
        exact ⟨n, y, h1, by rw [h2]; exact hs, h⟩
    · rw [hc] at h
      cases hn : numV 255 s with
      | none => simp [hn] at h
      | some n => simp [hn] at h
  · rintro ⟨n, b, hn, rfl, h⟩
    unfold parseC
    rw [cut1_app 46 _ _ (dec_no n 46 dot)]
    simp only [numV_dec 255 n hn]
    simpa using h
theorem lastC (a : Nat) (s : List UInt8) (r : Nat) : parseC 1 a s = some r ↔ ∃ n, n ≤ 255 ∧ s = decDigits n ∧ a * 256 + n = r := by
  constructor
  · intro h
    unfold parseC at h
    rcases cut1_cases 46 s with ⟨x, y, hs, hx, hc⟩ | ⟨hx, hc⟩
    · rw [hc] at h
      cases hn : numV 255 x with
      | none => simp [hn] at h
      | some n => simp [hn] at h
    · rw [hc] at h
      simp only at h
      cases hn : numV 255 s with
      | none => rw [hn] at h; simp at h
      | some n =>
        rw [hn] at h
        simp [parseC] at h
        obtain ⟨h1, h2⟩ := (numV_some _ _ _).1 hn
        exact ⟨n, h1, h2.symm, h⟩
  · rintro ⟨n, hn, rfl, h⟩
    unfold parseC
    rw [cut1_none 46 _ (dec_no n 46 dot)]
    simp only [numV_dec 255 n hn]
    simp [parseC, h]
theorem stepR (k z a : Nat) (s : List UInt8) (r : Nat) : parseR (k + 2) z a s = some r ↔ ∃ n b, n ≤ 255 ∧ s = b ++ 46 :: decDigits n ∧ parseR (k + 1) (z * 256) (a + n * z) b = some r := by
  constructor
  · intro h
    unfold parseR at h
    rcases cutZ_cases 46 s with ⟨x, y, hs, hx, hc⟩ | ⟨hx, hc⟩
    · rw [hc] at h
      simp only at h
      cases hn : numV 255 y with
      | none => rw [hn] at h; simp at h
      | some n =>
        rw [hn] at h
        simp at h
        obtain ⟨h1, h2⟩ := (numV_some _ _ _).1 hn
        exact ⟨n, x, h1, by rw [h2]; exact hs, h⟩
    · rw [hc] at h
      simp at h
  · rintro ⟨n, b, hn, rfl, h⟩
    unfold parseR
    rw [cutZ_app 46 _ _ (dec_no n 46 dot)]
    simp only [numV_dec 255 n hn]
    simpa using h
theorem lastR (z a : Nat) (s : List UInt8) (r : Nat) : parseR 1 z a s = some r ↔ ∃ n, n ≤ 255 ∧ s = decDigits n ∧ a + n * z = r := by
  constructor
  · intro h
    unfold parseR at h
    cases hn : numV 255 s with
    | none => rw [hn] at h; simp at h
    | some n =>
      rw [hn] at h
      simp at h
      obtain ⟨h1, h2⟩ := (numV_some _ _ _).1 hn
      exact ⟨n, h1, h2.symm, h⟩
  · rintro ⟨n, hn, rfl, h⟩
    unfold parseR
    rw [numV_dec 255 n hn]
    simp [h]
/-- An address's text. -/
def textL (a : Nat) : List UInt8 := decDigits (a / 16777216) ++ 46 :: (decDigits (a / 65536 % 256) ++ 46 :: (decDigits (a / 256 % 256) ++ 46 :: decDigits (a % 256)))
theorem parseV_iff (s : List UInt8) (r : Nat) : parseV s = some r ↔ r < 4294967296 ∧ textL r = s := by
  unfold parseV
  rw [show (4 : Nat) = 2 + 2 from rfl, stepC]
  constructor
  · rintro ⟨n1, b1, h1, rfl, g1⟩
    obtain ⟨n2, b2, h2, e2, g2⟩ := (stepC 1 _ _ _).1 g1
    obtain ⟨n3, b3, h3, e3, g3⟩ := (stepC 0 _ _ _).1 g2
    obtain ⟨n4, h4, e4, e5⟩ := (lastC _ _ _).1 g3
    clear g1 g2 g3
    subst e4; subst e3; subst e2; subst e5
    refine ⟨by omega, ?_⟩
    unfold textL
    congr 1
    · congr 1; omega
    · congr 1
      congr 1
      · congr 1; omega
      · congr 1
        congr 1
        · congr 1; omega
        · congr 1
          congr 1; omega
  · rintro ⟨hr, rfl⟩
    exact ⟨r / 16777216, _, by omega, rfl, (stepC 1 _ _ _).2 ⟨r / 65536 % 256, _, by omega, rfl, (stepC 0 _ _ _).2 ⟨r / 256 % 256, _, by omega, rfl, (lastC _ _ _).2 ⟨r % 256, by omega, rfl, by omega⟩⟩⟩⟩
theorem parseR_iff (s : List UInt8) (r : Nat) : parseR 4 1 0 s = some r ↔ r < 4294967296 ∧ textL r = s := by
  rw [show (4 : Nat) = 2 + 2 from rfl, stepR]
  constructor
  · rintro ⟨n1, b1, h1, rfl, g1⟩
    obtain ⟨n2, b2, h2, e2, g2⟩ := (stepR 1 _ _ _ _).1 g1
    obtain ⟨n3, b3, h3, e3, g3⟩ := (stepR 0 _ _ _ _).1 g2
    obtain ⟨n4, h4, e4, e5⟩ := (lastR _ _ _ _).1 g3
    clear g1 g2 g3
    subst e4; subst e3; subst e2; subst e5
    refine ⟨by omega, ?_⟩
    unfold textL
    simp only [List.append_assoc, List.cons_append]
    congr 1
    · congr 1; omega
    · congr 1
      congr 1
      · congr 1; omega
      · congr 1
        congr 1
        · congr 1; omega
        · congr 1
          congr 1; omega
  · rintro ⟨hr, rfl⟩
    refine ⟨r % 256, decDigits (r / 16777216) ++ 46 :: (decDigits (r / 65536 % 256) ++ 46 :: decDigits (r / 256 % 256)), by omega, by simp [textL], (stepR 1 _ _ _ _).2 ⟨r / 256 % 256, decDigits (r / 16777216) ++ 46 :: decDigits (r / 65536 % 256), by omega, by simp, (stepR 0 _ _ _ _).2 ⟨r / 65536 % 256, decDigits (r / 16777216), by omega, by simp, (lastR _ _ _ _).2 ⟨r / 16777216, by omega, rfl, by omega⟩⟩⟩⟩
theorem parseR_eq (s : List UInt8) : parseR 4 1 0 s = parseV s := by
  apply Option.ext
  intro r
  rw [parseR_iff, parseV_iff]
theorem parseV_lt {s : List UInt8} {r : Nat} (h : parseV s = some r) : r < 4294967296 := ((parseV_iff _ _).1 h).1
theorem parseV_text (a : Nat) (h : a < 4294967296) : parseV (textL a) = some a := (parseV_iff _ _).2 ⟨h, rfl⟩
theorem text_no (a : Nat) (c : UInt8) (hc : isDig c = false) (hd : c ≠ 46) : c ∉ textL a := by
  unfold textL
  simp [dec_no _ c hc, hd]
theorem text_inj {a b : Nat} (ha : a < 4294967296) (hb : b < 4294967296) (h : textL a = textL b) : a = b := by
  have := parseV_text a ha
  rw [h, parseV_text b hb] at this
  exact (Option.some.inj this).symm
/-! ### Pairs: an address, a mark, a number -/
def pairV (most : Nat) (c : UInt8) (s : List UInt8) : Option (Nat × Nat) :=
  match parseV (cut1 c s).1, numV most (cut1 c s).2.1 with
  | some a, some n => some (a, n)
  | _, _ => none
def pairR (most : Nat) (c : UInt8) (s : List UInt8) : Option (Nat × Nat) :=
  if (cutZ c s).2.2 = false then none else match parseV (cutZ c s).1, numV most (cutZ c s).2.1 with
  | some a, some n => some (a, n)
  | _, _ => none
theorem numV_nil (most : Nat) : numV most [] = none := by simp [numV]
theorem pairV_iff (most : Nat) (c : UInt8) (s : List UInt8) (a n : Nat) (hc : isDig c = false) (hd : c ≠ 46) : pairV most c s = some (a, n) ↔ a < 4294967296 ∧ n ≤ most ∧ textL a ++ c :: decDigits n = s := by
  unfold pairV
  constructor
  · intro h
    rcases cut1_cases c s with ⟨x, y, hs, hx, he⟩ | ⟨hx, he⟩
    · rw [he] at h
      simp only at h
      cases h1 : parseV x with
      | none => simp [h1] at h
      | some p =>
        cases h2 : numV most y with
        | none => simp [h1, h2] at h
        | some q =>
          simp [h1, h2] at h
          obtain ⟨rfl, rfl⟩ := h
          obtain ⟨a1, a2⟩ := (parseV_iff _ _).1 h1
          obtain ⟨b1, b2⟩ := (numV_some _ _ _).1 h2
          exact ⟨a1, b1, by rw [a2, b2]; exact hs.symm⟩
    · rw [he] at h
      cases h1 : parseV s with
      | none => simp [h1] at h
      | some p => simp [h1, numV_nil] at h
  · rintro ⟨ha, hn, rfl⟩
    rw [cut1_app c _ _ (text_no a c hc hd)]
    simp [parseV_text a ha, numV_dec most n hn]
theorem pairR_iff (most : Nat) (c : UInt8) (s : List UInt8) (a n : Nat) (hc : isDig c = false) : pairR most c s = some (a, n) ↔ a < 4294967296 ∧ n ≤ most ∧ textL a ++ c :: decDigits n = s := by
  unfold pairR
  constructor
  · intro h
    rcases cutZ_cases c s with ⟨x, y, hs, hx, he⟩ | ⟨hx, he⟩
    · rw [he] at h
      simp only at h
      cases h1 : parseV x with
      | none => simp [h1] at h
      | some p =>
        cases h2 : numV most y with
        | none => simp [h1, h2] at h
        | some q =>
          simp [h1, h2] at h
          obtain ⟨rfl, rfl⟩ := h
          obtain ⟨a1, a2⟩ := (parseV_iff _ _).1 h1
          obtain ⟨b1, b2⟩ := (numV_some _ _ _).1 h2
          exact ⟨a1, b1, by rw [a2, b2]; exact hs.symm⟩
    · rw [he] at h
      simp at h
  · rintro ⟨ha, hn, rfl⟩
    rw [cutZ_app c _ _ (dec_no n c hc)]
    simp [parseV_text a ha, numV_dec most n hn]
theorem pairR_eq (most : Nat) (c : UInt8) (s : List UInt8) (hc : isDig c = false) (hd : c ≠ 46) : pairR most c s = pairV most c s := by
  apply Option.ext
  rintro ⟨a, n⟩
  rw [pairR_iff most c s a n hc, pairV_iff most c s a n hc hd]
/-- A prefix's text, whether or not it may be. -/
def prefV (s : List UInt8) : Option (Nat × Nat) := pairV 32 47 s
theorem prefV_wide (s : List UInt8) : prefV s = match pairV 255 47 s with
    | some (a, n) => if n ≤ 32 then some (a, n) else none
    | none => none := by
  apply Option.ext
  rintro ⟨a, n⟩
  unfold prefV
  rw [pairV_iff 32 47 s a n (by decide) (by decide)]
  cases h : pairV 255 47 s with
  | none =>
    constructor
    · rintro ⟨h1, h2, h3⟩
      rw [(pairV_iff 255 47 s a n (by decide) (by decide)).2 ⟨h1, by omega, h3⟩] at h
      cases h
    · intro h; cases h
  | some q =>
    obtain ⟨b, m⟩ := q
    obtain ⟨h1, h2, h3⟩ := (pairV_iff 255 47 s b m (by decide) (by decide)).1 h
    constructor
    · rintro ⟨g1, g2, g3⟩
      rw [(pairV_iff 255 47 s a n (by decide) (by decide)).2 ⟨g1, by omega, g3⟩] at h
      obtain ⟨rfl, rfl⟩ := Prod.mk.inj (Option.some.inj h)
      simp [g2]
    · intro hq
      by_cases hm : m ≤ 32
      · simp [hm] at hq
        obtain ⟨rfl, rfl⟩ := hq
        exact ⟨h1, hm, h3⟩
      · simp [hm] at hq
def pointV (s : List UInt8) : Option (Nat × Nat) := pairV 65535 58 s
/-! ### Prefixes -/
/-- How many addresses have the same first bits. -/
def sizeN (b : Nat) : Nat := 2 ^ (32 - b)
def firstN (a b : Nat) : Nat := a / sizeN b * sizeN b
/-- Whether a prefix may be. -/
def mayV (a : Nat) (b : Int) : Bool := decide (0 ≤ b) && decide (b ≤ 32) && decide (a = firstN a b.toNat)
def hasV (a : Nat) (b : Int) (x : Nat) : Bool := mayV a b && decide (firstN x b.toNat = a)
theorem sizeN_pos (b : Nat) : 1 ≤ sizeN b := Nat.one_le_two_pow
end Go.Proofs.YtaaobacmlaaajaaDoor
