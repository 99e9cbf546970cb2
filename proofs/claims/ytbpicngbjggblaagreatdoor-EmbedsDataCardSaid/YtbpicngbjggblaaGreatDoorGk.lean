/- Texts of this proof, together: AddrsP, AddrsA, AddrsB, AddrsC, AddrsD, AddrsF, AddrsG, AddrsR, ShelfNum, AddrsO, AddrsE, AddrsH, AddrsI, AddrsN, AddrsQ. -/
import Derived.Test.YtbpicngbjggblaaGreatDoorGc
import Derived.Test.YtbpicngbjggblaaGreatDoorGb
import Derived.PlainAid
import Derived.Lib.ItoaNum
import Derived.Lib.IndexLaws
import Derived.Lib.Bytealg
import Derived.Test.YtbpicngbjggblaaGreatDoorRows
import Derived.WalkKit
import Derived.ProofKit
import Derived.OpenShut
import Derived.ShutString
import Derived.Below
import Derived.Outline
import Derived.WalkSpells
import Derived.WalkLawsBesides
import Derived.IntWalk
import Derived.Deep.QuietTactic
import Derived.BigQuiet
import Derived.Lib.Hide
import Derived.Shelf.LaysM
import Derived.Shelf.Strconv.Itoa3
import Derived.Shelf.Strconv.AppendInt10
import Derived.OwnWalk
import Derived.Lib.Slices
import Derived.Laws.IdiomStrings
namespace Go.Proofs.YtbpicngbjggblaaGreatDoor
set_option linter.unusedVariables false
set_option linter.unusedSimpArgs false
open Go.Lib
/-- A byte that is a digit. -/
def isDig (c : UInt8) : Bool := decide (48 ≤ c.toNat) && decide (c.toNat ≤ 57)
def valF (n : Nat) (l : List UInt8) : Nat := l.foldl (fun n c => 10 * n + (c.toNat - 48)) n
def valL (l : List UInt8) : Nat := valF 0 l
/-- A number's text, read. -/
def numV (most : Nat) (l : List UInt8) : Option Nat :=
  if (l.all isDig && !l.isEmpty && (l.length == 1 || l.head? != some 48)) = true ∧ valL l ≤ most then some (valL l) else none
theorem valF_ge : ∀ (l : List UInt8) (n : Nat), n ≤ valF n l
  | [], n => Nat.le_refl _
  | c :: r, n => by
    have := valF_ge r (10 * n + (c.toNat - 48))
    show n ≤ valF (10 * n + (c.toNat - 48)) r
    omega
theorem valF_app (a b : List UInt8) (n : Nat) : valF n (a ++ b) = valF (valF n a) b := by simp [valF]
theorem valL_snoc (l : List UInt8) (c : UInt8) : valL (l ++ [c]) = 10 * valL l + (c.toNat - 48) := by simp [valL, valF]
theorem valL_app_ge (a b : List UInt8) : valL a ≤ valL (a ++ b) := by
  unfold valL
  rw [valF_app]
  exact valF_ge _ _
theorem isDig_of (d : Nat) (h : d < 10) : isDig (UInt8.ofNat (48 + d)) = true := by
  have e : (UInt8.ofNat (48 + d)).toNat = 48 + d := by simp; omega
  unfold isDig
  rw [e]
  simp
  omega
theorem digit_back (c : UInt8) (h : isDig c = true) : UInt8.ofNat (48 + (c.toNat - 48)) = c ∧ c.toNat - 48 < 10 := by
  unfold isDig at h
  simp at h
  refine ⟨?_, by omega⟩
  rw [show 48 + (c.toNat - 48) = c.toNat by omega]
  simp
theorem head_app {a b : List UInt8} (h : a ≠ []) : (a ++ b).head? = a.head? := by
  match a, h with
  | x :: r, _ => rfl
theorem dec_props (n : Nat) : (decDigits n).all isDig = true ∧ valL (decDigits n) = n ∧ decDigits n ≠ [] ∧ (1 ≤ n → (decDigits n).head? ≠ some 48) ∧ (n < 10 → (decDigits n).length = 1) := by
  induction n using Nat.strongRecOn with
  | _ n ih =>
    by_cases h : n < 10
    · rw [decDigits_one h]
      have e : (UInt8.ofNat (48 + n)).toNat = 48 + n := by simp; omega
      refine ⟨by rw [List.all_cons, isDig_of n h]; rfl, ?_, by simp, ?_, fun _ => rfl⟩
      · show 10 * 0 + ((UInt8.ofNat (48 + n)).toNat - 48) = n
        rw [e]; omega
      · intro h1 hc
        have hc := congrArg UInt8.toNat (Option.some.inj hc)
        rw [e] at hc
        have : (48 : UInt8).toNat = 48 := rfl
        omega
    · have e : decDigits n = decDigits (n / 10) ++ [UInt8.ofNat (48 + n % 10)] := by rw [decDigits, dif_neg h]
      obtain ⟨h1, h2, h3, h4, _⟩ := ih (n / 10) (by omega)
      have e2 : (UInt8.ofNat (48 + n % 10)).toNat = 48 + n % 10 := by simp; omega
      rw [e]
      refine ⟨by rw [List.all_append, h1, List.all_cons, isDig_of (n % 10) (by omega)]; rfl, ?_, by simp, ?_, fun hc => absurd hc h⟩
      · rw [valL_snoc, h2, e2]; omega
      · intro _
        rw [head_app h3]
        exact h4 (by omega)
theorem valL_pos (l : List UInt8) (hd : l.all isDig = true) (hn : l ≠ []) (hh : l.head? ≠ some 48) : 1 ≤ valL l := by
  match l, hn with
  | c :: r, _ =>
    have hc : isDig c = true := by simp at hd; exact hd.1
    have : valF (10 * 0 + (c.toNat - 48)) r ≥ 10 * 0 + (c.toNat - 48) := valF_ge _ _
    show 1 ≤ valF (10 * 0 + (c.toNat - 48)) r
    unfold isDig at hc
    simp at hc
    have : c.toNat ≠ 48 := by
      intro hc'
      apply hh
      simp
      exact UInt8.toNat_inj.1 hc'
    omega
theorem dec_val (l : List UInt8) : l.all isDig = true → l ≠ [] → (l.length = 1 ∨ l.head? ≠ some 48) → decDigits (valL l) = l := by
  suffices ∀ (n : Nat) (l : List UInt8), l.length = n → l.all isDig = true → l ≠ [] → (l.length = 1 ∨ l.head? ≠ some 48) → decDigits (valL l) = l from this _ l rfl
  intro n
  induction n with
  | zero => intro l hl _ hn; exact absurd (List.length_eq_zero_iff.1 hl) hn
  | succ n ih =>
    intro l hl hd hn hh
    obtain ⟨m, c, rfl⟩ : ∃ m c, l = m ++ [c] := ⟨l.dropLast, l.getLast hn, (List.dropLast_concat_getLast hn).symm⟩
    simp at hl
    rw [List.all_append] at hd
    simp only [Bool.and_eq_true] at hd
    have hc : isDig c = true := by simpa using hd.2
    obtain ⟨b1, b2⟩ := digit_back c hc
    rw [valL_snoc]
    by_cases hm : m = []
    · subst hm
      have e : valL [] = 0 := rfl
      rw [e, decDigits_one (by omega)]
      simp
      simpa using b1
    · have hh' : m.head? ≠ some 48 := by
        rcases hh with h | h
        · simp at h; exact absurd h hm
        · rwa [head_app hm] at h
      have hp := valL_pos m hd.1 hm hh'
      have i := ih m hl hd.1 hm (.inr hh')
      have h10 : ¬ 10 * valL m + (c.toNat - 48) < 10 := by omega
      rw [decDigits, dif_neg h10, show (10 * valL m + (c.toNat - 48)) / 10 = valL m by omega, show (10 * valL m + (c.toNat - 48)) % 10 = c.toNat - 48 by omega, i, b1]
theorem numV_some (most : Nat) (l : List UInt8) (n : Nat) : numV most l = some n ↔ n ≤ most ∧ decDigits n = l := by
  unfold numV
  constructor
  · intro h
    split at h
    · rename_i hc
      obtain ⟨hc, hm⟩ := hc
      simp only [Bool.and_eq_true, Bool.or_eq_true, Bool.not_eq_true', beq_iff_eq, bne_iff_ne] at hc
      have hv := Option.some.inj h
      subst hv
      exact ⟨hm, dec_val l hc.1.1 (by intro hn; rw [hn] at hc; simp at hc) (by rcases hc.2 with h | h; exact .inl h; exact .inr h)⟩
    · cases h
  · rintro ⟨hm, rfl⟩
    obtain ⟨h1, h2, h3, h4, h5⟩ := dec_props n
    rw [if_pos, h2]
    rw [h2]
    refine ⟨?_, hm⟩
    simp only [Bool.and_eq_true, Bool.or_eq_true, Bool.not_eq_true', beq_iff_eq, bne_iff_ne]
    refine ⟨⟨h1, by simpa using h3⟩, ?_⟩
    by_cases h0 : n < 10
    · exact .inl (h5 h0)
    · exact .inr (h4 (by omega))
theorem numV_dec (most n : Nat) (h : n ≤ most) : numV most (decDigits n) = some n := (numV_some _ _ _).2 ⟨h, rfl⟩
theorem numV_le {most : Nat} {l : List UInt8} {n : Nat} (h : numV most l = some n) : n ≤ most := ((numV_some _ _ _).1 h).1
/-- A digit is neither a full stop, nor a slash, nor a colon. -/
theorem dec_no (n : Nat) (c : UInt8) (hc : isDig c = false) : c ∉ decDigits n := by
  intro h
  have := List.all_eq_true.1 (dec_props n).1 c h
  rw [hc] at this
  cases this
def cut1 (c : UInt8) : List UInt8 → List UInt8 × List UInt8 × Bool
  | [] => ([], [], false)
  | x :: r => if x = c then ([], r, true) else (x :: (cut1 c r).1, (cut1 c r).2)
theorem cut1_app (c : UInt8) : ∀ (a b : List UInt8), c ∉ a → cut1 c (a ++ c :: b) = (a, b, true)
  | [], b, _ => by simp [cut1]
  | x :: r, b, h => by
    simp at h
    simp [cut1, cut1_app c r b h.2, Ne.symm h.1]
theorem cut1_none (c : UInt8) : ∀ (a : List UInt8), c ∉ a → cut1 c a = (a, [], false)
  | [], _ => by simp [cut1]
  | x :: r, h => by
    simp at h
    simp [cut1, cut1_none c r h.2, Ne.symm h.1]
theorem mem_split {c : UInt8} : ∀ {l : List UInt8}, c ∈ l → ∃ a b, l = a ++ c :: b ∧ c ∉ a
  | x :: r, h => by
    by_cases hx : c = x
    · subst hx
      exact ⟨[], r, rfl, by simp⟩
    · have h' : c ∈ r := by simpa [hx] using h
      obtain ⟨a, b, rfl, ha⟩ := mem_split h'
      exact ⟨x :: a, b, rfl, by simp [hx, ha]⟩
theorem cut1_cases (c : UInt8) (l : List UInt8) : (∃ a b, l = a ++ c :: b ∧ c ∉ a ∧ cut1 c l = (a, b, true)) ∨ (c ∉ l ∧ cut1 c l = (l, [], false)) := by
  by_cases h : c ∈ l
  · obtain ⟨a, b, rfl, ha⟩ := mem_split h
    exact .inl ⟨a, b, rfl, ha, cut1_app c a b ha⟩
  · exact .inr ⟨h, cut1_none c l h⟩
/-- The last one; none: two texts of no bytes. -/
def cutZ (c : UInt8) (l : List UInt8) : List UInt8 × List UInt8 × Bool :=
  if c ∈ l then ((cut1 c l.reverse).2.1.reverse, (cut1 c l.reverse).1.reverse, true) else ([], [], false)
/-- As the program reads them: the first number first. -/
def parseC : Nat → Nat → List UInt8 → Option Nat
  | 0, a, _ => some a
  | k + 1, a, s => match numV 255 (cut1 46 s).1 with
    | none => none
    | some n => if (cut1 46 s).2.2 = decide (k = 0) then none else parseC k (a * 256 + n) (cut1 46 s).2.1
def parseV (s : List UInt8) : Option Nat := parseC 4 0 s
theorem dot : isDig 46 = false := by decide
theorem stepC (k a : Nat) (s : List UInt8) (r : Nat) : parseC (k + 2) a s = some r ↔ ∃ n b, n ≤ 255 ∧ s = decDigits n ++ 46 :: b ∧ parseC (k + 1) (a * 256 + n) b = some r := by
  constructor
  · intro h
    unfold parseC at h
    rcases cut1_cases 46 s with ⟨x, y, hs, hx, hc⟩ | ⟨hx, hc⟩
    · rw [hc] at h
      simp only at h
      cases hn : numV 255 x with
      | none => rw [hn] at h; simp at h
      | some n =>
        rw [hn] at h
        simp at h
        obtain ⟨h1, h2⟩ := (numV_some _ _ _).1 hn
        exact ⟨n, y, h1, by rw [h2]; exact hs, h⟩
    · rw [hc] at h
      cases hn : numV 255 s with
      | none => simp [hn] at h
      | some n => simp [hn] at h
  · rintro ⟨n, b, hn, rfl, h⟩
    unfold parseC
    rw [cut1_app 46 _ _ (dec_no n 46 dot)]
    simp only [numV_dec 255 n hn]
    simpa using h
theorem lastC (a : Nat) (s : List UInt8) (r : Nat) : parseC 1 a s = some r ↔ ∃ n, n ≤ 255 ∧ s = decDigits n ∧ a * 256 + n = r := by
  constructor
  · intro h
    unfold parseC at h
    rcases cut1_cases 46 s with ⟨x, y, hs, hx, hc⟩ | ⟨hx, hc⟩
    · rw [hc] at h
      cases hn : numV 255 x with
      | none => simp [hn] at h
      | some n => simp [hn] at h
    · rw [hc] at h
      simp only at h
      cases hn : numV 255 s with
      | none => rw [hn] at h; simp at h
      | some n =>
        rw [hn] at h
        simp [parseC] at h
        obtain ⟨h1, h2⟩ := (numV_some _ _ _).1 hn
        exact ⟨n, h1, h2.symm, h⟩
  · rintro ⟨n, hn, rfl, h⟩
    unfold parseC
    rw [cut1_none 46 _ (dec_no n 46 dot)]
    simp only [numV_dec 255 n hn]
    simp [parseC, h]
/-- An address's text. -/
def textL (a : Nat) : List UInt8 := decDigits (a / 16777216) ++ 46 :: (decDigits (a / 65536 % 256) ++ 46 :: (decDigits (a / 256 % 256) ++ 46 :: decDigits (a % 256)))
theorem parseV_iff (s : List UInt8) (r : Nat) : parseV s = some r ↔ r < 4294967296 ∧ textL r = s := by
  unfold parseV
  rw [show (4 : Nat) = 2 + 2 from rfl, stepC]
  constructor
  · rintro ⟨n1, b1, h1, rfl, g1⟩
    obtain ⟨n2, b2, h2, e2, g2⟩ := (stepC 1 _ _ _).1 g1
    obtain ⟨n3, b3, h3, e3, g3⟩ := (stepC 0 _ _ _).1 g2
    obtain ⟨n4, h4, e4, e5⟩ := (lastC _ _ _).1 g3
    clear g1 g2 g3
    subst e4; subst e3; subst e2; subst e5
    refine ⟨by omega, ?_⟩
    unfold textL
    congr 1
    · congr 1; omega
    · congr 1
      congr 1
      · congr 1; omega
      · congr 1
        congr 1
        · congr 1; omega
        · congr 1
          congr 1; omega
  · rintro ⟨hr, rfl⟩
    exact ⟨r / 16777216, _, by omega, rfl, (stepC 1 _ _ _).2 ⟨r / 65536 % 256, _, by omega, rfl, (stepC 0 _ _ _).2 ⟨r / 256 % 256, _, by omega, rfl, (lastC _ _ _).2 ⟨r % 256, by omega, rfl, by omega⟩⟩⟩⟩
theorem parseV_lt {s : List UInt8} {r : Nat} (h : parseV s = some r) : r < 4294967296 := ((parseV_iff _ _).1 h).1
theorem parseV_text (a : Nat) (h : a < 4294967296) : parseV (textL a) = some a := (parseV_iff _ _).2 ⟨h, rfl⟩
theorem text_no (a : Nat) (c : UInt8) (hc : isDig c = false) (hd : c ≠ 46) : c ∉ textL a := by
  unfold textL
  simp [dec_no _ c hc, hd]
def pairV (most : Nat) (c : UInt8) (s : List UInt8) : Option (Nat × Nat) :=
  match parseV (cut1 c s).1, numV most (cut1 c s).2.1 with
  | some a, some n => some (a, n)
  | _, _ => none
theorem numV_nil (most : Nat) : numV most [] = none := by simp [numV]
theorem pairV_iff (most : Nat) (c : UInt8) (s : List UInt8) (a n : Nat) (hc : isDig c = false) (hd : c ≠ 46) : pairV most c s = some (a, n) ↔ a < 4294967296 ∧ n ≤ most ∧ textL a ++ c :: decDigits n = s := by
  unfold pairV
  constructor
  · intro h
    rcases cut1_cases c s with ⟨x, y, hs, hx, he⟩ | ⟨hx, he⟩
    · rw [he] at h
      simp only at h
      cases h1 : parseV x with
      | none => simp [h1] at h
      | some p =>
        cases h2 : numV most y with
        | none => simp [h1, h2] at h
        | some q =>
          simp [h1, h2] at h
          obtain ⟨rfl, rfl⟩ := h
          obtain ⟨a1, a2⟩ := (parseV_iff _ _).1 h1
          obtain ⟨b1, b2⟩ := (numV_some _ _ _).1 h2
          exact ⟨a1, b1, by rw [a2, b2]; exact hs.symm⟩
    · rw [he] at h
      cases h1 : parseV s with
      | none => simp [h1] at h
      | some p => simp [h1, numV_nil] at h
  · rintro ⟨ha, hn, rfl⟩
    rw [cut1_app c _ _ (text_no a c hc hd)]
    simp [parseV_text a ha, numV_dec most n hn]
/-- A prefix's text, whether or not it may be. -/
def prefV (s : List UInt8) : Option (Nat × Nat) := pairV 32 47 s
theorem prefV_wide (s : List UInt8) : prefV s = match pairV 255 47 s with
    | some (a, n) => if n ≤ 32 then some (a, n) else none
    | none => none := by
  apply Option.ext
  rintro ⟨a, n⟩
  unfold prefV
  rw [pairV_iff 32 47 s a n (by decide) (by decide)]
  cases h : pairV 255 47 s with
  | none =>
    constructor
    · rintro ⟨h1, h2, h3⟩
      rw [(pairV_iff 255 47 s a n (by decide) (by decide)).2 ⟨h1, by omega, h3⟩] at h
      cases h
    · intro h; cases h
  | some q =>
    obtain ⟨b, m⟩ := q
    obtain ⟨h1, h2, h3⟩ := (pairV_iff 255 47 s b m (by decide) (by decide)).1 h
    constructor
    · rintro ⟨g1, g2, g3⟩
      rw [(pairV_iff 255 47 s a n (by decide) (by decide)).2 ⟨g1, by omega, g3⟩] at h
      obtain ⟨rfl, rfl⟩ := Prod.mk.inj (Option.some.inj h)
      simp [g2]
    · intro hq
      by_cases hm : m ≤ 32
      · simp [hm] at hq
        obtain ⟨rfl, rfl⟩ := hq
        exact ⟨h1, hm, h3⟩
      · simp [hm] at hq
def pointV (s : List UInt8) : Option (Nat × Nat) := pairV 65535 58 s
/-- How many addresses have the same first bits. -/
def sizeN (b : Nat) : Nat := 2 ^ (32 - b)
def firstN (a b : Nat) : Nat := a / sizeN b * sizeN b
/-- Whether a prefix may be. -/
def mayV (a : Nat) (b : Int) : Bool := decide (0 ≤ b) && decide (b ≤ 32) && decide (a = firstN a b.toNat)
def hasV (a : Nat) (b : Int) (x : Nat) : Bool := mayV a b && decide (firstN x b.toNat = a)
end Go.Proofs.YtbpicngbjggblaaGreatDoor
namespace Go.Proofs.YtbpicngbjggblaaGreatDoor
set_option maxHeartbeats 2000000
set_option maxRecDepth 100000
set_option linter.unusedVariables false
set_option linter.unusedSimpArgs false
open Go.ChangeShapes Go.WideShapes Go.ChangeAt Go.RowKit Go.PlainAid
theorem drewN_below {B : Nat} {a w : World} (h : Below B a w) (n : Nat) : Below B a (w.drewN n) := ⟨h.os, h.tape, h.output, h.size, h.block⟩
end Go.Proofs.YtbpicngbjggblaaGreatDoor
namespace Go.Proofs.YtbpicngbjggblaaGreatDoor
set_option maxHeartbeats 1000000
set_option maxRecDepth 100000
set_option linter.unusedVariables false
set_option linter.unusedSimpArgs false
open Go.ChangeShapes Go.WideShapes Go.ChangeAt Go.RowKit Go.PlainAid
theorem getD_lt' (l : List UInt8) (k : Nat) (h : k < l.length) : l.getD k 0 = l[k] := by simp [List.getD, h]
theorem take_snoc (l : List UInt8) (k : Nat) (h : k < l.length) : l.take (k + 1) = l.take k ++ [l.getD k 0] := by
  rw [getD_lt' l k h, List.take_add_one, List.getElem?_eq_getElem h]; rfl
end Go.Proofs.YtbpicngbjggblaaGreatDoor
namespace Go.Proofs.YtbpicngbjggblaaGreatDoor
set_option maxHeartbeats 2000000
set_option maxRecDepth 100000
set_option linter.unusedVariables false
set_option linter.unusedSimpArgs false
open Go.ChangeShapes Go.WideShapes Go.ChangeAt Go.RowKit Go.PlainAid
theorem isDig_iff (c : UInt8) : isDig c = true ↔ 48 ≤ c.toNat ∧ c.toNat ≤ 57 := by simp [isDig]
theorem num_bad {most : Nat} {l : List UInt8} {k : Nat} (hk : k < l.length) (h : isDig (l.getD k 0) = false) : numV most l = none := by
  unfold numV
  rw [if_neg]
  intro hc
  simp only [Bool.and_eq_true] at hc
  have := List.all_eq_true.1 hc.1.1.1 (l.getD k 0) (by rw [getD_lt' l k hk]; exact List.getElem_mem hk)
  rw [h] at this
  cases this
theorem num_big {most : Nat} {l : List UInt8} {k : Nat} (h : most < valL (l.take k)) : numV most l = none := by
  unfold numV
  rw [if_neg]
  intro hc
  have := valL_app_ge (l.take k) (l.drop k)
  rw [List.take_append_drop] at this
  omega
theorem num_lead {most : Nat} {l : List UInt8} (h1 : 1 < l.length) (h2 : l.getD 0 0 = 48) : numV most l = none := by
  match l, h1 with
  | x :: y :: r, _ =>
    have : x = 48 := by simpa using h2
    subst this
    unfold numV
    rw [if_neg]
    simp
theorem num_yes {most : Nat} {l : List UInt8} (h0 : 1 ≤ l.length) (h1 : l.length = 1 ∨ ¬ l.getD 0 0 = 48) (h2 : l.all isDig = true) (h3 : valL l ≤ most) : numV most l = some (valL l) := by
  match l, h0 with
  | x :: r, _ =>
    unfold numV
    rw [if_pos]
    refine ⟨?_, h3⟩
    rw [h2]
    simp at h1 ⊢
    exact h1
theorem u16_quo (x y : Int) (h : 0 ≤ x ∧ x ≤ 65535 ∧ 1 ≤ y) : IntKind.u16.wrap (x.tdiv y) = x / y := by
  rw [Int.tdiv_eq_ediv_of_nonneg h.1]
  have h1 : 0 ≤ x / y := Int.ediv_nonneg h.1 (by omega)
  have h2 : x / y ≤ x := Int.ediv_le_self y h.1
  exact IntWalk.u16_in _ (by omega)
def numN (most : Nat) (l : List UInt8) : Nat := (numV most l).getD 0
theorem dec_len (u : Nat) : (Lib.decDigits u).length ≤ u + 1 := by
  rw [Lib.decDigits_length]
  induction u using Nat.strongRecOn with
  | _ u ih =>
    by_cases h : u < 10
    · rw [Lib.nDigits_small h]; omega
    · rw [Lib.nDigits_big h]
      have := ih (u / 10) (by omega)
      omega
theorem firstN_le (a b : Nat) : firstN a b ≤ a := Nat.div_mul_le_self _ _
theorem first_int (a b : Nat) (ha : a < 4294967296) : (a : Int) / 2 ^ (32 - b) * 2 ^ (32 - b) % 4294967296 = ((firstN a b : Nat) : Int) := by
  have e : (a : Int) / 2 ^ (32 - b) * 2 ^ (32 - b) = ((firstN a b : Nat) : Int) := by unfold firstN sizeN; push_cast; rfl
  have := firstN_le a b
  rw [e]; omega
theorem mayV_low {a : Nat} {b : Int} (h : b < 0) : mayV a b = false := by
  have : ¬ 0 ≤ b := by omega
  simp [mayV, this]
theorem mayV_high {a : Nat} {b : Int} (h : 32 < b) : mayV a b = false := by
  have : ¬ b ≤ 32 := by omega
  simp [mayV, this]
theorem mayV_in {a n : Nat} (h : n ≤ 32) : mayV a (n : Int) = decide (a = firstN a n) := by
  have h1 : (0 : Int) ≤ (n : Int) := by omega
  have h2 : (n : Int) ≤ 32 := by omega
  simp [mayV]
  omega
end Go.Proofs.YtbpicngbjggblaaGreatDoor
namespace Go.Proofs
set_option maxHeartbeats 1000000
set_option maxRecDepth 100000
open Go.Shelf
def Tryz.laysM171_ren : Go.Shelf.Ren := ⟨fun | 171 => 114 | 243 => 138 | 246 => 149 | 283 => 150 | 284 => 151 | 285 => 152 | 286 => 153 | 129 => 155 | 317 => 154 | 318 => 156 | 319 => 157 | 320 => 158 | 337 => 159 | 338 => 160 | n => n, fun | 3 => 3 | 9 => 9 | 2 => 2 | 4 => 4 | 171 => 200 | 0 => 0 | 53 => 194 | 37 => 45 | 5 => 5 | 173 => 203 | 212 => 207 | 51 => 22 | 20 => 20 | 213 => 208 | 46 => 44 | 232 => 212 | 233 => 213 | n => n, fun | 17 => 0 | 18 => 1 | 19 => 2 | n => n⟩
theorem Tryz.laysM171 : Go.Proofs.LaysM.n171 Tryz.prog Tryz.laysM171_ren := {
  mixed := by kernel_rfl
  f129 := Tryz.func155.trans (congrArg some (by kernel_rfl))
  f171 := Tryz.func114.trans (congrArg some (by kernel_rfl))
  f243 := Tryz.func138.trans (congrArg some (by kernel_rfl))
  f246 := Tryz.func149.trans (congrArg some (by kernel_rfl))
  f283 := Tryz.func150.trans (congrArg some (by kernel_rfl))
  f284 := Tryz.func151.trans (congrArg some (by kernel_rfl))
  f285 := Tryz.func152.trans (congrArg some (by kernel_rfl))
  f286 := Tryz.func153.trans (congrArg some (by kernel_rfl))
  f317 := Tryz.func154.trans (congrArg some (by kernel_rfl))
  f318 := Tryz.func156.trans (congrArg some (by kernel_rfl))
  f319 := Tryz.func157.trans (congrArg some (by kernel_rfl))
  f320 := Tryz.func158.trans (congrArg some (by kernel_rfl))
  f337 := Tryz.func159.trans (congrArg some (by kernel_rfl))
  f338 := Tryz.func160.trans (congrArg some (by kernel_rfl))
  t0 := Tryz.underlying0
  a0 := Tryz.isAgg0
  z0 := Tryz.sizeOf0
  v0 := Tryz.zeroValue0
  t2 := Tryz.underlying2
  a2 := Tryz.isAgg2
  z2 := Tryz.sizeOf2
  v2 := Tryz.zeroValue2
  t3 := Tryz.underlying3
  a3 := Tryz.isAgg3
  z3 := Tryz.sizeOf3
  v3 := Tryz.zeroValue3
  t4 := Tryz.underlying4
  a4 := Tryz.isAgg4
  z4 := Tryz.sizeOf4
  v4 := Tryz.zeroValue4
  t5 := Tryz.underlying5
  a5 := Tryz.isAgg5
  z5 := Tryz.sizeOf5
  v5 := Tryz.zeroValue5
  t9 := Tryz.underlying9
  a9 := Tryz.isAgg9
  z9 := Tryz.sizeOf9
  v9 := Tryz.zeroValue9
  t20 := Tryz.underlying20
  a20 := Tryz.isAgg20
  z20 := Tryz.sizeOf20
  v20 := Tryz.zeroValue20
  t37 := Tryz.underlying45
  a37 := Tryz.isAgg45
  z37 := Tryz.sizeOf45
  v37 := Tryz.zeroValue45
  t46 := Tryz.underlying44
  a46 := Tryz.isAgg44
  z46 := Tryz.sizeOf44
  v46 := Tryz.zeroValue44
  t51 := Tryz.underlying22
  a51 := Tryz.isAgg22
  z51 := Tryz.sizeOf22
  v51 := Tryz.zeroValue22
  t53 := Tryz.underlying194
  a53 := Tryz.isAgg194
  z53 := Tryz.sizeOf194
  v53 := Tryz.zeroValue194
  t171 := Tryz.underlying200
  a171 := Tryz.isAgg200
  z171 := Tryz.sizeOf200
  v171 := Tryz.zeroValue200
  t173 := Tryz.underlying203
  a173 := Tryz.isAgg203
  z173 := Tryz.sizeOf203
  v173 := Tryz.zeroValue203
  t212 := Tryz.underlying207
  a212 := Tryz.isAgg207
  z212 := Tryz.sizeOf207
  v212 := Tryz.zeroValue207
  t213 := Tryz.underlying208
  a213 := Tryz.isAgg208
  z213 := Tryz.sizeOf208
  t232 := Tryz.underlying212
  a232 := Tryz.isAgg212
  z232 := Tryz.sizeOf212
  v232 := Tryz.zeroValue212
  t233 := Tryz.underlying213
  a233 := Tryz.isAgg213
  z233 := Tryz.sizeOf213
  v233 := Tryz.zeroValue213
  g17 := by kernel_rfl
  g18 := by kernel_rfl
  g19 := by kernel_rfl
  i0 := by kernel_rfl
  i2 := by kernel_rfl
  i3 := by kernel_rfl
  i4 := by kernel_rfl
  i5 := by kernel_rfl
  i9 := by kernel_rfl
  i20 := by kernel_rfl
  i37 := by kernel_rfl
  i46 := by kernel_rfl
  i51 := by kernel_rfl
  i53 := by kernel_rfl
  i171 := by kernel_rfl
  i173 := by kernel_rfl
  i212 := by kernel_rfl
  i232 := by kernel_rfl
  i233 := by kernel_rfl
  m17 := by kernel_rfl
  m18 := by kernel_rfl
  m19 := by kernel_rfl }
def Tryz.laysM288_ren : Go.Shelf.Ren := ⟨fun | 288 => 148 | 283 => 150 | 284 => 151 | 285 => 152 | 286 => 153 | 129 => 155 | 317 => 154 | 318 => 156 | 319 => 157 | 320 => 158 | 337 => 159 | 338 => 160 | n => n, fun | 37 => 45 | 53 => 194 | 3 => 3 | 4 => 4 | 9 => 9 | 171 => 200 | 0 => 0 | 173 => 203 | 212 => 207 | 51 => 22 | 5 => 5 | 20 => 20 | 213 => 208 | 46 => 44 | 232 => 212 | 233 => 213 | n => n, fun | 17 => 0 | 18 => 1 | 19 => 2 | n => n⟩
theorem Tryz.laysM288 : Go.Proofs.LaysM.n288 Tryz.prog Tryz.laysM288_ren := {
  mixed := by kernel_rfl
  f129 := Tryz.func155.trans (congrArg some (by kernel_rfl))
  f283 := Tryz.func150.trans (congrArg some (by kernel_rfl))
  f284 := Tryz.func151.trans (congrArg some (by kernel_rfl))
  f285 := Tryz.func152.trans (congrArg some (by kernel_rfl))
  f286 := Tryz.func153.trans (congrArg some (by kernel_rfl))
  f288 := Tryz.func148.trans (congrArg some (by kernel_rfl))
  f317 := Tryz.func154.trans (congrArg some (by kernel_rfl))
  f318 := Tryz.func156.trans (congrArg some (by kernel_rfl))
  f319 := Tryz.func157.trans (congrArg some (by kernel_rfl))
  f320 := Tryz.func158.trans (congrArg some (by kernel_rfl))
  f337 := Tryz.func159.trans (congrArg some (by kernel_rfl))
  f338 := Tryz.func160.trans (congrArg some (by kernel_rfl))
  t0 := Tryz.underlying0
  a0 := Tryz.isAgg0
  z0 := Tryz.sizeOf0
  v0 := Tryz.zeroValue0
  t3 := Tryz.underlying3
  a3 := Tryz.isAgg3
  z3 := Tryz.sizeOf3
  v3 := Tryz.zeroValue3
  t4 := Tryz.underlying4
  a4 := Tryz.isAgg4
  z4 := Tryz.sizeOf4
  v4 := Tryz.zeroValue4
  t5 := Tryz.underlying5
  a5 := Tryz.isAgg5
  z5 := Tryz.sizeOf5
  v5 := Tryz.zeroValue5
  t9 := Tryz.underlying9
  a9 := Tryz.isAgg9
  z9 := Tryz.sizeOf9
  v9 := Tryz.zeroValue9
  t20 := Tryz.underlying20
  a20 := Tryz.isAgg20
  z20 := Tryz.sizeOf20
  v20 := Tryz.zeroValue20
  t37 := Tryz.underlying45
  a37 := Tryz.isAgg45
  z37 := Tryz.sizeOf45
  v37 := Tryz.zeroValue45
  t46 := Tryz.underlying44
  a46 := Tryz.isAgg44
  z46 := Tryz.sizeOf44
  v46 := Tryz.zeroValue44
  t51 := Tryz.underlying22
  a51 := Tryz.isAgg22
  z51 := Tryz.sizeOf22
  v51 := Tryz.zeroValue22
  t53 := Tryz.underlying194
  a53 := Tryz.isAgg194
  z53 := Tryz.sizeOf194
  v53 := Tryz.zeroValue194
  t171 := Tryz.underlying200
  a171 := Tryz.isAgg200
  z171 := Tryz.sizeOf200
  v171 := Tryz.zeroValue200
  t173 := Tryz.underlying203
  a173 := Tryz.isAgg203
  z173 := Tryz.sizeOf203
  v173 := Tryz.zeroValue203
  t212 := Tryz.underlying207
  a212 := Tryz.isAgg207
  z212 := Tryz.sizeOf207
  v212 := Tryz.zeroValue207
  t213 := Tryz.underlying208
  a213 := Tryz.isAgg208
  z213 := Tryz.sizeOf208
  t232 := Tryz.underlying212
  a232 := Tryz.isAgg212
  z232 := Tryz.sizeOf212
  v232 := Tryz.zeroValue212
  t233 := Tryz.underlying213
  a233 := Tryz.isAgg213
  z233 := Tryz.sizeOf213
  v233 := Tryz.zeroValue213
  g17 := by kernel_rfl
  g18 := by kernel_rfl
  g19 := by kernel_rfl
  i0 := by kernel_rfl
  i3 := by kernel_rfl
  i4 := by kernel_rfl
  i5 := by kernel_rfl
  i9 := by kernel_rfl
  i20 := by kernel_rfl
  i37 := by kernel_rfl
  i46 := by kernel_rfl
  i51 := by kernel_rfl
  i53 := by kernel_rfl
  i171 := by kernel_rfl
  i173 := by kernel_rfl
  i212 := by kernel_rfl
  i232 := by kernel_rfl
  i233 := by kernel_rfl
  m17 := by kernel_rfl
  m18 := by kernel_rfl
  m19 := by kernel_rfl }
end Go.Proofs
namespace Go.Proofs.YtbpicngbjggblaaGreatDoor
set_option linter.unusedVariables false
set_option linter.unusedSimpArgs false
open Go.ChangeShapes Go.WideShapes Go.ChangeAt Go.RowKit Go.PlainAid
/-- The library's table of powers of ten reads as its initialiser lays it. -/
def Tab (w : World) : Prop := Lib.TabIs Tryz.prog w "internal/strconv.uint64pow10" .u64 Lib.pow10Tab
theorem Tab.on {w w' : World} (h : Tab w) (hb : Below w.heap.size w w') : Tab w' := (Lib.tabBelow_of_tabIs h) w' hb
theorem itoa_ (n : Nat) (w : World) (hn : n ≤ 9223372036854775807) (ht : Tab w) :
    Cw_ 114 #[.int .i64 (n : Int)] (.string (str (Lib.decDigits n))) w := by
  have h := Any.strconv_Itoa Tryz.laysM171 (n : Int) (by omega) (by omega) w ht
  rw [Lib.itoa_nonneg] at h
  refine h.mono ?_
  rintro e w' ⟨rfl, k, os, rfl⟩
  exact ⟨rfl, Lib.below_grow _ _ (Nat.le_refl _) _ _⟩
theorem appendIn_ (B n u : Nat) (hu : u < 18446744073709551616) (v : Value) (xs : List Value) (w : World) (hown : w.ownsRow B 5 1 v n xs) (hB : B ≤ w.heap.size) (hlim : n + 20 ≤ 140737488355328) (ht : Tab w) :
    Calls Tryz.prog 148 #[v, .int .u64 (u : Int), .int .i64 10] w fun e w' => ∃ v', e = .returned v' ∧ w'.ownsRow B 5 1 v' (n + (Lib.decDigits u).length) (xs ++ Lib.byteCells (Lib.decDigits u)) ∧ Below B w w' := by
  refine (Any.internal_strconv_AppendUint_10 Tryz.laysM288 B n u hu v xs w hown hB hlim ht).mono ?_
  rintro e w' ⟨v', rfl, h1, h2, _⟩
  exact ⟨v', rfl, h1, h2⟩
theorem append_ (B n u : Nat) (hu : u < 18446744073709551616) (v : Value) (xs : List Value) (w : World) (hown : w.ownsRow B 5 1 v n xs) (hB : B ≤ w.heap.size) (hlim : n + 20 ≤ 140737488355328) (ht : Tab w) :
    Calls Tryz.prog 137 #[v, .int .u64 (u : Int), .int .i64 10] w fun e w' => ∃ v', e = .returned v' ∧ w'.ownsRow B 5 1 v' (n + (Lib.decDigits u).length) (xs ++ Lib.byteCells (Lib.decDigits u)) ∧ Below B w w' := by
  go_enter Tryz.func137, Tryz.ntmps137
  go_wp2_with (go_at_call 148; refine (appendIn_ B n u hu v xs _ hown hB hlim ht).mono ?_; rintro e w1 ⟨v1, rfl, h1, b1⟩)
  go_ret
  exact ⟨v1, rfl, h1, b1⟩
end Go.Proofs.YtbpicngbjggblaaGreatDoor
namespace Go.Proofs.YtbpicngbjggblaaGreatDoor
set_option maxHeartbeats 4000000
set_option maxRecDepth 100000
set_option linter.unusedVariables false
set_option linter.unusedSimpArgs false
open Go.ChangeShapes Go.WideShapes Go.ChangeAt Go.RowKit Go.PlainAid
theorem infoByte : (Tryz.prog.info? 5).map (fun i => (i.zero, i.size, i.bytes)) = some (some (.int .u8 0), 1, 1) := by kernel_rfl
/-- What stands there behind so many numbers. -/
def preL (a : Nat) : Nat → List UInt8
  | 0 => []
  | 1 => Lib.decDigits (a / 16777216) ++ [46]
  | 2 => Lib.decDigits (a / 16777216) ++ [46] ++ (Lib.decDigits (a / 65536 % 256) ++ [46])
  | 3 => Lib.decDigits (a / 16777216) ++ [46] ++ (Lib.decDigits (a / 65536 % 256) ++ [46]) ++ (Lib.decDigits (a / 256 % 256) ++ [46])
  | _ => textL a
def digB (a : Nat) : Nat → Nat
  | 0 => a / 16777216
  | 1 => a / 65536 % 256
  | 2 => a / 256 % 256
  | _ => a % 256
theorem preL_next (a : Nat) : ∀ i, i < 3 → preL a (i + 1) = preL a i ++ Lib.decDigits (digB a i) ++ [46]
  | 0, _ => by simp [preL, digB]
  | 1, _ => by simp [preL, digB]
  | 2, _ => by simp [preL, digB]
theorem preL_last (a : Nat) : textL a = preL a 3 ++ Lib.decDigits (digB a 3) := by simp [preL, digB, textL]
theorem preL_len (a : Nat) (ha : a < 4294967296) : ∀ i, i ≤ 3 → (preL a i).length ≤ 10000 := by
  have h1 := dec_len (a / 16777216)
  have h2 := dec_len (a / 65536 % 256)
  have h3 := dec_len (a / 256 % 256)
  intro i hi
  match i, hi with
  | 0, _ => simp [preL]
  | 1, _ => simp [preL]; omega
  | 2, _ => simp [preL]; omega
  | 3, _ => simp [preL]; omega
theorem textL_len (a : Nat) (ha : a < 4294967296) : (textL a).length ≤ 20000 := by
  have h1 := dec_len (a / 16777216)
  have h2 := dec_len (a / 65536 % 256)
  have h3 := dec_len (a / 256 % 256)
  have h4 := dec_len (a % 256)
  simp [textL]; omega
theorem text_ (a : Nat) (w : World) (ha : a < 4294967296) (ht : Tab w) :
    Cw_ 113 #[.int .u32 (a : Int)] (.string (str (textL a))) w := by
  obtain ⟨i0, hi, hz0, hz1, hz2⟩ := info_parts infoByte
  go_enter Tryz.func113, Tryz.ntmps113
  go_wp2_with (at_make; refine wpList_make_own _ rfl _ _ 45 rfl w.heap.size 5 i0 (.int .u8 0) 1 Tryz.underlying45 hi hz0 hz1 _ _ _ 15 rfl rfl (by omega) ?b2 ?b3 (Nat.le_refl _) ?_)
  case b2 => rw [hz2]; omega
  case b3 => unfold maxLen; omega
  intro w0 hown0 hgrow0
  have B0 : Below w.heap.size w w0 := (Below.refl _ _).grown hgrow0 (Nat.le_refl _) (fun k h => by cases h)
  go_wp2
  go_loopw [3, 4] (fun bs si wr => ∃ (i : Nat) (z : Int) (v : Value), i ≤ 4 ∧ z = 24 - 8 * (i : Int) ∧ si = .int .i64 z ∧ bs = v ∧ wr.ownsRow w.heap.size 5 1 v (preL a i).length (Lib.byteCells (preL a i)) ∧ Below w.heap.size w wr)
    (fun _ si _ => (intOf si + 8).toNat)
  case atStart => exact ⟨0, 24, _, by omega, by omega, rfl, rfl, hown0, B0⟩
  case round =>
    obtain ⟨i, z, v, hi4, hz, rfl, rfl, hown, B⟩ := hrel
    clear hown0 hgrow0 B0
    have hB := B.size
    have htw := ht.on B
    match i, hi4 with
    | 0, _ =>
      have hz' : z = 24 := by omega
      subst hz'
      clear hz
      have hlen := preL_len a ha 0 (by omega)
      have hdl := dec_len (a / 16777216)
      have hnx : Hid (preL a 1 = preL a 0 ++ Lib.decDigits (a / 16777216) ++ [46]) := preL_next a 0 (by omega)
      go_wp2_with fail
      refine (append_ w.heap.size (preL a 0).length (a / 16777216) (by omega) u3 _ wr hown hB (by omega) htw).mono ?_
      rintro e w1 ⟨v1, rfl, hown1, b1⟩
      have B1 := B.trans b1
      rw [← Lib.byteCells_append, ← List.length_append] at hown1
      have hlen1 : (preL a 0 ++ Lib.decDigits (a / 16777216)).length ≤ 20000000 := by rw [List.length_append]; omega
      obtain ⟨ls, hls⟩ : ∃ ls, ls = preL a 0 ++ Lib.decDigits (a / 16777216) := ⟨_, rfl⟩
      rw [← hls] at hown1 hlen1
      have HLS := Lib.hid hls
      clear hls hown b1 B hlen hdl
      go_wp2_with (at_builtin; refine wpList_append_own _ rfl _ _ 45 rfl w.heap.size 5 i0 (.int .u8 0) 1 1 Tryz.underlying45 hi hz0 hz1 hz2 rfl (by decide) _ _ _ rfl (hown1.alloc _) ⟨w1.heap.size, 0, none⟩ 1 1 [Value.int .u8 46] rfl rfl (by intro j u' hj; match j, hj with | 0, hj => simp at hj; subst hj; simp [Addr.add]) (by intro u' hu'; simp at hu'; subst hu'; rfl) (by unfold maxLen; omega) (by omega) (by have := B1.size; simp; omega) ?_)
      intro v2 w2 hown2 hgrow _
      have B2 : Below w.heap.size w w2 := (B1.alloc B1.size _).grown hgrow (by have := B1.size; simp; omega) (fun k hk => (hown1.lt k hk).1)
      have eL : Lib.byteCells ls ++ [Value.int .u8 46] = Lib.byteCells (ls ++ [46]) := by simp [Lib.byteCells]
      have eN : ls.length + 1 = (ls ++ [46]).length := by simp
      rw [eL, eN] at hown2
      have hown3 : w2.ownsRow w.heap.size 5 1 v2 (preL a 1).length (Lib.byteCells (preL a 1)) := by rw [hnx.out, ← HLS.out]; exact hown2
      clear hown2 hown1 hgrow B1 eL eN
      go_wp2
      go_roundw
      case rel => exact ⟨1, 16, v2, by omega, by omega, rfl, rfl, hown3, B2⟩
      case measure => simp [intOf]
    | 1, _ =>
      have hz' : z = 16 := by omega
      subst hz'
      clear hz
      have hlen := preL_len a ha 1 (by omega)
      have hdl := dec_len (a / 65536 % 256)
      have hnx : Hid (preL a 2 = preL a 1 ++ Lib.decDigits (a / 65536 % 256) ++ [46]) := preL_next a 1 (by omega)
      go_wp2_with fail
      refine (append_ w.heap.size (preL a 1).length (a / 65536 % 256) (by omega) u3 _ wr hown hB (by omega) htw).mono ?_
      rintro e w1 ⟨v1, rfl, hown1, b1⟩
      have B1 := B.trans b1
      rw [← Lib.byteCells_append, ← List.length_append] at hown1
      have hlen1 : (preL a 1 ++ Lib.decDigits (a / 65536 % 256)).length ≤ 20000000 := by rw [List.length_append]; omega
      obtain ⟨ls, hls⟩ : ∃ ls, ls = preL a 1 ++ Lib.decDigits (a / 65536 % 256) := ⟨_, rfl⟩
      rw [← hls] at hown1 hlen1
      have HLS := Lib.hid hls
      clear hls hown b1 B hlen hdl
      go_wp2_with (at_builtin; refine wpList_append_own _ rfl _ _ 45 rfl w.heap.size 5 i0 (.int .u8 0) 1 1 Tryz.underlying45 hi hz0 hz1 hz2 rfl (by decide) _ _ _ rfl (hown1.alloc _) ⟨w1.heap.size, 0, none⟩ 1 1 [Value.int .u8 46] rfl rfl (by intro j u' hj; match j, hj with | 0, hj => simp at hj; subst hj; simp [Addr.add]) (by intro u' hu'; simp at hu'; subst hu'; rfl) (by unfold maxLen; omega) (by omega) (by have := B1.size; simp; omega) ?_)
      intro v2 w2 hown2 hgrow _
      have B2 : Below w.heap.size w w2 := (B1.alloc B1.size _).grown hgrow (by have := B1.size; simp; omega) (fun k hk => (hown1.lt k hk).1)
      have eL : Lib.byteCells ls ++ [Value.int .u8 46] = Lib.byteCells (ls ++ [46]) := by simp [Lib.byteCells]
      have eN : ls.length + 1 = (ls ++ [46]).length := by simp
      rw [eL, eN] at hown2
      have hown3 : w2.ownsRow w.heap.size 5 1 v2 (preL a 2).length (Lib.byteCells (preL a 2)) := by rw [hnx.out, ← HLS.out]; exact hown2
      clear hown2 hown1 hgrow B1 eL eN
      go_wp2
      go_roundw
      case rel => exact ⟨2, 8, v2, by omega, by omega, rfl, rfl, hown3, B2⟩
      case measure => simp [intOf]
    | 2, _ =>
      have hz' : z = 8 := by omega
      subst hz'
      clear hz
      have hlen := preL_len a ha 2 (by omega)
      have hdl := dec_len (a / 256 % 256)
      have hnx : Hid (preL a 3 = preL a 2 ++ Lib.decDigits (a / 256 % 256) ++ [46]) := preL_next a 2 (by omega)
      go_wp2_with fail
      refine (append_ w.heap.size (preL a 2).length (a / 256 % 256) (by omega) u3 _ wr hown hB (by omega) htw).mono ?_
      rintro e w1 ⟨v1, rfl, hown1, b1⟩
      have B1 := B.trans b1
      rw [← Lib.byteCells_append, ← List.length_append] at hown1
      have hlen1 : (preL a 2 ++ Lib.decDigits (a / 256 % 256)).length ≤ 20000000 := by rw [List.length_append]; omega
      obtain ⟨ls, hls⟩ : ∃ ls, ls = preL a 2 ++ Lib.decDigits (a / 256 % 256) := ⟨_, rfl⟩
      rw [← hls] at hown1 hlen1
      have HLS := Lib.hid hls
      clear hls hown b1 B hlen hdl
      go_wp2_with (at_builtin; refine wpList_append_own _ rfl _ _ 45 rfl w.heap.size 5 i0 (.int .u8 0) 1 1 Tryz.underlying45 hi hz0 hz1 hz2 rfl (by decide) _ _ _ rfl (hown1.alloc _) ⟨w1.heap.size, 0, none⟩ 1 1 [Value.int .u8 46] rfl rfl (by intro j u' hj; match j, hj with | 0, hj => simp at hj; subst hj; simp [Addr.add]) (by intro u' hu'; simp at hu'; subst hu'; rfl) (by unfold maxLen; omega) (by omega) (by have := B1.size; simp; omega) ?_)
      intro v2 w2 hown2 hgrow _
      have B2 : Below w.heap.size w w2 := (B1.alloc B1.size _).grown hgrow (by have := B1.size; simp; omega) (fun k hk => (hown1.lt k hk).1)
      have eL : Lib.byteCells ls ++ [Value.int .u8 46] = Lib.byteCells (ls ++ [46]) := by simp [Lib.byteCells]
      have eN : ls.length + 1 = (ls ++ [46]).length := by simp
      rw [eL, eN] at hown2
      have hown3 : w2.ownsRow w.heap.size 5 1 v2 (preL a 3).length (Lib.byteCells (preL a 3)) := by rw [hnx.out, ← HLS.out]; exact hown2
      clear hown2 hown1 hgrow B1 eL eN
      go_wp2
      go_roundw
      case rel => exact ⟨3, 0, v2, by omega, by omega, rfl, rfl, hown3, B2⟩
      case measure => simp [intOf]
    | 3, _ =>
      have hz' : z = 0 := by omega
      subst hz'
      clear hz
      have hlen := preL_len a ha 3 (by omega)
      have hdl := dec_len (a % 256)
      have hnx : Hid (preL a 4 = preL a 3 ++ Lib.decDigits (a % 256)) := preL_last a
      go_wp2_with fail
      refine (append_ w.heap.size (preL a 3).length (a % 256) (by omega) u3 _ wr hown hB (by omega) htw).mono ?_
      rintro e w1 ⟨v1, rfl, hown1, b1⟩
      have B1 := B.trans b1
      rw [← Lib.byteCells_append, ← List.length_append] at hown1
      have hlen1 : (preL a 3 ++ Lib.decDigits (a % 256)).length ≤ 20000000 := by rw [List.length_append]; omega
      obtain ⟨ls, hls⟩ : ∃ ls, ls = preL a 3 ++ Lib.decDigits (a % 256) := ⟨_, rfl⟩
      rw [← hls] at hown1 hlen1
      have HLS := Lib.hid hls
      clear hls hown b1 B hlen hdl
      have hown3 : w1.ownsRow w.heap.size 5 1 v1 (preL a 4).length (Lib.byteCells (preL a 4)) := by rw [show preL a 4 = ls by rw [HLS.out]; exact hnx.out]; exact hown1
      clear hown1
      go_wp2
      go_roundw
      case rel => exact ⟨4, -8, v1, by omega, by omega, rfl, rfl, hown3, B1⟩
      case measure => simp [intOf]
    | 4, _ =>
      have hz' : z = -8 := by omega
      subst hz'
      clear hz
      have hown3 : wr.ownsRow w.heap.size 5 1 u3 (textL a).length (Lib.byteCells (textL a)) := hown
      have hpos : 0 < (textL a).length := by simp [textL]; omega
      obtain ⟨l, hl⟩ : ∃ l, l = textL a := ⟨_, rfl⟩
      rw [← hl] at hown3 hpos
      have HL := Lib.hid hl
      clear hl hown
      rcases hown3.2 with ⟨-, h0⟩ | ⟨g, cap, cur, rfl, -, -, -, -, -, -⟩
      · omega
      · have hcv := run_convert_bytes_back (P := Tryz.prog) wr 45 9 5 ⟨g, 0, none⟩ cap l Tryz.underlying45 Tryz.underlying5 Tryz.underlying9 (fun j hj => hown3.cells (g := g) rfl j _ (by simp [Lib.byteCells, hj]))
        clear hown3
        go_wp2
        go_ret
        rw [← HL.out]
        exact ⟨rfl, B⟩
def parseA (l : List UInt8) : Nat := (parseV l).getD 0
def parseE (l : List UInt8) : Int := if (parseV l).isSome then 0 else 3
theorem u32_hlA (a b : Nat) (ha : a < 16777216) (hb : b ≤ 255) : bits .or .u32 ((a : Int) * 256) (b : Int) = (a : Int) * 256 + (b : Int) := by
  rw [u32_or _ _ (by omega) (by omega) (by omega) (by omega)]
  have h := Nat.two_pow_add_eq_or_of_lt (i := 8) (b := b) (by omega) a
  have e : ((a : Int) * 256).toNat = 2 ^ 8 * a := by omega
  have e' : (b : Int).toNat = b := by omega
  rw [e, e', ← h]
  omega
theorem parseC_none {k a : Nat} {r p q : List UInt8} {z : Bool} (hc : cut1 46 r = (p, q, z)) (hn : numV 255 p = none) : parseC (k + 1) a r = none := by
  unfold parseC; rw [hc]; simp [hn]
theorem parseC_same {k a n : Nat} {r p q : List UInt8} {z : Bool} (hc : cut1 46 r = (p, q, z)) (hn : numV 255 p = some n) (hz : z = decide (k = 0)) : parseC (k + 1) a r = none := by
  unfold parseC; rw [hc]; simp [hn, hz]
theorem parseC_next {k a n : Nat} {r p q : List UInt8} {z : Bool} (hc : cut1 46 r = (p, q, z)) (hn : numV 255 p = some n) (hz : ¬ z = decide (k = 0)) : parseC (k + 1) a r = parseC k (a * 256 + n) q := by
  rw [parseC, hc]; simp only [hn]; rw [if_neg hz]
theorem cut1_len (c : UInt8) (l : List UInt8) : (cut1 c l).1.length ≤ l.length ∧ (cut1 c l).2.1.length ≤ l.length := by
  rcases cut1_cases c l with ⟨a, b, rfl, ha, hc⟩ | ⟨hx, hc⟩
  · rw [hc]; simp; omega
  · rw [hc]; simp
def pairE (most : Nat) (c : UInt8) (l : List UInt8) : Int := if (pairV most c l).isSome then 0 else 3
def pairA (most : Nat) (c : UInt8) (l : List UInt8) : Nat := ((pairV most c l).getD (0, 0)).1
def pairN (most : Nat) (c : UInt8) (l : List UInt8) : Nat := ((pairV most c l).getD (0, 0)).2
theorem parse_cases (l : List UInt8) : (∃ a, parseV l = some a ∧ parseA l = a ∧ parseE l = 0 ∧ a < 4294967296) ∨ (parseV l = none ∧ parseA l = 0 ∧ parseE l = 3) := by
  unfold parseA parseE
  cases h : parseV l with
  | none => exact .inr ⟨rfl, rfl, rfl⟩
  | some a => exact .inl ⟨a, rfl, rfl, rfl, parseV_lt h⟩
theorem num_cases (most : Nat) (l : List UInt8) : (∃ n, numV most l = some n ∧ numN most l = n ∧ (numV most l).isSome = true ∧ n ≤ most) ∨ (numV most l = none ∧ numN most l = 0 ∧ (numV most l).isSome = false) := by
  unfold numN
  cases h : numV most l with
  | none => exact .inr ⟨rfl, rfl, rfl⟩
  | some n => exact .inl ⟨n, rfl, rfl, rfl, numV_le h⟩
theorem pair_cases (most : Nat) (c : UInt8) (l : List UInt8) : (∃ a n, pairV most c l = some (a, n) ∧ pairA most c l = a ∧ pairN most c l = n ∧ pairE most c l = 0) ∨ (pairV most c l = none ∧ pairA most c l = 0 ∧ pairN most c l = 0 ∧ pairE most c l = 3) := by
  unfold pairA pairN pairE
  cases h : pairV most c l with
  | none => exact .inr ⟨rfl, rfl, rfl, rfl⟩
  | some q => exact .inl ⟨q.1, q.2, rfl, rfl, rfl, rfl⟩
theorem pair_yes {most : Nat} {c : UInt8} {l p q : List UInt8} {z : Bool} {a n : Nat} (hc : cut1 c l = (p, q, z)) (h1 : parseV p = some a) (h2 : numV most q = some n) : pairA most c l = a ∧ pairN most c l = n ∧ pairE most c l = 0 := by
  have h : pairV most c l = some (a, n) := by unfold pairV; rw [hc]; simp [h1, h2]
  unfold pairA pairN pairE
  rw [h]; exact ⟨rfl, rfl, rfl⟩
theorem pair_no1 {most : Nat} {c : UInt8} {l p q : List UInt8} {z : Bool} (hc : cut1 c l = (p, q, z)) (h1 : parseV p = none) : pairA most c l = 0 ∧ pairN most c l = 0 ∧ pairE most c l = 3 := by
  have h : pairV most c l = none := by unfold pairV; rw [hc]; simp [h1]
  unfold pairA pairN pairE
  rw [h]; exact ⟨rfl, rfl, rfl⟩
theorem pair_no2 {most : Nat} {c : UInt8} {l p q : List UInt8} {z : Bool} (hc : cut1 c l = (p, q, z)) (h1 : numV most q = none) : pairA most c l = 0 ∧ pairN most c l = 0 ∧ pairE most c l = 3 := by
  have h : pairV most c l = none := by unfold pairV; rw [hc]; simp [h1]
  unfold pairA pairN pairE
  rw [h]; exact ⟨rfl, rfl, rfl⟩
theorem bcell_ {W w1 : World} (hb : Below W.heap.size W w1) : (∀ b o, b < W.heap.size → w1.cell? ⟨b, o, none⟩ = W.cell? ⟨b, o, none⟩) ∧ (∀ b o, b < W.heap.size → w1.frozen? ⟨b, o, none⟩ = W.frozen? ⟨b, o, none⟩) :=
  ⟨fun b o h => hb.cell (p := ⟨b, o, none⟩) h, fun b o h => hb.frozen (p := ⟨b, o, none⟩) h⟩
def pointE (l : List UInt8) : Int := pairE 65535 58 l
def pointA (l : List UInt8) : Nat := pairA 65535 58 l
def pointN (l : List UInt8) : Nat := pairN 65535 58 l
/-- What a text is read as: the address, the bits, the error. -/
def prefR (l : List UInt8) : Nat × Nat × Int :=
  match prefV l with
  | none => (0, 0, 3)
  | some (a, n) => if mayV a (n : Int) then (a, n, 0) else (0, 0, 2)
theorem prefR_none {l : List UInt8} (h : prefV l = none) : prefR l = (0, 0, 3) := by unfold prefR; rw [h]
theorem prefR_no {l : List UInt8} {a n : Nat} (h : prefV l = some (a, n)) (hm : mayV a (n : Int) = false) : prefR l = (0, 0, 2) := by unfold prefR; rw [h]; simp [hm]
theorem prefR_yes {l : List UInt8} {a n : Nat} (h : prefV l = some (a, n)) (hm : mayV a (n : Int) = true) : prefR l = (a, n, 0) := by unfold prefR; rw [h]; simp [hm]
end Go.Proofs.YtbpicngbjggblaaGreatDoor
namespace Go.Proofs.YtbpicngbjggblaaGreatDoor
set_option maxHeartbeats 4000000
set_option maxRecDepth 100000
set_option linter.unusedVariables false
set_option linter.unusedSimpArgs false
open Go.ChangeShapes Go.WideShapes Go.ChangeAt Go.RowKit Go.PlainAid
namespace AddrsLaid
theorem lit_le (l : List UInt8) (h : decide (l.length ≤ 100) = true) : l.length ≤ maxLen := by
  have : l.length ≤ 100 := by simpa using h
  unfold maxLen; omega
end AddrsLaid
end Go.Proofs.YtbpicngbjggblaaGreatDoor
namespace Go.Proofs.YtbpicngbjggblaaGreatDoor
set_option maxHeartbeats 2000000
set_option maxRecDepth 100000
set_option linter.unusedVariables false
set_option linter.unusedSimpArgs false
open Go.ChangeShapes Go.WideShapes Go.ChangeAt Go.RowKit Go.PlainAid
/-- An endpoint's text; a prefix's text (no bytes, if it may not be). -/
def pointL (a n : Nat) : List UInt8 := textL a ++ 58 :: Lib.decDigits n
theorem pointText_ (a n : Nat) (w : World) (ha : a < 4294967296) (hn : n ≤ 65535) (ht : Tab w) :
    Cw_ 63 #[.agg #[.int .u32 (a : Int), .int .u16 (n : Int)]] (.string (str (pointL a n))) w := by
  obtain ⟨w1, hw1⟩ : ∃ w1, w1 = w.alloc (.cells #[.int .u32 (a : Int), .int .u16 (n : Int)] 26) := ⟨_, rfl⟩
  have B1 : Below w.heap.size w w1 := by rw [hw1]; exact (Below.refl _ _).alloc (Nat.le_refl _) _
  have s1 : w.heap.size < w1.heap.size := by rw [hw1]; simp
  have c0 : w1.cell? ⟨w.heap.size, 0, none⟩ = some (.int .u32 (a : Int)) := by rw [hw1]; simp
  have c1 : w1.cell? ⟨w.heap.size, 1, none⟩ = some (.int .u16 (n : Int)) := by rw [hw1]; simp
  have HW := Lib.hid hw1
  clear hw1
  have T1 : Tab w1 := ht.on B1
  have k1 : ∀ q : Later w1.heap.size w1, Calls Tryz.prog 113 #[.int .u32 (a : Int)] q.u fun e w' => e = .returned (.string (str (textL a))) ∧ Below q.u.heap.size q.u w' := fun q => text_ a q.u ha (T1.on q.h)
  have k2 : ∀ q : Later w1.heap.size w1, Calls Tryz.prog 114 #[.int .i64 (n : Int)] q.u fun e w' => e = .returned (.string (str (Lib.decDigits n))) ∧ Below q.u.heap.size q.u w' := fun q => itoa_ n q.u (by omega) (T1.on q.h)
  have hl1 := textL_len a ha
  have hl2 := dec_len n
  have HN : Hid (∀ s1 s2, s1 = str (textL a) → s2 = str (Lib.decDigits n) → s1 ++ ⟨#[58]⟩ ++ s2 = str (pointL a n)) := by
    rintro s1 s2 rfl rfl
    have e : str (textL a) ++ ⟨#[58]⟩ = str (textL a ++ [58]) := str_app _ [58]
    rw [e, str_app]
    simp [pointL]
  rw [← str_size] at hl1 hl2
  obtain ⟨t1, e1⟩ : ∃ s, s = str (textL a) := ⟨_, rfl⟩
  obtain ⟨t2, e2⟩ : ∃ s, s = str (Lib.decDigits n) := ⟨_, rfl⟩
  rw [← e1] at k1 hl1
  rw [← e2] at k2 hl2
  have HV := Lib.hid (HN.out t1 t2 e1 e2)
  have z1 : t1.size + 1 ≤ 9223372036854775807 := by omega
  have z2 : t1.size + 1 + t2.size ≤ 9223372036854775807 := by omega
  clear e1 e2 HN hl1 hl2
  have x1 : IntKind.i64.wrap (n : Int) = (n : Int) := IntWalk.i64_in _ (by omega)
  have d0 : ∀ q : Later w1.heap.size w1, q.u.cell? ⟨w.heap.size, 0, none⟩ = some (.int .u32 (a : Int)) := fun q => q.block s1 c0
  have d1 : ∀ q : Later w1.heap.size w1, q.u.cell? ⟨w.heap.size, 1, none⟩ = some (.int .u16 (n : Int)) := fun q => q.block s1 c1
  clear c0 c1
  go_enter Tryz.func63, Tryz.ntmps63
  go_wp2_with fail
  rw [← HW.out]
  refine region_later (B := w1.heap.size) (by kernel_rfl) (by kernel_rfl) ?_
  repeat (go_big_quiet_step (first
    | (go_at_call 113; exact later_of _ (Nat.le_refl _) (k1 _))
    | (go_at_call 114; exact later_of _ (Nat.le_refl _) (k2 _))))
  refine later_end fun w2 b2 => ?_
  have B2 := B1.trans (b2.mono B1.size)
  clear d0 d1 b2
  go_wp2
  go_ret
  rw [← HV.out]
  exact ⟨rfl, B2⟩
end Go.Proofs.YtbpicngbjggblaaGreatDoor
