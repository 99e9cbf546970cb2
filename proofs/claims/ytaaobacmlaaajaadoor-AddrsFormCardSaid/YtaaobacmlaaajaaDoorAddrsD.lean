/- Contracts: the document's digits and numbers. -/
import Derived.Test.YtaaobacmlaaajaaDoorAddrsC
namespace Go.Proofs.YtaaobacmlaaajaaDoor
set_option linter.unusedVariables false
set_option linter.unusedSimpArgs false
open Go.ChangeShapes Go.WideShapes Go.ChangeAt Go.RowKit Go.PlainAid
theorem digit_piece : ∀ d : Fin 10, (⟨#[48, 49, 50, 51, 52, 53, 54, 55, 56, 57]⟩ : ByteArray).extract d.val (d.val + 1) = str [UInt8.ofNat (48 + d.val)] := by decide +kernel
theorem dec_len (u : Nat) : (Lib.decDigits u).length ≤ u + 1 := by
  rw [Lib.decDigits_length]
  induction u using Nat.strongRecOn with
  | _ u ih =>
    by_cases h : u < 10
    · rw [Lib.nDigits_small h]; omega
    · rw [Lib.nDigits_big h]
      have := ih (u / 10) (by omega)
      omega
set_option maxHeartbeats 2000000 in
set_option maxRecDepth 100000 in
theorem digits_ (n : Nat) : ∀ (w : World) (hn : n < 4294967296),
    Calls Tryd.prog 24 #[.int .u32 (n : Int)] w fun e w' => e = .returned (.string (str (Lib.decDigits n))) ∧ Below w.heap.size w w' := by
  induction n using Nat.strongRecOn with
  | _ n ih =>
    intro w hn
    obtain ⟨d, hd⟩ : ∃ d : Nat, d = n % 10 := ⟨_, rfl⟩
    have d9 : d < 10 := by omega
    have hp := digit_piece ⟨d, d9⟩
    simp only at hp
    obtain ⟨t, ht⟩ : ∃ t, t = str [UInt8.ofNat (48 + d)] := ⟨_, rfl⟩
    rw [← ht] at hp
    have HTT := Lib.hid ht
    have hts : t.size = 1 := by rw [ht, str_size]; rfl
    have e1 : (n : Int) % 10 = (d : Int) := by omega
    have e2 : ((d : Int) + 1).toNat = d + 1 := by omega
    have e3 : IntKind.u32.wrap ((d : Int) + 1) = (d : Int) + 1 := IntWalk.u32_in _ (by omega)
    have g1 : (d : Int) + 1 ≤ 10 := by omega
    have g2 : (0 : Int) ≤ (d : Int) + 1 := by omega
    clear ht
    by_cases h : n < 10
    · have HN : Hid (Lib.decDigits n = [UInt8.ofNat (48 + d)]) := by show _ = _; rw [Lib.decDigits_one h, hd, Nat.mod_eq_of_lt h]
      have g3 : (n : Int) < 10 := by omega
      clear hd
      go_enter Tryd.func24, Tryd.ntmps24
      go_wp2
      go_ret
      rw [HN.out, HTT.out]
      exact ⟨rfl, Below.refl _ _⟩
    · have HN : Hid (Lib.decDigits n = Lib.decDigits (n / 10) ++ [UInt8.ofNat (48 + d)]) := by show _ = _; rw [Lib.decDigits, dif_neg h, hd]
      have g3 : decide ((n : Int) < 10) = false := by simp; omega
      have hc := ih (n / 10) (by omega)
      have g4 : IntKind.u32.wrap ((n : Int).tdiv 10) = (n : Int) / 10 := IntWalk.u32_quo _ _ (by omega)
      have hnn : (0 : Int) ≤ (n : Int) := by omega
      have hnm : (n : Int) ≤ 4294967295 := by omega
      have HH := Lib.hid h
      clear hd h
      go_enter Tryd.func24, Tryd.ntmps24
      go_wp2_with fail
      refine (hc _ (by omega)).mono ?_; rintro e w1 ⟨rfl, b1⟩
      have hsz : (str (Lib.decDigits (n / 10))).size + t.size ≤ 9223372036854775807 := by have := dec_len (n / 10); rw [str_size, hts]; omega
      obtain ⟨u, hu⟩ : ∃ u, u = str (Lib.decDigits (n / 10)) := ⟨_, rfl⟩
      rw [← hu] at hsz ⊢
      have HU := Lib.hid hu
      clear hu
      go_wp2
      go_ret
      rw [HN.out, HU.out, HTT.out, str_app]
      exact ⟨rfl, b1⟩
/-- The document's number: five digits at most, and told so. -/
theorem numV_long {most : Nat} {l : List UInt8} (hm : most ≤ 99999) (h : 5 < l.length) : numV most l = none := by
  cases hn : numV most l with
  | none => rfl
  | some n =>
    obtain ⟨h1, h2⟩ := (numV_some _ _ _).1 hn
    exfalso
    rw [← h2, Lib.decDigits_length] at h
    have : Lib.nDigits n ≤ 5 := by
      by_cases a1 : n < 10
      · rw [Lib.nDigits_small a1]; omega
      · rw [Lib.nDigits_big a1]
        by_cases a2 : n / 10 < 10
        · rw [Lib.nDigits_small a2]; omega
        · rw [Lib.nDigits_big a2]
          by_cases a3 : n / 10 / 10 < 10
          · rw [Lib.nDigits_small a3]; omega
          · rw [Lib.nDigits_big a3]
            by_cases a4 : n / 10 / 10 / 10 < 10
            · rw [Lib.nDigits_small a4]; omega
            · rw [Lib.nDigits_big a4, Lib.nDigits_small (by omega)]; omega
    omega
theorem valL_lt : ∀ (k : Nat) (l : List UInt8), l.all isDig = true → l.length = k → valL l < 10 ^ k := by
  intro k
  induction k with
  | zero => intro l _ hl; rw [List.length_eq_zero_iff.1 hl]; decide
  | succ k ih =>
    intro l hd hl
    have hn : l ≠ [] := by intro h; rw [h] at hl; simp at hl
    obtain ⟨m, c, rfl⟩ : ∃ m c, l = m ++ [c] := ⟨l.dropLast, l.getLast hn, (List.dropLast_concat_getLast hn).symm⟩
    simp at hl
    rw [List.all_append] at hd
    simp only [Bool.and_eq_true] at hd
    have := ih m hd.1 hl
    have hc := (digit_back c (by simpa using hd.2)).2
    rw [valL_snoc, Nat.pow_succ]
    omega
theorem numV_wrong {most : Nat} {l : List UInt8} (h : most < valL l ∨ ¬ Lib.decDigits (valL l) = l) : numV most l = none := by
  cases hn : numV most l with
  | none => rfl
  | some n =>
    exfalso
    obtain ⟨h1, h2⟩ := (numV_some _ _ _).1 hn
    have := (dec_props n).2.1
    rw [h2] at this
    rw [this] at h
    rcases h with h | h
    · omega
    · exact h h2
end Go.Proofs.YtaaobacmlaaajaaDoor
