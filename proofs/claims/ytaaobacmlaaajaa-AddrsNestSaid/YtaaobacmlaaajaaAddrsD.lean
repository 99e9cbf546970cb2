/- Contracts: the document's digits and numbers. -/
import Derived.Test.YtaaobacmlaaajaaAddrsC
namespace Go.Proofs.Ytaaobacmlaaajaa
set_option linter.unusedVariables false
set_option linter.unusedSimpArgs false
open Go.ChangeShapes Go.WideShapes Go.ChangeAt Go.RowKit Go.PlainAid
theorem digit_piece : ∀ d : Fin 10, (⟨#[48, 49, 50, 51, 52, 53, 54, 55, 56, 57]⟩ : ByteArray).extract d.val (d.val + 1) = str [UInt8.ofNat (48 + d.val)] := by decide +kernel
theorem dec_len (u : Nat) : (Lib.decDigits u).length ≤ u + 1 := by
  rw [Lib.decDigits_length]
  induction u using Nat.strongRecOn with
  | _ u ih =>
    by_cases h : u < 10
    · rw [Lib.nDigits_small h]; omega
    · rw [Lib.nDigits_big h]
      have := ih (u / 10) (by omega)
      omega
set_option maxHeartbeats 2000000 in
set_option maxRecDepth 100000 in
theorem digits_ (n : Nat) : ∀ (w : World) (hn : n < 4294967296),
    Calls Try.prog 24 #[.int .u32 (n : Int)] w fun e w' => e = .returned (.string (str (Lib.decDigits n))) ∧ Below w.heap.size w w' := by
  induction n using Nat.strongRecOn with
  | _ n ih =>
    intro w hn
    obtain ⟨d, hd⟩ : ∃ d : Nat, d = n % 10 := ⟨_, rfl⟩
    have d9 : d < 10 := by omega
    have hp := digit_piece ⟨d, d9⟩
    simp only at hp
    obtain ⟨t, ht⟩ : ∃ t, t = str [UInt8.ofNat (48 + d)] := ⟨_, rfl⟩
    rw [← ht] at hp
    have HTT := Lib.hid ht
    have hts : t.size = 1 := by rw [ht, str_size]; rfl
    have e1 : (n : Int) % 10 = (d : Int) := by omega
    have e2 : ((d : Int) + 1).toNat = d + 1 := by omega
    have e3 : IntKind.u32.wrap ((d : Int) + 1) = (d : Int) + 1 := IntWalk.u32_in _ (by omega)
    have g1 : (d : Int) + 1 ≤ 10 := by omega
    have g2 : (0 : Int) ≤ (d : Int) + 1 := by omega
    clear ht
    by_cases h : n < 10
    · have HN : Hid (Lib.decDigits n = [UInt8.ofNat (48 + d)]) := by show _ = _; rw [Lib.decDigits_one h, hd, Nat.mod_eq_of_lt h]
      have g3 : (n : Int) < 10 := by omega
      clear hd
      go_enter Try.func24, Try.ntmps24
      go_wp2
      go_ret
      rw [HN.out, HTT.out]
      exact ⟨rfl, Below.refl _ _⟩
    · have HN : Hid (Lib.decDigits n = Lib.decDigits (n / 10) ++ [UInt8.ofNat (48 + d)]) := by show _ = _; rw [Lib.decDigits, dif_neg h, hd]
      have g3 : decide ((n : Int) < 10) = false := by simp; omega
      have hc := ih (n / 10) (by omega)
      have g4 : IntKind.u32.wrap ((n : Int).tdiv 10) = (n : Int) / 10 := IntWalk.u32_quo _ _ (by omega)
      have hnn : (0 : Int) ≤ (n : Int) := by omega
      have hnm : (n : Int) ≤ 4294967295 := by omega
      have HH := Lib.hid h
      clear hd h
      go_enter Try.func24, Try.ntmps24
      go_wp2_with fail
      refine (hc _ (by omega)).mono ?_; rintro e w1 ⟨rfl, b1⟩
      have hsz : (str (Lib.decDigits (n / 10))).size + t.size ≤ 9223372036854775807 := by have := dec_len (n / 10); rw [str_size, hts]; omega
      obtain ⟨u, hu⟩ : ∃ u, u = str (Lib.decDigits (n / 10)) := ⟨_, rfl⟩
      rw [← hu] at hsz ⊢
      have HU := Lib.hid hu
      clear hu
      go_wp2
      go_ret
      rw [HN.out, HU.out, HTT.out, str_app]
      exact ⟨rfl, b1⟩
/-- The document's number: five digits at most, and told so. -/
theorem numV_long {most : Nat} {l : List UInt8} (hm : most ≤ 99999) (h : 5 < l.length) : numV most l = none := by
  cases hn : numV most l with
  | none => rfl
  | some n =>
    obtain ⟨h1, h2⟩ := (numV_some _ _ _).1 hn
    exfalso
    rw [← h2, Lib.decDigits_length] at h
    have : Lib.nDigits n ≤ 5 := by
      by_cases a1 : n < 10
      · rw [Lib.nDigits_small a1]; omega
      · rw [Lib.nDigits_big a1]
        by_cases a2 : n / 10 < 10
        · rw [Lib.nDigits_small a2]; omega
        · rw [Lib.nDigits_big a2]
          by_cases a3 : n / 10 / 10 < 10
          · rw [Lib.nDigits_small a3]; omega
          · rw [Lib.nDigits_big a3]
            by_cases a4 : n / 10 / 10 / 10 < 10
            · rw [Lib.nDigits_small a4]; omega
            · rw [Lib.nDigits_big a4, Lib.nDigits_small (by omega)]; omega
    omega
theorem valL_lt : ∀ (k : Nat) (l : List UInt8), l.all isDig = true → l.length = k → valL l < 10 ^ k := by
  intro k
  induction k with
  | zero => intro l _ hl; rw [List.length_eq_zero_iff.1 hl]; decide
  | succ k ih =>
    intro l hd hl
    have hn : l ≠ [] := by intro h; rw [h] at hl; simp at hl
    obtain ⟨m, c, rfl⟩ : ∃ m c, l = m ++ [c] := ⟨l.dropLast, l.getLast hn, (List.dropLast_concat_getLast hn).symm⟩
    simp at hl
    rw [List.all_append] at hd
    simp only [Bool.and_eq_true] at hd
    have := ih m hd.1 hl
    have hc := (digit_back c (by simpa using hd.2)).2
    rw [valL_snoc, Nat.pow_succ]
    omega
theorem numV_wrong {most : Nat} {l : List UInt8} (h : most < valL l ∨ ¬ Lib.decDigits (valL l) = l) : numV most l = none := by
  cases hn : numV most l with
  | none => rfl
  | some n =>
    exfalso
    obtain ⟨h1, h2⟩ := (numV_some _ _ _).1 hn
    have := (dec_props n).2.1
    rw [h2] at this
    rw [this] at h
    rcases h with h | h
    · omega
    · exact h h2
set_option maxHeartbeats 2000000 in
set_option maxRecDepth 100000 in
theorem number_ (most : Nat) (hm : most ≤ 99999) (l : List UInt8) (w : World) (hl : l.length ≤ maxLen) :
    Calls Try.prog 17 #[.string (str l), .int .u32 (most : Int)] w fun e w' => e = .returned (.tuple #[.int .u32 (numN most l : Nat), .bool (numV most l).isSome]) ∧ Below w.heap.size w w' := by
  unfold maxLen at hl
  have hs := str_size l
  have hb : ∀ k, bt (str l) k = ((l.getD k 0).toNat : Int) := str_bt l
  obtain ⟨s, hS⟩ : ∃ s, s = str l := ⟨_, rfl⟩
  have HSS := Lib.hid hS
  rw [← hS] at hs hb ⊢
  clear hS
  have HB := Lib.hid hb
  have HS := Lib.hid hs
  have hg := get_bt s
  have hs2 : (s.size : Int) ≤ 9223372036854775807 := by omega
  clear hb hs
  by_cases hz : l.length = 0
  · have HN : Hid (numV most l = none) := by show _ = _; rw [List.length_eq_zero_iff.1 hz, numV_nil]
    have HM : Hid (numN most l = 0) := by show _ = _; unfold numN; rw [HN.out]; rfl
    have e1 : (s.size : Int) < 1 := by have := HS.out; omega
    clear hz
    go_enter Try.func17, Try.ntmps17
    go_wp2
    go_ret2
    rw [HN.out, HM.out]
    exact ⟨rfl, Below.refl _ _⟩
  by_cases hz5 : 5 < l.length
  · have HN : Hid (numV most l = none) := numV_long hm hz5
    have HM : Hid (numN most l = 0) := by show _ = _; unfold numN; rw [HN.out]; rfl
    have e1 : decide ((s.size : Int) < 1) = false := by have := HS.out; simp; omega
    have e2 : decide (5 < (s.size : Int)) = true := by have := HS.out; simp; omega
    clear hz hz5
    go_enter Try.func17, Try.ntmps17
    go_wp2
    go_ret2
    rw [HN.out, HM.out]
    exact ⟨rfl, Below.refl _ _⟩
  have e1 : decide ((s.size : Int) < 1) = false := by have := HS.out; simp; omega
  have e2 : decide (5 < (s.size : Int)) = false := by have := HS.out; simp; omega
  have h5 : s.size ≤ 5 := by have := HS.out; omega
  have h1 : 1 ≤ l.length := by omega
  clear hz hz5
  go_enter Try.func17, Try.ntmps17
  go_wp2_with fail
  go_loop [6, 7] (fun v si => ∃ k n : Nat, k ≤ s.size ∧ n < 10 ^ k ∧ si = .int .i64 (k : Int) ∧ v = .int .u32 (n : Int) ∧ valL (l.take k) = n ∧ (l.take k).all isDig = true) (fun _ si => s.size - (intOf si).toNat)
  case atStart => exact ⟨0, 0, by omega, by simp, rfl, rfl, by simp [valL, valF], by simp⟩
  case round =>
    obtain ⟨k, n, hk, hn, rfl, rfl, hV, hD⟩ := hrel
    have hn5 : n < 100000 := Nat.lt_of_lt_of_le hn ((show 10 ^ k ≤ 10 ^ 5 from Nat.pow_le_pow_right (by omega) (by omega)))
    have HV := Lib.hid hV
    have HD := Lib.hid hD
    clear hV hD hn
    by_cases hend : k = s.size
    · have HE : Hid (l.take k = l) := List.take_of_length_le (by have := HS.out; omega)
      have HV' : Hid (valL l = n) := by show _ = _; rw [← HV.out, HE.out]
      have e5 : decide (k < s.size) = false := by simp; omega
      clear hend
      by_cases hq : most < n
      · have HN : Hid (numV most l = none) := numV_wrong (.inl (by rw [HV'.out]; exact hq))
        have HM : Hid (numN most l = 0) := by show _ = _; unfold numN; rw [HN.out]; rfl
        have e6 : decide (most < n) = true := by simpa using hq
        go_wp2
        go_ret2
        rw [HN.out, HM.out]
        exact ⟨rfl, Below.refl _ _⟩
      · have e6 : decide (most < n) = false := by simp; omega
        have hc := digits_ n
        by_cases hx : Lib.decDigits n = l
        · have HN : Hid (numV most l = some n) := (numV_some _ _ _).2 ⟨by omega, hx⟩
          have HM : Hid (numN most l = n) := by show _ = _; unfold numN; rw [HN.out]; rfl
          have HX : Hid (str (Lib.decDigits n) = s) := by show _ = _; rw [hx, HSS.out]
          clear hq hx
          go_wp2_with fail
          refine (hc _ (by omega)).mono ?_; rintro e w1 ⟨rfl, b1⟩
          rw [HX.out]
          go_wp2
          go_ret2
          rw [HN.out, HM.out]
          exact ⟨rfl, b1⟩
        · have HN : Hid (numV most l = none) := numV_wrong (.inr (by rw [HV'.out]; exact hx))
          have HM : Hid (numN most l = 0) := by show _ = _; unfold numN; rw [HN.out]; rfl
          have HX : ¬ (str (Lib.decDigits n)).toList = s.toList := by rw [HSS.out, str_toList, str_toList]; exact hx
          have HX2 : (s.toList == (str (Lib.decDigits n)).toList) = false := by rw [HSS.out, str_toList, str_toList]; simpa using fun h => hx h.symm
          have HX3 : ((str (Lib.decDigits n)).toList == s.toList) = false := by rw [HSS.out, str_toList, str_toList]; simpa using hx
          clear hq hx
          go_wp2_with fail
          refine (hc _ (by omega)).mono ?_; rintro e w1 ⟨rfl, b1⟩
          obtain ⟨u, hu⟩ : ∃ u, u = str (Lib.decDigits n) := ⟨_, rfl⟩
          rw [← hu] at HX HX2 HX3 ⊢
          clear hu
          go_wp2
          go_ret2
          rw [HN.out, HM.out]
          exact ⟨rfl, b1⟩
    · have hk' : k < l.length := by have := HS.out; omega
      have g0 : (k : Int) < (s.size : Int) := by omega
      have T : Hid (l.take (k + 1) = l.take k ++ [l.getD k 0]) := take_snoc l k hk'
      have c1 := bt_nonneg s k
      have c2 := bt_le s k
      have e5 : decide (k < s.size) = true := by simp; omega
      have HK := Lib.hid hend
      clear hend
      by_cases hd : isDig (l.getD k 0) = true
      · obtain ⟨d, hdd⟩ : ∃ d : Nat, d = (l.getD k 0).toNat - 48 := ⟨_, rfl⟩
        have hd' := (isDig_iff _).1 hd
        have ebt : bt s k = (d : Int) + 48 := by rw [HB.out]; omega
        have ed : IntKind.u8.wrap (bt s k - 48) = (d : Int) := by rw [HB.out, IntWalk.u8_in _ (by omega)]; omega
        have ed' : bt s k - 48 = (d : Int) := by rw [HB.out]; omega
        have d9 : d ≤ 9 := by omega
        have e6 : decide (bt s k < 48) = false := by simp; omega
        have e7 : decide (57 < bt s k) = false := by simp; omega
        have e8 : IntKind.u32.wrap (d : Int) = (d : Int) := IntWalk.u32_in _ (by omega)
        have e10 : IntKind.u32.wrap (10 * (n : Int)) = 10 * (n : Int) := IntWalk.u32_in _ (by omega)
        have e11 : IntKind.u32.wrap (10 * (n : Int) + (d : Int)) = 10 * (n : Int) + (d : Int) := IntWalk.u32_in _ (by omega)
        have HV2 : Hid (valL (l.take (k + 1)) = 10 * n + d) := by show _ = _; rw [T.out, valL_snoc, HV.out, hdd]
        have HD2 : Hid ((l.take (k + 1)).all isDig = true) := by show _ = _; rw [T.out, List.all_append, HD.out]; simpa using hd
        have HP : Hid (10 * n + d < 10 ^ (k + 1)) := by
          show _
          rw [← HV2.out]
          exact valL_lt (k + 1) _ HD2.out (by rw [List.length_take]; omega)
        clear hdd hd hd' ebt
        go_wp2
        go_round
        case rel => exact ⟨k + 1, 10 * n + d, by omega, HP.out, by go_num, by go_num, HV2.out, HD2.out⟩
        case measure => simp [intOf]; omega
      · have hd' : isDig (l.getD k 0) = false := by simpa using hd
        have HN : Hid (numV most l = none) := num_bad hk' hd'
        have HM : Hid (numN most l = 0) := by show _ = _; unfold numN; rw [HN.out]; rfl
        have hw : bt s k < 48 ∨ (decide (bt s k < 48) = false ∧ 57 < bt s k) := by
          by_cases h48 : bt s k < 48
          · exact .inl h48
          · refine .inr ⟨by simpa using h48, ?_⟩
            have : ¬ (48 ≤ bt s k ∧ bt s k ≤ 57) := by
              rw [HB.out]
              intro h
              exact hd ((isDig_iff _).2 (by omega))
            omega
        clear hd hd'
        rcases hw with q | ⟨q, q'⟩
        all_goals
          go_wp2
          go_ret2
          rw [HN.out, HM.out]
          exact ⟨rfl, Below.refl _ _⟩
end Go.Proofs.Ytaaobacmlaaajaa
