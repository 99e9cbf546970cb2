/- Contracts: the program's numbers of 8 and of 16 bits. -/
import Derived.Test.YtaaobacmlaaajaaDoorAddrsB
namespace Go.Proofs.YtaaobacmlaaajaaDoor
set_option linter.unusedVariables false
set_option linter.unusedSimpArgs false
open Go.ChangeShapes Go.WideShapes Go.ChangeAt Go.RowKit Go.PlainAid
theorem isDig_iff (c : UInt8) : isDig c = true ↔ 48 ≤ c.toNat ∧ c.toNat ≤ 57 := by simp [isDig]
theorem num_bad {most : Nat} {l : List UInt8} {k : Nat} (hk : k < l.length) (h : isDig (l.getD k 0) = false) : numV most l = none := by
  unfold numV
  rw [if_neg]
  intro hc
  simp only [Bool.and_eq_true] at hc
  have := List.all_eq_true.1 hc.1.1.1 (l.getD k 0) (by rw [getD_lt' l k hk]; exact List.getElem_mem hk)
  rw [h] at this
  cases this
theorem num_big {most : Nat} {l : List UInt8} {k : Nat} (h : most < valL (l.take k)) : numV most l = none := by
  unfold numV
  rw [if_neg]
  intro hc
  have := valL_app_ge (l.take k) (l.drop k)
  rw [List.take_append_drop] at this
  omega
theorem num_lead {most : Nat} {l : List UInt8} (h1 : 1 < l.length) (h2 : l.getD 0 0 = 48) : numV most l = none := by
  match l, h1 with
  | x :: y :: r, _ =>
    have : x = 48 := by simpa using h2
    subst this
    unfold numV
    rw [if_neg]
    simp
theorem num_yes {most : Nat} {l : List UInt8} (h0 : 1 ≤ l.length) (h1 : l.length = 1 ∨ ¬ l.getD 0 0 = 48) (h2 : l.all isDig = true) (h3 : valL l ≤ most) : numV most l = some (valL l) := by
  match l, h0 with
  | x :: r, _ =>
    unfold numV
    rw [if_pos]
    refine ⟨?_, h3⟩
    rw [h2]
    simp at h1 ⊢
    exact h1
theorem u16_quo (x y : Int) (h : 0 ≤ x ∧ x ≤ 65535 ∧ 1 ≤ y) : IntKind.u16.wrap (x.tdiv y) = x / y := by
  rw [Int.tdiv_eq_ediv_of_nonneg h.1]
  have h1 : 0 ≤ x / y := Int.ediv_nonneg h.1 (by omega)
  have h2 : x / y ≤ x := Int.ediv_le_self y h.1
  exact IntWalk.u16_in _ (by omega)
def numN (most : Nat) (l : List UInt8) : Nat := (numV most l).getD 0
theorem numN_le (most : Nat) (l : List UInt8) : numN most l ≤ most := by
  unfold numN
  cases h : numV most l with
  | none => simp
  | some n => simpa using numV_le h
set_option maxHeartbeats 2000000 in
set_option maxRecDepth 100000 in
theorem num8_ (l : List UInt8) (w : World) (hl : l.length ≤ maxLen) :
    Calls Tryd.prog 30 #[.string (str l)] w fun e w' => e = .returned (.tuple #[.int .u8 (numN 255 l : Nat), .bool (numV 255 l).isSome]) ∧ w = w' := by
  unfold maxLen at hl
  have hs := str_size l
  have hb : ∀ k, bt (str l) k = ((l.getD k 0).toNat : Int) := str_bt l
  have ht : (str l).toList = l := str_toList l
  obtain ⟨s, hS⟩ : ∃ s, s = str l := ⟨_, rfl⟩
  rw [← hS] at hs hb ht ⊢
  clear hS
  have HB := Lib.hid hb
  have HS := Lib.hid hs
  have HT := Lib.hid ht
  have hg := get_bt s
  have hs2 : (s.size : Int) ≤ 9223372036854775807 := by omega
  clear hb hs ht
  match l, hl, HB, HS, HT with
  | [], hl, HB, HS, HT =>
    have e1 : s.toList = [] := HT.out
    have e2 : s.toList.isEmpty = true := by rw [e1]; rfl
    have HN : Hid (numN 255 [] = 0 ∧ numV 255 [] = none) := ⟨rfl, rfl⟩
    go_enter Tryd.func30, Tryd.ntmps30
    go_wp2
    go_ret2
    rw [HN.out.1, HN.out.2]
    exact ⟨rfl, rfl⟩
  | x :: r, hl, HB, HS, HT =>
    have e1 : ¬ s.toList = [] := by rw [HT.out]; simp
    have e2 : s.toList.isEmpty = false := by rw [HT.out]; rfl
    have p0 : 0 < s.size := by rw [HS.out]; simp
    have p1 : 0 < (s.size : Int) := by omega
    obtain ⟨l, hL⟩ : ∃ l, l = x :: r := ⟨_, rfl⟩
    rw [← hL] at HB HS HT hl ⊢
    have hl1 : 1 ≤ l.length := by rw [hL]; simp
    clear hL
    by_cases hlead : 1 < l.length ∧ l.getD 0 0 = 48
    · have HN : Hid (numV 255 l = none) := num_lead hlead.1 hlead.2
      have b0 : bt s 0 = 48 := by rw [HB.out, hlead.2]; rfl
      have p2 : 1 < (s.size : Int) := by rw [HS.out]; omega
      have HM : Hid (numN 255 l = 0) := by show _ = _; unfold numN; rw [HN.out]; rfl
      clear hlead
      go_enter Tryd.func30, Tryd.ntmps30
      go_wp2
      go_ret2
      rw [HM.out, HN.out]
      exact ⟨rfl, rfl⟩
    · have HC : Hid (l.length = 1 ∨ ¬ l.getD 0 0 = 48) := by
        show _
        by_cases h : l.length = 1
        · exact .inl h
        · exact .inr (fun h' => hlead ⟨by omega, h'⟩)
      have HW : (bt s 0 = 48 ∧ decide (1 < (s.size : Int)) = false) ∨ (bt s 0 == 48) = false := by
        by_cases hq : bt s 0 = 48
        · refine .inl ⟨hq, ?_⟩
          rw [HB.out] at hq
          rcases HC.out with h | h
          · simp; rw [HS.out]; omega
          · exact absurd (UInt8.toNat_inj.1 (by simpa using (show (l.getD 0 0).toNat = 48 by omega))) h
        · exact .inr (by simpa using hq)
      clear hlead
      have hm : bits BinOp.xor IntKind.u8 IntKind.u8.max 0 = 255 := by kernel_rfl
      rcases HW with ⟨q1, q2⟩ | q1
      all_goals
        go_enter Tryd.func30, Tryd.ntmps30
        go_wp2_with fail
        clear q1
        try clear q2
        go_loop [2, 23] (fun v si => ∃ k n : Nat, k ≤ s.size ∧ n ≤ 255 ∧ si = .int .i64 (k : Int) ∧ v = .int .u8 (n : Int) ∧ valL (l.take k) = n ∧ (l.take k).all isDig = true) (fun _ si => s.size - (intOf si).toNat)
        case atStart => exact ⟨0, 0, by omega, by omega, rfl, rfl, by simp [valL, valF], by simp⟩
        case round =>
          obtain ⟨k, n, hk, hn, rfl, rfl, hV, hD⟩ := hrel
          have HV := Lib.hid hV
          have HD := Lib.hid hD
          clear hV hD
          by_cases hend : k = s.size
          · have HE : Hid (l.take k = l) := List.take_of_length_le (by have := HS.out; omega)
            have HN : Hid (numV 255 l = some n) := by
              show _ = _
              rw [num_yes hl1 HC.out (by rw [← HE.out]; exact HD.out) (by rw [← HE.out, HV.out]; exact hn), ← HV.out, HE.out]
            have HM : Hid (numN 255 l = n) := by show _ = _; unfold numN; rw [HN.out]; rfl
            have e5 : decide (k < s.size) = false := by simp; omega
            clear hend
            go_wp2
            go_ret2
            rw [HM.out, HN.out]
            exact ⟨rfl, rfl⟩
          · have hk' : k < l.length := by have := HS.out; omega
            have g0 : (k : Int) < (s.size : Int) := by omega
            have g1 : k < s.size := by omega
            have T : Hid (l.take (k + 1) = l.take k ++ [l.getD k 0]) := take_snoc l k hk'
            have c1 := bt_nonneg s k
            have c2 := bt_le s k
            have e5 : decide (k < s.size) = true := by simp; omega
            have HK := Lib.hid hend
            clear hend
            by_cases hd : isDig (l.getD k 0) = true
            · obtain ⟨d, hdd⟩ : ∃ d : Nat, d = (l.getD k 0).toNat - 48 := ⟨_, rfl⟩
              have hd' := (isDig_iff _).1 hd
              have ed : IntKind.u8.wrap (bt s k - 48) = (d : Int) := by rw [HB.out, IntWalk.u8_in _ (by omega)]; omega
              have ed' : bt s k - 48 = (d : Int) := by rw [HB.out]; omega
              have d9 : d ≤ 9 := by omega
              have e6 : decide ((9 : Int) < (d : Int)) = false := by simp; omega
              have e7 : IntKind.u8.wrap (255 - (d : Int)) = 255 - (d : Int) := IntWalk.u8_in _ (by omega)
              have e8 : IntKind.u8.wrap ((255 - (d : Int)).tdiv 10) = (255 - (d : Int)) / 10 := IntWalk.u8_quo _ _ (by omega)
              have HV2 : Hid (valL (l.take (k + 1)) = 10 * n + d) := by show _ = _; rw [T.out, valL_snoc, HV.out, hdd]
              have HD2 : Hid ((l.take (k + 1)).all isDig = true) := by show _ = _; rw [T.out, List.all_append, HD.out]; simpa using hd
              clear hdd hd hd'
              by_cases ho : 10 * n + d ≤ 255
              · have e9 : decide ((255 - (d : Int)) / 10 < (n : Int)) = false := by simp; omega
                have e10 : IntKind.u8.wrap (10 * (n : Int)) = 10 * (n : Int) := IntWalk.u8_in _ (by omega)
                have e11 : IntKind.u8.wrap (10 * (n : Int) + (d : Int)) = 10 * (n : Int) + (d : Int) := IntWalk.u8_in _ (by omega)
                go_wp2
                go_round
                case rel => exact ⟨k + 1, 10 * n + d, by omega, ho, by go_num, by go_num, HV2.out, HD2.out⟩
                case measure => simp [intOf]; omega
              · have e9 : decide ((255 - (d : Int)) / 10 < (n : Int)) = true := by simp; omega
                have HN : Hid (numV 255 l = none) := num_big (k := k + 1) (by rw [HV2.out]; omega)
                have HM : Hid (numN 255 l = 0) := by show _ = _; unfold numN; rw [HN.out]; rfl
                clear ho
                go_wp2
                go_ret2
                rw [HM.out, HN.out]
                exact ⟨rfl, rfl⟩
            · have hd' : isDig (l.getD k 0) = false := by simpa using hd
              obtain ⟨d, hdd⟩ : ∃ d : Int, d = IntKind.u8.wrap (bt s k - 48) := ⟨_, rfl⟩
              have d9 : 9 < d := by
                have : ¬ (48 ≤ bt s k ∧ bt s k ≤ 57) := by
                  rw [HB.out]
                  intro h
                  exact hd ((isDig_iff _).2 (by omega))
                rw [hdd]
                by_cases h48 : bt s k < 48
                · have : IntKind.u8.wrap (bt s k - 48) = bt s k - 48 + 256 := by
                    unfold IntKind.wrap; simp [IntKind.bits, IntKind.signed]; omega
                  omega
                · rw [IntWalk.u8_in _ (by omega)]; omega
              have hdd' := hdd.symm
              have e6 : decide ((9 : Int) < d) = true := by simp; omega
              have HN : Hid (numV 255 l = none) := num_bad hk' hd'
              have HM : Hid (numN 255 l = 0) := by show _ = _; unfold numN; rw [HN.out]; rfl
              clear hd hd' hdd
              go_wp2
              go_ret2
              rw [HM.out, HN.out]
              exact ⟨rfl, rfl⟩
set_option maxHeartbeats 2000000 in
set_option maxRecDepth 100000 in
theorem num16_ (l : List UInt8) (w : World) (hl : l.length ≤ maxLen) :
    Calls Tryd.prog 34 #[.string (str l)] w fun e w' => e = .returned (.tuple #[.int .u16 (numN 65535 l : Nat), .bool (numV 65535 l).isSome]) ∧ w = w' := by
  unfold maxLen at hl
  have hs := str_size l
  have hb : ∀ k, bt (str l) k = ((l.getD k 0).toNat : Int) := str_bt l
  have ht : (str l).toList = l := str_toList l
  obtain ⟨s, hS⟩ : ∃ s, s = str l := ⟨_, rfl⟩
  rw [← hS] at hs hb ht ⊢
  clear hS
  have HB := Lib.hid hb
  have HS := Lib.hid hs
  have HT := Lib.hid ht
  have hg := get_bt s
  have hs2 : (s.size : Int) ≤ 9223372036854775807 := by omega
  clear hb hs ht
  match l, hl, HB, HS, HT with
  | [], hl, HB, HS, HT =>
    have e1 : s.toList = [] := HT.out
    have e2 : s.toList.isEmpty = true := by rw [e1]; rfl
    have HN : Hid (numN 65535 [] = 0 ∧ numV 65535 [] = none) := ⟨rfl, rfl⟩
    go_enter Tryd.func34, Tryd.ntmps34
    go_wp2
    go_ret2
    rw [HN.out.1, HN.out.2]
    exact ⟨rfl, rfl⟩
  | x :: r, hl, HB, HS, HT =>
    have e1 : ¬ s.toList = [] := by rw [HT.out]; simp
    have e2 : s.toList.isEmpty = false := by rw [HT.out]; rfl
    have p0 : 0 < s.size := by rw [HS.out]; simp
    have p1 : 0 < (s.size : Int) := by omega
    obtain ⟨l, hL⟩ : ∃ l, l = x :: r := ⟨_, rfl⟩
    rw [← hL] at HB HS HT hl ⊢
    have hl1 : 1 ≤ l.length := by rw [hL]; simp
    clear hL
    by_cases hlead : 1 < l.length ∧ l.getD 0 0 = 48
    · have HN : Hid (numV 65535 l = none) := num_lead hlead.1 hlead.2
      have b0 : bt s 0 = 48 := by rw [HB.out, hlead.2]; rfl
      have p2 : 1 < (s.size : Int) := by rw [HS.out]; omega
      have HM : Hid (numN 65535 l = 0) := by show _ = _; unfold numN; rw [HN.out]; rfl
      clear hlead
      go_enter Tryd.func34, Tryd.ntmps34
      go_wp2
      go_ret2
      rw [HM.out, HN.out]
      exact ⟨rfl, rfl⟩
    · have HC : Hid (l.length = 1 ∨ ¬ l.getD 0 0 = 48) := by
        show _
        by_cases h : l.length = 1
        · exact .inl h
        · exact .inr (fun h' => hlead ⟨by omega, h'⟩)
      have HW : (bt s 0 = 48 ∧ decide (1 < (s.size : Int)) = false) ∨ (bt s 0 == 48) = false := by
        by_cases hq : bt s 0 = 48
        · refine .inl ⟨hq, ?_⟩
          rw [HB.out] at hq
          rcases HC.out with h | h
          · simp; rw [HS.out]; omega
          · exact absurd (UInt8.toNat_inj.1 (by simpa using (show (l.getD 0 0).toNat = 48 by omega))) h
        · exact .inr (by simpa using hq)
      clear hlead
      have hm : bits BinOp.xor IntKind.u16 IntKind.u16.max 0 = 65535 := by kernel_rfl
      rcases HW with ⟨q1, q2⟩ | q1
      all_goals
        go_enter Tryd.func34, Tryd.ntmps34
        go_wp2_with fail
        clear q1
        try clear q2
        go_loop [2, 23] (fun v si => ∃ k n : Nat, k ≤ s.size ∧ n ≤ 65535 ∧ si = .int .i64 (k : Int) ∧ v = .int .u16 (n : Int) ∧ valL (l.take k) = n ∧ (l.take k).all isDig = true) (fun _ si => s.size - (intOf si).toNat)
        case atStart => exact ⟨0, 0, by omega, by omega, rfl, rfl, by simp [valL, valF], by simp⟩
        case round =>
          obtain ⟨k, n, hk, hn, rfl, rfl, hV, hD⟩ := hrel
          have HV := Lib.hid hV
          have HD := Lib.hid hD
          clear hV hD
          by_cases hend : k = s.size
          · have HE : Hid (l.take k = l) := List.take_of_length_le (by have := HS.out; omega)
            have HN : Hid (numV 65535 l = some n) := by
              show _ = _
              rw [num_yes hl1 HC.out (by rw [← HE.out]; exact HD.out) (by rw [← HE.out, HV.out]; exact hn), ← HV.out, HE.out]
            have HM : Hid (numN 65535 l = n) := by show _ = _; unfold numN; rw [HN.out]; rfl
            have e5 : decide (k < s.size) = false := by simp; omega
            clear hend
            go_wp2
            go_ret2
            rw [HM.out, HN.out]
            exact ⟨rfl, rfl⟩
          · have hk' : k < l.length := by have := HS.out; omega
            have g0 : (k : Int) < (s.size : Int) := by omega
            have g1 : k < s.size := by omega
            have T : Hid (l.take (k + 1) = l.take k ++ [l.getD k 0]) := take_snoc l k hk'
            have c1 := bt_nonneg s k
            have c2 := bt_le s k
            have e5 : decide (k < s.size) = true := by simp; omega
            have HK := Lib.hid hend
            clear hend
            by_cases hd : isDig (l.getD k 0) = true
            · obtain ⟨d, hdd⟩ : ∃ d : Nat, d = (l.getD k 0).toNat - 48 := ⟨_, rfl⟩
              have hd' := (isDig_iff _).1 hd
              have ed : IntKind.u8.wrap (bt s k - 48) = (d : Int) := by rw [HB.out, IntWalk.u8_in _ (by omega)]; omega
              have ed' : bt s k - 48 = (d : Int) := by rw [HB.out]; omega
              have d9 : d ≤ 9 := by omega
              have e6 : decide ((9 : Int) < (d : Int)) = false := by simp; omega
              have e12 : IntKind.u16.wrap (d : Int) = (d : Int) := IntWalk.u16_in _ (by omega)
              have e7 : IntKind.u16.wrap (65535 - (d : Int)) = 65535 - (d : Int) := IntWalk.u16_in _ (by omega)
              have e8 : IntKind.u16.wrap ((65535 - (d : Int)).tdiv 10) = (65535 - (d : Int)) / 10 := u16_quo _ _ (by omega)
              have HV2 : Hid (valL (l.take (k + 1)) = 10 * n + d) := by show _ = _; rw [T.out, valL_snoc, HV.out, hdd]
              have HD2 : Hid ((l.take (k + 1)).all isDig = true) := by show _ = _; rw [T.out, List.all_append, HD.out]; simpa using hd
              clear hdd hd hd'
              by_cases ho : 10 * n + d ≤ 65535
              · have e9 : decide ((65535 - (d : Int)) / 10 < (n : Int)) = false := by simp; omega
                have e10 : IntKind.u16.wrap (10 * (n : Int)) = 10 * (n : Int) := IntWalk.u16_in _ (by omega)
                have e11 : IntKind.u16.wrap (10 * (n : Int) + (d : Int)) = 10 * (n : Int) + (d : Int) := IntWalk.u16_in _ (by omega)
                go_wp2
                go_round
                case rel => exact ⟨k + 1, 10 * n + d, by omega, ho, by go_num, by go_num, HV2.out, HD2.out⟩
                case measure => simp [intOf]; omega
              · have e9 : decide ((65535 - (d : Int)) / 10 < (n : Int)) = true := by simp; omega
                have HN : Hid (numV 65535 l = none) := num_big (k := k + 1) (by rw [HV2.out]; omega)
                have HM : Hid (numN 65535 l = 0) := by show _ = _; unfold numN; rw [HN.out]; rfl
                clear ho
                go_wp2
                go_ret2
                rw [HM.out, HN.out]
                exact ⟨rfl, rfl⟩
            · have hd' : isDig (l.getD k 0) = false := by simpa using hd
              obtain ⟨d, hdd⟩ : ∃ d : Int, d = IntKind.u8.wrap (bt s k - 48) := ⟨_, rfl⟩
              have d9 : 9 < d := by
                have : ¬ (48 ≤ bt s k ∧ bt s k ≤ 57) := by
                  rw [HB.out]
                  intro h
                  exact hd ((isDig_iff _).2 (by omega))
                rw [hdd]
                by_cases h48 : bt s k < 48
                · have : IntKind.u8.wrap (bt s k - 48) = bt s k - 48 + 256 := by
                    unfold IntKind.wrap; simp [IntKind.bits, IntKind.signed]; omega
                  omega
                · rw [IntWalk.u8_in _ (by omega)]; omega
              have hdd' := hdd.symm
              have e6 : decide ((9 : Int) < d) = true := by simp; omega
              have HN : Hid (numV 65535 l = none) := num_bad hk' hd'
              have HM : Hid (numN 65535 l = 0) := by show _ = _; unfold numN; rw [HN.out]; rfl
              clear hd hd' hdd
              go_wp2
              go_ret2
              rw [HM.out, HN.out]
              exact ⟨rfl, rfl⟩
end Go.Proofs.YtaaobacmlaaajaaDoor
