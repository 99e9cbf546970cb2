/- Contracts: addresses read, by the program and by the document. -/
import Derived.Test.YtaaobacmlaaajaaAddrsD
namespace Go.Proofs.Ytaaobacmlaaajaa
set_option linter.unusedVariables false
set_option linter.unusedSimpArgs false
open Go.ChangeShapes Go.WideShapes Go.ChangeAt Go.RowKit Go.PlainAid
def parseA (l : List UInt8) : Nat := (parseV l).getD 0
def parseE (l : List UInt8) : Int := if (parseV l).isSome then 0 else 3
theorem u32_hlA (a b : Nat) (ha : a < 16777216) (hb : b ≤ 255) : bits .or .u32 ((a : Int) * 256) (b : Int) = (a : Int) * 256 + (b : Int) := by
  rw [u32_or _ _ (by omega) (by omega) (by omega) (by omega)]
  have h := Nat.two_pow_add_eq_or_of_lt (i := 8) (b := b) (by omega) a
  have e : ((a : Int) * 256).toNat = 2 ^ 8 * a := by omega
  have e' : (b : Int).toNat = b := by omega
  rw [e, e', ← h]
  omega
theorem parseC_none {k a : Nat} {r p q : List UInt8} {z : Bool} (hc : cut1 46 r = (p, q, z)) (hn : numV 255 p = none) : parseC (k + 1) a r = none := by
  unfold parseC; rw [hc]; simp [hn]
theorem parseC_same {k a n : Nat} {r p q : List UInt8} {z : Bool} (hc : cut1 46 r = (p, q, z)) (hn : numV 255 p = some n) (hz : z = decide (k = 0)) : parseC (k + 1) a r = none := by
  unfold parseC; rw [hc]; simp [hn, hz]
theorem parseC_next {k a n : Nat} {r p q : List UInt8} {z : Bool} (hc : cut1 46 r = (p, q, z)) (hn : numV 255 p = some n) (hz : ¬ z = decide (k = 0)) : parseC (k + 1) a r = parseC k (a * 256 + n) q := by
  rw [parseC, hc]; simp only [hn]; rw [if_neg hz]
theorem cut1_len (c : UInt8) (l : List UInt8) : (cut1 c l).1.length ≤ l.length ∧ (cut1 c l).2.1.length ≤ l.length := by
  rcases cut1_cases c l with ⟨a, b, rfl, ha, hc⟩ | ⟨hx, hc⟩
  · rw [hc]; simp; omega
  · rw [hc]; simp
theorem cutZ_len (c : UInt8) (l : List UInt8) : (cutZ c l).1.length ≤ l.length ∧ (cutZ c l).2.1.length ≤ l.length := by
  rcases cutZ_cases c l with ⟨a, b, rfl, ha, hc⟩ | ⟨hx, hc⟩
  · rw [hc]; simp; omega
  · rw [hc]; simp
set_option maxHeartbeats 4000000 in
set_option maxRecDepth 100000 in
theorem parse_ (l : List UInt8) (w : World) (hl : l.length ≤ maxLen) :
    Calls Try.prog 6 #[.string (str l)] w fun e w' => e = .returned (.tuple #[.int .u32 (parseA l : Nat), .int .i64 (parseE l)]) ∧ Below w.heap.size w w' := by
  go_enter Try.func6, Try.ntmps6
  go_wp2_with fail
  go_loopw [2, 4, 13] (fun va vr si wr => ∃ (i a : Nat) (r : List UInt8), i ≤ 4 ∧ si = .int .i64 (i : Int) ∧ va = .int .u32 (a : Int) ∧ vr = .string (str r) ∧ a < 256 ^ i ∧ parseC (4 - i) a r = parseV l ∧ r.length ≤ l.length ∧ Below w.heap.size w wr) (fun _ _ si _ => 4 - (intOf si).toNat)
  case atStart => exact ⟨0, 0, l, by omega, rfl, rfl, rfl, by omega, rfl, Nat.le_refl _, Below.refl _ _⟩
  case round =>
    obtain ⟨i, a, r, hi, rfl, rfl, rfl, ha, hP, hr, B⟩ := hrel
    have HP := Lib.hid hP
    clear hP
    by_cases h4 : i = 4
    · subst h4
      have HN : Hid (parseV l = some a) := by rw [← HP.out]; rfl
      have HA : Hid (parseA l = a ∧ parseE l = 0) := by show _; unfold parseA parseE; rw [HN.out]; exact ⟨rfl, rfl⟩
      go_wp2
      go_ret2
      rw [HA.out.1, HA.out.2]
      exact ⟨rfl, B⟩
    · have hi4 : i < 4 := by omega
      have e0 : decide (i < 4) = true := by simpa using hi4
      have ha24 : a < 16777216 := Nat.lt_of_lt_of_le ha (show 256 ^ i ≤ 256 ^ 3 from Nat.pow_le_pow_right (by omega) (by omega))
      obtain ⟨k, hk⟩ : ∃ k, k = 3 - i := ⟨_, rfl⟩
      have hk' : 4 - i = k + 1 := by omega
      rw [hk'] at HP
      obtain ⟨p, q, z, hc⟩ : ∃ p q z, cut1 46 r = (p, q, z) := ⟨_, _, _, rfl⟩
      have hcl := cut1_len 46 r
      have c1 := fun w => cut_ r 46 w (by unfold maxLen at *; omega)
      rw [hc] at hcl c1
      simp only at hcl c1
      have HC := Lib.hid hc
      have c2 := fun w => num8_ p w (by unfold maxLen at *; omega)
      have HI := Lib.hid (show a < 256 ^ i from ha)
      clear h4 ha hc hk'
      cases hn : numV 255 p with
      | none =>
        have HN : Hid (parseV l = none) := by rw [← HP.out]; exact parseC_none HC.out hn
        have HA : Hid (parseA l = 0 ∧ parseE l = 3) := by show _; unfold parseA parseE; rw [HN.out]; exact ⟨rfl, rfl⟩
        rw [hn] at c2
        clear hn
        go_wp2_with fail
        refine (c1 _).mono ?_; rintro e w1 ⟨rfl, b1⟩
        have B1 := B.trans (b1.mono B.size)
        clear B b1
        go_wp2_with fail
        refine (c2 _).mono ?_; rintro e w2 ⟨rfl, rfl⟩
        go_wp2
        go_ret2
        rw [HA.out.1, HA.out.2]
        exact ⟨rfl, B1⟩
      | some n =>
        have hnn : numN 255 p = n := by unfold numN; rw [hn]; rfl
        have hn255 := numV_le hn
        rw [hn, hnn] at c2
        have HNN := Lib.hid hn
        clear hn hnn
        obtain ⟨d, hd⟩ : ∃ d : Bool, d = decide (k = 0) := ⟨_, rfl⟩
        have hd3 : ((i : Int) == 3) = d := by
          rw [hd]
          by_cases h3 : i = 3
          · subst h3; subst hk; rfl
          · have : ¬ k = 0 := by omega
            simp [this]; omega
        have hd3' : decide ((i : Int) = 3) = d := by rw [← hd3]; rfl
        have HD := Lib.hid hd
        clear hd
        by_cases hz : z = d
        · have HN : Hid (parseV l = none) := by rw [← HP.out]; exact parseC_same HC.out HNN.out (by rw [hz, HD.out])
          have HA : Hid (parseA l = 0 ∧ parseE l = 3) := by show _; unfold parseA parseE; rw [HN.out]; exact ⟨rfl, rfl⟩
          have hzz : (z == d) = true := by simpa using hz
          go_wp2_with fail
          refine (c1 _).mono ?_; rintro e w1 ⟨rfl, b1⟩
          have B1 := B.trans (b1.mono B.size)
          clear B b1
          go_wp2_with fail
          refine (c2 _).mono ?_; rintro e w2 ⟨rfl, rfl⟩
          go_wp2
          go_ret2
          rw [HA.out.1, HA.out.2]
          exact ⟨rfl, B1⟩
        · have HN : Hid (parseC (4 - (i + 1)) (a * 256 + n) q = parseV l) := by
            rw [← HP.out, parseC_next HC.out HNN.out (by rw [← HD.out]; exact hz)]
            show _ = _
            congr 1; omega
          have HB : Hid (a * 256 + n < 256 ^ (i + 1)) := by have := HI.out; show _ < _; rw [Nat.pow_succ]; omega
          have hzz : (z == d) = false := by simpa using hz
          have g1 : IntKind.u32.wrap ((a : Int) * 256) = (a : Int) * 256 := IntWalk.u32_in _ (by omega)
          have g2 : IntKind.u32.wrap (n : Int) = (n : Int) := IntWalk.u32_in _ (by omega)
          have g3 := u32_hlA a n ha24 hn255
          have g4 : IntKind.u32.wrap ((a : Int) * 256 + (n : Int)) = (a : Int) * 256 + (n : Int) := IntWalk.u32_in _ (by omega)
          go_wp2_with fail
          refine (c1 _).mono ?_; rintro e w1 ⟨rfl, b1⟩
          have B1 := B.trans (b1.mono B.size)
          clear B b1
          go_wp2_with fail
          refine (c2 _).mono ?_; rintro e w2 ⟨rfl, rfl⟩
          go_wp2
          go_roundw
          case rel => exact ⟨i + 1, a * 256 + n, q, by omega, by go_num, by go_num, rfl, HB.out, HN.out, by omega, B1⟩
          case measure => simp [intOf]; omega
theorem parseR_gone {k z a : Nat} {r p q : List UInt8} (hc : cutZ 46 r = (p, q, false)) : parseR (k + 2) z a r = none := by
  unfold parseR; rw [hc]; simp
theorem parseR_none {k z a : Nat} {r p q : List UInt8} (hc : cutZ 46 r = (p, q, true)) (hn : numV 255 q = none) : parseR (k + 2) z a r = none := by
  unfold parseR; rw [hc]; simp [hn]
theorem parseR_next {k z a n : Nat} {r p q : List UInt8} (hc : cutZ 46 r = (p, q, true)) (hn : numV 255 q = some n) : parseR (k + 2) z a r = parseR (k + 1) (z * 256) (a + n * z) p := by
  rw [parseR, hc]; simp [hn]
theorem parseR_none1 {z a : Nat} {r : List UInt8} (hn : numV 255 r = none) : parseR 1 z a r = none := by
  unfold parseR; simp [hn]
theorem parseR_next1 {z a n : Nat} {r : List UInt8} (hn : numV 255 r = some n) : parseR 1 z a r = some (a + n * z) := by
  unfold parseR; simp [hn]
set_option maxHeartbeats 4000000 in
set_option maxRecDepth 100000 in
theorem rparse_ (l : List UInt8) (w : World) (hl : l.length ≤ maxLen) :
    Calls Try.prog 7 #[.string (str l)] w fun e w' => e = .returned (.tuple #[.int .u32 (parseA l : Nat), .int .i64 (parseE l)]) ∧ Below w.heap.size w w' := by
  go_enter Try.func7, Try.ntmps7
  go_wp2_with fail
  go_loopw [0, 4, 5, 6] (fun vr va vz si wr => ∃ (i a z : Nat) (r : List UInt8), i ≤ 4 ∧ si = .int .i64 (i : Int) ∧ va = .int .u32 (a : Int) ∧ vz = .int .u32 (z : Int) ∧ vr = .string (str r) ∧ z = 256 ^ i % 4294967296 ∧ a < 256 ^ i ∧ parseR (4 - i) (256 ^ i) a r = parseV l ∧ r.length ≤ l.length ∧ Below w.heap.size w wr) (fun _ _ _ si _ => 4 - (intOf si).toNat)
  case atStart => exact ⟨0, 0, 1, l, by omega, rfl, rfl, rfl, rfl, rfl, by omega, parseR_eq l, Nat.le_refl _, Below.refl _ _⟩
  case round =>
    obtain ⟨i, a, z, r, hi, rfl, rfl, rfl, rfl, hz, ha, hP, hr, B⟩ := hrel
    have HP := Lib.hid hP
    clear hP
    by_cases h4 : i = 4
    · subst h4
      have HN : Hid (parseV l = some a) := by rw [← HP.out]; rfl
      have HA : Hid (parseA l = a ∧ parseE l = 0) := by show _ ∧ _; unfold parseA parseE; rw [HN.out]; exact ⟨rfl, rfl⟩
      clear hz ha
      go_wp2
      go_ret2
      rw [HA.out.1, HA.out.2]
      exact ⟨rfl, B⟩
    by_cases h3 : i = 3
    · subst h3
      have hz' : z = 16777216 := hz
      have ha' : a < 16777216 := ha
      have HP' : Hid (parseR 1 16777216 a r = parseV l) := HP.out
      clear hz HP h4 ha
      subst hz'
      have c2 := fun w => number_ 255 (by omega) r w (by unfold maxLen at *; omega)
      cases hn : numV 255 r with
      | none =>
        have HN : Hid (parseV l = none) := by rw [← HP'.out]; exact parseR_none1 hn
        have HA : Hid (parseA l = 0 ∧ parseE l = 3) := by show _ ∧ _; unfold parseA parseE; rw [HN.out]; exact ⟨rfl, rfl⟩
        rw [hn] at c2
        clear hn
        go_wp2_with fail
        refine (c2 _).mono ?_; rintro e w1 ⟨rfl, b1⟩
        have B1 := B.trans (b1.mono B.size)
        clear B b1
        go_wp2
        go_ret2
        rw [HA.out.1, HA.out.2]
        exact ⟨rfl, B1⟩
      | some n =>
        have HN : Hid (parseV l = some (a + n * 16777216)) := by rw [← HP'.out]; exact parseR_next1 hn
        have hnn : numN 255 r = n := by unfold numN; rw [hn]; rfl
        have hn255 := numV_le hn
        rw [hn, hnn] at c2
        clear hn hnn
        have g1 : IntKind.u32.wrap ((n : Int) * 16777216) = (n : Int) * 16777216 := IntWalk.u32_in _ (by omega)
        have g2 : IntKind.u32.wrap ((a : Int) + (n : Int) * 16777216) = (a : Int) + (n : Int) * 16777216 := IntWalk.u32_in _ (by omega)
        go_wp2_with fail
        refine (c2 _).mono ?_; rintro e w1 ⟨rfl, b1⟩
        have B1 := B.trans (b1.mono B.size)
        clear B b1
        go_wp2
        go_roundw
        case rel => exact ⟨4, a + n * 16777216, 0, r, by omega, by go_num, by go_num, by go_num, rfl, rfl, by omega, by rw [HN.out]; rfl, by omega, B1⟩
        case measure => simp [intOf]
    · have hi3 : i < 3 := by omega
      have e0 : decide (i < 4) = true := by simp; omega
      have e1 : decide (i < 3) = true := by simp; omega
      obtain ⟨k, hk⟩ : ∃ k, k = 2 - i := ⟨_, rfl⟩
      have hk' : 4 - i = k + 2 := by omega
      rw [hk'] at HP
      have hzz : z = 256 ^ i := by
        have : 256 ^ i ≤ 256 ^ 2 := Nat.pow_le_pow_right (by omega) (by omega)
        rw [hz, Nat.mod_eq_of_lt (by omega)]
      have hz16 : z ≤ 65536 := by
        have : 256 ^ i ≤ 256 ^ 2 := Nat.pow_le_pow_right (by omega) (by omega)
        omega
      rw [← hzz] at HP ha
      have HZ := Lib.hid hzz
      obtain ⟨p, q, y, hc⟩ : ∃ p q y, cutZ 46 r = (p, q, y) := ⟨_, _, _, rfl⟩
      have hcl := cutZ_len 46 r
      have c1 := fun w => cutz_ r 46 w (by unfold maxLen at *; omega)
      rw [hc] at hcl c1
      simp only at hcl c1
      obtain ⟨hl1, hl2⟩ := hcl
      have HC := Lib.hid hc
      have c2 := fun w => number_ 255 (by omega) q w (by unfold maxLen at *; omega)
      clear h4 h3 hc hk' hzz hz
      cases y with
      | false =>
        have HN : Hid (parseV l = none) := by rw [← HP.out]; exact parseR_gone HC.out
        have HA : Hid (parseA l = 0 ∧ parseE l = 3) := by show _ ∧ _; unfold parseA parseE; rw [HN.out]; exact ⟨rfl, rfl⟩
        go_wp2_with fail
        refine (c1 _).mono ?_; rintro e w1 ⟨rfl, b1⟩
        have B1 := B.trans (b1.mono B.size)
        clear B b1
        go_wp2
        go_ret2
        rw [HA.out.1, HA.out.2]
        exact ⟨rfl, B1⟩
      | true =>
        cases hn : numV 255 q with
        | none =>
          have HN : Hid (parseV l = none) := by rw [← HP.out]; exact parseR_none HC.out hn
          have HA : Hid (parseA l = 0 ∧ parseE l = 3) := by show _ ∧ _; unfold parseA parseE; rw [HN.out]; exact ⟨rfl, rfl⟩
          rw [hn] at c2
          clear hn
          go_wp2_with fail
          refine (c1 _).mono ?_; rintro e w1 ⟨rfl, b1⟩
          have B1 := B.trans (b1.mono B.size)
          clear B b1
          go_wp2_with fail
          refine (c2 _).mono ?_; rintro e w2 ⟨rfl, b2⟩
          have B2 := B1.trans (b2.mono B1.size)
          clear B1 b2
          go_wp2
          go_ret2
          rw [HA.out.1, HA.out.2]
          exact ⟨rfl, B2⟩
        | some n =>
          have HN : Hid (parseR (k + 1) (z * 256) (a + n * z) p = parseV l) := by rw [← HP.out]; exact (parseR_next HC.out hn).symm
          have hnn : numN 255 q = n := by unfold numN; rw [hn]; rfl
          have hn255 := numV_le hn
          rw [hn, hnn] at c2
          clear hn hnn
          have hm : n * z ≤ 255 * z := Nat.mul_le_mul_right z hn255
          obtain ⟨m, hmm⟩ : ∃ m, m = n * z := ⟨_, rfl⟩
          have hmi : (n : Int) * (z : Int) = (m : Int) := by rw [hmm]; push_cast; rfl
          rw [← hmm] at HN hm
          have HMM := Lib.hid hmm
          clear hmm
          have g1 : IntKind.u32.wrap (m : Int) = (m : Int) := IntWalk.u32_in _ (by omega)
          have g2 : IntKind.u32.wrap ((a : Int) + (m : Int)) = (a : Int) + (m : Int) := IntWalk.u32_in _ (by omega)
          have g3 : IntKind.u32.wrap ((z : Int) * 256) = (z : Int) * 256 := IntWalk.u32_in _ (by omega)
          have HZ2 : Hid (256 ^ (i + 1) = z * 256) := by show _ = _; rw [Nat.pow_succ, ← HZ.out]
          go_wp2_with fail
          refine (c1 _).mono ?_; rintro e w1 ⟨rfl, b1⟩
          have B1 := B.trans (b1.mono B.size)
          clear B b1
          go_wp2_with fail
          refine (c2 _).mono ?_; rintro e w2 ⟨rfl, b2⟩
          have B2 := B1.trans (b2.mono B1.size)
          clear B1 b2
          go_wp2
          go_roundw
          case rel => exact ⟨i + 1, a + m, z * 256, p, by omega, by go_num, by go_num, by go_num, rfl, by rw [HZ2.out, Nat.mod_eq_of_lt (by omega)], by rw [HZ2.out]; omega, by rw [HZ2.out, show 4 - (i + 1) = k + 1 by omega, HN.out], by omega, B2⟩
          case measure => simp [intOf]; omega
end Go.Proofs.Ytaaobacmlaaajaa
