/- Contracts: addresses read, by the program and by the document. -/
import Derived.Test.YtaaobacmlaaajaaDoorAddrsD
namespace Go.Proofs.YtaaobacmlaaajaaDoor
set_option linter.unusedVariables false
set_option linter.unusedSimpArgs false
open Go.ChangeShapes Go.WideShapes Go.ChangeAt Go.RowKit Go.PlainAid
def parseA (l : List UInt8) : Nat := (parseV l).getD 0
def parseE (l : List UInt8) : Int := if (parseV l).isSome then 0 else 3
theorem u32_hlA (a b : Nat) (ha : a < 16777216) (hb : b ≤ 255) : bits .or .u32 ((a : Int) * 256) (b : Int) = (a : Int) * 256 + (b : Int) := by
  rw [u32_or _ _ (by omega) (by omega) (by omega) (by omega)]
  have h := Nat.two_pow_add_eq_or_of_lt (i := 8) (b := b) (by omega) a
  have e : ((a : Int) * 256).toNat = 2 ^ 8 * a := by omega
  have e' : (b : Int).toNat = b := by omega
  rw [e, e', ← h]
  omega
theorem parseC_none {k a : Nat} {r p q : List UInt8} {z : Bool} (hc : cut1 46 r = (p, q, z)) (hn : numV 255 p = none) : parseC (k + 1) a r = none := by
  unfold parseC; rw [hc]; simp [hn]
theorem parseC_same {k a n : Nat} {r p q : List UInt8} {z : Bool} (hc : cut1 46 r = (p, q, z)) (hn : numV 255 p = some n) (hz : z = decide (k = 0)) : parseC (k + 1) a r = none := by
  unfold parseC; rw [hc]; simp [hn, hz]
theorem parseC_next {k a n : Nat} {r p q : List UInt8} {z : Bool} (hc : cut1 46 r = (p, q, z)) (hn : numV 255 p = some n) (hz : ¬ z = decide (k = 0)) : parseC (k + 1) a r = parseC k (a * 256 + n) q := by
  rw [parseC, hc]; simp only [hn]; rw [if_neg hz]
theorem cut1_len (c : UInt8) (l : List UInt8) : (cut1 c l).1.length ≤ l.length ∧ (cut1 c l).2.1.length ≤ l.length := by
  rcases cut1_cases c l with ⟨a, b, rfl, ha, hc⟩ | ⟨hx, hc⟩
  · rw [hc]; simp; omega
  · rw [hc]; simp
theorem cutZ_len (c : UInt8) (l : List UInt8) : (cutZ c l).1.length ≤ l.length ∧ (cutZ c l).2.1.length ≤ l.length := by
  rcases cutZ_cases c l with ⟨a, b, rfl, ha, hc⟩ | ⟨hx, hc⟩
  · rw [hc]; simp; omega
  · rw [hc]; simp
set_option maxHeartbeats 4000000 in
set_option maxRecDepth 100000 in
theorem parse_ (l : List UInt8) (w : World) (hl : l.length ≤ maxLen) :
    Calls Tryd.prog 21 #[.string (str l)] w fun e w' => e = .returned (.tuple #[.int .u32 (parseA l : Nat), .int .i64 (parseE l)]) ∧ Below w.heap.size w w' := by
  go_enter Tryd.func21, Tryd.ntmps21
  go_wp2_with fail
  go_loopw [2, 4, 13] (fun va vr si wr => ∃ (i a : Nat) (r : List UInt8), i ≤ 4 ∧ si = .int .i64 (i : Int) ∧ va = .int .u32 (a : Int) ∧ vr = .string (str r) ∧ a < 256 ^ i ∧ parseC (4 - i) a r = parseV l ∧ r.length ≤ l.length ∧ Below w.heap.size w wr) (fun _ _ si _ => 4 - (intOf si).toNat)
  case atStart => exact ⟨0, 0, l, by omega, rfl, rfl, rfl, by omega, rfl, Nat.le_refl _, Below.refl _ _⟩
  case round =>
    obtain ⟨i, a, r, hi, rfl, rfl, rfl, ha, hP, hr, B⟩ := hrel
    have HP := Lib.hid hP
    clear hP
    by_cases h4 : i = 4
    · subst h4
      have HN : Hid (parseV l = some a) := by rw [← HP.out]; rfl
      have HA : Hid (parseA l = a ∧ parseE l = 0) := by show _; unfold parseA parseE; rw [HN.out]; exact ⟨rfl, rfl⟩
      go_wp2
      go_ret2
      rw [HA.out.1, HA.out.2]
      exact ⟨rfl, B⟩
    · have hi4 : i < 4 := by omega
      have e0 : decide (i < 4) = true := by simpa using hi4
      have ha24 : a < 16777216 := Nat.lt_of_lt_of_le ha (show 256 ^ i ≤ 256 ^ 3 from Nat.pow_le_pow_right (by omega) (by omega))
      obtain ⟨k, hk⟩ : ∃ k, k = 3 - i := ⟨_, rfl⟩
      have hk' : 4 - i = k + 1 := by omega
      rw [hk'] at HP
      obtain ⟨p, q, z, hc⟩ : ∃ p q z, cut1 46 r = (p, q, z) := ⟨_, _, _, rfl⟩
      have hcl := cut1_len 46 r
      have c1 := fun w => cut_ r 46 w (by unfold maxLen at *; omega)
      rw [hc] at hcl c1
      simp only at hcl c1
      have HC := Lib.hid hc
      have c2 := fun w => num8_ p w (by unfold maxLen at *; omega)
      have HI := Lib.hid (show a < 256 ^ i from ha)
      clear h4 ha hc hk'
      cases hn : numV 255 p with
      | none =>
        have HN : Hid (parseV l = none) := by rw [← HP.out]; exact parseC_none HC.out hn
        have HA : Hid (parseA l = 0 ∧ parseE l = 3) := by show _; unfold parseA parseE; rw [HN.out]; exact ⟨rfl, rfl⟩
        rw [hn] at c2
        clear hn
        go_wp2_with fail
        refine (c1 _).mono ?_; rintro e w1 ⟨rfl, b1⟩
        have B1 := B.trans (b1.mono B.size)
        clear B b1
        go_wp2_with fail
        refine (c2 _).mono ?_; rintro e w2 ⟨rfl, rfl⟩
        go_wp2
        go_ret2
        rw [HA.out.1, HA.out.2]
        exact ⟨rfl, B1⟩
      | some n =>
        have hnn : numN 255 p = n := by unfold numN; rw [hn]; rfl
        have hn255 := numV_le hn
        rw [hn, hnn] at c2
        have HNN := Lib.hid hn
        clear hn hnn
        obtain ⟨d, hd⟩ : ∃ d : Bool, d = decide (k = 0) := ⟨_, rfl⟩
        have hd3 : ((i : Int) == 3) = d := by
          rw [hd]
          by_cases h3 : i = 3
          · subst h3; subst hk; rfl
          · have : ¬ k = 0 := by omega
            simp [this]; omega
        have hd3' : decide ((i : Int) = 3) = d := by rw [← hd3]; rfl
        have HD := Lib.hid hd
        clear hd
        by_cases hz : z = d
        · have HN : Hid (parseV l = none) := by rw [← HP.out]; exact parseC_same HC.out HNN.out (by rw [hz, HD.out])
          have HA : Hid (parseA l = 0 ∧ parseE l = 3) := by show _; unfold parseA parseE; rw [HN.out]; exact ⟨rfl, rfl⟩
          have hzz : (z == d) = true := by simpa using hz
          go_wp2_with fail
          refine (c1 _).mono ?_; rintro e w1 ⟨rfl, b1⟩
          have B1 := B.trans (b1.mono B.size)
          clear B b1
          go_wp2_with fail
          refine (c2 _).mono ?_; rintro e w2 ⟨rfl, rfl⟩
          go_wp2
          go_ret2
          rw [HA.out.1, HA.out.2]
          exact ⟨rfl, B1⟩
        · have HN : Hid (parseC (4 - (i + 1)) (a * 256 + n) q = parseV l) := by
            rw [← HP.out, parseC_next HC.out HNN.out (by rw [← HD.out]; exact hz)]
            show _ = _
            congr 1; omega
          have HB : Hid (a * 256 + n < 256 ^ (i + 1)) := by have := HI.out; show _ < _; rw [Nat.pow_succ]; omega
          have hzz : (z == d) = false := by simpa using hz
          have g1 : IntKind.u32.wrap ((a : Int) * 256) = (a : Int) * 256 := IntWalk.u32_in _ (by omega)
          have g2 : IntKind.u32.wrap (n : Int) = (n : Int) := IntWalk.u32_in _ (by omega)
          have g3 := u32_hlA a n ha24 hn255
          have g4 : IntKind.u32.wrap ((a : Int) * 256 + (n : Int)) = (a : Int) * 256 + (n : Int) := IntWalk.u32_in _ (by omega)
          go_wp2_with fail
          refine (c1 _).mono ?_; rintro e w1 ⟨rfl, b1⟩
          have B1 := B.trans (b1.mono B.size)
          clear B b1
          go_wp2_with fail
          refine (c2 _).mono ?_; rintro e w2 ⟨rfl, rfl⟩
          go_wp2
          go_roundw
          case rel => exact ⟨i + 1, a * 256 + n, q, by omega, by go_num, by go_num, rfl, HB.out, HN.out, by omega, B1⟩
          case measure => simp [intOf]; omega
theorem parseR_gone {k z a : Nat} {r p q : List UInt8} (hc : cutZ 46 r = (p, q, false)) : parseR (k + 2) z a r = none := by
  unfold parseR; rw [hc]; simp
theorem parseR_none {k z a : Nat} {r p q : List UInt8} (hc : cutZ 46 r = (p, q, true)) (hn : numV 255 q = none) : parseR (k + 2) z a r = none := by
  unfold parseR; rw [hc]; simp [hn]
theorem parseR_next {k z a n : Nat} {r p q : List UInt8} (hc : cutZ 46 r = (p, q, true)) (hn : numV 255 q = some n) : parseR (k + 2) z a r = parseR (k + 1) (z * 256) (a + n * z) p := by
  rw [parseR, hc]; simp [hn]
theorem parseR_none1 {z a : Nat} {r : List UInt8} (hn : numV 255 r = none) : parseR 1 z a r = none := by
  unfold parseR; simp [hn]
theorem parseR_next1 {z a n : Nat} {r : List UInt8} (hn : numV 255 r = some n) : parseR 1 z a r = some (a + n * z) := by
  unfold parseR; simp [hn]
end Go.Proofs.YtaaobacmlaaajaaDoor
