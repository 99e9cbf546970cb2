/- EpochsPlay (layer 14). Written by gen_epochsplay.py. -/
import Derived.Test.YtghicdajcmkfjaaEpoW
import Derived.Test.YtghicdajcmkfjaaEpoD
import Derived.Test.YtghicdajcmkfjaaEpoS
import Derived.Test.YtghicdajcmkfjaaEpoAct
import Derived.Deep.CutBlock
namespace Go.Proofs.Ytghicdajcmkfjaa.EpochsPlay
set_option linter.unusedVariables false
set_option linter.unusedSimpArgs false
open Go.ChangeShapes Go.WideShapes Go.ChangeAt Go.RowKit Go.PlainAid
attribute [local go_sem ↓] Go.wp_at_zero Go.wp_at_succ
theorem eleven {z k : Int} (h0 : 0 ≤ z) (h : z.tmod 11 = k) : k = 0 ∨ k = 1 ∨ k = 2 ∨ k = 3 ∨ k = 4 ∨ k = 5 ∨ k = 6 ∨ k = 7 ∨ k = 8 ∨ k = 9 ∨ k = 10 := by
  rw [Int.tmod_eq_emod_of_nonneg h0] at h
  omega
theorem now_adv (x : Ep) : x.advT.now ≤ x.now + 1 := by unfold Ep.advT; split <;> simp
theorem now_def (x : Ep) (s : Int) : (x.defT s).now = x.now := by
  unfold Ep.defT
  split
  · split <;> rfl
  · rfl
theorem small {a i len : Nat} (h : a ≤ i) (h1 : i < len) (h2 : len ≤ 200) : a < 4611686018427387904 ∧ a + 1 < 4611686018427387904 := by omega
set_option maxHeartbeats 8000000 in
set_option maxRecDepth 100000 in
theorem walk_ (K : EpochsOk) (n : Int) (a : Option Addr) (len cap : Nat) (l : List A14) (w : World) (hn : (Lit.int .i64 n).wf = true) (v : len ≤ maxLen) (hr : A14At w a len l) :
    Calls Try.prog 3 #[.int .i64 n, .slice a len cap] w fun e w' => e = .returned (.bool true) ∧ Below w.heap.size w w' := by
  obtain ⟨n0, n1⟩ := bounds_i64 hn
  by_cases h1 : 200 < len
  · have e1 : decide ((200 : Int) < len) = true := by simp; omega
    have e2 : decide (200 < len) = true := by simpa using h1
    go_enter Try.func3, Try.ntmps3
    go_wp2_with fail
    refine (waited_ K _).mono ?_; rintro e w1 ⟨rfl, b1⟩
    go_wp2
    go_ret
    exact ⟨rfl, b1⟩
  have e1 : decide ((200 : Int) < len) = false := by simp; omega
  have e2 : decide (200 < len) = false := by simpa using h1
  by_cases hr1 : n < 1 ∨ 64 < n
  · go_enter Try.func3, Try.ntmps3
    go_wp2_with fail
    refine (K.newE n w n0 n1 hr1).mono ?_; rintro e w1 ⟨rfl, b1⟩
    go_wp2_with fail
    refine (rnewE14_ n _ hr1).mono ?_; rintro e w2 ⟨rfl, rfl⟩
    go_wp2_with fail
    refine (waited_ K _).mono ?_; rintro e w3 ⟨rfl, b3⟩
    go_wp2
    go_ret
    exact ⟨rfl, b1.trans (b3.mono b1.size)⟩
  obtain ⟨N, rfl⟩ := Int.eq_ofNat_of_zero_le (show 0 ≤ n by omega)
  have N1 : 1 ≤ N := by omega
  have N2 : N ≤ 64 := by omega
  have H200 := Lib.hid (Nat.le_of_not_lt h1)
  go_enter Try.func3, Try.ntmps3
  go_wp2_with fail
  refine (K.news N w N1 N2).mono ?_; rintro e w1 ⟨q, S1, rfl, b1, hS, R1⟩
  go_wp2_with fail
  refine (rnew14_ N _ N1 N2).mono ?_; rintro e w2 ⟨p, T2, rfl, b2, hT, R2⟩
  have P0 : Pair K.toObjP epR w w2 S1 T2 q p (Ep.new N) (Ep.new N) := ⟨K.on R1 b2, R2, fun k hk ht => absurd (hT k ht) (Nat.not_le_of_lt (K.lt R1 k hk)), hS, fun k hk => Nat.le_trans b1.size (hT k hk), b1.trans (b2.mono b1.size)⟩
  clear R1 R2 b1 b2 hS hT h1 hr1 e1 e2 hn n0 n1
  go_upto_region 10 with fail
  go_loopw [9] (fun si wr => ∃ (i : Nat) (x : Ep) (S T : Nat → Prop), i ≤ len ∧ si = .int .i64 (i : Int) ∧ x.now ≤ i ∧ Pair K.toObjP epR w wr S T q p x x) (fun si _ => len - (intOf si).toNat)
  case atStart => exact ⟨0, _, _, _, Nat.zero_le _, rfl, Nat.le_refl _, P0⟩
  case round =>
    obtain ⟨i, x, S, T, hi, rfl, hx, P1⟩ := hrel
    clear P0
    have EW := Lib.hid (step_14 (j := i) (Nat.lt_of_le_of_lt (Nat.le_trans hi H200.out) (by decide)))
    by_cases hlt : i < len
    · obtain ⟨bx, off, rfl, hbx, hc⟩ := hr.cells.resolve_left (Nat.ne_of_gt (Nat.lt_of_le_of_lt (Nat.zero_le i) hlt))
      have hx0 := (hc i hlt).on hbx P1.below
      have okx := hr.okAt hlt
      obtain ⟨y, hye⟩ : ∃ y, y = l.getD i A14.zero := ⟨_, rfl⟩
      rw [← hye] at hx0 okx
      clear hye hc
      obtain ⟨c0, c1, c2⟩ := hx0
      have t1 : decide ((i : Int) < (len : Int)) = true := by simpa using hlt
      have jj0 : (0 : Int) ≤ (i : Int) := Int.natCast_nonneg i
      have jj1 : (i : Int) < (len : Int) := Int.ofNat_lt.2 hlt
      obtain ⟨sm1, sm2⟩ := small hx hlt H200.out
      have K0 := Lib.hid (bounds_u8 okx.kd).1
      go_upto_region 12 with fail
      go_region
      have P2 := P1.on (Below.refl wr.heap.size wr).drew
      have d0 : wr.drew.cell? _ = some _ := c0
      generalize wr.drew = w5 at P2 d0 ⊢
      clear P1 c0 c1 c2
      go_upto_if 62 with fail
      obtain ⟨kk, hkk⟩ : ∃ k_, y.kd.tmod 11 = k_ := ⟨_, rfl⟩
      rw [hkk]
      have PP := Lib.hid P2
      clear P2
      go_cut [10, 11] (fun sw ss wx => ∃ W Z : Int, sw = .int .i64 W ∧ ss = .int .i64 Z ∧ w5 = wx)
      case first =>
        by_cases h8 : kk < 8
        · have t8 : decide (kk < 8) = true := by simpa using h8
          rw [t8]
          clear d0
          go_wp2_with fail
          refine (within_ y.wk N _ N1 (Nat.le_trans N2 (by decide))).mono ?_; rintro e w6 ⟨rfl, rfl⟩
          go_wp2_with fail
          refine (within_ y.slot 9 _ (by decide) (by decide)).mono ?_; rintro e w6 ⟨rfl, rfl⟩
          go_wp2
          go_meet
          exact ⟨_, _, rfl, rfl, rfl⟩
        · have t8 : decide (kk < 8) = false := by simpa using h8
          rw [t8]
          clear d0
          go_wp2
          go_meet
          exact ⟨_, _, rfl, rfl, rfl⟩
      case rest => as_aux_lemma =>
        obtain ⟨W, Z, rfl, rfl, rfl⟩ := hcut
        go_upto_block 2 with fail
        clear d0
        try rw [hkk]
        go_cut [12] (fun s12 wx => s12 = .bool true ∧ ∃ (x2 : Ep) (S2 T2 : Nat → Prop), x2.now ≤ i + 1 ∧ Pair K.toObjP epR w wx S2 T2 q p x2 x2)
        case first =>
          rcases eleven K0.out hkk with rfl | rfl | rfl | rfl | rfl | rfl | rfl | rfl | rfl | rfl | rfl
          · as_aux_lemma =>
            have P2 := PP.out
            clear PP
            go_wp2_with fail
            refine (K.enters _ _ _ W _ P2.fst sm1).mono ?_; rintro e w6 ⟨rfl, S6, R6, f6, x6⟩
            have P6 := P2.one R6 f6 x6
            clear P2 R6 f6 x6
            go_wp2_with fail
            refine (renter14_ _ _ _ W _ P6.snd).mono ?_; rintro e w7 ⟨rfl, T7, R7, f7, x7⟩
            have P7 := Lib.hid (P6.two R7 f7 x7)
            clear P6 R7 f7 x7
            go_wp2
            go_meet
            exact ⟨by simp, x.setT W x.now, S6, T7, by rw [Ep.now_set]; exact Nat.le_succ_of_le hx, P7.out⟩
          · as_aux_lemma =>
            have P2 := PP.out
            clear PP
            go_wp2_with fail
            refine (K.enters _ _ _ W _ P2.fst sm1).mono ?_; rintro e w6 ⟨rfl, S6, R6, f6, x6⟩
            have P6 := P2.one R6 f6 x6
            clear P2 R6 f6 x6
            go_wp2_with fail
            refine (renter14_ _ _ _ W _ P6.snd).mono ?_; rintro e w7 ⟨rfl, T7, R7, f7, x7⟩
            have P7 := Lib.hid (P6.two R7 f7 x7)
            clear P6 R7 f7 x7
            go_wp2
            go_meet
            exact ⟨by simp, x.setT W x.now, S6, T7, by rw [Ep.now_set]; exact Nat.le_succ_of_le hx, P7.out⟩
          · as_aux_lemma =>
            have P2 := PP.out
            clear PP
            go_wp2_with fail
            refine (K.leaves _ _ _ W _ P2.fst sm1).mono ?_; rintro e w6 ⟨rfl, S6, R6, f6, x6⟩
            have P6 := P2.one R6 f6 x6
            clear P2 R6 f6 x6
            go_wp2_with fail
            refine (rleave14_ _ _ _ W _ P6.snd).mono ?_; rintro e w7 ⟨rfl, T7, R7, f7, x7⟩
            have P7 := Lib.hid (P6.two R7 f7 x7)
            clear P6 R7 f7 x7
            go_wp2
            go_meet
            exact ⟨by simp, x.setT W (-1), S6, T7, by rw [Ep.now_set]; exact Nat.le_succ_of_le hx, P7.out⟩
          · as_aux_lemma =>
            have P2 := PP.out
            clear PP
            go_wp2_with fail
            refine (K.advs _ _ _ _ P2.fst sm1).mono ?_; rintro e w6 ⟨rfl, S6, R6, f6, x6⟩
            have P6 := P2.one R6 f6 x6
            clear P2 R6 f6 x6
            go_wp2_with fail
            refine (radvance14_ _ _ _ _ P6.snd sm1).mono ?_; rintro e w7 ⟨rfl, T7, R7, f7, x7⟩
            have P7 := Lib.hid (P6.two R7 f7 x7)
            clear P6 R7 f7 x7
            go_wp2
            go_meet
            exact ⟨by simp, x.advT, S6, T7, Nat.le_trans (now_adv x) (Nat.succ_le_succ hx), P7.out⟩
          · as_aux_lemma =>
            have P2 := PP.out
            clear PP
            go_wp2_with fail
            refine (K.advs _ _ _ _ P2.fst sm1).mono ?_; rintro e w6 ⟨rfl, S6, R6, f6, x6⟩
            have P6 := P2.one R6 f6 x6
            clear P2 R6 f6 x6
            go_wp2_with fail
            refine (radvance14_ _ _ _ _ P6.snd sm1).mono ?_; rintro e w7 ⟨rfl, T7, R7, f7, x7⟩
            have P7 := Lib.hid (P6.two R7 f7 x7)
            clear P6 R7 f7 x7
            go_wp2
            go_meet
            exact ⟨by simp, x.advT, S6, T7, Nat.le_trans (now_adv x) (Nat.succ_le_succ hx), P7.out⟩
          · as_aux_lemma =>
            have P2 := PP.out
            clear PP
            go_wp2_with fail
            refine (K.defers _ _ _ Z _ P2.fst sm1).mono ?_; rintro e w6 ⟨rfl, S6, R6, f6, x6⟩
            have P6 := P2.one R6 f6 x6
            clear P2 R6 f6 x6
            go_wp2_with fail
            refine (rdefer14_ _ _ _ Z _ P6.snd).mono ?_; rintro e w7 ⟨rfl, T7, R7, f7, x7⟩
            have P7 := Lib.hid (P6.two R7 f7 x7)
            clear P6 R7 f7 x7
            go_wp2
            go_meet
            exact ⟨by simp, x.defT Z, S6, T7, by rw [now_def]; exact Nat.le_succ_of_le hx, P7.out⟩
          · as_aux_lemma =>
            have P2 := PP.out
            clear PP
            go_wp2_with fail
            refine (K.defers _ _ _ Z _ P2.fst sm1).mono ?_; rintro e w6 ⟨rfl, S6, R6, f6, x6⟩
            have P6 := P2.one R6 f6 x6
            clear P2 R6 f6 x6
            go_wp2_with fail
            refine (rdefer14_ _ _ _ Z _ P6.snd).mono ?_; rintro e w7 ⟨rfl, T7, R7, f7, x7⟩
            have P7 := Lib.hid (P6.two R7 f7 x7)
            clear P6 R7 f7 x7
            go_wp2
            go_meet
            exact ⟨by simp, x.defT Z, S6, T7, by rw [now_def]; exact Nat.le_succ_of_le hx, P7.out⟩
          · as_aux_lemma =>
            have P2 := PP.out
            clear PP
            go_wp2_with fail
            refine (K.ripes _ _ _ _ P2.fst sm1).mono ?_; rintro e w6 ⟨a6, len6, cap6, S6, rfl, R6, f6, x6, row6, ne6⟩
            have P6 := P2.one R6 f6 x6
            have C14 : ∀ b, T b → b < w5.heap.size := fun b hT => epR.lt P2.snd b hT
            have hlen : len6 ≤ 256 := by
              have h := row6.1
              rw [← h, List.length_map]
              exact Nat.le_trans (by unfold Ep.ripe; rw [List.length_map]; exact List.length_filter_le _ _) (K.ok P2.fst).few
            have NB : ∀ b off, a6 = some ⟨b, off, none⟩ → ¬ T b := fun b off e hT => absurd (C14 b hT) (Nat.not_lt_of_le (ne6 _ e).2)
            clear P2 R6 f6 x6
            go_wp2_with fail
            refine (rripe14_ _ _ _ _ P6.snd sm1).mono ?_; rintro e w7 ⟨a7, len7, cap7, T7, rfl, R7, f7, x7, row7, ne7⟩
            have hl67 : len7 = len6 := row7.1.symm.trans row6.1
            subst hl67
            have row6' : Row .i64 w7 a6 len7 (x.ripe.map fun (k : Nat) => (k : Int)) := by
              refine ⟨row6.1, row6.2.imp id fun ⟨b, off, e, hb, hc⟩ => ⟨b, off, e, Nat.lt_of_lt_of_le hb x7.size, fun t ht => ?_⟩⟩
              refine (x7.cell (p := ⟨b, off + t, none⟩) hb (fun hT => ?_)).trans (hc t ht)
              exact NB b off e hT
            have P7 := P6.two R7 f7 x7
            clear P6 R7 f7 x7 row6 ne6 ne7
            go_wp2_with fail
            refine (same14_ a6 a7 cap6 cap7 len7 _ _ hlen row6' row7).mono ?_; rintro e w8 ⟨rfl, x8⟩
            have P8 := Lib.hid (P7.on x8)
            clear P7 x8 row6' row7
            go_wp2
            go_meet
            exact ⟨rfl, x.ripeT, S6, T7, Nat.le_succ_of_le hx, P8.out⟩
          · as_aux_lemma =>
            have P2 := PP.out
            clear PP
            go_wp2_with fail
            refine (K.enters _ _ _ W _ P2.fst sm1).mono ?_; rintro e w6 ⟨rfl, S6, R6, f6, x6⟩
            have P6 := P2.one R6 f6 x6
            clear P2 R6 f6 x6
            go_wp2_with fail
            refine (renter14_ _ _ _ W _ P6.snd).mono ?_; rintro e w7 ⟨rfl, T7, R7, f7, x7⟩
            have P7 := Lib.hid (P6.two R7 f7 x7)
            clear P6 R7 f7 x7
            go_wp2
            go_meet
            exact ⟨by simp, x.setT W x.now, S6, T7, by rw [Ep.now_set]; exact Nat.le_succ_of_le hx, P7.out⟩
          · as_aux_lemma =>
            have P2 := PP.out
            clear PP
            go_wp2_with fail
            refine (K.leaves _ _ _ W _ P2.fst sm1).mono ?_; rintro e w6 ⟨rfl, S6, R6, f6, x6⟩
            have P6 := P2.one R6 f6 x6
            clear P2 R6 f6 x6
            go_wp2_with fail
            refine (rleave14_ _ _ _ W _ P6.snd).mono ?_; rintro e w7 ⟨rfl, T7, R7, f7, x7⟩
            have P7 := Lib.hid (P6.two R7 f7 x7)
            clear P6 R7 f7 x7
            go_wp2
            go_meet
            exact ⟨by simp, x.setT W (-1), S6, T7, by rw [Ep.now_set]; exact Nat.le_succ_of_le hx, P7.out⟩
          · as_aux_lemma =>
            have P2 := PP.out
            clear PP
            go_wp2_with fail
            refine (K.defers _ _ _ Z _ P2.fst sm1).mono ?_; rintro e w6 ⟨rfl, S6, R6, f6, x6⟩
            have P6 := P2.one R6 f6 x6
            clear P2 R6 f6 x6
            go_wp2_with fail
            refine (rdefer14_ _ _ _ Z _ P6.snd).mono ?_; rintro e w7 ⟨rfl, T7, R7, f7, x7⟩
            have P7 := Lib.hid (P6.two R7 f7 x7)
            clear P6 R7 f7 x7
            go_wp2
            go_meet
            exact ⟨by simp, x.defT Z, S6, T7, by rw [now_def]; exact Nat.le_succ_of_le hx, P7.out⟩
        case rest => as_aux_lemma =>
          obtain ⟨rfl, x2, S2, T2, hx2, P3⟩ := hcut
          clear PP
          obtain ⟨sm3, _⟩ : x2.now < 4611686018427387904 ∧ True := ⟨Nat.lt_of_le_of_lt hx2 (Nat.lt_of_le_of_lt (Nat.succ_le_of_lt hlt) (Nat.lt_of_le_of_lt H200.out (by decide))), trivial⟩
          go_wp2_with fail
          refine (K.nows _ _ _ _ P3.fst).mono ?_; rintro e wr3 ⟨rfl, x3⟩
          have P4 := P3.on x3
          clear P3 x3
          go_wp2_with fail
          refine (rnow14_ _ _ _ _ P4.snd).mono ?_; rintro e wr4 ⟨rfl, x4⟩
          have P5 := P4.on x4
          clear P4 x4
          go_wp2_with fail
          refine (K.ins _ _ _ W _ P5.fst sm3).mono ?_; rintro e wr5 ⟨rfl, x5⟩
          have P6 := P5.on x5
          clear P5 x5
          go_wp2_with fail
          refine (rin14_ _ _ _ W _ P6.snd).mono ?_; rintro e wr6 ⟨rfl, x6⟩
          have P7 := P6.on x6
          clear P6 x6
          go_wp2_with fail
          refine (K.seens _ _ _ W _ P7.fst sm3).mono ?_; rintro e wr7 ⟨rfl, x7⟩
          have P8 := P7.on x7
          clear P7 x7
          go_wp2_with fail
          refine (rseen14_ _ _ _ W _ P8.snd).mono ?_; rintro e wr8 ⟨rfl, x8⟩
          have P9 := P8.on x8
          clear P8 x8
          go_wp2_with fail
          refine (K.waits _ _ _ _ P9.fst sm3).mono ?_; rintro e wr9 ⟨rfl, x9⟩
          have P10 := P9.on x9
          clear P9 x9
          go_wp2_with fail
          refine (rwaiting14_ _ _ _ _ P10.snd).mono ?_; rintro e wr10 ⟨rfl, x10⟩
          have P11 := P10.on x10
          clear P10 x10
          have PE := Lib.hid P11
          clear P11
          go_wp2
          go_roundw
          case rel => exact ⟨i + 1, x2, S2, T2, hlt, by simp [EW.out], hx2, PE.out⟩
          case measure => first | exact step_meas14 EW.out (step_less14 hlt) | (simp [EW.out]; exact step_less14 hlt) | exact step_less14 hlt
    · obtain rfl : i = len := Nat.le_antisymm hi (Nat.le_of_not_lt hlt)
      have t1 : decide ((i : Int) < (i : Int)) = false := by simp
      have B3 := P1.below
      clear P1
      go_wp2_with fail
      refine (waited_ K _).mono ?_; rintro e w9 ⟨rfl, x9⟩
      have B9 := B3.trans (x9.mono B3.size)
      clear B3 x9
      go_wp2
      go_ret
      exact ⟨rfl, B9⟩
end Go.Proofs.Ytghicdajcmkfjaa.EpochsPlay
