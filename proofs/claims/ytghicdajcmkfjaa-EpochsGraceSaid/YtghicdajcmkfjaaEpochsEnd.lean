/- EpochsEnd (layer 14), over what is asked of the epochs. -/
import Derived.Test.YtghicdajcmkfjaaEpoT
import Derived.Test.YtghicdajcmkfjaaEpoW
import Derived.Test.YtghicdajcmkfjaaEpoB
import Derived.Test.YtghicdajcmkfjaaEpoS
import Derived.Test.YtghicdajcmkfjaaEpoAct
import Derived.Test.YtghicdajcmkfjaaArr
namespace Go.Proofs.Ytghicdajcmkfjaa.EpochsEnd
set_option linter.unusedVariables false
set_option linter.unusedSimpArgs false
open Go.ChangeShapes Go.WideShapes Go.ChangeAt Go.RowKit Go.PlainAid
attribute [local go_sem ↓] Go.wp_at_zero Go.wp_at_succ
theorem four {z k : Int} (h0 : 0 ≤ z) (h : z.tmod 4 = k) : k = 0 ∨ k = 1 ∨ k = 2 ∨ k = 3 := by
  rw [Int.tmod_eq_emod_of_nonneg h0] at h
  omega
theorem now_adv (x : Ep) : x.advT.now ≤ x.now + 1 := by unfold Ep.advT; split <;> simp
theorem now_def (x : Ep) (s : Int) : (x.defT s).now = x.now := by
  unfold Ep.defT
  split
  · split <;> rfl
  · rfl
theorem small {a i len : Nat} (h : a ≤ i) (h1 : i < len) (h2 : len ≤ 200) : a < 4611686018427387904 ∧ a + 1 < 4611686018427387904 := by omega
theorem fewer {a len : Nat} (h : a ≤ len) (h2 : len ≤ 200) : a < 4611686018427387904 ∧ a + 1 < 4611686018427387904 ∧ a + 2 < 4611686018427387904 := by omega
/-- How many workers. -/
theorem count_ {z : Int} (h0 : 0 ≤ z) (h1 : z ≤ 255) : ∃ N : Nat, 1 ≤ N ∧ N ≤ 8 ∧ IntKind.i64.wrap z = z ∧ wrap64 (1 + z.tmod 8) = (N : Int) ∧ IntKind.i64.wrap (1 + z.tmod 8) = (N : Int) ∧ wrap64 (1 + z % 8) = (N : Int) ∧ IntKind.i64.wrap (1 + z % 8) = (N : Int) := by
  obtain ⟨m, rfl⟩ := Int.eq_ofNat_of_zero_le h0
  have e : (m : Int).tmod 8 = (m : Int) % 8 := Int.tmod_eq_emod_of_nonneg h0
  refine ⟨1 + m % 8, by omega, by omega, IntWalk.i64_in _ (by omega), ?_, ?_, ?_, ?_⟩
  · rw [e, IntWalk.wrap64_in _ (by omega)]; omega
  · rw [e, IntWalk.i64_in _ (by omega)]; omega
  · rw [IntWalk.wrap64_in _ (by omega)]; omega
  · rw [IntWalk.i64_in _ (by omega)]; omega
theorem int_lt14 {i n : Nat} (h : i < n) : decide ((i : Int) < (n : Int)) = true ∧ (i : Int) < (n : Int) ∧ (0 : Int) ≤ (i : Int) := ⟨by simpa using h, Int.ofNat_lt.2 h, Int.natCast_nonneg _⟩
theorem late {a t : Nat} (h : a + 2 < 4611686018427387904) (ht : t ≤ 2) : a + t < 4611686018427387904 := by omega
theorem low_ {m : Nat} (h : m ≤ 255) : decide ((m : Int) < 0) = false ∧ decide ((255 : Int) < (m : Int)) = false ∧ decide (255 < m) = false ∧ (0 : Int) ≤ (m : Int) ∧ (m : Int) < 256 ∧ m < 256 :=
  ⟨by simp, by simp; omega, by simp; omega, by omega, by omega, by omega⟩
theorem take_has {rl : List Nat} {i : Nat} (h : i < rl.length) (j : Nat) : (if j = rl.getD i 0 then true else (rl.take i).contains j) = (rl.take (i + 1)).contains j := by
  rw [List.take_add_one, List.getElem?_eq_getElem h, List.getD_eq_getElem?_getD, List.getElem?_eq_getElem h]
  show (if j = rl[i] then true else (rl.take i).contains j) = (rl.take i ++ [rl[i]]).contains j
  rw [List.contains_eq_mem, List.contains_eq_mem]
  by_cases e : j = rl[i]
  · rw [if_pos e]; exact (decide_eq_true (List.mem_append.2 (.inr (List.mem_singleton.2 e)))).symm
  · rw [if_neg e]
    refine decide_eq_decide.2 ⟨fun h => List.mem_append.2 (.inl h), fun h => ?_⟩
    rcases List.mem_append.1 h with h | h
    · exact h
    · exact absurd (by simpa using h) e
theorem take_not {rl : List Nat} {i : Nat} (h : i < rl.length) (hn : rl.Nodup) : (rl.take i).contains (rl.getD i 0) = false := by
  rw [List.getD_eq_getElem?_getD, List.getElem?_eq_getElem h]
  show (rl.take i).contains rl[i] = false
  rw [List.contains_eq_mem]
  refine decide_eq_false fun hm => ?_
  obtain ⟨j, hj, e⟩ := List.mem_iff_getElem.1 hm
  rw [List.length_take] at hj
  rw [List.getElem_take] at e
  exact (List.pairwise_iff_getElem.1 hn) j i (by omega) h (by omega) e
theorem cast_at (rl : List Nat) {i : Nat} (h : i < rl.length) : (rl.map fun (k : Nat) => (k : Int)).getD i 0 = ((rl.getD i 0 : Nat) : Int) := by simp [List.getD, h]
theorem mem_at {rl : List Nat} {i : Nat} (h : i < rl.length) : rl.getD i 0 ∈ rl := by
  rw [List.getD_eq_getElem?_getD, List.getElem?_eq_getElem h]
  exact List.getElem_mem h
theorem two_lt {t : Nat} (h : t < 2) : decide ((t : Int) < 2) = true := by simp; omega
theorem zero_256 (u : World) : (Sem.run Try.prog (zeroValue 50) u) = .ok (.agg (boolsZ 256)) u := by
  have hz : Try.t50.zero = some (.agg (boolsZ 256)) := by kernel_rfl
  simp [zeroValue, go_sem, hz]
set_option maxHeartbeats 8000000 in
set_option maxRecDepth 100000 in
theorem walk_ (K : EpochsOk) (f : Int) (a : Option Addr) (len cap : Nat) (l : List A14) (w : World) (hn : (Lit.int .u8 f).wf = true) (v : len ≤ maxLen) (hr : A14At w a len l) :
    Calls Try.prog 6 #[.int .u8 f, .slice a len cap] w fun e w' => e = .returned (.bool true) ∧ Below w.heap.size w w' := by
  obtain ⟨n0, n1⟩ := bounds_u8 hn
  obtain ⟨N, N1, N2, y1, y2, y3, y4, y5⟩ := count_ n0 n1
  have N64 : N ≤ 64 := Nat.le_trans N2 (by decide)
  by_cases h1 : 200 < len
  · have e1 : decide ((200 : Int) < len) = true := by simp; omega
    have e2 : decide (200 < len) = true := by simpa using h1
    go_enter Try.func6, Try.ntmps6
    go_wp2_with fail
    refine (K.news N w N1 N64).mono ?_; rintro e w1 ⟨q, S1, rfl, b1, hS, R1⟩
    go_wp2_with fail
    refine (waited_ K _).mono ?_; rintro e w2 ⟨rfl, b2⟩
    go_wp2
    go_ret
    exact ⟨rfl, b1.trans (b2.mono b1.size)⟩
  have e1 : decide ((200 : Int) < len) = false := by simp; omega
  have e2 : decide (200 < len) = false := by simpa using h1
  have H200 := Lib.hid (Nat.le_of_not_lt h1)
  go_enter Try.func6, Try.ntmps6
  go_wp2_with fail
  refine (K.news N w N1 N64).mono ?_; rintro e w1 ⟨q, S1, rfl, b1, hS, R1⟩
  have P0 : Alone K.toObjP w w1 S1 q (Ep.new N) := ⟨R1, hS, b1⟩
  clear R1 b1 hS n0 n1 y1 y2 y3 y4 y5 hn h1
  go_upto_region 6 with fail
  clear e1 e2
  go_loopw [8] (fun si wr => ∃ (i : Nat) (x : Ep) (S : Nat → Prop), i ≤ len ∧ si = .int .i64 (i : Int) ∧ x.now ≤ i ∧ x.said.length = N ∧ Alone K.toObjP w wr S q x) (fun si _ => len - (intOf si).toNat)
  case atStart => exact ⟨0, _, _, Nat.zero_le _, rfl, Nat.le_refl _, List.length_replicate .., P0⟩
  case round =>
    obtain ⟨i, x, S, hi, rfl, hx, hN, P1⟩ := hrel
    clear P0
    have EW := Lib.hid (step_14 (j := i) (Nat.lt_of_le_of_lt (Nat.le_trans hi H200.out) (by decide)))
    by_cases hlt : i < len
    · obtain ⟨bx, off, rfl, hbx, hc⟩ := hr.cells.resolve_left (Nat.ne_of_gt (Nat.lt_of_le_of_lt (Nat.zero_le i) hlt))
      have hx0 := (hc i hlt).on hbx P1.below
      have hbr := Nat.lt_of_lt_of_le hbx P1.below.size
      have okx := hr.okAt hlt
      obtain ⟨y, hye⟩ : ∃ y, y = l.getD i A14.zero := ⟨_, rfl⟩
      rw [← hye] at hx0 okx
      clear hye hc
      obtain ⟨c0, c1, c2⟩ := hx0
      have t1 : decide ((i : Int) < (len : Int)) = true := by simpa using hlt
      have jj0 : (0 : Int) ≤ (i : Int) := Int.natCast_nonneg i
      have jj1 : (i : Int) < (len : Int) := Int.ofNat_lt.2 hlt
      have sm := (small hx hlt H200.out).1
      have K0 := Lib.hid (bounds_u8 okx.kd).1
      obtain ⟨kd, wk, sl⟩ := y
      simp only at c0 c1 c2 K0
      have F0 : ∀ u : Later wr.heap.size wr, u.u.cell? ⟨bx, off + i * 3, none⟩ = some (.int .u8 kd) := fun u => u.block hbr c0
      have F1 : ∀ u : Later wr.heap.size wr, u.u.cell? ⟨bx, off + i * 3 + 1, none⟩ = some (.int .i64 wk) := fun u => u.block hbr c1
      have F2 : ∀ u : Later wr.heap.size wr, u.u.cell? ⟨bx, off + i * 3 + 2, none⟩ = some (.int .i64 sl) := fun u => u.block hbr c2
      have w1_ := fun u : World => within_ wk N u N1 (Nat.le_trans N2 (by decide))
      have w2_ := fun u : World => within_ sl 256 u (by decide) (by decide)
      have HL := Lib.hid hlt
      have C0 := Lib.hid c0
      have HB := Lib.hid hbr
      clear c0 c1 c2 okx hbr hlt hi hbx
      go_upto_region 8 with fail
      generalize hW : ((wN wk N : Nat) : Int) = W at w1_
      generalize hZ : ((wN sl 256 : Nat) : Int) = Z at w2_
      clear hW hZ
      refine region_later (B := wr.heap.size) (by kernel_rfl) (by kernel_rfl) ?_
      repeat (go_big_quiet_step (first | (go_at_call_of 10 wk; exact later_same _ (w1_ _)) | (go_at_call_of 10 sl; exact later_same _ (w2_ _))))
      refine later_end fun w5 x5 => ?_
      have PP := Lib.hid (P1.on x5)
      have d0 := (x5.cell (p := ⟨bx, off + i * 3, none⟩) HB.out).trans C0.out
      clear F0 F1 F2 w1_ w2_ P1 x5
      go_upto_region 11 with fail
      obtain ⟨kk, hkk⟩ : ∃ k_, kd.tmod 4 = k_ := ⟨_, rfl⟩
      rw [hkk]
      clear d0
      rcases four K0.out hkk with rfl | rfl | rfl | rfl
      · as_aux_lemma =>
        have P2 := PP.out
        clear PP
        go_wp2_with fail
        refine (K.enters _ _ _ W _ P2.rep sm).mono ?_; rintro e w6 ⟨rfl, S6, R6, f6, x6⟩
        have P6 := Lib.hid (P2.one R6 f6 x6)
        clear P2 R6 f6 x6
        go_wp2
        go_roundw
        case rel => exact ⟨i + 1, x.setT W x.now, S6, HL.out, by simp [EW.out], by rw [Ep.now_set]; exact Nat.le_succ_of_le hx, (Ep.said_len_set _ _ _).trans hN, P6.out⟩
        case measure => first | exact step_meas14 EW.out (step_less14 HL.out) | (simp [EW.out]; exact step_less14 HL.out) | exact step_less14 HL.out
      · as_aux_lemma =>
        have P2 := PP.out
        clear PP
        go_wp2_with fail
        refine (K.leaves _ _ _ W _ P2.rep sm).mono ?_; rintro e w6 ⟨rfl, S6, R6, f6, x6⟩
        have P6 := Lib.hid (P2.one R6 f6 x6)
        clear P2 R6 f6 x6
        go_wp2
        go_roundw
        case rel => exact ⟨i + 1, x.setT W (-1), S6, HL.out, by simp [EW.out], by rw [Ep.now_set]; exact Nat.le_succ_of_le hx, (Ep.said_len_set _ _ _).trans hN, P6.out⟩
        case measure => first | exact step_meas14 EW.out (step_less14 HL.out) | (simp [EW.out]; exact step_less14 HL.out) | exact step_less14 HL.out
      · as_aux_lemma =>
        have P2 := PP.out
        clear PP
        go_wp2_with fail
        refine (K.advs _ _ _ _ P2.rep sm).mono ?_; rintro e w6 ⟨rfl, S6, R6, f6, x6⟩
        have P6 := Lib.hid (P2.one R6 f6 x6)
        clear P2 R6 f6 x6
        go_wp2
        go_roundw
        case rel => exact ⟨i + 1, x.advT, S6, HL.out, by simp [EW.out], Nat.le_trans (now_adv x) (Nat.succ_le_succ hx), (Ep.len_adv _).trans hN, P6.out⟩
        case measure => first | exact step_meas14 EW.out (step_less14 HL.out) | (simp [EW.out]; exact step_less14 HL.out) | exact step_less14 HL.out
      · as_aux_lemma =>
        have P2 := PP.out
        clear PP
        go_wp2_with fail
        refine (K.defers _ _ _ Z _ P2.rep sm).mono ?_; rintro e w6 ⟨rfl, S6, R6, f6, x6⟩
        have P6 := Lib.hid (P2.one R6 f6 x6)
        clear P2 R6 f6 x6
        go_wp2
        go_roundw
        case rel => exact ⟨i + 1, x.defT Z, S6, HL.out, by simp [EW.out], by rw [now_def]; exact Nat.le_succ_of_le hx, (Ep.len_def _ _).trans hN, P6.out⟩
        case measure => first | exact step_meas14 EW.out (step_less14 HL.out) | (simp [EW.out]; exact step_less14 HL.out) | exact step_less14 HL.out
    · obtain rfl : i = len := Nat.le_antisymm hi (Nat.le_of_not_lt hlt)
      have t1 : decide ((i : Int) < (i : Int)) = false := by simp
      have sm := (fewer hx H200.out).1
      have S2M := Lib.hid (fewer hx H200.out).2.2
      have OKX := Lib.hid (K.ok P1.rep)
      clear hx
      go_wp2_with fail
      refine (K.waits _ _ _ _ P1.rep sm).mono ?_; rintro e w6 ⟨rfl, x6⟩
      have P6 := P1.on x6
      clear P1 x6 sm hlt hi
      go_upto_region 19 with fail
      go_loopw [12] (fun si wr => ∃ (t : Nat) (z : Ep) (S2 : Nat → Prop), t ≤ 2 ∧ si = .int .i64 (t : Int) ∧ z.l = x.l ∧ z.now = x.now + t ∧ z.said.length = N ∧ Alone K.toObjP w wr S2 q z) (fun si _ => 2 - (intOf si).toNat)
      case atStart => exact ⟨0, x, S, Nat.zero_le _, rfl, rfl, rfl, hN, P6⟩
      case round =>
        obtain ⟨t, z, S2, ht, rfl, hzl, hzn, hzN, P7⟩ := hrel
        clear P6 t1
        have ET := Lib.hid (step_14 (j := t) (Nat.lt_of_le_of_lt ht (by decide)))
        have HZ : Hid (z.now < 4611686018427387904) := by show z.now < _; rw [hzn]; exact late S2M.out ht
        have HX := Lib.hid (And.intro hzl hzn)
        by_cases htt : t < 2
        · have HT := Lib.hid htt
          have t2 := two_lt htt
          clear hzl hzn htt ht
          go_upto_region 22 with fail
          go_loopw [13] (fun si wr => ∃ (j : Nat) (y : Ep) (S3 : Nat → Prop), j ≤ N ∧ si = .int .i64 (j : Int) ∧ y.l = z.l ∧ y.now = z.now ∧ y.said.length = N ∧ y.Up j ∧ Alone K.toObjP w wr S3 q y) (fun si _ => N - (intOf si).toNat)
          case atStart => exact ⟨0, z, S2, Nat.zero_le _, rfl, rfl, rfl, hzN, (fun i hi => absurd hi (Nat.not_lt_zero i)), P7⟩
          case round =>
            obtain ⟨j, y, S3, hj, rfl, hyl, hyn, hyN, hU, P8⟩ := hrel
            clear P7
            have EJ := Lib.hid (step_14 (j := j) (Nat.lt_of_le_of_lt (Nat.le_trans hj N64) (by decide)))
            have sm : y.now < 4611686018427387904 := by rw [hyn]; exact HZ.out
            have HY := Lib.hid (And.intro hyl (And.intro hyn hyN))
            have HU := Lib.hid hU
            by_cases hjN : j < N
            · have HJ := Lib.hid hjN
              have hjy : j < y.said.length := by rw [hyN]; exact hjN
              have tj : decide ((j : Int) < (N : Int)) = true := by simpa using hjN
              have ci := fun u (R : K.Rep u S3 q y) => K.ins q S3 y (j : Int) u R sm
              have hv : y.inV (j : Int) = decide (0 ≤ y.said.getD j (-1)) := by unfold Ep.inV; rw [Ep.seen_nat hjy]
              have ce : ∀ u (R : K.Rep u S3 q y), Told Try.prog K.toObjP 11 #[.pointer (some ⟨q, 0, none⟩), .int .i64 (j : Int)] u S3 q (.int .i64 0) (y.setT (j : Int) y.now) := fun u R => by
                have h := K.enters q S3 y (j : Int) u R sm
                rw [Ep.setE_nat hjy] at h
                exact h
              have HJY := Lib.hid hjy
              rw [hv] at ci
              clear hv hyl hyn hyN hU hj sm hjN hjy
              by_cases hin : 0 ≤ y.said.getD j (-1)
              · rw [decide_eq_true hin] at ci
                clear hin
                go_wp2_with fail
                refine (ci _ P8.rep).mono ?_; rintro e w7 ⟨rfl, x7⟩
                have P9 := P8.on x7
                clear P8 x7 ci
                go_wp2_with fail
                refine (ce _ P9.rep).mono ?_; rintro e w8 ⟨rfl, S4, R4, f4, x4⟩
                have PE := Lib.hid (P9.one R4 f4 x4)
                clear P9 R4 f4 x4 ce
                go_wp2
                go_roundw
                case rel => exact ⟨j + 1, _, S4, HJ.out, by simp [EJ.out], (Ep.l_set _ _ _).trans HY.out.1, (Ep.now_set _ _ _).trans HY.out.2.1, (Ep.said_len_set _ _ _).trans HY.out.2.2, HU.out.enter HJY.out, PE.out⟩
                case measure => first | exact step_meas14 EJ.out (step_less14 HJ.out) | (simp [EJ.out]; exact step_less14 HJ.out) | exact step_less14 HJ.out
              · rw [decide_eq_false hin] at ci
                have HN := Lib.hid hin
                clear hin ce
                go_wp2_with fail
                refine (ci _ P8.rep).mono ?_; rintro e w7 ⟨rfl, x7⟩
                have PE := Lib.hid (P8.on x7)
                clear P8 x7 ci
                go_wp2
                go_roundw
                case rel => exact ⟨j + 1, y, S3, HJ.out, by simp [EJ.out], HY.out.1, HY.out.2.1, HY.out.2.2, HU.out.out (Int.not_le.2 HN.out), PE.out⟩
                case measure => first | exact step_meas14 EJ.out (step_less14 HJ.out) | (simp [EJ.out]; exact step_less14 HJ.out) | exact step_less14 HJ.out
            · obtain rfl : j = N := Nat.le_antisymm hj (Nat.le_of_not_lt hjN)
              have tj : decide ((j : Int) < (j : Int)) = false := by simp
              have hh : y.held = false := Ep.held_no (fun k hk => hU k (by rw [← hyN]; exact hk))
              have ca : Told Try.prog K.toObjP 15 #[.pointer (some ⟨q, 0, none⟩)] wr S3 q (.bool true) y.advT := by
                have h := K.advs q S3 y wr P8.rep sm
                rw [hh] at h
                exact h
              have HH := Lib.hid hh
              clear hh hyl hyn hyN hU hj sm hjN
              go_wp2_with fail
              refine ca.mono ?_; rintro e w8 ⟨rfl, S4, R4, f4, x4⟩
              have PE := Lib.hid (P8.one R4 f4 x4)
              clear P8 R4 f4 x4 ca
              go_wp2
              go_roundw
              case rel => exact ⟨t + 1, _, S4, HT.out, by simp [ET.out], (Ep.l_adv _).trans (HY.out.1.trans HX.out.1), ((Ep.now_free HH.out).trans (congrArg (· + 1) (HY.out.2.1.trans HX.out.2))), (Ep.len_adv _).trans HY.out.2.2, PE.out⟩
              case measure => first | exact step_meas14 ET.out (step_less14 HT.out) | (simp [ET.out]; exact step_less14 HT.out) | exact step_less14 HT.out
        · obtain rfl : t = 2 := Nat.le_antisymm ht (Nat.le_of_not_lt htt)
          have t2 : decide ((2 : Int) < 2) = false := by decide
          obtain ⟨ar1, ar2⟩ := Ep.all_ripe (x := z) (n := x.now) (fun p hp => (OKX.out.low p (hzl ▸ hp)).2) (by rw [hzn]; exact Nat.le_refl _)
          have HA := Lib.hid (And.intro ar1 ar2)
          have cr := K.ripes q S2 z wr P7.rep HZ.out
          rw [ar1, hzl] at cr
          clear ar1 ar2 hzl hzn htt ht hzN
          go_wp2_with fail
          refine cr.mono ?_; rintro e w8 ⟨a8, len8, cap8, S8, rfl, R8, f8, x8, row8, ne8⟩
          have P8 := P7.one R8 f8 x8
          clear P7 R8 f8 x8 cr
          obtain ⟨rl, hrl⟩ : ∃ r_, r_ = x.l.map (fun p => p.1) := ⟨_, rfl⟩
          rw [← hrl] at row8
          have hlen : len8 = rl.length := by rw [← row8.1, List.length_map]
          have RL : Hid (rl.length = x.l.length ∧ rl.Nodup ∧ ∀ v ∈ rl, v ≤ 255) := by
            show _ ∧ _ ∧ _
            rw [hrl]
            refine ⟨List.length_map .., OKX.out.nd, fun v hv => ?_⟩
            obtain ⟨p, hp, rfl⟩ := List.mem_map.1 hv
            exact (OKX.out.low p hp).1
          have FEW : Hid (rl.length ≤ 256) := by show _ ≤ _; rw [RL.out.1]; exact OKX.out.few
          subst hlen
          clear hrl
          have zs := zero_256
          have zz := boolsZ_size 256
          go_upto_region 31 with fail
          clear zs zz
          have A0 := ArrB.made w8 256 50
          have B0 : Below w8.heap.size w8 (w8.alloc (.cells (boolsZ 256) 50)) := (Below.refl _ _).alloc (Nat.le_refl _) _
          obtain ⟨wa, hwa⟩ : ∃ x_ : World, x_ = w8.alloc (.cells (boolsZ 256) 50) := ⟨_, rfl⟩
          rw [← hwa] at A0 B0 ⊢
          clear hwa
          go_loopw [16] (fun si wr => ∃ i : Nat, i ≤ rl.length ∧ si = .int .i64 (i : Int) ∧ Below w8.heap.size w8 wr ∧ ArrB wr w8.heap.size 256 (fun j => (rl.take i).contains j)) (fun si _ => rl.length - (intOf si).toNat)
          case atStart => exact ⟨0, Nat.zero_le _, rfl, B0, A0⟩
          case round =>
            obtain ⟨k, hk, rfl, B1, A1⟩ := hrel
            clear A0 B0
            have EK := Lib.hid (step_14 (j := k) (Nat.lt_of_le_of_lt (Nat.le_trans hk FEW.out) (by decide)))
            by_cases hkl : k < rl.length
            · have HK := Lib.hid hkl
              obtain ⟨b8, o8, rfl, hb8, hc8⟩ := row8.2.resolve_left (fun e => by omega)
              have y8 := (B1.cell (p := ⟨b8, o8 + k, none⟩) hb8).trans (hc8 k hkl)
              rw [cast_at rl hkl] at y8
              obtain ⟨l1, l2, l3, l4, l5, l6⟩ := low_ (RL.out.2.2 _ (mem_at hkl))
              have s8 := A1.at_ _ l6
              rw [take_not hkl RL.out.2.1] at s8
              have g8 := A1.frz _ l6
              have AS := Lib.hid ((A1.set _ l6 true).congr (fun j _ => take_has hkl j))
              have BS := Lib.hid (B1.setCell (p := ⟨w8.heap.size, rl.getD k 0, none⟩) (Nat.le_refl _) (.bool true))
              obtain ⟨k1, k2, k3⟩ := int_lt14 hkl
              clear hc8 hb8 hk hkl A1 B1 ne8 row8
              generalize rl.getD k 0 = m at y8 s8 g8 AS BS l1 l2 l3 l4 l5 l6
              go_wp2
              go_roundw
              case rel => exact ⟨k + 1, HK.out, by simp [EK.out], BS.out, AS.out⟩
              case measure => first | exact step_meas14 EK.out (step_less14 HK.out) | (simp [EK.out]; exact step_less14 HK.out) | exact step_less14 HK.out
            · obtain rfl : k = rl.length := Nat.le_antisymm hk (Nat.le_of_not_lt hkl)
              have tk : decide ((rl.length : Int) < (rl.length : Int)) = false := by simp
              have e9 : ((rl.length : Int) == (x.l.length : Int)) = true := by rw [RL.out.1]; simp
              have e10 : (rl.length == x.l.length) = true := by rw [RL.out.1]; simp
              have P9 := P8.on B1
              have cw := fun u (R : K.Rep u S8 q z.ripeT) => K.waits q S8 z.ripeT u R HZ.out
              rw [HA.out.2] at cw
              have cr := fun u (R : K.Rep u S8 q z.ripeT) => K.ripes q S8 z.ripeT u R HZ.out
              have er : z.ripeT.ripe = [] := by unfold Ep.ripe; rw [HA.out.2]; rfl
              rw [er] at cr
              clear P8 er hk hkl A1 B1 ne8 row8
              go_wp2_with fail
              refine (cw _ P9.rep).mono ?_; rintro e w9 ⟨rfl, x9⟩
              have P10 := P9.on x9
              clear P9 x9 cw
              go_wp2_with fail
              refine (cr _ P10.rep).mono ?_; rintro e w10 ⟨a9, len9, cap9, S9, rfl, R9, f9, x9, row9, ne9⟩
              have B10 := (P10.one R9 f9 x9).below
              obtain rfl : len9 = 0 := row9.1.symm
              clear P10 R9 f9 x9 cr row9 ne9
              go_wp2_with fail
              refine (waited_ K _).mono ?_; rintro e w11 ⟨rfl, x11⟩
              have B11 := B10.trans (x11.mono B10.size)
              clear B10 x11
              go_wp2
              go_ret
              exact ⟨rfl, B11⟩
end Go.Proofs.Ytghicdajcmkfjaa.EpochsEnd
