/- EpochsGrace (layer 14), over what is asked of the epochs. Written by gen_epochsgrace.py. -/
import Derived.Test.YtghicdajcmkfjaaEpoG
import Derived.Test.YtghicdajcmkfjaaEpochsEnd
import Derived.Test.YtghicdajcmkfjaaLead
namespace Go.Proofs.Ytghicdajcmkfjaa.EpochsGrace
set_option linter.unusedVariables false
set_option linter.unusedSimpArgs false
open Go.ChangeShapes Go.WideShapes Go.ChangeAt Go.RowKit Go.PlainAid
open EpochsEnd (count_ small low_ take_has take_not cast_at mem_at int_lt14 now_adv now_def)
attribute [local go_sem ↓] Go.wp_at_zero Go.wp_at_succ
theorem eight {z k : Int} (h0 : 0 ≤ z) (h : z.tmod 8 = k) : k = 0 ∨ k = 1 ∨ k = 2 ∨ k = 3 ∨ k = 4 ∨ k = 5 ∨ k = 6 ∨ k = 7 := by
  rw [Int.tmod_eq_emod_of_nonneg h0] at h
  omega
theorem zero_72 (u : World) : (Sem.run Try.prog (zeroValue 47) u) = .ok (.agg (boolsZ 72)) u := by
  have hz : Try.t47.zero = some (.agg (boolsZ 72)) := by kernel_rfl
  simp [zeroValue, go_sem, hz]
theorem zero_9 (u : World) : (Sem.run Try.prog (zeroValue 48) u) = .ok (.agg (boolsZ 9)) u := by
  have hz : Try.t48.zero = some (.agg (boolsZ 9)) := by kernel_rfl
  simp [zeroValue, go_sem, hz]
/-- Numbers as indices. -/
theorem ix {k n : Nat} (h : k < n) : (0 : Int) ≤ (k : Int) ∧ (k : Int) < (n : Int) ∧ decide ((k : Int) < (n : Int)) = true := ⟨Int.natCast_nonneg _, Int.ofNat_lt.2 h, by simpa using h⟩
theorem ix9 {k : Nat} (h : k < 9) : (0 : Int) ≤ (k : Int) ∧ (k : Int) < 9 ∧ decide ((k : Int) < 9) = true := ⟨Int.natCast_nonneg _, by omega, by simp; omega⟩
theorem lt8 {m : Nat} (h : m < 9) : decide ((8 : Int) < (m : Int)) = false ∧ decide ((m : Int) < 0) = false := ⟨by simp; omega, by simp⟩
theorem cell_lt {k v : Nat} (hk : k < 9) (hv : v < 8) : k * 8 + v < 72 ∧ (k * 8 + v) % 8 = v ∧ (k * 8 + v) / 8 = k := by omega
theorem lt_sub {k : Nat} (h : k < 9) : 9 - (k + 1) < 9 - k := by omega
/-- The arrays, part by part. -/
def entF (f : Nat → Bool) (W k : Nat) (b : Bool) : Nat → Bool := fun j => if j % 8 = W ∧ j / 8 < k then f j && b else f j
theorem entF_zero (f : Nat → Bool) (W : Nat) (b : Bool) (j : Nat) : f j = entF f W 0 b j := by
  unfold entF
  rw [if_neg (fun h => absurd h.2 (Nat.not_lt_zero _))]
theorem entF_at (f : Nat → Bool) {W k : Nat} (b : Bool) (hk : k < 9) (hW : W < 8) : entF f W k b (k * 8 + W) = f (k * 8 + W) := by
  unfold entF
  have := cell_lt hk hW
  rw [if_neg (fun h => by omega)]
theorem entF_step (f : Nat → Bool) {W k : Nat} (b : Bool) (hk : k < 9) (hW : W < 8) (j : Nat) : (if j = k * 8 + W then f (k * 8 + W) && b else entF f W k b j) = entF f W (k + 1) b j := by
  unfold entF
  have c := cell_lt hk hW
  by_cases e : j = k * 8 + W
  · rw [if_pos e, if_pos (by omega), e]
  · rw [if_neg e]
    by_cases h : j % 8 = W ∧ j / 8 < k
    · rw [if_pos h, if_pos ⟨h.1, by omega⟩]
    · rw [if_neg h, if_neg (fun h2 => h ⟨h2.1, by omega⟩)]
theorem entF_all {f : Nat → Bool} {W k v N : Nat} {b : Bool} (hk : k < 9) (hv : v < 8) (ht : entF f W 9 b (k * 8 + v) = true) : f (k * 8 + v) = true ∧ (v = W → b = true) := by
  have c := cell_lt hk hv
  unfold entF at ht
  by_cases h : v = W
  · rw [if_pos ⟨by omega, by omega⟩, Bool.and_eq_true] at ht
    exact ⟨ht.1, fun _ => ht.2⟩
  · rw [if_neg (fun h2 => h (by omega))] at ht
    exact ⟨ht, fun e => absurd e h⟩
def defF (f g : Nat → Bool) (z k : Nat) : Nat → Bool := fun j => if j / 8 = z ∧ j % 8 < k then g (j % 8) else f j
theorem defF_zero (f g : Nat → Bool) (z j : Nat) : f j = defF f g z 0 j := by
  unfold defF
  rw [if_neg (fun h => absurd h.2 (Nat.not_lt_zero _))]
theorem defF_step (f g : Nat → Bool) {z k : Nat} (hz : z < 9) (hk : k < 8) (j : Nat) : (if j = z * 8 + k then g k else defF f g z k j) = defF f g z (k + 1) j := by
  unfold defF
  have c := cell_lt hz hk
  by_cases e : j = z * 8 + k
  · rw [if_pos e, if_pos (by omega), e, c.2.1]
  · rw [if_neg e]
    by_cases h : j / 8 = z ∧ j % 8 < k
    · rw [if_pos h, if_pos ⟨h.1, by omega⟩]
    · rw [if_neg h, if_neg (fun h2 => h ⟨h2.1, by omega⟩)]
theorem defF_all {f g : Nat → Bool} {z k v N : Nat} (hk : k < 9) (hv : v < N) (hN : N ≤ 8) : defF f g z N (k * 8 + v) = if k = z then g v else f (k * 8 + v) := by
  have c := cell_lt hk (Nat.lt_of_lt_of_le hv hN)
  unfold defF
  by_cases h : k = z
  · rw [if_pos ⟨by omega, by omega⟩, if_pos h, c.2.1]
  · rw [if_neg (fun h2 => h (by omega)), if_neg h]
theorem bang_step (h : Nat → Bool) {rl : List Nat} {i : Nat} (hi : i < rl.length) (j : Nat) : (if j = rl.getD i 0 then false else (h j && !(rl.take i).contains j)) = (h j && !(rl.take (i + 1)).contains j) := by
  rw [← take_has hi j]
  by_cases e : j = rl.getD i 0
  · rw [if_pos e, if_pos e]; simp
  · rw [if_neg e, if_neg e]
set_option maxHeartbeats 8000000 in
set_option maxRecDepth 100000 in
theorem walk_ (K : EpochsOk) (fz : Int) (a : Option Addr) (len cap : Nat) (l : List A14) (w : World) (hn : (Lit.int .u8 fz).wf = true) (v : len ≤ maxLen) (hr : A14At w a len l) :
    Calls Try.prog 5 #[.int .u8 fz, .slice a len cap] w fun e w' => e = .returned (.bool true) ∧ Below w.heap.size w w' := by
  obtain ⟨n0, n1⟩ := bounds_u8 hn
  obtain ⟨N, N1, N2, y1, y2, y3, y4, y5⟩ := count_ n0 n1
  have N64 : N ≤ 64 := Nat.le_trans N2 (by decide)
  by_cases h1 : 200 < len
  · have e1 : decide ((200 : Int) < len) = true := by simp; omega
    have e2 : decide (200 < len) = true := by simpa using h1
    go_enter Try.func5, Try.ntmps5
    go_wp2_with fail
    refine (K.news N w N1 N64).mono ?_; rintro e w1 ⟨q, S1, rfl, b1, hS, R1⟩
    go_wp2_with fail
    refine (waited_ K _).mono ?_; rintro e w2 ⟨rfl, b2⟩
    go_wp2
    go_ret
    exact ⟨rfl, b1.trans (b2.mono b1.size)⟩
  have e1 : decide ((200 : Int) < len) = false := by simp; omega
  have e2 : decide (200 < len) = false := by simpa using h1
  have H200 := Lib.hid (Nat.le_of_not_lt h1)
  have zs := zero_72
  have zw := zero_9
  have zz := boolsZ_size 72
  have zy := boolsZ_size 9
  go_enter Try.func5, Try.ntmps5
  go_wp2_with fail
  refine (K.news N w N1 N64).mono ?_; rintro e w1 ⟨q, S1, rfl, b1, hS, R1⟩
  clear n0 n1 y1 y2 y3 y4 y5 hn h1
  go_upto_region 6 with fail
  have G6 : Alone K.toObjP w (w1.alloc (.cells (boolsZ 72) 47)) S1 q (Ep.new N) := (Alone.mk R1 hS b1 : Alone K.toObjP w w1 S1 q (Ep.new N)).on ((Below.refl _ _).alloc (Nat.le_refl _) _)
  have A6 := ArrB.made w1 72 47
  have l6 := b1.size
  have n6 : ¬ S1 w1.heap.size := fun h => Nat.lt_irrefl _ (K.lt R1 _ h)
  obtain ⟨gs, hgs⟩ : ∃ g_, g_ = w1.heap.size := ⟨_, rfl⟩
  rw [← hgs] at A6 l6 n6 ⊢
  obtain ⟨w6, hw6⟩ : ∃ x_ : World, x_ = w1.alloc (.cells (boolsZ 72) 47) := ⟨_, rfl⟩
  rw [← hw6] at A6 G6 ⊢
  clear hw6 R1 b1 hS hgs
  go_upto_region 8 with fail
  have B7 : Below w6.heap.size w6 (w6.alloc (.cells (boolsZ 9) 48)) := (Below.refl _ _).alloc (Nat.le_refl _) _
  have G0 : GrS K w (w6.alloc (.cells (boolsZ 9) 48)) S1 q (Ep.new N) gs w6.heap.size (fun _ => false) (fun _ => false) :=
    ⟨G6.on B7, A6.on B7, ArrB.made w6 9 48, l6, Nat.le_trans l6 (Nat.le_of_lt A6.lt), Nat.ne_of_lt A6.lt, n6, fun h => Nat.lt_irrefl _ (K.lt G6.rep _ h)⟩
  obtain ⟨gw, hgw⟩ : ∃ g_, g_ = w6.heap.size := ⟨_, rfl⟩
  rw [← hgw] at G0 ⊢
  obtain ⟨w7, hw7⟩ : ∃ x_ : World, x_ = w6.alloc (.cells (boolsZ 9) 48) := ⟨_, rfl⟩
  rw [← hw7] at G0 ⊢
  clear hw7 hgw B7 G6 A6 l6 n6 zs zw zz zy e1 e2
  go_loopw [10] (fun si wr => ∃ (i : Nat) (x : Ep) (S : Nat → Prop) (f h : Nat → Bool), i ≤ len ∧ si = .int .i64 (i : Int) ∧ x.now ≤ i ∧ Gr x N f h ∧ GrS K w wr S q x gs gw f h) (fun si _ => len - (intOf si).toNat)
  case atStart => exact ⟨0, _, _, _, _, Nat.zero_le _, rfl, Nat.le_refl _, Gr.new N, G0⟩
  case round =>
    obtain ⟨i, x, S, f, h, hi, rfl, hx, hg, P1⟩ := hrel
    clear G0
    have EW := Lib.hid (step_14 (j := i) (Nat.lt_of_le_of_lt (Nat.le_trans hi H200.out) (by decide)))
    by_cases hlt : i < len
    · obtain ⟨bx, off, rfl, hbx, hc⟩ := hr.cells.resolve_left (Nat.ne_of_gt (Nat.lt_of_le_of_lt (Nat.zero_le i) hlt))
      have hx0 := (hc i hlt).on hbx P1.al.below
      have hbr := Nat.lt_of_lt_of_le hbx P1.al.below.size
      have okx := hr.okAt hlt
      obtain ⟨y, hye⟩ : ∃ y, y = l.getD i A14.zero := ⟨_, rfl⟩
      rw [← hye] at hx0 okx
      clear hye hc
      obtain ⟨c0, c1, c2⟩ := hx0
      have t1 : decide ((i : Int) < (len : Int)) = true := by simpa using hlt
      have jj0 : (0 : Int) ≤ (i : Int) := Int.natCast_nonneg i
      have jj1 : (i : Int) < (len : Int) := Int.ofNat_lt.2 hlt
      have sm := Lib.hid (small hx hlt H200.out)
      have K0 := Lib.hid (bounds_u8 okx.kd).1
      obtain ⟨kd, wk, sl⟩ := y
      simp only at c0 c1 c2 K0
      have F0 : ∀ u : Later wr.heap.size wr, u.u.cell? ⟨bx, off + i * 3, none⟩ = some (.int .u8 kd) := fun u => u.block hbr c0
      have F1 : ∀ u : Later wr.heap.size wr, u.u.cell? ⟨bx, off + i * 3 + 1, none⟩ = some (.int .i64 wk) := fun u => u.block hbr c1
      have F2 : ∀ u : Later wr.heap.size wr, u.u.cell? ⟨bx, off + i * 3 + 2, none⟩ = some (.int .i64 sl) := fun u => u.block hbr c2
      have w1_ := fun u : World => within_ wk N u N1 (Nat.le_trans N2 (by decide))
      have w2_ := fun u : World => within_ sl 9 u (by decide) (by decide)
      have hWN : wN wk N < N := wN_lt wk N1
      have hZ9 : wN sl 9 < 9 := wN_lt sl (by decide)
      have HL := Lib.hid hlt
      have HX := Lib.hid hx
      have C0 := Lib.hid c0
      have HB := Lib.hid hbr
      clear c0 c1 c2 okx hbr hlt hi hbx hx
      go_upto_region 10 with fail
      generalize wN wk N = W at w1_ hWN
      generalize wN sl 9 = Z at w2_ hZ9
      have HW := Lib.hid hWN
      have HZ := Lib.hid hZ9
      have HG := Lib.hid hg
      clear hWN hZ9 hg
      refine region_later (B := wr.heap.size) (by kernel_rfl) (by kernel_rfl) ?_
      repeat (go_big_quiet_step (first | (go_at_call_of 10 wk; exact later_same _ (w1_ _)) | (go_at_call_of 10 sl; exact later_same _ (w2_ _))))
      refine later_end fun w5 x5 => ?_
      have PP := Lib.hid (P1.on x5)
      have d0 := (x5.cell (p := ⟨bx, off + i * 3, none⟩) HB.out).trans C0.out
      clear F0 F1 F2 w1_ w2_ P1 x5
      go_upto_region 19 with fail
      obtain ⟨kk, hkk⟩ : ∃ k_, kd.tmod 8 = k_ := ⟨_, rfl⟩
      rw [hkk]
      clear d0
      rcases eight K0.out hkk with rfl | rfl | rfl | rfl | rfl | rfl | rfl | rfl
      · as_aux_lemma =>
        have P2 := PP.out
        clear PP
        have hWx : W < x.said.length := by rw [HG.out.len]; exact HW.out
        have W8 := Lib.hid (Nat.lt_of_lt_of_le HW.out N2)
        have cs0 : Says Try.prog 26 #[.pointer (some ⟨q, 0, none⟩), .int .i64 (W : Int)] w5 (.int .i64 (x.said.getD W (-1))) := by
          have h := K.seens q S x (W : Int) w5 P2.al.rep sm.out.1
          rw [Ep.seen_nat hWx] at h
          exact h
        have ce : ∀ u (R : K.Rep u S q x), Told Try.prog K.toObjP 11 #[.pointer (some ⟨q, 0, none⟩), .int .i64 (W : Int)] u S q (.int .i64 0) (x.setT (W : Int) x.now) := fun u R => by
          have h := K.enters q S x (W : Int) u R sm.out.1
          rw [Ep.setE_nat hWx] at h
          exact h
        have hseen : (x.setT (W : Int) x.now).seen (W : Int) = (x.now : Int) := by
          rw [Ep.seen_nat (by rw [Ep.said_len_set]; exact hWx), Ep.said_at hWx, if_pos rfl]
        have OKX := Lib.hid (K.ok P2.al.rep)
        have hnow : (x.setT (W : Int) x.now).now = x.now := Ep.now_set _ _ _
        have sm2 : (x.setT (W : Int) x.now).now < 4611686018427387904 := by rw [hnow]; exact sm.out.1
        have hle : decide ((x.now : Int) < x.said.getD W (-1)) = false := by
          exact decide_eq_false (Int.not_lt.2 (Gr.le_now OKX.out hWx))
        have hle2 : x.said.getD W (-1) ≤ (x.now : Int) := Gr.le_now OKX.out hWx
        have HLE := Lib.hid (And.intro hle hle2)
        have GE := Lib.hid (fun f' h1 => HG.out.enter (f' := f') HW.out h1)
        have cin : ∀ u S' (R : K.Rep u S' q (x.setT (W : Int) x.now)), Says Try.prog 24 #[.pointer (some ⟨q, 0, none⟩), .int .i64 (W : Int)] u (.bool true) := fun u S' R => by
          have h := K.ins q S' _ (W : Int) u R sm2
          unfold Ep.inV at h
          rw [hseen] at h
          exact h
        have csn : ∀ u S' (R : K.Rep u S' q (x.setT (W : Int) x.now)), Says Try.prog 26 #[.pointer (some ⟨q, 0, none⟩), .int .i64 (W : Int)] u (.int .i64 (x.now : Int)) := fun u S' R => by
          have h := K.seens q S' _ (W : Int) u R sm2
          rw [hseen] at h
          exact h
        have cnw : ∀ u S' (R : K.Rep u S' q (x.setT (W : Int) x.now)), Says Try.prog 22 #[.pointer (some ⟨q, 0, none⟩)] u (.int .i64 (x.now : Int)) := fun u S' R => by
          have h := K.nows q S' _ u R
          rw [hnow] at h
          exact h
        have HN := Lib.hid hnow
        clear hnow hseen sm2 hle hle2
        obtain ⟨sv, hsv⟩ : ∃ s_, s_ = x.said.getD W (-1) := ⟨_, rfl⟩
        rw [← hsv] at cs0 HLE
        have HSV := Lib.hid hsv
        clear hsv hWx
        obtain ⟨x2, hx2⟩ : ∃ x_, x_ = x.setT (W : Int) x.now := ⟨_, rfl⟩
        rw [← hx2] at ce cin csn cnw HN GE
        clear hx2
        go_wp2_with fail
        refine cs0.mono ?_; rintro e w8 ⟨rfl, x8⟩
        have P3 := P2.on x8
        clear P2 x8 cs0
        go_wp2_with fail
        refine (ce _ P3.al.rep).mono ?_; rintro e w9 ⟨rfl, S9, R9, f9, x9⟩
        have P4 := P3.one R9 f9 x9
        clear P3 R9 f9 x9 ce
        go_wp2_with fail
        refine (cin _ _ P4.al.rep).mono ?_; rintro e w10 ⟨rfl, x10⟩
        have P5 := P4.on x10
        clear P4 x10 cin
        go_wp2_with fail
        refine (csn _ _ P5.al.rep).mono ?_; rintro e w11 ⟨rfl, x11⟩
        have P6 := P5.on x11
        clear P5 x11
        go_wp2_with fail
        refine (cnw _ _ P6.al.rep).mono ?_; rintro e w12 ⟨rfl, x12⟩
        have P7 := P6.on x12
        clear P6 x12 cnw
        go_wp2_with fail
        refine (csn _ _ P7.al.rep).mono ?_; rintro e w13 ⟨rfl, x13⟩
        have P8 := P7.on x13
        clear P7 x13
        obtain ⟨hle, hle2⟩ := HLE.out
        go_upto_region 25 with fail
        clear hle hle2
        obtain ⟨b, hb⟩ : ∃ b_, b_ = ((x.now : Int) == sv) := ⟨_, rfl⟩
        go_loopw [14] (fun si wr => ∃ k : Nat, k ≤ 9 ∧ si = .int .i64 (k : Int) ∧ GrS K w wr S9 q x2 gs gw (entF f W k b) h) (fun si _ => 9 - (intOf si).toNat)
        case atStart => exact ⟨0, Nat.zero_le _, rfl, P8.congr (fun j _ => entF_zero f W b j) (fun j _ => rfl)⟩
        case round =>
          obtain ⟨k, hk, rfl, P9⟩ := hrel
          clear P8
          have EK := Lib.hid (step_14 (j := k) (Nat.lt_of_le_of_lt hk (by decide)))
          by_cases hk9 : k < 9
          · have HK := Lib.hid hk9
            have C := Lib.hid (cell_lt hk9 W8.out)
            obtain ⟨i1, i2, i3⟩ := ix hk9
            obtain ⟨j1, j2, j3⟩ := ix W8.out
            have ca := P9.sa.at_ _ C.out.1
            rw [entF_at f b hk9 W8.out] at ca
            have hgl := P9.sa.lt
            have FC : ∀ u : Later wr.heap.size wr, u.u.cell? ⟨gs, k * 8 + W, none⟩ = some (.bool (f (k * 8 + W))) := fun u => u.block hgl ca
            have cq := fun u : Later wr.heap.size wr => csn u.u S9 (P9.on u.h).al.rep
            have P8 := P9
            clear P9 ca hgl hk hk9
            go_upto_region 27 with fail
            cases hq : f (k * 8 + W) with
            | true =>
              rw [hq] at FC
              have STP : ∀ j, (if j = k * 8 + W then ((x.now : Int) == sv) else entF f W k b j) = entF f W (k + 1) b j := fun j => by
                have h := entF_step f b HK.out W8.out j
                rw [hq, Bool.true_and] at h
                rw [← hb]
                exact h
              have SP := Lib.hid STP
              clear STP hq
              refine region_lead (B := wr.heap.size) 16 1 (by kernel_rfl) (by kernel_rfl) (by kernel_rfl) (by kernel_rfl) ?_
              simp only [List.take_succ_cons, List.take_zero]
              repeat (go_big_quiet_step (first | (go_at_call 26; exact later_of _ (Nat.le_refl _) (cq _))))
              refine lead_end (by kernel_rfl) (by kernel_rfl) rfl fun w12 x12 K_ hK => ?_
              clear cq
              have P12 := P8.on x12
              have f12 := P12.sa.frz _ C.out.1
              have c12 := P12.sa.at_ _ C.out.1
              have PE := Lib.hid ((P12.setS _ C.out.1 ((x.now : Int) == sv)).congr (fun j _ => SP.out j) (fun j _ => rfl))
              clear P8 x12 P12 FC SP
              go_simp
              refine hK.out _ _ ?_
              clear hK K_ c12 f12
              go_wp2
              go_roundw
              case rel => exact ⟨k + 1, HK.out, by simp [EK.out], PE.out⟩
              case measure => first | exact step_meas14 EK.out (step_less14 HK.out) | (simp [EK.out]; exact step_less14 HK.out) | exact step_less14 HK.out
            | false =>
              rw [hq] at FC
              have STP : ∀ j, (if j = k * 8 + W then false else entF f W k b j) = entF f W (k + 1) b j := fun j => by
                have h := entF_step f b HK.out W8.out j
                rw [hq, Bool.false_and] at h
                exact h
              have SP := Lib.hid STP
              clear STP hq cq
              refine region_lead (B := wr.heap.size) 16 1 (by kernel_rfl) (by kernel_rfl) (by kernel_rfl) (by kernel_rfl) ?_
              simp only [List.take_succ_cons, List.take_zero]
              repeat (go_big_quiet_step (fail))
              refine lead_end (by kernel_rfl) (by kernel_rfl) rfl fun w12 x12 K_ hK => ?_
              have P12 := P8.on x12
              have f12 := P12.sa.frz _ C.out.1
              have c12 := P12.sa.at_ _ C.out.1
              have PE := Lib.hid ((P12.setS _ C.out.1 false).congr (fun j _ => SP.out j) (fun j _ => rfl))
              clear P8 x12 P12 FC SP
              go_simp
              refine hK.out _ _ ?_
              clear hK K_ c12 f12
              go_wp2
              go_roundw
              case rel => exact ⟨k + 1, HK.out, by simp [EK.out], PE.out⟩
              case measure => first | exact step_meas14 EK.out (step_less14 HK.out) | (simp [EK.out]; exact step_less14 HK.out) | exact step_less14 HK.out
          · obtain rfl : k = 9 := Nat.le_antisymm hk (Nat.le_of_not_lt hk9)
            have t9 : decide ((9 : Int) < 9) = false := by decide
            have PE := Lib.hid P9
            clear P9 hk hk9 csn
            go_wp2
            go_roundw
            case rel =>
              refine ⟨i + 1, x2, S9, _, h, HL.out, by simp [EW.out], by rw [HN.out]; exact Nat.le_succ_of_le HX.out, GE.out _ (fun k v hk hv ht => ?_), PE.out⟩
              obtain ⟨h1, h2⟩ := entF_all (N := N) hk (Nat.lt_of_lt_of_le hv N2) ht
              refine ⟨h1, fun e => ?_⟩
              have h3 := h2 e
              rw [hb] at h3
              have h4 := eq_of_beq h3
              rw [← HSV.out]
              exact h4
            case measure => first | exact step_meas14 EW.out (step_less14 HL.out) | (simp [EW.out]; exact step_less14 HL.out) | exact step_less14 HL.out
      · as_aux_lemma =>
        have P2 := PP.out
        clear PP
        have hWx : W < x.said.length := by rw [HG.out.len]; exact HW.out
        have W8 := Lib.hid (Nat.lt_of_lt_of_le HW.out N2)
        have cs0 : Says Try.prog 26 #[.pointer (some ⟨q, 0, none⟩), .int .i64 (W : Int)] w5 (.int .i64 (x.said.getD W (-1))) := by
          have h := K.seens q S x (W : Int) w5 P2.al.rep sm.out.1
          rw [Ep.seen_nat hWx] at h
          exact h
        have ce : ∀ u (R : K.Rep u S q x), Told Try.prog K.toObjP 11 #[.pointer (some ⟨q, 0, none⟩), .int .i64 (W : Int)] u S q (.int .i64 0) (x.setT (W : Int) x.now) := fun u R => by
          have h := K.enters q S x (W : Int) u R sm.out.1
          rw [Ep.setE_nat hWx] at h
          exact h
        have hseen : (x.setT (W : Int) x.now).seen (W : Int) = (x.now : Int) := by
          rw [Ep.seen_nat (by rw [Ep.said_len_set]; exact hWx), Ep.said_at hWx, if_pos rfl]
        have OKX := Lib.hid (K.ok P2.al.rep)
        have hnow : (x.setT (W : Int) x.now).now = x.now := Ep.now_set _ _ _
        have sm2 : (x.setT (W : Int) x.now).now < 4611686018427387904 := by rw [hnow]; exact sm.out.1
        have hle : decide ((x.now : Int) < x.said.getD W (-1)) = false := by
          exact decide_eq_false (Int.not_lt.2 (Gr.le_now OKX.out hWx))
        have hle2 : x.said.getD W (-1) ≤ (x.now : Int) := Gr.le_now OKX.out hWx
        have HLE := Lib.hid (And.intro hle hle2)
        have GE := Lib.hid (fun f' h1 => HG.out.enter (f' := f') HW.out h1)
        have cin : ∀ u S' (R : K.Rep u S' q (x.setT (W : Int) x.now)), Says Try.prog 24 #[.pointer (some ⟨q, 0, none⟩), .int .i64 (W : Int)] u (.bool true) := fun u S' R => by
          have h := K.ins q S' _ (W : Int) u R sm2
          unfold Ep.inV at h
          rw [hseen] at h
          exact h
        have csn : ∀ u S' (R : K.Rep u S' q (x.setT (W : Int) x.now)), Says Try.prog 26 #[.pointer (some ⟨q, 0, none⟩), .int .i64 (W : Int)] u (.int .i64 (x.now : Int)) := fun u S' R => by
          have h := K.seens q S' _ (W : Int) u R sm2
          rw [hseen] at h
          exact h
        have cnw : ∀ u S' (R : K.Rep u S' q (x.setT (W : Int) x.now)), Says Try.prog 22 #[.pointer (some ⟨q, 0, none⟩)] u (.int .i64 (x.now : Int)) := fun u S' R => by
          have h := K.nows q S' _ u R
          rw [hnow] at h
          exact h
        have HN := Lib.hid hnow
        clear hnow hseen sm2 hle hle2
        obtain ⟨sv, hsv⟩ : ∃ s_, s_ = x.said.getD W (-1) := ⟨_, rfl⟩
        rw [← hsv] at cs0 HLE
        have HSV := Lib.hid hsv
        clear hsv hWx
        obtain ⟨x2, hx2⟩ : ∃ x_, x_ = x.setT (W : Int) x.now := ⟨_, rfl⟩
        rw [← hx2] at ce cin csn cnw HN GE
        clear hx2
        go_wp2_with fail
        refine cs0.mono ?_; rintro e w8 ⟨rfl, x8⟩
        have P3 := P2.on x8
        clear P2 x8 cs0
        go_wp2_with fail
        refine (ce _ P3.al.rep).mono ?_; rintro e w9 ⟨rfl, S9, R9, f9, x9⟩
        have P4 := P3.one R9 f9 x9
        clear P3 R9 f9 x9 ce
        go_wp2_with fail
        refine (cin _ _ P4.al.rep).mono ?_; rintro e w10 ⟨rfl, x10⟩
        have P5 := P4.on x10
        clear P4 x10 cin
        go_wp2_with fail
        refine (csn _ _ P5.al.rep).mono ?_; rintro e w11 ⟨rfl, x11⟩
        have P6 := P5.on x11
        clear P5 x11
        go_wp2_with fail
        refine (cnw _ _ P6.al.rep).mono ?_; rintro e w12 ⟨rfl, x12⟩
        have P7 := P6.on x12
        clear P6 x12 cnw
        go_wp2_with fail
        refine (csn _ _ P7.al.rep).mono ?_; rintro e w13 ⟨rfl, x13⟩
        have P8 := P7.on x13
        clear P7 x13
        obtain ⟨hle, hle2⟩ := HLE.out
        go_upto_region 25 with fail
        clear hle hle2
        obtain ⟨b, hb⟩ : ∃ b_, b_ = ((x.now : Int) == sv) := ⟨_, rfl⟩
        go_loopw [14] (fun si wr => ∃ k : Nat, k ≤ 9 ∧ si = .int .i64 (k : Int) ∧ GrS K w wr S9 q x2 gs gw (entF f W k b) h) (fun si _ => 9 - (intOf si).toNat)
        case atStart => exact ⟨0, Nat.zero_le _, rfl, P8.congr (fun j _ => entF_zero f W b j) (fun j _ => rfl)⟩
        case round =>
          obtain ⟨k, hk, rfl, P9⟩ := hrel
          clear P8
          have EK := Lib.hid (step_14 (j := k) (Nat.lt_of_le_of_lt hk (by decide)))
          by_cases hk9 : k < 9
          · have HK := Lib.hid hk9
            have C := Lib.hid (cell_lt hk9 W8.out)
            obtain ⟨i1, i2, i3⟩ := ix hk9
            obtain ⟨j1, j2, j3⟩ := ix W8.out
            have ca := P9.sa.at_ _ C.out.1
            rw [entF_at f b hk9 W8.out] at ca
            have hgl := P9.sa.lt
            have FC : ∀ u : Later wr.heap.size wr, u.u.cell? ⟨gs, k * 8 + W, none⟩ = some (.bool (f (k * 8 + W))) := fun u => u.block hgl ca
            have cq := fun u : Later wr.heap.size wr => csn u.u S9 (P9.on u.h).al.rep
            have P8 := P9
            clear P9 ca hgl hk hk9
            go_upto_region 27 with fail
            cases hq : f (k * 8 + W) with
            | true =>
              rw [hq] at FC
              have STP : ∀ j, (if j = k * 8 + W then ((x.now : Int) == sv) else entF f W k b j) = entF f W (k + 1) b j := fun j => by
                have h := entF_step f b HK.out W8.out j
                rw [hq, Bool.true_and] at h
                rw [← hb]
                exact h
              have SP := Lib.hid STP
              clear STP hq
              refine region_lead (B := wr.heap.size) 16 1 (by kernel_rfl) (by kernel_rfl) (by kernel_rfl) (by kernel_rfl) ?_
              simp only [List.take_succ_cons, List.take_zero]
              repeat (go_big_quiet_step (first | (go_at_call 26; exact later_of _ (Nat.le_refl _) (cq _))))
              refine lead_end (by kernel_rfl) (by kernel_rfl) rfl fun w12 x12 K_ hK => ?_
              clear cq
              have P12 := P8.on x12
              have f12 := P12.sa.frz _ C.out.1
              have c12 := P12.sa.at_ _ C.out.1
              have PE := Lib.hid ((P12.setS _ C.out.1 ((x.now : Int) == sv)).congr (fun j _ => SP.out j) (fun j _ => rfl))
              clear P8 x12 P12 FC SP
              go_simp
              refine hK.out _ _ ?_
              clear hK K_ c12 f12
              go_wp2
              go_roundw
              case rel => exact ⟨k + 1, HK.out, by simp [EK.out], PE.out⟩
              case measure => first | exact step_meas14 EK.out (step_less14 HK.out) | (simp [EK.out]; exact step_less14 HK.out) | exact step_less14 HK.out
            | false =>
              rw [hq] at FC
              have STP : ∀ j, (if j = k * 8 + W then false else entF f W k b j) = entF f W (k + 1) b j := fun j => by
                have h := entF_step f b HK.out W8.out j
                rw [hq, Bool.false_and] at h
                exact h
              have SP := Lib.hid STP
              clear STP hq cq
              refine region_lead (B := wr.heap.size) 16 1 (by kernel_rfl) (by kernel_rfl) (by kernel_rfl) (by kernel_rfl) ?_
              simp only [List.take_succ_cons, List.take_zero]
              repeat (go_big_quiet_step (fail))
              refine lead_end (by kernel_rfl) (by kernel_rfl) rfl fun w12 x12 K_ hK => ?_
              have P12 := P8.on x12
              have f12 := P12.sa.frz _ C.out.1
              have c12 := P12.sa.at_ _ C.out.1
              have PE := Lib.hid ((P12.setS _ C.out.1 false).congr (fun j _ => SP.out j) (fun j _ => rfl))
              clear P8 x12 P12 FC SP
              go_simp
              refine hK.out _ _ ?_
              clear hK K_ c12 f12
              go_wp2
              go_roundw
              case rel => exact ⟨k + 1, HK.out, by simp [EK.out], PE.out⟩
              case measure => first | exact step_meas14 EK.out (step_less14 HK.out) | (simp [EK.out]; exact step_less14 HK.out) | exact step_less14 HK.out
          · obtain rfl : k = 9 := Nat.le_antisymm hk (Nat.le_of_not_lt hk9)
            have t9 : decide ((9 : Int) < 9) = false := by decide
            have PE := Lib.hid P9
            clear P9 hk hk9 csn
            go_wp2
            go_roundw
            case rel =>
              refine ⟨i + 1, x2, S9, _, h, HL.out, by simp [EW.out], by rw [HN.out]; exact Nat.le_succ_of_le HX.out, GE.out _ (fun k v hk hv ht => ?_), PE.out⟩
              obtain ⟨h1, h2⟩ := entF_all (N := N) hk (Nat.lt_of_lt_of_le hv N2) ht
              refine ⟨h1, fun e => ?_⟩
              have h3 := h2 e
              rw [hb] at h3
              have h4 := eq_of_beq h3
              rw [← HSV.out]
              exact h4
            case measure => first | exact step_meas14 EW.out (step_less14 HL.out) | (simp [EW.out]; exact step_less14 HL.out) | exact step_less14 HL.out
      · as_aux_lemma =>
        have P2 := PP.out
        clear PP
        have hWx : W < x.said.length := by rw [HG.out.len]; exact HW.out
        have W8 := Lib.hid (Nat.lt_of_lt_of_le HW.out N2)
        have ce : ∀ u (R : K.Rep u S q x), Told Try.prog K.toObjP 13 #[.pointer (some ⟨q, 0, none⟩), .int .i64 (W : Int)] u S q (.int .i64 0) (x.setT (W : Int) (-1)) := fun u R => by
          have h := K.leaves q S x (W : Int) u R sm.out.1
          rw [Ep.setE_nat hWx] at h
          exact h
        have hnow : (x.setT (W : Int) (-1)).now = x.now := Ep.now_set _ _ _
        have sm2 : (x.setT (W : Int) (-1)).now < 4611686018427387904 := by rw [hnow]; exact sm.out.1
        have cin : ∀ u S' (R : K.Rep u S' q (x.setT (W : Int) (-1))), Says Try.prog 24 #[.pointer (some ⟨q, 0, none⟩), .int .i64 (W : Int)] u (.bool false) := fun u S' R => by
          have h := K.ins q S' _ (W : Int) u R sm2
          unfold Ep.inV at h
          rw [Ep.seen_nat (by rw [Ep.said_len_set]; exact hWx), Ep.said_at hWx, if_pos rfl] at h
          exact h
        have GE := Lib.hid (fun f' h1 => HG.out.leave (f' := f') HW.out h1)
        have HN := Lib.hid hnow
        clear hnow sm2 hWx
        obtain ⟨x2, hx2⟩ : ∃ x_, x_ = x.setT (W : Int) (-1) := ⟨_, rfl⟩
        rw [← hx2] at ce cin HN GE
        clear hx2
        go_wp2_with fail
        refine (ce _ P2.al.rep).mono ?_; rintro e w9 ⟨rfl, S9, R9, f9, x9⟩
        have P4 := P2.one R9 f9 x9
        clear P2 R9 f9 x9 ce
        go_wp2_with fail
        refine (cin _ _ P4.al.rep).mono ?_; rintro e w10 ⟨rfl, x10⟩
        have P8 := P4.on x10
        clear P4 x10 cin
        go_upto_region 32 with fail
        go_loopw [15] (fun si wr => ∃ k : Nat, k ≤ 9 ∧ si = .int .i64 (k : Int) ∧ GrS K w wr S9 q x2 gs gw (entF f W k false) h) (fun si _ => 9 - (intOf si).toNat)
        case atStart => exact ⟨0, Nat.zero_le _, rfl, P8.congr (fun j _ => entF_zero f W false j) (fun j _ => rfl)⟩
        case round =>
          obtain ⟨k, hk, rfl, P9⟩ := hrel
          clear P8
          have EK := Lib.hid (step_14 (j := k) (Nat.lt_of_le_of_lt hk (by decide)))
          by_cases hk9 : k < 9
          · have HK := Lib.hid hk9
            have C := cell_lt hk9 W8.out
            obtain ⟨i1, i2, i3⟩ := ix hk9
            obtain ⟨j1, j2, j3⟩ := ix W8.out
            have f12 := P9.sa.frz _ C.1
            have c12 := P9.sa.at_ _ C.1
            have PE := Lib.hid ((P9.setS _ C.1 false).congr (f' := entF f W (k + 1) false) (fun j _ => by
              have h := entF_step f false HK.out W8.out j
              rw [Bool.and_false] at h
              exact h) (fun j _ => rfl))
            clear P9 hk hk9 C
            go_wp2
            go_roundw
            case rel => exact ⟨k + 1, HK.out, by simp [EK.out], PE.out⟩
            case measure => first | exact step_meas14 EK.out (step_less14 HK.out) | (simp [EK.out]; exact step_less14 HK.out) | exact step_less14 HK.out
          · obtain rfl : k = 9 := Nat.le_antisymm hk (Nat.le_of_not_lt hk9)
            have t9 : decide ((9 : Int) < 9) = false := by decide
            have PE := Lib.hid P9
            clear P9 hk hk9
            go_wp2
            go_roundw
            case rel =>
              refine ⟨i + 1, x2, S9, _, h, HL.out, by simp [EW.out], by rw [HN.out]; exact Nat.le_succ_of_le HX.out, GE.out _ (fun k v hk hv ht => ?_), PE.out⟩
              obtain ⟨h1, h2⟩ := entF_all (N := N) hk (Nat.lt_of_lt_of_le hv N2) ht
              exact ⟨h1, fun e => nomatch h2 e⟩
            case measure => first | exact step_meas14 EW.out (step_less14 HL.out) | (simp [EW.out]; exact step_less14 HL.out) | exact step_less14 HL.out
      · as_aux_lemma =>
        have P2 := PP.out
        clear PP
        have cn : ∀ u (R : K.Rep u S q x), Says Try.prog 22 #[.pointer (some ⟨q, 0, none⟩)] u (.int .i64 (x.now : Int)) := fun u R => K.nows q S x u R
        obtain ⟨M, hM⟩ : ∃ m_, m_ = x.now + 1 := ⟨_, rfl⟩
        have Q : Hid (wrap64 ((x.now : Int) + 1) = (M : Int) ∧ IntKind.i64.wrap ((x.now : Int) + 1) = (M : Int) ∧ ((x.now : Int) == (M : Int)) = false ∧ (x.now == M) = false) := by
          show _ ∧ _ ∧ _ ∧ _
          have h := sm.out.1
          refine ⟨by rw [hM]; exact step_14 h, by rw [hM, IntWalk.i64_in _ (by omega)]; omega, beq_false_of_ne (by omega), beq_false_of_ne (by omega)⟩
        cases hh : x.held with
        | true =>
          have ea : x.advT = x := by unfold Ep.advT; rw [hh]; rfl
          have ca : ∀ u (R : K.Rep u S q x), Told Try.prog K.toObjP 15 #[.pointer (some ⟨q, 0, none⟩)] u S q (.bool false) x := fun u R => by
            have h := K.advs q S x u R sm.out.1
            rw [hh, ea] at h
            exact h
          have cm : ∀ u S' (R : K.Rep u S' q x), Says Try.prog 22 #[.pointer (some ⟨q, 0, none⟩)] u (.int .i64 (x.now : Int)) := fun u S' R => K.nows q S' x u R
          clear hh ea hM
          go_wp2_with fail
          refine (cn _ P2.al.rep).mono ?_; rintro e w8 ⟨rfl, x8⟩
          have P3 := P2.on x8
          clear P2 x8 cn
          go_wp2_with fail
          refine (ca _ P3.al.rep).mono ?_; rintro e w9 ⟨rfl, S9, R9, f9, x9⟩
          have P4 := P3.one R9 f9 x9
          clear P3 R9 f9 x9 ca
          go_wp2_with fail
          refine (cm _ _ P4.al.rep).mono ?_; rintro e w10 ⟨rfl, x10⟩
          have PE := Lib.hid (P4.on x10)
          clear P4 x10 cm
          obtain ⟨q1, q2, q3, q4⟩ := Q.out
          go_wp2
          go_roundw
          case rel => exact ⟨i + 1, x, S9, f, h, HL.out, by simp [EW.out], Nat.le_succ_of_le HX.out, HG.out, PE.out⟩
          case measure => first | exact step_meas14 EW.out (step_less14 HL.out) | (simp [EW.out]; exact step_less14 HL.out) | exact step_less14 HL.out
        | false =>
          have ea : x.advT.now = M := by rw [Ep.now_free hh, hM]
          have ca : ∀ u (R : K.Rep u S q x), Told Try.prog K.toObjP 15 #[.pointer (some ⟨q, 0, none⟩)] u S q (.bool true) x.advT := fun u R => by
            have h := K.advs q S x u R sm.out.1
            rw [hh] at h
            exact h
          have cm : ∀ u S' (R : K.Rep u S' q x.advT), Says Try.prog 22 #[.pointer (some ⟨q, 0, none⟩)] u (.int .i64 (M : Int)) := fun u S' R => by
            have h := K.nows q S' x.advT u R
            rw [ea] at h
            exact h
          have GA := Lib.hid HG.out.adv
          have NA := Lib.hid (now_adv x)
          clear hh ea hM
          obtain ⟨x2, hx2⟩ : ∃ x_, x_ = x.advT := ⟨_, rfl⟩
          rw [← hx2] at ca cm GA NA
          clear hx2
          go_wp2_with fail
          refine (cn _ P2.al.rep).mono ?_; rintro e w8 ⟨rfl, x8⟩
          have P3 := P2.on x8
          clear P2 x8 cn
          go_wp2_with fail
          refine (ca _ P3.al.rep).mono ?_; rintro e w9 ⟨rfl, S9, R9, f9, x9⟩
          have P4 := P3.one R9 f9 x9
          clear P3 R9 f9 x9 ca
          go_wp2_with fail
          refine (cm _ _ P4.al.rep).mono ?_; rintro e w10 ⟨rfl, x10⟩
          have PE := Lib.hid (P4.on x10)
          clear P4 x10 cm
          obtain ⟨q1, q2, q3, q4⟩ := Q.out
          go_wp2
          go_roundw
          case rel => exact ⟨i + 1, x2, S9, f, h, HL.out, by simp [EW.out], Nat.le_trans NA.out (Nat.succ_le_succ HX.out), GA.out, PE.out⟩
          case measure => first | exact step_meas14 EW.out (step_less14 HL.out) | (simp [EW.out]; exact step_less14 HL.out) | exact step_less14 HL.out
      · as_aux_lemma =>
        have P2 := PP.out
        clear PP
        have cn : ∀ u (R : K.Rep u S q x), Says Try.prog 22 #[.pointer (some ⟨q, 0, none⟩)] u (.int .i64 (x.now : Int)) := fun u R => K.nows q S x u R
        obtain ⟨M, hM⟩ : ∃ m_, m_ = x.now + 1 := ⟨_, rfl⟩
        have Q : Hid (wrap64 ((x.now : Int) + 1) = (M : Int) ∧ IntKind.i64.wrap ((x.now : Int) + 1) = (M : Int) ∧ ((x.now : Int) == (M : Int)) = false ∧ (x.now == M) = false) := by
          show _ ∧ _ ∧ _ ∧ _
          have h := sm.out.1
          refine ⟨by rw [hM]; exact step_14 h, by rw [hM, IntWalk.i64_in _ (by omega)]; omega, beq_false_of_ne (by omega), beq_false_of_ne (by omega)⟩
        cases hh : x.held with
        | true =>
          have ea : x.advT = x := by unfold Ep.advT; rw [hh]; rfl
          have ca : ∀ u (R : K.Rep u S q x), Told Try.prog K.toObjP 15 #[.pointer (some ⟨q, 0, none⟩)] u S q (.bool false) x := fun u R => by
            have h := K.advs q S x u R sm.out.1
            rw [hh, ea] at h
            exact h
          have cm : ∀ u S' (R : K.Rep u S' q x), Says Try.prog 22 #[.pointer (some ⟨q, 0, none⟩)] u (.int .i64 (x.now : Int)) := fun u S' R => K.nows q S' x u R
          clear hh ea hM
          go_wp2_with fail
          refine (cn _ P2.al.rep).mono ?_; rintro e w8 ⟨rfl, x8⟩
          have P3 := P2.on x8
          clear P2 x8 cn
          go_wp2_with fail
          refine (ca _ P3.al.rep).mono ?_; rintro e w9 ⟨rfl, S9, R9, f9, x9⟩
          have P4 := P3.one R9 f9 x9
          clear P3 R9 f9 x9 ca
          go_wp2_with fail
          refine (cm _ _ P4.al.rep).mono ?_; rintro e w10 ⟨rfl, x10⟩
          have PE := Lib.hid (P4.on x10)
          clear P4 x10 cm
          obtain ⟨q1, q2, q3, q4⟩ := Q.out
          go_wp2
          go_roundw
          case rel => exact ⟨i + 1, x, S9, f, h, HL.out, by simp [EW.out], Nat.le_succ_of_le HX.out, HG.out, PE.out⟩
          case measure => first | exact step_meas14 EW.out (step_less14 HL.out) | (simp [EW.out]; exact step_less14 HL.out) | exact step_less14 HL.out
        | false =>
          have ea : x.advT.now = M := by rw [Ep.now_free hh, hM]
          have ca : ∀ u (R : K.Rep u S q x), Told Try.prog K.toObjP 15 #[.pointer (some ⟨q, 0, none⟩)] u S q (.bool true) x.advT := fun u R => by
            have h := K.advs q S x u R sm.out.1
            rw [hh] at h
            exact h
          have cm : ∀ u S' (R : K.Rep u S' q x.advT), Says Try.prog 22 #[.pointer (some ⟨q, 0, none⟩)] u (.int .i64 (M : Int)) := fun u S' R => by
            have h := K.nows q S' x.advT u R
            rw [ea] at h
            exact h
          have GA := Lib.hid HG.out.adv
          have NA := Lib.hid (now_adv x)
          clear hh ea hM
          obtain ⟨x2, hx2⟩ : ∃ x_, x_ = x.advT := ⟨_, rfl⟩
          rw [← hx2] at ca cm GA NA
          clear hx2
          go_wp2_with fail
          refine (cn _ P2.al.rep).mono ?_; rintro e w8 ⟨rfl, x8⟩
          have P3 := P2.on x8
          clear P2 x8 cn
          go_wp2_with fail
          refine (ca _ P3.al.rep).mono ?_; rintro e w9 ⟨rfl, S9, R9, f9, x9⟩
          have P4 := P3.one R9 f9 x9
          clear P3 R9 f9 x9 ca
          go_wp2_with fail
          refine (cm _ _ P4.al.rep).mono ?_; rintro e w10 ⟨rfl, x10⟩
          have PE := Lib.hid (P4.on x10)
          clear P4 x10 cm
          obtain ⟨q1, q2, q3, q4⟩ := Q.out
          go_wp2
          go_roundw
          case rel => exact ⟨i + 1, x2, S9, f, h, HL.out, by simp [EW.out], Nat.le_trans NA.out (Nat.succ_le_succ HX.out), GA.out, PE.out⟩
          case measure => first | exact step_meas14 EW.out (step_less14 HL.out) | (simp [EW.out]; exact step_less14 HL.out) | exact step_less14 HL.out
      · as_aux_lemma =>
        have P2 := PP.out
        clear PP
        have N0 : decide ((0 : Int) < (N : Int)) = true := by simp; omega
        cases hq : h Z with
        | true =>
          obtain ⟨d1, d2⟩ := HG.out.defer_no HZ.out hq
          have ce : ∀ u (R : K.Rep u S q x), Told Try.prog K.toObjP 20 #[.pointer (some ⟨q, 0, none⟩), .int .i64 (Z : Int)] u S q (.int .i64 7) x := fun u R => by
            have h := K.defers q S x (Z : Int) u R sm.out.1
            rw [d1, d2] at h
            exact h
          clear d1 d2
          have cg := P2.wa.at_ _ HZ.out
          rw [hq] at cg
          have cgl := P2.wa.lt
          obtain ⟨z1, z2, z3⟩ := ix9 HZ.out
          go_upto_region 12 with fail
          refine wp_region_noPanic ?_
          refine wp_region_held_drew (S := (fun w' => w'.cell? ⟨gw, Z, none⟩ = some (.bool true))) (by kernel_rfl) ?_ (fun hHeld => ?_)
          · exact cg
          have P3 := P2.on (Below.refl w5.heap.size w5).drew
          obtain ⟨w6, hw6⟩ : ∃ x_ : World, x_ = w5.drew := ⟨_, rfl⟩
          rw [← hw6] at P3 hHeld ⊢
          clear hw6 cg cgl P2
          refine wpAnyH_take (i := 0) (oi := _) (v := ?_) rfl (by kernel_rfl) (by kernel_rfl) (by kernel_rfl) (fun _ _ _ h => h) (Or.inl ⟨by kernel_rfl, ?_⟩) (by assumption) ?_
          rotate_left
          · intro w hSw
            clear hSw
            go_simp
            with_reducible rfl
          try simp only [List.getElem_toArray, List.getElem_cons_succ, List.getElem_cons_zero, Act.put, List.setIfInBounds_toArray, List.set_cons_zero, List.set_cons_succ]
          refine wpAnyH_take (i := 1) (oi := _) (v := ?_) rfl (by kernel_rfl) (by kernel_rfl) (by kernel_rfl) (fun _ _ _ h => h) (Or.inl ⟨by kernel_rfl, ?_⟩) (by assumption) ?_
          rotate_left
          · intro w hSw
            clear hSw
            go_simp
            with_reducible rfl
          try simp only [List.getElem_toArray, List.getElem_cons_succ, List.getElem_cons_zero, Act.put, List.setIfInBounds_toArray, List.set_cons_zero, List.set_cons_succ]
          refine wpAnyH_take (i := 4) (oi := _) (v := ?_) rfl (by kernel_rfl) (by kernel_rfl) (by kernel_rfl) (fun _ _ _ h => h) (Or.inl ⟨by kernel_rfl, ?_⟩) (by assumption) ?_
          rotate_left
          · intro w hSw
            clear hSw
            go_simp
            with_reducible rfl
          try simp only [List.getElem_toArray, List.getElem_cons_succ, List.getElem_cons_zero, Act.put, List.setIfInBounds_toArray, List.set_cons_zero, List.set_cons_succ]
          refine wpAnyH_take (i := 5) (oi := _) (v := ?_) rfl (by kernel_rfl) (by kernel_rfl) (by kernel_rfl) (fun _ _ _ h => h) (Or.inl ⟨by kernel_rfl, ?_⟩) (by assumption) ?_
          rotate_left
          · intro w hSw
            clear hSw
            go_simp
            with_reducible rfl
          try simp only [List.getElem_toArray, List.getElem_cons_succ, List.getElem_cons_zero, Act.put, List.setIfInBounds_toArray, List.set_cons_zero, List.set_cons_succ]
          refine wpAnyH_take (i := 6) (oi := _) (v := ?_) rfl (by kernel_rfl) (by kernel_rfl) (by kernel_rfl) (fun _ _ _ h => h) (Or.inl ⟨by kernel_rfl, ?_⟩) (by assumption) ?_
          rotate_left
          · intro w hSw
            (try dsimp only at hSw)
            go_simp
            with_reducible rfl
          try simp only [List.getElem_toArray, List.getElem_cons_succ, List.getElem_cons_zero, Act.put, List.setIfInBounds_toArray, List.set_cons_zero, List.set_cons_succ]
          refine wpAnyH_ready (rs := [2]) (by kernel_rfl) (by simp) ?_
          refine AllReadyH.cons (o := _) rfl (fun K_ hK => ?_) AllReadyH.nil
          go_simp
          refine (ce _ P3.al.rep).mono ?_; rintro e w8 ⟨rfl, S9, R9, f9, x9⟩
          have P8 := P3.one R9 f9 x9
          have hc8 : w8.cell? ⟨gw, Z, none⟩ = some (.bool true) := by have h1 := P8.wa.at_ _ HZ.out; rw [hq] at h1; exact h1
          show K_ _ _
          refine hK.out _ _ hc8 (fun hH1 => ?_)
          clear hK K_ hHeld P3 R9 f9 x9 ce hc8
          have hHeld := hH1
          clear hH1
          try simp only [List.getElem_toArray, List.getElem_cons_succ, List.getElem_cons_zero, Act.put, List.setIfInBounds_toArray, List.set_cons_zero, List.set_cons_succ]
          refine wpAnyH_take (i := 3) (oi := _) (v := ?_) rfl (by kernel_rfl) (by kernel_rfl) (by kernel_rfl) (fun _ _ _ h => h) (Or.inl ⟨by kernel_rfl, ?_⟩) (by assumption) ?_
          rotate_left
          · intro w hSw
            clear hSw
            go_simp
            with_reducible rfl
          try simp only [List.getElem_toArray, List.getElem_cons_succ, List.getElem_cons_zero, Act.put, List.setIfInBounds_toArray, List.set_cons_zero, List.set_cons_succ]
          refine wpAnyH_take (i := 7) (oi := _) (v := ?_) rfl (by kernel_rfl) (by kernel_rfl) (by kernel_rfl) (fun _ _ _ h => h) (Or.inl ⟨by kernel_rfl, ?_⟩) (by assumption) ?_
          rotate_left
          · intro w hSw
            clear hSw
            go_simp
            with_reducible rfl
          try simp only [List.getElem_toArray, List.getElem_cons_succ, List.getElem_cons_zero, Act.put, List.setIfInBounds_toArray, List.set_cons_zero, List.set_cons_succ]
          refine wpAnyH_done (by kernel_rfl) (NoPanic.normal ?_) _
          clear hHeld
          go_upto_region 15 with fail
          go_loopw [20] (fun si wr => si = .int .i64 0 ∧ GrS K w wr S9 q x gs gw f h) (fun _ _ => 0)
          case atStart => exact ⟨rfl, P8⟩
          case round =>
            obtain ⟨rfl, P9⟩ := hrel
            clear P8
            have c9 := P9.wa.at_ _ HZ.out
            rw [hq] at c9
            have f9 := P9.wa.frz _ HZ.out
            have PE := Lib.hid ((P9.setW _ HZ.out true).congr (fun j _ => rfl) (h' := h) (fun j _ => by
              by_cases e : j = Z
              · rw [if_pos e, e, hq]
              · rw [if_neg e]))
            clear P9
            go_wp2
            go_roundw
            case rel => exact ⟨i + 1, x, S9, f, h, HL.out, by simp [EW.out], Nat.le_succ_of_le HX.out, HG.out, PE.out⟩
            case measure => first | exact step_meas14 EW.out (step_less14 HL.out) | (simp [EW.out]; exact step_less14 HL.out) | exact step_less14 HL.out
        | false =>
          have OKX := Lib.hid (K.ok P2.al.rep)
          obtain ⟨d1, d2⟩ := HG.out.defer_ok HZ.out hq
          have ce : ∀ u (R : K.Rep u S q x), Told Try.prog K.toObjP 20 #[.pointer (some ⟨q, 0, none⟩), .int .i64 (Z : Int)] u S q (.int .i64 0) (x.defT (Z : Int)) := fun u R => by
            have h := K.defers q S x (Z : Int) u R sm.out.1
            rw [d1] at h
            exact h
          have hnow : (x.defT (Z : Int)).now = x.now := now_def _ _
          have sm2 : (x.defT (Z : Int)).now < 4611686018427387904 := by rw [hnow]; exact sm.out.1
          have HN := Lib.hid hnow
          obtain ⟨g, hgd⟩ : ∃ g_ : Nat → Bool, g_ = fun v => decide (0 ≤ x.said.getD v (-1)) := ⟨_, rfl⟩
          have cin : ∀ u S' v, v < N → K.Rep u S' q (x.defT (Z : Int)) → Says Try.prog 24 #[.pointer (some ⟨q, 0, none⟩), .int .i64 (v : Int)] u (.bool (g v)) := fun u S' v hv R => by
            have h := K.ins q S' _ (v : Int) u R sm2
            unfold Ep.inV at h
            rw [Ep.seen_nat (by rw [Ep.len_def, HG.out.len]; exact hv), d2] at h
            rw [hgd]
            exact h
          have GE : Hid (∀ f' h', (∀ k v, k < 9 → v < N → f' (k * 8 + v) = if k = Z then g v else f (k * 8 + v)) → (∀ k, k < 9 → h' k = if k = Z then true else h k) → Gr (x.defT (Z : Int)) N f' h') := fun f' h' h1 h2 => by
            rw [d2]
            exact HG.out.defer OKX.out HZ.out hq (fun k v hk hv => by rw [h1 k v hk hv, hgd]) h2
          clear d1 d2 hnow sm2 hgd
          obtain ⟨x2, hx2⟩ : ∃ x_, x_ = x.defT (Z : Int) := ⟨_, rfl⟩
          rw [← hx2] at ce cin HN GE
          clear hx2
          have cg := P2.wa.at_ _ HZ.out
          rw [hq] at cg
          have cgl := P2.wa.lt
          obtain ⟨z1, z2, z3⟩ := ix9 HZ.out
          go_upto_region 12 with fail
          refine wp_region_noPanic ?_
          refine wp_region_held_drew (S := (fun w' => w'.cell? ⟨gw, Z, none⟩ = some (.bool false))) (by kernel_rfl) ?_ (fun hHeld => ?_)
          · exact cg
          have P3 := P2.on (Below.refl w5.heap.size w5).drew
          obtain ⟨w6, hw6⟩ : ∃ x_ : World, x_ = w5.drew := ⟨_, rfl⟩
          rw [← hw6] at P3 hHeld ⊢
          clear hw6 cg cgl P2
          refine wpAnyH_take (i := 0) (oi := _) (v := ?_) rfl (by kernel_rfl) (by kernel_rfl) (by kernel_rfl) (fun _ _ _ h => h) (Or.inl ⟨by kernel_rfl, ?_⟩) (by assumption) ?_
          rotate_left
          · intro w hSw
            clear hSw
            go_simp
            with_reducible rfl
          try simp only [List.getElem_toArray, List.getElem_cons_succ, List.getElem_cons_zero, Act.put, List.setIfInBounds_toArray, List.set_cons_zero, List.set_cons_succ]
          refine wpAnyH_take (i := 1) (oi := _) (v := ?_) rfl (by kernel_rfl) (by kernel_rfl) (by kernel_rfl) (fun _ _ _ h => h) (Or.inl ⟨by kernel_rfl, ?_⟩) (by assumption) ?_
          rotate_left
          · intro w hSw
            clear hSw
            go_simp
            with_reducible rfl
          try simp only [List.getElem_toArray, List.getElem_cons_succ, List.getElem_cons_zero, Act.put, List.setIfInBounds_toArray, List.set_cons_zero, List.set_cons_succ]
          refine wpAnyH_take (i := 4) (oi := _) (v := ?_) rfl (by kernel_rfl) (by kernel_rfl) (by kernel_rfl) (fun _ _ _ h => h) (Or.inl ⟨by kernel_rfl, ?_⟩) (by assumption) ?_
          rotate_left
          · intro w hSw
            clear hSw
            go_simp
            with_reducible rfl
          try simp only [List.getElem_toArray, List.getElem_cons_succ, List.getElem_cons_zero, Act.put, List.setIfInBounds_toArray, List.set_cons_zero, List.set_cons_succ]
          refine wpAnyH_take (i := 5) (oi := _) (v := ?_) rfl (by kernel_rfl) (by kernel_rfl) (by kernel_rfl) (fun _ _ _ h => h) (Or.inl ⟨by kernel_rfl, ?_⟩) (by assumption) ?_
          rotate_left
          · intro w hSw
            clear hSw
            go_simp
            with_reducible rfl
          try simp only [List.getElem_toArray, List.getElem_cons_succ, List.getElem_cons_zero, Act.put, List.setIfInBounds_toArray, List.set_cons_zero, List.set_cons_succ]
          refine wpAnyH_take (i := 6) (oi := _) (v := ?_) rfl (by kernel_rfl) (by kernel_rfl) (by kernel_rfl) (fun _ _ _ h => h) (Or.inl ⟨by kernel_rfl, ?_⟩) (by assumption) ?_
          rotate_left
          · intro w hSw
            (try dsimp only at hSw)
            go_simp
            with_reducible rfl
          try simp only [List.getElem_toArray, List.getElem_cons_succ, List.getElem_cons_zero, Act.put, List.setIfInBounds_toArray, List.set_cons_zero, List.set_cons_succ]
          refine wpAnyH_ready (rs := [2]) (by kernel_rfl) (by simp) ?_
          refine AllReadyH.cons (o := _) rfl (fun K_ hK => ?_) AllReadyH.nil
          go_simp
          refine (ce _ P3.al.rep).mono ?_; rintro e w8 ⟨rfl, S9, R9, f9, x9⟩
          have P8 := P3.one R9 f9 x9
          have hc8 : w8.cell? ⟨gw, Z, none⟩ = some (.bool false) := by have h1 := P8.wa.at_ _ HZ.out; rw [hq] at h1; exact h1
          show K_ _ _
          refine hK.out _ _ hc8 (fun hH1 => ?_)
          clear hK K_ hHeld P3 R9 f9 x9 ce hc8
          have hHeld := hH1
          clear hH1
          try simp only [List.getElem_toArray, List.getElem_cons_succ, List.getElem_cons_zero, Act.put, List.setIfInBounds_toArray, List.set_cons_zero, List.set_cons_succ]
          refine wpAnyH_take (i := 3) (oi := _) (v := ?_) rfl (by kernel_rfl) (by kernel_rfl) (by kernel_rfl) (fun _ _ _ h => h) (Or.inl ⟨by kernel_rfl, ?_⟩) (by assumption) ?_
          rotate_left
          · intro w hSw
            clear hSw
            go_simp
            with_reducible rfl
          try simp only [List.getElem_toArray, List.getElem_cons_succ, List.getElem_cons_zero, Act.put, List.setIfInBounds_toArray, List.set_cons_zero, List.set_cons_succ]
          refine wpAnyH_take (i := 7) (oi := _) (v := ?_) rfl (by kernel_rfl) (by kernel_rfl) (by kernel_rfl) (fun _ _ _ h => h) (Or.inl ⟨by kernel_rfl, ?_⟩) (by assumption) ?_
          rotate_left
          · intro w hSw
            clear hSw
            go_simp
            with_reducible rfl
          try simp only [List.getElem_toArray, List.getElem_cons_succ, List.getElem_cons_zero, Act.put, List.setIfInBounds_toArray, List.set_cons_zero, List.set_cons_succ]
          refine wpAnyH_done (by kernel_rfl) (NoPanic.normal ?_) _
          clear hHeld
          go_upto_region 15 with fail
          go_loopw [20] (fun si wr => ∃ v : Nat, v ≤ N ∧ si = .int .i64 (v : Int) ∧ GrS K w wr S9 q x2 gs gw (defF f g Z v) h) (fun si _ => N - (intOf si).toNat)
          case atStart => exact ⟨0, Nat.zero_le _, rfl, P8.congr (fun j _ => defF_zero f g Z j) (fun j _ => rfl)⟩
          case round =>
            obtain ⟨k, hk, rfl, P9⟩ := hrel
            clear P8
            have EK := Lib.hid (step_14 (j := k) (Nat.lt_of_le_of_lt (Nat.le_trans hk N64) (by decide)))
            by_cases hkN : k < N
            · have HK := Lib.hid hkN
              have C := Lib.hid (cell_lt HZ.out (Nat.lt_of_lt_of_le hkN N2))
              have tk := (ix hkN).2.2
              obtain ⟨i1, i2, i3⟩ := ix (Nat.lt_of_lt_of_le hkN N2)
              have c9 := P9.wa.at_ _ HZ.out
              rw [hq] at c9
              have ST := Lib.hid (defF_step f g HZ.out (Nat.lt_of_lt_of_le hkN N2))
              go_upto_region 17 with fail
              have cq := fun u : Later wr.heap.size wr => cin u.u S9 k HK.out (P9.on u.h).al.rep
              have P8 := P9
              clear P9 hk hkN c9
              refine region_lead (B := wr.heap.size) 7 1 (by kernel_rfl) (by kernel_rfl) (by kernel_rfl) (by kernel_rfl) ?_
              simp only [List.take_succ_cons, List.take_zero]
              repeat (go_big_quiet_step (first | (go_at_call 24; exact later_of _ (Nat.le_refl _) (cq _))))
              refine lead_end (by kernel_rfl) (by kernel_rfl) rfl fun w12 x12 K_ hK => ?_
              clear cq
              have P12 := P8.on x12
              have f12 := P12.sa.frz _ C.out.1
              have c12 := P12.sa.at_ _ C.out.1
              have PE := Lib.hid ((P12.setS _ C.out.1 (g k)).congr (fun j _ => ST.out j) (fun j _ => rfl))
              clear P8 x12 P12
              go_simp
              refine hK.out _ _ ?_
              clear hK K_ c12 f12
              go_wp2
              go_roundw
              case rel => exact ⟨k + 1, HK.out, by simp [EK.out], PE.out⟩
              case measure => first | exact step_meas14 EK.out (step_less14 HK.out) | (simp [EK.out]; exact step_less14 HK.out) | exact step_less14 HK.out
            · obtain rfl : k = N := Nat.le_antisymm hk (Nat.le_of_not_lt hkN)
              have tk : decide ((k : Int) < (k : Int)) = false := by simp
              have f9 := P9.wa.frz _ HZ.out
              have c9 := P9.wa.at_ _ HZ.out
              have PE := Lib.hid (P9.setW _ HZ.out true)
              clear P9 hk hkN cin
              go_wp2
              go_roundw
              case rel => exact ⟨i + 1, x2, S9, _, _, HL.out, by simp [EW.out], by rw [HN.out]; exact Nat.le_succ_of_le HX.out, GE.out _ _ (fun a b ha hb => defF_all ha hb N2) (fun a ha => rfl), PE.out⟩
              case measure => first | exact step_meas14 EW.out (step_less14 HL.out) | (simp [EW.out]; exact step_less14 HL.out) | exact step_less14 HL.out
      · as_aux_lemma =>
        have P2 := PP.out
        clear PP
        have N0 : decide ((0 : Int) < (N : Int)) = true := by simp; omega
        cases hq : h Z with
        | true =>
          obtain ⟨d1, d2⟩ := HG.out.defer_no HZ.out hq
          have ce : ∀ u (R : K.Rep u S q x), Told Try.prog K.toObjP 20 #[.pointer (some ⟨q, 0, none⟩), .int .i64 (Z : Int)] u S q (.int .i64 7) x := fun u R => by
            have h := K.defers q S x (Z : Int) u R sm.out.1
            rw [d1, d2] at h
            exact h
          clear d1 d2
          have cg := P2.wa.at_ _ HZ.out
          rw [hq] at cg
          have cgl := P2.wa.lt
          obtain ⟨z1, z2, z3⟩ := ix9 HZ.out
          go_upto_region 12 with fail
          refine wp_region_noPanic ?_
          refine wp_region_held_drew (S := (fun w' => w'.cell? ⟨gw, Z, none⟩ = some (.bool true))) (by kernel_rfl) ?_ (fun hHeld => ?_)
          · exact cg
          have P3 := P2.on (Below.refl w5.heap.size w5).drew
          obtain ⟨w6, hw6⟩ : ∃ x_ : World, x_ = w5.drew := ⟨_, rfl⟩
          rw [← hw6] at P3 hHeld ⊢
          clear hw6 cg cgl P2
          refine wpAnyH_take (i := 0) (oi := _) (v := ?_) rfl (by kernel_rfl) (by kernel_rfl) (by kernel_rfl) (fun _ _ _ h => h) (Or.inl ⟨by kernel_rfl, ?_⟩) (by assumption) ?_
          rotate_left
          · intro w hSw
            clear hSw
            go_simp
            with_reducible rfl
          try simp only [List.getElem_toArray, List.getElem_cons_succ, List.getElem_cons_zero, Act.put, List.setIfInBounds_toArray, List.set_cons_zero, List.set_cons_succ]
          refine wpAnyH_take (i := 1) (oi := _) (v := ?_) rfl (by kernel_rfl) (by kernel_rfl) (by kernel_rfl) (fun _ _ _ h => h) (Or.inl ⟨by kernel_rfl, ?_⟩) (by assumption) ?_
          rotate_left
          · intro w hSw
            clear hSw
            go_simp
            with_reducible rfl
          try simp only [List.getElem_toArray, List.getElem_cons_succ, List.getElem_cons_zero, Act.put, List.setIfInBounds_toArray, List.set_cons_zero, List.set_cons_succ]
          refine wpAnyH_take (i := 4) (oi := _) (v := ?_) rfl (by kernel_rfl) (by kernel_rfl) (by kernel_rfl) (fun _ _ _ h => h) (Or.inl ⟨by kernel_rfl, ?_⟩) (by assumption) ?_
          rotate_left
          · intro w hSw
            clear hSw
            go_simp
            with_reducible rfl
          try simp only [List.getElem_toArray, List.getElem_cons_succ, List.getElem_cons_zero, Act.put, List.setIfInBounds_toArray, List.set_cons_zero, List.set_cons_succ]
          refine wpAnyH_take (i := 5) (oi := _) (v := ?_) rfl (by kernel_rfl) (by kernel_rfl) (by kernel_rfl) (fun _ _ _ h => h) (Or.inl ⟨by kernel_rfl, ?_⟩) (by assumption) ?_
          rotate_left
          · intro w hSw
            clear hSw
            go_simp
            with_reducible rfl
          try simp only [List.getElem_toArray, List.getElem_cons_succ, List.getElem_cons_zero, Act.put, List.setIfInBounds_toArray, List.set_cons_zero, List.set_cons_succ]
          refine wpAnyH_take (i := 6) (oi := _) (v := ?_) rfl (by kernel_rfl) (by kernel_rfl) (by kernel_rfl) (fun _ _ _ h => h) (Or.inl ⟨by kernel_rfl, ?_⟩) (by assumption) ?_
          rotate_left
          · intro w hSw
            (try dsimp only at hSw)
            go_simp
            with_reducible rfl
          try simp only [List.getElem_toArray, List.getElem_cons_succ, List.getElem_cons_zero, Act.put, List.setIfInBounds_toArray, List.set_cons_zero, List.set_cons_succ]
          refine wpAnyH_ready (rs := [2]) (by kernel_rfl) (by simp) ?_
          refine AllReadyH.cons (o := _) rfl (fun K_ hK => ?_) AllReadyH.nil
          go_simp
          refine (ce _ P3.al.rep).mono ?_; rintro e w8 ⟨rfl, S9, R9, f9, x9⟩
          have P8 := P3.one R9 f9 x9
          have hc8 : w8.cell? ⟨gw, Z, none⟩ = some (.bool true) := by have h1 := P8.wa.at_ _ HZ.out; rw [hq] at h1; exact h1
          show K_ _ _
          refine hK.out _ _ hc8 (fun hH1 => ?_)
          clear hK K_ hHeld P3 R9 f9 x9 ce hc8
          have hHeld := hH1
          clear hH1
          try simp only [List.getElem_toArray, List.getElem_cons_succ, List.getElem_cons_zero, Act.put, List.setIfInBounds_toArray, List.set_cons_zero, List.set_cons_succ]
          refine wpAnyH_take (i := 3) (oi := _) (v := ?_) rfl (by kernel_rfl) (by kernel_rfl) (by kernel_rfl) (fun _ _ _ h => h) (Or.inl ⟨by kernel_rfl, ?_⟩) (by assumption) ?_
          rotate_left
          · intro w hSw
            clear hSw
            go_simp
            with_reducible rfl
          try simp only [List.getElem_toArray, List.getElem_cons_succ, List.getElem_cons_zero, Act.put, List.setIfInBounds_toArray, List.set_cons_zero, List.set_cons_succ]
          refine wpAnyH_take (i := 7) (oi := _) (v := ?_) rfl (by kernel_rfl) (by kernel_rfl) (by kernel_rfl) (fun _ _ _ h => h) (Or.inl ⟨by kernel_rfl, ?_⟩) (by assumption) ?_
          rotate_left
          · intro w hSw
            clear hSw
            go_simp
            with_reducible rfl
          try simp only [List.getElem_toArray, List.getElem_cons_succ, List.getElem_cons_zero, Act.put, List.setIfInBounds_toArray, List.set_cons_zero, List.set_cons_succ]
          refine wpAnyH_done (by kernel_rfl) (NoPanic.normal ?_) _
          clear hHeld
          go_upto_region 15 with fail
          go_loopw [20] (fun si wr => si = .int .i64 0 ∧ GrS K w wr S9 q x gs gw f h) (fun _ _ => 0)
          case atStart => exact ⟨rfl, P8⟩
          case round =>
            obtain ⟨rfl, P9⟩ := hrel
            clear P8
            have c9 := P9.wa.at_ _ HZ.out
            rw [hq] at c9
            have f9 := P9.wa.frz _ HZ.out
            have PE := Lib.hid ((P9.setW _ HZ.out true).congr (fun j _ => rfl) (h' := h) (fun j _ => by
              by_cases e : j = Z
              · rw [if_pos e, e, hq]
              · rw [if_neg e]))
            clear P9
            go_wp2
            go_roundw
            case rel => exact ⟨i + 1, x, S9, f, h, HL.out, by simp [EW.out], Nat.le_succ_of_le HX.out, HG.out, PE.out⟩
            case measure => first | exact step_meas14 EW.out (step_less14 HL.out) | (simp [EW.out]; exact step_less14 HL.out) | exact step_less14 HL.out
        | false =>
          have OKX := Lib.hid (K.ok P2.al.rep)
          obtain ⟨d1, d2⟩ := HG.out.defer_ok HZ.out hq
          have ce : ∀ u (R : K.Rep u S q x), Told Try.prog K.toObjP 20 #[.pointer (some ⟨q, 0, none⟩), .int .i64 (Z : Int)] u S q (.int .i64 0) (x.defT (Z : Int)) := fun u R => by
            have h := K.defers q S x (Z : Int) u R sm.out.1
            rw [d1] at h
            exact h
          have hnow : (x.defT (Z : Int)).now = x.now := now_def _ _
          have sm2 : (x.defT (Z : Int)).now < 4611686018427387904 := by rw [hnow]; exact sm.out.1
          have HN := Lib.hid hnow
          obtain ⟨g, hgd⟩ : ∃ g_ : Nat → Bool, g_ = fun v => decide (0 ≤ x.said.getD v (-1)) := ⟨_, rfl⟩
          have cin : ∀ u S' v, v < N → K.Rep u S' q (x.defT (Z : Int)) → Says Try.prog 24 #[.pointer (some ⟨q, 0, none⟩), .int .i64 (v : Int)] u (.bool (g v)) := fun u S' v hv R => by
            have h := K.ins q S' _ (v : Int) u R sm2
            unfold Ep.inV at h
            rw [Ep.seen_nat (by rw [Ep.len_def, HG.out.len]; exact hv), d2] at h
            rw [hgd]
            exact h
          have GE : Hid (∀ f' h', (∀ k v, k < 9 → v < N → f' (k * 8 + v) = if k = Z then g v else f (k * 8 + v)) → (∀ k, k < 9 → h' k = if k = Z then true else h k) → Gr (x.defT (Z : Int)) N f' h') := fun f' h' h1 h2 => by
            rw [d2]
            exact HG.out.defer OKX.out HZ.out hq (fun k v hk hv => by rw [h1 k v hk hv, hgd]) h2
          clear d1 d2 hnow sm2 hgd
          obtain ⟨x2, hx2⟩ : ∃ x_, x_ = x.defT (Z : Int) := ⟨_, rfl⟩
          rw [← hx2] at ce cin HN GE
          clear hx2
          have cg := P2.wa.at_ _ HZ.out
          rw [hq] at cg
          have cgl := P2.wa.lt
          obtain ⟨z1, z2, z3⟩ := ix9 HZ.out
          go_upto_region 12 with fail
          refine wp_region_noPanic ?_
          refine wp_region_held_drew (S := (fun w' => w'.cell? ⟨gw, Z, none⟩ = some (.bool false))) (by kernel_rfl) ?_ (fun hHeld => ?_)
          · exact cg
          have P3 := P2.on (Below.refl w5.heap.size w5).drew
          obtain ⟨w6, hw6⟩ : ∃ x_ : World, x_ = w5.drew := ⟨_, rfl⟩
          rw [← hw6] at P3 hHeld ⊢
          clear hw6 cg cgl P2
          refine wpAnyH_take (i := 0) (oi := _) (v := ?_) rfl (by kernel_rfl) (by kernel_rfl) (by kernel_rfl) (fun _ _ _ h => h) (Or.inl ⟨by kernel_rfl, ?_⟩) (by assumption) ?_
          rotate_left
          · intro w hSw
            clear hSw
            go_simp
            with_reducible rfl
          try simp only [List.getElem_toArray, List.getElem_cons_succ, List.getElem_cons_zero, Act.put, List.setIfInBounds_toArray, List.set_cons_zero, List.set_cons_succ]
          refine wpAnyH_take (i := 1) (oi := _) (v := ?_) rfl (by kernel_rfl) (by kernel_rfl) (by kernel_rfl) (fun _ _ _ h => h) (Or.inl ⟨by kernel_rfl, ?_⟩) (by assumption) ?_
          rotate_left
          · intro w hSw
            clear hSw
            go_simp
            with_reducible rfl
          try simp only [List.getElem_toArray, List.getElem_cons_succ, List.getElem_cons_zero, Act.put, List.setIfInBounds_toArray, List.set_cons_zero, List.set_cons_succ]
          refine wpAnyH_take (i := 4) (oi := _) (v := ?_) rfl (by kernel_rfl) (by kernel_rfl) (by kernel_rfl) (fun _ _ _ h => h) (Or.inl ⟨by kernel_rfl, ?_⟩) (by assumption) ?_
          rotate_left
          · intro w hSw
            clear hSw
            go_simp
            with_reducible rfl
          try simp only [List.getElem_toArray, List.getElem_cons_succ, List.getElem_cons_zero, Act.put, List.setIfInBounds_toArray, List.set_cons_zero, List.set_cons_succ]
          refine wpAnyH_take (i := 5) (oi := _) (v := ?_) rfl (by kernel_rfl) (by kernel_rfl) (by kernel_rfl) (fun _ _ _ h => h) (Or.inl ⟨by kernel_rfl, ?_⟩) (by assumption) ?_
          rotate_left
          · intro w hSw
            clear hSw
            go_simp
            with_reducible rfl
          try simp only [List.getElem_toArray, List.getElem_cons_succ, List.getElem_cons_zero, Act.put, List.setIfInBounds_toArray, List.set_cons_zero, List.set_cons_succ]
          refine wpAnyH_take (i := 6) (oi := _) (v := ?_) rfl (by kernel_rfl) (by kernel_rfl) (by kernel_rfl) (fun _ _ _ h => h) (Or.inl ⟨by kernel_rfl, ?_⟩) (by assumption) ?_
          rotate_left
          · intro w hSw
            (try dsimp only at hSw)
            go_simp
            with_reducible rfl
          try simp only [List.getElem_toArray, List.getElem_cons_succ, List.getElem_cons_zero, Act.put, List.setIfInBounds_toArray, List.set_cons_zero, List.set_cons_succ]
          refine wpAnyH_ready (rs := [2]) (by kernel_rfl) (by simp) ?_
          refine AllReadyH.cons (o := _) rfl (fun K_ hK => ?_) AllReadyH.nil
          go_simp
          refine (ce _ P3.al.rep).mono ?_; rintro e w8 ⟨rfl, S9, R9, f9, x9⟩
          have P8 := P3.one R9 f9 x9
          have hc8 : w8.cell? ⟨gw, Z, none⟩ = some (.bool false) := by have h1 := P8.wa.at_ _ HZ.out; rw [hq] at h1; exact h1
          show K_ _ _
          refine hK.out _ _ hc8 (fun hH1 => ?_)
          clear hK K_ hHeld P3 R9 f9 x9 ce hc8
          have hHeld := hH1
          clear hH1
          try simp only [List.getElem_toArray, List.getElem_cons_succ, List.getElem_cons_zero, Act.put, List.setIfInBounds_toArray, List.set_cons_zero, List.set_cons_succ]
          refine wpAnyH_take (i := 3) (oi := _) (v := ?_) rfl (by kernel_rfl) (by kernel_rfl) (by kernel_rfl) (fun _ _ _ h => h) (Or.inl ⟨by kernel_rfl, ?_⟩) (by assumption) ?_
          rotate_left
          · intro w hSw
            clear hSw
            go_simp
            with_reducible rfl
          try simp only [List.getElem_toArray, List.getElem_cons_succ, List.getElem_cons_zero, Act.put, List.setIfInBounds_toArray, List.set_cons_zero, List.set_cons_succ]
          refine wpAnyH_take (i := 7) (oi := _) (v := ?_) rfl (by kernel_rfl) (by kernel_rfl) (by kernel_rfl) (fun _ _ _ h => h) (Or.inl ⟨by kernel_rfl, ?_⟩) (by assumption) ?_
          rotate_left
          · intro w hSw
            clear hSw
            go_simp
            with_reducible rfl
          try simp only [List.getElem_toArray, List.getElem_cons_succ, List.getElem_cons_zero, Act.put, List.setIfInBounds_toArray, List.set_cons_zero, List.set_cons_succ]
          refine wpAnyH_done (by kernel_rfl) (NoPanic.normal ?_) _
          clear hHeld
          go_upto_region 15 with fail
          go_loopw [20] (fun si wr => ∃ v : Nat, v ≤ N ∧ si = .int .i64 (v : Int) ∧ GrS K w wr S9 q x2 gs gw (defF f g Z v) h) (fun si _ => N - (intOf si).toNat)
          case atStart => exact ⟨0, Nat.zero_le _, rfl, P8.congr (fun j _ => defF_zero f g Z j) (fun j _ => rfl)⟩
          case round =>
            obtain ⟨k, hk, rfl, P9⟩ := hrel
            clear P8
            have EK := Lib.hid (step_14 (j := k) (Nat.lt_of_le_of_lt (Nat.le_trans hk N64) (by decide)))
            by_cases hkN : k < N
            · have HK := Lib.hid hkN
              have C := Lib.hid (cell_lt HZ.out (Nat.lt_of_lt_of_le hkN N2))
              have tk := (ix hkN).2.2
              obtain ⟨i1, i2, i3⟩ := ix (Nat.lt_of_lt_of_le hkN N2)
              have c9 := P9.wa.at_ _ HZ.out
              rw [hq] at c9
              have ST := Lib.hid (defF_step f g HZ.out (Nat.lt_of_lt_of_le hkN N2))
              go_upto_region 17 with fail
              have cq := fun u : Later wr.heap.size wr => cin u.u S9 k HK.out (P9.on u.h).al.rep
              have P8 := P9
              clear P9 hk hkN c9
              refine region_lead (B := wr.heap.size) 7 1 (by kernel_rfl) (by kernel_rfl) (by kernel_rfl) (by kernel_rfl) ?_
              simp only [List.take_succ_cons, List.take_zero]
              repeat (go_big_quiet_step (first | (go_at_call 24; exact later_of _ (Nat.le_refl _) (cq _))))
              refine lead_end (by kernel_rfl) (by kernel_rfl) rfl fun w12 x12 K_ hK => ?_
              clear cq
              have P12 := P8.on x12
              have f12 := P12.sa.frz _ C.out.1
              have c12 := P12.sa.at_ _ C.out.1
              have PE := Lib.hid ((P12.setS _ C.out.1 (g k)).congr (fun j _ => ST.out j) (fun j _ => rfl))
              clear P8 x12 P12
              go_simp
              refine hK.out _ _ ?_
              clear hK K_ c12 f12
              go_wp2
              go_roundw
              case rel => exact ⟨k + 1, HK.out, by simp [EK.out], PE.out⟩
              case measure => first | exact step_meas14 EK.out (step_less14 HK.out) | (simp [EK.out]; exact step_less14 HK.out) | exact step_less14 HK.out
            · obtain rfl : k = N := Nat.le_antisymm hk (Nat.le_of_not_lt hkN)
              have tk : decide ((k : Int) < (k : Int)) = false := by simp
              have f9 := P9.wa.frz _ HZ.out
              have c9 := P9.wa.at_ _ HZ.out
              have PE := Lib.hid (P9.setW _ HZ.out true)
              clear P9 hk hkN cin
              go_wp2
              go_roundw
              case rel => exact ⟨i + 1, x2, S9, _, _, HL.out, by simp [EW.out], by rw [HN.out]; exact Nat.le_succ_of_le HX.out, GE.out _ _ (fun a b ha hb => defF_all ha hb N2) (fun a ha => rfl), PE.out⟩
              case measure => first | exact step_meas14 EW.out (step_less14 HL.out) | (simp [EW.out]; exact step_less14 HL.out) | exact step_less14 HL.out
      · as_aux_lemma =>
        have P2 := PP.out
        clear PP
        have cr := K.ripes q S x w5 P2.al.rep sm.out.1
        have OKX := Lib.hid (K.ok P2.al.rep)
        obtain ⟨rl, hrl⟩ : ∃ r_, r_ = x.ripe := ⟨_, rfl⟩
        have RL : Hid (rl.Nodup ∧ (∀ k ∈ rl, k < 9) ∧ (∀ k ∈ rl, h k = true) ∧ ∀ k ∈ rl, ∀ v, v < N → f (k * 8 + v) = false) := by
          show _ ∧ _ ∧ _ ∧ _
          rw [hrl]
          exact ⟨Gr.ripe_nd OKX.out, fun k hk => HG.out.ripe_low hk, fun k hk => HG.out.ripe_wt hk, fun k hk v hv => HG.out.ripe_se OKX.out hk hv⟩
        have FEW : Hid (rl.length ≤ 256) := by
          show _ ≤ _
          rw [hrl]
          unfold Ep.ripe
          rw [List.length_map]
          exact Nat.le_trans (List.length_filter_le _ _) OKX.out.few
        have GE := Lib.hid (fun h' h1 => HG.out.ripe (h' := h') OKX.out h1)
        rw [← hrl] at cr GE
        have gwl := P2.wa.lt
        go_wp2_with fail
        refine cr.mono ?_; rintro e w8 ⟨a8, len8, cap8, S8, rfl, R8, f8, x8, row8, ne8⟩
        have P8 := P2.one R8 f8 x8
        have hlen : len8 = rl.length := by rw [← row8.1, List.length_map]
        subst hlen
        have NB : Hid (∀ b off, a8 = some ⟨b, off, none⟩ → b ≠ gw) := fun b off e h => by
          have := (ne8 _ e).2
          have h2 : b = gw := h
          exact absurd gwl (Nat.not_lt_of_le (h2 ▸ this))
        have HR2 : Hid (x.ripeT.now = x.now) := rfl
        obtain ⟨x2, hx2⟩ : ∃ x_, x_ = x.ripeT := ⟨_, rfl⟩
        rw [← hx2] at P8 GE HR2
        clear hx2 cr P2 R8 f8 x8 ne8 gwl hrl
        go_upto_region 43 with fail
        go_loopw [18] (fun si wr => ∃ k : Nat, k ≤ rl.length ∧ si = .int .i64 (k : Int) ∧ GrS K w wr S8 q x2 gs gw f (fun j => h j && !(rl.take k).contains j) ∧ Row .i64 wr a8 rl.length (rl.map fun (k : Nat) => (k : Int))) (fun si _ => rl.length - (intOf si).toNat)
        case atStart => exact ⟨0, Nat.zero_le _, rfl, P8.congr (fun j _ => rfl) (fun j _ => by simp), row8⟩
        case round =>
          obtain ⟨k, hk, rfl, P9, row9⟩ := hrel
          clear P8 row8
          have EK := Lib.hid (step_14 (j := k) (Nat.lt_of_le_of_lt (Nat.le_trans hk FEW.out) (by decide)))
          by_cases hkl : k < rl.length
          · have HK := Lib.hid hkl
            have ROW := Lib.hid row9
            obtain ⟨b8, o8, rfl, hb8, hc8⟩ := row9.2.resolve_left (fun e => by omega)
            have y8 := hc8 k hkl
            rw [cast_at rl hkl] at y8
            have hm := mem_at hkl
            have m9 := RL.out.2.1 _ hm
            obtain ⟨l1, l2, l3⟩ := ix m9
            obtain ⟨l4, l5⟩ := lt8 m9
            have s8 : wr.cell? ⟨gw, rl.getD k 0, none⟩ = some (.bool true) := by
              have h1 := P9.wa.at_ _ m9
              rw [take_not hkl RL.out.1, RL.out.2.2.1 _ hm] at h1
              exact h1
            have g8 := P9.wa.frz _ m9
            have z8 := Lib.hid (fun v hv => (P9.sa.at_ _ (cell_lt m9 (Nat.lt_of_lt_of_le hv N2)).1).trans (by rw [RL.out.2.2.2 _ hm v hv] : some (Value.bool (f (rl.getD k 0 * 8 + v))) = some (.bool false)))
            have PE := Lib.hid ((P9.setW _ m9 false).congr (fun j _ => rfl) (fun j _ => bang_step h hkl j))
            have RE : Hid (Row .i64 (wr.setCell ⟨gw, rl.getD k 0, none⟩ (.bool false)) (some ⟨b8, o8, none⟩) rl.length (rl.map fun (k : Nat) => (k : Int))) := by
              have x9 := GrS.setB wr gw (rl.getD k 0) (.bool false)
              exact ⟨ROW.out.1, .inr ⟨b8, o8, rfl, Nat.lt_of_lt_of_le hb8 x9.size, fun t ht => (x9.cell (p := ⟨b8, o8 + t, none⟩) hb8 (NB.out b8 o8 rfl)).trans (hc8 t ht)⟩⟩
            obtain ⟨k1, k2, k3⟩ := ix hkl
            clear hk hkl P9 row9 hc8 hb8 hm m9
            generalize rl.getD k 0 = m at y8 s8 g8 z8 PE RE l1 l2 l3 l4 l5
            go_upto_region 48 with fail
            go_loop [19] (fun si => ∃ v : Nat, v ≤ N ∧ si = .int .i64 (v : Int)) (fun si => N - (intOf si).toNat)
            case atStart => exact ⟨0, Nat.zero_le _, rfl⟩
            case round =>
              obtain ⟨v, hv, rfl⟩ := hrel
              have EV := Lib.hid (step_14 (j := v) (Nat.lt_of_le_of_lt (Nat.le_trans hv N64) (by decide)))
              by_cases hvN : v < N
              · have HV := Lib.hid hvN
                have tv := (ix hvN).2.2
                obtain ⟨v1, v2, v3⟩ := ix (Nat.lt_of_lt_of_le hvN N2)
                have y9 := z8.out v hvN
                clear hv hvN
                go_wp2
                go_round
                case rel => exact ⟨v + 1, HV.out, by simp [EV.out]⟩
                case measure => first | exact step_meas14 EV.out (step_less14 HV.out) | (simp [EV.out]; exact step_less14 HV.out) | exact step_less14 HV.out
              · obtain rfl : v = N := Nat.le_antisymm hv (Nat.le_of_not_lt hvN)
                have tv : decide ((v : Int) < (v : Int)) = false := by simp
                clear hv hvN
                go_wp2
                go_roundw
                case rel => exact ⟨k + 1, HK.out, by simp [EK.out], PE.out, RE.out⟩
                case measure => first | exact step_meas14 EK.out (step_less14 HK.out) | (simp [EK.out]; exact step_less14 HK.out) | exact step_less14 HK.out
          · obtain rfl : k = rl.length := Nat.le_antisymm hk (Nat.le_of_not_lt hkl)
            have t9 : decide ((rl.length : Int) < (rl.length : Int)) = false := by simp
            rw [List.take_length] at P9
            have PE := Lib.hid P9
            clear P9 hk hkl row9
            go_wp2
            go_roundw
            case rel => exact ⟨i + 1, x2, S8, f, _, HL.out, by simp [EW.out], by rw [HR2.out]; exact Nat.le_succ_of_le HX.out, GE.out _ (fun k hk => rfl), PE.out⟩
            case measure => first | exact step_meas14 EW.out (step_less14 HL.out) | (simp [EW.out]; exact step_less14 HL.out) | exact step_less14 HL.out
    · obtain rfl : i = len := Nat.le_antisymm hi (Nat.le_of_not_lt hlt)
      have t1 : decide ((i : Int) < (i : Int)) = false := by simp
      have B3 := P1.al.below
      clear P1
      go_wp2_with fail
      refine (waited_ K _).mono ?_; rintro e w9 ⟨rfl, x9⟩
      have B9 := B3.trans (x9.mono B3.size)
      clear B3 x9
      go_wp2
      go_ret
      exact ⟨rfl, B9⟩
end Go.Proofs.Ytghicdajcmkfjaa.EpochsGrace
