/- WheelsSizes (layer 15), over what is asked of the wheels. Written by gen_wheelssizes.py. -/
import Derived.Test.YtmephmjlajaopaaWf
namespace Go.Proofs.Ytmephmjlajaopaa.WheelsSizes
set_option linter.unusedVariables false
set_option linter.unusedSimpArgs false
open Go.ChangeShapes Go.WideShapes Go.ChangeAt Go.RowKit Go.PlainAid
attribute [local go_sem ↓] Go.wp_at_zero Go.wp_at_succ
theorem six {z k : Int} (h0 : 0 ≤ z) (h : z.tmod 6 = k) : k = 0 ∨ k = 1 ∨ k = 2 ∨ k = 3 ∨ k = 4 ∨ k = 5 := by
  rw [Int.tmod_eq_emod_of_nonneg h0] at h
  omega
/-- How many places. -/
theorem places_ {z : Int} (h0 : 0 ≤ z) (h1 : z ≤ 255) : ∃ N : Nat, 1 ≤ N ∧ N ≤ 64 ∧ IntKind.i64.wrap z = z ∧ wrap64 (1 + z.tmod 64) = (N : Int) ∧ IntKind.i64.wrap (1 + z.tmod 64) = (N : Int) ∧ wrap64 (1 + z % 64) = (N : Int) ∧ IntKind.i64.wrap (1 + z % 64) = (N : Int) := by
  obtain ⟨m, rfl⟩ := Int.eq_ofNat_of_zero_le h0
  have e : (m : Int).tmod 64 = (m : Int) % 64 := Int.tmod_eq_emod_of_nonneg h0
  refine ⟨1 + m % 64, by omega, by omega, IntWalk.i64_in _ (by omega), ?_, ?_, ?_, ?_⟩
  · rw [e, IntWalk.wrap64_in _ (by omega)]; omega
  · rw [e, IntWalk.i64_in _ (by omega)]; omega
  · rw [IntWalk.wrap64_in _ (by omega)]; omega
  · rw [IntWalk.i64_in _ (by omega)]; omega
def tick2 (last b : Nat) : Nat := min (last + b * b) 1099511627776
theorem tick2_facts {last b : Nat} (h1 : (last : Int) ≤ Wh.max) (h2 : b ≤ 65535) : IntKind.i64.wrap (b : Int) = (b : Int) ∧ wrap64 ((b : Int) * (b : Int)) = ((b * b : Nat) : Int) ∧ IntKind.i64.wrap ((b : Int) * (b : Int)) = ((b * b : Nat) : Int) ∧ wrap64 ((last : Int) + ((b * b : Nat) : Int)) = ((last + b * b : Nat) : Int) ∧ IntKind.i64.wrap ((last : Int) + ((b * b : Nat) : Int)) = ((last + b * b : Nat) : Int) ∧ last ≤ tick2 last b ∧ tick2 last b ≤ 1099511627776 ∧ (if (1099511627776 : Int) < ((last + b * b : Nat) : Int) then (1099511627776 : Int) else ((last + b * b : Nat) : Int)) = ((tick2 last b : Nat) : Int) := by
  unfold Wh.max at h1
  unfold tick2
  have hb : b * b ≤ 65535 * 65535 := Nat.mul_le_mul h2 h2
  have hm : (b : Int) * (b : Int) = ((b * b : Nat) : Int) := (Int.natCast_mul b b).symm
  rw [hm]
  generalize b * b = c at hb
  refine ⟨IntWalk.i64_in _ (by omega), IntWalk.wrap64_in _ (by omega), IntWalk.i64_in _ (by omega), ?_, ?_, by omega, by omega, by split <;> omega⟩
  · rw [IntWalk.wrap64_in _ (by omega)]; omega
  · rw [IntWalk.i64_in _ (by omega)]; omega
set_option maxHeartbeats 8000000 in
set_option maxRecDepth 100000 in
theorem walk_ (K : WheelsOk) (z1 z2 : Int) (a : Option Addr) (len cap : Nat) (l : List A15) (w : World) (hz1 : (Lit.int .u8 z1).wf = true) (hz2 : (Lit.int .u8 z2).wf = true) (v : len ≤ maxLen) (hr : A15At w a len l) :
    Calls Try.prog 7 #[.agg #[.int .u8 z1, .int .u8 z2], .slice a len cap] w fun e w' => e = .returned (.bool true) ∧ Below w.heap.size w w' := by
  obtain ⟨m0, m1⟩ := bounds_u8 hz1
  obtain ⟨M0, M1⟩ := bounds_u8 hz2
  obtain ⟨N, N1, N2, y1, y2, y3, y4, y5⟩ := places_ m0 m1
  obtain ⟨M, M1_, M2, Y1, Y2, Y3, Y4, Y5⟩ := places_ M0 M1
  have BA : Below w.heap.size w (w.alloc (.cells #[.int .u8 z1, .int .u8 z2] 61)) := (Below.refl _ _).alloc (Nat.le_refl _) _
  have g1 : (w.alloc (.cells #[.int .u8 z1, .int .u8 z2] 61)).cell? ⟨w.heap.size, 1, none⟩ = some (.int .u8 z2) := by simp [go_sem]
  have gz : w.heap.size < (w.alloc (.cells #[.int .u8 z1, .int .u8 z2] 61)).heap.size := by simp
  clear hz1 hz2
  go_enter Try.func7, Try.ntmps7
  go_wp2_with fail
  refine (K.news N _ N1 N2).mono ?_; rintro e w1 ⟨q, S1, rfl, b1, hS, R1⟩
  have g2 := (b1.cell (p := ⟨w.heap.size, 1, none⟩) gz).trans g1
  have B1 := BA.trans (b1.mono BA.size)
  clear g1 gz b1 y1 y2 y3 y4 y5
  go_wp2_with fail
  refine (K.news M w1 M1_ M2).mono ?_; rintro e w2 ⟨p, T2, rfl, b2, hT, R2⟩
  have P0 : Pair K.toObjP K.toObjP w w2 S1 T2 q p Wh.new Wh.new := ⟨K.on R1 b2, R2, fun k hk ht => absurd (hT k ht) (Nat.not_le_of_lt (K.lt R1 k hk)), fun k hk => Nat.le_trans BA.size (hS k hk), fun k hk => Nat.le_trans B1.size (hT k hk), B1.trans (b2.mono B1.size)⟩
  clear R1 R2 B1 BA b2 hS hT g2 Y1 Y2 Y3 Y4 Y5 m0 m1 M0 M1
  by_cases h1 : 150 < len
  · have e1 : decide ((150 : Int) < len) = true := by simp; omega
    have e2 : decide (150 < len) = true := by simpa using h1
    go_wp2_with fail
    refine (timed_ K _).mono ?_; rintro e w3 ⟨rfl, b3⟩
    have B3 := P0.below.trans (b3.mono P0.below.size)
    clear P0 b3
    go_wp2
    go_ret
    exact ⟨rfl, B3⟩
  have e1 : decide ((150 : Int) < len) = false := by simp; omega
  have e2 : decide (150 < len) = false := by simpa using h1
  have H200 := Lib.hid (Nat.le_of_not_lt h1)
  clear h1
  go_upto_region 7 with fail
  clear e1 e2
  go_loopw [9, 10] (fun sl si wr => ∃ (i : Nat) (x : Wh) (S T : Nat → Prop), i ≤ len ∧ si = .int .i64 (i : Int) ∧ sl = .int .i64 (x.last : Int) ∧ x.l.length ≤ i ∧ Pair K.toObjP K.toObjP w wr S T q p x x) (fun _ si _ => len - (intOf si).toNat)
  case atStart => exact ⟨0, _, _, _, Nat.zero_le _, rfl, rfl, Nat.le_refl _, P0⟩
  case round =>
    obtain ⟨i, x, S, T, hi, rfl, rfl, hx, P1⟩ := hrel
    clear P0
    have EW := Lib.hid (step_15 (j := i) (Nat.lt_of_le_of_lt (Nat.le_trans hi H200.out) (by decide)))
    by_cases hlt : i < len
    · obtain ⟨bx, off, rfl, hbx, hc⟩ := hr.cells.resolve_left (Nat.ne_of_gt (Nat.lt_of_le_of_lt (Nat.zero_le i) hlt))
      have hx0 := (hc i hlt).on hbx P1.below
      have okx := hr.okAt hlt
      obtain ⟨y, hye⟩ : ∃ y, y = l.getD i A15.zero := ⟨_, rfl⟩
      rw [← hye] at hx0 okx
      clear hye hc
      obtain ⟨c0, c1, c2, c3, c4, c5⟩ := hx0
      obtain ⟨t1, jj1, jj0⟩ := ix15 hlt
      have HL := Lib.hid hlt
      have sm : Hid (x.l.length ≤ 1000) := Nat.le_trans hx (Nat.le_trans hi (Nat.le_trans H200.out (by decide)))
      have HX := Lib.hid hx
      have ok0 := bounds_u8 okx.kd
      have ok1 := bounds_u8 okx.hh
      have ok2 := bounds_u16 okx.bb
      have ok3 := bounds_i64 okx.rs
      have ok4 := bounds_u32 okx.rg
      have ok5 := bounds_i64 okx.n
      obtain ⟨kd, hh, bb, rs, rg, nn⟩ := y
      simp only at c0 c1 c2 c3 c4 c5 ok0 ok1 ok2 ok3 ok4 ok5
      have HO := Lib.hid (And.intro ok0 (And.intro ok1 (And.intro ok3 (And.intro ok4 ok5))))
      obtain ⟨bn, rfl⟩ := Int.eq_ofNat_of_zero_le ok2.1
      have BB : Hid (bn ≤ 65535) := by have := ok2.2; show bn ≤ 65535; omega
      clear ok0 ok1 ok2 ok3 ok4 ok5 okx hx hi hlt
      go_upto_region 10 with fail
      have P2 := P1.on ((Below.refl wr.heap.size wr).alloc (Nat.le_refl _) (.cells #[.int .u8 kd, .int .u8 hh, .int .u16 (bn : Int), .int .i64 rs, .int .u32 rg, .int .i64 nn] 36))
      have x0 : (wr.alloc (.cells #[.int .u8 kd, .int .u8 hh, .int .u16 (bn : Int), .int .i64 rs, .int .u32 rg, .int .i64 nn] 36)).cell? ⟨wr.heap.size, 0, none⟩ = some (.int .u8 kd) := by simp [go_sem]
      have x1 : (wr.alloc (.cells #[.int .u8 kd, .int .u8 hh, .int .u16 (bn : Int), .int .i64 rs, .int .u32 rg, .int .i64 nn] 36)).cell? ⟨wr.heap.size, 1, none⟩ = some (.int .u8 hh) := by simp [go_sem]
      have x2 : (wr.alloc (.cells #[.int .u8 kd, .int .u8 hh, .int .u16 (bn : Int), .int .i64 rs, .int .u32 rg, .int .i64 nn] 36)).cell? ⟨wr.heap.size, 2, none⟩ = some (.int .u16 (bn : Int)) := by simp [go_sem]
      have x3 : (wr.alloc (.cells #[.int .u8 kd, .int .u8 hh, .int .u16 (bn : Int), .int .i64 rs, .int .u32 rg, .int .i64 nn] 36)).cell? ⟨wr.heap.size, 3, none⟩ = some (.int .i64 rs) := by simp [go_sem]
      have x4 : (wr.alloc (.cells #[.int .u8 kd, .int .u8 hh, .int .u16 (bn : Int), .int .i64 rs, .int .u32 rg, .int .i64 nn] 36)).cell? ⟨wr.heap.size, 4, none⟩ = some (.int .u32 rg) := by simp [go_sem]
      have x5 : (wr.alloc (.cells #[.int .u8 kd, .int .u8 hh, .int .u16 (bn : Int), .int .i64 rs, .int .u32 rg, .int .i64 nn] 36)).cell? ⟨wr.heap.size, 5, none⟩ = some (.int .i64 nn) := by simp [go_sem]
      have xz : wr.heap.size < (wr.alloc (.cells #[.int .u8 kd, .int .u8 hh, .int .u16 (bn : Int), .int .i64 rs, .int .u32 rg, .int .i64 nn] 36)).heap.size := by simp
      have xl : w.heap.size ≤ wr.heap.size := P1.below.size
      have xS : ¬ S wr.heap.size := fun h => Nat.lt_irrefl _ (K.lt P1.fst _ h)
      have xT : ¬ T wr.heap.size := fun h => Nat.lt_irrefl _ (K.lt P1.snd _ h)
      obtain ⟨w4, hw4⟩ : ∃ x_ : World, x_ = wr.alloc (.cells #[.int .u8 kd, .int .u8 hh, .int .u16 (bn : Int), .int .i64 rs, .int .u32 rg, .int .i64 nn] 36) := ⟨_, rfl⟩
      rw [← hw4] at P2 x0 x1 x2 x3 x4 x5 xz ⊢
      clear hw4 c0 c1 c2 c3 c4 c5 P1
      obtain ⟨xb, hxb⟩ : ∃ b_, b_ = wr.heap.size := ⟨_, rfl⟩
      rw [← hxb] at x0 x1 x2 x3 x4 x5 xz xl xS xT ⊢
      clear hxb
      have LK := Lib.hid (K.ok P2.snd).lst
      obtain ⟨q1, q2, q3, q4, q5, q6, q7, qm⟩ := tick2_facts LK.out BB.out
      have TL := Lib.hid (And.intro q6 q7)
      obtain ⟨m, hm⟩ : ∃ m_, m_ = tick2 x.last bn := ⟨_, rfl⟩
      rw [← hm] at TL qm
      have HM := Lib.hid hm
      clear hm q6 q7
      generalize bn * bn = b2 at q2 q3 q4 q5 qm
      generalize x.last + b2 = lb at q4 q5 qm
      go_cut [12, 13] (fun s12 s13 wx => ∃ (w8 : World) (hb : Nat) (s g : Int), w8 = wx ∧ s12 = .pointer (some ⟨hb, 0, none⟩) ∧ s13 = .int .i64 (m : Int) ∧ HOk s g ∧ ¬ S hb ∧ ¬ T hb ∧ ¬ hb = xb ∧ PairH K.toObjP K.toObjP w wx S T q p x x hb s g ∧ XBox wx xb kd rs rg nn)
      case rest => as_aux_lemma =>
        obtain ⟨w9, hb, s, g, rfl, rfl, rfl, ho, nSb, nTb, neb, PH, X⟩ := hcut
        have x0 := X.c0
        have HMT : Hid (x.mayT (m : Int)) := by
          show (x.last : Int) ≤ (m : Int) ∧ (m : Int) ≤ Wh.max
          have h1 := TL.out.1
          have h2 := TL.out.2
          unfold Wh.max
          omega
        go_upto_block 2 with fail
        obtain ⟨kk, hkk⟩ : ∃ k_, kd.tmod 6 = k_ := ⟨_, rfl⟩
        rw [hkk]
        clear x0 X
        have PP := Lib.hid PH
        clear PH
        obtain ⟨nx, hnx⟩ : ∃ n_ : Int, n_ = (m : Int) := ⟨_, rfl⟩
        have HNX := Lib.hid hnx
        rw [← hnx]
        clear hnx
        go_cut [9, 14] (fun s9 s14 wx => s14 = .bool true ∧ ∃ (x2 : Wh) (S2 T2 : Nat → Prop), s9 = .int .i64 (x2.last : Int) ∧ x2.l.length ≤ i + 1 ∧ PairH K.toObjP K.toObjP w wx S2 T2 q p x2 x2 hb s g)
        case first =>
          rcases six HO.out.1.1 hkk with rfl | rfl | rfl | rfl | rfl | rfl
          · as_aux_lemma =>
            have P2 := PP.out
            clear PP
            go_upto_region 13 with fail
            refine wp_region_noPanic ?_
            refine wp_region_held_drew (S := (fun w' => w'.cell? ⟨hb, 0, none⟩ = some (.int .i64 s) ∧ w'.cell? ⟨hb, 1, none⟩ = some (.int .u32 g))) (by kernel_rfl) ?_ (fun hHeld => ?_)
            · exact ⟨P2.bx.c0, P2.bx.c1⟩
            have P5 := P2.on (Below.refl w9.heap.size w9).drew
            obtain ⟨w5, hw5⟩ : ∃ x_ : World, x_ = w9.drew := ⟨_, rfl⟩
            rw [← hw5] at P5 hHeld ⊢
            clear hw5 P2
            refine wpAnyH_take (i := 0) (oi := _) (v := ?_) rfl (by kernel_rfl) (by kernel_rfl) (by kernel_rfl) (fun _ _ _ h => h) (Or.inl ⟨by kernel_rfl, ?_⟩) (by assumption) ?_
            rotate_left
            · intro w hSw
              clear hSw
              go_simp
              with_reducible rfl
            try simp only [List.getElem_toArray, List.getElem_cons_succ, List.getElem_cons_zero, Act.put, List.setIfInBounds_toArray, List.set_cons_zero, List.set_cons_succ]
            refine wpAnyH_take (i := 1) (oi := _) (v := ?_) rfl (by kernel_rfl) (by kernel_rfl) (by kernel_rfl) (fun _ _ _ h => h) (Or.inl ⟨by kernel_rfl, ?_⟩) (by assumption) ?_
            rotate_left
            · intro w hSw
              obtain ⟨hq0, hq1⟩ := hSw
              go_simp
              with_reducible rfl
            try simp only [List.getElem_toArray, List.getElem_cons_succ, List.getElem_cons_zero, Act.put, List.setIfInBounds_toArray, List.set_cons_zero, List.set_cons_succ]
            refine wpAnyH_take (i := 2) (oi := _) (v := ?_) rfl (by kernel_rfl) (by kernel_rfl) (by kernel_rfl) (fun _ _ _ h => h) (Or.inl ⟨by kernel_rfl, ?_⟩) (by assumption) ?_
            rotate_left
            · intro w hSw
              clear hSw
              go_simp
              with_reducible rfl
            try simp only [List.getElem_toArray, List.getElem_cons_succ, List.getElem_cons_zero, Act.put, List.setIfInBounds_toArray, List.set_cons_zero, List.set_cons_succ]
            refine wpAnyH_take (i := 4) (oi := _) (v := ?_) rfl (by kernel_rfl) (by kernel_rfl) (by kernel_rfl) (fun _ _ _ h => h) (Or.inl ⟨by kernel_rfl, ?_⟩) (by assumption) ?_
            rotate_left
            · intro w hSw
              clear hSw
              go_simp
              with_reducible rfl
            try simp only [List.getElem_toArray, List.getElem_cons_succ, List.getElem_cons_zero, Act.put, List.setIfInBounds_toArray, List.set_cons_zero, List.set_cons_succ]
            refine wpAnyH_take (i := 5) (oi := _) (v := ?_) rfl (by kernel_rfl) (by kernel_rfl) (by kernel_rfl) (fun _ _ _ h => h) (Or.inl ⟨by kernel_rfl, ?_⟩) (by assumption) ?_
            rotate_left
            · intro w hSw
              obtain ⟨hq0, hq1⟩ := hSw
              go_simp
              with_reducible rfl
            try simp only [List.getElem_toArray, List.getElem_cons_succ, List.getElem_cons_zero, Act.put, List.setIfInBounds_toArray, List.set_cons_zero, List.set_cons_succ]
            refine wpAnyH_take (i := 6) (oi := _) (v := ?_) rfl (by kernel_rfl) (by kernel_rfl) (by kernel_rfl) (fun _ _ _ h => h) (Or.inl ⟨by kernel_rfl, ?_⟩) (by assumption) ?_
            rotate_left
            · intro w hSw
              clear hSw
              go_simp
              with_reducible rfl
            try simp only [List.getElem_toArray, List.getElem_cons_succ, List.getElem_cons_zero, Act.put, List.setIfInBounds_toArray, List.set_cons_zero, List.set_cons_succ]
            refine wpAnyH_ready (rs := [3]) (by kernel_rfl) (by simp) ?_
            refine AllReadyH.cons (o := _) rfl (fun K_ hK => ?_) AllReadyH.nil
            go_simp
            refine (K.puts _ _ _ s g nx _ P5.pr.fst sm.out ho).mono ?_; rintro e w6 ⟨rfl, S6, R6, f6, x6⟩
            have P6 := P5.one R6 f6 x6
            clear P5 R6 f6 x6
            show K_ _ _
            refine hK.out _ _ ⟨P6.bx.c0, P6.bx.c1⟩ (fun hH1 => ?_)
            clear hK K_ hHeld
            have hHeld := hH1
            clear hH1
            try simp only [List.getElem_toArray, List.getElem_cons_succ, List.getElem_cons_zero, Act.put, List.setIfInBounds_toArray, List.set_cons_zero, List.set_cons_succ]
            refine wpAnyH_ready (rs := [7]) (by kernel_rfl) (by simp) ?_
            refine AllReadyH.cons (o := _) rfl (fun K_ hK => ?_) AllReadyH.nil
            go_simp
            refine (K.puts _ _ _ s g nx _ P6.pr.snd sm.out ho).mono ?_; rintro e w7 ⟨rfl, T7, R7, f7, x7⟩
            have P7 := P6.two R7 f7 x7
            clear P6 R7 f7 x7
            show K_ _ _
            refine hK.out _ _ ⟨P7.bx.c0, P7.bx.c1⟩ (fun hH1 => ?_)
            clear hK K_ hHeld
            have hHeld := hH1
            clear hH1
            try simp only [List.getElem_toArray, List.getElem_cons_succ, List.getElem_cons_zero, Act.put, List.setIfInBounds_toArray, List.set_cons_zero, List.set_cons_succ]
            have PE := Lib.hid P7
            clear P7
            refine wpAnyH_take (i := 8) (oi := _) (v := ?_) rfl (by kernel_rfl) (by kernel_rfl) (by kernel_rfl) (fun _ _ _ h => h) (Or.inl ⟨by kernel_rfl, ?_⟩) (by assumption) ?_
            rotate_left
            · intro w hSw
              clear hSw
              go_simp
              with_reducible rfl
            try simp only [List.getElem_toArray, List.getElem_cons_succ, List.getElem_cons_zero, Act.put, List.setIfInBounds_toArray, List.set_cons_zero, List.set_cons_succ]
            refine wpAnyH_take (i := 9) (oi := _) (v := ?_) rfl (by kernel_rfl) (by kernel_rfl) (by kernel_rfl) (fun _ _ _ h => h) (Or.inl ⟨by kernel_rfl, ?_⟩) (by assumption) ?_
            rotate_left
            · intro w hSw
              clear hSw
              go_simp
              with_reducible rfl
            try simp only [List.getElem_toArray, List.getElem_cons_succ, List.getElem_cons_zero, Act.put, List.setIfInBounds_toArray, List.set_cons_zero, List.set_cons_succ]
            refine wpAnyH_done (by kernel_rfl) (NoPanic.normal ?_) _
            clear hHeld
            go_wp2
            go_meet
            exact ⟨by simp, x.putT s g nx, S6, T7, by first | rfl | (rw [show (x.putT s g nx).last = x.last by unfold Wh.putT; split <;> first | rfl | (split <;> rfl)]) , Nat.le_trans (Wh.put_len _ _ _ _) (Nat.succ_le_succ HX.out), PE.out⟩
          · as_aux_lemma =>
            have P2 := PP.out
            clear PP
            go_upto_region 13 with fail
            refine wp_region_noPanic ?_
            refine wp_region_held_drew (S := (fun w' => w'.cell? ⟨hb, 0, none⟩ = some (.int .i64 s) ∧ w'.cell? ⟨hb, 1, none⟩ = some (.int .u32 g))) (by kernel_rfl) ?_ (fun hHeld => ?_)
            · exact ⟨P2.bx.c0, P2.bx.c1⟩
            have P5 := P2.on (Below.refl w9.heap.size w9).drew
            obtain ⟨w5, hw5⟩ : ∃ x_ : World, x_ = w9.drew := ⟨_, rfl⟩
            rw [← hw5] at P5 hHeld ⊢
            clear hw5 P2
            refine wpAnyH_take (i := 0) (oi := _) (v := ?_) rfl (by kernel_rfl) (by kernel_rfl) (by kernel_rfl) (fun _ _ _ h => h) (Or.inl ⟨by kernel_rfl, ?_⟩) (by assumption) ?_
            rotate_left
            · intro w hSw
              clear hSw
              go_simp
              with_reducible rfl
            try simp only [List.getElem_toArray, List.getElem_cons_succ, List.getElem_cons_zero, Act.put, List.setIfInBounds_toArray, List.set_cons_zero, List.set_cons_succ]
            refine wpAnyH_take (i := 1) (oi := _) (v := ?_) rfl (by kernel_rfl) (by kernel_rfl) (by kernel_rfl) (fun _ _ _ h => h) (Or.inl ⟨by kernel_rfl, ?_⟩) (by assumption) ?_
            rotate_left
            · intro w hSw
              obtain ⟨hq0, hq1⟩ := hSw
              go_simp
              with_reducible rfl
            try simp only [List.getElem_toArray, List.getElem_cons_succ, List.getElem_cons_zero, Act.put, List.setIfInBounds_toArray, List.set_cons_zero, List.set_cons_succ]
            refine wpAnyH_take (i := 2) (oi := _) (v := ?_) rfl (by kernel_rfl) (by kernel_rfl) (by kernel_rfl) (fun _ _ _ h => h) (Or.inl ⟨by kernel_rfl, ?_⟩) (by assumption) ?_
            rotate_left
            · intro w hSw
              clear hSw
              go_simp
              with_reducible rfl
            try simp only [List.getElem_toArray, List.getElem_cons_succ, List.getElem_cons_zero, Act.put, List.setIfInBounds_toArray, List.set_cons_zero, List.set_cons_succ]
            refine wpAnyH_take (i := 4) (oi := _) (v := ?_) rfl (by kernel_rfl) (by kernel_rfl) (by kernel_rfl) (fun _ _ _ h => h) (Or.inl ⟨by kernel_rfl, ?_⟩) (by assumption) ?_
            rotate_left
            · intro w hSw
              clear hSw
              go_simp
              with_reducible rfl
            try simp only [List.getElem_toArray, List.getElem_cons_succ, List.getElem_cons_zero, Act.put, List.setIfInBounds_toArray, List.set_cons_zero, List.set_cons_succ]
            refine wpAnyH_take (i := 5) (oi := _) (v := ?_) rfl (by kernel_rfl) (by kernel_rfl) (by kernel_rfl) (fun _ _ _ h => h) (Or.inl ⟨by kernel_rfl, ?_⟩) (by assumption) ?_
            rotate_left
            · intro w hSw
              obtain ⟨hq0, hq1⟩ := hSw
              go_simp
              with_reducible rfl
            try simp only [List.getElem_toArray, List.getElem_cons_succ, List.getElem_cons_zero, Act.put, List.setIfInBounds_toArray, List.set_cons_zero, List.set_cons_succ]
            refine wpAnyH_take (i := 6) (oi := _) (v := ?_) rfl (by kernel_rfl) (by kernel_rfl) (by kernel_rfl) (fun _ _ _ h => h) (Or.inl ⟨by kernel_rfl, ?_⟩) (by assumption) ?_
            rotate_left
            · intro w hSw
              clear hSw
              go_simp
              with_reducible rfl
            try simp only [List.getElem_toArray, List.getElem_cons_succ, List.getElem_cons_zero, Act.put, List.setIfInBounds_toArray, List.set_cons_zero, List.set_cons_succ]
            refine wpAnyH_ready (rs := [3]) (by kernel_rfl) (by simp) ?_
            refine AllReadyH.cons (o := _) rfl (fun K_ hK => ?_) AllReadyH.nil
            go_simp
            refine (K.puts _ _ _ s g nx _ P5.pr.fst sm.out ho).mono ?_; rintro e w6 ⟨rfl, S6, R6, f6, x6⟩
            have P6 := P5.one R6 f6 x6
            clear P5 R6 f6 x6
            show K_ _ _
            refine hK.out _ _ ⟨P6.bx.c0, P6.bx.c1⟩ (fun hH1 => ?_)
            clear hK K_ hHeld
            have hHeld := hH1
            clear hH1
            try simp only [List.getElem_toArray, List.getElem_cons_succ, List.getElem_cons_zero, Act.put, List.setIfInBounds_toArray, List.set_cons_zero, List.set_cons_succ]
            refine wpAnyH_ready (rs := [7]) (by kernel_rfl) (by simp) ?_
            refine AllReadyH.cons (o := _) rfl (fun K_ hK => ?_) AllReadyH.nil
            go_simp
            refine (K.puts _ _ _ s g nx _ P6.pr.snd sm.out ho).mono ?_; rintro e w7 ⟨rfl, T7, R7, f7, x7⟩
            have P7 := P6.two R7 f7 x7
            clear P6 R7 f7 x7
            show K_ _ _
            refine hK.out _ _ ⟨P7.bx.c0, P7.bx.c1⟩ (fun hH1 => ?_)
            clear hK K_ hHeld
            have hHeld := hH1
            clear hH1
            try simp only [List.getElem_toArray, List.getElem_cons_succ, List.getElem_cons_zero, Act.put, List.setIfInBounds_toArray, List.set_cons_zero, List.set_cons_succ]
            have PE := Lib.hid P7
            clear P7
            refine wpAnyH_take (i := 8) (oi := _) (v := ?_) rfl (by kernel_rfl) (by kernel_rfl) (by kernel_rfl) (fun _ _ _ h => h) (Or.inl ⟨by kernel_rfl, ?_⟩) (by assumption) ?_
            rotate_left
            · intro w hSw
              clear hSw
              go_simp
              with_reducible rfl
            try simp only [List.getElem_toArray, List.getElem_cons_succ, List.getElem_cons_zero, Act.put, List.setIfInBounds_toArray, List.set_cons_zero, List.set_cons_succ]
            refine wpAnyH_take (i := 9) (oi := _) (v := ?_) rfl (by kernel_rfl) (by kernel_rfl) (by kernel_rfl) (fun _ _ _ h => h) (Or.inl ⟨by kernel_rfl, ?_⟩) (by assumption) ?_
            rotate_left
            · intro w hSw
              clear hSw
              go_simp
              with_reducible rfl
            try simp only [List.getElem_toArray, List.getElem_cons_succ, List.getElem_cons_zero, Act.put, List.setIfInBounds_toArray, List.set_cons_zero, List.set_cons_succ]
            refine wpAnyH_done (by kernel_rfl) (NoPanic.normal ?_) _
            clear hHeld
            go_wp2
            go_meet
            exact ⟨by simp, x.putT s g nx, S6, T7, by first | rfl | (rw [show (x.putT s g nx).last = x.last by unfold Wh.putT; split <;> first | rfl | (split <;> rfl)]) , Nat.le_trans (Wh.put_len _ _ _ _) (Nat.succ_le_succ HX.out), PE.out⟩
          · as_aux_lemma =>
            have P2 := PP.out
            clear PP
            go_upto_region 13 with fail
            refine wp_region_noPanic ?_
            refine wp_region_held_drew (S := (fun w' => w'.cell? ⟨hb, 0, none⟩ = some (.int .i64 s) ∧ w'.cell? ⟨hb, 1, none⟩ = some (.int .u32 g))) (by kernel_rfl) ?_ (fun hHeld => ?_)
            · exact ⟨P2.bx.c0, P2.bx.c1⟩
            have P5 := P2.on (Below.refl w9.heap.size w9).drew
            obtain ⟨w5, hw5⟩ : ∃ x_ : World, x_ = w9.drew := ⟨_, rfl⟩
            rw [← hw5] at P5 hHeld ⊢
            clear hw5 P2
            refine wpAnyH_take (i := 0) (oi := _) (v := ?_) rfl (by kernel_rfl) (by kernel_rfl) (by kernel_rfl) (fun _ _ _ h => h) (Or.inl ⟨by kernel_rfl, ?_⟩) (by assumption) ?_
            rotate_left
            · intro w hSw
              clear hSw
              go_simp
              with_reducible rfl
            try simp only [List.getElem_toArray, List.getElem_cons_succ, List.getElem_cons_zero, Act.put, List.setIfInBounds_toArray, List.set_cons_zero, List.set_cons_succ]
            refine wpAnyH_take (i := 1) (oi := _) (v := ?_) rfl (by kernel_rfl) (by kernel_rfl) (by kernel_rfl) (fun _ _ _ h => h) (Or.inl ⟨by kernel_rfl, ?_⟩) (by assumption) ?_
            rotate_left
            · intro w hSw
              obtain ⟨hq0, hq1⟩ := hSw
              go_simp
              with_reducible rfl
            try simp only [List.getElem_toArray, List.getElem_cons_succ, List.getElem_cons_zero, Act.put, List.setIfInBounds_toArray, List.set_cons_zero, List.set_cons_succ]
            refine wpAnyH_take (i := 2) (oi := _) (v := ?_) rfl (by kernel_rfl) (by kernel_rfl) (by kernel_rfl) (fun _ _ _ h => h) (Or.inl ⟨by kernel_rfl, ?_⟩) (by assumption) ?_
            rotate_left
            · intro w hSw
              clear hSw
              go_simp
              with_reducible rfl
            try simp only [List.getElem_toArray, List.getElem_cons_succ, List.getElem_cons_zero, Act.put, List.setIfInBounds_toArray, List.set_cons_zero, List.set_cons_succ]
            refine wpAnyH_take (i := 4) (oi := _) (v := ?_) rfl (by kernel_rfl) (by kernel_rfl) (by kernel_rfl) (fun _ _ _ h => h) (Or.inl ⟨by kernel_rfl, ?_⟩) (by assumption) ?_
            rotate_left
            · intro w hSw
              clear hSw
              go_simp
              with_reducible rfl
            try simp only [List.getElem_toArray, List.getElem_cons_succ, List.getElem_cons_zero, Act.put, List.setIfInBounds_toArray, List.set_cons_zero, List.set_cons_succ]
            refine wpAnyH_take (i := 5) (oi := _) (v := ?_) rfl (by kernel_rfl) (by kernel_rfl) (by kernel_rfl) (fun _ _ _ h => h) (Or.inl ⟨by kernel_rfl, ?_⟩) (by assumption) ?_
            rotate_left
            · intro w hSw
              obtain ⟨hq0, hq1⟩ := hSw
              go_simp
              with_reducible rfl
            try simp only [List.getElem_toArray, List.getElem_cons_succ, List.getElem_cons_zero, Act.put, List.setIfInBounds_toArray, List.set_cons_zero, List.set_cons_succ]
            refine wpAnyH_take (i := 6) (oi := _) (v := ?_) rfl (by kernel_rfl) (by kernel_rfl) (by kernel_rfl) (fun _ _ _ h => h) (Or.inl ⟨by kernel_rfl, ?_⟩) (by assumption) ?_
            rotate_left
            · intro w hSw
              clear hSw
              go_simp
              with_reducible rfl
            try simp only [List.getElem_toArray, List.getElem_cons_succ, List.getElem_cons_zero, Act.put, List.setIfInBounds_toArray, List.set_cons_zero, List.set_cons_succ]
            refine wpAnyH_ready (rs := [3]) (by kernel_rfl) (by simp) ?_
            refine AllReadyH.cons (o := _) rfl (fun K_ hK => ?_) AllReadyH.nil
            go_simp
            refine (K.puts _ _ _ s g nx _ P5.pr.fst sm.out ho).mono ?_; rintro e w6 ⟨rfl, S6, R6, f6, x6⟩
            have P6 := P5.one R6 f6 x6
            clear P5 R6 f6 x6
            show K_ _ _
            refine hK.out _ _ ⟨P6.bx.c0, P6.bx.c1⟩ (fun hH1 => ?_)
            clear hK K_ hHeld
            have hHeld := hH1
            clear hH1
            try simp only [List.getElem_toArray, List.getElem_cons_succ, List.getElem_cons_zero, Act.put, List.setIfInBounds_toArray, List.set_cons_zero, List.set_cons_succ]
            refine wpAnyH_ready (rs := [7]) (by kernel_rfl) (by simp) ?_
            refine AllReadyH.cons (o := _) rfl (fun K_ hK => ?_) AllReadyH.nil
            go_simp
            refine (K.puts _ _ _ s g nx _ P6.pr.snd sm.out ho).mono ?_; rintro e w7 ⟨rfl, T7, R7, f7, x7⟩
            have P7 := P6.two R7 f7 x7
            clear P6 R7 f7 x7
            show K_ _ _
            refine hK.out _ _ ⟨P7.bx.c0, P7.bx.c1⟩ (fun hH1 => ?_)
            clear hK K_ hHeld
            have hHeld := hH1
            clear hH1
            try simp only [List.getElem_toArray, List.getElem_cons_succ, List.getElem_cons_zero, Act.put, List.setIfInBounds_toArray, List.set_cons_zero, List.set_cons_succ]
            have PE := Lib.hid P7
            clear P7
            refine wpAnyH_take (i := 8) (oi := _) (v := ?_) rfl (by kernel_rfl) (by kernel_rfl) (by kernel_rfl) (fun _ _ _ h => h) (Or.inl ⟨by kernel_rfl, ?_⟩) (by assumption) ?_
            rotate_left
            · intro w hSw
              clear hSw
              go_simp
              with_reducible rfl
            try simp only [List.getElem_toArray, List.getElem_cons_succ, List.getElem_cons_zero, Act.put, List.setIfInBounds_toArray, List.set_cons_zero, List.set_cons_succ]
            refine wpAnyH_take (i := 9) (oi := _) (v := ?_) rfl (by kernel_rfl) (by kernel_rfl) (by kernel_rfl) (fun _ _ _ h => h) (Or.inl ⟨by kernel_rfl, ?_⟩) (by assumption) ?_
            rotate_left
            · intro w hSw
              clear hSw
              go_simp
              with_reducible rfl
            try simp only [List.getElem_toArray, List.getElem_cons_succ, List.getElem_cons_zero, Act.put, List.setIfInBounds_toArray, List.set_cons_zero, List.set_cons_succ]
            refine wpAnyH_done (by kernel_rfl) (NoPanic.normal ?_) _
            clear hHeld
            go_wp2
            go_meet
            exact ⟨by simp, x.putT s g nx, S6, T7, by first | rfl | (rw [show (x.putT s g nx).last = x.last by unfold Wh.putT; split <;> first | rfl | (split <;> rfl)]) , Nat.le_trans (Wh.put_len _ _ _ _) (Nat.succ_le_succ HX.out), PE.out⟩
          · as_aux_lemma =>
            have P2 := PP.out
            clear PP
            go_upto_region 15 with fail
            refine wp_region_noPanic ?_
            refine wp_region_held_drew (S := (fun w' => w'.cell? ⟨hb, 0, none⟩ = some (.int .i64 s) ∧ w'.cell? ⟨hb, 1, none⟩ = some (.int .u32 g))) (by kernel_rfl) ?_ (fun hHeld => ?_)
            · exact ⟨P2.bx.c0, P2.bx.c1⟩
            have P5 := P2.on (Below.refl w9.heap.size w9).drew
            obtain ⟨w5, hw5⟩ : ∃ x_ : World, x_ = w9.drew := ⟨_, rfl⟩
            rw [← hw5] at P5 hHeld ⊢
            clear hw5 P2
            refine wpAnyH_take (i := 0) (oi := _) (v := ?_) rfl (by kernel_rfl) (by kernel_rfl) (by kernel_rfl) (fun _ _ _ h => h) (Or.inl ⟨by kernel_rfl, ?_⟩) (by assumption) ?_
            rotate_left
            · intro w hSw
              clear hSw
              go_simp
              with_reducible rfl
            try simp only [List.getElem_toArray, List.getElem_cons_succ, List.getElem_cons_zero, Act.put, List.setIfInBounds_toArray, List.set_cons_zero, List.set_cons_succ]
            refine wpAnyH_take (i := 1) (oi := _) (v := ?_) rfl (by kernel_rfl) (by kernel_rfl) (by kernel_rfl) (fun _ _ _ h => h) (Or.inl ⟨by kernel_rfl, ?_⟩) (by assumption) ?_
            rotate_left
            · intro w hSw
              obtain ⟨hq0, hq1⟩ := hSw
              go_simp
              with_reducible rfl
            try simp only [List.getElem_toArray, List.getElem_cons_succ, List.getElem_cons_zero, Act.put, List.setIfInBounds_toArray, List.set_cons_zero, List.set_cons_succ]
            refine wpAnyH_take (i := 3) (oi := _) (v := ?_) rfl (by kernel_rfl) (by kernel_rfl) (by kernel_rfl) (fun _ _ _ h => h) (Or.inl ⟨by kernel_rfl, ?_⟩) (by assumption) ?_
            rotate_left
            · intro w hSw
              clear hSw
              go_simp
              with_reducible rfl
            try simp only [List.getElem_toArray, List.getElem_cons_succ, List.getElem_cons_zero, Act.put, List.setIfInBounds_toArray, List.set_cons_zero, List.set_cons_succ]
            refine wpAnyH_take (i := 4) (oi := _) (v := ?_) rfl (by kernel_rfl) (by kernel_rfl) (by kernel_rfl) (fun _ _ _ h => h) (Or.inl ⟨by kernel_rfl, ?_⟩) (by assumption) ?_
            rotate_left
            · intro w hSw
              obtain ⟨hq0, hq1⟩ := hSw
              go_simp
              with_reducible rfl
            try simp only [List.getElem_toArray, List.getElem_cons_succ, List.getElem_cons_zero, Act.put, List.setIfInBounds_toArray, List.set_cons_zero, List.set_cons_succ]
            refine wpAnyH_ready (rs := [2]) (by kernel_rfl) (by simp) ?_
            refine AllReadyH.cons (o := _) rfl (fun K_ hK => ?_) AllReadyH.nil
            go_simp
            refine (K.cuts _ _ _ s g _ P5.pr.fst sm.out ho).mono ?_; rintro e w6 ⟨rfl, S6, R6, f6, x6⟩
            have P6 := P5.one R6 f6 x6
            clear P5 R6 f6 x6
            show K_ _ _
            refine hK.out _ _ ⟨P6.bx.c0, P6.bx.c1⟩ (fun hH1 => ?_)
            clear hK K_ hHeld
            have hHeld := hH1
            clear hH1
            try simp only [List.getElem_toArray, List.getElem_cons_succ, List.getElem_cons_zero, Act.put, List.setIfInBounds_toArray, List.set_cons_zero, List.set_cons_succ]
            refine wpAnyH_ready (rs := [5]) (by kernel_rfl) (by simp) ?_
            refine AllReadyH.cons (o := _) rfl (fun K_ hK => ?_) AllReadyH.nil
            go_simp
            refine (K.cuts _ _ _ s g _ P6.pr.snd sm.out ho).mono ?_; rintro e w7 ⟨rfl, T7, R7, f7, x7⟩
            have P7 := P6.two R7 f7 x7
            clear P6 R7 f7 x7
            show K_ _ _
            refine hK.out _ _ ⟨P7.bx.c0, P7.bx.c1⟩ (fun hH1 => ?_)
            clear hK K_ hHeld
            have hHeld := hH1
            clear hH1
            try simp only [List.getElem_toArray, List.getElem_cons_succ, List.getElem_cons_zero, Act.put, List.setIfInBounds_toArray, List.set_cons_zero, List.set_cons_succ]
            have PE := Lib.hid P7
            clear P7
            refine wpAnyH_take (i := 6) (oi := _) (v := ?_) rfl (by kernel_rfl) (by kernel_rfl) (by kernel_rfl) (fun _ _ _ h => h) (Or.inl ⟨by kernel_rfl, ?_⟩) (by assumption) ?_
            rotate_left
            · intro w hSw
              clear hSw
              go_simp
              with_reducible rfl
            try simp only [List.getElem_toArray, List.getElem_cons_succ, List.getElem_cons_zero, Act.put, List.setIfInBounds_toArray, List.set_cons_zero, List.set_cons_succ]
            refine wpAnyH_take (i := 7) (oi := _) (v := ?_) rfl (by kernel_rfl) (by kernel_rfl) (by kernel_rfl) (fun _ _ _ h => h) (Or.inl ⟨by kernel_rfl, ?_⟩) (by assumption) ?_
            rotate_left
            · intro w hSw
              clear hSw
              go_simp
              with_reducible rfl
            try simp only [List.getElem_toArray, List.getElem_cons_succ, List.getElem_cons_zero, Act.put, List.setIfInBounds_toArray, List.set_cons_zero, List.set_cons_succ]
            refine wpAnyH_done (by kernel_rfl) (NoPanic.normal ?_) _
            clear hHeld
            go_wp2
            go_meet
            exact ⟨by simp, x.cutT s g, S6, T7, by first | rfl | (rw [show (x.putT s g nx).last = x.last by unfold Wh.putT; split <;> first | rfl | (split <;> rfl)]) , Nat.le_trans (Wh.cut_len _ _ _) (Nat.le_succ_of_le HX.out), PE.out⟩
          · as_aux_lemma =>
            have P2 := PP.out
            clear PP
            have eE : x.turnE nx = 0 := by unfold Wh.turnE; rw [HNX.out, if_pos HMT.out]
            have eL : Hid (nx = ((x.turnT nx).last : Int)) := by show _ = _; unfold Wh.turnT; rw [HNX.out, if_pos HMT.out]; rfl
            have t1 := K.turns _ _ _ nx w9 P2.pr.fst sm.out
            have t2 := fun (u : World) (U : Nat → Prop) (R : K.Rep u U p x) => K.turns p U x nx u R sm.out
            rw [eE] at t1
            simp only [eE] at t2
            clear eE
            go_wp2_with fail
            refine t1.mono ?_; rintro e w6 ⟨a6, c6, S6, rfl, R6, f6, x6, sl6, ne6⟩
            have P6 := P2.one R6 f6 x6
            have NB : Hid (∀ b off, a6 = some ⟨b, off, none⟩ → ¬ T b) := fun b off e hT => absurd (K.lt P2.pr.snd b hT) (Nat.not_lt_of_le (ne6 b off e).2.1)
            clear P2 R6 f6 x6 ne6
            go_wp2_with fail
            clear t1
            refine (t2 _ _ P6.pr.snd).mono ?_; rintro e w7 ⟨a7, c7, T7, rfl, R7, f7, x7, sl7, ne7⟩
            have P7 := P6.two R7 f7 x7
            clear t2
            have sl6 := sl6.by x7 NB.out
            clear P6 R7 f7 x7 ne7
            have hL : (x.turnL nx).length ≤ 1000 := by
              refine Nat.le_trans ?_ sm.out
              unfold Wh.turnL
              split
              · exact List.length_filter_le _ _
              · exact Nat.zero_le _
            have ks := same15_ a6 a7 c6 c7 ((x.turnL nx).map Ti.h) _ (by rw [List.length_map]; exact hL) sl6 sl7
            rw [List.length_map] at ks
            clear sl6 sl7 hL
            generalize (x.turnL nx).length = nL at ks
            go_wp2_with fail
            refine ks.mono ?_; rintro e w8 ⟨rfl, x8⟩
            have PE := Lib.hid (P7.on x8)
            clear P7 x8 ks
            go_wp2
            go_meet
            exact ⟨by simp, x.turnT nx, S6, T7, congrArg (Value.int .i64) eL.out, Nat.le_trans (Wh.turn_len _ _) (Nat.le_succ_of_le HX.out), PE.out⟩
          · as_aux_lemma =>
            have P2 := PP.out
            clear PP
            have eE : x.turnE nx = 0 := by unfold Wh.turnE; rw [HNX.out, if_pos HMT.out]
            have eL : Hid (nx = ((x.turnT nx).last : Int)) := by show _ = _; unfold Wh.turnT; rw [HNX.out, if_pos HMT.out]; rfl
            have t1 := K.turns _ _ _ nx w9 P2.pr.fst sm.out
            have t2 := fun (u : World) (U : Nat → Prop) (R : K.Rep u U p x) => K.turns p U x nx u R sm.out
            rw [eE] at t1
            simp only [eE] at t2
            clear eE
            go_wp2_with fail
            refine t1.mono ?_; rintro e w6 ⟨a6, c6, S6, rfl, R6, f6, x6, sl6, ne6⟩
            have P6 := P2.one R6 f6 x6
            have NB : Hid (∀ b off, a6 = some ⟨b, off, none⟩ → ¬ T b) := fun b off e hT => absurd (K.lt P2.pr.snd b hT) (Nat.not_lt_of_le (ne6 b off e).2.1)
            clear P2 R6 f6 x6 ne6
            go_wp2_with fail
            clear t1
            refine (t2 _ _ P6.pr.snd).mono ?_; rintro e w7 ⟨a7, c7, T7, rfl, R7, f7, x7, sl7, ne7⟩
            have P7 := P6.two R7 f7 x7
            clear t2
            have sl6 := sl6.by x7 NB.out
            clear P6 R7 f7 x7 ne7
            have hL : (x.turnL nx).length ≤ 1000 := by
              refine Nat.le_trans ?_ sm.out
              unfold Wh.turnL
              split
              · exact List.length_filter_le _ _
              · exact Nat.zero_le _
            have ks := same15_ a6 a7 c6 c7 ((x.turnL nx).map Ti.h) _ (by rw [List.length_map]; exact hL) sl6 sl7
            rw [List.length_map] at ks
            clear sl6 sl7 hL
            generalize (x.turnL nx).length = nL at ks
            go_wp2_with fail
            refine ks.mono ?_; rintro e w8 ⟨rfl, x8⟩
            have PE := Lib.hid (P7.on x8)
            clear P7 x8 ks
            go_wp2
            go_meet
            exact ⟨by simp, x.turnT nx, S6, T7, congrArg (Value.int .i64) eL.out, Nat.le_trans (Wh.turn_len _ _) (Nat.le_succ_of_le HX.out), PE.out⟩
        case rest =>
          obtain ⟨rfl, x2, S2, T2, rfl, hx2, P9⟩ := hcut
          clear PP
          have sm2 : x2.l.length ≤ 1000 := Nat.le_trans hx2 (Nat.le_trans (Nat.succ_le_of_lt HL.out) (Nat.le_trans H200.out (by decide)))
          have HX2 := Lib.hid hx2
          clear hx2
          go_wp2_with fail
          refine Calls.mono (K.nexts _ _ _ _ P9.pr.fst sm2) ?_; rintro e w10 ⟨rfl, x10_⟩
          have P10 := P9.on x10_
          clear P9 x10_
          go_wp2_with fail
          refine Calls.mono (K.nexts _ _ _ _ P10.pr.snd sm2) ?_; rintro e w11 ⟨rfl, x11_⟩
          have P11 := P10.on x11_
          clear P10 x11_
          generalize hq3 : ((x2.nextN : Nat) : Int) = nv
          generalize hq4 : x2.nextB = nbv
          clear hq3 hq4
          go_wp2_with fail
          refine Calls.mono (K.counts _ _ _ _ P11.pr.fst sm2) ?_; rintro e w12 ⟨rfl, x12_⟩
          have P12 := P11.on x12_
          clear P11 x12_
          go_wp2_with fail
          refine Calls.mono (K.counts _ _ _ _ P12.pr.snd sm2) ?_; rintro e w13 ⟨rfl, x13_⟩
          have P13 := P12.on x13_
          clear P12 x13_
          have PE := Lib.hid P13.pr
          clear P13
          go_wp2
          go_roundw
          case rel => exact ⟨i + 1, x2, S2, T2, HL.out, by simp [EW.out], rfl, HX2.out, PE.out⟩
          case measure => first | exact step_meas15 EW.out (step_less15 HL.out) | (simp [EW.out]; exact step_less15 HL.out) | exact step_less15 HL.out
      refine wp_region_noPanic ?_
      refine wp_region_held_drew (S := (fun w' => w'.cell? ⟨xb, 1, none⟩ = some (.int .u8 hh) ∧ w'.cell? ⟨xb, 2, none⟩ = some (.int .u16 (bn : Int)))) (by kernel_rfl) ?_ (fun hHeld => ?_)
      · exact ⟨x1, x2⟩
      have bD := (Below.refl w4.heap.size w4).drew
      have PD := P2.on bD
      have XD : XBox w4.drew xb kd rs rg nn := (XBox.mk xz x0 x3 x4 x5 : XBox w4 xb kd rs rg nn).on bD
      have zD : w.heap.size ≤ w4.drew.heap.size := PD.below.size
      obtain ⟨w5, hw5⟩ : ∃ x_ : World, x_ = w4.drew := ⟨_, rfl⟩
      rw [← hw5] at PD XD zD hHeld ⊢
      clear hw5 bD P2 x0 x1 x2 x3 x4 x5 xz
      refine wpAnyH_take (i := 0) (oi := _) (v := ?_) rfl (by kernel_rfl) (by kernel_rfl) (by kernel_rfl) (fun _ _ _ h => h) (Or.inl ⟨by kernel_rfl, ?_⟩) (by assumption) ?_
      rotate_left
      · intro w hSw
        clear hSw
        go_simp
        with_reducible rfl
      try simp only [List.getElem_toArray, List.getElem_cons_succ, List.getElem_cons_zero, Act.put, List.setIfInBounds_toArray, List.set_cons_zero, List.set_cons_succ]
      refine wpAnyH_take (i := 1) (oi := _) (v := ?_) rfl (by kernel_rfl) (by kernel_rfl) (by kernel_rfl) (fun _ _ _ h => h) (Or.inl ⟨by kernel_rfl, ?_⟩) (by assumption) ?_
      rotate_left
      · intro w hSw
        obtain ⟨hq0, hq1⟩ := hSw
        go_simp
        with_reducible rfl
      try simp only [List.getElem_toArray, List.getElem_cons_succ, List.getElem_cons_zero, Act.put, List.setIfInBounds_toArray, List.set_cons_zero, List.set_cons_succ]
      refine wpAnyH_take (i := 3) (oi := _) (v := ?_) rfl (by kernel_rfl) (by kernel_rfl) (by kernel_rfl) (fun _ _ _ h => h) (Or.inl ⟨by kernel_rfl, ?_⟩) (by assumption) ?_
      rotate_left
      · intro w hSw
        clear hSw
        go_simp
        with_reducible rfl
      try simp only [List.getElem_toArray, List.getElem_cons_succ, List.getElem_cons_zero, Act.put, List.setIfInBounds_toArray, List.set_cons_zero, List.set_cons_succ]
      refine wpAnyH_take (i := 4) (oi := _) (v := ?_) rfl (by kernel_rfl) (by kernel_rfl) (by kernel_rfl) (fun _ _ _ h => h) (Or.inl ⟨by kernel_rfl, ?_⟩) (by assumption) ?_
      rotate_left
      · intro w hSw
        clear hSw
        go_simp
        with_reducible rfl
      try simp only [List.getElem_toArray, List.getElem_cons_succ, List.getElem_cons_zero, Act.put, List.setIfInBounds_toArray, List.set_cons_zero, List.set_cons_succ]
      refine wpAnyH_take (i := 5) (oi := _) (v := ?_) rfl (by kernel_rfl) (by kernel_rfl) (by kernel_rfl) (fun _ _ _ h => h) (Or.inl ⟨by kernel_rfl, ?_⟩) (by assumption) ?_
      rotate_left
      · intro w hSw
        obtain ⟨hq0, hq1⟩ := hSw
        go_simp
        with_reducible rfl
      try simp only [List.getElem_toArray, List.getElem_cons_succ, List.getElem_cons_zero, Act.put, List.setIfInBounds_toArray, List.set_cons_zero, List.set_cons_succ]
      refine wpAnyH_take (i := 6) (oi := _) (v := ?_) rfl (by kernel_rfl) (by kernel_rfl) (by kernel_rfl) (fun _ _ _ h => h) (Or.inl ⟨by kernel_rfl, ?_⟩) (by assumption) ?_
      rotate_left
      · intro w hSw
        clear hSw
        go_simp
        with_reducible rfl
      try simp only [List.getElem_toArray, List.getElem_cons_succ, List.getElem_cons_zero, Act.put, List.setIfInBounds_toArray, List.set_cons_zero, List.set_cons_succ]
      refine wpAnyH_take (i := 7) (oi := _) (v := ?_) rfl (by kernel_rfl) (by kernel_rfl) (by kernel_rfl) (fun _ _ _ h => h) (Or.inl ⟨by kernel_rfl, ?_⟩) (by assumption) ?_
      rotate_left
      · intro w hSw
        clear hSw
        go_simp
        with_reducible rfl
      try simp only [List.getElem_toArray, List.getElem_cons_succ, List.getElem_cons_zero, Act.put, List.setIfInBounds_toArray, List.set_cons_zero, List.set_cons_succ]
      refine wpAnyH_take (i := 8) (oi := _) (v := ?_) rfl (by kernel_rfl) (by kernel_rfl) (by kernel_rfl) (fun _ _ _ h => h) (Or.inl ⟨by kernel_rfl, ?_⟩) (by assumption) ?_
      rotate_left
      · intro w hSw
        obtain ⟨hq0, hq1⟩ := hSw
        go_simp
        with_reducible rfl
      try simp only [List.getElem_toArray, List.getElem_cons_succ, List.getElem_cons_zero, Act.put, List.setIfInBounds_toArray, List.set_cons_zero, List.set_cons_succ]
      refine wpAnyH_take (i := 9) (oi := _) (v := ?_) rfl (by kernel_rfl) (by kernel_rfl) (by kernel_rfl) (fun _ _ _ h => h) (Or.inl ⟨by kernel_rfl, ?_⟩) (by assumption) ?_
      rotate_left
      · intro w hSw
        clear hSw
        go_simp
        with_reducible rfl
      try simp only [List.getElem_toArray, List.getElem_cons_succ, List.getElem_cons_zero, Act.put, List.setIfInBounds_toArray, List.set_cons_zero, List.set_cons_succ]
      refine wpAnyH_take (i := 10) (oi := _) (v := ?_) rfl (by kernel_rfl) (by kernel_rfl) (by kernel_rfl) (fun _ _ _ h => h) (Or.inl ⟨by kernel_rfl, ?_⟩) (by assumption) ?_
      rotate_left
      · intro w hSw
        clear hSw
        go_simp
        with_reducible rfl
      try simp only [List.getElem_toArray, List.getElem_cons_succ, List.getElem_cons_zero, Act.put, List.setIfInBounds_toArray, List.set_cons_zero, List.set_cons_succ]
      refine wpAnyH_take (i := 11) (oi := _) (v := ?_) rfl (by kernel_rfl) (by kernel_rfl) (by kernel_rfl) (fun _ _ _ h => h) (Or.inl ⟨by kernel_rfl, ?_⟩) (by assumption) ?_
      rotate_left
      · intro w hSw
        clear hSw
        go_simp
        with_reducible rfl
      try simp only [List.getElem_toArray, List.getElem_cons_succ, List.getElem_cons_zero, Act.put, List.setIfInBounds_toArray, List.set_cons_zero, List.set_cons_succ]
      refine wpAnyH_take (i := 12) (oi := _) (v := ?_) rfl (by kernel_rfl) (by kernel_rfl) (by kernel_rfl) (fun _ _ _ h => h) (Or.inl ⟨by kernel_rfl, ?_⟩) (by assumption) ?_
      rotate_left
      · intro w hSw
        clear hSw
        go_simp
        with_reducible rfl
      try simp only [List.getElem_toArray, List.getElem_cons_succ, List.getElem_cons_zero, Act.put, List.setIfInBounds_toArray, List.set_cons_zero, List.set_cons_succ]
      refine wpAnyH_ready (rs := [2, 13]) (by kernel_rfl) (by simp) ?_
      refine AllReadyH.cons (o := _) rfl (fun K_ hK => ?_) ?_
      · go_simp
        refine (handle15_ hh _ HO.out.2.1.1 HO.out.2.1.2).mono ?_; rintro e w6 ⟨rfl, b6⟩
        have S6 := PD.on b6
        have X6 := XD.on b6
        have z6 := Nat.le_trans zD b6.size
        show K_ _ _
        refine hK.out _ _ ⟨(b6.cell (p := ⟨xb, 1, none⟩) XD.lt).trans hHeld.1, (b6.cell (p := ⟨xb, 2, none⟩) XD.lt).trans hHeld.2⟩ (fun hH1 => ?_)
        clear hK K_ hHeld
        have hHeld := hH1
        clear hH1
        try simp only [List.getElem_toArray, List.getElem_cons_succ, List.getElem_cons_zero, Act.put, List.setIfInBounds_toArray, List.set_cons_zero, List.set_cons_succ]
        clear PD XD zD b6
        refine wpAnyH_ready (rs := [13]) (by kernel_rfl) (by simp) ?_
        refine AllReadyH.cons (o := _) rfl (fun K_ hK => ?_) AllReadyH.nil
        go_simp
        have b7 : Below w6.heap.size w6 (w6.alloc (.cells #[.int .i64 0, .int .u32 0] 34)) := (Below.refl _ _).alloc (Nat.le_refl _) _
        refine hK.out _ _ ⟨(b7.cell (p := ⟨xb, 1, none⟩) X6.lt).trans hHeld.1, (b7.cell (p := ⟨xb, 2, none⟩) X6.lt).trans hHeld.2⟩ (fun hH1 => ?_)
        clear hK K_ hHeld
        have hHeld := hH1
        clear hH1
        try simp only [List.getElem_toArray, List.getElem_cons_succ, List.getElem_cons_zero, Act.put, List.setIfInBounds_toArray, List.set_cons_zero, List.set_cons_succ]
        have H7 := HBox.made w6 34 0 0
        have S7 := S6.on b7
        have X7 := X6.on b7
        have nS7 : ¬ S w6.heap.size := fun h => Nat.lt_irrefl _ (K.lt S6.fst _ h)
        have nT7 : ¬ T w6.heap.size := fun h => Nat.lt_irrefl _ (K.lt S6.snd _ h)
        have ne7 : ¬ w6.heap.size = xb := fun e => Nat.lt_irrefl _ (e ▸ X6.lt)
        obtain ⟨hb, hhb⟩ : ∃ b_, b_ = w6.heap.size := ⟨_, rfl⟩
        obtain ⟨w7, hw7⟩ : ∃ x_ : World, x_ = w6.alloc (.cells #[.int .i64 0, .int .u32 0] 34) := ⟨_, rfl⟩
        rw [← hw7, ← hhb] at H7
        rw [← hw7] at S7 X7 hHeld ⊢
        rw [← hhb] at nS7 nT7 ne7 z6 ⊢
        clear hw7 hhb S6 X6 b7
        refine wpAnyH_ready (rs := [14]) (by kernel_rfl) (by simp) ?_
        refine AllReadyH.cons (o := _) rfl (fun K_ hK => ?_) AllReadyH.nil
        have c0 := H7.c0
        have c1 := H7.c1
        have f0 := H7.fz 0
        have f1 := H7.fz 1
        have G9 : PairH K.toObjP K.toObjP w w7 S T q p x x hb 0 0 := ⟨S7, H7, z6, nS7, nT7⟩
        have G8 := Lib.hid (G9.set (hS hh) (hG hh))
        have W8 := HBox.wrote w7 hb (hS hh) (hG hh)
        have X9 := Lib.hid (X7.by W8 (fun e => ne7 e.symm))
        have q8 : Hid (((w7.setCell ⟨hb, 0, none⟩ (.int .i64 (hS hh))).setCell ⟨hb, 1, none⟩ (.int .u32 (hG hh))).cell? ⟨xb, 1, none⟩ = some (.int .u8 hh) ∧ ((w7.setCell ⟨hb, 0, none⟩ (.int .i64 (hS hh))).setCell ⟨hb, 1, none⟩ (.int .u32 (hG hh))).cell? ⟨xb, 2, none⟩ = some (.int .u16 (bn : Int))) :=
          ⟨(W8.cell (p := ⟨xb, 1, none⟩) X7.lt (fun e => ne7 e.symm)).trans hHeld.1, (W8.cell (p := ⟨xb, 2, none⟩) X7.lt (fun e => ne7 e.symm)).trans hHeld.2⟩
        clear G9 W8 S7 H7 X7
        go_simp
        refine hK.out _ _ q8.out (fun hH1 => ?_)
        clear hK K_ hHeld
        have hHeld := hH1
        clear hH1
        try simp only [List.getElem_toArray, List.getElem_cons_succ, List.getElem_cons_zero, Act.put, List.setIfInBounds_toArray, List.set_cons_zero, List.set_cons_succ]
        clear c0 c1 f0 f1 q8
        refine wpAnyH_take (i := 15) (oi := _) (v := ?_) rfl (by kernel_rfl) (by kernel_rfl) (by kernel_rfl) (fun _ _ _ h => h) (Or.inl ⟨by kernel_rfl, ?_⟩) (by assumption) ?_
        rotate_left
        · intro w hSw
          clear hSw
          go_simp
          with_reducible rfl
        try simp only [List.getElem_toArray, List.getElem_cons_succ, List.getElem_cons_zero, Act.put, List.setIfInBounds_toArray, List.set_cons_zero, List.set_cons_succ]
        refine wpAnyH_done (by kernel_rfl) (NoPanic.normal ?_) _
        clear hHeld
        go_wp2
        go_meet
        exact ⟨_, hb, hS hh, hG hh, rfl, by simp, by first | rfl | exact congrArg (Value.int .i64) qm | simp [qm], h_ok HO.out.2.1.1 HO.out.2.1.2, nS7, nT7, ne7, G8.out, X9.out⟩
      refine AllReadyH.cons (o := _) rfl (fun K_ hK => ?_) AllReadyH.nil
      go_simp
      have b7 : Below w5.heap.size w5 (w5.alloc (.cells #[.int .i64 0, .int .u32 0] 34)) := (Below.refl _ _).alloc (Nat.le_refl _) _
      refine hK.out _ _ ⟨(b7.cell (p := ⟨xb, 1, none⟩) XD.lt).trans hHeld.1, (b7.cell (p := ⟨xb, 2, none⟩) XD.lt).trans hHeld.2⟩ (fun hH1 => ?_)
      clear hK K_ hHeld
      have hHeld := hH1
      clear hH1
      try simp only [List.getElem_toArray, List.getElem_cons_succ, List.getElem_cons_zero, Act.put, List.setIfInBounds_toArray, List.set_cons_zero, List.set_cons_succ]
      have H7 := HBox.made w5 34 0 0
      have S7 := PD.on b7
      have X7 := XD.on b7
      have nS7 : ¬ S w5.heap.size := fun h => Nat.lt_irrefl _ (K.lt PD.fst _ h)
      have nT7 : ¬ T w5.heap.size := fun h => Nat.lt_irrefl _ (K.lt PD.snd _ h)
      have ne7 : ¬ w5.heap.size = xb := fun e => Nat.lt_irrefl _ (e ▸ XD.lt)
      have z6 := zD
      obtain ⟨hb, hhb⟩ : ∃ b_, b_ = w5.heap.size := ⟨_, rfl⟩
      obtain ⟨w4_, hw7⟩ : ∃ x_ : World, x_ = w5.alloc (.cells #[.int .i64 0, .int .u32 0] 34) := ⟨_, rfl⟩
      rw [← hw7, ← hhb] at H7
      rw [← hw7] at S7 X7 hHeld ⊢
      rw [← hhb] at nS7 nT7 ne7 z6 ⊢
      clear hw7 hhb PD XD b7 zD
      refine wpAnyH_ready (rs := [2]) (by kernel_rfl) (by simp) ?_
      refine AllReadyH.cons (o := _) rfl (fun K_ hK => ?_) AllReadyH.nil
      go_simp
      refine (handle15_ hh _ HO.out.2.1.1 HO.out.2.1.2).mono ?_; rintro e w6 ⟨rfl, b6⟩
      have H8 := H7.on b6
      have S8 := S7.on b6
      have X8 := X7.on b6
      show K_ _ _
      refine hK.out _ _ ⟨(b6.cell (p := ⟨xb, 1, none⟩) X7.lt).trans hHeld.1, (b6.cell (p := ⟨xb, 2, none⟩) X7.lt).trans hHeld.2⟩ (fun hH1 => ?_)
      clear hK K_ hHeld
      have hHeld := hH1
      clear hH1
      try simp only [List.getElem_toArray, List.getElem_cons_succ, List.getElem_cons_zero, Act.put, List.setIfInBounds_toArray, List.set_cons_zero, List.set_cons_succ]
      clear H7 S7 X7 b6
      have H7 := H8
      have S7 := S8
      have X7 := X8
      clear H8 S8 X8
      obtain ⟨w7, hw7⟩ : ∃ x_ : World, x_ = w6 := ⟨_, rfl⟩
      rw [← hw7] at H7 S7 X7 hHeld ⊢
      clear hw7
      refine wpAnyH_ready (rs := [14]) (by kernel_rfl) (by simp) ?_
      refine AllReadyH.cons (o := _) rfl (fun K_ hK => ?_) AllReadyH.nil
      have c0 := H7.c0
      have c1 := H7.c1
      have f0 := H7.fz 0
      have f1 := H7.fz 1
      have G9 : PairH K.toObjP K.toObjP w w7 S T q p x x hb 0 0 := ⟨S7, H7, z6, nS7, nT7⟩
      have G8 := Lib.hid (G9.set (hS hh) (hG hh))
      have W8 := HBox.wrote w7 hb (hS hh) (hG hh)
      have X9 := Lib.hid (X7.by W8 (fun e => ne7 e.symm))
      have q8 : Hid (((w7.setCell ⟨hb, 0, none⟩ (.int .i64 (hS hh))).setCell ⟨hb, 1, none⟩ (.int .u32 (hG hh))).cell? ⟨xb, 1, none⟩ = some (.int .u8 hh) ∧ ((w7.setCell ⟨hb, 0, none⟩ (.int .i64 (hS hh))).setCell ⟨hb, 1, none⟩ (.int .u32 (hG hh))).cell? ⟨xb, 2, none⟩ = some (.int .u16 (bn : Int))) :=
        ⟨(W8.cell (p := ⟨xb, 1, none⟩) X7.lt (fun e => ne7 e.symm)).trans hHeld.1, (W8.cell (p := ⟨xb, 2, none⟩) X7.lt (fun e => ne7 e.symm)).trans hHeld.2⟩
      clear G9 W8 S7 H7 X7
      go_simp
      refine hK.out _ _ q8.out (fun hH1 => ?_)
      clear hK K_ hHeld
      have hHeld := hH1
      clear hH1
      try simp only [List.getElem_toArray, List.getElem_cons_succ, List.getElem_cons_zero, Act.put, List.setIfInBounds_toArray, List.set_cons_zero, List.set_cons_succ]
      clear c0 c1 f0 f1 q8
      refine wpAnyH_take (i := 15) (oi := _) (v := ?_) rfl (by kernel_rfl) (by kernel_rfl) (by kernel_rfl) (fun _ _ _ h => h) (Or.inl ⟨by kernel_rfl, ?_⟩) (by assumption) ?_
      rotate_left
      · intro w hSw
        clear hSw
        go_simp
        with_reducible rfl
      try simp only [List.getElem_toArray, List.getElem_cons_succ, List.getElem_cons_zero, Act.put, List.setIfInBounds_toArray, List.set_cons_zero, List.set_cons_succ]
      refine wpAnyH_done (by kernel_rfl) (NoPanic.normal ?_) _
      clear hHeld
      go_wp2
      go_meet
      exact ⟨_, hb, hS hh, hG hh, rfl, by simp, by first | rfl | exact congrArg (Value.int .i64) qm | simp [qm], h_ok HO.out.2.1.1 HO.out.2.1.2, nS7, nT7, ne7, G8.out, X9.out⟩
    · obtain rfl : i = len := Nat.le_antisymm hi (Nat.le_of_not_lt hlt)
      have t1 : decide ((i : Int) < (i : Int)) = false := by simp
      have B3 := P1.below
      clear P1
      go_wp2_with fail
      refine (timed_ K _).mono ?_; rintro e w9 ⟨rfl, x9⟩
      have B9 := B3.trans (x9.mono B3.size)
      clear B3 x9
      go_wp2
      go_ret
      exact ⟨rfl, B9⟩
end Go.Proofs.Ytmephmjlajaopaa.WheelsSizes
