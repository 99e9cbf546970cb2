/- SlabOnce (layer 13). Written by gen_slabonce.py. -/
import Derived.Test.YtlnbjpabcldmnaaSlaS
import Derived.Test.YtlnbjpabcldmnaaSlaOn
import Derived.Deep.CutBlock
import Derived.BigRegion
import Derived.StillTailTactics
import Derived.Test.YtlnbjpabcldmnaaRegion
namespace Go.Proofs.Ytlnbjpabcldmnaa.SlabOnce
set_option linter.unusedVariables false
set_option linter.unusedSimpArgs false
open Go.ChangeShapes Go.WideShapes Go.ChangeAt Go.RowKit Go.PlainAid
attribute [local go_sem ↓] Go.wp_at_zero Go.wp_at_succ
/-- A box of five cells. -/
structure Box5 (w : World) (b : Nat) (x : A13) : Prop where
  lt : b < w.heap.size
  c0 : w.cell? ⟨b, 0, none⟩ = some (.int .u8 x.kd)
  c1 : w.cell? ⟨b, 1, none⟩ = some (.int .u8 x.at_)
theorem Box5.make (w : World) (x : A13) (T : TypeId) : Box5 (w.alloc (.cells #[.int .u8 x.kd, .int .u8 x.at_, .int .i64 x.s, .int .u32 x.g, .int .i64 x.raw] T)) w.heap.size x := ⟨by simp, by simp [go_sem], by simp [go_sem]⟩
theorem Box5.keep {w w' : World} {b : Nat} {x : A13} (h : Box5 w b x) (hs : w.heap.size ≤ w'.heap.size) (hb : w'.heap[b]? = w.heap[b]?) : Box5 w' b x :=
  ⟨Nat.lt_of_lt_of_le h.lt hs, (World.cell?_of_block (w := w) (a := ⟨b, 0, none⟩) hb).trans h.c0, (World.cell?_of_block (w := w) (a := ⟨b, 1, none⟩) hb).trans h.c1⟩
theorem Box5.on {w w' : World} {b : Nat} {x : A13} (h : Box5 w b x) (hb : Below w.heap.size w w') : Box5 w' b x := h.keep hb.size (hb.block b h.lt)
theorem Box5.by {S : Nat → Prop} {w w' : World} {b : Nat} {x : A13} (h : Box5 w b x) (hb : Beside S w w') (hn : ¬ S b) : Box5 w' b x := h.keep hb.size (hb.block b h.lt hn)
theorem u8_nat {z : Int} {g : Nat} (h : z = g) (hz : z ≤ 255) : g ≤ 255 := by omega
theorem eight {z k : Int} (h0 : 0 ≤ z) (h : z.tmod 8 = k) : k = 0 ∨ k = 1 ∨ k = 2 ∨ k = 3 ∨ k = 4 ∨ k = 5 ∨ k = 6 ∨ k = 7 := by
  rw [Int.tmod_eq_emod_of_nonneg h0] at h
  omega
/-- append, as one step of a region that draws or not. -/
theorem boolP (w : World) (z : Bool) (T : TypeId) : ∀ j u, ([Value.bool z])[j]? = some u → (w.alloc (.cells #[.bool z] T)).cell? ((⟨w.heap.size, 0, none⟩ : Addr).add j) = some u := by
  intro j u hj
  rw [Addr.add_lit, Nat.zero_add]
  match j, hj with
  | 0, hj => simp only [List.getElem?_cons_zero, Option.some.injEq] at hj; subst hj; simp [go_sem]
  | j + 1, hj => simp at hj
theorem onesB (z : Bool) : ∀ u ∈ [Value.bool z], u.oneCell' = true := by
  intro u hu
  simp only [List.mem_cons, List.not_mem_nil, or_false] at hu
  subst hu; rfl
theorem bool_info : ∃ i0, Try.prog.info? 4 = some i0 ∧ i0.zero = some (.bool false) ∧ i0.size = 1 ∧ i0.bytes = 1 := by
  have h : (Try.prog.info? 4).map (fun i => (i.zero, i.size, i.bytes)) = some (some (.bool false), 1, 1) := by kernel_rfl
  cases hq : Try.prog.info? 4 with
  | none => rw [hq] at h; simp at h
  | some i0 =>
    rw [hq] at h
    simp only [Option.map_some, Option.some.injEq, Prod.mk.injEq] at h
    exact ⟨i0, rfl, h.1, h.2.1, h.2.2⟩
/-- A slice of bools that is made. -/
theorem made_bools (n : Nat) (hn : n ≤ 300) : ∀ u : World, (Instr.makeSlice 53 (.int .i64 (n : Int)) (.int .i64 (n : Int))).run Try.prog u = .ok (.slice (some ⟨u.heap.size, 0, none⟩) n n) (u.alloc (.cells (madeCells #[.bool false] n) 4)) := by
  intro u
  obtain ⟨i0, hi, hz0, hz1, hz2⟩ := bool_info
  have h := run_make (P := Try.prog) u 53 4 i0 (.bool false) Try.underlying53 hi hz0 .i64 .i64 (n : Int) (n : Int) (by omega) (Int.le_refl _) (by rw [hz2]; omega) (by omega)
  rw [h, hz1, Int.toNat_natCast, Nat.mul_one]
  rfl
theorem cntF_le (f : Nat → Bool) : ∀ m, cntF f m ≤ m
  | 0 => Nat.le_refl _
  | m + 1 => by
    have := cntF_le f m
    unfold cntF
    split <;> omega
theorem two_sum {z0 z1 z2 n : Nat} (h : z0 + z1 + z2 = n) (hn : n ≤ 256) : ∃ zs : Nat, wrap64 ((z0 : Int) + (z1 : Int)) = (zs : Int) ∧ wrap64 ((zs : Int) + (z2 : Int)) = (n : Int) :=
  ⟨z0 + z1, (IntWalk.wrap64_in _ (by omega)).trans (by omega), (IntWalk.wrap64_in _ (by omega)).trans (by omega)⟩
theorem kI_nat {A m : Nat} (h : 0 < m) : (if 0 < m then ((A % m : Nat) : Int) else -1) = ((A % m : Nat) : Int) := if_pos h
set_option maxHeartbeats 8000000 in
set_option maxRecDepth 100000 in
theorem walk_ (K : SlabOk) (n0 : Int) (a : Option Addr) (len cap : Nat) (l : List A13) (w : World) (hn : (Lit.int .u8 n0).wf = true) (v : len ≤ maxLen) (hr : A13At w a len l) :
    Calls Try.prog 5 #[.int .u8 n0, .slice a len cap] w fun e w' => e = .returned (.bool true) ∧ Below w.heap.size w w' := by
  obtain ⟨hn0, hn1⟩ := bounds_u8 hn
  by_cases h1 : 150 < len
  · have e1 : decide ((150 : Int) < len) = true := by simp; omega
    have e2 : decide (150 < len) = true := by simpa using h1
    go_enter Try.func5, Try.ntmps5
    go_wp2_with fail
    refine (slotted_ K _).mono ?_; rintro e w1 ⟨rfl, b1⟩
    go_wp2
    go_ret
    exact ⟨rfl, b1⟩
  have e1 : decide ((150 : Int) < len) = false := by simp; omega
  have e2 : decide (150 < len) = false := by simpa using h1
  have H150 := Lib.hid (Nat.le_of_not_lt h1)
  obtain ⟨N0, rfl⟩ := Int.eq_ofNat_of_zero_le hn0
  obtain ⟨n, hnn⟩ : ∃ n : Nat, n = 1 + N0 := ⟨_, rfl⟩
  have n1 : 1 ≤ n := by omega
  have n2 : n ≤ 256 := by omega
  have q1 : IntKind.i64.wrap (N0 : Int) = (N0 : Int) := wrap_byte (by omega)
  have q2 : wrap64 (1 + (N0 : Int)) = (n : Int) := by rw [hnn]; exact (IntWalk.wrap64_in _ (by omega)).trans (by omega)
  clear hnn hn1 h1 hn0 hn
  obtain ⟨i0, hi0, hz0, hz1, hz2⟩ := handle_info
  obtain ⟨j0, hj0, jz0, jz1, jz2⟩ := bool_info
  have hmk := made_bools n (by omega)
  go_enter Try.func5, Try.ntmps5
  go_wp2_with fail
  refine (K.news n w n1 n2).mono ?_; rintro e w1 ⟨q, rfl, b1, hq, R1⟩
  have hqp : q < w1.heap.size := K.lt R1
  go_upto_region 11 with fail
  have b2 : Below w1.heap.size w1 (w1.alloc (.cells (madeCells #[.bool false] n) 4)) := (Below.refl _ _).alloc (Nat.le_refl _) _
  have G2 : OnG K w (w1.alloc (.cells (madeCells #[.bool false] n) 4)) q w1.heap.size n 0 (.slice none 0 0) (.slice none 0 0) (slNew n) [] :=
    ⟨⟨K.on R1 b2, RowP.nil _ _ _, World.ownsRow_nil _ _ _ _, (OwnF.made w1 (.bool false) n 4).congr (fun j _ => by rw [slNew_S]; rfl), (fun k h => nomatch h), b1.trans (b2.mono b1.size)⟩, Once.new n2⟩
  have OB : OnB w q w1.heap.size := ⟨hq, hqp⟩
  obtain ⟨w2, hw2⟩ : ∃ x_ : World, x_ = w1.alloc (.cells (madeCells #[.bool false] n) 4) := ⟨_, rfl⟩
  rw [← hw2] at G2 ⊢
  clear hw2 b1 b2 R1 hmk q1 q2 e1 e2
  generalize w1.heap.size = gb at *
  go_loopw [8, 9, 11] (fun v8 v9 si wr => ∃ (i : Nat) (t hs : Sl), i ≤ len ∧ si = .int .i64 (i : Int) ∧ hs.length ≤ i ∧ OnG K w wr q gb n i v8 v9 t hs) (fun _ _ si _ => len - (intOf si).toNat)
  case atStart => exact ⟨0, _, [], Nat.zero_le _, rfl, Nat.le_refl _, G2⟩
  case round =>
    obtain ⟨i, t, hs, hi, rfl, hl, G3⟩ := hrel
    clear G2
    by_cases hlt : i < len
    · obtain ⟨bx, off, rfl, hbx, hc⟩ := hr.cells.resolve_left (Nat.ne_of_gt (Nat.lt_of_le_of_lt (Nat.zero_le i) hlt))
      have hx := (hc i hlt).on hbx G3.1.below
      have okx := hr.okAt hlt
      obtain ⟨x, hxe⟩ : ∃ x, x = l.getD i A13.zero := ⟨_, rfl⟩
      rw [← hxe] at hx okx
      clear hxe hc
      obtain ⟨c0, c1, c2, c3, c4⟩ := hx
      have t1 : decide ((i : Int) < (len : Int)) = true := by simpa using hlt
      have jj0 : (0 : Int) ≤ (i : Int) := Int.natCast_nonneg i
      have jj1 : (i : Int) < (len : Int) := Int.ofNat_lt.2 hlt
      go_upto_region 14 with fail
      have X4 := Box5.make wr x 36
      have x4 : Below wr.heap.size wr (wr.alloc (.cells #[.int .u8 x.kd, .int .u8 x.at_, .int .i64 x.s, .int .u32 x.g, .int .i64 x.raw] 36)) := (Below.refl _ _).alloc (Nat.le_refl _) _
      have G4 := G3.on x4
      have hXq : ¬ wr.heap.size = q := fun e => absurd (K.lt G3.1.rep) (by omega)
      have hXg : ¬ gb = wr.heap.size := fun e => absurd G3.1.gone.1 (by omega)
      obtain ⟨w4, hw4⟩ : ∃ x_ : World, x_ = wr.alloc (.cells #[.int .u8 x.kd, .int .u8 x.at_, .int .i64 x.s, .int .u32 x.g, .int .i64 x.raw] 36) := ⟨_, rfl⟩
      rw [← hw4] at X4 G4 ⊢
      clear hw4 x4 G3 c0 c1 c2 c3 c4
      generalize wr.heap.size = X at *
      obtain ⟨A, hA⟩ : ∃ A : Nat, x.at_ = (A : Int) := Int.eq_ofNat_of_zero_le (bounds_u8 okx.at_).1
      have hA1 := u8_nat hA (bounds_u8 okx.at_).2
      have k0 := (bounds_u8 okx.kd).1
      obtain ⟨_, a0, a1⟩ := id X4
      rw [hA] at a1
      obtain ⟨a8, cc8, rfl⟩ : ∃ a_ c_, u8 = .slice a_ hs.length c_ := own_form G4.1.row
      obtain ⟨a9, cc9, rfl⟩ : ∃ a_ c_, u9 = .slice a_ hs.length c_ := own_form G4.1.ovr
      obtain ⟨m, hm⟩ : ∃ m, m = hs.length := ⟨_, rfl⟩
      rw [← hm] at G4 ⊢
      have HM := Lib.hid hm
      clear hm
      have GG := Lib.hid G4
      have XX := Lib.hid X4
      have y5 : IntKind.i64.wrap (A : Int) = (A : Int) := wrap_byte hA1
      have hm256 : m < 300 := Nat.lt_of_le_of_lt (by rw [HM.out]; exact hl) (Nat.lt_of_lt_of_le hlt (Nat.le_trans H150.out (by decide)))
      clear G4 X4 okx hA1 hbx hr
      obtain ⟨kI, hkI⟩ : ∃ kI : Int, kI = if 0 < m then ((A % m : Nat) : Int) else -1 := ⟨_, rfl⟩
      have HK := Lib.hid hkI
      have K0 := Lib.hid k0
      clear hkI k0
      go_upto_if 60 with fail
      go_cut [13] (fun s13 wx => s13 = .int .i64 kI ∧ w4 = wx)
      case first =>
        by_cases h0 : 0 < m
        · have t5 : decide (0 < m) = true := by simpa using h0
          obtain ⟨e5, e6, hkn, e7⟩ := rem_at A h0
          have eK : Hid (kI = ((A % m : Nat) : Int)) := by show _ = _; rw [HK.out, if_pos h0]
          obtain ⟨k, hk⟩ : ∃ k, k = A % m := ⟨_, rfl⟩
          rw [← hk] at e5 e6 hkn eK
          clear hk
          try rw [t5]
          go_wp2
          go_meet
          exact ⟨by rw [eK.out], rfl⟩
        · have t5 : decide (0 < m) = false := by simpa using h0
          have eK : Hid (kI = -1) := by show _ = _; rw [HK.out, if_neg h0]
          try rw [t5]
          go_wp2
          go_meet
          exact ⟨by rw [eK.out], rfl⟩
      case rest => as_aux_lemma =>
        obtain ⟨rfl, rfl⟩ := hcut
        go_upto_block 2 with fail
        clear a0
        obtain ⟨kk, hkk⟩ : ∃ k_, x.kd.tmod 8 = k_ := ⟨_, rfl⟩
        rw [hkk]
        go_cut [8, 9] (fun v8 v9 wx => ∃ (t2 hs2 : Sl), hs2.length ≤ i + 1 ∧ OnG K w wx q gb n (i + 1) v8 v9 t2 hs2)
        case first =>
          rcases eight K0.out hkk with rfl | rfl | rfl | rfl | rfl | rfl | rfl | rfl
          · as_aux_lemma =>
            have G6 := GG.out
            clear GG XX HK a1
            cases hF : slFirst t with
            | none =>
              have kt := fun u h => K.takeNo (q := q) hF u h
              have hc0 := slFirst_cnt hF
              go_wp2_with fail
              refine (kt _ G6.1.rep).mono ?_; rintro e w7 ⟨rfl, R7, x7⟩
              have G7 : OnG K w w7 q gb n i (.slice a8 m cc8) (.slice a9 m cc9) t hs := ⟨G6.1.call OB R7 x7, G6.2⟩
              clear G6 R7 x7 kt
              go_wp2_with fail
              have G8 := G7.on ((Below.refl w7.heap.size w7).alloc (Nat.le_refl _) (.cells #[.int .i64 0, .int .u32 0] 34))
              have hc := K.counts q t _ G8.1.rep
              rw [hc0] at hc
              refine hc.mono ?_; rintro e w9 ⟨rfl, x9⟩
              have G9 := G8.on x9
              clear G7 G8 x9 hc hc0
              go_wp2
              go_meet
              exact ⟨t, hs, Nat.le_succ_of_le hl, G9.more (Nat.le_succ i)⟩
            | some i_ =>
              have kt := fun u h => K.takeYes (q := q) hF u h
              obtain ⟨f1, f2, f3, f4⟩ := G6.taken hF
              obtain ⟨hil, his, _⟩ := slFirst_some hF
              rw [G6.2.len] at hil
              have fr : ∀ j, j < hs.length → ¬ (slS hs j = i_ ∧ slG hs j = slG t i_) := fun j hj => G6.2.fresh hF hj
              obtain ⟨g_, hg_⟩ : ∃ g_, g_ = slG t i_ := ⟨_, rfl⟩
              rw [← hg_] at kt f1 f2 f4 fr
              have HF := Lib.hid (And.intro f1 (And.intro f2 (And.intro f3 f4)))
              have FR := Lib.hid fr
              clear f1 f2 f3 f4 fr hg_
              go_wp2_with fail
              refine (kt _ G6.1.rep).mono ?_; rintro e w7 ⟨rfl, R7, x7⟩
              have S7 := G6.1.call OB R7 x7
              clear G6 R7 x7 kt
              go_upto_region 20 with fail
              have P8 := Two.make w7 (.int .i64 (i_ : Int)) (.int .u32 (g_ : Int)) 34
              have x8 : Below w7.heap.size w7 (w7.alloc (.cells #[.int .i64 (i_ : Int), .int .u32 (g_ : Int)] 34)) := (Below.refl _ _).alloc (Nat.le_refl _) _
              have S8 := S7.on x8
              obtain ⟨w8, hw8⟩ : ∃ x_ : World, x_ = w7.alloc (.cells #[.int .i64 (i_ : Int), .int .u32 (g_ : Int)] 34) := ⟨_, rfl⟩
              rw [← hw8] at P8 S8 ⊢
              clear hw8 x8 S7
              generalize w7.heap.size = P at *
              have hgc : w8.cell? ⟨gb, i_, none⟩ = some (.bool false) := by
                have h := (S8.gone.2 i_ hil).1
                simpa [his] using h
              have d1 : decide ((i_ : Int) < 0) = false := by simp
              have d2 : decide ((n : Int) ≤ (i_ : Int)) = false := by simp; omega
              have d3 : (0 : Int) ≤ (i_ : Int) := Int.natCast_nonneg _
              have d4 : (i_ : Int) < (n : Int) := Int.ofNat_lt.2 hil
              obtain ⟨_, p0, p1⟩ := id P8
              have SS := Lib.hid S8
              have PP := Lib.hid P8
              clear S8 P8
              go_upto_region 26 with fail
              clear hgc d1 d2 d3 d4 p0 p1 his
              go_wp2_with fail
              go_loopw [20] (fun sj wx => ∃ j : Nat, j ≤ m ∧ sj = .int .i64 (j : Int) ∧ Below w8.heap.size w8 wx) (fun sj _ => m - (intOf sj).toNat)
              case atStart => exact ⟨0, Nat.zero_le _, rfl, Below.refl _ _⟩
              case round =>
                obtain ⟨j, hj, rfl, bj⟩ := hrel
                have Sj := SS.out.on bj
                have Pj := PP.out.on bj
                by_cases hjl : j < m
                · have u1 : decide ((j : Int) < (m : Int)) = true := by simpa using hjl
                  have u2 : (0 : Int) ≤ (j : Int) := Int.natCast_nonneg j
                  have u3_ : (j : Int) < (m : Int) := Int.ofNat_lt.2 hjl
                  have EJ := Lib.hid (step_64 (Nat.lt_trans hjl hm256))
                  have hjs : j < hs.length := by rw [← HM.out]; exact hjl
                  obtain ⟨g8, c8, ev, hcs⟩ := Sj.had (Nat.lt_of_le_of_lt (Nat.zero_le j) hjs)
                  injection ev with ev1 ev2 ev3
                  subst ev1
                  clear ev2 ev3
                  obtain ⟨s0, s1⟩ := hcs j hjs
                  obtain ⟨_, p0, p1⟩ := id Pj
                  have hne := FR.out j hjs
                  clear hcs Sj Pj
                  have HJ := Lib.hid hjl
                  by_cases es : slS hs j = i_
                  · have e2 : ((slG hs j : Int) == (g_ : Int)) = false := beq_false_of_ne (fun e => hne ⟨es, by exact_mod_cast e⟩)
                    rw [es] at s0
                    clear hne es hjs hj hjl
                    generalize slG hs j = y at *
                    go_upto_region 29 with fail
                    go_region
                    have bk : Below w8.heap.size w8 wr.drew := bj.drew
                    generalize wr.drew = wy at *
                    clear s0 s1 p0 p1 e2
                    go_wp2
                    go_roundw
                    case rel => exact ⟨j + 1, HJ.out, by simp [EJ.out], bk⟩
                    case measure => first | exact step_meas EJ.out (step_less HJ.out) | exact step_less HJ.out
                  · have e2 : ((slS hs j : Int) == (i_ : Int)) = false := beq_false_of_ne (fun e => es (by exact_mod_cast e))
                    clear hne es hjs hj hjl
                    generalize slG hs j = y at *
                    generalize slS hs j = y2 at *
                    go_upto_region 29 with fail
                    go_region
                    have bk : Below w8.heap.size w8 wr.drew := bj.drew
                    generalize wr.drew = wy at *
                    clear s0 s1 p0 p1 e2
                    go_wp2
                    go_roundw
                    case rel => exact ⟨j + 1, HJ.out, by simp [EJ.out], bk⟩
                    case measure => first | exact step_meas EJ.out (step_less HJ.out) | exact step_less HJ.out
                · obtain rfl : j = m := Nat.le_antisymm hj (Nat.le_of_not_lt hjl)
                  have u1 : decide ((j : Int) < (j : Int)) = false := by simp
                  obtain ⟨q1, q2⟩ := push_ok (i := j) (n := 256) (Nat.lt_of_le_of_lt (by rw [HM.out]; exact hl) (Nat.lt_of_lt_of_le hlt (Nat.le_trans H150.out (by decide)))) (Nat.le_refl _)
                  have q3 := push_base (.cells #[.int .i64 (i_ : Int), .int .u32 (g_ : Int)] 34) Sj.gone.1
                  have hrow : wr.ownsRow (gb + 1) 34 2 (.slice a8 j cc8) j (valsP hs) := by have := Sj.row; unfold RowP at this; rwa [← HM.out] at this
                  obtain ⟨v3, w13, hrun, hown, hgrow, _, hblk⟩ := run_append_own_at (P := Try.prog) (w := wr.alloc (.cells #[.int .i64 (i_ : Int), .int .u32 (g_ : Int)] 34)) (gb + 1) 31 31 34 i0 _ 2 16 Try.underlying31 hi0 hz0 hz1 hz2 rfl (Nat.succ_pos _) (.slice a8 j cc8) j (valsP hs) (hrow.alloc (.cells #[.int .i64 (i_ : Int), .int .u32 (g_ : Int)] 34)) ⟨wr.heap.size, 0, none⟩ 1 1 (valsP [(i_, g_)]) rfl (newP wr i_ g_ _) (onesP _) q1 q2 q3
                  have hrow2 : w13.ownsRow (gb + 1) 4 1 (.slice a9 j cc9) j (valsB (fun j => !livH t hs j) j) := by have h := Sj.push1 hgrow; rwa [← HM.out] at h
                  have q4 := push_base (.cells #[.bool false] 4) (Nat.lt_of_lt_of_le Sj.gone.1 (grown_size hgrow))
                  obtain ⟨v4, w14, hrun2, hown2, hgrow2, _, hblk2⟩ := run_append_own_at (P := Try.prog) (w := w13.alloc (.cells #[.bool false] 4)) (gb + 1) 53 53 4 j0 _ 1 1 Try.underlying53 hj0 jz0 jz1 jz2 rfl (Nat.succ_pos _) (.slice a9 j cc9) j (valsB (fun j => !livH t hs j) j) (hrow2.alloc (.cells #[.bool false] 4)) ⟨w13.heap.size, 0, none⟩ 1 1 [.bool false] rfl (boolP w13 false _) (onesB false) q1 (by omega) q4
                  have fin : OnG K w w14 q gb n (i + 1) v3 v4 (slTake t) (hs ++ [(i_, g_)]) := ⟨(Sj.push OB hgrow (by rw [← HM.out]; exact hown) hblk hgrow2 (by rw [← HM.out]; exact hown2) hblk2 HF.out.1 HF.out.2.1).congr (fun _ _ => rfl) HF.out.2.2.1, HF.out.2.2.2.more (Nat.le_succ i)⟩
                  have FIN := Lib.hid fin
                  obtain ⟨_, p0, p1⟩ := id Pj
                  have RUN := Lib.hid hrun
                  have RUN2 := Lib.hid hrun2
                  clear Pj hj hjl hrow hrow2 hown hown2 hgrow hgrow2 hblk hblk2 q1 q2 q3 q4 fin Sj hrun hrun2
                  go_wp2_with (first
                    | (at_builtin; refine Lib.wpList_append_run _ rfl _ _ 31 31 rfl _ _ rfl rfl _ _ RUN.out ?_)
                    | (at_builtin; refine Lib.wpList_append_run _ rfl _ _ 53 53 rfl _ _ rfl rfl _ _ RUN2.out ?_))
                  go_meet
                  exact ⟨slTake t, hs ++ [(i_, g_)], by rw [List.length_append]; exact Nat.succ_le_succ hl, FIN.out⟩
          · as_aux_lemma =>
            have G6 := GG.out
            clear GG XX HK a1
            cases hF : slFirst t with
            | none =>
              have kt := fun u h => K.takeNo (q := q) hF u h
              have hc0 := slFirst_cnt hF
              go_wp2_with fail
              refine (kt _ G6.1.rep).mono ?_; rintro e w7 ⟨rfl, R7, x7⟩
              have G7 : OnG K w w7 q gb n i (.slice a8 m cc8) (.slice a9 m cc9) t hs := ⟨G6.1.call OB R7 x7, G6.2⟩
              clear G6 R7 x7 kt
              go_wp2_with fail
              have G8 := G7.on ((Below.refl w7.heap.size w7).alloc (Nat.le_refl _) (.cells #[.int .i64 0, .int .u32 0] 34))
              have hc := K.counts q t _ G8.1.rep
              rw [hc0] at hc
              refine hc.mono ?_; rintro e w9 ⟨rfl, x9⟩
              have G9 := G8.on x9
              clear G7 G8 x9 hc hc0
              go_wp2
              go_meet
              exact ⟨t, hs, Nat.le_succ_of_le hl, G9.more (Nat.le_succ i)⟩
            | some i_ =>
              have kt := fun u h => K.takeYes (q := q) hF u h
              obtain ⟨f1, f2, f3, f4⟩ := G6.taken hF
              obtain ⟨hil, his, _⟩ := slFirst_some hF
              rw [G6.2.len] at hil
              have fr : ∀ j, j < hs.length → ¬ (slS hs j = i_ ∧ slG hs j = slG t i_) := fun j hj => G6.2.fresh hF hj
              obtain ⟨g_, hg_⟩ : ∃ g_, g_ = slG t i_ := ⟨_, rfl⟩
              rw [← hg_] at kt f1 f2 f4 fr
              have HF := Lib.hid (And.intro f1 (And.intro f2 (And.intro f3 f4)))
              have FR := Lib.hid fr
              clear f1 f2 f3 f4 fr hg_
              go_wp2_with fail
              refine (kt _ G6.1.rep).mono ?_; rintro e w7 ⟨rfl, R7, x7⟩
              have S7 := G6.1.call OB R7 x7
              clear G6 R7 x7 kt
              go_upto_region 20 with fail
              have P8 := Two.make w7 (.int .i64 (i_ : Int)) (.int .u32 (g_ : Int)) 34
              have x8 : Below w7.heap.size w7 (w7.alloc (.cells #[.int .i64 (i_ : Int), .int .u32 (g_ : Int)] 34)) := (Below.refl _ _).alloc (Nat.le_refl _) _
              have S8 := S7.on x8
              obtain ⟨w8, hw8⟩ : ∃ x_ : World, x_ = w7.alloc (.cells #[.int .i64 (i_ : Int), .int .u32 (g_ : Int)] 34) := ⟨_, rfl⟩
              rw [← hw8] at P8 S8 ⊢
              clear hw8 x8 S7
              generalize w7.heap.size = P at *
              have hgc : w8.cell? ⟨gb, i_, none⟩ = some (.bool false) := by
                have h := (S8.gone.2 i_ hil).1
                simpa [his] using h
              have d1 : decide ((i_ : Int) < 0) = false := by simp
              have d2 : decide ((n : Int) ≤ (i_ : Int)) = false := by simp; omega
              have d3 : (0 : Int) ≤ (i_ : Int) := Int.natCast_nonneg _
              have d4 : (i_ : Int) < (n : Int) := Int.ofNat_lt.2 hil
              obtain ⟨_, p0, p1⟩ := id P8
              have SS := Lib.hid S8
              have PP := Lib.hid P8
              clear S8 P8
              go_upto_region 26 with fail
              clear hgc d1 d2 d3 d4 p0 p1 his
              go_wp2_with fail
              go_loopw [20] (fun sj wx => ∃ j : Nat, j ≤ m ∧ sj = .int .i64 (j : Int) ∧ Below w8.heap.size w8 wx) (fun sj _ => m - (intOf sj).toNat)
              case atStart => exact ⟨0, Nat.zero_le _, rfl, Below.refl _ _⟩
              case round =>
                obtain ⟨j, hj, rfl, bj⟩ := hrel
                have Sj := SS.out.on bj
                have Pj := PP.out.on bj
                by_cases hjl : j < m
                · have u1 : decide ((j : Int) < (m : Int)) = true := by simpa using hjl
                  have u2 : (0 : Int) ≤ (j : Int) := Int.natCast_nonneg j
                  have u3_ : (j : Int) < (m : Int) := Int.ofNat_lt.2 hjl
                  have EJ := Lib.hid (step_64 (Nat.lt_trans hjl hm256))
                  have hjs : j < hs.length := by rw [← HM.out]; exact hjl
                  obtain ⟨g8, c8, ev, hcs⟩ := Sj.had (Nat.lt_of_le_of_lt (Nat.zero_le j) hjs)
                  injection ev with ev1 ev2 ev3
                  subst ev1
                  clear ev2 ev3
                  obtain ⟨s0, s1⟩ := hcs j hjs
                  obtain ⟨_, p0, p1⟩ := id Pj
                  have hne := FR.out j hjs
                  clear hcs Sj Pj
                  have HJ := Lib.hid hjl
                  by_cases es : slS hs j = i_
                  · have e2 : ((slG hs j : Int) == (g_ : Int)) = false := beq_false_of_ne (fun e => hne ⟨es, by exact_mod_cast e⟩)
                    rw [es] at s0
                    clear hne es hjs hj hjl
                    generalize slG hs j = y at *
                    go_upto_region 29 with fail
                    go_region
                    have bk : Below w8.heap.size w8 wr.drew := bj.drew
                    generalize wr.drew = wy at *
                    clear s0 s1 p0 p1 e2
                    go_wp2
                    go_roundw
                    case rel => exact ⟨j + 1, HJ.out, by simp [EJ.out], bk⟩
                    case measure => first | exact step_meas EJ.out (step_less HJ.out) | exact step_less HJ.out
                  · have e2 : ((slS hs j : Int) == (i_ : Int)) = false := beq_false_of_ne (fun e => es (by exact_mod_cast e))
                    clear hne es hjs hj hjl
                    generalize slG hs j = y at *
                    generalize slS hs j = y2 at *
                    go_upto_region 29 with fail
                    go_region
                    have bk : Below w8.heap.size w8 wr.drew := bj.drew
                    generalize wr.drew = wy at *
                    clear s0 s1 p0 p1 e2
                    go_wp2
                    go_roundw
                    case rel => exact ⟨j + 1, HJ.out, by simp [EJ.out], bk⟩
                    case measure => first | exact step_meas EJ.out (step_less HJ.out) | exact step_less HJ.out
                · obtain rfl : j = m := Nat.le_antisymm hj (Nat.le_of_not_lt hjl)
                  have u1 : decide ((j : Int) < (j : Int)) = false := by simp
                  obtain ⟨q1, q2⟩ := push_ok (i := j) (n := 256) (Nat.lt_of_le_of_lt (by rw [HM.out]; exact hl) (Nat.lt_of_lt_of_le hlt (Nat.le_trans H150.out (by decide)))) (Nat.le_refl _)
                  have q3 := push_base (.cells #[.int .i64 (i_ : Int), .int .u32 (g_ : Int)] 34) Sj.gone.1
                  have hrow : wr.ownsRow (gb + 1) 34 2 (.slice a8 j cc8) j (valsP hs) := by have := Sj.row; unfold RowP at this; rwa [← HM.out] at this
                  obtain ⟨v3, w13, hrun, hown, hgrow, _, hblk⟩ := run_append_own_at (P := Try.prog) (w := wr.alloc (.cells #[.int .i64 (i_ : Int), .int .u32 (g_ : Int)] 34)) (gb + 1) 31 31 34 i0 _ 2 16 Try.underlying31 hi0 hz0 hz1 hz2 rfl (Nat.succ_pos _) (.slice a8 j cc8) j (valsP hs) (hrow.alloc (.cells #[.int .i64 (i_ : Int), .int .u32 (g_ : Int)] 34)) ⟨wr.heap.size, 0, none⟩ 1 1 (valsP [(i_, g_)]) rfl (newP wr i_ g_ _) (onesP _) q1 q2 q3
                  have hrow2 : w13.ownsRow (gb + 1) 4 1 (.slice a9 j cc9) j (valsB (fun j => !livH t hs j) j) := by have h := Sj.push1 hgrow; rwa [← HM.out] at h
                  have q4 := push_base (.cells #[.bool false] 4) (Nat.lt_of_lt_of_le Sj.gone.1 (grown_size hgrow))
                  obtain ⟨v4, w14, hrun2, hown2, hgrow2, _, hblk2⟩ := run_append_own_at (P := Try.prog) (w := w13.alloc (.cells #[.bool false] 4)) (gb + 1) 53 53 4 j0 _ 1 1 Try.underlying53 hj0 jz0 jz1 jz2 rfl (Nat.succ_pos _) (.slice a9 j cc9) j (valsB (fun j => !livH t hs j) j) (hrow2.alloc (.cells #[.bool false] 4)) ⟨w13.heap.size, 0, none⟩ 1 1 [.bool false] rfl (boolP w13 false _) (onesB false) q1 (by omega) q4
                  have fin : OnG K w w14 q gb n (i + 1) v3 v4 (slTake t) (hs ++ [(i_, g_)]) := ⟨(Sj.push OB hgrow (by rw [← HM.out]; exact hown) hblk hgrow2 (by rw [← HM.out]; exact hown2) hblk2 HF.out.1 HF.out.2.1).congr (fun _ _ => rfl) HF.out.2.2.1, HF.out.2.2.2.more (Nat.le_succ i)⟩
                  have FIN := Lib.hid fin
                  obtain ⟨_, p0, p1⟩ := id Pj
                  have RUN := Lib.hid hrun
                  have RUN2 := Lib.hid hrun2
                  clear Pj hj hjl hrow hrow2 hown hown2 hgrow hgrow2 hblk hblk2 q1 q2 q3 q4 fin Sj hrun hrun2
                  go_wp2_with (first
                    | (at_builtin; refine Lib.wpList_append_run _ rfl _ _ 31 31 rfl _ _ rfl rfl _ _ RUN.out ?_)
                    | (at_builtin; refine Lib.wpList_append_run _ rfl _ _ 53 53 rfl _ _ rfl rfl _ _ RUN2.out ?_))
                  go_meet
                  exact ⟨slTake t, hs ++ [(i_, g_)], by rw [List.length_append]; exact Nat.succ_le_succ hl, FIN.out⟩
          · as_aux_lemma =>
            have G6 := GG.out
            clear GG XX a1
            by_cases h0 : 0 < m
            · obtain ⟨k, hk⟩ : ∃ k, k = A % m := ⟨_, rfl⟩
              have hkm : k < m := by rw [hk]; exact Nat.mod_lt _ h0
              obtain rfl : kI = (k : Int) := by rw [HK.out, if_pos h0, hk]
              clear HK hk
              have k1 : (0 : Int) ≤ (k : Int) := Int.natCast_nonneg k
              have k2 : (k : Int) < (m : Int) := Int.ofNat_lt.2 hkm
              have hks : k < hs.length := by rw [← HM.out]; exact hkm
              have hkn2 := G6.2.ins k hks
              obtain ⟨g8, c8, ev, hcs⟩ := G6.1.had (by rw [← HM.out]; exact h0)
              injection ev with ev1 ev2 ev3
              subst ev1
              clear ev2 ev3
              obtain ⟨s0, s1⟩ := hcs k hks
              obtain ⟨g9, c9, ev, _, _⟩ := G6.1.over (by rw [← HM.out]; exact h0)
              injection ev with ev1 ev2 ev3
              subst ev1
              clear ev2 ev3 hcs
              by_cases hv : livH t hs k = true
              · obtain ⟨h4, h5, h6⟩ := G6.2.fin (s := 0) hks hv (Or.inl rfl) (Nat.le_trans (Nat.le_of_lt hlt) (Nat.le_trans H150.out (by decide)))
                have h3 := Once.told hv
                have sv := G6.2.cur k hks (by rw [G6.2.live hks] at hv; simpa using hv)
                have kg : ∀ u, K.Rep u q t → Calls Try.prog 12 #[.pointer (some ⟨q, 0, none⟩), .agg #[.int .i64 ((slS hs k : Nat) : Int), .int .u32 ((slG hs k : Nat) : Int)]] u fun e w' => e = .returned (.int .i64 0) ∧ K.Rep w' q (endT t (slS hs k : Int) (slG hs k) 0) ∧ Beside (fun k => k = q) u w' := fun u R => by have h := K.gives q t (slS hs k : Int) (slG hs k) u R (G6.2.gen hks); rw [h3] at h; exact h
                have fin : ∀ wx, OnS K w wx q gb n (.slice (some ⟨g8, 0, none⟩) hs.length cc8) (.slice (some ⟨g9, 0, none⟩) hs.length cc9) (endT t (slS hs k : Int) (slG hs k) 0) hs (fun j => if j = k then true else !livH t hs j) (fun j => decide (slS t j = 2)) → OnG K w wx q gb n (i + 1) (.slice (some ⟨g8, 0, none⟩) hs.length cc8) (.slice (some ⟨g9, 0, none⟩) hs.length cc9) (endT t (slS hs k : Int) (slG hs k) 0) hs := fun wx S => ⟨S.congr (fun j hj => by
                  rw [h5 j hj]
                  by_cases ej : j = k
                  · rw [if_pos ej, if_pos ej]; rfl
                  · rw [if_neg ej, if_neg ej]) (fun j _ => by
                  rw [h6]
                  by_cases ej : j = slS hs k
                  · rw [if_pos ej]; simp [ej, sv]
                  · rw [if_neg ej]), h4⟩
                have FIN := Lib.hid fin
                clear fin h3 h4 h5 h6
                go_wp2_with fail
                refine (kg _ G6.1.rep).mono ?_; rintro e w7 ⟨rfl, R7, x7⟩
                have S7 : OnS K w w7 q gb n (.slice (some ⟨g8, 0, none⟩) hs.length cc8) (.slice (some ⟨g9, 0, none⟩) hs.length cc9) (endT t (slS hs k : Int) (slG hs k) 0) hs (fun j => !livH t hs j) (fun j => decide (slS t j = 2)) := by
                  rw [← HM.out]
                  exact G6.1.call OB R7 x7
                clear G6 R7 x7 kg s0 s1
                obtain ⟨_, _, ev, _, hov⟩ := S7.over (by rw [← HM.out]; exact h0)
                injection ev with ev1 ev2 ev3
                injection ev1 with ev1
                injection ev1 with ev1
                subst ev1
                clear ev2 ev3
                have co : w7.cell? ⟨g9, k, none⟩ = some (.bool false) := by
                  have h := (hov k hks).1
                  simpa [hv] using h
                have cf_ := (hov k hks).2
                have END := Lib.hid (FIN.out _ (S7.setOver OB k true))
                clear hov S7
                go_wp2
                go_meet
                exact ⟨_, hs, Nat.le_succ_of_le hl, by have h := END.out; rw [← HM.out] at h; exact h⟩
              · have hv2 : livH t hs k = false := by simpa using hv
                obtain ⟨h4, h3⟩ := Once.stale (s := 0) hv2
                have kg : ∀ u, K.Rep u q t → Calls Try.prog 12 #[.pointer (some ⟨q, 0, none⟩), .agg #[.int .i64 ((slS hs k : Nat) : Int), .int .u32 ((slG hs k : Nat) : Int)]] u fun e w' => e = .returned (.int .i64 9) ∧ K.Rep w' q (endT t (slS hs k : Int) (slG hs k) 0) ∧ Beside (fun k => k = q) u w' := fun u R => by have h := K.gives q t (slS hs k : Int) (slG hs k) u R (G6.2.gen hks); rw [h3] at h; exact h
                have fin : ∀ wx, OnS K w wx q gb n (.slice (some ⟨g8, 0, none⟩) hs.length cc8) (.slice (some ⟨g9, 0, none⟩) hs.length cc9) (endT t (slS hs k : Int) (slG hs k) 0) hs (fun j => if j = k then true else !livH t hs j) (fun j => decide (slS t j = 2)) → OnG K w wx q gb n (i + 1) (.slice (some ⟨g8, 0, none⟩) hs.length cc8) (.slice (some ⟨g9, 0, none⟩) hs.length cc9) (endT t (slS hs k : Int) (slG hs k) 0) hs := fun wx S => by
                  rw [h4] at S ⊢
                  exact ⟨S.congr (fun j hj => by
                    by_cases ej : j = k
                    · rw [if_pos ej, ej, hv2]; rfl
                    · rw [if_neg ej]) (fun j _ => by
                    rfl), G6.2.more (Nat.le_succ i)⟩
                have FIN := Lib.hid fin
                clear fin h3 h4 
                go_wp2_with fail
                refine (kg _ G6.1.rep).mono ?_; rintro e w7 ⟨rfl, R7, x7⟩
                have S7 : OnS K w w7 q gb n (.slice (some ⟨g8, 0, none⟩) hs.length cc8) (.slice (some ⟨g9, 0, none⟩) hs.length cc9) (endT t (slS hs k : Int) (slG hs k) 0) hs (fun j => !livH t hs j) (fun j => decide (slS t j = 2)) := by
                  rw [← HM.out]
                  exact G6.1.call OB R7 x7
                clear G6 R7 x7 kg s0 s1
                obtain ⟨_, _, ev, _, hov⟩ := S7.over (by rw [← HM.out]; exact h0)
                injection ev with ev1 ev2 ev3
                injection ev1 with ev1
                injection ev1 with ev1
                subst ev1
                clear ev2 ev3
                have co : w7.cell? ⟨g9, k, none⟩ = some (.bool true) := by
                  have h := (hov k hks).1
                  simpa [hv] using h
                have cf_ := (hov k hks).2
                have END := Lib.hid (FIN.out _ (S7.setOver OB k true))
                clear hov S7
                go_wp2
                go_meet
                exact ⟨_, hs, Nat.le_succ_of_le hl, by have h := END.out; rw [← HM.out] at h; exact h⟩
            · obtain rfl : kI = -1 := by rw [HK.out, if_neg h0]
              clear HK
              go_wp2
              go_meet
              exact ⟨t, hs, Nat.le_succ_of_le hl, G6.more (Nat.le_succ i)⟩
          · as_aux_lemma =>
            have G6 := GG.out
            clear GG XX a1
            by_cases h0 : 0 < m
            · obtain ⟨k, hk⟩ : ∃ k, k = A % m := ⟨_, rfl⟩
              have hkm : k < m := by rw [hk]; exact Nat.mod_lt _ h0
              obtain rfl : kI = (k : Int) := by rw [HK.out, if_pos h0, hk]
              clear HK hk
              have k1 : (0 : Int) ≤ (k : Int) := Int.natCast_nonneg k
              have k2 : (k : Int) < (m : Int) := Int.ofNat_lt.2 hkm
              have hks : k < hs.length := by rw [← HM.out]; exact hkm
              have hkn2 := G6.2.ins k hks
              obtain ⟨g8, c8, ev, hcs⟩ := G6.1.had (by rw [← HM.out]; exact h0)
              injection ev with ev1 ev2 ev3
              subst ev1
              clear ev2 ev3
              obtain ⟨s0, s1⟩ := hcs k hks
              obtain ⟨g9, c9, ev, _, _⟩ := G6.1.over (by rw [← HM.out]; exact h0)
              injection ev with ev1 ev2 ev3
              subst ev1
              clear ev2 ev3 hcs
              by_cases hv : livH t hs k = true
              · obtain ⟨h4, h5, h6⟩ := G6.2.fin (s := 2) hks hv (Or.inr rfl) (Nat.le_trans (Nat.le_of_lt hlt) (Nat.le_trans H150.out (by decide)))
                have h3 := Once.told hv
                have sv := G6.2.cur k hks (by rw [G6.2.live hks] at hv; simpa using hv)
                have kg : ∀ u, K.Rep u q t → Calls Try.prog 14 #[.pointer (some ⟨q, 0, none⟩), .agg #[.int .i64 ((slS hs k : Nat) : Int), .int .u32 ((slG hs k : Nat) : Int)]] u fun e w' => e = .returned (.int .i64 0) ∧ K.Rep w' q (endT t (slS hs k : Int) (slG hs k) 2) ∧ Beside (fun k => k = q) u w' := fun u R => by have h := K.retires q t (slS hs k : Int) (slG hs k) u R (G6.2.gen hks); rw [h3] at h; exact h
                have fin : ∀ wx, OnS K w wx q gb n (.slice (some ⟨g8, 0, none⟩) hs.length cc8) (.slice (some ⟨g9, 0, none⟩) hs.length cc9) (endT t (slS hs k : Int) (slG hs k) 2) hs (fun j => if j = k then true else !livH t hs j) (fun j => if j = slS hs k then true else decide (slS t j = 2)) → OnG K w wx q gb n (i + 1) (.slice (some ⟨g8, 0, none⟩) hs.length cc8) (.slice (some ⟨g9, 0, none⟩) hs.length cc9) (endT t (slS hs k : Int) (slG hs k) 2) hs := fun wx S => ⟨S.congr (fun j hj => by
                  rw [h5 j hj]
                  by_cases ej : j = k
                  · rw [if_pos ej, if_pos ej]; rfl
                  · rw [if_neg ej, if_neg ej]) (fun j _ => by
                  rw [h6]
                  by_cases ej : j = slS hs k
                  · rw [if_pos ej, if_pos ej]; simp [ej, sv]
                  · rw [if_neg ej, if_neg ej]), h4⟩
                have FIN := Lib.hid fin
                clear fin h3 h4 h5 h6
                go_wp2_with fail
                refine (kg _ G6.1.rep).mono ?_; rintro e w7 ⟨rfl, R7, x7⟩
                have S7 : OnS K w w7 q gb n (.slice (some ⟨g8, 0, none⟩) hs.length cc8) (.slice (some ⟨g9, 0, none⟩) hs.length cc9) (endT t (slS hs k : Int) (slG hs k) 2) hs (fun j => !livH t hs j) (fun j => decide (slS t j = 2)) := by
                  rw [← HM.out]
                  exact G6.1.call OB R7 x7
                clear G6 R7 x7 kg s0 s1
                have hin : slS hs k < n := hkn2
                have i0_ : (0 : Int) ≤ ((slS hs k : Nat) : Int) := Int.natCast_nonneg _
                have i1_ : ((slS hs k : Nat) : Int) < (n : Int) := Int.ofNat_lt.2 hin
                go_upto_region 42 with fail
                obtain ⟨_, _, ev, hcs⟩ := S7.had (by rw [← HM.out]; exact h0)
                injection ev with ev1 ev2 ev3
                injection ev1 with ev1
                injection ev1 with ev1
                subst ev1
                clear ev2 ev3
                obtain ⟨s0, s1⟩ := hcs k hks
                have cg : w7.cell? ⟨gb, slS hs k, none⟩ = some (.bool false) := by
                  have h := (S7.gone.2 _ hin).1
                  simpa [sv] using h
                have cf := (S7.gone.2 _ hin).2
                clear hcs s1
                go_still_tail 19, (by kernel_rfl)
                change wpList _ _ _ _ _ w7.drew
                have S8 := S7.on (Below.refl w7.heap.size w7).drew
                have cg8 : w7.drew.cell? ⟨gb, slS hs k, none⟩ = some (.bool false) := cg
                have cf8 : w7.drew.frozen? ⟨gb, slS hs k, none⟩ = false := cf
                have s08 : w7.drew.cell? ⟨g8, k * 2, none⟩ = some (.int .i64 ((slS hs k : Nat) : Int)) := s0
                clear cg cf s0 S7
                obtain ⟨w8, hw8⟩ : ∃ x_ : World, x_ = w7.drew := ⟨_, rfl⟩
                rw [← hw8] at S8 cg8 cf8 s08 ⊢
                clear hw8
                have S9 := S8.setGone OB (slS hs k) hin true
                go_upto_region 43 with fail
                obtain ⟨w9, hw9⟩ : ∃ x_ : World, x_ = w8.setCell ⟨gb, slS hs k, none⟩ (.bool true) := ⟨_, rfl⟩
                rw [← hw9] at S9 ⊢
                clear hw9 S8 cg8 cf8 s08
                obtain ⟨_, _, ev, _, hov⟩ := S9.over (by rw [← HM.out]; exact h0)
                injection ev with ev1 ev2 ev3
                injection ev1 with ev1
                injection ev1 with ev1
                subst ev1
                clear ev2 ev3
                have co : w9.cell? ⟨g9, k, none⟩ = some (.bool false) := by
                  have h := (hov k hks).1
                  simpa [hv] using h
                have cf_ := (hov k hks).2
                have END := Lib.hid (FIN.out _ (S9.setOver OB k true))
                clear hov S9
                go_wp2
                go_meet
                exact ⟨_, hs, Nat.le_succ_of_le hl, by have h := END.out; rw [← HM.out] at h; exact h⟩
              · have hv2 : livH t hs k = false := by simpa using hv
                obtain ⟨h4, h3⟩ := Once.stale (s := 2) hv2
                have kg : ∀ u, K.Rep u q t → Calls Try.prog 14 #[.pointer (some ⟨q, 0, none⟩), .agg #[.int .i64 ((slS hs k : Nat) : Int), .int .u32 ((slG hs k : Nat) : Int)]] u fun e w' => e = .returned (.int .i64 9) ∧ K.Rep w' q (endT t (slS hs k : Int) (slG hs k) 2) ∧ Beside (fun k => k = q) u w' := fun u R => by have h := K.retires q t (slS hs k : Int) (slG hs k) u R (G6.2.gen hks); rw [h3] at h; exact h
                have fin : ∀ wx, OnS K w wx q gb n (.slice (some ⟨g8, 0, none⟩) hs.length cc8) (.slice (some ⟨g9, 0, none⟩) hs.length cc9) (endT t (slS hs k : Int) (slG hs k) 2) hs (fun j => if j = k then true else !livH t hs j) (fun j => if j = slS hs k then decide (slS t (slS hs k) = 2) else decide (slS t j = 2)) → OnG K w wx q gb n (i + 1) (.slice (some ⟨g8, 0, none⟩) hs.length cc8) (.slice (some ⟨g9, 0, none⟩) hs.length cc9) (endT t (slS hs k : Int) (slG hs k) 2) hs := fun wx S => by
                  rw [h4] at S ⊢
                  exact ⟨S.congr (fun j hj => by
                    by_cases ej : j = k
                    · rw [if_pos ej, ej, hv2]; rfl
                    · rw [if_neg ej]) (fun j _ => by
                    by_cases ej : j = slS hs k
                    · rw [if_pos ej, ej]
                    · rw [if_neg ej]), G6.2.more (Nat.le_succ i)⟩
                have FIN := Lib.hid fin
                clear fin h3 h4 
                go_wp2_with fail
                refine (kg _ G6.1.rep).mono ?_; rintro e w7 ⟨rfl, R7, x7⟩
                have S7 : OnS K w w7 q gb n (.slice (some ⟨g8, 0, none⟩) hs.length cc8) (.slice (some ⟨g9, 0, none⟩) hs.length cc9) (endT t (slS hs k : Int) (slG hs k) 2) hs (fun j => !livH t hs j) (fun j => decide (slS t j = 2)) := by
                  rw [← HM.out]
                  exact G6.1.call OB R7 x7
                clear G6 R7 x7 kg s0 s1
                have hin : slS hs k < n := hkn2
                have i0_ : (0 : Int) ≤ ((slS hs k : Nat) : Int) := Int.natCast_nonneg _
                have i1_ : ((slS hs k : Nat) : Int) < (n : Int) := Int.ofNat_lt.2 hin
                by_cases hgv : slS t (slS hs k) = 2
                · go_upto_region 42 with fail
                  obtain ⟨_, _, ev, hcs⟩ := S7.had (by rw [← HM.out]; exact h0)
                  injection ev with ev1 ev2 ev3
                  injection ev1 with ev1
                  injection ev1 with ev1
                  subst ev1
                  clear ev2 ev3
                  obtain ⟨s0, s1⟩ := hcs k hks
                  have cg : w7.cell? ⟨gb, slS hs k, none⟩ = some (.bool true) := by
                    have h := (S7.gone.2 _ hin).1
                    simpa [hgv] using h
                  have cf := (S7.gone.2 _ hin).2
                  clear hcs s1
                  go_still_tail 19, (by kernel_rfl)
                  change wpList _ _ _ _ _ w7.drew
                  have S8 := S7.on (Below.refl w7.heap.size w7).drew
                  have cg8 : w7.drew.cell? ⟨gb, slS hs k, none⟩ = some (.bool true) := cg
                  have cf8 : w7.drew.frozen? ⟨gb, slS hs k, none⟩ = false := cf
                  have s08 : w7.drew.cell? ⟨g8, k * 2, none⟩ = some (.int .i64 ((slS hs k : Nat) : Int)) := s0
                  clear cg cf s0 S7
                  obtain ⟨w8, hw8⟩ : ∃ x_ : World, x_ = w7.drew := ⟨_, rfl⟩
                  rw [← hw8] at S8 cg8 cf8 s08 ⊢
                  clear hw8
                  have S9 := S8.setGone OB (slS hs k) hin true
                  go_upto_region 43 with fail
                  obtain ⟨w9, hw9⟩ : ∃ x_ : World, x_ = w8.setCell ⟨gb, slS hs k, none⟩ (.bool true) := ⟨_, rfl⟩
                  rw [← hw9] at S9 ⊢
                  clear hw9 S8 cg8 cf8 s08
                  have FIN2 := FIN
                  rw [show decide (slS t (slS hs k) = 2) = true from by simpa using hgv] at FIN2
                  obtain ⟨_, _, ev, _, hov⟩ := S9.over (by rw [← HM.out]; exact h0)
                  injection ev with ev1 ev2 ev3
                  injection ev1 with ev1
                  injection ev1 with ev1
                  subst ev1
                  clear ev2 ev3
                  have co : w9.cell? ⟨g9, k, none⟩ = some (.bool true) := by
                    have h := (hov k hks).1
                    simpa [hv] using h
                  have cf_ := (hov k hks).2
                  have END := Lib.hid (FIN2.out _ (S9.setOver OB k true))
                  clear hov S9
                  go_wp2
                  go_meet
                  exact ⟨_, hs, Nat.le_succ_of_le hl, by have h := END.out; rw [← HM.out] at h; exact h⟩
                · go_upto_region 42 with fail
                  obtain ⟨_, _, ev, hcs⟩ := S7.had (by rw [← HM.out]; exact h0)
                  injection ev with ev1 ev2 ev3
                  injection ev1 with ev1
                  injection ev1 with ev1
                  subst ev1
                  clear ev2 ev3
                  obtain ⟨s0, s1⟩ := hcs k hks
                  have cg : w7.cell? ⟨gb, slS hs k, none⟩ = some (.bool false) := by
                    have h := (S7.gone.2 _ hin).1
                    simpa [hgv] using h
                  have cf := (S7.gone.2 _ hin).2
                  clear hcs s1
                  go_still_tail 19, (by kernel_rfl)
                  change wpList _ _ _ _ _ w7.drew
                  have S8 := S7.on (Below.refl w7.heap.size w7).drew
                  have cg8 : w7.drew.cell? ⟨gb, slS hs k, none⟩ = some (.bool false) := cg
                  have cf8 : w7.drew.frozen? ⟨gb, slS hs k, none⟩ = false := cf
                  have s08 : w7.drew.cell? ⟨g8, k * 2, none⟩ = some (.int .i64 ((slS hs k : Nat) : Int)) := s0
                  clear cg cf s0 S7
                  obtain ⟨w8, hw8⟩ : ∃ x_ : World, x_ = w7.drew := ⟨_, rfl⟩
                  rw [← hw8] at S8 cg8 cf8 s08 ⊢
                  clear hw8
                  have S9 := S8.setGone OB (slS hs k) hin false
                  go_upto_region 43 with fail
                  obtain ⟨w9, hw9⟩ : ∃ x_ : World, x_ = w8.setCell ⟨gb, slS hs k, none⟩ (.bool false) := ⟨_, rfl⟩
                  rw [← hw9] at S9 ⊢
                  clear hw9 S8 cg8 cf8 s08
                  have FIN2 := FIN
                  rw [show decide (slS t (slS hs k) = 2) = false from by simpa using hgv] at FIN2
                  obtain ⟨_, _, ev, _, hov⟩ := S9.over (by rw [← HM.out]; exact h0)
                  injection ev with ev1 ev2 ev3
                  injection ev1 with ev1
                  injection ev1 with ev1
                  subst ev1
                  clear ev2 ev3
                  have co : w9.cell? ⟨g9, k, none⟩ = some (.bool true) := by
                    have h := (hov k hks).1
                    simpa [hv] using h
                  have cf_ := (hov k hks).2
                  have END := Lib.hid (FIN2.out _ (S9.setOver OB k true))
                  clear hov S9
                  go_wp2
                  go_meet
                  exact ⟨_, hs, Nat.le_succ_of_le hl, by have h := END.out; rw [← HM.out] at h; exact h⟩
            · obtain rfl : kI = -1 := by rw [HK.out, if_neg h0]
              clear HK
              go_wp2
              go_meet
              exact ⟨t, hs, Nat.le_succ_of_le hl, G6.more (Nat.le_succ i)⟩
          · as_aux_lemma =>
            have G6 := GG.out
            clear GG XX HK
            obtain ⟨e5, e6, hzn, e7⟩ := rem_at A n1
            obtain ⟨z, hz⟩ : ∃ z, z = A % n := ⟨_, rfl⟩
            rw [← hz] at e5 e6 hzn
            clear hz
            have z0 : (0 : Int) ≤ (z : Int) := Int.natCast_nonneg z
            have z1 : (z : Int) < (n : Int) := Int.ofNat_lt.2 hzn
            go_upto_region 34 with fail
            clear a1 e5 e6 e7
            by_cases h2 : slS t z = 2
            · obtain ⟨h3, h4, h5, h6⟩ := G6.2.free hzn h2
              have cg : w4.cell? ⟨gb, z, none⟩ = some (.bool true) := by
                have h := (G6.1.gone.2 z hzn).1
                simpa [h2] using h
              have fin : ∀ wx, OnS K w wx q gb n (.slice a8 m cc8) (.slice a9 m cc9) (freeT t (z : Int)) hs (fun j => !livH t hs j) (fun j => if j = z then false else decide (slS t j = 2)) → OnG K w wx q gb n (i + 1) (.slice a8 m cc8) (.slice a9 m cc9) (freeT t (z : Int)) hs := fun wx S => ⟨S.congr (fun j hj => by rw [h5 j hj]) (fun j _ => by
                rw [h6]
                by_cases ej : j = z
                · rw [if_pos ej, if_pos ej]; rfl
                · rw [if_neg ej, if_neg ej]), h4.more (Nat.le_succ i)⟩
              have kf : ∀ u, K.Rep u q t → Calls Try.prog 16 #[.pointer (some ⟨q, 0, none⟩), .int .i64 (z : Int)] u fun e w' => e = .returned (.int .i64 0) ∧ K.Rep w' q (freeT t (z : Int)) ∧ Beside (fun k => k = q) u w' := fun u R => by have h := K.frees q t (z : Int) u R; rw [h3] at h; exact h
              have FIN := Lib.hid fin
              clear h3 h4 h5 h6 fin h2
              refine wp_region_noPanic ?_
              refine wp_region_held_drew (S := (fun w' => w'.cell? ⟨gb, z, none⟩ = some (.bool true))) (by kernel_rfl) ?_ (fun hHeld => ?_)
              · exact cg
              have S7 := G6.1.on (Below.refl w4.heap.size w4).drew
              obtain ⟨w5, hw5⟩ : ∃ x_ : World, x_ = w4.drew := ⟨_, rfl⟩
              rw [← hw5] at S7 hHeld ⊢
              clear hw5 cg G6
              refine wpAnyH_take (i := 0) (oi := _) (v := ?_) rfl (by kernel_rfl) (by kernel_rfl) (by kernel_rfl) (fun _ _ _ h => h) (Or.inl ⟨by kernel_rfl, ?_⟩) (by assumption) ?_
              rotate_left
              · intro w hSw
                clear hSw
                go_simp
                with_reducible rfl
              try simp only [List.getElem_toArray, List.getElem_cons_succ, List.getElem_cons_zero, Act.put, List.setIfInBounds_toArray, List.set_cons_zero, List.set_cons_succ]
              refine wpAnyH_take (i := 1) (oi := _) (v := ?_) rfl (by kernel_rfl) (by kernel_rfl) (by kernel_rfl) (fun _ _ _ h => h) (Or.inl ⟨by kernel_rfl, ?_⟩) (by assumption) ?_
              rotate_left
              · intro w hSw
                clear hSw
                go_simp
                with_reducible rfl
              try simp only [List.getElem_toArray, List.getElem_cons_succ, List.getElem_cons_zero, Act.put, List.setIfInBounds_toArray, List.set_cons_zero, List.set_cons_succ]
              refine wpAnyH_take (i := 4) (oi := _) (v := ?_) rfl (by kernel_rfl) (by kernel_rfl) (by kernel_rfl) (fun _ _ _ h => h) (Or.inl ⟨by kernel_rfl, ?_⟩) (by assumption) ?_
              rotate_left
              · intro w hSw
                clear hSw
                go_simp
                with_reducible rfl
              try simp only [List.getElem_toArray, List.getElem_cons_succ, List.getElem_cons_zero, Act.put, List.setIfInBounds_toArray, List.set_cons_zero, List.set_cons_succ]
              refine wpAnyH_take (i := 5) (oi := _) (v := ?_) rfl (by kernel_rfl) (by kernel_rfl) (by kernel_rfl) (fun _ _ _ h => h) (Or.inl ⟨by kernel_rfl, ?_⟩) (by assumption) ?_
              rotate_left
              · intro w hSw
                clear hSw
                go_simp
                with_reducible rfl
              try simp only [List.getElem_toArray, List.getElem_cons_succ, List.getElem_cons_zero, Act.put, List.setIfInBounds_toArray, List.set_cons_zero, List.set_cons_succ]
              refine wpAnyH_take (i := 6) (oi := _) (v := ?_) rfl (by kernel_rfl) (by kernel_rfl) (by kernel_rfl) (fun _ _ _ h => h) (Or.inl ⟨by kernel_rfl, ?_⟩) (by assumption) ?_
              rotate_left
              · intro w hSw
                clear hSw
                go_simp
                with_reducible rfl
              try simp only [List.getElem_toArray, List.getElem_cons_succ, List.getElem_cons_zero, Act.put, List.setIfInBounds_toArray, List.set_cons_zero, List.set_cons_succ]
              refine wpAnyH_take (i := 7) (oi := _) (v := ?_) rfl (by kernel_rfl) (by kernel_rfl) (by kernel_rfl) (fun _ _ _ h => h) (Or.inl ⟨by kernel_rfl, ?_⟩) (by assumption) ?_
              rotate_left
              · intro w hSw
                (try dsimp only at hSw)
                go_simp
                with_reducible rfl
              try simp only [List.getElem_toArray, List.getElem_cons_succ, List.getElem_cons_zero, Act.put, List.setIfInBounds_toArray, List.set_cons_zero, List.set_cons_succ]
              refine wpAnyH_ready (rs := [2]) (by kernel_rfl) (by simp) ?_
              refine AllReadyH.cons (o := _) rfl (fun K_ hK => ?_) AllReadyH.nil
              go_simp
              refine (kf _ S7.rep).mono ?_; rintro e w6 ⟨rfl, R6, x6⟩
              have S8 := S7.call OB R6 x6
              have hc6 : w6.cell? ⟨gb, z, none⟩ = some (.bool true) := (x6.cell (p := ⟨gb, z, none⟩) S7.gone.1 (fun (e : gb = q) => Nat.lt_irrefl q (e ▸ OB.hg))).trans hHeld
              show K_ _ _
              refine hK.out _ _ hc6 (fun hH1 => ?_)
              clear hK K_ hHeld S7 R6 x6 kf
              have hHeld := hH1
              clear hH1
              try simp only [List.getElem_toArray, List.getElem_cons_succ, List.getElem_cons_zero, Act.put, List.setIfInBounds_toArray, List.set_cons_zero, List.set_cons_succ]
              refine wpAnyH_take (i := 3) (oi := _) (v := ?_) rfl (by kernel_rfl) (by kernel_rfl) (by kernel_rfl) (fun _ _ _ h => h) (Or.inl ⟨by kernel_rfl, ?_⟩) (by assumption) ?_
              rotate_left
              · intro w hSw
                clear hSw
                go_simp
                with_reducible rfl
              try simp only [List.getElem_toArray, List.getElem_cons_succ, List.getElem_cons_zero, Act.put, List.setIfInBounds_toArray, List.set_cons_zero, List.set_cons_succ]
              refine wpAnyH_take (i := 8) (oi := _) (v := ?_) rfl (by kernel_rfl) (by kernel_rfl) (by kernel_rfl) (fun _ _ _ h => h) (Or.inl ⟨by kernel_rfl, ?_⟩) (by assumption) ?_
              rotate_left
              · intro w hSw
                clear hSw
                go_simp
                with_reducible rfl
              try simp only [List.getElem_toArray, List.getElem_cons_succ, List.getElem_cons_zero, Act.put, List.setIfInBounds_toArray, List.set_cons_zero, List.set_cons_succ]
              refine wpAnyH_done (by kernel_rfl) (NoPanic.normal ?_) _
              have hf6 := (S8.gone.2 z hzn).2
              have S9 := Lib.hid (FIN.out _ (S8.setGone OB z hzn false))
              clear S8 hHeld FIN
              go_wp2
              go_meet
              exact ⟨_, hs, Nat.le_succ_of_le hl, S9.out⟩
            · obtain ⟨h3, h4⟩ := Once.kept G6.2.len hzn h2
              have cg : w4.cell? ⟨gb, z, none⟩ = some (.bool false) := by
                have h := (G6.1.gone.2 z hzn).1
                simpa [h2] using h
              have fin : ∀ wx, OnS K w wx q gb n (.slice a8 m cc8) (.slice a9 m cc9) (freeT t (z : Int)) hs (fun j => !livH t hs j) (fun j => if j = z then false else decide (slS t j = 2)) → OnG K w wx q gb n (i + 1) (.slice a8 m cc8) (.slice a9 m cc9) (freeT t (z : Int)) hs := fun wx S => by
                rw [h4] at S ⊢
                exact ⟨S.congr (fun j _ => rfl) (fun j _ => by
                  by_cases ej : j = z
                  · rw [if_pos ej, ej]; simp [h2]
                  · rw [if_neg ej]), G6.2.more (Nat.le_succ i)⟩
              have kf : ∀ u, K.Rep u q t → Calls Try.prog 16 #[.pointer (some ⟨q, 0, none⟩), .int .i64 (z : Int)] u fun e w' => e = .returned (.int .i64 6) ∧ K.Rep w' q (freeT t (z : Int)) ∧ Beside (fun k => k = q) u w' := fun u R => by have h := K.frees q t (z : Int) u R; rw [h3] at h; exact h
              have FIN := Lib.hid fin
              clear h3 h4  fin h2
              refine wp_region_noPanic ?_
              refine wp_region_held_drew (S := (fun w' => w'.cell? ⟨gb, z, none⟩ = some (.bool false))) (by kernel_rfl) ?_ (fun hHeld => ?_)
              · exact cg
              have S7 := G6.1.on (Below.refl w4.heap.size w4).drew
              obtain ⟨w5, hw5⟩ : ∃ x_ : World, x_ = w4.drew := ⟨_, rfl⟩
              rw [← hw5] at S7 hHeld ⊢
              clear hw5 cg G6
              refine wpAnyH_take (i := 0) (oi := _) (v := ?_) rfl (by kernel_rfl) (by kernel_rfl) (by kernel_rfl) (fun _ _ _ h => h) (Or.inl ⟨by kernel_rfl, ?_⟩) (by assumption) ?_
              rotate_left
              · intro w hSw
                clear hSw
                go_simp
                with_reducible rfl
              try simp only [List.getElem_toArray, List.getElem_cons_succ, List.getElem_cons_zero, Act.put, List.setIfInBounds_toArray, List.set_cons_zero, List.set_cons_succ]
              refine wpAnyH_take (i := 1) (oi := _) (v := ?_) rfl (by kernel_rfl) (by kernel_rfl) (by kernel_rfl) (fun _ _ _ h => h) (Or.inl ⟨by kernel_rfl, ?_⟩) (by assumption) ?_
              rotate_left
              · intro w hSw
                clear hSw
                go_simp
                with_reducible rfl
              try simp only [List.getElem_toArray, List.getElem_cons_succ, List.getElem_cons_zero, Act.put, List.setIfInBounds_toArray, List.set_cons_zero, List.set_cons_succ]
              refine wpAnyH_take (i := 4) (oi := _) (v := ?_) rfl (by kernel_rfl) (by kernel_rfl) (by kernel_rfl) (fun _ _ _ h => h) (Or.inl ⟨by kernel_rfl, ?_⟩) (by assumption) ?_
              rotate_left
              · intro w hSw
                clear hSw
                go_simp
                with_reducible rfl
              try simp only [List.getElem_toArray, List.getElem_cons_succ, List.getElem_cons_zero, Act.put, List.setIfInBounds_toArray, List.set_cons_zero, List.set_cons_succ]
              refine wpAnyH_take (i := 5) (oi := _) (v := ?_) rfl (by kernel_rfl) (by kernel_rfl) (by kernel_rfl) (fun _ _ _ h => h) (Or.inl ⟨by kernel_rfl, ?_⟩) (by assumption) ?_
              rotate_left
              · intro w hSw
                clear hSw
                go_simp
                with_reducible rfl
              try simp only [List.getElem_toArray, List.getElem_cons_succ, List.getElem_cons_zero, Act.put, List.setIfInBounds_toArray, List.set_cons_zero, List.set_cons_succ]
              refine wpAnyH_take (i := 6) (oi := _) (v := ?_) rfl (by kernel_rfl) (by kernel_rfl) (by kernel_rfl) (fun _ _ _ h => h) (Or.inl ⟨by kernel_rfl, ?_⟩) (by assumption) ?_
              rotate_left
              · intro w hSw
                clear hSw
                go_simp
                with_reducible rfl
              try simp only [List.getElem_toArray, List.getElem_cons_succ, List.getElem_cons_zero, Act.put, List.setIfInBounds_toArray, List.set_cons_zero, List.set_cons_succ]
              refine wpAnyH_take (i := 7) (oi := _) (v := ?_) rfl (by kernel_rfl) (by kernel_rfl) (by kernel_rfl) (fun _ _ _ h => h) (Or.inl ⟨by kernel_rfl, ?_⟩) (by assumption) ?_
              rotate_left
              · intro w hSw
                (try dsimp only at hSw)
                go_simp
                with_reducible rfl
              try simp only [List.getElem_toArray, List.getElem_cons_succ, List.getElem_cons_zero, Act.put, List.setIfInBounds_toArray, List.set_cons_zero, List.set_cons_succ]
              refine wpAnyH_ready (rs := [2]) (by kernel_rfl) (by simp) ?_
              refine AllReadyH.cons (o := _) rfl (fun K_ hK => ?_) AllReadyH.nil
              go_simp
              refine (kf _ S7.rep).mono ?_; rintro e w6 ⟨rfl, R6, x6⟩
              have S8 := S7.call OB R6 x6
              have hc6 : w6.cell? ⟨gb, z, none⟩ = some (.bool false) := (x6.cell (p := ⟨gb, z, none⟩) S7.gone.1 (fun (e : gb = q) => Nat.lt_irrefl q (e ▸ OB.hg))).trans hHeld
              show K_ _ _
              refine hK.out _ _ hc6 (fun hH1 => ?_)
              clear hK K_ hHeld S7 R6 x6 kf
              have hHeld := hH1
              clear hH1
              try simp only [List.getElem_toArray, List.getElem_cons_succ, List.getElem_cons_zero, Act.put, List.setIfInBounds_toArray, List.set_cons_zero, List.set_cons_succ]
              refine wpAnyH_take (i := 3) (oi := _) (v := ?_) rfl (by kernel_rfl) (by kernel_rfl) (by kernel_rfl) (fun _ _ _ h => h) (Or.inl ⟨by kernel_rfl, ?_⟩) (by assumption) ?_
              rotate_left
              · intro w hSw
                clear hSw
                go_simp
                with_reducible rfl
              try simp only [List.getElem_toArray, List.getElem_cons_succ, List.getElem_cons_zero, Act.put, List.setIfInBounds_toArray, List.set_cons_zero, List.set_cons_succ]
              refine wpAnyH_take (i := 8) (oi := _) (v := ?_) rfl (by kernel_rfl) (by kernel_rfl) (by kernel_rfl) (fun _ _ _ h => h) (Or.inl ⟨by kernel_rfl, ?_⟩) (by assumption) ?_
              rotate_left
              · intro w hSw
                clear hSw
                go_simp
                with_reducible rfl
              try simp only [List.getElem_toArray, List.getElem_cons_succ, List.getElem_cons_zero, Act.put, List.setIfInBounds_toArray, List.set_cons_zero, List.set_cons_succ]
              refine wpAnyH_done (by kernel_rfl) (NoPanic.normal ?_) _
              have hf6 := (S8.gone.2 z hzn).2
              have S9 := Lib.hid (FIN.out _ (S8.setGone OB z hzn false))
              clear S8 hHeld FIN
              go_wp2
              go_meet
              exact ⟨_, hs, Nat.le_succ_of_le hl, S9.out⟩
          · as_aux_lemma =>
            have G6 := GG.out
            clear GG XX a1
            by_cases h0 : 0 < m
            · obtain ⟨k, hk⟩ : ∃ k, k = A % m := ⟨_, rfl⟩
              have hkm : k < m := by rw [hk]; exact Nat.mod_lt _ h0
              obtain rfl : kI = (k : Int) := by rw [HK.out, if_pos h0, hk]
              clear HK hk
              have k1 : (0 : Int) ≤ (k : Int) := Int.natCast_nonneg k
              have k2 : (k : Int) < (m : Int) := Int.ofNat_lt.2 hkm
              have hks : k < hs.length := by rw [← HM.out]; exact hkm
              have hkn2 := G6.2.ins k hks
              obtain ⟨g8, c8, ev, hcs⟩ := G6.1.had (by rw [← HM.out]; exact h0)
              injection ev with ev1 ev2 ev3
              subst ev1
              clear ev2 ev3
              obtain ⟨s0, s1⟩ := hcs k hks
              obtain ⟨g9, c9, ev, _, _⟩ := G6.1.over (by rw [← HM.out]; exact h0)
              injection ev with ev1 ev2 ev3
              subst ev1
              clear ev2 ev3 hcs
              by_cases hv : livH t hs k = true
              · obtain ⟨h4, h5, h6⟩ := G6.2.fin (s := 0) hks hv (Or.inl rfl) (Nat.le_trans (Nat.le_of_lt hlt) (Nat.le_trans H150.out (by decide)))
                have h3 := Once.told hv
                have sv := G6.2.cur k hks (by rw [G6.2.live hks] at hv; simpa using hv)
                have kg : ∀ u, K.Rep u q t → Calls Try.prog 12 #[.pointer (some ⟨q, 0, none⟩), .agg #[.int .i64 ((slS hs k : Nat) : Int), .int .u32 ((slG hs k : Nat) : Int)]] u fun e w' => e = .returned (.int .i64 0) ∧ K.Rep w' q (endT t (slS hs k : Int) (slG hs k) 0) ∧ Beside (fun k => k = q) u w' := fun u R => by have h := K.gives q t (slS hs k : Int) (slG hs k) u R (G6.2.gen hks); rw [h3] at h; exact h
                have fin : ∀ wx, OnS K w wx q gb n (.slice (some ⟨g8, 0, none⟩) hs.length cc8) (.slice (some ⟨g9, 0, none⟩) hs.length cc9) (endT t (slS hs k : Int) (slG hs k) 0) hs (fun j => if j = k then true else !livH t hs j) (fun j => decide (slS t j = 2)) → OnG K w wx q gb n (i + 1) (.slice (some ⟨g8, 0, none⟩) hs.length cc8) (.slice (some ⟨g9, 0, none⟩) hs.length cc9) (endT t (slS hs k : Int) (slG hs k) 0) hs := fun wx S => ⟨S.congr (fun j hj => by
                  rw [h5 j hj]
                  by_cases ej : j = k
                  · rw [if_pos ej, if_pos ej]; rfl
                  · rw [if_neg ej, if_neg ej]) (fun j _ => by
                  rw [h6]
                  by_cases ej : j = slS hs k
                  · rw [if_pos ej]; simp [ej, sv]
                  · rw [if_neg ej]), h4⟩
                have FIN := Lib.hid fin
                clear fin h3 h4 h5 h6
                go_wp2_with fail
                refine (kg _ G6.1.rep).mono ?_; rintro e w7 ⟨rfl, R7, x7⟩
                have S7 : OnS K w w7 q gb n (.slice (some ⟨g8, 0, none⟩) hs.length cc8) (.slice (some ⟨g9, 0, none⟩) hs.length cc9) (endT t (slS hs k : Int) (slG hs k) 0) hs (fun j => !livH t hs j) (fun j => decide (slS t j = 2)) := by
                  rw [← HM.out]
                  exact G6.1.call OB R7 x7
                clear G6 R7 x7 kg s0 s1
                obtain ⟨_, _, ev, _, hov⟩ := S7.over (by rw [← HM.out]; exact h0)
                injection ev with ev1 ev2 ev3
                injection ev1 with ev1
                injection ev1 with ev1
                subst ev1
                clear ev2 ev3
                have co : w7.cell? ⟨g9, k, none⟩ = some (.bool false) := by
                  have h := (hov k hks).1
                  simpa [hv] using h
                have cf_ := (hov k hks).2
                have END := Lib.hid (FIN.out _ (S7.setOver OB k true))
                clear hov S7
                go_wp2
                go_meet
                exact ⟨_, hs, Nat.le_succ_of_le hl, by have h := END.out; rw [← HM.out] at h; exact h⟩
              · have hv2 : livH t hs k = false := by simpa using hv
                obtain ⟨h4, h3⟩ := Once.stale (s := 0) hv2
                have kg : ∀ u, K.Rep u q t → Calls Try.prog 12 #[.pointer (some ⟨q, 0, none⟩), .agg #[.int .i64 ((slS hs k : Nat) : Int), .int .u32 ((slG hs k : Nat) : Int)]] u fun e w' => e = .returned (.int .i64 9) ∧ K.Rep w' q (endT t (slS hs k : Int) (slG hs k) 0) ∧ Beside (fun k => k = q) u w' := fun u R => by have h := K.gives q t (slS hs k : Int) (slG hs k) u R (G6.2.gen hks); rw [h3] at h; exact h
                have fin : ∀ wx, OnS K w wx q gb n (.slice (some ⟨g8, 0, none⟩) hs.length cc8) (.slice (some ⟨g9, 0, none⟩) hs.length cc9) (endT t (slS hs k : Int) (slG hs k) 0) hs (fun j => if j = k then true else !livH t hs j) (fun j => decide (slS t j = 2)) → OnG K w wx q gb n (i + 1) (.slice (some ⟨g8, 0, none⟩) hs.length cc8) (.slice (some ⟨g9, 0, none⟩) hs.length cc9) (endT t (slS hs k : Int) (slG hs k) 0) hs := fun wx S => by
                  rw [h4] at S ⊢
                  exact ⟨S.congr (fun j hj => by
                    by_cases ej : j = k
                    · rw [if_pos ej, ej, hv2]; rfl
                    · rw [if_neg ej]) (fun j _ => by
                    rfl), G6.2.more (Nat.le_succ i)⟩
                have FIN := Lib.hid fin
                clear fin h3 h4 
                go_wp2_with fail
                refine (kg _ G6.1.rep).mono ?_; rintro e w7 ⟨rfl, R7, x7⟩
                have S7 : OnS K w w7 q gb n (.slice (some ⟨g8, 0, none⟩) hs.length cc8) (.slice (some ⟨g9, 0, none⟩) hs.length cc9) (endT t (slS hs k : Int) (slG hs k) 0) hs (fun j => !livH t hs j) (fun j => decide (slS t j = 2)) := by
                  rw [← HM.out]
                  exact G6.1.call OB R7 x7
                clear G6 R7 x7 kg s0 s1
                obtain ⟨_, _, ev, _, hov⟩ := S7.over (by rw [← HM.out]; exact h0)
                injection ev with ev1 ev2 ev3
                injection ev1 with ev1
                injection ev1 with ev1
                subst ev1
                clear ev2 ev3
                have co : w7.cell? ⟨g9, k, none⟩ = some (.bool true) := by
                  have h := (hov k hks).1
                  simpa [hv] using h
                have cf_ := (hov k hks).2
                have END := Lib.hid (FIN.out _ (S7.setOver OB k true))
                clear hov S7
                go_wp2
                go_meet
                exact ⟨_, hs, Nat.le_succ_of_le hl, by have h := END.out; rw [← HM.out] at h; exact h⟩
            · obtain rfl : kI = -1 := by rw [HK.out, if_neg h0]
              clear HK
              go_wp2
              go_meet
              exact ⟨t, hs, Nat.le_succ_of_le hl, G6.more (Nat.le_succ i)⟩
          · as_aux_lemma =>
            have G6 := GG.out
            clear GG XX a1
            by_cases h0 : 0 < m
            · obtain ⟨k, hk⟩ : ∃ k, k = A % m := ⟨_, rfl⟩
              have hkm : k < m := by rw [hk]; exact Nat.mod_lt _ h0
              obtain rfl : kI = (k : Int) := by rw [HK.out, if_pos h0, hk]
              clear HK hk
              have k1 : (0 : Int) ≤ (k : Int) := Int.natCast_nonneg k
              have k2 : (k : Int) < (m : Int) := Int.ofNat_lt.2 hkm
              have hks : k < hs.length := by rw [← HM.out]; exact hkm
              have hkn2 := G6.2.ins k hks
              obtain ⟨g8, c8, ev, hcs⟩ := G6.1.had (by rw [← HM.out]; exact h0)
              injection ev with ev1 ev2 ev3
              subst ev1
              clear ev2 ev3
              obtain ⟨s0, s1⟩ := hcs k hks
              obtain ⟨g9, c9, ev, _, _⟩ := G6.1.over (by rw [← HM.out]; exact h0)
              injection ev with ev1 ev2 ev3
              subst ev1
              clear ev2 ev3 hcs
              by_cases hv : livH t hs k = true
              · obtain ⟨h4, h5, h6⟩ := G6.2.fin (s := 2) hks hv (Or.inr rfl) (Nat.le_trans (Nat.le_of_lt hlt) (Nat.le_trans H150.out (by decide)))
                have h3 := Once.told hv
                have sv := G6.2.cur k hks (by rw [G6.2.live hks] at hv; simpa using hv)
                have kg : ∀ u, K.Rep u q t → Calls Try.prog 14 #[.pointer (some ⟨q, 0, none⟩), .agg #[.int .i64 ((slS hs k : Nat) : Int), .int .u32 ((slG hs k : Nat) : Int)]] u fun e w' => e = .returned (.int .i64 0) ∧ K.Rep w' q (endT t (slS hs k : Int) (slG hs k) 2) ∧ Beside (fun k => k = q) u w' := fun u R => by have h := K.retires q t (slS hs k : Int) (slG hs k) u R (G6.2.gen hks); rw [h3] at h; exact h
                have fin : ∀ wx, OnS K w wx q gb n (.slice (some ⟨g8, 0, none⟩) hs.length cc8) (.slice (some ⟨g9, 0, none⟩) hs.length cc9) (endT t (slS hs k : Int) (slG hs k) 2) hs (fun j => if j = k then true else !livH t hs j) (fun j => if j = slS hs k then true else decide (slS t j = 2)) → OnG K w wx q gb n (i + 1) (.slice (some ⟨g8, 0, none⟩) hs.length cc8) (.slice (some ⟨g9, 0, none⟩) hs.length cc9) (endT t (slS hs k : Int) (slG hs k) 2) hs := fun wx S => ⟨S.congr (fun j hj => by
                  rw [h5 j hj]
                  by_cases ej : j = k
                  · rw [if_pos ej, if_pos ej]; rfl
                  · rw [if_neg ej, if_neg ej]) (fun j _ => by
                  rw [h6]
                  by_cases ej : j = slS hs k
                  · rw [if_pos ej, if_pos ej]; simp [ej, sv]
                  · rw [if_neg ej, if_neg ej]), h4⟩
                have FIN := Lib.hid fin
                clear fin h3 h4 h5 h6
                go_wp2_with fail
                refine (kg _ G6.1.rep).mono ?_; rintro e w7 ⟨rfl, R7, x7⟩
                have S7 : OnS K w w7 q gb n (.slice (some ⟨g8, 0, none⟩) hs.length cc8) (.slice (some ⟨g9, 0, none⟩) hs.length cc9) (endT t (slS hs k : Int) (slG hs k) 2) hs (fun j => !livH t hs j) (fun j => decide (slS t j = 2)) := by
                  rw [← HM.out]
                  exact G6.1.call OB R7 x7
                clear G6 R7 x7 kg s0 s1
                have hin : slS hs k < n := hkn2
                have i0_ : (0 : Int) ≤ ((slS hs k : Nat) : Int) := Int.natCast_nonneg _
                have i1_ : ((slS hs k : Nat) : Int) < (n : Int) := Int.ofNat_lt.2 hin
                go_upto_region 42 with fail
                obtain ⟨_, _, ev, hcs⟩ := S7.had (by rw [← HM.out]; exact h0)
                injection ev with ev1 ev2 ev3
                injection ev1 with ev1
                injection ev1 with ev1
                subst ev1
                clear ev2 ev3
                obtain ⟨s0, s1⟩ := hcs k hks
                have cg : w7.cell? ⟨gb, slS hs k, none⟩ = some (.bool false) := by
                  have h := (S7.gone.2 _ hin).1
                  simpa [sv] using h
                have cf := (S7.gone.2 _ hin).2
                clear hcs s1
                go_still_tail 19, (by kernel_rfl)
                change wpList _ _ _ _ _ w7.drew
                have S8 := S7.on (Below.refl w7.heap.size w7).drew
                have cg8 : w7.drew.cell? ⟨gb, slS hs k, none⟩ = some (.bool false) := cg
                have cf8 : w7.drew.frozen? ⟨gb, slS hs k, none⟩ = false := cf
                have s08 : w7.drew.cell? ⟨g8, k * 2, none⟩ = some (.int .i64 ((slS hs k : Nat) : Int)) := s0
                clear cg cf s0 S7
                obtain ⟨w8, hw8⟩ : ∃ x_ : World, x_ = w7.drew := ⟨_, rfl⟩
                rw [← hw8] at S8 cg8 cf8 s08 ⊢
                clear hw8
                have S9 := S8.setGone OB (slS hs k) hin true
                go_upto_region 43 with fail
                obtain ⟨w9, hw9⟩ : ∃ x_ : World, x_ = w8.setCell ⟨gb, slS hs k, none⟩ (.bool true) := ⟨_, rfl⟩
                rw [← hw9] at S9 ⊢
                clear hw9 S8 cg8 cf8 s08
                obtain ⟨_, _, ev, _, hov⟩ := S9.over (by rw [← HM.out]; exact h0)
                injection ev with ev1 ev2 ev3
                injection ev1 with ev1
                injection ev1 with ev1
                subst ev1
                clear ev2 ev3
                have co : w9.cell? ⟨g9, k, none⟩ = some (.bool false) := by
                  have h := (hov k hks).1
                  simpa [hv] using h
                have cf_ := (hov k hks).2
                have END := Lib.hid (FIN.out _ (S9.setOver OB k true))
                clear hov S9
                go_wp2
                go_meet
                exact ⟨_, hs, Nat.le_succ_of_le hl, by have h := END.out; rw [← HM.out] at h; exact h⟩
              · have hv2 : livH t hs k = false := by simpa using hv
                obtain ⟨h4, h3⟩ := Once.stale (s := 2) hv2
                have kg : ∀ u, K.Rep u q t → Calls Try.prog 14 #[.pointer (some ⟨q, 0, none⟩), .agg #[.int .i64 ((slS hs k : Nat) : Int), .int .u32 ((slG hs k : Nat) : Int)]] u fun e w' => e = .returned (.int .i64 9) ∧ K.Rep w' q (endT t (slS hs k : Int) (slG hs k) 2) ∧ Beside (fun k => k = q) u w' := fun u R => by have h := K.retires q t (slS hs k : Int) (slG hs k) u R (G6.2.gen hks); rw [h3] at h; exact h
                have fin : ∀ wx, OnS K w wx q gb n (.slice (some ⟨g8, 0, none⟩) hs.length cc8) (.slice (some ⟨g9, 0, none⟩) hs.length cc9) (endT t (slS hs k : Int) (slG hs k) 2) hs (fun j => if j = k then true else !livH t hs j) (fun j => if j = slS hs k then decide (slS t (slS hs k) = 2) else decide (slS t j = 2)) → OnG K w wx q gb n (i + 1) (.slice (some ⟨g8, 0, none⟩) hs.length cc8) (.slice (some ⟨g9, 0, none⟩) hs.length cc9) (endT t (slS hs k : Int) (slG hs k) 2) hs := fun wx S => by
                  rw [h4] at S ⊢
                  exact ⟨S.congr (fun j hj => by
                    by_cases ej : j = k
                    · rw [if_pos ej, ej, hv2]; rfl
                    · rw [if_neg ej]) (fun j _ => by
                    by_cases ej : j = slS hs k
                    · rw [if_pos ej, ej]
                    · rw [if_neg ej]), G6.2.more (Nat.le_succ i)⟩
                have FIN := Lib.hid fin
                clear fin h3 h4 
                go_wp2_with fail
                refine (kg _ G6.1.rep).mono ?_; rintro e w7 ⟨rfl, R7, x7⟩
                have S7 : OnS K w w7 q gb n (.slice (some ⟨g8, 0, none⟩) hs.length cc8) (.slice (some ⟨g9, 0, none⟩) hs.length cc9) (endT t (slS hs k : Int) (slG hs k) 2) hs (fun j => !livH t hs j) (fun j => decide (slS t j = 2)) := by
                  rw [← HM.out]
                  exact G6.1.call OB R7 x7
                clear G6 R7 x7 kg s0 s1
                have hin : slS hs k < n := hkn2
                have i0_ : (0 : Int) ≤ ((slS hs k : Nat) : Int) := Int.natCast_nonneg _
                have i1_ : ((slS hs k : Nat) : Int) < (n : Int) := Int.ofNat_lt.2 hin
                by_cases hgv : slS t (slS hs k) = 2
                · go_upto_region 42 with fail
                  obtain ⟨_, _, ev, hcs⟩ := S7.had (by rw [← HM.out]; exact h0)
                  injection ev with ev1 ev2 ev3
                  injection ev1 with ev1
                  injection ev1 with ev1
                  subst ev1
                  clear ev2 ev3
                  obtain ⟨s0, s1⟩ := hcs k hks
                  have cg : w7.cell? ⟨gb, slS hs k, none⟩ = some (.bool true) := by
                    have h := (S7.gone.2 _ hin).1
                    simpa [hgv] using h
                  have cf := (S7.gone.2 _ hin).2
                  clear hcs s1
                  go_still_tail 19, (by kernel_rfl)
                  change wpList _ _ _ _ _ w7.drew
                  have S8 := S7.on (Below.refl w7.heap.size w7).drew
                  have cg8 : w7.drew.cell? ⟨gb, slS hs k, none⟩ = some (.bool true) := cg
                  have cf8 : w7.drew.frozen? ⟨gb, slS hs k, none⟩ = false := cf
                  have s08 : w7.drew.cell? ⟨g8, k * 2, none⟩ = some (.int .i64 ((slS hs k : Nat) : Int)) := s0
                  clear cg cf s0 S7
                  obtain ⟨w8, hw8⟩ : ∃ x_ : World, x_ = w7.drew := ⟨_, rfl⟩
                  rw [← hw8] at S8 cg8 cf8 s08 ⊢
                  clear hw8
                  have S9 := S8.setGone OB (slS hs k) hin true
                  go_upto_region 43 with fail
                  obtain ⟨w9, hw9⟩ : ∃ x_ : World, x_ = w8.setCell ⟨gb, slS hs k, none⟩ (.bool true) := ⟨_, rfl⟩
                  rw [← hw9] at S9 ⊢
                  clear hw9 S8 cg8 cf8 s08
                  have FIN2 := FIN
                  rw [show decide (slS t (slS hs k) = 2) = true from by simpa using hgv] at FIN2
                  obtain ⟨_, _, ev, _, hov⟩ := S9.over (by rw [← HM.out]; exact h0)
                  injection ev with ev1 ev2 ev3
                  injection ev1 with ev1
                  injection ev1 with ev1
                  subst ev1
                  clear ev2 ev3
                  have co : w9.cell? ⟨g9, k, none⟩ = some (.bool true) := by
                    have h := (hov k hks).1
                    simpa [hv] using h
                  have cf_ := (hov k hks).2
                  have END := Lib.hid (FIN2.out _ (S9.setOver OB k true))
                  clear hov S9
                  go_wp2
                  go_meet
                  exact ⟨_, hs, Nat.le_succ_of_le hl, by have h := END.out; rw [← HM.out] at h; exact h⟩
                · go_upto_region 42 with fail
                  obtain ⟨_, _, ev, hcs⟩ := S7.had (by rw [← HM.out]; exact h0)
                  injection ev with ev1 ev2 ev3
                  injection ev1 with ev1
                  injection ev1 with ev1
                  subst ev1
                  clear ev2 ev3
                  obtain ⟨s0, s1⟩ := hcs k hks
                  have cg : w7.cell? ⟨gb, slS hs k, none⟩ = some (.bool false) := by
                    have h := (S7.gone.2 _ hin).1
                    simpa [hgv] using h
                  have cf := (S7.gone.2 _ hin).2
                  clear hcs s1
                  go_still_tail 19, (by kernel_rfl)
                  change wpList _ _ _ _ _ w7.drew
                  have S8 := S7.on (Below.refl w7.heap.size w7).drew
                  have cg8 : w7.drew.cell? ⟨gb, slS hs k, none⟩ = some (.bool false) := cg
                  have cf8 : w7.drew.frozen? ⟨gb, slS hs k, none⟩ = false := cf
                  have s08 : w7.drew.cell? ⟨g8, k * 2, none⟩ = some (.int .i64 ((slS hs k : Nat) : Int)) := s0
                  clear cg cf s0 S7
                  obtain ⟨w8, hw8⟩ : ∃ x_ : World, x_ = w7.drew := ⟨_, rfl⟩
                  rw [← hw8] at S8 cg8 cf8 s08 ⊢
                  clear hw8
                  have S9 := S8.setGone OB (slS hs k) hin false
                  go_upto_region 43 with fail
                  obtain ⟨w9, hw9⟩ : ∃ x_ : World, x_ = w8.setCell ⟨gb, slS hs k, none⟩ (.bool false) := ⟨_, rfl⟩
                  rw [← hw9] at S9 ⊢
                  clear hw9 S8 cg8 cf8 s08
                  have FIN2 := FIN
                  rw [show decide (slS t (slS hs k) = 2) = false from by simpa using hgv] at FIN2
                  obtain ⟨_, _, ev, _, hov⟩ := S9.over (by rw [← HM.out]; exact h0)
                  injection ev with ev1 ev2 ev3
                  injection ev1 with ev1
                  injection ev1 with ev1
                  subst ev1
                  clear ev2 ev3
                  have co : w9.cell? ⟨g9, k, none⟩ = some (.bool true) := by
                    have h := (hov k hks).1
                    simpa [hv] using h
                  have cf_ := (hov k hks).2
                  have END := Lib.hid (FIN2.out _ (S9.setOver OB k true))
                  clear hov S9
                  go_wp2
                  go_meet
                  exact ⟨_, hs, Nat.le_succ_of_le hl, by have h := END.out; rw [← HM.out] at h; exact h⟩
            · obtain rfl : kI = -1 := by rw [HK.out, if_neg h0]
              clear HK
              go_wp2
              go_meet
              exact ⟨t, hs, Nat.le_succ_of_le hl, G6.more (Nat.le_succ i)⟩
          · as_aux_lemma =>
            have G6 := GG.out
            clear GG XX HK
            obtain ⟨e5, e6, hzn, e7⟩ := rem_at A n1
            obtain ⟨z, hz⟩ : ∃ z, z = A % n := ⟨_, rfl⟩
            rw [← hz] at e5 e6 hzn
            clear hz
            have z0 : (0 : Int) ≤ (z : Int) := Int.natCast_nonneg z
            have z1 : (z : Int) < (n : Int) := Int.ofNat_lt.2 hzn
            go_upto_region 34 with fail
            clear a1 e5 e6 e7
            by_cases h2 : slS t z = 2
            · obtain ⟨h3, h4, h5, h6⟩ := G6.2.free hzn h2
              have cg : w4.cell? ⟨gb, z, none⟩ = some (.bool true) := by
                have h := (G6.1.gone.2 z hzn).1
                simpa [h2] using h
              have fin : ∀ wx, OnS K w wx q gb n (.slice a8 m cc8) (.slice a9 m cc9) (freeT t (z : Int)) hs (fun j => !livH t hs j) (fun j => if j = z then false else decide (slS t j = 2)) → OnG K w wx q gb n (i + 1) (.slice a8 m cc8) (.slice a9 m cc9) (freeT t (z : Int)) hs := fun wx S => ⟨S.congr (fun j hj => by rw [h5 j hj]) (fun j _ => by
                rw [h6]
                by_cases ej : j = z
                · rw [if_pos ej, if_pos ej]; rfl
                · rw [if_neg ej, if_neg ej]), h4.more (Nat.le_succ i)⟩
              have kf : ∀ u, K.Rep u q t → Calls Try.prog 16 #[.pointer (some ⟨q, 0, none⟩), .int .i64 (z : Int)] u fun e w' => e = .returned (.int .i64 0) ∧ K.Rep w' q (freeT t (z : Int)) ∧ Beside (fun k => k = q) u w' := fun u R => by have h := K.frees q t (z : Int) u R; rw [h3] at h; exact h
              have FIN := Lib.hid fin
              clear h3 h4 h5 h6 fin h2
              refine wp_region_noPanic ?_
              refine wp_region_held_drew (S := (fun w' => w'.cell? ⟨gb, z, none⟩ = some (.bool true))) (by kernel_rfl) ?_ (fun hHeld => ?_)
              · exact cg
              have S7 := G6.1.on (Below.refl w4.heap.size w4).drew
              obtain ⟨w5, hw5⟩ : ∃ x_ : World, x_ = w4.drew := ⟨_, rfl⟩
              rw [← hw5] at S7 hHeld ⊢
              clear hw5 cg G6
              refine wpAnyH_take (i := 0) (oi := _) (v := ?_) rfl (by kernel_rfl) (by kernel_rfl) (by kernel_rfl) (fun _ _ _ h => h) (Or.inl ⟨by kernel_rfl, ?_⟩) (by assumption) ?_
              rotate_left
              · intro w hSw
                clear hSw
                go_simp
                with_reducible rfl
              try simp only [List.getElem_toArray, List.getElem_cons_succ, List.getElem_cons_zero, Act.put, List.setIfInBounds_toArray, List.set_cons_zero, List.set_cons_succ]
              refine wpAnyH_take (i := 1) (oi := _) (v := ?_) rfl (by kernel_rfl) (by kernel_rfl) (by kernel_rfl) (fun _ _ _ h => h) (Or.inl ⟨by kernel_rfl, ?_⟩) (by assumption) ?_
              rotate_left
              · intro w hSw
                clear hSw
                go_simp
                with_reducible rfl
              try simp only [List.getElem_toArray, List.getElem_cons_succ, List.getElem_cons_zero, Act.put, List.setIfInBounds_toArray, List.set_cons_zero, List.set_cons_succ]
              refine wpAnyH_take (i := 4) (oi := _) (v := ?_) rfl (by kernel_rfl) (by kernel_rfl) (by kernel_rfl) (fun _ _ _ h => h) (Or.inl ⟨by kernel_rfl, ?_⟩) (by assumption) ?_
              rotate_left
              · intro w hSw
                clear hSw
                go_simp
                with_reducible rfl
              try simp only [List.getElem_toArray, List.getElem_cons_succ, List.getElem_cons_zero, Act.put, List.setIfInBounds_toArray, List.set_cons_zero, List.set_cons_succ]
              refine wpAnyH_take (i := 5) (oi := _) (v := ?_) rfl (by kernel_rfl) (by kernel_rfl) (by kernel_rfl) (fun _ _ _ h => h) (Or.inl ⟨by kernel_rfl, ?_⟩) (by assumption) ?_
              rotate_left
              · intro w hSw
                clear hSw
                go_simp
                with_reducible rfl
              try simp only [List.getElem_toArray, List.getElem_cons_succ, List.getElem_cons_zero, Act.put, List.setIfInBounds_toArray, List.set_cons_zero, List.set_cons_succ]
              refine wpAnyH_take (i := 6) (oi := _) (v := ?_) rfl (by kernel_rfl) (by kernel_rfl) (by kernel_rfl) (fun _ _ _ h => h) (Or.inl ⟨by kernel_rfl, ?_⟩) (by assumption) ?_
              rotate_left
              · intro w hSw
                clear hSw
                go_simp
                with_reducible rfl
              try simp only [List.getElem_toArray, List.getElem_cons_succ, List.getElem_cons_zero, Act.put, List.setIfInBounds_toArray, List.set_cons_zero, List.set_cons_succ]
              refine wpAnyH_take (i := 7) (oi := _) (v := ?_) rfl (by kernel_rfl) (by kernel_rfl) (by kernel_rfl) (fun _ _ _ h => h) (Or.inl ⟨by kernel_rfl, ?_⟩) (by assumption) ?_
              rotate_left
              · intro w hSw
                (try dsimp only at hSw)
                go_simp
                with_reducible rfl
              try simp only [List.getElem_toArray, List.getElem_cons_succ, List.getElem_cons_zero, Act.put, List.setIfInBounds_toArray, List.set_cons_zero, List.set_cons_succ]
              refine wpAnyH_ready (rs := [2]) (by kernel_rfl) (by simp) ?_
              refine AllReadyH.cons (o := _) rfl (fun K_ hK => ?_) AllReadyH.nil
              go_simp
              refine (kf _ S7.rep).mono ?_; rintro e w6 ⟨rfl, R6, x6⟩
              have S8 := S7.call OB R6 x6
              have hc6 : w6.cell? ⟨gb, z, none⟩ = some (.bool true) := (x6.cell (p := ⟨gb, z, none⟩) S7.gone.1 (fun (e : gb = q) => Nat.lt_irrefl q (e ▸ OB.hg))).trans hHeld
              show K_ _ _
              refine hK.out _ _ hc6 (fun hH1 => ?_)
              clear hK K_ hHeld S7 R6 x6 kf
              have hHeld := hH1
              clear hH1
              try simp only [List.getElem_toArray, List.getElem_cons_succ, List.getElem_cons_zero, Act.put, List.setIfInBounds_toArray, List.set_cons_zero, List.set_cons_succ]
              refine wpAnyH_take (i := 3) (oi := _) (v := ?_) rfl (by kernel_rfl) (by kernel_rfl) (by kernel_rfl) (fun _ _ _ h => h) (Or.inl ⟨by kernel_rfl, ?_⟩) (by assumption) ?_
              rotate_left
              · intro w hSw
                clear hSw
                go_simp
                with_reducible rfl
              try simp only [List.getElem_toArray, List.getElem_cons_succ, List.getElem_cons_zero, Act.put, List.setIfInBounds_toArray, List.set_cons_zero, List.set_cons_succ]
              refine wpAnyH_take (i := 8) (oi := _) (v := ?_) rfl (by kernel_rfl) (by kernel_rfl) (by kernel_rfl) (fun _ _ _ h => h) (Or.inl ⟨by kernel_rfl, ?_⟩) (by assumption) ?_
              rotate_left
              · intro w hSw
                clear hSw
                go_simp
                with_reducible rfl
              try simp only [List.getElem_toArray, List.getElem_cons_succ, List.getElem_cons_zero, Act.put, List.setIfInBounds_toArray, List.set_cons_zero, List.set_cons_succ]
              refine wpAnyH_done (by kernel_rfl) (NoPanic.normal ?_) _
              have hf6 := (S8.gone.2 z hzn).2
              have S9 := Lib.hid (FIN.out _ (S8.setGone OB z hzn false))
              clear S8 hHeld FIN
              go_wp2
              go_meet
              exact ⟨_, hs, Nat.le_succ_of_le hl, S9.out⟩
            · obtain ⟨h3, h4⟩ := Once.kept G6.2.len hzn h2
              have cg : w4.cell? ⟨gb, z, none⟩ = some (.bool false) := by
                have h := (G6.1.gone.2 z hzn).1
                simpa [h2] using h
              have fin : ∀ wx, OnS K w wx q gb n (.slice a8 m cc8) (.slice a9 m cc9) (freeT t (z : Int)) hs (fun j => !livH t hs j) (fun j => if j = z then false else decide (slS t j = 2)) → OnG K w wx q gb n (i + 1) (.slice a8 m cc8) (.slice a9 m cc9) (freeT t (z : Int)) hs := fun wx S => by
                rw [h4] at S ⊢
                exact ⟨S.congr (fun j _ => rfl) (fun j _ => by
                  by_cases ej : j = z
                  · rw [if_pos ej, ej]; simp [h2]
                  · rw [if_neg ej]), G6.2.more (Nat.le_succ i)⟩
              have kf : ∀ u, K.Rep u q t → Calls Try.prog 16 #[.pointer (some ⟨q, 0, none⟩), .int .i64 (z : Int)] u fun e w' => e = .returned (.int .i64 6) ∧ K.Rep w' q (freeT t (z : Int)) ∧ Beside (fun k => k = q) u w' := fun u R => by have h := K.frees q t (z : Int) u R; rw [h3] at h; exact h
              have FIN := Lib.hid fin
              clear h3 h4  fin h2
              refine wp_region_noPanic ?_
              refine wp_region_held_drew (S := (fun w' => w'.cell? ⟨gb, z, none⟩ = some (.bool false))) (by kernel_rfl) ?_ (fun hHeld => ?_)
              · exact cg
              have S7 := G6.1.on (Below.refl w4.heap.size w4).drew
              obtain ⟨w5, hw5⟩ : ∃ x_ : World, x_ = w4.drew := ⟨_, rfl⟩
              rw [← hw5] at S7 hHeld ⊢
              clear hw5 cg G6
              refine wpAnyH_take (i := 0) (oi := _) (v := ?_) rfl (by kernel_rfl) (by kernel_rfl) (by kernel_rfl) (fun _ _ _ h => h) (Or.inl ⟨by kernel_rfl, ?_⟩) (by assumption) ?_
              rotate_left
              · intro w hSw
                clear hSw
                go_simp
                with_reducible rfl
              try simp only [List.getElem_toArray, List.getElem_cons_succ, List.getElem_cons_zero, Act.put, List.setIfInBounds_toArray, List.set_cons_zero, List.set_cons_succ]
              refine wpAnyH_take (i := 1) (oi := _) (v := ?_) rfl (by kernel_rfl) (by kernel_rfl) (by kernel_rfl) (fun _ _ _ h => h) (Or.inl ⟨by kernel_rfl, ?_⟩) (by assumption) ?_
              rotate_left
              · intro w hSw
                clear hSw
                go_simp
                with_reducible rfl
              try simp only [List.getElem_toArray, List.getElem_cons_succ, List.getElem_cons_zero, Act.put, List.setIfInBounds_toArray, List.set_cons_zero, List.set_cons_succ]
              refine wpAnyH_take (i := 4) (oi := _) (v := ?_) rfl (by kernel_rfl) (by kernel_rfl) (by kernel_rfl) (fun _ _ _ h => h) (Or.inl ⟨by kernel_rfl, ?_⟩) (by assumption) ?_
              rotate_left
              · intro w hSw
                clear hSw
                go_simp
                with_reducible rfl
              try simp only [List.getElem_toArray, List.getElem_cons_succ, List.getElem_cons_zero, Act.put, List.setIfInBounds_toArray, List.set_cons_zero, List.set_cons_succ]
              refine wpAnyH_take (i := 5) (oi := _) (v := ?_) rfl (by kernel_rfl) (by kernel_rfl) (by kernel_rfl) (fun _ _ _ h => h) (Or.inl ⟨by kernel_rfl, ?_⟩) (by assumption) ?_
              rotate_left
              · intro w hSw
                clear hSw
                go_simp
                with_reducible rfl
              try simp only [List.getElem_toArray, List.getElem_cons_succ, List.getElem_cons_zero, Act.put, List.setIfInBounds_toArray, List.set_cons_zero, List.set_cons_succ]
              refine wpAnyH_take (i := 6) (oi := _) (v := ?_) rfl (by kernel_rfl) (by kernel_rfl) (by kernel_rfl) (fun _ _ _ h => h) (Or.inl ⟨by kernel_rfl, ?_⟩) (by assumption) ?_
              rotate_left
              · intro w hSw
                clear hSw
                go_simp
                with_reducible rfl
              try simp only [List.getElem_toArray, List.getElem_cons_succ, List.getElem_cons_zero, Act.put, List.setIfInBounds_toArray, List.set_cons_zero, List.set_cons_succ]
              refine wpAnyH_take (i := 7) (oi := _) (v := ?_) rfl (by kernel_rfl) (by kernel_rfl) (by kernel_rfl) (fun _ _ _ h => h) (Or.inl ⟨by kernel_rfl, ?_⟩) (by assumption) ?_
              rotate_left
              · intro w hSw
                (try dsimp only at hSw)
                go_simp
                with_reducible rfl
              try simp only [List.getElem_toArray, List.getElem_cons_succ, List.getElem_cons_zero, Act.put, List.setIfInBounds_toArray, List.set_cons_zero, List.set_cons_succ]
              refine wpAnyH_ready (rs := [2]) (by kernel_rfl) (by simp) ?_
              refine AllReadyH.cons (o := _) rfl (fun K_ hK => ?_) AllReadyH.nil
              go_simp
              refine (kf _ S7.rep).mono ?_; rintro e w6 ⟨rfl, R6, x6⟩
              have S8 := S7.call OB R6 x6
              have hc6 : w6.cell? ⟨gb, z, none⟩ = some (.bool false) := (x6.cell (p := ⟨gb, z, none⟩) S7.gone.1 (fun (e : gb = q) => Nat.lt_irrefl q (e ▸ OB.hg))).trans hHeld
              show K_ _ _
              refine hK.out _ _ hc6 (fun hH1 => ?_)
              clear hK K_ hHeld S7 R6 x6 kf
              have hHeld := hH1
              clear hH1
              try simp only [List.getElem_toArray, List.getElem_cons_succ, List.getElem_cons_zero, Act.put, List.setIfInBounds_toArray, List.set_cons_zero, List.set_cons_succ]
              refine wpAnyH_take (i := 3) (oi := _) (v := ?_) rfl (by kernel_rfl) (by kernel_rfl) (by kernel_rfl) (fun _ _ _ h => h) (Or.inl ⟨by kernel_rfl, ?_⟩) (by assumption) ?_
              rotate_left
              · intro w hSw
                clear hSw
                go_simp
                with_reducible rfl
              try simp only [List.getElem_toArray, List.getElem_cons_succ, List.getElem_cons_zero, Act.put, List.setIfInBounds_toArray, List.set_cons_zero, List.set_cons_succ]
              refine wpAnyH_take (i := 8) (oi := _) (v := ?_) rfl (by kernel_rfl) (by kernel_rfl) (by kernel_rfl) (fun _ _ _ h => h) (Or.inl ⟨by kernel_rfl, ?_⟩) (by assumption) ?_
              rotate_left
              · intro w hSw
                clear hSw
                go_simp
                with_reducible rfl
              try simp only [List.getElem_toArray, List.getElem_cons_succ, List.getElem_cons_zero, Act.put, List.setIfInBounds_toArray, List.set_cons_zero, List.set_cons_succ]
              refine wpAnyH_done (by kernel_rfl) (NoPanic.normal ?_) _
              have hf6 := (S8.gone.2 z hzn).2
              have S9 := Lib.hid (FIN.out _ (S8.setGone OB z hzn false))
              clear S8 hHeld FIN
              go_wp2
              go_meet
              exact ⟨_, hs, Nat.le_succ_of_le hl, S9.out⟩
        case rest => as_aux_lemma =>
          obtain ⟨t2, hs2, hl2, G6⟩ := hcut
          clear GG XX HK a1 HM hm256
          obtain ⟨b8, d8, rfl⟩ : ∃ a_ c_, u8 = .slice a_ hs2.length c_ := own_form G6.1.row
          obtain ⟨b9, d9, rfl⟩ : ∃ a_ c_, u9 = .slice a_ hs2.length c_ := own_form G6.1.ovr
          obtain ⟨M, hM⟩ : ∃ M, M = hs2.length := ⟨_, rfl⟩
          have hM3 : M < 300 := by rw [hM]; exact Nat.lt_of_le_of_lt hl2 (Nat.lt_of_le_of_lt hlt (Nat.lt_of_le_of_lt H150.out (by decide)))
          rw [← hM] at G6 ⊢
          have HM2 := Lib.hid hM
          clear hM
          have ewi : wrap64 ((i : Int) + 1) = (i : Int) + 1 := step_64 (Nat.lt_of_lt_of_le hlt (Nat.le_trans H150.out (by decide)))
          have EW := Lib.hid ewi
          clear ewi
          have GG := Lib.hid G6
          clear G6
          go_upto_region 48 with fail
          go_loopw [23, 24] (fun sa sb wy => ∃ j : Nat, j ≤ M ∧ sb = .int .i64 (j : Int) ∧ sa = .int .i64 (cntF (livH t2 hs2) j : Int) ∧ Below wc.heap.size wc wy) (fun _ sb _ => M - (intOf sb).toNat)
          case atStart => exact ⟨0, Nat.zero_le _, rfl, rfl, Below.refl _ _⟩
          case round =>
            obtain ⟨j, hj, rfl, rfl, bj⟩ := hrel
            have Gj := GG.out.on bj
            by_cases hjl : j < M
            · have u1 : decide ((j : Int) < (M : Int)) = true := by simpa using hjl
              have u2 : (0 : Int) ≤ (j : Int) := Int.natCast_nonneg j
              have u3_ : (j : Int) < (M : Int) := Int.ofNat_lt.2 hjl
              have EJ := Lib.hid (step_64 (Nat.lt_trans hjl hM3))
              have hjs : j < hs2.length := by rw [← HM2.out]; exact hjl
              have hpos := Nat.lt_of_le_of_lt (Nat.zero_le j) hjs
              obtain ⟨g8, c8, ev, hcs⟩ := Gj.1.had hpos
              injection ev with ev1 ev2 ev3
              subst ev1
              clear ev2 ev3
              obtain ⟨s0, s1⟩ := hcs j hjs
              obtain ⟨g9, c9, ev, h9l, hov⟩ := Gj.1.over hpos
              injection ev with ev1 ev2 ev3
              subst ev1
              clear ev2 ev3
              have co := (hov j hjs).1
              have h8l : g8 < wr.heap.size := World.block_lt_of_cell? _ _ s0
              have hgen := Gj.2.gen hjs
              have Rj := Gj.1.rep
              have cst : cntF (livH t2 hs2) (j + 1) = cntF (livH t2 hs2) j + if livH t2 hs2 j = true then 1 else 0 := rfl
              have cle := cntF_le (livH t2 hs2) j
              have ec := Lib.hid (step_64 (Nat.lt_of_le_of_lt cle (Nat.lt_trans hjl hM3)))
              have HJ := Lib.hid hjl
              have p0 : ∀ q_ : Later wr.heap.size wr, q_.u.cell? ⟨g8, j * 2, none⟩ = some (.int .i64 ((slS hs2 j : Nat) : Int)) := fun q_ => q_.block h8l s0
              have p1 : ∀ q_ : Later wr.heap.size wr, q_.u.cell? ⟨g8, j * 2 + 1, none⟩ = some (.int .u32 ((slG hs2 j : Nat) : Int)) := fun q_ => q_.block h8l s1
              clear hcs hov Gj hj hjl cle s0 s1 hpos
              by_cases hv : livH t2 hs2 j = true
              · rw [if_pos hv] at cst
                have kl : ∀ q_ : Later wr.heap.size wr, Calls Try.prog 22 #[.pointer (some ⟨q, 0, none⟩), .agg #[.int .i64 ((slS hs2 j : Nat) : Int), .int .u32 ((slG hs2 j : Nat) : Int)]] q_.u fun e w' => e = .returned (.bool true) ∧ Below q_.u.heap.size q_.u w' := fun q_ => by
                  have h := K.lives q t2 (slS hs2 j : Int) (slG hs2 j) _ (K.on Rj q_.h) hgen
                  rw [show liveV t2 (slS hs2 j : Int) (slG hs2 j) = true from hv] at h
                  exact h
                have co2 : wr.cell? ⟨g9, j, none⟩ = some (.bool false) := by simpa [hv] using co
                have p2 : ∀ q_ : Later wr.heap.size wr, q_.u.cell? ⟨g9, j, none⟩ = some (.bool false) := fun q_ => q_.block h9l co2
                have CS := Lib.hid cst
                clear cst hv co hgen Rj hjs h8l
                generalize cntF (livH t2 hs2) j = cc at ec CS ⊢
                generalize slS hs2 j = y1 at p0 p1 kl
                generalize slG hs2 j = y2 at p1 kl
                go_upto_region 50 with fail
                refine region_later (B := wr.heap.size) (by kernel_rfl) (by kernel_rfl) ?_
                repeat (go_big_quiet_step (first
                  | (go_at_call 22; exact later_of _ (Nat.le_refl _) (kl _))))
                refine later_end fun w10 b10 => ?_
                have bk := bj.trans (b10.mono bj.size)
                have co3 : w10.cell? ⟨g9, j, none⟩ = some (.bool false) := (b10.cell (p := ⟨g9, j, none⟩) h9l).trans co2
                clear p0 p1 p2 co2 kl bj b10
                go_wp2
                go_roundw
                case rel => exact ⟨j + 1, HJ.out, by simp [EJ.out], by rw [CS.out]; first | rfl | (rw [ec.out]; rfl), bk⟩
                case measure => first | exact step_meas EJ.out (step_less HJ.out) | exact step_less HJ.out
              · rw [if_neg hv] at cst
                have hv2 : livH t2 hs2 j = false := by simpa using hv
                have kl : ∀ q_ : Later wr.heap.size wr, Calls Try.prog 22 #[.pointer (some ⟨q, 0, none⟩), .agg #[.int .i64 ((slS hs2 j : Nat) : Int), .int .u32 ((slG hs2 j : Nat) : Int)]] q_.u fun e w' => e = .returned (.bool false) ∧ Below q_.u.heap.size q_.u w' := fun q_ => by
                  have h := K.lives q t2 (slS hs2 j : Int) (slG hs2 j) _ (K.on Rj q_.h) hgen
                  rw [show liveV t2 (slS hs2 j : Int) (slG hs2 j) = false from hv2] at h
                  exact h
                have co2 : wr.cell? ⟨g9, j, none⟩ = some (.bool true) := by simpa [hv2] using co
                have p2 : ∀ q_ : Later wr.heap.size wr, q_.u.cell? ⟨g9, j, none⟩ = some (.bool true) := fun q_ => q_.block h9l co2
                have CS := Lib.hid cst
                clear cst hv hv2 co hgen Rj hjs h8l ec
                generalize cntF (livH t2 hs2) j = cc at CS ⊢
                generalize slS hs2 j = y1 at p0 p1 kl
                generalize slG hs2 j = y2 at p1 kl
                go_upto_region 50 with fail
                refine region_later (B := wr.heap.size) (by kernel_rfl) (by kernel_rfl) ?_
                repeat (go_big_quiet_step (first
                  | (go_at_call 22; exact later_of _ (Nat.le_refl _) (kl _))))
                refine later_end fun w10 b10 => ?_
                have bk := bj.trans (b10.mono bj.size)
                have co3 : w10.cell? ⟨g9, j, none⟩ = some (.bool true) := (b10.cell (p := ⟨g9, j, none⟩) h9l).trans co2
                clear p0 p1 p2 co2 kl bj b10
                go_wp2
                go_roundw
                case rel => exact ⟨j + 1, HJ.out, by simp [EJ.out], by rw [CS.out]; rfl, bk⟩
                case measure => first | exact step_meas EJ.out (step_less HJ.out) | exact step_less HJ.out
            · obtain rfl : j = M := Nat.le_antisymm hj (Nat.le_of_not_lt hjl)
              have u1 : decide ((j : Int) < (j : Int)) = false := by simp
              have hsum : cntF (livH t2 hs2) j = cnt t2 1 := by have h := GG.out.2.sum; rwa [← HM2.out] at h
              rw [hsum]
              have hk := K.counts q t2 _ Gj.1.rep
              have hall := cnt_all GG.out.2.ok
              rw [GG.out.2.len] at hall
              clear hsum hj hjl
              generalize cnt t2 0 = z0 at hk hall
              generalize cnt t2 1 = z1 at hk hall ⊢
              generalize cnt t2 2 = z2 at hk hall
              obtain ⟨zs, q1, q2⟩ := two_sum hall n2
              clear hall
              go_wp2_with fail
              refine hk.mono ?_; rintro e w9 ⟨rfl, x9⟩
              have G9 := Lib.hid (Gj.on x9)
              clear Gj x9 hk bj GG
              go_wp2
              go_roundw
              case rel => exact ⟨i + 1, t2, hs2, hlt, by simp [EW.out], hl2, G9.out⟩
              case measure => first | exact step_meas EW.out (step_less hlt) | exact step_less hlt
    · obtain rfl : i = len := Nat.le_antisymm hi (Nat.le_of_not_lt hlt)
      have t1 : decide ((i : Int) < (i : Int)) = false := by simp
      have B3 := G3.1.below
      clear G3
      go_wp2_with fail
      refine (slotted_ K _).mono ?_; rintro e w9 ⟨rfl, x9⟩
      have B9 := B3.trans (x9.mono B3.size)
      clear B3 x9
      go_wp2
      go_ret
      exact ⟨rfl, B9⟩
end Go.Proofs.Ytlnbjpabcldmnaa.SlabOnce
