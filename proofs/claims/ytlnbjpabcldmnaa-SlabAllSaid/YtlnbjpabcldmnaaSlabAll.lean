/- SlabAll (layer 13), over what is asked of the slab. -/
import Derived.Test.YtlnbjpabcldmnaaSlaS
import Derived.Test.YtlnbjpabcldmnaaSlaQ
import Derived.Test.YtlnbjpabcldmnaaFieldsE
namespace Go.Proofs.Ytlnbjpabcldmnaa.SlabAll
set_option linter.unusedVariables false
set_option linter.unusedSimpArgs false
open Go.ChangeShapes Go.WideShapes Go.ChangeAt Go.RowKit Go.PlainAid
attribute [local go_sem ↓] Go.wp_at_zero Go.wp_at_succ
theorem i64_nat {n : Nat} (h : n ≤ 9000000000) : IntKind.i64.wrap (n : Int) = (n : Int) := IntWalk.i64_in _ (by omega)
set_option maxHeartbeats 8000000 in
set_option maxRecDepth 100000 in
theorem walkN (K : SlabOk) (f : Nat) (a : Option Addr) (len cap : Nat) (zs : List Int) (w : World) (hf : f ≤ 255) (ROW : Row .u8 w a len zs) (WF : ∀ x ∈ zs, 0 ≤ x ∧ x ≤ 255) :
    Calls Try.prog 6 #[.int .u8 (f : Int), .slice a len cap] w fun e w' => e = .returned (.bool true) ∧ Below w.heap.size w w' := by
  by_cases h1 : 300 < len
  · have e1 : decide ((300 : Int) < len) = true := by simp; omega
    have e2 : decide (300 < len) = true := by simpa using h1
    go_enter Try.func6, Try.ntmps6
    go_wp2_with fail
    refine (slotted_ K _).mono ?_; rintro e w1 ⟨rfl, b1⟩
    go_wp2
    go_ret
    exact ⟨rfl, b1⟩
  have e1 : decide ((300 : Int) < len) = false := by simp; omega
  have e2 : decide (300 < len) = false := by simpa using h1
  obtain ⟨n, hn⟩ : ∃ n, n = 1 + f := ⟨_, rfl⟩
  have n1 : 1 ≤ n := by omega
  have n2 : n ≤ 256 := by omega
  have y1 : IntKind.i64.wrap (f : Int) = (f : Int) := i64_nat (by omega)
  have y2 : IntKind.i64.wrap (1 + (f : Int)) = (n : Int) := by rw [show 1 + (f : Int) = (n : Int) by omega]; exact i64_nat (by omega)
  have y3 : wrap64 (1 + (f : Int)) = (n : Int) := by rw [show 1 + (f : Int) = (n : Int) by omega]; exact IntWalk.wrap64_in _ (by omega)
  have RR := Lib.hid ROW
  have WW := Lib.hid WF
  have mxl : maxLen = 9223372036854775807 := rfl
  clear ROW WF hn
  have kn := fun u => K.news n u n1 n2
  obtain ⟨i0, hi0, hz0, hz1, hz2⟩ := handle_info
  go_enter Try.func6, Try.ntmps6
  go_wp2_with fail
  refine (kn _).mono ?_; rintro e w1 ⟨q, rfl, b1, hq, R1⟩
  have T1 := TakenTo.new n
  have H300 := Lib.hid (Nat.le_of_not_lt h1)
  clear kn y1 y2 y3 hf mxl e1 e2 h1
  go_upto_region 9 with fail
  go_loopw [8, 9] (fun v si wr => ∃ (i : Nat) (t : Sl), i ≤ n ∧ si = .int .i64 (i : Int) ∧ RowP 34 wr (q + 1) v (firstH i) ∧ K.Rep wr q t ∧ TakenTo t n i ∧ Below w.heap.size w wr) (fun _ si _ => n - (intOf si).toNat)
  case atStart => exact ⟨0, _, Nat.zero_le _, rfl, RowP.nil _ _ _, R1, T1, b1⟩
  case round =>
    obtain ⟨i, t, hi, rfl, hr, R, T, B⟩ := hrel
    clear R1 b1 T1
    by_cases hlt : i < n
    · have t1 : decide ((i : Int) < (n : Int)) = true := by simp; omega
      have ew : wrap64 ((i : Int) + 1) = (i : Int) + 1 := IntWalk.wrap64_in _ (by omega)
      have T2 := T.step hlt
      have kt := K.takeTo T hlt wr R
      have kl := fun u h => K.liveTo (q := q) T2 (Nat.lt_succ_self i) hlt u h
      have HL := Lib.hid (firstH_len i)
      have HS := Lib.hid (firstH_succ i)
      clear T
      go_wp2_with fail
      refine kt.mono ?_; rintro e w2 ⟨rfl, R2, x2⟩
      have r2 := hr.beside x2 (fun g hg e => by have := (hr.lt g hg).1; have e2 : g = q := e; omega)
      have B2 := below_own B hq x2
      clear x2 R kt hr B
      go_wp2_with fail
      have A3 := Two.make w2 (.int .i64 (i : Int)) (.int .u32 1) 34
      have x3 : Below w2.heap.size w2 (w2.alloc (.cells #[.int .i64 (i : Int), .int .u32 1] 34)) := (Below.refl _ _).alloc (Nat.le_refl _) _
      have R3 := K.on R2 x3
      have r3 := r2.on x3
      have B3 := B2.trans (x3.mono B2.size)
      obtain ⟨w3, hw3⟩ : ∃ x_ : World, x_ = w2.alloc (.cells #[.int .i64 (i : Int), .int .u32 1] 34) := ⟨_, rfl⟩
      rw [← hw3] at A3 R3 r3 B3 ⊢
      clear hw3 x3 R2 r2 B2
      refine (kl _ R3).mono ?_; rintro e w4 ⟨rfl, x4⟩
      have A4 := A3.on x4
      have R4 := K.on R3 x4
      have r4 := r3.on x4
      have B4 := B3.trans (x4.mono B3.size)
      clear A3 R3 r3 B3 x4 kl
      obtain ⟨_, a0, a1⟩ := id A4
      have hql := K.lt R4
      have r5 : w4.ownsRow (q + 1) 34 2 u8 i (valsP (firstH i)) := by have := r4; unfold RowP at this; rwa [HL.out] at this
      have hne : some q ≠ u8.ownBlock := fun e => by have := (r4.lt q e.symm).1; omega
      obtain ⟨p1, p2⟩ := push_ok hlt n2
      have p0 : 0 < 2 := Nat.succ_pos _
      have p3 := push_base (.cells #[.int .i64 (i : Int), .int .u32 1] 34) hql
      have r6 := r5.alloc (.cells #[.int .i64 (i : Int), .int .u32 1] 34)
      have HR4 := Lib.hid R4
      have HB4 := Lib.hid B4
      have Hr4 := Lib.hid r4
      clear R4 B4 r4 A4
      go_wp2_with (at_builtin; refine wpList_append_own _ rfl _ _ 31 rfl (q + 1) 34 i0 _ 2 16 Try.underlying31 hi0 hz0 hz1 hz2 rfl p0 u8 i (valsP (firstH i)) rfl r6 ⟨w4.heap.size, 0, none⟩ 1 1 (valsP [(i, 1)]) rfl rfl (newP w4 i 1 _) (onesP _) p1 p2 p3 ?_; intro v' w5 hown hgrow hnil)
      have hgrow' : (w4.alloc (.cells #[.int .i64 (i : Int), .int .u32 1] 34)).grownBy w5 u8.ownBlock := hgrow
      have hr2 : RowP 34 w5 (q + 1) v' (firstH (i + 1)) := by rw [← HS.out]; exact push_row (by rw [HL.out]; exact hown)
      have hB5 := grown_step HB4.out hq hql Hr4.out hgrow'
      have hR5 : K.Rep w5 q (slTake t) := K.keep HR4.out (grown_size hgrow') (grown_block hgrow' hql hne)
      clear hgrow hnil
      go_roundw
      case rel => exact ⟨i + 1, _, hlt, by simp, hr2, hR5, T2, hB5⟩
      case measure => simp [intOf]; omega
    · obtain rfl : i = n := Nat.le_antisymm hi (Nat.le_of_not_lt hlt)
      have t1 : decide ((i : Int) < (i : Int)) = false := by simp
      have HLn := firstH_len i
      obtain ⟨g, c, rfl, hg, hP⟩ := hr.at (by rw [HLn]; exact n1)
      rw [HLn] at *
      have hmk := made_ints i (by omega)
      go_wp2_with fail
      refine (K.takeFull T wr R).mono ?_; rintro e w2 ⟨rfl, R2, x2⟩
      have hgq : ¬ g = q := by omega
      have P2 := hP.beside x2 (show ¬ g = q from hgq)
      have B2 := below_own B hq x2
      clear x2 R hr B hP
      go_upto_region 20 with fail
      have x3 : Below w2.heap.size w2 (w2.alloc (.cells #[.int .i64 0, .int .u32 0] 34)) := (Below.refl _ _).alloc (Nat.le_refl _) _
      have R3 := K.on R2 x3
      have P3 := P2.on x3
      have B3 := B2.trans (x3.mono B2.size)
      have O4 := OwnF.made (w2.alloc (.cells #[.int .i64 0, .int .u32 0] 34)) (.int .i64 0) i 3
      have hbq := K.lt R3
      have hgw := P3.bl
      obtain ⟨w3, hw3⟩ : ∃ x_ : World, x_ = w2.alloc (.cells #[.int .i64 0, .int .u32 0] 34) := ⟨_, rfl⟩
      rw [← hw3] at R3 P3 B3 O4 hbq hgw ⊢
      have hs3 : w2.heap.size + 1 = w3.heap.size := by rw [hw3]; simp
      clear hw3 x3 R2 P2 B2
      have B3s := B3.size
      have x4 : Below w3.heap.size w3 (w3.alloc (.cells (madeCells #[.int .i64 0] i) 3)) := (Below.refl _ _).alloc (Nat.le_refl _) _
      have R4 := K.on R3 x4
      have P4 := P3.on x4
      have B4 := B3.trans (x4.mono B3.size)
      have hbk1 : ¬ w3.heap.size = q := fun e => by omega
      have hbk2 : ¬ w3.heap.size = g := fun e => by omega
      obtain ⟨w4, hw4⟩ : ∃ x_ : World, x_ = w3.alloc (.cells (madeCells #[.int .i64 0] i) 3) := ⟨_, rfl⟩
      rw [← hw4] at R4 P4 B4 O4 ⊢
      clear hw4 x4 R3 P3 B3 hbq hgw
      have hbk0 : w.heap.size ≤ w3.heap.size := B3s
      obtain ⟨bk, hbk⟩ : ∃ bk, bk = w3.heap.size := ⟨_, rfl⟩
      rw [← hbk] at O4 hbk0 hbk1 hbk2 hs3
      try rw [hs3]
      try rw [← hbk]
      clear hbk hs3
      have T4 := BackAt.start T
      clear T hmk t1 HLn B3s
      go_loopw [15] (fun si wr => ∃ (j : Nat) (t : Sl) (z : Nat → Nat), j ≤ len ∧ si = .int .i64 (j : Int) ∧ K.Rep wr q t ∧ BackAt t i 0 z ∧ OwnF wr bk i (fun j => .int .i64 (z j : Int)) ∧ PairsAt wr g (firstH i) ∧ Below w.heap.size w wr) (fun si _ => len - (intOf si).toNat)
      case atStart => exact ⟨0, _, _, Nat.zero_le _, rfl, R4, T4, O4, P4, B4⟩
      case round =>
        obtain ⟨j, t, z, hj, rfl, R5, T5, O5, P5, B5⟩ := hrel
        clear R4 T4 O4 P4 B4
        by_cases hlt2 : j < len
        · obtain ⟨b, off, rfl, hb, hc⟩ := RR.out.2.resolve_left (Nat.ne_of_gt (Nat.lt_of_le_of_lt (Nat.zero_le j) hlt2))
          have hcell := (B5.cell (p := ⟨b, off + j, none⟩) hb).trans (hc j hlt2)
          obtain ⟨m, hm, hm2⟩ := byte_at WW.out (j := j) (by rw [RR.out.1]; exact hlt2)
          rw [hm] at hcell
          obtain ⟨e5, e6, hkn, e7⟩ := rem_at m n1
          obtain ⟨k, hk⟩ : ∃ k, k = m % i := ⟨_, rfl⟩
          rw [← hk] at e5 e6 hkn
          clear hk hm hc hb
          have ew2 : wrap64 ((j : Int) + 1) = (j : Int) + 1 := step_64 (Nat.lt_of_lt_of_le hlt2 H300.out)
          have t2 : decide ((j : Int) < (len : Int)) = true := by simpa using hlt2
          have y5 : IntKind.i64.wrap (m : Int) = (m : Int) := wrap_byte hm2
          have j0 : (0 : Int) ≤ (j : Int) := Int.natCast_nonneg j
          have j1 : (j : Int) < (len : Int) := Int.ofNat_lt.2 hlt2
          have k0 : (0 : Int) ≤ (k : Int) := Int.natCast_nonneg k
          have k1 : (k : Int) < (i : Int) := Int.ofNat_lt.2 hkn
          have hgk := T5.give hkn
          have kg0 := K.giveBack (q := q) T5 hkn
          have KG := Lib.hid kg0
          have TG := Lib.hid hgk.2
          have HL5 := Lib.hid (step_less hlt2)
          clear kg0 hgk hm2
          rcases T5.2.1 k hkn with hz | hz
          · have kg := fun u h => KG.out u h
            rw [hz] at kg
            have HZ := Lib.hid hz
            clear T5 hz KG
            go_upto_region 23 with fail
            have S5 := And.intro (pair_at P5 hkn).1 (And.intro (pair_at P5 hkn).2 (own_at O5 hkn HZ.out))
            refine wp_region_noPanic ?_
            refine wp_region_held_drew (S := (fun w' => w'.cell? ⟨g, k * 2, none⟩ = some (.int .i64 (k : Int)) ∧ w'.cell? ⟨g, k * 2 + 1, none⟩ = some (.int .u32 1) ∧ w'.cell? ⟨bk, k, none⟩ = some (.int .i64 0))) (by kernel_rfl) ?_ (fun hHeld => ?_)
            · exact S5
            have xd : Below wr.heap.size wr wr.drew := (Below.refl _ _).drew
            have R5d := K.on R5 xd
            have P5d := P5.on xd
            have O5d := O5.on xd
            have B5d := B5.trans (xd.mono B5.size)
            obtain ⟨wd, hwd⟩ : ∃ x_ : World, x_ = wr.drew := ⟨_, rfl⟩
            rw [← hwd] at R5d P5d O5d B5d hHeld ⊢
            clear hwd xd R5 P5 O5 B5 S5
            refine wpAnyH_take (i := 0) (oi := _) (v := ?_) rfl (by kernel_rfl) (by kernel_rfl) (by kernel_rfl) (fun _ _ _ h => h) (Or.inl ⟨by rfl, ?_⟩) (by assumption) ?_
            rotate_left
            · intro w hSw
              clear hSw
              go_simp
              with_reducible rfl
            try simp only [List.getElem_toArray, List.getElem_cons_succ, List.getElem_cons_zero, Act.put, List.setIfInBounds_toArray, List.set_cons_zero, List.set_cons_succ]
            refine wpAnyH_take (i := 1) (oi := _) (v := ?_) rfl (by kernel_rfl) (by kernel_rfl) (by kernel_rfl) (fun _ _ _ h => h) (Or.inl ⟨by rfl, ?_⟩) (by assumption) ?_
            rotate_left
            · intro w hSw
              clear hSw
              go_simp
              with_reducible rfl
            try simp only [List.getElem_toArray, List.getElem_cons_succ, List.getElem_cons_zero, Act.put, List.setIfInBounds_toArray, List.set_cons_zero, List.set_cons_succ]
            refine wpAnyH_take (i := 2) (oi := _) (v := ?_) rfl (by kernel_rfl) (by kernel_rfl) (by kernel_rfl) (fun _ _ _ h => h) (Or.inl ⟨by rfl, ?_⟩) (by assumption) ?_
            rotate_left
            · intro w hSw
              clear hSw
              go_simp
              with_reducible rfl
            try simp only [List.getElem_toArray, List.getElem_cons_succ, List.getElem_cons_zero, Act.put, List.setIfInBounds_toArray, List.set_cons_zero, List.set_cons_succ]
            refine wpAnyH_take (i := 3) (oi := _) (v := ?_) rfl (by kernel_rfl) (by kernel_rfl) (by kernel_rfl) (fun _ _ _ h => h) (Or.inl ⟨by rfl, ?_⟩) (by assumption) ?_
            rotate_left
            · intro w hSw
              clear hSw
              go_simp
              with_reducible rfl
            try simp only [List.getElem_toArray, List.getElem_cons_succ, List.getElem_cons_zero, Act.put, List.setIfInBounds_toArray, List.set_cons_zero, List.set_cons_succ]
            refine wpAnyH_take (i := 4) (oi := _) (v := ?_) rfl (by kernel_rfl) (by kernel_rfl) (by kernel_rfl) (fun _ _ _ h => h) (Or.inl ⟨by rfl, ?_⟩) (by assumption) ?_
            rotate_left
            · intro w hSw
              (try dsimp only at hSw)
              obtain ⟨hq0, hq1, hq2⟩ := hSw
              go_simp
              with_reducible rfl
            try simp only [List.getElem_toArray, List.getElem_cons_succ, List.getElem_cons_zero, Act.put, List.setIfInBounds_toArray, List.set_cons_zero, List.set_cons_succ]
            refine wpAnyH_take (i := 7) (oi := _) (v := ?_) rfl (by kernel_rfl) (by kernel_rfl) (by kernel_rfl) (fun _ _ _ h => h) (Or.inl ⟨by rfl, ?_⟩) (by assumption) ?_
            rotate_left
            · intro w hSw
              clear hSw
              go_simp
              with_reducible rfl
            try simp only [List.getElem_toArray, List.getElem_cons_succ, List.getElem_cons_zero, Act.put, List.setIfInBounds_toArray, List.set_cons_zero, List.set_cons_succ]
            refine wpAnyH_take (i := 8) (oi := _) (v := ?_) rfl (by kernel_rfl) (by kernel_rfl) (by kernel_rfl) (fun _ _ _ h => h) (Or.inl ⟨by rfl, ?_⟩) (by assumption) ?_
            rotate_left
            · intro w hSw
              clear hSw
              go_simp
              with_reducible rfl
            try simp only [List.getElem_toArray, List.getElem_cons_succ, List.getElem_cons_zero, Act.put, List.setIfInBounds_toArray, List.set_cons_zero, List.set_cons_succ]
            refine wpAnyH_take (i := 9) (oi := _) (v := ?_) rfl (by kernel_rfl) (by kernel_rfl) (by kernel_rfl) (fun _ _ _ h => h) (Or.inl ⟨by rfl, ?_⟩) (by assumption) ?_
            rotate_left
            · intro w hSw
              clear hSw
              go_simp
              with_reducible rfl
            try simp only [List.getElem_toArray, List.getElem_cons_succ, List.getElem_cons_zero, Act.put, List.setIfInBounds_toArray, List.set_cons_zero, List.set_cons_succ]
            refine wpAnyH_take (i := 10) (oi := _) (v := ?_) rfl (by kernel_rfl) (by kernel_rfl) (by kernel_rfl) (fun _ _ _ h => h) (Or.inl ⟨by rfl, ?_⟩) (by assumption) ?_
            rotate_left
            · intro w hSw
              (try dsimp only at hSw)
              obtain ⟨hq0, hq1, hq2⟩ := hSw
              go_simp
              with_reducible rfl
            try simp only [List.getElem_toArray, List.getElem_cons_succ, List.getElem_cons_zero, Act.put, List.setIfInBounds_toArray, List.set_cons_zero, List.set_cons_succ]
            refine wpAnyH_take (i := 11) (oi := _) (v := ?_) rfl (by kernel_rfl) (by kernel_rfl) (by kernel_rfl) (fun _ _ _ h => h) (Or.inl ⟨by rfl, ?_⟩) (by assumption) ?_
            rotate_left
            · intro w hSw
              clear hSw
              go_simp
              with_reducible rfl
            try simp only [List.getElem_toArray, List.getElem_cons_succ, List.getElem_cons_zero, Act.put, List.setIfInBounds_toArray, List.set_cons_zero, List.set_cons_succ]
            refine wpAnyH_ready (rs := [5]) (by kernel_rfl) (by simp) ?_
            refine AllReadyH.cons (o := _) rfl (fun K_ hK => ?_) AllReadyH.nil
            go_simp
            refine (kg _ R5d).mono ?_; rintro e w6 ⟨rfl, R6, x6⟩
            have P6 := P5d.beside x6 (show ¬ g = q from hgq)
            have O6 := O5d.by x6 (show ¬ bk = q from hbk1)
            have B6 := below_own B5d hq x6
            clear R5d P5d O5d B5d x6
            show K_ _ _
            refine hK.out _ _ ⟨(pair_at P6 hkn).1, (pair_at P6 hkn).2, own_at O6 hkn HZ.out⟩ (fun hH => ?_)
            clear hK K_ hHeld
            have hHeld := hH
            clear hH
            try simp only [List.getElem_toArray, List.getElem_cons_succ, List.getElem_cons_zero, Act.put, List.setIfInBounds_toArray, List.set_cons_zero, List.set_cons_succ]
            refine wpAnyH_take (i := 6) (oi := _) (v := ?_) rfl (by kernel_rfl) (by kernel_rfl) (by kernel_rfl) (fun _ _ _ h => h) (Or.inl ⟨by rfl, ?_⟩) (by assumption) ?_
            rotate_left
            · intro w hSw
              clear hSw
              go_simp
              with_reducible rfl
            try simp only [List.getElem_toArray, List.getElem_cons_succ, List.getElem_cons_zero, Act.put, List.setIfInBounds_toArray, List.set_cons_zero, List.set_cons_succ]
            refine wpAnyH_take (i := 12) (oi := _) (v := ?_) rfl (by kernel_rfl) (by kernel_rfl) (by kernel_rfl) (fun _ _ _ h => h) (Or.inl ⟨by rfl, ?_⟩) (by assumption) ?_
            rotate_left
            · intro w hSw
              clear hSw
              go_simp
              with_reducible rfl
            try simp only [List.getElem_toArray, List.getElem_cons_succ, List.getElem_cons_zero, Act.put, List.setIfInBounds_toArray, List.set_cons_zero, List.set_cons_succ]
            refine wpAnyH_done (by kernel_rfl) (NoPanic.normal ?_) _
            clear hHeld
            have c6 := own_at O6 hkn HZ.out
            have f6 := (O6.2 k hkn).2
            have O7 := Lib.hid (O6.setZ k 1 hkn)
            have x7 : Beside (fun j => j = bk) w6 (w6.setCell ⟨bk, k, none⟩ (.int .i64 1)) := (Beside.refl (fun j => j = bk) w6).setCell (p := ⟨bk, k, none⟩) rfl _
            have R7 := Lib.hid (K.by R6 x7 (fun e => hbk1 e.symm))
            have P7 := Lib.hid (P6.beside x7 (fun e => hbk2 e.symm))
            have B7 := Lib.hid (B6.setCell (p := ⟨bk, k, none⟩) hbk0 (.int .i64 1))
            clear R6 P6 O6 B6 x7
            go_wp2
            go_roundw
            case rel => exact ⟨j + 1, _, _, hlt2, by simp [ew2], R7.out, TG.out, O7.out, P7.out, B7.out⟩
            case measure => exact step_meas ew2 HL5.out
          · have kg := fun u h => KG.out u h
            rw [hz] at kg
            have HZ := Lib.hid hz
            clear T5 hz KG
            go_upto_region 23 with fail
            have S5 := And.intro (pair_at P5 hkn).1 (And.intro (pair_at P5 hkn).2 (own_at O5 hkn HZ.out))
            refine wp_region_noPanic ?_
            refine wp_region_held_drew (S := (fun w' => w'.cell? ⟨g, k * 2, none⟩ = some (.int .i64 (k : Int)) ∧ w'.cell? ⟨g, k * 2 + 1, none⟩ = some (.int .u32 1) ∧ w'.cell? ⟨bk, k, none⟩ = some (.int .i64 1))) (by kernel_rfl) ?_ (fun hHeld => ?_)
            · exact S5
            have xd : Below wr.heap.size wr wr.drew := (Below.refl _ _).drew
            have R5d := K.on R5 xd
            have P5d := P5.on xd
            have O5d := O5.on xd
            have B5d := B5.trans (xd.mono B5.size)
            obtain ⟨wd, hwd⟩ : ∃ x_ : World, x_ = wr.drew := ⟨_, rfl⟩
            rw [← hwd] at R5d P5d O5d B5d hHeld ⊢
            clear hwd xd R5 P5 O5 B5 S5
            refine wpAnyH_take (i := 0) (oi := _) (v := ?_) rfl (by kernel_rfl) (by kernel_rfl) (by kernel_rfl) (fun _ _ _ h => h) (Or.inl ⟨by rfl, ?_⟩) (by assumption) ?_
            rotate_left
            · intro w hSw
              clear hSw
              go_simp
              with_reducible rfl
            try simp only [List.getElem_toArray, List.getElem_cons_succ, List.getElem_cons_zero, Act.put, List.setIfInBounds_toArray, List.set_cons_zero, List.set_cons_succ]
            refine wpAnyH_take (i := 1) (oi := _) (v := ?_) rfl (by kernel_rfl) (by kernel_rfl) (by kernel_rfl) (fun _ _ _ h => h) (Or.inl ⟨by rfl, ?_⟩) (by assumption) ?_
            rotate_left
            · intro w hSw
              clear hSw
              go_simp
              with_reducible rfl
            try simp only [List.getElem_toArray, List.getElem_cons_succ, List.getElem_cons_zero, Act.put, List.setIfInBounds_toArray, List.set_cons_zero, List.set_cons_succ]
            refine wpAnyH_take (i := 2) (oi := _) (v := ?_) rfl (by kernel_rfl) (by kernel_rfl) (by kernel_rfl) (fun _ _ _ h => h) (Or.inl ⟨by rfl, ?_⟩) (by assumption) ?_
            rotate_left
            · intro w hSw
              clear hSw
              go_simp
              with_reducible rfl
            try simp only [List.getElem_toArray, List.getElem_cons_succ, List.getElem_cons_zero, Act.put, List.setIfInBounds_toArray, List.set_cons_zero, List.set_cons_succ]
            refine wpAnyH_take (i := 3) (oi := _) (v := ?_) rfl (by kernel_rfl) (by kernel_rfl) (by kernel_rfl) (fun _ _ _ h => h) (Or.inl ⟨by rfl, ?_⟩) (by assumption) ?_
            rotate_left
            · intro w hSw
              clear hSw
              go_simp
              with_reducible rfl
            try simp only [List.getElem_toArray, List.getElem_cons_succ, List.getElem_cons_zero, Act.put, List.setIfInBounds_toArray, List.set_cons_zero, List.set_cons_succ]
            refine wpAnyH_take (i := 4) (oi := _) (v := ?_) rfl (by kernel_rfl) (by kernel_rfl) (by kernel_rfl) (fun _ _ _ h => h) (Or.inl ⟨by rfl, ?_⟩) (by assumption) ?_
            rotate_left
            · intro w hSw
              (try dsimp only at hSw)
              obtain ⟨hq0, hq1, hq2⟩ := hSw
              go_simp
              with_reducible rfl
            try simp only [List.getElem_toArray, List.getElem_cons_succ, List.getElem_cons_zero, Act.put, List.setIfInBounds_toArray, List.set_cons_zero, List.set_cons_succ]
            refine wpAnyH_take (i := 7) (oi := _) (v := ?_) rfl (by kernel_rfl) (by kernel_rfl) (by kernel_rfl) (fun _ _ _ h => h) (Or.inl ⟨by rfl, ?_⟩) (by assumption) ?_
            rotate_left
            · intro w hSw
              clear hSw
              go_simp
              with_reducible rfl
            try simp only [List.getElem_toArray, List.getElem_cons_succ, List.getElem_cons_zero, Act.put, List.setIfInBounds_toArray, List.set_cons_zero, List.set_cons_succ]
            refine wpAnyH_take (i := 8) (oi := _) (v := ?_) rfl (by kernel_rfl) (by kernel_rfl) (by kernel_rfl) (fun _ _ _ h => h) (Or.inl ⟨by rfl, ?_⟩) (by assumption) ?_
            rotate_left
            · intro w hSw
              clear hSw
              go_simp
              with_reducible rfl
            try simp only [List.getElem_toArray, List.getElem_cons_succ, List.getElem_cons_zero, Act.put, List.setIfInBounds_toArray, List.set_cons_zero, List.set_cons_succ]
            refine wpAnyH_take (i := 9) (oi := _) (v := ?_) rfl (by kernel_rfl) (by kernel_rfl) (by kernel_rfl) (fun _ _ _ h => h) (Or.inl ⟨by rfl, ?_⟩) (by assumption) ?_
            rotate_left
            · intro w hSw
              clear hSw
              go_simp
              with_reducible rfl
            try simp only [List.getElem_toArray, List.getElem_cons_succ, List.getElem_cons_zero, Act.put, List.setIfInBounds_toArray, List.set_cons_zero, List.set_cons_succ]
            refine wpAnyH_take (i := 10) (oi := _) (v := ?_) rfl (by kernel_rfl) (by kernel_rfl) (by kernel_rfl) (fun _ _ _ h => h) (Or.inl ⟨by rfl, ?_⟩) (by assumption) ?_
            rotate_left
            · intro w hSw
              (try dsimp only at hSw)
              obtain ⟨hq0, hq1, hq2⟩ := hSw
              go_simp
              with_reducible rfl
            try simp only [List.getElem_toArray, List.getElem_cons_succ, List.getElem_cons_zero, Act.put, List.setIfInBounds_toArray, List.set_cons_zero, List.set_cons_succ]
            refine wpAnyH_take (i := 11) (oi := _) (v := ?_) rfl (by kernel_rfl) (by kernel_rfl) (by kernel_rfl) (fun _ _ _ h => h) (Or.inl ⟨by rfl, ?_⟩) (by assumption) ?_
            rotate_left
            · intro w hSw
              clear hSw
              go_simp
              with_reducible rfl
            try simp only [List.getElem_toArray, List.getElem_cons_succ, List.getElem_cons_zero, Act.put, List.setIfInBounds_toArray, List.set_cons_zero, List.set_cons_succ]
            refine wpAnyH_ready (rs := [5]) (by kernel_rfl) (by simp) ?_
            refine AllReadyH.cons (o := _) rfl (fun K_ hK => ?_) AllReadyH.nil
            go_simp
            refine (kg _ R5d).mono ?_; rintro e w6 ⟨rfl, R6, x6⟩
            have P6 := P5d.beside x6 (show ¬ g = q from hgq)
            have O6 := O5d.by x6 (show ¬ bk = q from hbk1)
            have B6 := below_own B5d hq x6
            clear R5d P5d O5d B5d x6
            show K_ _ _
            refine hK.out _ _ ⟨(pair_at P6 hkn).1, (pair_at P6 hkn).2, own_at O6 hkn HZ.out⟩ (fun hH => ?_)
            clear hK K_ hHeld
            have hHeld := hH
            clear hH
            try simp only [List.getElem_toArray, List.getElem_cons_succ, List.getElem_cons_zero, Act.put, List.setIfInBounds_toArray, List.set_cons_zero, List.set_cons_succ]
            refine wpAnyH_take (i := 6) (oi := _) (v := ?_) rfl (by kernel_rfl) (by kernel_rfl) (by kernel_rfl) (fun _ _ _ h => h) (Or.inl ⟨by rfl, ?_⟩) (by assumption) ?_
            rotate_left
            · intro w hSw
              clear hSw
              go_simp
              with_reducible rfl
            try simp only [List.getElem_toArray, List.getElem_cons_succ, List.getElem_cons_zero, Act.put, List.setIfInBounds_toArray, List.set_cons_zero, List.set_cons_succ]
            refine wpAnyH_take (i := 12) (oi := _) (v := ?_) rfl (by kernel_rfl) (by kernel_rfl) (by kernel_rfl) (fun _ _ _ h => h) (Or.inl ⟨by rfl, ?_⟩) (by assumption) ?_
            rotate_left
            · intro w hSw
              clear hSw
              go_simp
              with_reducible rfl
            try simp only [List.getElem_toArray, List.getElem_cons_succ, List.getElem_cons_zero, Act.put, List.setIfInBounds_toArray, List.set_cons_zero, List.set_cons_succ]
            refine wpAnyH_done (by kernel_rfl) (NoPanic.normal ?_) _
            clear hHeld
            have c6 := own_at O6 hkn HZ.out
            have f6 := (O6.2 k hkn).2
            have O7 := Lib.hid (O6.setZ k 1 hkn)
            have x7 : Beside (fun j => j = bk) w6 (w6.setCell ⟨bk, k, none⟩ (.int .i64 1)) := (Beside.refl (fun j => j = bk) w6).setCell (p := ⟨bk, k, none⟩) rfl _
            have R7 := Lib.hid (K.by R6 x7 (fun e => hbk1 e.symm))
            have P7 := Lib.hid (P6.beside x7 (fun e => hbk2 e.symm))
            have B7 := Lib.hid (B6.setCell (p := ⟨bk, k, none⟩) hbk0 (.int .i64 1))
            clear R6 P6 O6 B6 x7
            go_wp2
            go_roundw
            case rel => exact ⟨j + 1, _, _, hlt2, by simp [ew2], R7.out, TG.out, O7.out, P7.out, B7.out⟩
            case measure => exact step_meas ew2 HL5.out
        · obtain rfl : j = len := Nat.le_antisymm hj (Nat.le_of_not_lt hlt2)
          have t2 : decide ((j : Int) < (j : Int)) = false := by simp
          go_upto_region 27 with fail
          clear t2
          go_loopw [17] (fun si wr => ∃ (x : Nat) (t : Sl), x ≤ i ∧ si = .int .i64 (x : Int) ∧ K.Rep wr q t ∧ BackAt t i x z ∧ OwnF wr bk i (fun j => .int .i64 (z j : Int)) ∧ PairsAt wr g (firstH i) ∧ Below w.heap.size w wr) (fun si _ => i - (intOf si).toNat)
          case atStart => exact ⟨0, _, Nat.zero_le _, rfl, R5, T5, O5, P5, B5⟩
          case round =>
            obtain ⟨x, t, hx, rfl, R6, T6, O6, P6, B6⟩ := hrel
            clear R5 T5 O5 P5 B5
            by_cases hlt3 : x < i
            · have ew3 : wrap64 ((x : Int) + 1) = (x : Int) + 1 := step_64 (Nat.lt_of_lt_of_le hlt3 (Nat.le_trans n2 (by decide)))
              have t3 : decide ((x : Int) < (i : Int)) = true := by simpa using hlt3
              have x0 : (0 : Int) ≤ (x : Int) := Int.natCast_nonneg x
              have x1 : (x : Int) < (i : Int) := Int.ofNat_lt.2 hlt3
              have HL6 := Lib.hid (step_less hlt3)
              have HX := Lib.hid hlt3
              rcases T6.2.1 x hlt3 with hz | hz
              · have c6 := own_at O6 hlt3 hz
                have T7 := Lib.hid (T6.skip hz)
                have R7 := Lib.hid R6
                have O7 := Lib.hid O6
                have P7 := Lib.hid P6
                have B7 := Lib.hid B6
                clear T6 R6 O6 P6 B6 hz
                go_wp2
                go_roundw
                case rel => exact ⟨x + 1, _, HX.out, by simp [ew3], R7.out, T7.out, O7.out, P7.out, B7.out⟩
                case measure => exact HL6.out
              · have hz1 : z x ≠ 0 := by rw [hz]; exact Nat.one_ne_zero
                have c6 := own_at O6 hlt3 hz
                have kt := K.takeBack (q := q) T6 hlt3 hz1 wr R6
                have kl := fun u h => K.liveBack (q := q) T6 hlt3 hz1 u h
                have T7 := Lib.hid (T6.take hlt3 hz1).2.2.2.1
                clear T6 hz hz1
                go_wp2_with fail
                refine kt.mono ?_; rintro e w7 ⟨rfl, R7, x7⟩
                have P7 := P6.beside x7 (show ¬ g = q from hgq)
                have O7 := O6.by x7 (show ¬ bk = q from hbk1)
                have B7 := below_own B6 hq x7
                clear R6 P6 O6 B6 x7 kt c6
                go_upto_region 31 with fail
                have A8 := Two.make w7 (.int .i64 (x : Int)) (.int .u32 2) 34
                have x8 : Below w7.heap.size w7 (w7.alloc (.cells #[.int .i64 (x : Int), .int .u32 2] 34)) := (Below.refl _ _).alloc (Nat.le_refl _) _
                have R8 := K.on R7 x8
                have P8 := P7.on x8
                have O8 := O7.on x8
                have B8 := B7.trans (x8.mono B7.size)
                obtain ⟨w8, hw8⟩ : ∃ x_ : World, x_ = w7.alloc (.cells #[.int .i64 (x : Int), .int .u32 2] 34) := ⟨_, rfl⟩
                rw [← hw8] at A8 R8 P8 O8 B8 ⊢
                clear hw8 x8 R7 P7 O7 B7
                have p0 : ∀ q_ : Later w8.heap.size w8, q_.u.cell? ⟨w7.heap.size, 0, none⟩ = some (.int .i64 (x : Int)) := fun q_ => q_.block A8.lt A8.c0
                have p1 : ∀ q_ : Later w8.heap.size w8, q_.u.cell? ⟨w7.heap.size, 1, none⟩ = some (.int .u32 2) := fun q_ => q_.block A8.lt A8.c1
                have p2 : ∀ q_ : Later w8.heap.size w8, q_.u.cell? ⟨g, x * 2, none⟩ = some (.int .i64 (x : Int)) := fun q_ => q_.block P8.bl (pair_at P8 HX.out).1
                have p3 : ∀ q_ : Later w8.heap.size w8, q_.u.cell? ⟨g, x * 2 + 1, none⟩ = some (.int .u32 1) := fun q_ => q_.block P8.bl (pair_at P8 HX.out).2
                have kl8 : ∀ q_ : Later w8.heap.size w8, Calls Try.prog 22 #[.pointer (some ⟨q, 0, none⟩), .agg #[.int .i64 (x : Int), .int .u32 1]] q_.u fun e w' => e = .returned (.bool false) ∧ Below q_.u.heap.size q_.u w' := fun q_ => kl _ (K.on R8 q_.h)
                clear A8 kl
                refine region_later (B := w8.heap.size) (by kernel_rfl) (by kernel_rfl) ?_
                repeat (go_big_quiet_step (first
                  | (go_at_call 22; exact later_of _ (Nat.le_refl _) (kl8 _))))
                refine later_end fun w9 b9 => ?_
                have R9 := Lib.hid (K.on R8 b9)
                have P9 := Lib.hid (P8.on b9)
                have O9 := Lib.hid (O8.on b9)
                have B9 := Lib.hid (B8.trans (b9.mono B8.size))
                clear b9 R8 P8 O8 B8 p0 p1 p2 p3 kl8
                go_wp2
                go_roundw
                case rel => exact ⟨x + 1, _, HX.out, by simp [ew3], R9.out, T7.out, O9.out, P9.out, B9.out⟩
                case measure => exact HL6.out
            · obtain rfl : x = i := Nat.le_antisymm hx (Nat.le_of_not_lt hlt3)
              have t3 : decide ((x : Int) < (x : Int)) = false := by simp
              have kt := K.takeEnd (q := q) T6 wr R6
              clear T6 O6 P6
              go_wp2_with fail
              refine kt.mono ?_; rintro e w7 ⟨⟨s, g', rfl⟩, R7, x7⟩
              have B7 := below_own B6 hq x7
              clear R6 R7 B6 x7 kt
              go_wp2_with fail
              have B8 := B7.alloc B7.size (.cells #[.int .i64 (s : Int), .int .u32 (g' : Int)] 34)
              clear B7
              refine (slotted_ K _).mono ?_; rintro e w9 ⟨rfl, x9⟩
              have B9 := B8.trans (x9.mono B8.size)
              clear B8 x9
              go_wp2
              go_ret
              exact ⟨rfl, B9⟩
theorem walk_ (K : SlabOk) (n : Int) (a : Option Addr) (len cap : Nat) (zs : List Int) (w : World) (hn : (Lit.int .u8 n).wf = true) (hr : IsRow .u8 w a len cap zs) :
    Calls Try.prog 6 #[.int .u8 n, .slice a len cap] w fun e w' => e = .returned (.bool true) ∧ Below w.heap.size w w' := by
  obtain ⟨n0, n1⟩ := bounds_u8 hn
  obtain ⟨n, rfl⟩ := Int.eq_ofNat_of_zero_le n0
  exact walkN K n a len cap (zs.take len) w (by omega) hr.row (fun x hx => bounds_u8 (hr.wf x hx))
end Go.Proofs.Ytlnbjpabcldmnaa.SlabAll
