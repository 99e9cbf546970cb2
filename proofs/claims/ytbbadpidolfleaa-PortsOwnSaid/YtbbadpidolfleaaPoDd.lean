/- The document's ports (layer 16): Drop. Written by gen_pod.py. -/
import Derived.Test.YtbbadpidolfleaaPoD
namespace Go.Proofs.Ytbbadpidolfleaa
set_option linter.unusedVariables false
set_option linter.unusedSimpArgs false
open Go.ChangeShapes Go.WideShapes Go.ChangeAt Go.RowKit Go.PlainAid
attribute [local go_sem ↓] Go.wp_at_zero Go.wp_at_succ
set_option maxHeartbeats 8000000 in
set_option maxRecDepth 100000 in
theorem rdrp16_c (S p x) (pr oi op : Int) (w : World) (H : PoR w S p x) (hf : x.Few 1000) : Told Try.prog poR 51 #[.pointer (some ⟨p, 0, none⟩), .int .u8 pr, .agg #[.int .u32 oi, .int .u16 op], .int .i64 (-1), .int .i64 (0)] w S p (.int .i64 ((x.chg .drp pr oi op).1 : Int)) (x.chg .drp pr oi op).2 := by
  have OK := Lib.hid (show x.Ok from by obtain ⟨_, h⟩ := H; exact h.ok)
  have FEW := Lib.hid hf
  have B0 : Below w.heap.size w (w.alloc (.cells #[.int .u32 oi, .int .u16 op] 34)) := (Below.refl _ _).alloc (Nat.le_refl _) _
  have R0 := poR.on H B0
  have b0 : (w.alloc (.cells #[.int .u32 oi, .int .u16 op] 34)).cell? ⟨w.heap.size, 0, none⟩ = some (.int .u32 oi) := by simp [go_sem]
  have b1 : (w.alloc (.cells #[.int .u32 oi, .int .u16 op] 34)).cell? ⟨w.heap.size, 1, none⟩ = some (.int .u16 op) := by simp [go_sem]
  show Calls _ _ _ _ _
  go_enter Try.func51, Try.ntmps51
  go_upto_region 1 with fail
  obtain ⟨u, hu⟩ : ∃ x_ : World, x_ = w.alloc (.cells #[.int .u32 oi, .int .u16 op] 34) := ⟨_, rfl⟩
  rw [← hu] at B0 R0 b0 b1 ⊢
  clear hu H
  have cf : Says _ _ _ u _ := rowner16_ S p x pr oi op u R0 hf.len
  have HB := Lib.hid B0
  have HR := Lib.hid R0
  clear B0 R0 hf
  cases hh : x.l.any (fun t => t.isO pr oi op) with
  | false =>
    rw [any_first hh] at cf
    have hO : x.ofO pr oi op = none := any_find hh
    have FV : Hid (x.chg .drp pr oi op = (6, x)) := by show _ = _; unfold Po.chg; rw [hO]
    have n1 : decide ((-1 : Int) < 0) = true := by decide
    clear hh hO
    go_wp2_with (go_at_call 17; refine cf.mono ?_; rintro e w2 ⟨rfl, b2⟩)
    go_ret
    rw [FV.out]
    exact ⟨rfl, S, poR.on HR.out b2, Fresh.refl _ _, Beside.of (HB.out.trans (b2.mono HB.out.size))⟩
  | true =>
    obtain ⟨i, e1, hi, hp, e4, _⟩ := firstAt_at Ro.zero hh
    rw [e1] at cf
    have hO : x.ofO pr oi op = some (x.l.getD i Ro.zero) := e4
    clear e1 e4 hh
    go_upto_region 2 with (go_at_call 17; refine cf.mono ?_; rintro e w2 ⟨rfl, b2⟩)
    obtain ⟨v, D2⟩ := poR.on HR.out b2
    have B2 := HB.out.trans (b2.mono HB.out.size)
    obtain ⟨g, c, rfl, hg, fr, y0, y1, y2, y3, y4, y5, y6⟩ := D2.at hi
    have c0 := D2.c0
    obtain ⟨f1, f2, f3⟩ := ix16 hi
    have f4 : decide ((i : Int) < 0) = false := by simp
    have HD := Lib.hid D2
    have HB2 := Lib.hid B2
    have HI := Lib.hid hi
    have HP := Lib.hid hp
    have BYF := Lib.hid (FEW.out.by_ _ (getD_mem Ro.zero hi))
    have SOM := Lib.hid (OK.out.som _ (getD_mem Ro.zero hi))
    have LIV := Lib.hid (fun hl => Po.alter_live OK.out .drp hi hp hl)
    have DED := Lib.hid (fun hl => Po.alter_dead OK.out .drp hi hp hl)
    have STO := Lib.hid (fun lv hd => D2.two hi lv hd)
    have FX : Hid (x.chg .drp pr oi op = if Ch.drp.may (x.l.getD i Ro.zero) = true then (0, x.alter .drp pr oi op) else (6, x)) := by show _ = _; unfold Po.chg; rw [hO]
    obtain ⟨t, ht⟩ : ∃ t_, t_ = x.l.getD i Ro.zero := ⟨_, rfl⟩
    rw [← ht] at y5 y6 FX BYF SOM LIV DED STO
    have f5 := fr (i * 7 + 5)
    have f6 := fr (i * 7 + 6)
    clear ht hi hp hO b0 b1 cf D2 B2 hg fr y0 y1 y2 y3 y4
    obtain ⟨t1, t2, t3, t4, t5, t6, t7⟩ := t
    simp only at y5 y6 FX BYF SOM LIV DED STO
    by_cases hm : t7 = 0
    · have FV : Hid (x.chg .drp pr oi op = (6, x)) := by show _ = _; rw [FX.out, if_neg (by show ¬ decide (0 < t7) = true; simp [hm])]
      subst hm
      clear FX BYF SOM LIV DED STO
      go_wp2
      go_ret
      rw [FV.out]
      exact ⟨rfl, S, poR.on HR.out b2, Fresh.refl _ _, Beside.of HB2.out⟩
    · have hm := Nat.pos_of_ne_zero hm
      obtain ⟨z1, z2, z3, z4⟩ := nat_zero hm
      obtain ⟨p1, p2, p3, p4, p5⟩ := nat_wraps (n := t7) (by have := BYF.out; omega)
      obtain ⟨p6, p7⟩ := p5 hm
      obtain ⟨r1, r2, r3, r4, _⟩ := nat_wraps (n := t6) (by have := BYF.out; omega)
      have FV : Hid (x.chg .drp pr oi op = (0, x.alter .drp pr oi op)) := by show _ = _; rw [FX.out, if_pos (by show decide (0 < t7) = true; exact decide_eq_true hm)]
      have ST := Lib.hid (STO.out (t6) (t7 - 1))
      have LL : Hid (0 < (t6) + (t7 - 1) → x.alter .drp pr oi op = ⟨x.l.set i ⟨t1, t2, t3, t4, t5, t6, t7 - 1⟩⟩) := LIV.out
      have DD : Hid (t6 = 0 ∧ t7 - 1 = 0 → x.alter .drp pr oi op = ⟨x.l.take i ++ x.l.drop (i + 1)⟩) := DED.out
      have OKA : Hid ((x.alter .drp pr oi op).Ok) := OK.out.alter .drp pr oi op
      clear FX BYF SOM LIV DED STO HR b2
      go_upto_region 4 with fail
      clear z1 z2 z3 z4
      clear p1 p2 p3 p4 p5 r3 r4
      obtain ⟨K7, hK7⟩ : ∃ K7, K7 = t7 - 1 := ⟨_, rfl⟩
      rw [← hK7] at p6 p7 ST LL DD
      clear hK7
      go_region
      clear p6 p7 r1 r2 y5 y6 f5 f6
      generalize (w2.setCell ⟨g, i * 7 + 6, none⟩ (.int .i64 (K7 : Int))).setCell ⟨g, i * 7 + 5, none⟩ (.int .i64 (t6 : Int)) = w3 at ST ⊢
      have ST := Lib.hid (And.intro (ST.out.1.on (Below.refl w3.heap.size w3).drew) (ST.out.2.trans (Beside.of (Below.refl w3.heap.size w3).drew)))
      generalize w3.drew = w4 at ST ⊢
      obtain ⟨y5, y6⟩ := ST.out.1.nums rfl HI.out
      simp only at y5 y6
      have c0 := ST.out.1.c0
      have f0 := ST.out.1.f
      by_cases hd : K7 = 0 ∧ t6 = 0
      · obtain ⟨h1, h2⟩ := hd
        have DX : Hid (x.alter .drp pr oi op = ⟨x.l.take i ++ x.l.drop (i + 1)⟩) := DD.out ⟨h2, h1⟩
        clear LL DD
        rw [h1] at y6
        rw [h2] at y5
        clear h1 h2
        go_upto_region 6 with fail
        clear y5 y6
        refine region_till 18 (fun w' => w'.cell? ⟨p, 0, none⟩ = some (.slice (some ⟨g, 0, none⟩) x.l.length c)) (by kernel_rfl) ?_ (fun hHeld => ?_)
        · exact c0
        have W5 := ST.out.1.on (Below.refl w4.heap.size w4).drew
        have B5 : Hid (Beside S w w4.drew) := ((Beside.of HB2.out).trans ST.out.2).trans (Beside.of (Below.refl w4.heap.size w4).drew)
        obtain ⟨wd, hwd⟩ : ∃ x_ : World, x_ = w4.drew := ⟨_, rfl⟩
        rw [← hwd] at W5 B5 hHeld ⊢
        clear hwd c0 f0 ST
        obtain ⟨A1, C1, n1, A2, C2, n2, v7, w7, v9, w9, s1, s2, r7, r9, ho, b7, b9⟩ := W5.out 27 27 (List.length_set ..).symm (i := i) (by rw [List.length_set]; exact HI.out) (by rw [List.length_set]; exact FEW.out.len)
        rw [set_out] at ho
        have G7 : Hid (w7.cell? ⟨p, 0, none⟩ = some (.slice (some ⟨g, 0, none⟩) x.l.length c)) := (b7.cell (p := ⟨p, 0, none⟩) (W5.lt p W5.inp)).trans hHeld
        have G9 : Hid (w9.cell? ⟨p, 0, none⟩ = some (.slice (some ⟨g, 0, none⟩) x.l.length c)) := (b9.cell (p := ⟨p, 0, none⟩) (W5.lt p W5.inp)).trans hHeld
        obtain ⟨FA1, FA2, FA3⟩ := W5.relist b9 ho
        have FA : Hid (PoR (w9.setCell ⟨p, 0, none⟩ v9) (fun k => k = p ∨ v9.ownBlock = some k) p (x.alter .drp pr oi op) ∧ Fresh w S (fun k => k = p ∨ v9.ownBlock = some k) ∧ Beside S w (w9.setCell ⟨p, 0, none⟩ v9)) :=
          ⟨⟨v9, by rw [DX.out]; exact FA1.full (by rw [← DX.out]; exact OKA.out)⟩, fresh_on FA2 B5.out.size, B5.out.trans FA3⟩
        have fA : w9.frozen? ⟨p, 0, none⟩ = false := (W5.on b9).f
        have cA := G9.out
        have R7 := Lib.hid r7
        have R9 := Lib.hid r9
        have q2 : wrap64 ((i : Int) + 1) = ((i + 1 : Nat) : Int) := step_16 (Nat.lt_of_lt_of_le HI.out (Nat.le_trans FEW.out.len (by decide)))
        have q3 : IntKind.i64.wrap ((i : Int) + 1) = ((i + 1 : Nat) : Int) := (few_wrap (n := i) (Nat.le_trans (Nat.le_of_lt HI.out) FEW.out.len)).1
        obtain ⟨a9, c9, e9, _, _⟩ := ho.sl
        clear r7 r9 FA1 FA2 FA3 ho b7 b9 W5 DX B5 OKA
        subst e9
        generalize (x.l.take i ++ x.l.drop (i + 1)).length = n9 at FA R9 ⊢
        generalize i + 1 = i2 at q2 q3 s2
        refine till_take (i := 0) (oi := _) (v := ?_) rfl (by kernel_rfl) (by kernel_rfl) (by kernel_rfl) (by kernel_rfl) (by rfl) (fun _ _ _ h => h) (Or.inl ⟨by kernel_rfl, ?_⟩) (by assumption) ?_
        rotate_left
        · intro w hSw
          clear hSw
          go_simp
          with_reducible rfl
        try simp only [List.getElem_toArray, List.getElem_cons_succ, List.getElem_cons_zero, Act.put, List.setIfInBounds_toArray, List.set_cons_zero, List.set_cons_succ]
        refine till_take (i := 1) (oi := _) (v := ?_) rfl (by kernel_rfl) (by kernel_rfl) (by kernel_rfl) (by kernel_rfl) (by rfl) (fun _ _ _ h => h) (Or.inl ⟨by kernel_rfl, ?_⟩) (by assumption) ?_
        rotate_left
        · intro w hSw
          clear hSw
          go_simp
          with_reducible rfl
        try simp only [List.getElem_toArray, List.getElem_cons_succ, List.getElem_cons_zero, Act.put, List.setIfInBounds_toArray, List.set_cons_zero, List.set_cons_succ]
        refine till_take (i := 2) (oi := _) (v := ?_) rfl (by kernel_rfl) (by kernel_rfl) (by kernel_rfl) (by kernel_rfl) (by rfl) (fun _ _ _ h => h) (Or.inl ⟨by kernel_rfl, ?_⟩) (by assumption) ?_
        rotate_left
        · intro w hSw
          clear hSw
          go_simp
          with_reducible rfl
        try simp only [List.getElem_toArray, List.getElem_cons_succ, List.getElem_cons_zero, Act.put, List.setIfInBounds_toArray, List.set_cons_zero, List.set_cons_succ]
        refine till_take (i := 3) (oi := _) (v := ?_) rfl (by kernel_rfl) (by kernel_rfl) (by kernel_rfl) (by kernel_rfl) (by rfl) (fun _ _ _ h => h) (Or.inl ⟨by kernel_rfl, ?_⟩) (by assumption) ?_
        rotate_left
        · intro w hSw
          clear hSw
          go_simp
          with_reducible rfl
        try simp only [List.getElem_toArray, List.getElem_cons_succ, List.getElem_cons_zero, Act.put, List.setIfInBounds_toArray, List.set_cons_zero, List.set_cons_succ]
        refine till_take (i := 4) (oi := _) (v := ?_) rfl (by kernel_rfl) (by kernel_rfl) (by kernel_rfl) (by kernel_rfl) (by rfl) (fun _ _ _ h => h) (Or.inl ⟨by kernel_rfl, ?_⟩) (by assumption) ?_
        rotate_left
        · intro w hSw
          (try dsimp only at hSw)
          go_simp
          with_reducible rfl
        try simp only [List.getElem_toArray, List.getElem_cons_succ, List.getElem_cons_zero, Act.put, List.setIfInBounds_toArray, List.set_cons_zero, List.set_cons_succ]
        refine till_take (i := 5) (oi := _) (v := ?_) rfl (by kernel_rfl) (by kernel_rfl) (by kernel_rfl) (by kernel_rfl) (by rfl) (fun _ _ _ h => h) (Or.inl ⟨by kernel_rfl, ?_⟩) (by assumption) ?_
        rotate_left
        · intro w hSw
          clear hSw
          go_simp
          with_reducible rfl
        try simp only [List.getElem_toArray, List.getElem_cons_succ, List.getElem_cons_zero, Act.put, List.setIfInBounds_toArray, List.set_cons_zero, List.set_cons_succ]
        refine till_take (i := 6) (oi := _) (v := ?_) rfl (by kernel_rfl) (by kernel_rfl) (by kernel_rfl) (by kernel_rfl) (by rfl) (fun _ _ _ h => h) (Or.inl ⟨by kernel_rfl, ?_⟩) (by assumption) ?_
        rotate_left
        · intro w hSw
          clear hSw
          go_simp
          with_reducible rfl
        try simp only [List.getElem_toArray, List.getElem_cons_succ, List.getElem_cons_zero, Act.put, List.setIfInBounds_toArray, List.set_cons_zero, List.set_cons_succ]
        refine till_take (i := 8) (oi := _) (v := ?_) rfl (by kernel_rfl) (by kernel_rfl) (by kernel_rfl) (by kernel_rfl) (by rfl) (fun _ _ _ h => h) (Or.inl ⟨by kernel_rfl, ?_⟩) (by assumption) ?_
        rotate_left
        · intro w hSw
          clear hSw
          go_simp
          with_reducible rfl
        try simp only [List.getElem_toArray, List.getElem_cons_succ, List.getElem_cons_zero, Act.put, List.setIfInBounds_toArray, List.set_cons_zero, List.set_cons_succ]
        refine till_take (i := 9) (oi := _) (v := ?_) rfl (by kernel_rfl) (by kernel_rfl) (by kernel_rfl) (by kernel_rfl) (by rfl) (fun _ _ _ h => h) (Or.inl ⟨by kernel_rfl, ?_⟩) (by assumption) ?_
        rotate_left
        · intro w hSw
          clear hSw
          go_simp
          with_reducible rfl
        try simp only [List.getElem_toArray, List.getElem_cons_succ, List.getElem_cons_zero, Act.put, List.setIfInBounds_toArray, List.set_cons_zero, List.set_cons_succ]
        refine till_take (i := 10) (oi := _) (v := ?_) rfl (by kernel_rfl) (by kernel_rfl) (by kernel_rfl) (by kernel_rfl) (by rfl) (fun _ _ _ h => h) (Or.inl ⟨by kernel_rfl, ?_⟩) (by assumption) ?_
        rotate_left
        · intro w hSw
          clear hSw
          go_simp
          with_reducible rfl
        try simp only [List.getElem_toArray, List.getElem_cons_succ, List.getElem_cons_zero, Act.put, List.setIfInBounds_toArray, List.set_cons_zero, List.set_cons_succ]
        refine till_take (i := 11) (oi := _) (v := ?_) rfl (by kernel_rfl) (by kernel_rfl) (by kernel_rfl) (by kernel_rfl) (by rfl) (fun _ _ _ h => h) (Or.inl ⟨by kernel_rfl, ?_⟩) (by assumption) ?_
        rotate_left
        · intro w hSw
          (try dsimp only at hSw)
          go_simp
          with_reducible rfl
        try simp only [List.getElem_toArray, List.getElem_cons_succ, List.getElem_cons_zero, Act.put, List.setIfInBounds_toArray, List.set_cons_zero, List.set_cons_succ]
        refine till_take (i := 12) (oi := _) (v := ?_) rfl (by kernel_rfl) (by kernel_rfl) (by kernel_rfl) (by kernel_rfl) (by rfl) (fun _ _ _ h => h) (Or.inl ⟨by kernel_rfl, ?_⟩) (by assumption) ?_
        rotate_left
        · intro w hSw
          clear hSw
          go_simp
          with_reducible rfl
        try simp only [List.getElem_toArray, List.getElem_cons_succ, List.getElem_cons_zero, Act.put, List.setIfInBounds_toArray, List.set_cons_zero, List.set_cons_succ]
        refine till_take (i := 13) (oi := _) (v := ?_) rfl (by kernel_rfl) (by kernel_rfl) (by kernel_rfl) (by kernel_rfl) (by rfl) (fun _ _ _ h => h) (Or.inl ⟨by kernel_rfl, ?_⟩) (by assumption) ?_
        rotate_left
        · intro w hSw
          clear hSw
          go_simp
          with_reducible rfl
        try simp only [List.getElem_toArray, List.getElem_cons_succ, List.getElem_cons_zero, Act.put, List.setIfInBounds_toArray, List.set_cons_zero, List.set_cons_succ]
        refine till_take (i := 14) (oi := _) (v := ?_) rfl (by kernel_rfl) (by kernel_rfl) (by kernel_rfl) (by kernel_rfl) (by rfl) (fun _ _ _ h => h) (Or.inl ⟨by kernel_rfl, ?_⟩) (by assumption) ?_
        rotate_left
        · intro w hSw
          clear hSw
          go_simp
          with_reducible rfl
        try simp only [List.getElem_toArray, List.getElem_cons_succ, List.getElem_cons_zero, Act.put, List.setIfInBounds_toArray, List.set_cons_zero, List.set_cons_succ]
        refine till_ready (rs := [7]) (by kernel_rfl) (by simp) ?_
        refine TillAll.cons (o := _) rfl (by rfl) (fun K hK => ?_) TillAll.nil
        refine step_append16 rfl _ _ 27 27 rfl (.slice none 0 0) (.slice A1 n1 C1) (by simp [Act.eval, Act.put]) (by simp [Act.eval, Act.put]) R7.out ?_
        refine hK.out _ _ G7.out (fun h7 => ?_)
        clear hK K
        try simp only [List.getElem_toArray, List.getElem_cons_succ, List.getElem_cons_zero, Act.put, List.setIfInBounds_toArray, List.set_cons_zero, List.set_cons_succ]
        refine till_ready (rs := [15]) (by kernel_rfl) (by simp) ?_
        refine TillAll.cons (o := _) rfl (by rfl) (fun K hK => ?_) TillAll.nil
        refine step_append16 rfl _ _ 27 27 rfl (v7) (.slice A2 n2 C2) (by simp [Act.eval, Act.put]) (by simp [Act.eval, Act.put]) R9.out ?_
        refine hK.out _ _ G9.out (fun h9 => ?_)
        clear hK K
        try simp only [List.getElem_toArray, List.getElem_cons_succ, List.getElem_cons_zero, Act.put, List.setIfInBounds_toArray, List.set_cons_zero, List.set_cons_succ]
        refine till_ready (rs := [16]) (by kernel_rfl) (by simp) ?_
        refine TillAll.cons (o := _) rfl (by rfl) (fun K hK => ?_) TillAll.nil
        go_simp
        refine hK.out _ _ h9 (fun _ => ?_)
        clear hK K
        try simp only [List.getElem_toArray, List.getElem_cons_succ, List.getElem_cons_zero, Act.put, List.setIfInBounds_toArray, List.set_cons_zero, List.set_cons_succ]
        refine till_take (i := 17) (oi := _) (v := ?_) rfl (by kernel_rfl) (by kernel_rfl) (by kernel_rfl) (by kernel_rfl) (by rfl) (fun _ _ _ h => h) (Or.inl ⟨by kernel_rfl, ?_⟩) (by assumption) ?_
        rotate_left
        · intro w hSw
          clear hSw
          go_simp
          with_reducible rfl
        try simp only [List.getElem_toArray, List.getElem_cons_succ, List.getElem_cons_zero, Act.put, List.setIfInBounds_toArray, List.set_cons_zero, List.set_cons_succ]
        refine till_last (by kernel_rfl) (by kernel_rfl) rfl (fun K hK => ?_)
        go_simp
        refine hK.out _ _ ?_
        clear hK K
        go_wp2
        go_ret
        rw [FV.out]
        exact ⟨rfl, _, FA.out.1, FA.out.2.1, FA.out.2.2⟩
      · have hl : 0 < t6 + K7 := by omega
        have FA : Hid (PoR w4 S p (x.alter .drp pr oi op) ∧ Beside S w w4) := ⟨⟨_, by rw [LL.out hl]; exact ST.out.1.full (by rw [← LL.out hl]; exact OKA.out)⟩, (Beside.of HB2.out).trans ST.out.2⟩
        clear LL DD OKA ST f0
        by_cases h1 : K7 = 0
        · have h2 : 0 < t6 := by omega
          obtain ⟨z1, z2, z3, z4⟩ := nat_zero h2
          rw [h1] at y6
          clear h1 h2 hd hl hm
          go_wp2
          go_ret
          rw [FV.out]
          exact ⟨rfl, S, FA.out.1, Fresh.refl _ _, FA.out.2⟩
        · obtain ⟨z1, z2, z3, z4⟩ := nat_zero (Nat.pos_of_ne_zero h1)
          clear h1 hd hl hm
          go_wp2
          go_ret
          rw [FV.out]
          exact ⟨rfl, S, FA.out.1, Fresh.refl _ _, FA.out.2⟩
end Go.Proofs.Ytbbadpidolfleaa
