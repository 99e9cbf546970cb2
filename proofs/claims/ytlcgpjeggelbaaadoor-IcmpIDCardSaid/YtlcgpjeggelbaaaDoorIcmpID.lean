/- The walk of IcmpID. -/
import Derived.Test.YtlcgpjeggelbaaaDoorIcmpM
import Derived.Test.YtlcgpjeggelbaaaDoorIcmpR
import Derived.Test.YtlcgpjeggelbaaaDoorSumsA
import Derived.Test.YtlcgpjeggelbaaaDoorLead
namespace Go.Proofs.YtlcgpjeggelbaaaDoor.IcmpID
set_option linter.unusedVariables false
set_option linter.unusedSimpArgs false
open Go.ChangeShapes Go.WideShapes Go.ChangeAt Go.RowKit Go.PlainAid
theorem trim_any (s : ByteArray) (w1 : World) (hs : s.size ≤ maxLen) : Calls Tryd.prog 11 #[.string s, .string ⟨#[0]⟩] w1 fun e w' => e = .returned (.string (trimB s)) ∧ Below w1.heap.size w1 w' := by
  by_cases h0 : s.size = 0
  · exact trim_0 s w1 h0
  · exact trim_ s w1 hs (by omega)
theorem empty_yes {u : ByteArray} (h : u.size = 0) : u.toList = [] := tl_nil.2 h
theorem empty_no {u : ByteArray} (h : ¬ u.size = 0) : ¬ u.toList = [] := by rw [tl_nil]; exact h
theorem empty_no2 {u : ByteArray} (h : ¬ u.size = 0) : u.toList.isEmpty = false := by
  have h1 := empty_no h
  cases h : u.toList with
  | nil => exact absurd h h1
  | cons a b => rfl
set_option maxRecDepth 100000 in
set_option maxHeartbeats 8000000 in
theorem walk_ (K : IcmpOk) (s : ByteArray) (b : Bool) (q : Int) (w : World) (hs : s.size ≤ maxLen) (hq : (Lit.int .u16 q).wf = true) :
    Calls Tryd.prog 3 #[.string s, .bool b, .int .u16 q] w fun e w' => e = .returned (.bool true) ∧ Below w.heap.size w w' := by
  obtain ⟨q0, q1⟩ := bounds_u16 hq
  clear hq hs
  by_cases h1 : s.size < 8 ∨ 600 < s.size
  · have key : ∃ x y : Bool, decide ((s.size : Int) < 8) = x ∧ decide ((600 : Int) < (s.size : Int)) = y ∧ (x = true ∨ (x = false ∧ y = true)) := by
      refine ⟨_, _, rfl, rfl, ?_⟩
      simp only [decide_eq_true_eq, decide_eq_false_iff_not]
      omega
    obtain ⟨x, y, k1, k2, hk⟩ := key
    clear h1
    rcases hk with rfl | ⟨rfl, rfl⟩
    all_goals
      go_enter Tryd.func3, Tryd.ntmps3
      go_wp2_with fail
      refine (echoed_ K _).mono ?_; rintro e w1 ⟨rfl, x1⟩
      go_wp2
      go_ret
      exact ⟨rfl, x1⟩
  have e1 : decide ((s.size : Int) < 8) = false := by simp; omega
  have e2 : decide ((600 : Int) < (s.size : Int)) = false := by simp; omega
  have h8 : 8 ≤ s.size := by omega
  have h600 : s.size ≤ 600 := by omega
  have k0 := fun u => K.seals s u (by omega)
  have z0 := (slI_facts s h8).1
  obtain ⟨S, hS⟩ : ∃ S, S = if b then slI s else s := ⟨_, rfl⟩
  have zS : S.size = s.size := by rw [hS]; cases b <;> simp [z0]
  obtain ⟨n, hn⟩ : ∃ n, S.size = n := ⟨_, rfl⟩
  have kp := fun u => K.parses S u (by omega)
  have hT : mOk S = true := by unfold mOk; simp; omega
  obtain ⟨_, m1, m2, m3⟩ := mOk_yes hT
  rw [m1, m1, m1, m2, m3, hT] at kp
  have hp := icB_of S (by omega)
  have z3 := size_extract' S 4 8 (by omega) (by omega)
  have z4 := size_extract' S 8 S.size (by omega) (Nat.le_refl _)
  have f0 := bt_nonneg S 0; have f1 := bt_le S 0; have f2 := bt_nonneg S 1; have f3 := bt_le S 1; have f4 := g16_nonneg S 2; have f5 := g16_le S 2
  generalize bt S 0 = v0 at *
  generalize bt S 1 = v1 at *
  generalize g16 S 2 = v2 at *
  generalize S.extract 4 8 = v3 at *
  generalize S.extract 8 S.size = v4 at *
  have zv3 : v3.size = 4 := by omega
  have kw := fun u => K.withs v0 v1 v2 v3 v4 q u f0 f1 f2 f3 f4 f5 (by omega) (by omega) q0 q1
  have ki := fun u => K.ids v0 v1 v2 v3 v4 u f0 f1 f2 f3 f4 f5 (by omega) (by omega)
  obtain ⟨j0, j1⟩ := idM_bd v3
  have ku := fun u => update_ v2 (idM v3) q u f4 f5 j0 j1 q0 q1
  obtain ⟨u0, u1⟩ := updW_bd f4 f5 j0 j1 q0 q1
  have zy := wiM_size v3 q
  have kT := fun u => K.puts v0 v1 (updW v2 (idM v3) q) (wiM v3 q) v4 u f0 f1 f2 f3 u0 u1 (by omega) (by omega)
  rw [icP_yes _ _ _ _ _ (by omega), show icE (wiM v3 q).size = 0 by unfold icE; rw [if_pos (by omega)]] at kT
  have hc := with_id v0 v1 v2 v3 v4 q f0 f1 f2 f3 f4 f5 zv3 q0 q1
  obtain ⟨t1, t2⟩ := with_tail v0 v1 v2 (updW v2 (idM v3) q) v3 v4 q zv3
  rw [hp] at hc t1 t2
  generalize icB v0 v1 (updW v2 (idM v3) q) (wiM v3 q) v4 = T at *
  generalize updW v2 (idM v3) q = uu at *
  generalize idM v3 = j at *
  generalize wiM v3 q = y3 at *
  rw [hn] at t1
  rw [t1, hn] at t2
  have kS := fun u => trim_any S u (by unfold maxLen; omega)
  have kT2 := fun u => trim_any T u (by unfold maxLen; omega)
  have c1 := fun u => K.checks S u (by omega)
  have c2 := fun u => K.checks T u (by omega)
  have i6 : (6 : Int) ≤ (n : Int) := by omega
  have key : (voidV S = true ∧ (trimB S).size = 0) ∨ (voidV S = false ∧ ¬ (trimB S).size = 0 ∧ voidV T = true ∧ (trimB T).size = 0) ∨ (voidV S = false ∧ ¬ (trimB S).size = 0 ∧ voidV T = false ∧ ¬ (trimB T).size = 0) := by
    have va : voidV S = decide ((trimB S).size = 0) := rfl
    have vb : voidV T = decide ((trimB T).size = 0) := rfl
    by_cases a : (trimB S).size = 0
    · exact .inl ⟨by rw [va, decide_eq_true a], a⟩
    · refine .inr ?_
      by_cases bb : (trimB T).size = 0
      · exact .inl ⟨by rw [va, decide_eq_false a], a, by rw [vb, decide_eq_true bb], bb⟩
      · exact .inr ⟨by rw [va, decide_eq_false a], a, by rw [vb, decide_eq_false bb], bb⟩
  obtain ⟨US, hUS⟩ : ∃ u, u = trimB S := ⟨_, rfl⟩
  obtain ⟨UT, hUT⟩ : ∃ u, u = trimB T := ⟨_, rfl⟩
  rw [← hUS] at kS key
  rw [← hUT] at kT2 key
  clear hT m1 m2 m3 hp z3 z4 f0 f1 f2 f3 f4 f5 zv3 j0 j1 u0 u1 zy h8 h600 h1 hUS hUT z0 zS
  cases b
  · have hS2 : s = S := by rw [hS]; rfl
    clear hS k0
    rw [hS2, hn] at e1 e2
    rw [hS2]
    clear hS2
    rcases key with ⟨a1, a2⟩ | ⟨a1, a2, a3, a4⟩ | ⟨a1, a2, a3, a4⟩
    · have y1 := empty_yes a2
      clear a1 a2 hc kT2 c1 c2
      -- sealed: False; case 0
      go_enter Tryd.func3, Tryd.ntmps3
      have B1 := Below.refl w.heap.size w
      go_wp2_with fail
      refine (kp _).mono ?_; rintro e w1 ⟨rfl, x1⟩
      have B2 := B1.trans (x1.mono B1.size)
      clear B1 x1
      clear kp
      have X_3 := Box5.make w1 (.int .u8 v0) (.int .u8 v1) (.int .u16 v2) (.string v3) (.string v4) 26
      have B4 := B2.alloc B2.size (.cells #[.int .u8 v0, .int .u8 v1, .int .u16 v2, .string v3, .string v4] 26)
      clear B2
      obtain ⟨_, x1_0, x1_1, x1_2, x1_3, x1_4⟩ := id X_3
      go_wp2_with fail
      refine (kw _).mono ?_; rintro e w2 ⟨rfl, x2⟩
      have X_5 := X_3.on x2
      have B6 := B4.trans (x2.mono B4.size)
      clear x1_0 x1_1 x1_2 x1_3 x1_4 X_3 B4 x2
      clear kw
      have hb := B6.size
      have X_7 := X_5.past (o := (.cells #[.int .u8 v0, .int .u8 v1, .int .u16 v2, .string y3, .string v4] 26))
      have N_8 := Box5.make w2 (.int .u8 v0) (.int .u8 v1) (.int .u16 v2) (.string y3) (.string v4) 26
      have B9 := B6.alloc B6.size (.cells #[.int .u8 v0, .int .u8 v1, .int .u16 v2, .string y3, .string v4] 26)
      clear X_5 B6
      have fz : ∀ i, (w2.alloc (.cells #[.int .u8 v0, .int .u8 v1, .int .u16 v2, .string y3, .string v4] 26)).frozen? ⟨w2.heap.size, i, none⟩ = false := by intro i; simp [go_sem]
      go_wp2_with fail
      obtain ⟨u3, hu3⟩ : ∃ x, x = w2.alloc (.cells #[.int .u8 v0, .int .u8 v1, .int .u16 v2, .string y3, .string v4] 26) := ⟨_, rfl⟩
      rw [← hu3] at X_7 N_8 B9 fz ⊢
      clear hu3
      obtain ⟨zx, gx0, gx1, gx2, gx3, gx4⟩ := id X_7
      have F0 : ∀ x : Later u3.heap.size u3, x.u.cell? ⟨w1.heap.size, 0, none⟩ = some (.int .u8 v0) := fun x => x.block zx gx0
      have F1 : ∀ x : Later u3.heap.size u3, x.u.cell? ⟨w1.heap.size, 1, none⟩ = some (.int .u8 v1) := fun x => x.block zx gx1
      have F2 : ∀ x : Later u3.heap.size u3, x.u.cell? ⟨w1.heap.size, 2, none⟩ = some (.int .u16 v2) := fun x => x.block zx gx2
      have F3 : ∀ x : Later u3.heap.size u3, x.u.cell? ⟨w1.heap.size, 3, none⟩ = some (.string v3) := fun x => x.block zx gx3
      have F4 : ∀ x : Later u3.heap.size u3, x.u.cell? ⟨w1.heap.size, 4, none⟩ = some (.string v4) := fun x => x.block zx gx4
      clear gx0 gx1 gx2 gx3 gx4
      refine region_lead (B := u3.heap.size) 7 1 (by kernel_rfl) (by kernel_rfl) (by kernel_rfl) (by kernel_rfl) ?_
      simp only [List.take_succ_cons, List.take_zero]
      repeat (go_big_quiet_step (first
        | (go_at_call 9; exact later_of _ (Nat.le_refl _) (ki _))
        | (go_at_call 8; exact later_same _ (ku _))))
      refine lead_end (by kernel_rfl) (by kernel_rfl) rfl fun w4 x4 G hG => ?_
      have fz2 : ∀ i, w4.frozen? ⟨w2.heap.size, i, none⟩ = false := fun i => (x4.frozen (p := ⟨_, i, none⟩) N_8.1).trans (fz i)
      clear F0 F1 F2 F3 F4 zx fz
      have X_10 := X_7.on x4
      have N_11 := N_8.on x4
      have B12 := B9.trans (x4.mono B9.size)
      clear X_7 N_8 B9 x4
      clear ki ku
      have hlt := N_11.1
      obtain ⟨_, n2_0, n2_1, n2_2, n2_3, n2_4⟩ := id N_11
      go_simp
      refine hG.out _ _ ?_
      clear hG G
      have B13 := B12.setCell (p := ⟨w2.heap.size, 2, none⟩) (by omega) (.int .u16 uu)
      clear B12 fz2
      have N_14 : Box5 (w4.setCell ⟨w2.heap.size, 2, none⟩ (.int .u16 uu)) w2.heap.size (.int .u8 v0) (.int .u8 v1) (.int .u16 uu) (.string y3) (.string v4) :=
        ⟨by simpa using hlt, by simp [go_sem, n2_0], by simp [go_sem, n2_1], by simp [go_sem, n2_2], by simp [go_sem, n2_3], by simp [go_sem, n2_4]⟩
      clear n2_0 n2_1 n2_2 n2_3 n2_4 X_10 N_11 hlt hb
      obtain ⟨u5, hu5⟩ : ∃ x, x = w4.setCell ⟨w2.heap.size, 2, none⟩ (.int .u16 uu) := ⟨_, rfl⟩
      rw [← hu5] at N_14 B13 ⊢
      clear hu5
      obtain ⟨_, n3_0, n3_1, n3_2, n3_3, n3_4⟩ := id N_14
      go_wp2_with fail
      refine (kT _).mono ?_; rintro e w6 ⟨rfl, x6⟩
      have N_15 := N_14.on x6
      have B16 := B13.trans (x6.mono B13.size)
      clear n3_0 n3_1 n3_2 n3_3 n3_4 N_14 B13 x6
      clear kT
      clear N_15
      go_wp2_with fail
      refine (kS _).mono ?_; rintro e w7 ⟨rfl, x7⟩
      have B17 := B16.trans (x7.mono B16.size)
      clear B16 x7
      clear kS
      go_wp2_with fail
      refine region_later (B := w7.heap.size) (by kernel_rfl) (by kernel_rfl) ?_
      repeat (go_big_quiet_step (first
        | (go_at_call 4; exact later_of _ (Nat.le_refl _) (echoed_ K _))))
      refine later_end fun w8 x8 => ?_
      have B18 := B17.trans (x8.mono B17.size)
      clear B17 x8
      go_wp2
      go_ret
      exact ⟨rfl, B18⟩
    · have y1 := empty_no a2
      have y2 := empty_no2 a2
      have y3' := empty_yes a4
      clear a1 a2 a3 a4 hc c1 c2
      -- sealed: False; case 1
      go_enter Tryd.func3, Tryd.ntmps3
      have B1 := Below.refl w.heap.size w
      go_wp2_with fail
      refine (kp _).mono ?_; rintro e w1 ⟨rfl, x1⟩
      have B2 := B1.trans (x1.mono B1.size)
      clear B1 x1
      clear kp
      have X_3 := Box5.make w1 (.int .u8 v0) (.int .u8 v1) (.int .u16 v2) (.string v3) (.string v4) 26
      have B4 := B2.alloc B2.size (.cells #[.int .u8 v0, .int .u8 v1, .int .u16 v2, .string v3, .string v4] 26)
      clear B2
      obtain ⟨_, x1_0, x1_1, x1_2, x1_3, x1_4⟩ := id X_3
      go_wp2_with fail
      refine (kw _).mono ?_; rintro e w2 ⟨rfl, x2⟩
      have X_5 := X_3.on x2
      have B6 := B4.trans (x2.mono B4.size)
      clear x1_0 x1_1 x1_2 x1_3 x1_4 X_3 B4 x2
      clear kw
      have hb := B6.size
      have X_7 := X_5.past (o := (.cells #[.int .u8 v0, .int .u8 v1, .int .u16 v2, .string y3, .string v4] 26))
      have N_8 := Box5.make w2 (.int .u8 v0) (.int .u8 v1) (.int .u16 v2) (.string y3) (.string v4) 26
      have B9 := B6.alloc B6.size (.cells #[.int .u8 v0, .int .u8 v1, .int .u16 v2, .string y3, .string v4] 26)
      clear X_5 B6
      have fz : ∀ i, (w2.alloc (.cells #[.int .u8 v0, .int .u8 v1, .int .u16 v2, .string y3, .string v4] 26)).frozen? ⟨w2.heap.size, i, none⟩ = false := by intro i; simp [go_sem]
      go_wp2_with fail
      obtain ⟨u3, hu3⟩ : ∃ x, x = w2.alloc (.cells #[.int .u8 v0, .int .u8 v1, .int .u16 v2, .string y3, .string v4] 26) := ⟨_, rfl⟩
      rw [← hu3] at X_7 N_8 B9 fz ⊢
      clear hu3
      obtain ⟨zx, gx0, gx1, gx2, gx3, gx4⟩ := id X_7
      have F0 : ∀ x : Later u3.heap.size u3, x.u.cell? ⟨w1.heap.size, 0, none⟩ = some (.int .u8 v0) := fun x => x.block zx gx0
      have F1 : ∀ x : Later u3.heap.size u3, x.u.cell? ⟨w1.heap.size, 1, none⟩ = some (.int .u8 v1) := fun x => x.block zx gx1
      have F2 : ∀ x : Later u3.heap.size u3, x.u.cell? ⟨w1.heap.size, 2, none⟩ = some (.int .u16 v2) := fun x => x.block zx gx2
      have F3 : ∀ x : Later u3.heap.size u3, x.u.cell? ⟨w1.heap.size, 3, none⟩ = some (.string v3) := fun x => x.block zx gx3
      have F4 : ∀ x : Later u3.heap.size u3, x.u.cell? ⟨w1.heap.size, 4, none⟩ = some (.string v4) := fun x => x.block zx gx4
      clear gx0 gx1 gx2 gx3 gx4
      refine region_lead (B := u3.heap.size) 7 1 (by kernel_rfl) (by kernel_rfl) (by kernel_rfl) (by kernel_rfl) ?_
      simp only [List.take_succ_cons, List.take_zero]
      repeat (go_big_quiet_step (first
        | (go_at_call 9; exact later_of _ (Nat.le_refl _) (ki _))
        | (go_at_call 8; exact later_same _ (ku _))))
      refine lead_end (by kernel_rfl) (by kernel_rfl) rfl fun w4 x4 G hG => ?_
      have fz2 : ∀ i, w4.frozen? ⟨w2.heap.size, i, none⟩ = false := fun i => (x4.frozen (p := ⟨_, i, none⟩) N_8.1).trans (fz i)
      clear F0 F1 F2 F3 F4 zx fz
      have X_10 := X_7.on x4
      have N_11 := N_8.on x4
      have B12 := B9.trans (x4.mono B9.size)
      clear X_7 N_8 B9 x4
      clear ki ku
      have hlt := N_11.1
      obtain ⟨_, n2_0, n2_1, n2_2, n2_3, n2_4⟩ := id N_11
      go_simp
      refine hG.out _ _ ?_
      clear hG G
      have B13 := B12.setCell (p := ⟨w2.heap.size, 2, none⟩) (by omega) (.int .u16 uu)
      clear B12 fz2
      have N_14 : Box5 (w4.setCell ⟨w2.heap.size, 2, none⟩ (.int .u16 uu)) w2.heap.size (.int .u8 v0) (.int .u8 v1) (.int .u16 uu) (.string y3) (.string v4) :=
        ⟨by simpa using hlt, by simp [go_sem, n2_0], by simp [go_sem, n2_1], by simp [go_sem, n2_2], by simp [go_sem, n2_3], by simp [go_sem, n2_4]⟩
      clear n2_0 n2_1 n2_2 n2_3 n2_4 X_10 N_11 hlt hb
      obtain ⟨u5, hu5⟩ : ∃ x, x = w4.setCell ⟨w2.heap.size, 2, none⟩ (.int .u16 uu) := ⟨_, rfl⟩
      rw [← hu5] at N_14 B13 ⊢
      clear hu5
      obtain ⟨_, n3_0, n3_1, n3_2, n3_3, n3_4⟩ := id N_14
      go_wp2_with fail
      refine (kT _).mono ?_; rintro e w6 ⟨rfl, x6⟩
      have N_15 := N_14.on x6
      have B16 := B13.trans (x6.mono B13.size)
      clear n3_0 n3_1 n3_2 n3_3 n3_4 N_14 B13 x6
      clear kT
      clear N_15
      go_wp2_with fail
      refine (kS _).mono ?_; rintro e w7 ⟨rfl, x7⟩
      have B17 := B16.trans (x7.mono B16.size)
      clear B16 x7
      clear kS
      go_wp2_with fail
      refine (kT2 _).mono ?_; rintro e w8 ⟨rfl, x8⟩
      have B18 := B17.trans (x8.mono B17.size)
      clear B17 x8
      clear kT2
      go_wp2_with fail
      refine region_later (B := w8.heap.size) (by kernel_rfl) (by kernel_rfl) ?_
      repeat (go_big_quiet_step (first
        | (go_at_call 4; exact later_of _ (Nat.le_refl _) (echoed_ K _))))
      refine later_end fun w9 x9 => ?_
      have B19 := B18.trans (x9.mono B18.size)
      clear B18 x9
      go_wp2
      go_ret
      exact ⟨rfl, B19⟩
    · have y1 := empty_no a2
      have y2 := empty_no2 a2
      have y3' := empty_no a4
      have y4 := empty_no2 a4
      rw [hc a1 a3] at c2
      generalize ckM S = cc at *
      clear a1 a2 a3 a4 hc
      -- sealed: False; case 2
      go_enter Tryd.func3, Tryd.ntmps3
      have B1 := Below.refl w.heap.size w
      go_wp2_with fail
      refine (kp _).mono ?_; rintro e w1 ⟨rfl, x1⟩
      have B2 := B1.trans (x1.mono B1.size)
      clear B1 x1
      clear kp
      have X_3 := Box5.make w1 (.int .u8 v0) (.int .u8 v1) (.int .u16 v2) (.string v3) (.string v4) 26
      have B4 := B2.alloc B2.size (.cells #[.int .u8 v0, .int .u8 v1, .int .u16 v2, .string v3, .string v4] 26)
      clear B2
      obtain ⟨_, x1_0, x1_1, x1_2, x1_3, x1_4⟩ := id X_3
      go_wp2_with fail
      refine (kw _).mono ?_; rintro e w2 ⟨rfl, x2⟩
      have X_5 := X_3.on x2
      have B6 := B4.trans (x2.mono B4.size)
      clear x1_0 x1_1 x1_2 x1_3 x1_4 X_3 B4 x2
      clear kw
      have hb := B6.size
      have X_7 := X_5.past (o := (.cells #[.int .u8 v0, .int .u8 v1, .int .u16 v2, .string y3, .string v4] 26))
      have N_8 := Box5.make w2 (.int .u8 v0) (.int .u8 v1) (.int .u16 v2) (.string y3) (.string v4) 26
      have B9 := B6.alloc B6.size (.cells #[.int .u8 v0, .int .u8 v1, .int .u16 v2, .string y3, .string v4] 26)
      clear X_5 B6
      have fz : ∀ i, (w2.alloc (.cells #[.int .u8 v0, .int .u8 v1, .int .u16 v2, .string y3, .string v4] 26)).frozen? ⟨w2.heap.size, i, none⟩ = false := by intro i; simp [go_sem]
      go_wp2_with fail
      obtain ⟨u3, hu3⟩ : ∃ x, x = w2.alloc (.cells #[.int .u8 v0, .int .u8 v1, .int .u16 v2, .string y3, .string v4] 26) := ⟨_, rfl⟩
      rw [← hu3] at X_7 N_8 B9 fz ⊢
      clear hu3
      obtain ⟨zx, gx0, gx1, gx2, gx3, gx4⟩ := id X_7
      have F0 : ∀ x : Later u3.heap.size u3, x.u.cell? ⟨w1.heap.size, 0, none⟩ = some (.int .u8 v0) := fun x => x.block zx gx0
      have F1 : ∀ x : Later u3.heap.size u3, x.u.cell? ⟨w1.heap.size, 1, none⟩ = some (.int .u8 v1) := fun x => x.block zx gx1
      have F2 : ∀ x : Later u3.heap.size u3, x.u.cell? ⟨w1.heap.size, 2, none⟩ = some (.int .u16 v2) := fun x => x.block zx gx2
      have F3 : ∀ x : Later u3.heap.size u3, x.u.cell? ⟨w1.heap.size, 3, none⟩ = some (.string v3) := fun x => x.block zx gx3
      have F4 : ∀ x : Later u3.heap.size u3, x.u.cell? ⟨w1.heap.size, 4, none⟩ = some (.string v4) := fun x => x.block zx gx4
      clear gx0 gx1 gx2 gx3 gx4
      refine region_lead (B := u3.heap.size) 7 1 (by kernel_rfl) (by kernel_rfl) (by kernel_rfl) (by kernel_rfl) ?_
      simp only [List.take_succ_cons, List.take_zero]
      repeat (go_big_quiet_step (first
        | (go_at_call 9; exact later_of _ (Nat.le_refl _) (ki _))
        | (go_at_call 8; exact later_same _ (ku _))))
      refine lead_end (by kernel_rfl) (by kernel_rfl) rfl fun w4 x4 G hG => ?_
      have fz2 : ∀ i, w4.frozen? ⟨w2.heap.size, i, none⟩ = false := fun i => (x4.frozen (p := ⟨_, i, none⟩) N_8.1).trans (fz i)
      clear F0 F1 F2 F3 F4 zx fz
      have X_10 := X_7.on x4
      have N_11 := N_8.on x4
      have B12 := B9.trans (x4.mono B9.size)
      clear X_7 N_8 B9 x4
      clear ki ku
      have hlt := N_11.1
      obtain ⟨_, n2_0, n2_1, n2_2, n2_3, n2_4⟩ := id N_11
      go_simp
      refine hG.out _ _ ?_
      clear hG G
      have B13 := B12.setCell (p := ⟨w2.heap.size, 2, none⟩) (by omega) (.int .u16 uu)
      clear B12 fz2
      have N_14 : Box5 (w4.setCell ⟨w2.heap.size, 2, none⟩ (.int .u16 uu)) w2.heap.size (.int .u8 v0) (.int .u8 v1) (.int .u16 uu) (.string y3) (.string v4) :=
        ⟨by simpa using hlt, by simp [go_sem, n2_0], by simp [go_sem, n2_1], by simp [go_sem, n2_2], by simp [go_sem, n2_3], by simp [go_sem, n2_4]⟩
      clear n2_0 n2_1 n2_2 n2_3 n2_4 X_10 N_11 hlt hb
      obtain ⟨u5, hu5⟩ : ∃ x, x = w4.setCell ⟨w2.heap.size, 2, none⟩ (.int .u16 uu) := ⟨_, rfl⟩
      rw [← hu5] at N_14 B13 ⊢
      clear hu5
      obtain ⟨_, n3_0, n3_1, n3_2, n3_3, n3_4⟩ := id N_14
      go_wp2_with fail
      refine (kT _).mono ?_; rintro e w6 ⟨rfl, x6⟩
      have N_15 := N_14.on x6
      have B16 := B13.trans (x6.mono B13.size)
      clear n3_0 n3_1 n3_2 n3_3 n3_4 N_14 B13 x6
      clear kT
      clear N_15
      go_wp2_with fail
      refine (kS _).mono ?_; rintro e w7 ⟨rfl, x7⟩
      have B17 := B16.trans (x7.mono B16.size)
      clear B16 x7
      clear kS
      go_wp2_with fail
      refine (kT2 _).mono ?_; rintro e w8 ⟨rfl, x8⟩
      have B18 := B17.trans (x8.mono B17.size)
      clear B17 x8
      clear kT2
      go_wp2_with fail
      refine region_later (B := w8.heap.size) (by kernel_rfl) (by kernel_rfl) ?_
      repeat (go_big_quiet_step (first
        | (go_at_call_of 12 T; exact later_of _ (Nat.le_refl _) (c2 _))
        | (go_at_call_of 12 S; exact later_of _ (Nat.le_refl _) (c1 _))
        | (go_at_call 4; exact later_of _ (Nat.le_refl _) (echoed_ K _))))
      refine later_end fun w9 x9 => ?_
      have B19 := B18.trans (x9.mono B18.size)
      clear B18 x9
      go_wp2
      go_ret
      exact ⟨rfl, B19⟩
  · have hS2 : slI s = S := by rw [hS]; rfl
    rw [hS2] at k0
    clear hS hS2
    rcases key with ⟨a1, a2⟩ | ⟨a1, a2, a3, a4⟩ | ⟨a1, a2, a3, a4⟩
    · have y1 := empty_yes a2
      clear a1 a2 hc kT2 c1 c2
      -- sealed: True; case 0
      go_enter Tryd.func3, Tryd.ntmps3
      have B1 := Below.refl w.heap.size w
      go_wp2_with fail
      refine (k0 _).mono ?_; rintro e w1 ⟨rfl, x1⟩
      have B2 := B1.trans (x1.mono B1.size)
      clear B1 x1
      clear k0
      go_wp2_with fail
      refine (kp _).mono ?_; rintro e w2 ⟨rfl, x2⟩
      have B3 := B2.trans (x2.mono B2.size)
      clear B2 x2
      clear kp
      have X_4 := Box5.make w2 (.int .u8 v0) (.int .u8 v1) (.int .u16 v2) (.string v3) (.string v4) 26
      have B5 := B3.alloc B3.size (.cells #[.int .u8 v0, .int .u8 v1, .int .u16 v2, .string v3, .string v4] 26)
      clear B3
      obtain ⟨_, x1_0, x1_1, x1_2, x1_3, x1_4⟩ := id X_4
      go_wp2_with fail
      refine (kw _).mono ?_; rintro e w3 ⟨rfl, x3⟩
      have X_6 := X_4.on x3
      have B7 := B5.trans (x3.mono B5.size)
      clear x1_0 x1_1 x1_2 x1_3 x1_4 X_4 B5 x3
      clear kw
      have hb := B7.size
      have X_8 := X_6.past (o := (.cells #[.int .u8 v0, .int .u8 v1, .int .u16 v2, .string y3, .string v4] 26))
      have N_9 := Box5.make w3 (.int .u8 v0) (.int .u8 v1) (.int .u16 v2) (.string y3) (.string v4) 26
      have B10 := B7.alloc B7.size (.cells #[.int .u8 v0, .int .u8 v1, .int .u16 v2, .string y3, .string v4] 26)
      clear X_6 B7
      have fz : ∀ i, (w3.alloc (.cells #[.int .u8 v0, .int .u8 v1, .int .u16 v2, .string y3, .string v4] 26)).frozen? ⟨w3.heap.size, i, none⟩ = false := by intro i; simp [go_sem]
      go_wp2_with fail
      obtain ⟨u4, hu4⟩ : ∃ x, x = w3.alloc (.cells #[.int .u8 v0, .int .u8 v1, .int .u16 v2, .string y3, .string v4] 26) := ⟨_, rfl⟩
      rw [← hu4] at X_8 N_9 B10 fz ⊢
      clear hu4
      obtain ⟨zx, gx0, gx1, gx2, gx3, gx4⟩ := id X_8
      have F0 : ∀ x : Later u4.heap.size u4, x.u.cell? ⟨w2.heap.size, 0, none⟩ = some (.int .u8 v0) := fun x => x.block zx gx0
      have F1 : ∀ x : Later u4.heap.size u4, x.u.cell? ⟨w2.heap.size, 1, none⟩ = some (.int .u8 v1) := fun x => x.block zx gx1
      have F2 : ∀ x : Later u4.heap.size u4, x.u.cell? ⟨w2.heap.size, 2, none⟩ = some (.int .u16 v2) := fun x => x.block zx gx2
      have F3 : ∀ x : Later u4.heap.size u4, x.u.cell? ⟨w2.heap.size, 3, none⟩ = some (.string v3) := fun x => x.block zx gx3
      have F4 : ∀ x : Later u4.heap.size u4, x.u.cell? ⟨w2.heap.size, 4, none⟩ = some (.string v4) := fun x => x.block zx gx4
      clear gx0 gx1 gx2 gx3 gx4
      refine region_lead (B := u4.heap.size) 7 1 (by kernel_rfl) (by kernel_rfl) (by kernel_rfl) (by kernel_rfl) ?_
      simp only [List.take_succ_cons, List.take_zero]
      repeat (go_big_quiet_step (first
        | (go_at_call 9; exact later_of _ (Nat.le_refl _) (ki _))
        | (go_at_call 8; exact later_same _ (ku _))))
      refine lead_end (by kernel_rfl) (by kernel_rfl) rfl fun w5 x5 G hG => ?_
      have fz2 : ∀ i, w5.frozen? ⟨w3.heap.size, i, none⟩ = false := fun i => (x5.frozen (p := ⟨_, i, none⟩) N_9.1).trans (fz i)
      clear F0 F1 F2 F3 F4 zx fz
      have X_11 := X_8.on x5
      have N_12 := N_9.on x5
      have B13 := B10.trans (x5.mono B10.size)
      clear X_8 N_9 B10 x5
      clear ki ku
      have hlt := N_12.1
      obtain ⟨_, n2_0, n2_1, n2_2, n2_3, n2_4⟩ := id N_12
      go_simp
      refine hG.out _ _ ?_
      clear hG G
      have B14 := B13.setCell (p := ⟨w3.heap.size, 2, none⟩) (by omega) (.int .u16 uu)
      clear B13 fz2
      have N_15 : Box5 (w5.setCell ⟨w3.heap.size, 2, none⟩ (.int .u16 uu)) w3.heap.size (.int .u8 v0) (.int .u8 v1) (.int .u16 uu) (.string y3) (.string v4) :=
        ⟨by simpa using hlt, by simp [go_sem, n2_0], by simp [go_sem, n2_1], by simp [go_sem, n2_2], by simp [go_sem, n2_3], by simp [go_sem, n2_4]⟩
      clear n2_0 n2_1 n2_2 n2_3 n2_4 X_11 N_12 hlt hb
      obtain ⟨u6, hu6⟩ : ∃ x, x = w5.setCell ⟨w3.heap.size, 2, none⟩ (.int .u16 uu) := ⟨_, rfl⟩
      rw [← hu6] at N_15 B14 ⊢
      clear hu6
      obtain ⟨_, n3_0, n3_1, n3_2, n3_3, n3_4⟩ := id N_15
      go_wp2_with fail
      refine (kT _).mono ?_; rintro e w7 ⟨rfl, x7⟩
      have N_16 := N_15.on x7
      have B17 := B14.trans (x7.mono B14.size)
      clear n3_0 n3_1 n3_2 n3_3 n3_4 N_15 B14 x7
      clear kT
      clear N_16
      go_wp2_with fail
      refine (kS _).mono ?_; rintro e w8 ⟨rfl, x8⟩
      have B18 := B17.trans (x8.mono B17.size)
      clear B17 x8
      clear kS
      go_wp2_with fail
      refine region_later (B := w8.heap.size) (by kernel_rfl) (by kernel_rfl) ?_
      repeat (go_big_quiet_step (first
        | (go_at_call 4; exact later_of _ (Nat.le_refl _) (echoed_ K _))))
      refine later_end fun w9 x9 => ?_
      have B19 := B18.trans (x9.mono B18.size)
      clear B18 x9
      go_wp2
      go_ret
      exact ⟨rfl, B19⟩
    · have y1 := empty_no a2
      have y2 := empty_no2 a2
      have y3' := empty_yes a4
      clear a1 a2 a3 a4 hc c1 c2
      -- sealed: True; case 1
      go_enter Tryd.func3, Tryd.ntmps3
      have B1 := Below.refl w.heap.size w
      go_wp2_with fail
      refine (k0 _).mono ?_; rintro e w1 ⟨rfl, x1⟩
      have B2 := B1.trans (x1.mono B1.size)
      clear B1 x1
      clear k0
      go_wp2_with fail
      refine (kp _).mono ?_; rintro e w2 ⟨rfl, x2⟩
      have B3 := B2.trans (x2.mono B2.size)
      clear B2 x2
      clear kp
      have X_4 := Box5.make w2 (.int .u8 v0) (.int .u8 v1) (.int .u16 v2) (.string v3) (.string v4) 26
      have B5 := B3.alloc B3.size (.cells #[.int .u8 v0, .int .u8 v1, .int .u16 v2, .string v3, .string v4] 26)
      clear B3
      obtain ⟨_, x1_0, x1_1, x1_2, x1_3, x1_4⟩ := id X_4
      go_wp2_with fail
      refine (kw _).mono ?_; rintro e w3 ⟨rfl, x3⟩
      have X_6 := X_4.on x3
      have B7 := B5.trans (x3.mono B5.size)
      clear x1_0 x1_1 x1_2 x1_3 x1_4 X_4 B5 x3
      clear kw
      have hb := B7.size
      have X_8 := X_6.past (o := (.cells #[.int .u8 v0, .int .u8 v1, .int .u16 v2, .string y3, .string v4] 26))
      have N_9 := Box5.make w3 (.int .u8 v0) (.int .u8 v1) (.int .u16 v2) (.string y3) (.string v4) 26
      have B10 := B7.alloc B7.size (.cells #[.int .u8 v0, .int .u8 v1, .int .u16 v2, .string y3, .string v4] 26)
      clear X_6 B7
      have fz : ∀ i, (w3.alloc (.cells #[.int .u8 v0, .int .u8 v1, .int .u16 v2, .string y3, .string v4] 26)).frozen? ⟨w3.heap.size, i, none⟩ = false := by intro i; simp [go_sem]
      go_wp2_with fail
      obtain ⟨u4, hu4⟩ : ∃ x, x = w3.alloc (.cells #[.int .u8 v0, .int .u8 v1, .int .u16 v2, .string y3, .string v4] 26) := ⟨_, rfl⟩
      rw [← hu4] at X_8 N_9 B10 fz ⊢
      clear hu4
      obtain ⟨zx, gx0, gx1, gx2, gx3, gx4⟩ := id X_8
      have F0 : ∀ x : Later u4.heap.size u4, x.u.cell? ⟨w2.heap.size, 0, none⟩ = some (.int .u8 v0) := fun x => x.block zx gx0
      have F1 : ∀ x : Later u4.heap.size u4, x.u.cell? ⟨w2.heap.size, 1, none⟩ = some (.int .u8 v1) := fun x => x.block zx gx1
      have F2 : ∀ x : Later u4.heap.size u4, x.u.cell? ⟨w2.heap.size, 2, none⟩ = some (.int .u16 v2) := fun x => x.block zx gx2
      have F3 : ∀ x : Later u4.heap.size u4, x.u.cell? ⟨w2.heap.size, 3, none⟩ = some (.string v3) := fun x => x.block zx gx3
      have F4 : ∀ x : Later u4.heap.size u4, x.u.cell? ⟨w2.heap.size, 4, none⟩ = some (.string v4) := fun x => x.block zx gx4
      clear gx0 gx1 gx2 gx3 gx4
      refine region_lead (B := u4.heap.size) 7 1 (by kernel_rfl) (by kernel_rfl) (by kernel_rfl) (by kernel_rfl) ?_
      simp only [List.take_succ_cons, List.take_zero]
      repeat (go_big_quiet_step (first
        | (go_at_call 9; exact later_of _ (Nat.le_refl _) (ki _))
        | (go_at_call 8; exact later_same _ (ku _))))
      refine lead_end (by kernel_rfl) (by kernel_rfl) rfl fun w5 x5 G hG => ?_
      have fz2 : ∀ i, w5.frozen? ⟨w3.heap.size, i, none⟩ = false := fun i => (x5.frozen (p := ⟨_, i, none⟩) N_9.1).trans (fz i)
      clear F0 F1 F2 F3 F4 zx fz
      have X_11 := X_8.on x5
      have N_12 := N_9.on x5
      have B13 := B10.trans (x5.mono B10.size)
      clear X_8 N_9 B10 x5
      clear ki ku
      have hlt := N_12.1
      obtain ⟨_, n2_0, n2_1, n2_2, n2_3, n2_4⟩ := id N_12
      go_simp
      refine hG.out _ _ ?_
      clear hG G
      have B14 := B13.setCell (p := ⟨w3.heap.size, 2, none⟩) (by omega) (.int .u16 uu)
      clear B13 fz2
      have N_15 : Box5 (w5.setCell ⟨w3.heap.size, 2, none⟩ (.int .u16 uu)) w3.heap.size (.int .u8 v0) (.int .u8 v1) (.int .u16 uu) (.string y3) (.string v4) :=
        ⟨by simpa using hlt, by simp [go_sem, n2_0], by simp [go_sem, n2_1], by simp [go_sem, n2_2], by simp [go_sem, n2_3], by simp [go_sem, n2_4]⟩
      clear n2_0 n2_1 n2_2 n2_3 n2_4 X_11 N_12 hlt hb
      obtain ⟨u6, hu6⟩ : ∃ x, x = w5.setCell ⟨w3.heap.size, 2, none⟩ (.int .u16 uu) := ⟨_, rfl⟩
      rw [← hu6] at N_15 B14 ⊢
      clear hu6
      obtain ⟨_, n3_0, n3_1, n3_2, n3_3, n3_4⟩ := id N_15
      go_wp2_with fail
      refine (kT _).mono ?_; rintro e w7 ⟨rfl, x7⟩
      have N_16 := N_15.on x7
      have B17 := B14.trans (x7.mono B14.size)
      clear n3_0 n3_1 n3_2 n3_3 n3_4 N_15 B14 x7
      clear kT
      clear N_16
      go_wp2_with fail
      refine (kS _).mono ?_; rintro e w8 ⟨rfl, x8⟩
      have B18 := B17.trans (x8.mono B17.size)
      clear B17 x8
      clear kS
      go_wp2_with fail
      refine (kT2 _).mono ?_; rintro e w9 ⟨rfl, x9⟩
      have B19 := B18.trans (x9.mono B18.size)
      clear B18 x9
      clear kT2
      go_wp2_with fail
      refine region_later (B := w9.heap.size) (by kernel_rfl) (by kernel_rfl) ?_
      repeat (go_big_quiet_step (first
        | (go_at_call 4; exact later_of _ (Nat.le_refl _) (echoed_ K _))))
      refine later_end fun w10 x10 => ?_
      have B20 := B19.trans (x10.mono B19.size)
      clear B19 x10
      go_wp2
      go_ret
      exact ⟨rfl, B20⟩
    · have y1 := empty_no a2
      have y2 := empty_no2 a2
      have y3' := empty_no a4
      have y4 := empty_no2 a4
      rw [hc a1 a3] at c2
      generalize ckM S = cc at *
      clear a1 a2 a3 a4 hc
      -- sealed: True; case 2
      go_enter Tryd.func3, Tryd.ntmps3
      have B1 := Below.refl w.heap.size w
      go_wp2_with fail
      refine (k0 _).mono ?_; rintro e w1 ⟨rfl, x1⟩
      have B2 := B1.trans (x1.mono B1.size)
      clear B1 x1
      clear k0
      go_wp2_with fail
      refine (kp _).mono ?_; rintro e w2 ⟨rfl, x2⟩
      have B3 := B2.trans (x2.mono B2.size)
      clear B2 x2
      clear kp
      have X_4 := Box5.make w2 (.int .u8 v0) (.int .u8 v1) (.int .u16 v2) (.string v3) (.string v4) 26
      have B5 := B3.alloc B3.size (.cells #[.int .u8 v0, .int .u8 v1, .int .u16 v2, .string v3, .string v4] 26)
      clear B3
      obtain ⟨_, x1_0, x1_1, x1_2, x1_3, x1_4⟩ := id X_4
      go_wp2_with fail
      refine (kw _).mono ?_; rintro e w3 ⟨rfl, x3⟩
      have X_6 := X_4.on x3
      have B7 := B5.trans (x3.mono B5.size)
      clear x1_0 x1_1 x1_2 x1_3 x1_4 X_4 B5 x3
      clear kw
      have hb := B7.size
      have X_8 := X_6.past (o := (.cells #[.int .u8 v0, .int .u8 v1, .int .u16 v2, .string y3, .string v4] 26))
      have N_9 := Box5.make w3 (.int .u8 v0) (.int .u8 v1) (.int .u16 v2) (.string y3) (.string v4) 26
      have B10 := B7.alloc B7.size (.cells #[.int .u8 v0, .int .u8 v1, .int .u16 v2, .string y3, .string v4] 26)
      clear X_6 B7
      have fz : ∀ i, (w3.alloc (.cells #[.int .u8 v0, .int .u8 v1, .int .u16 v2, .string y3, .string v4] 26)).frozen? ⟨w3.heap.size, i, none⟩ = false := by intro i; simp [go_sem]
      go_wp2_with fail
      obtain ⟨u4, hu4⟩ : ∃ x, x = w3.alloc (.cells #[.int .u8 v0, .int .u8 v1, .int .u16 v2, .string y3, .string v4] 26) := ⟨_, rfl⟩
      rw [← hu4] at X_8 N_9 B10 fz ⊢
      clear hu4
      obtain ⟨zx, gx0, gx1, gx2, gx3, gx4⟩ := id X_8
      have F0 : ∀ x : Later u4.heap.size u4, x.u.cell? ⟨w2.heap.size, 0, none⟩ = some (.int .u8 v0) := fun x => x.block zx gx0
      have F1 : ∀ x : Later u4.heap.size u4, x.u.cell? ⟨w2.heap.size, 1, none⟩ = some (.int .u8 v1) := fun x => x.block zx gx1
      have F2 : ∀ x : Later u4.heap.size u4, x.u.cell? ⟨w2.heap.size, 2, none⟩ = some (.int .u16 v2) := fun x => x.block zx gx2
      have F3 : ∀ x : Later u4.heap.size u4, x.u.cell? ⟨w2.heap.size, 3, none⟩ = some (.string v3) := fun x => x.block zx gx3
      have F4 : ∀ x : Later u4.heap.size u4, x.u.cell? ⟨w2.heap.size, 4, none⟩ = some (.string v4) := fun x => x.block zx gx4
      clear gx0 gx1 gx2 gx3 gx4
      refine region_lead (B := u4.heap.size) 7 1 (by kernel_rfl) (by kernel_rfl) (by kernel_rfl) (by kernel_rfl) ?_
      simp only [List.take_succ_cons, List.take_zero]
      repeat (go_big_quiet_step (first
        | (go_at_call 9; exact later_of _ (Nat.le_refl _) (ki _))
        | (go_at_call 8; exact later_same _ (ku _))))
      refine lead_end (by kernel_rfl) (by kernel_rfl) rfl fun w5 x5 G hG => ?_
      have fz2 : ∀ i, w5.frozen? ⟨w3.heap.size, i, none⟩ = false := fun i => (x5.frozen (p := ⟨_, i, none⟩) N_9.1).trans (fz i)
      clear F0 F1 F2 F3 F4 zx fz
      have X_11 := X_8.on x5
      have N_12 := N_9.on x5
      have B13 := B10.trans (x5.mono B10.size)
      clear X_8 N_9 B10 x5
      clear ki ku
      have hlt := N_12.1
      obtain ⟨_, n2_0, n2_1, n2_2, n2_3, n2_4⟩ := id N_12
      go_simp
      refine hG.out _ _ ?_
      clear hG G
      have B14 := B13.setCell (p := ⟨w3.heap.size, 2, none⟩) (by omega) (.int .u16 uu)
      clear B13 fz2
      have N_15 : Box5 (w5.setCell ⟨w3.heap.size, 2, none⟩ (.int .u16 uu)) w3.heap.size (.int .u8 v0) (.int .u8 v1) (.int .u16 uu) (.string y3) (.string v4) :=
        ⟨by simpa using hlt, by simp [go_sem, n2_0], by simp [go_sem, n2_1], by simp [go_sem, n2_2], by simp [go_sem, n2_3], by simp [go_sem, n2_4]⟩
      clear n2_0 n2_1 n2_2 n2_3 n2_4 X_11 N_12 hlt hb
      obtain ⟨u6, hu6⟩ : ∃ x, x = w5.setCell ⟨w3.heap.size, 2, none⟩ (.int .u16 uu) := ⟨_, rfl⟩
      rw [← hu6] at N_15 B14 ⊢
      clear hu6
      obtain ⟨_, n3_0, n3_1, n3_2, n3_3, n3_4⟩ := id N_15
      go_wp2_with fail
      refine (kT _).mono ?_; rintro e w7 ⟨rfl, x7⟩
      have N_16 := N_15.on x7
      have B17 := B14.trans (x7.mono B14.size)
      clear n3_0 n3_1 n3_2 n3_3 n3_4 N_15 B14 x7
      clear kT
      clear N_16
      go_wp2_with fail
      refine (kS _).mono ?_; rintro e w8 ⟨rfl, x8⟩
      have B18 := B17.trans (x8.mono B17.size)
      clear B17 x8
      clear kS
      go_wp2_with fail
      refine (kT2 _).mono ?_; rintro e w9 ⟨rfl, x9⟩
      have B19 := B18.trans (x9.mono B18.size)
      clear B18 x9
      clear kT2
      go_wp2_with fail
      refine region_later (B := w9.heap.size) (by kernel_rfl) (by kernel_rfl) ?_
      repeat (go_big_quiet_step (first
        | (go_at_call_of 12 T; exact later_of _ (Nat.le_refl _) (c2 _))
        | (go_at_call_of 12 S; exact later_of _ (Nat.le_refl _) (c1 _))
        | (go_at_call 4; exact later_of _ (Nat.le_refl _) (echoed_ K _))))
      refine later_end fun w10 x10 => ?_
      have B20 := B19.trans (x10.mono B19.size)
      clear B19 x10
      go_wp2
      go_ret
      exact ⟨rfl, B20⟩
end Go.Proofs.YtlcgpjeggelbaaaDoor.IcmpID
