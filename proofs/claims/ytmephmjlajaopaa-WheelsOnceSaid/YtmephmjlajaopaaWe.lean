/- Texts of this proof, together: WheB, WheC. -/
import Derived.Test.YtmephmjlajaopaaWd
import Derived.Test.YtmephmjlajaopaaLast
import Derived.Lib.AppendZeros
namespace Go.Proofs.Ytmephmjlajaopaa
set_option linter.unusedVariables false
set_option linter.unusedSimpArgs false
open Go.ChangeShapes Go.WideShapes Go.ChangeAt Go.RowKit Go.PlainAid
attribute [local go_sem ↓] Go.wp_at_zero Go.wp_at_succ
/-- append, as one step of a region that draws. -/
theorem step_append {P : Program} {ops : Array Oper} {o : Oper} {a : Act} {w : World} {K : Act → World → Prop} {Q : Exit → Act → World → Prop} {E : Prop} (hg : o.guard = none) (d x : Operand) (dT sT : TypeId) (hop : o.op = Op.call { callee := Callee.builtin Builtin.append, args := #[d, x], argTypes := #[dT, sT] })
    (v u : Value) (hd : a.eval d = v) (hx : a.eval x = u) {v' : Value} {w' : World} (hr : (Builtin.append_ #[dT, sT] o.type #[v, u]).run P w = .ok v' w') (hK : K (a.put o.dst v') w') :
    if Region.wanted o (yielded ops a.tmps) = true then Oper.wp P o a w K Q else E := by
  rw [if_pos (by simp [Region.wanted, hg])]
  exact Lib.wp_append_run w d x dT sT hop v u hd hx _ _ hr hK
set_option maxHeartbeats 1000000 in
set_option maxRecDepth 100000 in
theorem rahead15_ (t u : Ti) (w : World) : Says Try.prog 33 #[.agg #[.int .i64 t.s, .int .u32 t.g, .int .i64 (t.d : Int)], .agg #[.int .i64 u.s, .int .u32 u.g, .int .i64 (u.d : Int)]] w (.bool (t.ahead u)) := by
  have B1 : Below w.heap.size w ((w.alloc (.cells #[.int .i64 t.s, .int .u32 t.g, .int .i64 (t.d : Int)] 71)).alloc (.cells #[.int .i64 u.s, .int .u32 u.g, .int .i64 (u.d : Int)] 71)) := ((Below.refl _ _).alloc (Nat.le_refl _) _).alloc (by simp) _
  obtain ⟨ts, tg, td⟩ := t
  obtain ⟨us, ug, ud⟩ := u
  simp only at B1
  show Calls _ _ _ _ _
  by_cases h1 : td = ud
  · subst h1
    by_cases h2 : ts = us
    · subst h2
      have HV : Hid (Ti.ahead ⟨ts, tg, td⟩ ⟨ts, ug, td⟩ = decide (tg < ug)) := by show _ = _; unfold Ti.ahead; rw [if_pos rfl, if_pos rfl]
      go_enter Try.func33, Try.ntmps33
      go_wp2
      go_ret
      rw [HV.out]
      exact ⟨rfl, B1⟩
    · have HV : Hid (Ti.ahead ⟨ts, tg, td⟩ ⟨us, ug, td⟩ = decide (ts < us)) := by show _ = _; unfold Ti.ahead; rw [if_pos rfl, if_neg h2]
      have e1 : (ts != us) = true := bne_iff_ne.2 h2
      go_enter Try.func33, Try.ntmps33
      go_wp2
      go_ret
      rw [HV.out]
      exact ⟨rfl, B1⟩
  · have HV : Hid (Ti.ahead ⟨ts, tg, td⟩ ⟨us, ug, ud⟩ = decide (td < ud)) := by show _ = _; unfold Ti.ahead; rw [if_neg h1]
    have e1 : ((td : Int) != (ud : Int)) = true := bne_iff_ne.2 (fun e => h1 (by omega))
    have e2 : (td != ud) = true := bne_iff_ne.2 h1
    go_enter Try.func33, Try.ntmps33
    go_wp2
    go_ret
    rw [HV.out]
    exact ⟨rfl, B1⟩
/-- Where a list is cut by those that stand ahead. -/
theorem tw_at {l : List Ti} {t : Ti} {k : Nat} (hk : k ≤ l.length) (h1 : ∀ j, j < k → (l.getD j Ti.zero).ahead t = true) (h2 : k = l.length ∨ (l.getD k Ti.zero).ahead t = false) : l.takeWhile (fun a => a.ahead t) = l.take k ∧ l.dropWhile (fun a => a.ahead t) = l.drop k := by
  induction l generalizing k with
  | nil => simp
  | cons a l ih =>
    cases k with
    | zero =>
      rcases h2 with h | h
      · simp at h
      · have e : a.ahead t = false := h
        rw [List.takeWhile_cons, List.dropWhile_cons, e]
        exact ⟨rfl, rfl⟩
    | succ k =>
      have e : a.ahead t = true := h1 0 (Nat.succ_pos _)
      obtain ⟨i1, i2⟩ := ih (k := k) (by simpa using hk) (fun j hj => h1 (j + 1) (Nat.succ_lt_succ hj)) (h2.imp (fun h => by simpa using h) id)
      rw [List.takeWhile_cons, List.dropWhile_cons, e]
      exact ⟨congrArg (a :: ·) i1, i2⟩
theorem few15 {n k : Nat} (h : n ≤ 1000) : (k + 0 ≤ n → k ≤ n) ∧ (n + 1) * 24 ≤ 140737488355328 ∧ n + 1 ≤ maxLen := by
  have : maxLen = 9223372036854775807 := rfl
  exact ⟨id, by omega, by omega⟩
set_option maxHeartbeats 4000000 in
set_option maxRecDepth 100000 in
theorem rput15_ (S p x) (s g n : Int) (w : World) (H : WhR w S p x) (hl : x.l.length ≤ 1000) (ho : HOk s g) : Told Try.prog whR 18 #[.pointer (some ⟨p, 0, none⟩), .agg #[.int .i64 s, .int .u32 g], .int .i64 n] w S p (.int .i64 (x.putE s g n : Int)) (x.putT s g n) := by
  have HR := Lib.hid H
  have B1 : Below w.heap.size w (w.alloc (.cells #[.int .i64 s, .int .u32 g] 34)) := (Below.refl _ _).alloc (Nat.le_refl _) _
  have R1 := whR.on H B1
  show Calls _ _ _ _ _
  by_cases hr : ¬ Wh.mayD n
  · have HV : Hid (x.putE s g n = 2 ∧ x.putT s g n = x) := by show _ ∧ _; unfold Wh.putE Wh.putT; rw [if_neg hr, if_neg hr]; exact ⟨rfl, rfl⟩
    by_cases h0 : n < 0
    · have e1 : decide (n < 0) = true := by simpa using h0
      clear h0 hr H
      go_enter Try.func18, Try.ntmps18
      go_wp2
      go_ret
      rw [HV.out.1, HV.out.2]
      exact ⟨rfl, S, R1, Fresh.refl _ _, Beside.of B1⟩
    · have e1 : decide (n < 0) = false := by simpa using h0
      have e2 : decide (1099511627776 < n) = true := by
        refine decide_eq_true ?_
        have : ¬ n ≤ 1099511627776 := fun h => hr ⟨by omega, h⟩
        omega
      clear h0 hr H
      go_enter Try.func18, Try.ntmps18
      go_wp2
      go_ret
      rw [HV.out.1, HV.out.2]
      exact ⟨rfl, S, R1, Fresh.refl _ _, Beside.of B1⟩
  have hr := Decidable.not_not.1 hr
  obtain ⟨n, rfl⟩ := Int.eq_ofNat_of_zero_le hr.1
  have e1 : decide ((n : Int) < 0) = false := by simp
  have e2 : decide ((1099511627776 : Int) < (n : Int)) = false := decide_eq_false (by have := hr.2; unfold Wh.max at this; omega)
  have e2n : decide (1099511627776 < n) = false := decide_eq_false (by have := hr.2; unfold Wh.max at this; omega)
  have HM := Lib.hid hr
  have cf : Says _ _ _ (w.alloc (.cells #[.int .i64 s, .int .u32 g] 34)) _ := rfind15_ S p x s g _ R1 hl
  have b0 : (w.alloc (.cells #[.int .i64 s, .int .u32 g] 34)).cell? ⟨w.heap.size, 0, none⟩ = some (.int .i64 s) := by simp [go_sem]
  have b1 : (w.alloc (.cells #[.int .i64 s, .int .u32 g] 34)).cell? ⟨w.heap.size, 1, none⟩ = some (.int .u32 g) := by simp [go_sem]
  have sz : w.heap.size < (w.alloc (.cells #[.int .i64 s, .int .u32 g] 34)).heap.size := by simp
  have HL := Lib.hid hl
  have HO := Lib.hid ho
  clear hr H hl ho
  cases hh : x.has s g with
  | true =>
    have HV : Hid (x.putE s g (n : Int) = 7 ∧ x.putT s g (n : Int) = x) := by show _ ∧ _; unfold Wh.putE Wh.putT; rw [if_pos HM.out, if_pos HM.out, hh]; exact ⟨rfl, rfl⟩
    obtain ⟨i, ei, _⟩ := firstAt_at Ti.zero (show x.l.any (fun t => t.is s g) = true from hh)
    rw [ei] at cf
    clear ei hh
    go_enter Try.func18, Try.ntmps18
    go_upto_region 3 with fail
    obtain ⟨u, hu⟩ : ∃ x_ : World, x_ = w.alloc (.cells #[.int .i64 s, .int .u32 g] 34) := ⟨_, rfl⟩
    rw [← hu] at B1 R1 b0 b1 cf ⊢
    clear hu
    go_wp2_with fail
    refine cf.mono ?_; rintro e w2 ⟨rfl, b2⟩
    clear b0 b1 cf
    go_wp2
    go_ret
    rw [HV.out.1, HV.out.2]
    exact ⟨rfl, S, whR.on R1 b2, Fresh.refl _ _, Beside.of (B1.trans (b2.mono B1.size))⟩
  | false =>
    obtain ⟨t, ht⟩ : ∃ t_ : Ti, t_ = ⟨s, g, n⟩ := ⟨_, rfl⟩
    have HV : Hid (x.putE s g (n : Int) = 0 ∧ x.putT s g (n : Int) = { x with l := Wh.ins x.l t }) := by show _ ∧ _; unfold Wh.putE Wh.putT; rw [if_pos HM.out, if_pos HM.out, hh, ht]; exact ⟨rfl, rfl⟩
    have OK : Hid (({ x with l := Wh.ins x.l t } : Wh).Ok) := by
      show Wh.Ok _
      rw [← HV.out.2]
      obtain ⟨_, _, h⟩ := HR.out
      exact h.ok.put HO.out.g0 HO.out.g1
    have ei : firstAt x.l (fun t => t.is s g) = -1 := by unfold firstAt; rw [if_neg (by rw [show x.l.any (fun t => t.is s g) = false from hh]; decide)]
    rw [ei] at cf
    clear ei hh
    go_enter Try.func18, Try.ntmps18
    go_upto_region 3 with fail
    obtain ⟨u, hu⟩ : ∃ x_ : World, x_ = w.alloc (.cells #[.int .i64 s, .int .u32 g] 34) := ⟨_, rfl⟩
    rw [← hu] at B1 R1 b0 b1 cf sz ⊢
    clear hu
    go_wp2_with fail
    refine cf.mono ?_; rintro e w2 ⟨rfl, b2⟩
    have c0 := (b2.cell (p := ⟨w.heap.size, 0, none⟩) sz).trans b0
    have c1 := (b2.cell (p := ⟨w.heap.size, 1, none⟩) sz).trans b1
    have B2 := B1.trans (b2.mono B1.size)
    clear b0 b1 cf R1 B1 sz b2
    go_upto_region 6 with fail
    have B3 : Below w.heap.size w (w2.alloc (.cells #[.int .i64 s, .int .u32 g, .int .i64 (n : Int)] 71)) := B2.alloc B2.size _
    have d0 : (w2.alloc (.cells #[.int .i64 s, .int .u32 g, .int .i64 (n : Int)] 71)).cell? ⟨w2.heap.size, 0, none⟩ = some (.int .i64 s) := by simp [go_sem]
    have d1 : (w2.alloc (.cells #[.int .i64 s, .int .u32 g, .int .i64 (n : Int)] 71)).cell? ⟨w2.heap.size, 1, none⟩ = some (.int .u32 g) := by simp [go_sem]
    have d2 : (w2.alloc (.cells #[.int .i64 s, .int .u32 g, .int .i64 (n : Int)] 71)).cell? ⟨w2.heap.size, 2, none⟩ = some (.int .i64 (n : Int)) := by simp [go_sem]
    have sz : w2.heap.size < (w2.alloc (.cells #[.int .i64 s, .int .u32 g, .int .i64 (n : Int)] 71)).heap.size := by simp
    have LE := Lib.hid B2.size
    obtain ⟨u, hu⟩ : ∃ x_ : World, x_ = w2.alloc (.cells #[.int .i64 s, .int .u32 g, .int .i64 (n : Int)] 71) := ⟨_, rfl⟩
    rw [← hu] at B3 d0 d1 d2 sz ⊢
    clear hu c0 c1 B2
    obtain ⟨y, hy⟩ : ∃ y_, y_ = w2.heap.size := ⟨_, rfl⟩
    rw [← hy] at d0 d1 d2 sz LE ⊢
    clear hy
    obtain ⟨a, c, H1⟩ := whR.on HR.out B3
    have HD := Lib.hid (And.intro d0 (And.intro d1 d2))
    have HZ := Lib.hid sz
    have HH := Lib.hid H1
    clear d0 d1 d2 sz H1
    go_loopw [8] (fun si wr => ∃ i : Nat, i ≤ x.l.length ∧ si = .int .i64 (i : Int) ∧ Below u.heap.size u wr ∧ Hid (∀ j, j < i → (x.l.getD j Ti.zero).ahead t = true)) (fun si _ => x.l.length - (intOf si).toNat)
    case atStart => exact ⟨0, Nat.zero_le _, rfl, Below.refl _ _, fun j hj => absurd hj (Nat.not_lt_zero j)⟩
    case round =>
      obtain ⟨i, hi, rfl, bb, HF⟩ := hrel
      have EW := Lib.hid (step_15 (j := i) (Nat.lt_of_le_of_lt (Nat.le_trans hi HL.out) (by decide)))
      have H2 := HH.out.on bb
      have LT := Nat.lt_of_lt_of_le HZ.out bb.size
      have C0 : ∀ q : Later wr.heap.size wr, q.u.cell? ⟨p, 1, none⟩ = some (.slice a x.l.length c) := fun q => q.block (H2.lt p H2.inp) H2.c1
      have D0 : ∀ q : Later wr.heap.size wr, q.u.cell? ⟨y, 0, none⟩ = some (.int .i64 s) := fun q => q.block LT ((bb.cell (p := ⟨y, 0, none⟩) HZ.out).trans HD.out.1)
      have D1 : ∀ q : Later wr.heap.size wr, q.u.cell? ⟨y, 1, none⟩ = some (.int .u32 g) := fun q => q.block LT ((bb.cell (p := ⟨y, 1, none⟩) HZ.out).trans HD.out.2.1)
      have D2 : ∀ q : Later wr.heap.size wr, q.u.cell? ⟨y, 2, none⟩ = some (.int .i64 (n : Int)) := fun q => q.block LT ((bb.cell (p := ⟨y, 2, none⟩) HZ.out).trans HD.out.2.2)
      have fin : ∀ w9 : World, Below wr.heap.size wr w9 → (i = x.l.length ∨ (x.l.getD i Ti.zero).ahead t = false) → Hid (i ≤ x.l.length ∧ Below u.heap.size u w9 ∧ x.l.takeWhile (fun a => a.ahead t) = x.l.take i ∧ x.l.dropWhile (fun a => a.ahead t) = x.l.drop i) := fun w9 x9 h2 => ⟨hi, bb.trans (x9.mono bb.size), tw_at hi HF.out h2⟩
      have FIN := Lib.hid fin
      clear fin
      by_cases hlt : i < x.l.length
      · have HI := Lib.hid hlt
        obtain ⟨e10, e12, e13⟩ := ix15 hlt
        obtain ⟨b, off, rfl, hb, y0, y1, y2⟩ := timer_at H2.sl.row hlt
        have Y0 : ∀ q : Later wr.heap.size wr, q.u.cell? ⟨b, off + i * 3, none⟩ = some (.int .i64 (x.l.getD i Ti.zero).s) := fun q => q.block hb y0
        have Y1 : ∀ q : Later wr.heap.size wr, q.u.cell? ⟨b, off + i * 3 + 1, none⟩ = some (.int .u32 (x.l.getD i Ti.zero).g) := fun q => q.block hb y1
        have Y2 : ∀ q : Later wr.heap.size wr, q.u.cell? ⟨b, off + i * 3 + 2, none⟩ = some (.int .i64 ((x.l.getD i Ti.zero).d : Int)) := fun q => q.block hb y2
        have ca := fun q : Later wr.heap.size wr => rahead15_ (x.l.getD i Ti.zero) t q.u
        rw [ht] at ca
        simp only at ca
        clear y0 y1 y2 hb hlt hi H2 LT
        cases hq : (x.l.getD i Ti.zero).ahead t with
        | true =>
          have HN := Lib.hid hq
          rw [ht] at hq
          rw [hq] at ca
          clear hq
          generalize x.l.getD i Ti.zero = r at Y0 Y1 Y2 ca
          obtain ⟨r1, r2, r3⟩ := r
          simp only at Y0 Y1 Y2 ca
          go_upto_region 6 with fail
          refine region_later (B := wr.heap.size) (by kernel_rfl) (by kernel_rfl) ?_
          repeat (go_big_quiet_step (first | (go_at_call 33; exact later_of _ (Nat.le_refl _) (ca _))))
          refine later_end fun w9 x9 => ?_
          have BN := bb.trans (x9.mono bb.size)
          clear C0 D0 D1 D2 Y0 Y1 Y2 ca x9 bb
          go_wp2
          go_roundw
          case rel => exact ⟨i + 1, HI.out, by simp [EW.out], BN, fun j hj => by
            by_cases e : j = i
            · rw [e]; exact HN.out
            · exact HF.out j (by omega)⟩
          case measure => first | exact step_meas15 EW.out (step_less15 HI.out) | (simp [EW.out]; exact step_less15 HI.out) | exact step_less15 HI.out
        | false =>
          have HE := Lib.hid (fun w9 x9 => FIN.out w9 x9 (.inr hq))
          rw [ht] at hq
          rw [hq] at ca
          clear hq
          generalize x.l.getD i Ti.zero = r at Y0 Y1 Y2 ca
          obtain ⟨r1, r2, r3⟩ := r
          simp only at Y0 Y1 Y2 ca
          go_upto_region 6 with fail
          refine region_later (B := wr.heap.size) (by kernel_rfl) (by kernel_rfl) ?_
          repeat (go_big_quiet_step (first | (go_at_call 33; exact later_of _ (Nat.le_refl _) (ca _))))
          refine later_end fun w9 x9 => ?_
          have GO := HE.out w9 x9
          clear C0 D0 D1 D2 Y0 Y1 Y2 ca x9 bb HE FIN e10 e12 e13
          go_upto_region 8 with fail
          have HIN : Wh.ins x.l t = x.l.take i ++ t :: x.l.drop i := by unfold Wh.ins; rw [GO.out.2.2.1, GO.out.2.2.2]
          have H9 := HH.out.on GO.out.2.1
          have B9 := B3.trans (GO.out.2.1.mono B3.size)
          have x0 := (GO.out.2.1.cell (p := ⟨y, 0, none⟩) HZ.out).trans HD.out.1
          have x1 := (GO.out.2.1.cell (p := ⟨y, 1, none⟩) HZ.out).trans HD.out.2.1
          have x2 := (GO.out.2.1.cell (p := ⟨y, 2, none⟩) HZ.out).trans HD.out.2.2
          refine region_till 20 (fun w' => w'.cell? ⟨p, 1, none⟩ = some (.slice (some ⟨b, off, none⟩) x.l.length c) ∧ w'.cell? ⟨y, 0, none⟩ = some (.int .i64 s) ∧ w'.cell? ⟨y, 1, none⟩ = some (.int .u32 g) ∧ w'.cell? ⟨y, 2, none⟩ = some (.int .i64 (n : Int))) (by kernel_rfl) ?_ (fun hHeld => ?_)
          · exact ⟨H9.c1, x0, x1, x2⟩
          have HD9 := H9.on (Below.refl w9.heap.size w9).drew
          have BD9 := B9.drew
          have LTy : y < w9.drew.heap.size := Nat.lt_of_lt_of_le HZ.out GO.out.2.1.size
          obtain ⟨wd, hwd⟩ : ∃ x_ : World, x_ = w9.drew := ⟨_, rfl⟩
          rw [← hwd] at HD9 BD9 LTy hHeld ⊢
          clear hwd H9 B9 x0 x1 x2
          obtain ⟨A1, C1, s1, S1⟩ := HD9.sl.low GO.out.1
          obtain ⟨A2, C2, s2, S2, _⟩ := HD9.sl.high GO.out.1
          have hlen : (x.l.take i).length + (x.l.drop i).length = x.l.length := by rw [← List.length_append, List.take_append_drop]
          obtain ⟨q1, q2⟩ := (few15 (k := 0) HL.out).2
          have T3 := eltT.three_rows 38 38 38 t 71 #[.int .i64 s, .int .u32 g, .int .i64 (n : Int)] (by rw [ht]; rfl) S1 S2 (by rw [hlen]; exact q1) (by rw [hlen]; exact q2)
          rw [← HIN] at T3
          have HS := Lib.hid (And.intro s1 s2)
          clear S1 S2 hlen q1 q2 ht HIN
          obtain ⟨⟨v7A, w7A, v10A, w10A, a17A, c17A, w17A, r7A, r10A, r17A, SA, nA, b7A, b8A, b10A, b17A⟩, v7B, w7B, v10B, w10B, a17B, c17B, w17B, r7B, r10B, r17B, SB, nB, b8B, b7B, b10B, b17B⟩ := T3
          have HG : ∀ {w' : World}, Below wd.heap.size wd w' → Hid (w'.cell? ⟨p, 1, none⟩ = some (.slice (some ⟨b, off, none⟩) x.l.length c) ∧ w'.cell? ⟨y, 0, none⟩ = some (.int .i64 s) ∧ w'.cell? ⟨y, 1, none⟩ = some (.int .u32 g) ∧ w'.cell? ⟨y, 2, none⟩ = some (.int .i64 (n : Int))) := fun bx => ⟨(bx.cell (p := ⟨p, 1, none⟩) (HD9.lt p HD9.inp)).trans hHeld.1, (bx.cell (p := ⟨y, 0, none⟩) LTy).trans hHeld.2.1, (bx.cell (p := ⟨y, 1, none⟩) LTy).trans hHeld.2.2.1, (bx.cell (p := ⟨y, 2, none⟩) LTy).trans hHeld.2.2.2⟩
          have G7A := HG b7A
          have G8A := HG b8A
          have G10A := HG b10A
          have G17A := HG b17A
          have G7B := HG b7B
          have G8B := HG b8B
          have G10B := HG b10B
          have G17B := HG b17B
          have FA := Lib.hid (HR.out.elim fun a0 ⟨c0, h0⟩ => h0.relist (BD9.trans (b17A.mono BD9.size)) SA (fun b off e => ⟨(nA b off e).2, .inl (Nat.le_trans BD9.size (nA b off e).1)⟩) OK.out)
          have FB := Lib.hid (HR.out.elim fun a0 ⟨c0, h0⟩ => h0.relist (BD9.trans (b17B.mono BD9.size)) SB (fun b off e => ⟨(nB b off e).2, .inl (Nat.le_trans BD9.size (nB b off e).1)⟩) OK.out)
          have fA : w17A.frozen? ⟨p, 1, none⟩ = false := (HD9.on b17A).f 1
          have fB : w17B.frozen? ⟨p, 1, none⟩ = false := (HD9.on b17B).f 1
          have RA7 := Lib.hid r7A
          have RA10 := Lib.hid r10A
          have RA17 := Lib.hid r17A
          have RB7 := Lib.hid r7B
          have RB10 := Lib.hid r10B
          have RB17 := Lib.hid r17B
          have cA := G17A.out.1
          have cB := G17B.out.1
          have i0 : (0 : Int) ≤ (i : Int) := Int.natCast_nonneg _
          clear HG r7A r10A r17A SA nA b7A b8A b10A b17A r7B r10B r17B SB nB b8B b7B b10B b17B HD9 BD9 LTy
          have sl1 : ∀ u, (Instr.slice 38 (.slice (some ⟨b, off, none⟩) x.l.length c) none (some (.int .i64 (i : Int))) none).run Try.prog u = .ok (.slice A1 (x.l.take i).length C1) u := HS.out.1
          have sl2 : ∀ u, (Instr.slice 38 (.slice (some ⟨b, off, none⟩) x.l.length c) (some (.int .i64 (i : Int))) none none).run Try.prog u = .ok (.slice A2 (x.l.drop i).length C2) u := HS.out.2
          refine till_take (i := 0) (oi := _) (v := ?_) rfl (by kernel_rfl) (by kernel_rfl) (by kernel_rfl) (by kernel_rfl) (by rfl) (fun _ _ _ h => h) (Or.inl ⟨by kernel_rfl, ?_⟩) (by assumption) ?_
          rotate_left
          · intro w hSw
            clear hSw
            go_simp
            with_reducible rfl
          try simp only [List.getElem_toArray, List.getElem_cons_succ, List.getElem_cons_zero, Act.put, List.setIfInBounds_toArray, List.set_cons_zero, List.set_cons_succ]
          refine till_take (i := 1) (oi := _) (v := ?_) rfl (by kernel_rfl) (by kernel_rfl) (by kernel_rfl) (by kernel_rfl) (by rfl) (fun _ _ _ h => h) (Or.inl ⟨by kernel_rfl, ?_⟩) (by assumption) ?_
          rotate_left
          · intro w hSw
            clear hSw
            go_simp
            with_reducible rfl
          try simp only [List.getElem_toArray, List.getElem_cons_succ, List.getElem_cons_zero, Act.put, List.setIfInBounds_toArray, List.set_cons_zero, List.set_cons_succ]
          refine till_take (i := 2) (oi := _) (v := ?_) rfl (by kernel_rfl) (by kernel_rfl) (by kernel_rfl) (by kernel_rfl) (by rfl) (fun _ _ _ h => h) (Or.inl ⟨by kernel_rfl, ?_⟩) (by assumption) ?_
          rotate_left
          · intro w hSw
            clear hSw
            go_simp
            with_reducible rfl
          try simp only [List.getElem_toArray, List.getElem_cons_succ, List.getElem_cons_zero, Act.put, List.setIfInBounds_toArray, List.set_cons_zero, List.set_cons_succ]
          refine till_take (i := 3) (oi := _) (v := ?_) rfl (by kernel_rfl) (by kernel_rfl) (by kernel_rfl) (by kernel_rfl) (by rfl) (fun _ _ _ h => h) (Or.inl ⟨by kernel_rfl, ?_⟩) (by assumption) ?_
          rotate_left
          · intro w hSw
            clear hSw
            go_simp
            with_reducible rfl
          try simp only [List.getElem_toArray, List.getElem_cons_succ, List.getElem_cons_zero, Act.put, List.setIfInBounds_toArray, List.set_cons_zero, List.set_cons_succ]
          refine till_take (i := 4) (oi := _) (v := ?_) rfl (by kernel_rfl) (by kernel_rfl) (by kernel_rfl) (by kernel_rfl) (by rfl) (fun _ _ _ h => h) (Or.inl ⟨by kernel_rfl, ?_⟩) (by assumption) ?_
          rotate_left
          · intro w hSw
            obtain ⟨hq0, _⟩ := hSw
            go_simp
            with_reducible rfl
          try simp only [List.getElem_toArray, List.getElem_cons_succ, List.getElem_cons_zero, Act.put, List.setIfInBounds_toArray, List.set_cons_zero, List.set_cons_succ]
          refine till_take (i := 5) (oi := _) (v := ?_) rfl (by kernel_rfl) (by kernel_rfl) (by kernel_rfl) (by kernel_rfl) (by rfl) (fun _ _ _ h => h) (Or.inl ⟨by kernel_rfl, ?_⟩) (by assumption) ?_
          rotate_left
          · intro w hSw
            clear hSw
            go_simp
            with_reducible rfl
          try simp only [List.getElem_toArray, List.getElem_cons_succ, List.getElem_cons_zero, Act.put, List.setIfInBounds_toArray, List.set_cons_zero, List.set_cons_succ]
          refine till_take (i := 6) (oi := _) (v := ?_) rfl (by kernel_rfl) (by kernel_rfl) (by kernel_rfl) (by kernel_rfl) (by rfl) (fun _ _ _ h => h) (Or.inl ⟨by kernel_rfl, ?_⟩) (by assumption) ?_
          rotate_left
          · intro w hSw
            clear hSw
            go_simp
            with_reducible rfl
          try simp only [List.getElem_toArray, List.getElem_cons_succ, List.getElem_cons_zero, Act.put, List.setIfInBounds_toArray, List.set_cons_zero, List.set_cons_succ]
          refine till_take (i := 8) (oi := _) (v := ?_) rfl (by kernel_rfl) (by kernel_rfl) (by kernel_rfl) (by kernel_rfl) (by rfl) (fun _ _ _ h => h) (Or.inl ⟨by kernel_rfl, ?_⟩) (by assumption) ?_
          rotate_left
          · intro w hSw
            obtain ⟨_, hq0, hq1, hq2⟩ := hSw
            go_simp
            with_reducible rfl
          try simp only [List.getElem_toArray, List.getElem_cons_succ, List.getElem_cons_zero, Act.put, List.setIfInBounds_toArray, List.set_cons_zero, List.set_cons_succ]
          refine till_take (i := 11) (oi := _) (v := ?_) rfl (by kernel_rfl) (by kernel_rfl) (by kernel_rfl) (by kernel_rfl) (by rfl) (fun _ _ _ h => h) (Or.inl ⟨by kernel_rfl, ?_⟩) (by assumption) ?_
          rotate_left
          · intro w hSw
            clear hSw
            go_simp
            with_reducible rfl
          try simp only [List.getElem_toArray, List.getElem_cons_succ, List.getElem_cons_zero, Act.put, List.setIfInBounds_toArray, List.set_cons_zero, List.set_cons_succ]
          refine till_take (i := 12) (oi := _) (v := ?_) rfl (by kernel_rfl) (by kernel_rfl) (by kernel_rfl) (by kernel_rfl) (by rfl) (fun _ _ _ h => h) (Or.inl ⟨by kernel_rfl, ?_⟩) (by assumption) ?_
          rotate_left
          · intro w hSw
            clear hSw
            go_simp
            with_reducible rfl
          try simp only [List.getElem_toArray, List.getElem_cons_succ, List.getElem_cons_zero, Act.put, List.setIfInBounds_toArray, List.set_cons_zero, List.set_cons_succ]
          refine till_take (i := 13) (oi := _) (v := ?_) rfl (by kernel_rfl) (by kernel_rfl) (by kernel_rfl) (by kernel_rfl) (by rfl) (fun _ _ _ h => h) (Or.inl ⟨by kernel_rfl, ?_⟩) (by assumption) ?_
          rotate_left
          · intro w hSw
            clear hSw
            go_simp
            with_reducible rfl
          try simp only [List.getElem_toArray, List.getElem_cons_succ, List.getElem_cons_zero, Act.put, List.setIfInBounds_toArray, List.set_cons_zero, List.set_cons_succ]
          refine till_take (i := 14) (oi := _) (v := ?_) rfl (by kernel_rfl) (by kernel_rfl) (by kernel_rfl) (by kernel_rfl) (by rfl) (fun _ _ _ h => h) (Or.inl ⟨by kernel_rfl, ?_⟩) (by assumption) ?_
          rotate_left
          · intro w hSw
            obtain ⟨hq0, _⟩ := hSw
            go_simp
            with_reducible rfl
          try simp only [List.getElem_toArray, List.getElem_cons_succ, List.getElem_cons_zero, Act.put, List.setIfInBounds_toArray, List.set_cons_zero, List.set_cons_succ]
          refine till_take (i := 15) (oi := _) (v := ?_) rfl (by kernel_rfl) (by kernel_rfl) (by kernel_rfl) (by kernel_rfl) (by rfl) (fun _ _ _ h => h) (Or.inl ⟨by kernel_rfl, ?_⟩) (by assumption) ?_
          rotate_left
          · intro w hSw
            clear hSw
            go_simp
            with_reducible rfl
          try simp only [List.getElem_toArray, List.getElem_cons_succ, List.getElem_cons_zero, Act.put, List.setIfInBounds_toArray, List.set_cons_zero, List.set_cons_succ]
          refine till_take (i := 16) (oi := _) (v := ?_) rfl (by kernel_rfl) (by kernel_rfl) (by kernel_rfl) (by kernel_rfl) (by rfl) (fun _ _ _ h => h) (Or.inl ⟨by kernel_rfl, ?_⟩) (by assumption) ?_
          rotate_left
          · intro w hSw
            clear hSw
            go_simp
            with_reducible rfl
          try simp only [List.getElem_toArray, List.getElem_cons_succ, List.getElem_cons_zero, Act.put, List.setIfInBounds_toArray, List.set_cons_zero, List.set_cons_succ]
          refine till_ready (rs := [7, 9]) (by kernel_rfl) (by simp) ?_
          refine TillAll.cons (o := _) rfl (by rfl) (fun K hK => ?_) ?_
          · refine step_append rfl _ _ 38 38 rfl (.slice none 0 0) (.slice A1 (x.l.take i).length C1) (by simp [Act.eval, Act.put]) (by simp [Act.eval, Act.put]) RA7.out ?_
            refine hK.out _ _ G7A.out (fun h7 => ?_)
            clear hK K
            try simp only [List.getElem_toArray, List.getElem_cons_succ, List.getElem_cons_zero, Act.put, List.setIfInBounds_toArray, List.set_cons_zero, List.set_cons_succ]
            refine till_ready (rs := [9]) (by kernel_rfl) (by simp) ?_
            refine TillAll.cons (o := _) rfl (by rfl) (fun K hK => ?_) TillAll.nil
            go_simp
            refine hK.out _ _ G8A.out (fun h8 => ?_)
            clear hK K
            try simp only [List.getElem_toArray, List.getElem_cons_succ, List.getElem_cons_zero, Act.put, List.setIfInBounds_toArray, List.set_cons_zero, List.set_cons_succ]
            refine till_ready (rs := [10]) (by kernel_rfl) (by simp) ?_
            refine TillAll.cons (o := _) rfl (by rfl) (fun K hK => ?_) TillAll.nil
            refine step_append rfl _ _ 38 38 rfl (v7A) (.slice (some ⟨w7A.heap.size, 0, none⟩) 1 1) (by simp [Act.eval, Act.put]) (by simp [Act.eval, Act.put]) RA10.out ?_
            refine hK.out _ _ G10A.out (fun h10 => ?_)
            clear hK K
            try simp only [List.getElem_toArray, List.getElem_cons_succ, List.getElem_cons_zero, Act.put, List.setIfInBounds_toArray, List.set_cons_zero, List.set_cons_succ]
            refine till_ready (rs := [17]) (by kernel_rfl) (by simp) ?_
            refine TillAll.cons (o := _) rfl (by rfl) (fun K hK => ?_) TillAll.nil
            refine step_append rfl _ _ 38 38 rfl (v10A) (.slice A2 (x.l.drop i).length C2) (by simp [Act.eval, Act.put]) (by simp [Act.eval, Act.put]) RA17.out ?_
            refine hK.out _ _ G17A.out (fun h17 => ?_)
            clear hK K
            try simp only [List.getElem_toArray, List.getElem_cons_succ, List.getElem_cons_zero, Act.put, List.setIfInBounds_toArray, List.set_cons_zero, List.set_cons_succ]
            refine till_ready (rs := [18]) (by kernel_rfl) (by simp) ?_
            refine TillAll.cons (o := _) rfl (by rfl) (fun K hK => ?_) TillAll.nil
            go_simp
            refine hK.out _ _ h17 (fun _ => ?_)
            clear hK K
            try simp only [List.getElem_toArray, List.getElem_cons_succ, List.getElem_cons_zero, Act.put, List.setIfInBounds_toArray, List.set_cons_zero, List.set_cons_succ]
            refine till_take (i := 19) (oi := _) (v := ?_) rfl (by kernel_rfl) (by kernel_rfl) (by kernel_rfl) (by kernel_rfl) (by rfl) (fun _ _ _ h => h) (Or.inl ⟨by kernel_rfl, ?_⟩) (by assumption) ?_
            rotate_left
            · intro w hSw
              clear hSw
              go_simp
              with_reducible rfl
            try simp only [List.getElem_toArray, List.getElem_cons_succ, List.getElem_cons_zero, Act.put, List.setIfInBounds_toArray, List.set_cons_zero, List.set_cons_succ]
            refine till_last (by kernel_rfl) (by kernel_rfl) rfl (fun K hK => ?_)
            go_simp
            refine hK.out _ _ ?_
            clear hK K
            go_wp2
            go_ret
            rw [HV.out.1, HV.out.2]
            exact ⟨rfl, _, ⟨_, _, FA.out.1⟩, FA.out.2.1, FA.out.2.2⟩
          refine TillAll.cons (o := _) rfl (by rfl) (fun K hK => ?_) TillAll.nil
          go_simp
          refine hK.out _ _ G8B.out (fun h8 => ?_)
          clear hK K
          try simp only [List.getElem_toArray, List.getElem_cons_succ, List.getElem_cons_zero, Act.put, List.setIfInBounds_toArray, List.set_cons_zero, List.set_cons_succ]
          refine till_ready (rs := [7]) (by kernel_rfl) (by simp) ?_
          refine TillAll.cons (o := _) rfl (by rfl) (fun K hK => ?_) TillAll.nil
          refine step_append rfl _ _ 38 38 rfl (.slice none 0 0) (.slice A1 (x.l.take i).length C1) (by simp [Act.eval, Act.put]) (by simp [Act.eval, Act.put]) RB7.out ?_
          refine hK.out _ _ G7B.out (fun h7 => ?_)
          clear hK K
          try simp only [List.getElem_toArray, List.getElem_cons_succ, List.getElem_cons_zero, Act.put, List.setIfInBounds_toArray, List.set_cons_zero, List.set_cons_succ]
          refine till_ready (rs := [10]) (by kernel_rfl) (by simp) ?_
          refine TillAll.cons (o := _) rfl (by rfl) (fun K hK => ?_) TillAll.nil
          refine step_append rfl _ _ 38 38 rfl (v7B) (.slice (some ⟨wd.heap.size, 0, none⟩) 1 1) (by simp [Act.eval, Act.put]) (by simp [Act.eval, Act.put]) RB10.out ?_
          refine hK.out _ _ G10B.out (fun h10 => ?_)
          clear hK K
          try simp only [List.getElem_toArray, List.getElem_cons_succ, List.getElem_cons_zero, Act.put, List.setIfInBounds_toArray, List.set_cons_zero, List.set_cons_succ]
          refine till_ready (rs := [17]) (by kernel_rfl) (by simp) ?_
          refine TillAll.cons (o := _) rfl (by rfl) (fun K hK => ?_) TillAll.nil
          refine step_append rfl _ _ 38 38 rfl (v10B) (.slice A2 (x.l.drop i).length C2) (by simp [Act.eval, Act.put]) (by simp [Act.eval, Act.put]) RB17.out ?_
          refine hK.out _ _ G17B.out (fun h17 => ?_)
          clear hK K
          try simp only [List.getElem_toArray, List.getElem_cons_succ, List.getElem_cons_zero, Act.put, List.setIfInBounds_toArray, List.set_cons_zero, List.set_cons_succ]
          refine till_ready (rs := [18]) (by kernel_rfl) (by simp) ?_
          refine TillAll.cons (o := _) rfl (by rfl) (fun K hK => ?_) TillAll.nil
          go_simp
          refine hK.out _ _ h17 (fun _ => ?_)
          clear hK K
          try simp only [List.getElem_toArray, List.getElem_cons_succ, List.getElem_cons_zero, Act.put, List.setIfInBounds_toArray, List.set_cons_zero, List.set_cons_succ]
          refine till_take (i := 19) (oi := _) (v := ?_) rfl (by kernel_rfl) (by kernel_rfl) (by kernel_rfl) (by kernel_rfl) (by rfl) (fun _ _ _ h => h) (Or.inl ⟨by kernel_rfl, ?_⟩) (by assumption) ?_
          rotate_left
          · intro w hSw
            clear hSw
            go_simp
            with_reducible rfl
          try simp only [List.getElem_toArray, List.getElem_cons_succ, List.getElem_cons_zero, Act.put, List.setIfInBounds_toArray, List.set_cons_zero, List.set_cons_succ]
          refine till_last (by kernel_rfl) (by kernel_rfl) rfl (fun K hK => ?_)
          go_simp
          refine hK.out _ _ ?_
          clear hK K
          go_wp2
          go_ret
          rw [HV.out.1, HV.out.2]
          exact ⟨rfl, _, ⟨_, _, FB.out.1⟩, FB.out.2.1, FB.out.2.2⟩
      · obtain rfl : i = x.l.length := Nat.le_antisymm hi (Nat.le_of_not_lt hlt)
        have t1 : decide ((x.l.length : Int) < (x.l.length : Int)) = false := by simp
        clear hlt hi H2 LT
        go_upto_region 6 with fail
        refine region_later (B := wr.heap.size) (by kernel_rfl) (by kernel_rfl) ?_
        repeat (go_big_quiet_step (fail))
        refine later_end fun w9 x9 => ?_
        have GO := FIN.out w9 x9 (.inl rfl)
        clear C0 D0 D1 D2 x9 bb FIN
        go_upto_region 8 with fail
        have HIN : Wh.ins x.l t = x.l.take x.l.length ++ t :: x.l.drop x.l.length := by unfold Wh.ins; rw [GO.out.2.2.1, GO.out.2.2.2]
        have H9 := HH.out.on GO.out.2.1
        have B9 := B3.trans (GO.out.2.1.mono B3.size)
        have x0 := (GO.out.2.1.cell (p := ⟨y, 0, none⟩) HZ.out).trans HD.out.1
        have x1 := (GO.out.2.1.cell (p := ⟨y, 1, none⟩) HZ.out).trans HD.out.2.1
        have x2 := (GO.out.2.1.cell (p := ⟨y, 2, none⟩) HZ.out).trans HD.out.2.2
        refine region_till 20 (fun w' => w'.cell? ⟨p, 1, none⟩ = some (.slice a x.l.length c) ∧ w'.cell? ⟨y, 0, none⟩ = some (.int .i64 s) ∧ w'.cell? ⟨y, 1, none⟩ = some (.int .u32 g) ∧ w'.cell? ⟨y, 2, none⟩ = some (.int .i64 (n : Int))) (by kernel_rfl) ?_ (fun hHeld => ?_)
        · exact ⟨H9.c1, x0, x1, x2⟩
        have HD9 := H9.on (Below.refl w9.heap.size w9).drew
        have BD9 := B9.drew
        have LTy : y < w9.drew.heap.size := Nat.lt_of_lt_of_le HZ.out GO.out.2.1.size
        obtain ⟨wd, hwd⟩ : ∃ x_ : World, x_ = w9.drew := ⟨_, rfl⟩
        rw [← hwd] at HD9 BD9 LTy hHeld ⊢
        clear hwd H9 B9 x0 x1 x2
        obtain ⟨A1, C1, s1, S1⟩ := HD9.sl.low GO.out.1
        obtain ⟨A2, C2, s2, S2, _⟩ := HD9.sl.high GO.out.1
        have hlen : (x.l.take x.l.length).length + (x.l.drop x.l.length).length = x.l.length := by rw [← List.length_append, List.take_append_drop]
        obtain ⟨q1, q2⟩ := (few15 (k := 0) HL.out).2
        have T3 := eltT.three_rows 38 38 38 t 71 #[.int .i64 s, .int .u32 g, .int .i64 (n : Int)] (by rw [ht]; rfl) S1 S2 (by rw [hlen]; exact q1) (by rw [hlen]; exact q2)
        rw [← HIN] at T3
        have HS := Lib.hid (And.intro s1 s2)
        clear S1 S2 hlen q1 q2 ht HIN
        obtain ⟨⟨v7A, w7A, v10A, w10A, a17A, c17A, w17A, r7A, r10A, r17A, SA, nA, b7A, b8A, b10A, b17A⟩, v7B, w7B, v10B, w10B, a17B, c17B, w17B, r7B, r10B, r17B, SB, nB, b8B, b7B, b10B, b17B⟩ := T3
        have HG : ∀ {w' : World}, Below wd.heap.size wd w' → Hid (w'.cell? ⟨p, 1, none⟩ = some (.slice a x.l.length c) ∧ w'.cell? ⟨y, 0, none⟩ = some (.int .i64 s) ∧ w'.cell? ⟨y, 1, none⟩ = some (.int .u32 g) ∧ w'.cell? ⟨y, 2, none⟩ = some (.int .i64 (n : Int))) := fun bx => ⟨(bx.cell (p := ⟨p, 1, none⟩) (HD9.lt p HD9.inp)).trans hHeld.1, (bx.cell (p := ⟨y, 0, none⟩) LTy).trans hHeld.2.1, (bx.cell (p := ⟨y, 1, none⟩) LTy).trans hHeld.2.2.1, (bx.cell (p := ⟨y, 2, none⟩) LTy).trans hHeld.2.2.2⟩
        have G7A := HG b7A
        have G8A := HG b8A
        have G10A := HG b10A
        have G17A := HG b17A
        have G7B := HG b7B
        have G8B := HG b8B
        have G10B := HG b10B
        have G17B := HG b17B
        have FA := Lib.hid (HR.out.elim fun a0 ⟨c0, h0⟩ => h0.relist (BD9.trans (b17A.mono BD9.size)) SA (fun b off e => ⟨(nA b off e).2, .inl (Nat.le_trans BD9.size (nA b off e).1)⟩) OK.out)
        have FB := Lib.hid (HR.out.elim fun a0 ⟨c0, h0⟩ => h0.relist (BD9.trans (b17B.mono BD9.size)) SB (fun b off e => ⟨(nB b off e).2, .inl (Nat.le_trans BD9.size (nB b off e).1)⟩) OK.out)
        have fA : w17A.frozen? ⟨p, 1, none⟩ = false := (HD9.on b17A).f 1
        have fB : w17B.frozen? ⟨p, 1, none⟩ = false := (HD9.on b17B).f 1
        have RA7 := Lib.hid r7A
        have RA10 := Lib.hid r10A
        have RA17 := Lib.hid r17A
        have RB7 := Lib.hid r7B
        have RB10 := Lib.hid r10B
        have RB17 := Lib.hid r17B
        have cA := G17A.out.1
        have cB := G17B.out.1
        have i0 : (0 : Int) ≤ (x.l.length : Int) := Int.natCast_nonneg _
        clear HG r7A r10A r17A SA nA b7A b8A b10A b17A r7B r10B r17B SB nB b8B b7B b10B b17B HD9 BD9 LTy
        have sl1 : ∀ u, (Instr.slice 38 (.slice a x.l.length c) none (some (.int .i64 (x.l.length : Int))) none).run Try.prog u = .ok (.slice A1 (x.l.take x.l.length).length C1) u := HS.out.1
        have sl2 : ∀ u, (Instr.slice 38 (.slice a x.l.length c) (some (.int .i64 (x.l.length : Int))) none none).run Try.prog u = .ok (.slice A2 (x.l.drop x.l.length).length C2) u := HS.out.2
        refine till_take (i := 0) (oi := _) (v := ?_) rfl (by kernel_rfl) (by kernel_rfl) (by kernel_rfl) (by kernel_rfl) (by rfl) (fun _ _ _ h => h) (Or.inl ⟨by kernel_rfl, ?_⟩) (by assumption) ?_
        rotate_left
        · intro w hSw
          clear hSw
          go_simp
          with_reducible rfl
        try simp only [List.getElem_toArray, List.getElem_cons_succ, List.getElem_cons_zero, Act.put, List.setIfInBounds_toArray, List.set_cons_zero, List.set_cons_succ]
        refine till_take (i := 1) (oi := _) (v := ?_) rfl (by kernel_rfl) (by kernel_rfl) (by kernel_rfl) (by kernel_rfl) (by rfl) (fun _ _ _ h => h) (Or.inl ⟨by kernel_rfl, ?_⟩) (by assumption) ?_
        rotate_left
        · intro w hSw
          clear hSw
          go_simp
          with_reducible rfl
        try simp only [List.getElem_toArray, List.getElem_cons_succ, List.getElem_cons_zero, Act.put, List.setIfInBounds_toArray, List.set_cons_zero, List.set_cons_succ]
        refine till_take (i := 2) (oi := _) (v := ?_) rfl (by kernel_rfl) (by kernel_rfl) (by kernel_rfl) (by kernel_rfl) (by rfl) (fun _ _ _ h => h) (Or.inl ⟨by kernel_rfl, ?_⟩) (by assumption) ?_
        rotate_left
        · intro w hSw
          clear hSw
          go_simp
          with_reducible rfl
        try simp only [List.getElem_toArray, List.getElem_cons_succ, List.getElem_cons_zero, Act.put, List.setIfInBounds_toArray, List.set_cons_zero, List.set_cons_succ]
        refine till_take (i := 3) (oi := _) (v := ?_) rfl (by kernel_rfl) (by kernel_rfl) (by kernel_rfl) (by kernel_rfl) (by rfl) (fun _ _ _ h => h) (Or.inl ⟨by kernel_rfl, ?_⟩) (by assumption) ?_
        rotate_left
        · intro w hSw
          clear hSw
          go_simp
          with_reducible rfl
        try simp only [List.getElem_toArray, List.getElem_cons_succ, List.getElem_cons_zero, Act.put, List.setIfInBounds_toArray, List.set_cons_zero, List.set_cons_succ]
        refine till_take (i := 4) (oi := _) (v := ?_) rfl (by kernel_rfl) (by kernel_rfl) (by kernel_rfl) (by kernel_rfl) (by rfl) (fun _ _ _ h => h) (Or.inl ⟨by kernel_rfl, ?_⟩) (by assumption) ?_
        rotate_left
        · intro w hSw
          obtain ⟨hq0, _⟩ := hSw
          go_simp
          with_reducible rfl
        try simp only [List.getElem_toArray, List.getElem_cons_succ, List.getElem_cons_zero, Act.put, List.setIfInBounds_toArray, List.set_cons_zero, List.set_cons_succ]
        refine till_take (i := 5) (oi := _) (v := ?_) rfl (by kernel_rfl) (by kernel_rfl) (by kernel_rfl) (by kernel_rfl) (by rfl) (fun _ _ _ h => h) (Or.inl ⟨by kernel_rfl, ?_⟩) (by assumption) ?_
        rotate_left
        · intro w hSw
          clear hSw
          go_simp
          with_reducible rfl
        try simp only [List.getElem_toArray, List.getElem_cons_succ, List.getElem_cons_zero, Act.put, List.setIfInBounds_toArray, List.set_cons_zero, List.set_cons_succ]
        refine till_take (i := 6) (oi := _) (v := ?_) rfl (by kernel_rfl) (by kernel_rfl) (by kernel_rfl) (by kernel_rfl) (by rfl) (fun _ _ _ h => h) (Or.inl ⟨by kernel_rfl, ?_⟩) (by assumption) ?_
        rotate_left
        · intro w hSw
          clear hSw
          go_simp
          with_reducible rfl
        try simp only [List.getElem_toArray, List.getElem_cons_succ, List.getElem_cons_zero, Act.put, List.setIfInBounds_toArray, List.set_cons_zero, List.set_cons_succ]
        refine till_take (i := 8) (oi := _) (v := ?_) rfl (by kernel_rfl) (by kernel_rfl) (by kernel_rfl) (by kernel_rfl) (by rfl) (fun _ _ _ h => h) (Or.inl ⟨by kernel_rfl, ?_⟩) (by assumption) ?_
        rotate_left
        · intro w hSw
          obtain ⟨_, hq0, hq1, hq2⟩ := hSw
          go_simp
          with_reducible rfl
        try simp only [List.getElem_toArray, List.getElem_cons_succ, List.getElem_cons_zero, Act.put, List.setIfInBounds_toArray, List.set_cons_zero, List.set_cons_succ]
        refine till_take (i := 11) (oi := _) (v := ?_) rfl (by kernel_rfl) (by kernel_rfl) (by kernel_rfl) (by kernel_rfl) (by rfl) (fun _ _ _ h => h) (Or.inl ⟨by kernel_rfl, ?_⟩) (by assumption) ?_
        rotate_left
        · intro w hSw
          clear hSw
          go_simp
          with_reducible rfl
        try simp only [List.getElem_toArray, List.getElem_cons_succ, List.getElem_cons_zero, Act.put, List.setIfInBounds_toArray, List.set_cons_zero, List.set_cons_succ]
        refine till_take (i := 12) (oi := _) (v := ?_) rfl (by kernel_rfl) (by kernel_rfl) (by kernel_rfl) (by kernel_rfl) (by rfl) (fun _ _ _ h => h) (Or.inl ⟨by kernel_rfl, ?_⟩) (by assumption) ?_
        rotate_left
        · intro w hSw
          clear hSw
          go_simp
          with_reducible rfl
        try simp only [List.getElem_toArray, List.getElem_cons_succ, List.getElem_cons_zero, Act.put, List.setIfInBounds_toArray, List.set_cons_zero, List.set_cons_succ]
        refine till_take (i := 13) (oi := _) (v := ?_) rfl (by kernel_rfl) (by kernel_rfl) (by kernel_rfl) (by kernel_rfl) (by rfl) (fun _ _ _ h => h) (Or.inl ⟨by kernel_rfl, ?_⟩) (by assumption) ?_
        rotate_left
        · intro w hSw
          clear hSw
          go_simp
          with_reducible rfl
        try simp only [List.getElem_toArray, List.getElem_cons_succ, List.getElem_cons_zero, Act.put, List.setIfInBounds_toArray, List.set_cons_zero, List.set_cons_succ]
        refine till_take (i := 14) (oi := _) (v := ?_) rfl (by kernel_rfl) (by kernel_rfl) (by kernel_rfl) (by kernel_rfl) (by rfl) (fun _ _ _ h => h) (Or.inl ⟨by kernel_rfl, ?_⟩) (by assumption) ?_
        rotate_left
        · intro w hSw
          obtain ⟨hq0, _⟩ := hSw
          go_simp
          with_reducible rfl
        try simp only [List.getElem_toArray, List.getElem_cons_succ, List.getElem_cons_zero, Act.put, List.setIfInBounds_toArray, List.set_cons_zero, List.set_cons_succ]
        refine till_take (i := 15) (oi := _) (v := ?_) rfl (by kernel_rfl) (by kernel_rfl) (by kernel_rfl) (by kernel_rfl) (by rfl) (fun _ _ _ h => h) (Or.inl ⟨by kernel_rfl, ?_⟩) (by assumption) ?_
        rotate_left
        · intro w hSw
          clear hSw
          go_simp
          with_reducible rfl
        try simp only [List.getElem_toArray, List.getElem_cons_succ, List.getElem_cons_zero, Act.put, List.setIfInBounds_toArray, List.set_cons_zero, List.set_cons_succ]
        refine till_take (i := 16) (oi := _) (v := ?_) rfl (by kernel_rfl) (by kernel_rfl) (by kernel_rfl) (by kernel_rfl) (by rfl) (fun _ _ _ h => h) (Or.inl ⟨by kernel_rfl, ?_⟩) (by assumption) ?_
        rotate_left
        · intro w hSw
          clear hSw
          go_simp
          with_reducible rfl
        try simp only [List.getElem_toArray, List.getElem_cons_succ, List.getElem_cons_zero, Act.put, List.setIfInBounds_toArray, List.set_cons_zero, List.set_cons_succ]
        refine till_ready (rs := [7, 9]) (by kernel_rfl) (by simp) ?_
        refine TillAll.cons (o := _) rfl (by rfl) (fun K hK => ?_) ?_
        · refine step_append rfl _ _ 38 38 rfl (.slice none 0 0) (.slice A1 (x.l.take x.l.length).length C1) (by simp [Act.eval, Act.put]) (by simp [Act.eval, Act.put]) RA7.out ?_
          refine hK.out _ _ G7A.out (fun h7 => ?_)
          clear hK K
          try simp only [List.getElem_toArray, List.getElem_cons_succ, List.getElem_cons_zero, Act.put, List.setIfInBounds_toArray, List.set_cons_zero, List.set_cons_succ]
          refine till_ready (rs := [9]) (by kernel_rfl) (by simp) ?_
          refine TillAll.cons (o := _) rfl (by rfl) (fun K hK => ?_) TillAll.nil
          go_simp
          refine hK.out _ _ G8A.out (fun h8 => ?_)
          clear hK K
          try simp only [List.getElem_toArray, List.getElem_cons_succ, List.getElem_cons_zero, Act.put, List.setIfInBounds_toArray, List.set_cons_zero, List.set_cons_succ]
          refine till_ready (rs := [10]) (by kernel_rfl) (by simp) ?_
          refine TillAll.cons (o := _) rfl (by rfl) (fun K hK => ?_) TillAll.nil
          refine step_append rfl _ _ 38 38 rfl (v7A) (.slice (some ⟨w7A.heap.size, 0, none⟩) 1 1) (by simp [Act.eval, Act.put]) (by simp [Act.eval, Act.put]) RA10.out ?_
          refine hK.out _ _ G10A.out (fun h10 => ?_)
          clear hK K
          try simp only [List.getElem_toArray, List.getElem_cons_succ, List.getElem_cons_zero, Act.put, List.setIfInBounds_toArray, List.set_cons_zero, List.set_cons_succ]
          refine till_ready (rs := [17]) (by kernel_rfl) (by simp) ?_
          refine TillAll.cons (o := _) rfl (by rfl) (fun K hK => ?_) TillAll.nil
          refine step_append rfl _ _ 38 38 rfl (v10A) (.slice A2 (x.l.drop x.l.length).length C2) (by simp [Act.eval, Act.put]) (by simp [Act.eval, Act.put]) RA17.out ?_
          refine hK.out _ _ G17A.out (fun h17 => ?_)
          clear hK K
          try simp only [List.getElem_toArray, List.getElem_cons_succ, List.getElem_cons_zero, Act.put, List.setIfInBounds_toArray, List.set_cons_zero, List.set_cons_succ]
          refine till_ready (rs := [18]) (by kernel_rfl) (by simp) ?_
          refine TillAll.cons (o := _) rfl (by rfl) (fun K hK => ?_) TillAll.nil
          go_simp
          refine hK.out _ _ h17 (fun _ => ?_)
          clear hK K
          try simp only [List.getElem_toArray, List.getElem_cons_succ, List.getElem_cons_zero, Act.put, List.setIfInBounds_toArray, List.set_cons_zero, List.set_cons_succ]
          refine till_take (i := 19) (oi := _) (v := ?_) rfl (by kernel_rfl) (by kernel_rfl) (by kernel_rfl) (by kernel_rfl) (by rfl) (fun _ _ _ h => h) (Or.inl ⟨by kernel_rfl, ?_⟩) (by assumption) ?_
          rotate_left
          · intro w hSw
            clear hSw
            go_simp
            with_reducible rfl
          try simp only [List.getElem_toArray, List.getElem_cons_succ, List.getElem_cons_zero, Act.put, List.setIfInBounds_toArray, List.set_cons_zero, List.set_cons_succ]
          refine till_last (by kernel_rfl) (by kernel_rfl) rfl (fun K hK => ?_)
          go_simp
          refine hK.out _ _ ?_
          clear hK K
          go_wp2
          go_ret
          rw [HV.out.1, HV.out.2]
          exact ⟨rfl, _, ⟨_, _, FA.out.1⟩, FA.out.2.1, FA.out.2.2⟩
        refine TillAll.cons (o := _) rfl (by rfl) (fun K hK => ?_) TillAll.nil
        go_simp
        refine hK.out _ _ G8B.out (fun h8 => ?_)
        clear hK K
        try simp only [List.getElem_toArray, List.getElem_cons_succ, List.getElem_cons_zero, Act.put, List.setIfInBounds_toArray, List.set_cons_zero, List.set_cons_succ]
        refine till_ready (rs := [7]) (by kernel_rfl) (by simp) ?_
        refine TillAll.cons (o := _) rfl (by rfl) (fun K hK => ?_) TillAll.nil
        refine step_append rfl _ _ 38 38 rfl (.slice none 0 0) (.slice A1 (x.l.take x.l.length).length C1) (by simp [Act.eval, Act.put]) (by simp [Act.eval, Act.put]) RB7.out ?_
        refine hK.out _ _ G7B.out (fun h7 => ?_)
        clear hK K
        try simp only [List.getElem_toArray, List.getElem_cons_succ, List.getElem_cons_zero, Act.put, List.setIfInBounds_toArray, List.set_cons_zero, List.set_cons_succ]
        refine till_ready (rs := [10]) (by kernel_rfl) (by simp) ?_
        refine TillAll.cons (o := _) rfl (by rfl) (fun K hK => ?_) TillAll.nil
        refine step_append rfl _ _ 38 38 rfl (v7B) (.slice (some ⟨wd.heap.size, 0, none⟩) 1 1) (by simp [Act.eval, Act.put]) (by simp [Act.eval, Act.put]) RB10.out ?_
        refine hK.out _ _ G10B.out (fun h10 => ?_)
        clear hK K
        try simp only [List.getElem_toArray, List.getElem_cons_succ, List.getElem_cons_zero, Act.put, List.setIfInBounds_toArray, List.set_cons_zero, List.set_cons_succ]
        refine till_ready (rs := [17]) (by kernel_rfl) (by simp) ?_
        refine TillAll.cons (o := _) rfl (by rfl) (fun K hK => ?_) TillAll.nil
        refine step_append rfl _ _ 38 38 rfl (v10B) (.slice A2 (x.l.drop x.l.length).length C2) (by simp [Act.eval, Act.put]) (by simp [Act.eval, Act.put]) RB17.out ?_
        refine hK.out _ _ G17B.out (fun h17 => ?_)
        clear hK K
        try simp only [List.getElem_toArray, List.getElem_cons_succ, List.getElem_cons_zero, Act.put, List.setIfInBounds_toArray, List.set_cons_zero, List.set_cons_succ]
        refine till_ready (rs := [18]) (by kernel_rfl) (by simp) ?_
        refine TillAll.cons (o := _) rfl (by rfl) (fun K hK => ?_) TillAll.nil
        go_simp
        refine hK.out _ _ h17 (fun _ => ?_)
        clear hK K
        try simp only [List.getElem_toArray, List.getElem_cons_succ, List.getElem_cons_zero, Act.put, List.setIfInBounds_toArray, List.set_cons_zero, List.set_cons_succ]
        refine till_take (i := 19) (oi := _) (v := ?_) rfl (by kernel_rfl) (by kernel_rfl) (by kernel_rfl) (by kernel_rfl) (by rfl) (fun _ _ _ h => h) (Or.inl ⟨by kernel_rfl, ?_⟩) (by assumption) ?_
        rotate_left
        · intro w hSw
          clear hSw
          go_simp
          with_reducible rfl
        try simp only [List.getElem_toArray, List.getElem_cons_succ, List.getElem_cons_zero, Act.put, List.setIfInBounds_toArray, List.set_cons_zero, List.set_cons_succ]
        refine till_last (by kernel_rfl) (by kernel_rfl) rfl (fun K hK => ?_)
        go_simp
        refine hK.out _ _ ?_
        clear hK K
        go_wp2
        go_ret
        rw [HV.out.1, HV.out.2]
        exact ⟨rfl, _, ⟨_, _, FB.out.1⟩, FB.out.2.1, FB.out.2.2⟩
end Go.Proofs.Ytmephmjlajaopaa

namespace Go.Proofs.Ytmephmjlajaopaa
set_option linter.unusedVariables false
set_option linter.unusedSimpArgs false
open Go.ChangeShapes Go.WideShapes Go.ChangeAt Go.RowKit Go.PlainAid
attribute [local go_sem ↓] Go.wp_at_zero Go.wp_at_succ
theorem cut_no {x : Wh} {s g : Int} (h : x.has s g = false) : x.cutT s g = x := by
  unfold Wh.cutT
  rw [List.filter_eq_self.2 (fun t ht => by simpa using List.any_eq_false.1 h t ht)]
theorem cut_at {l : List Ti} {s g : Int} {i : Nat} (hi : i < l.length) (h1 : (l.getD i Ti.zero).is s g = true) (hn : l.Pairwise fun a b => ¬ (a.s = b.s ∧ a.g = b.g)) : l.filter (fun t => !t.is s g) = l.take i ++ l.drop (i + 1) := by
  induction l generalizing i with
  | nil => exact absurd hi (Nat.not_lt_zero _)
  | cons a l ih =>
    obtain ⟨n1, n2⟩ := List.pairwise_cons.1 hn
    cases i with
    | zero =>
      have e : a.is s g = true := h1
      have q := (a.is_iff s g).1 e
      rw [List.filter_cons, e]
      show l.filter _ = l
      refine List.filter_eq_self.2 fun u hu => ?_
      cases hq : u.is s g with
      | false => rfl
      | true => have q2 := (u.is_iff s g).1 hq; exact absurd ⟨q.1.trans q2.1.symm, q.2.trans q2.2.symm⟩ (n1 u hu)
    | succ i =>
      have hi2 : i < l.length := by simpa using hi
      have h2 : (l.getD i Ti.zero).is s g = true := h1
      have e : a.is s g = false := by
        cases hq : a.is s g with
        | false => rfl
        | true =>
          have q := (a.is_iff s g).1 hq
          have q2 := (Ti.is_iff _ s g).1 h2
          refine absurd ⟨q.1.trans q2.1.symm, q.2.trans q2.2.symm⟩ (n1 _ ?_)
          rw [List.getD_eq_getElem?_getD, List.getElem?_eq_getElem hi2]
          exact List.getElem_mem hi2
      rw [List.filter_cons, e]
      exact congrArg (a :: ·) (ih hi2 h2 n2)
set_option maxHeartbeats 4000000 in
set_option maxRecDepth 100000 in
theorem rcut15_ (S p x) (s g : Int) (w : World) (H : WhR w S p x) (hl : x.l.length ≤ 1000) : Told Try.prog whR 13 #[.pointer (some ⟨p, 0, none⟩), .agg #[.int .i64 s, .int .u32 g]] w S p (.bool (x.has s g)) (x.cutT s g) := by
  have HR := Lib.hid H
  have B1 : Below w.heap.size w (w.alloc (.cells #[.int .i64 s, .int .u32 g] 34)) := (Below.refl _ _).alloc (Nat.le_refl _) _
  have R1 := whR.on H B1
  have cf : Says _ _ _ (w.alloc (.cells #[.int .i64 s, .int .u32 g] 34)) _ := rfind15_ S p x s g _ R1 hl
  have b0 : (w.alloc (.cells #[.int .i64 s, .int .u32 g] 34)).cell? ⟨w.heap.size, 0, none⟩ = some (.int .i64 s) := by simp [go_sem]
  have b1 : (w.alloc (.cells #[.int .i64 s, .int .u32 g] 34)).cell? ⟨w.heap.size, 1, none⟩ = some (.int .u32 g) := by simp [go_sem]
  have HL := Lib.hid hl
  clear H hl
  show Calls _ _ _ _ _
  cases hh : x.has s g with
  | false =>
    rw [cut_no hh]
    have ei : firstAt x.l (fun t => t.is s g) = -1 := by unfold firstAt; rw [if_neg (by rw [show x.l.any (fun t => t.is s g) = false from hh]; decide)]
    rw [ei] at cf
    clear ei hh
    go_enter Try.func13, Try.ntmps13
    go_upto_region 1 with fail
    obtain ⟨u, hu⟩ : ∃ x_ : World, x_ = w.alloc (.cells #[.int .i64 s, .int .u32 g] 34) := ⟨_, rfl⟩
    rw [← hu] at B1 R1 b0 b1 cf ⊢
    clear hu
    go_wp2_with fail
    refine cf.mono ?_; rintro e w2 ⟨rfl, b2⟩
    clear b0 b1 cf
    go_wp2
    go_ret
    exact ⟨rfl, S, whR.on R1 b2, Fresh.refl _ _, Beside.of (B1.trans (b2.mono B1.size))⟩
  | true =>
    obtain ⟨i, ei, hi, e3, _⟩ := firstAt_at Ti.zero (show x.l.any (fun t => t.is s g) = true from hh)
    rw [ei] at cf
    have OK : Hid (({ x with l := x.l.take i ++ x.l.drop (i + 1) } : Wh).Ok ∧ x.cutT s g = { x with l := x.l.take i ++ x.l.drop (i + 1) }) := by
      obtain ⟨_, _, h⟩ := HR.out
      have e := cut_at hi e3 h.ok.nd
      have h2 := h.ok.cut s g
      unfold Wh.cutT at h2 ⊢
      rw [e] at h2 ⊢
      exact ⟨h2, rfl⟩
    have q1 : decide ((i : Int) < 0) = false := by simp
    have q2 : wrap64 ((i : Int) + 1) = ((i + 1 : Nat) : Int) := step_15 (Nat.lt_of_lt_of_le hi (Nat.le_trans HL.out (by decide)))
    have q3 : IntKind.i64.wrap ((i : Int) + 1) = ((i + 1 : Nat) : Int) := by rw [IntWalk.i64_in _ (by have := HL.out; omega)]; omega
    have Q := Lib.hid (And.intro q2 q3)
    have HI := Lib.hid hi
    clear ei hh e3 q2 q3 hi
    go_enter Try.func13, Try.ntmps13
    go_upto_region 1 with fail
    obtain ⟨u, hu⟩ : ∃ x_ : World, x_ = w.alloc (.cells #[.int .i64 s, .int .u32 g] 34) := ⟨_, rfl⟩
    rw [← hu] at B1 R1 b0 b1 cf ⊢
    clear hu
    go_wp2_with fail
    refine cf.mono ?_; rintro e w2 ⟨rfl, b2⟩
    clear b0 b1 cf R1
    have B2 := B1.trans (b2.mono B1.size)
    go_upto_region 4 with fail
    obtain ⟨a, c, H9⟩ := whR.on HR.out B2
    refine region_till 18 (fun w' => w'.cell? ⟨p, 1, none⟩ = some (.slice a x.l.length c)) (by kernel_rfl) ?_ (fun hHeld => ?_)
    · exact H9.c1
    have HD9 := H9.on (Below.refl w2.heap.size w2).drew
    have BD9 := B2.drew
    obtain ⟨wd, hwd⟩ : ∃ x_ : World, x_ = w2.drew := ⟨_, rfl⟩
    rw [← hwd] at HD9 BD9 hHeld ⊢
    clear hwd H9 B2 b2 B1
    obtain ⟨A1, C1, s1, S1⟩ := HD9.sl.low (Nat.le_of_lt HI.out)
    obtain ⟨A2, C2, s2, S2, _⟩ := HD9.sl.high (i := i + 1) HI.out
    have hlen : (x.l.take i).length + (x.l.drop (i + 1)).length ≤ 1000 := by have := HI.out; have := HL.out; rw [List.length_take, List.length_drop]; omega
    have T2 := eltT.two_rows 38 38 S1 S2 (Nat.le_trans (Nat.mul_le_mul_right _ hlen) (by decide)) (Nat.le_trans hlen (by decide))
    have HS := Lib.hid (And.intro s1 s2)
    clear S1 S2 hlen s1 s2
    obtain ⟨v7, w7, a9, c9, w9, r7, r9, SA, nA, b7, b9⟩ := T2
    have G7 : Hid (w7.cell? ⟨p, 1, none⟩ = some (.slice a x.l.length c)) := (b7.cell (p := ⟨p, 1, none⟩) (HD9.lt p HD9.inp)).trans hHeld
    have G9 : Hid (w9.cell? ⟨p, 1, none⟩ = some (.slice a x.l.length c)) := (b9.cell (p := ⟨p, 1, none⟩) (HD9.lt p HD9.inp)).trans hHeld
    have FA := Lib.hid (HR.out.elim fun a0 ⟨c0, h0⟩ => h0.relist (BD9.trans (b9.mono BD9.size)) SA (fun b off e => ⟨(nA b off e).2, .inl (Nat.le_trans BD9.size (nA b off e).1)⟩) OK.out.1)
    have fA : w9.frozen? ⟨p, 1, none⟩ = false := (HD9.on b9).f 1
    have cA := G9.out
    have R7 := Lib.hid r7
    have R9 := Lib.hid r9
    have i0 : (0 : Int) ≤ (i : Int) := Int.natCast_nonneg _
    clear r7 r9 SA nA b7 b9 HD9 BD9
    have sl1 : ∀ u, (Instr.slice 38 (.slice a x.l.length c) none (some (.int .i64 (i : Int))) none).run Try.prog u = .ok (.slice A1 (x.l.take i).length C1) u := HS.out.1
    have sl2 : ∀ u, (Instr.slice 38 (.slice a x.l.length c) (some (.int .i64 ((i + 1 : Nat) : Int))) none none).run Try.prog u = .ok (.slice A2 (x.l.drop (i + 1)).length C2) u := HS.out.2
    obtain ⟨q2, q3⟩ := Q.out
    generalize i + 1 = i2 at q2 q3 sl2 R9 OK FA fA cA HS
    obtain ⟨l9, hl9⟩ : ∃ l_, l_ = x.l.take i ++ x.l.drop i2 := ⟨_, rfl⟩
    rw [← hl9] at R9 OK FA
    clear hl9
    refine till_take (i := 0) (oi := _) (v := ?_) rfl (by kernel_rfl) (by kernel_rfl) (by kernel_rfl) (by kernel_rfl) (by rfl) (fun _ _ _ h => h) (Or.inl ⟨by kernel_rfl, ?_⟩) (by assumption) ?_
    rotate_left
    · intro w hSw
      clear hSw
      go_simp
      with_reducible rfl
    try simp only [List.getElem_toArray, List.getElem_cons_succ, List.getElem_cons_zero, Act.put, List.setIfInBounds_toArray, List.set_cons_zero, List.set_cons_succ]
    refine till_take (i := 1) (oi := _) (v := ?_) rfl (by kernel_rfl) (by kernel_rfl) (by kernel_rfl) (by kernel_rfl) (by rfl) (fun _ _ _ h => h) (Or.inl ⟨by kernel_rfl, ?_⟩) (by assumption) ?_
    rotate_left
    · intro w hSw
      clear hSw
      go_simp
      with_reducible rfl
    try simp only [List.getElem_toArray, List.getElem_cons_succ, List.getElem_cons_zero, Act.put, List.setIfInBounds_toArray, List.set_cons_zero, List.set_cons_succ]
    refine till_take (i := 2) (oi := _) (v := ?_) rfl (by kernel_rfl) (by kernel_rfl) (by kernel_rfl) (by kernel_rfl) (by rfl) (fun _ _ _ h => h) (Or.inl ⟨by kernel_rfl, ?_⟩) (by assumption) ?_
    rotate_left
    · intro w hSw
      clear hSw
      go_simp
      with_reducible rfl
    try simp only [List.getElem_toArray, List.getElem_cons_succ, List.getElem_cons_zero, Act.put, List.setIfInBounds_toArray, List.set_cons_zero, List.set_cons_succ]
    refine till_take (i := 3) (oi := _) (v := ?_) rfl (by kernel_rfl) (by kernel_rfl) (by kernel_rfl) (by kernel_rfl) (by rfl) (fun _ _ _ h => h) (Or.inl ⟨by kernel_rfl, ?_⟩) (by assumption) ?_
    rotate_left
    · intro w hSw
      clear hSw
      go_simp
      with_reducible rfl
    try simp only [List.getElem_toArray, List.getElem_cons_succ, List.getElem_cons_zero, Act.put, List.setIfInBounds_toArray, List.set_cons_zero, List.set_cons_succ]
    refine till_take (i := 4) (oi := _) (v := ?_) rfl (by kernel_rfl) (by kernel_rfl) (by kernel_rfl) (by kernel_rfl) (by rfl) (fun _ _ _ h => h) (Or.inl ⟨by kernel_rfl, ?_⟩) (by assumption) ?_
    rotate_left
    · intro w hSw
      (try dsimp only at hSw)
      go_simp
      with_reducible rfl
    try simp only [List.getElem_toArray, List.getElem_cons_succ, List.getElem_cons_zero, Act.put, List.setIfInBounds_toArray, List.set_cons_zero, List.set_cons_succ]
    refine till_take (i := 5) (oi := _) (v := ?_) rfl (by kernel_rfl) (by kernel_rfl) (by kernel_rfl) (by kernel_rfl) (by rfl) (fun _ _ _ h => h) (Or.inl ⟨by kernel_rfl, ?_⟩) (by assumption) ?_
    rotate_left
    · intro w hSw
      clear hSw
      go_simp
      with_reducible rfl
    try simp only [List.getElem_toArray, List.getElem_cons_succ, List.getElem_cons_zero, Act.put, List.setIfInBounds_toArray, List.set_cons_zero, List.set_cons_succ]
    refine till_take (i := 6) (oi := _) (v := ?_) rfl (by kernel_rfl) (by kernel_rfl) (by kernel_rfl) (by kernel_rfl) (by rfl) (fun _ _ _ h => h) (Or.inl ⟨by kernel_rfl, ?_⟩) (by assumption) ?_
    rotate_left
    · intro w hSw
      clear hSw
      go_simp
      with_reducible rfl
    try simp only [List.getElem_toArray, List.getElem_cons_succ, List.getElem_cons_zero, Act.put, List.setIfInBounds_toArray, List.set_cons_zero, List.set_cons_succ]
    refine till_take (i := 8) (oi := _) (v := ?_) rfl (by kernel_rfl) (by kernel_rfl) (by kernel_rfl) (by kernel_rfl) (by rfl) (fun _ _ _ h => h) (Or.inl ⟨by kernel_rfl, ?_⟩) (by assumption) ?_
    rotate_left
    · intro w hSw
      clear hSw
      go_simp
      with_reducible rfl
    try simp only [List.getElem_toArray, List.getElem_cons_succ, List.getElem_cons_zero, Act.put, List.setIfInBounds_toArray, List.set_cons_zero, List.set_cons_succ]
    refine till_take (i := 9) (oi := _) (v := ?_) rfl (by kernel_rfl) (by kernel_rfl) (by kernel_rfl) (by kernel_rfl) (by rfl) (fun _ _ _ h => h) (Or.inl ⟨by kernel_rfl, ?_⟩) (by assumption) ?_
    rotate_left
    · intro w hSw
      clear hSw
      go_simp
      with_reducible rfl
    try simp only [List.getElem_toArray, List.getElem_cons_succ, List.getElem_cons_zero, Act.put, List.setIfInBounds_toArray, List.set_cons_zero, List.set_cons_succ]
    refine till_take (i := 10) (oi := _) (v := ?_) rfl (by kernel_rfl) (by kernel_rfl) (by kernel_rfl) (by kernel_rfl) (by rfl) (fun _ _ _ h => h) (Or.inl ⟨by kernel_rfl, ?_⟩) (by assumption) ?_
    rotate_left
    · intro w hSw
      clear hSw
      go_simp
      with_reducible rfl
    try simp only [List.getElem_toArray, List.getElem_cons_succ, List.getElem_cons_zero, Act.put, List.setIfInBounds_toArray, List.set_cons_zero, List.set_cons_succ]
    refine till_take (i := 11) (oi := _) (v := ?_) rfl (by kernel_rfl) (by kernel_rfl) (by kernel_rfl) (by kernel_rfl) (by rfl) (fun _ _ _ h => h) (Or.inl ⟨by kernel_rfl, ?_⟩) (by assumption) ?_
    rotate_left
    · intro w hSw
      (try dsimp only at hSw)
      go_simp
      with_reducible rfl
    try simp only [List.getElem_toArray, List.getElem_cons_succ, List.getElem_cons_zero, Act.put, List.setIfInBounds_toArray, List.set_cons_zero, List.set_cons_succ]
    refine till_take (i := 12) (oi := _) (v := ?_) rfl (by kernel_rfl) (by kernel_rfl) (by kernel_rfl) (by kernel_rfl) (by rfl) (fun _ _ _ h => h) (Or.inl ⟨by kernel_rfl, ?_⟩) (by assumption) ?_
    rotate_left
    · intro w hSw
      clear hSw
      go_simp
      with_reducible rfl
    try simp only [List.getElem_toArray, List.getElem_cons_succ, List.getElem_cons_zero, Act.put, List.setIfInBounds_toArray, List.set_cons_zero, List.set_cons_succ]
    refine till_take (i := 13) (oi := _) (v := ?_) rfl (by kernel_rfl) (by kernel_rfl) (by kernel_rfl) (by kernel_rfl) (by rfl) (fun _ _ _ h => h) (Or.inl ⟨by kernel_rfl, ?_⟩) (by assumption) ?_
    rotate_left
    · intro w hSw
      clear hSw
      go_simp
      with_reducible rfl
    try simp only [List.getElem_toArray, List.getElem_cons_succ, List.getElem_cons_zero, Act.put, List.setIfInBounds_toArray, List.set_cons_zero, List.set_cons_succ]
    refine till_take (i := 14) (oi := _) (v := ?_) rfl (by kernel_rfl) (by kernel_rfl) (by kernel_rfl) (by kernel_rfl) (by rfl) (fun _ _ _ h => h) (Or.inl ⟨by kernel_rfl, ?_⟩) (by assumption) ?_
    rotate_left
    · intro w hSw
      clear hSw
      go_simp
      with_reducible rfl
    try simp only [List.getElem_toArray, List.getElem_cons_succ, List.getElem_cons_zero, Act.put, List.setIfInBounds_toArray, List.set_cons_zero, List.set_cons_succ]
    refine till_ready (rs := [7]) (by kernel_rfl) (by simp) ?_
    refine TillAll.cons (o := _) rfl (by rfl) (fun K hK => ?_) TillAll.nil
    refine step_append rfl _ _ 38 38 rfl (.slice none 0 0) (.slice A1 (x.l.take i).length C1) (by simp [Act.eval, Act.put]) (by simp [Act.eval, Act.put]) R7.out ?_
    refine hK.out _ _ G7.out (fun h7 => ?_)
    clear hK K
    try simp only [List.getElem_toArray, List.getElem_cons_succ, List.getElem_cons_zero, Act.put, List.setIfInBounds_toArray, List.set_cons_zero, List.set_cons_succ]
    refine till_ready (rs := [15]) (by kernel_rfl) (by simp) ?_
    refine TillAll.cons (o := _) rfl (by rfl) (fun K hK => ?_) TillAll.nil
    refine step_append rfl _ _ 38 38 rfl (v7) (.slice A2 (x.l.drop i2).length C2) (by simp [Act.eval, Act.put]) (by simp [Act.eval, Act.put]) R9.out ?_
    refine hK.out _ _ G9.out (fun h9 => ?_)
    clear hK K
    try simp only [List.getElem_toArray, List.getElem_cons_succ, List.getElem_cons_zero, Act.put, List.setIfInBounds_toArray, List.set_cons_zero, List.set_cons_succ]
    refine till_ready (rs := [16]) (by kernel_rfl) (by simp) ?_
    refine TillAll.cons (o := _) rfl (by rfl) (fun K hK => ?_) TillAll.nil
    go_simp
    refine hK.out _ _ h9 (fun _ => ?_)
    clear hK K
    try simp only [List.getElem_toArray, List.getElem_cons_succ, List.getElem_cons_zero, Act.put, List.setIfInBounds_toArray, List.set_cons_zero, List.set_cons_succ]
    refine till_take (i := 17) (oi := _) (v := ?_) rfl (by kernel_rfl) (by kernel_rfl) (by kernel_rfl) (by kernel_rfl) (by rfl) (fun _ _ _ h => h) (Or.inl ⟨by kernel_rfl, ?_⟩) (by assumption) ?_
    rotate_left
    · intro w hSw
      clear hSw
      go_simp
      with_reducible rfl
    try simp only [List.getElem_toArray, List.getElem_cons_succ, List.getElem_cons_zero, Act.put, List.setIfInBounds_toArray, List.set_cons_zero, List.set_cons_succ]
    refine till_last (by kernel_rfl) (by kernel_rfl) rfl (fun K hK => ?_)
    go_simp
    refine hK.out _ _ ?_
    clear hK K
    go_wp2
    go_ret
    rw [OK.out.2]
    exact ⟨rfl, _, ⟨_, _, FA.out.1⟩, FA.out.2.1, FA.out.2.2⟩
def lenV : Value → Nat
  | .slice _ n _ => n
  | _ => 0
/-- The first of what it has is taken off. -/
theorem WhD.pop {w : World} {S : Nat → Prop} {p c la : Nat} {a : Option Addr} {t : Ti} {l : List Ti} (h : WhD w S p a c ⟨la, t :: l⟩) : ∃ A C, (∀ u, (Instr.slice 38 (.slice a (t :: l).length c) (some (.int .i64 1)) none none).run Try.prog u = .ok (.slice A l.length C) u) ∧ WhD (w.setCell ⟨p, 1, none⟩ (.slice A l.length C)) S p A C ⟨la, l⟩ ∧ Beside S w (w.setCell ⟨p, 1, none⟩ (.slice A l.length C)) := by
  obtain ⟨A, C, h1, h2, h3⟩ := h.sl.high (i := 1) (by simp)
  have hk1 : ∀ j, j ≠ p → (w.setCell ⟨p, 1, none⟩ (.slice A l.length C)).heap[j]? = w.heap[j]? := fun j hj => Below.heap_setCell _ _ _ _ hj
  have sz : w.heap.size ≤ (w.setCell ⟨p, 1, none⟩ (.slice A l.length C)).heap.size := by simp [World.setCell]
  have ns : ∀ b off, A = some ⟨b, off, none⟩ → S b ∧ b ≠ p := fun b off e => by obtain ⟨o, eo⟩ := h3 b off e; exact h.ns b o eo
  refine ⟨A, C, h1, ⟨fun k hk => Nat.lt_of_lt_of_le (h.lt k hk) sz, h.inp, ?_, World.cell?_setCell_same' _ _ _ (by rw [h.c1]; rfl), fun i => by rw [World.frozen?_setCell]; exact h.f i, Elt.Sl.keep (l := l) h2 sz (fun b off e => hk1 b (ns b off e).2), ns, ?_⟩, (Beside.refl S w).setCell (p := ⟨p, 1, none⟩) h.inp _⟩
  · rw [World.cell?_setCell_other _ _ _ _ (by intro he; injection he with h5 h6; omega)]; exact h.c0
  · exact ⟨(List.pairwise_cons.1 h.ok.st).2, (List.pairwise_cons.1 h.ok.nd).2, fun u hu => h.ok.low u (List.mem_cons_of_mem _ hu), h.ok.lst⟩
theorem WhD.tick {w : World} {S : Nat → Prop} {p c : Nat} {a : Option Addr} {x : Wh} (h : WhD w S p a c x) (n : Nat) (hn : (n : Int) ≤ Wh.max) : WhD (w.setCell ⟨p, 0, none⟩ (.int .i64 (n : Int))) S p a c { x with last := n } ∧ Beside S w (w.setCell ⟨p, 0, none⟩ (.int .i64 (n : Int))) := by
  have hk1 : ∀ j, j ≠ p → (w.setCell ⟨p, 0, none⟩ (.int .i64 (n : Int))).heap[j]? = w.heap[j]? := fun j hj => Below.heap_setCell _ _ _ _ hj
  have sz : w.heap.size ≤ (w.setCell ⟨p, 0, none⟩ (.int .i64 (n : Int))).heap.size := by simp [World.setCell]
  refine ⟨⟨fun k hk => Nat.lt_of_lt_of_le (h.lt k hk) sz, h.inp, World.cell?_setCell_same' _ _ _ (by rw [h.c0]; rfl), ?_, fun i => by rw [World.frozen?_setCell]; exact h.f i, h.sl.keep sz (fun b off e => hk1 b (h.ns b off e).2), h.ns, ⟨h.ok.st, h.ok.nd, h.ok.low, hn⟩⟩, (Beside.refl S w).setCell (p := ⟨p, 0, none⟩) h.inp _⟩
  rw [World.cell?_setCell_other _ _ _ _ (by intro he; injection he with h5 h6; omega)]; exact h.c1
/-- A row of the call's own that grows leaves the wheel as it was. -/
theorem WhD.grown {w0 w w' : World} {S : Nat → Prop} {p c : Nat} {a : Option Addr} {x : Wh} {o : Obj} {v : Value} (h : WhD w S p a c x) (hS : ∀ k, S k → k < w0.heap.size) (hB : Beside S w0 w) (hg : (w.alloc o).grownBy w' v.ownBlock) (hv : ∀ g, v.ownBlock = some g → w0.heap.size ≤ g) : WhD w' S p a c x ∧ Beside S w0 w' := by
  have e : ∀ k, k < w.heap.size → v.ownBlock ≠ some k → w'.heap[k]? = w.heap[k]? := fun k hk hn => (hg.block k (by simp; omega) (fun e => hn e.symm)).trans (Below.heap_alloc w o k hk)
  have ns : ∀ k, k < w0.heap.size → v.ownBlock ≠ some k := fun k hk e => by have := hv k e; omega
  have sz : w.heap.size ≤ w'.heap.size := Nat.le_trans (by simp) hg.size
  exact ⟨h.keep sz (fun k hk => e k (h.lt k hk) (ns k (hS k hk))), hg.os.trans hB.os, hg.tape.trans hB.tape, hg.output.trans hB.output, Nat.le_trans hB.size sz, fun k hk hn => (e k (Nat.lt_of_lt_of_le hk hB.size) (ns k hk)).trans (hB.block k hk hn)⟩
/-- The first of them that are not due: where it is. -/
theorem due_at {l : List Ti} {n : Int} {k : Nat} (hk : k ≤ l.length) (h1 : ∀ j, j < k → (((l.getD j Ti.zero).d : Nat) : Int) ≤ n) (h2 : k = l.length ∨ ¬ (((l.getD k Ti.zero).d : Nat) : Int) ≤ n) : l.takeWhile (fun t => decide ((t.d : Int) ≤ n)) = l.take k ∧ l.dropWhile (fun t => decide ((t.d : Int) ≤ n)) = l.drop k := by
  induction l generalizing k with
  | nil => simp
  | cons a l ih =>
    cases k with
    | zero =>
      rcases h2 with h | h
      · simp at h
      · have e : decide ((a.d : Int) ≤ n) = false := decide_eq_false h
        rw [List.takeWhile_cons, List.dropWhile_cons, e]
        exact ⟨rfl, rfl⟩
    | succ k =>
      have e : decide ((a.d : Int) ≤ n) = true := decide_eq_true (h1 0 (Nat.succ_pos _))
      obtain ⟨i1, i2⟩ := ih (k := k) (by simpa using hk) (fun j hj => h1 (j + 1) (Nat.succ_lt_succ hj)) (h2.imp (fun h => by simpa using h) id)
      rw [List.takeWhile_cons, List.dropWhile_cons, e]
      exact ⟨congrArg (a :: ·) i1, i2⟩
theorem hs_succ {l : List Ti} {i : Nat} (h : i < l.length) : (l.take (i + 1)).map Ti.h = (l.take i).map Ti.h ++ [(l.getD i Ti.zero).h] := by
  rw [List.take_add_one, List.getElem?_eq_getElem h, List.map_append, List.getD_eq_getElem?_getD, List.getElem?_eq_getElem h]
  rfl
theorem hs_len {l : List Ti} {i : Nat} (h : i ≤ l.length) : ((l.take i).map Ti.h).length = i := by rw [List.length_map, List.length_take, Nat.min_eq_left h]
theorem drop_get {l : List Ti} {i : Nat} (h : i < l.length) : l.drop i = l.getD i Ti.zero :: l.drop (i + 1) := by
  rw [List.getD_eq_getElem?_getD, List.getElem?_eq_getElem h]
  exact List.drop_eq_getElem_cons h
theorem less_one {i n k : Nat} (h : i < n) (hk : k = i + 1) : n - k < n - i := by omega
set_option maxHeartbeats 4000000 in
set_option maxRecDepth 100000 in
theorem rturn15_ (S p x) (n : Int) (w : World) (H : WhR w S p x) (hl : x.l.length ≤ 1000) : Calls Try.prog 15 #[.pointer (some ⟨p, 0, none⟩), .int .i64 n] w fun e w' => ∃ (a : Option Addr) (c : Nat) (S' : Nat → Prop), e = .returned (.tuple #[.slice a (x.turnL n).length c, .int .i64 (x.turnE n : Int)]) ∧ WhR w' S' p (x.turnT n) ∧ Fresh w S S' ∧ Beside S w w' ∧ eltH.Sl w' a c ((x.turnL n).map Ti.h) ∧ ∀ b off, a = some ⟨b, off, none⟩ → ¬ S' b ∧ w.heap.size ≤ b ∧ b < w'.heap.size := by
  have HR := Lib.hid H
  have HL := Lib.hid hl
  obtain ⟨a, c, H⟩ := H
  have c0 := H.c0
  by_cases hr : ¬ x.mayT n
  · have HV : Hid (x.turnL n = [] ∧ x.turnE n = 2 ∧ x.turnT n = x) := by show _ ∧ _ ∧ _; unfold Wh.turnL Wh.turnE Wh.turnT; rw [if_neg hr, if_neg hr, if_neg hr]; exact ⟨rfl, rfl, rfl⟩
    by_cases h0 : n < (x.last : Int)
    · have e1 : decide (n < (x.last : Int)) = true := by simpa using h0
      clear h0 hr H hl
      go_enter Try.func15, Try.ntmps15
      go_wp2
      go_ret2
      rw [HV.out.1, HV.out.2.1, HV.out.2.2]
      exact ⟨none, 0, S, rfl, HR.out, Fresh.refl _ _, Beside.refl _ _, Elt.Sl.nil _, (fun b off e => by cases e)⟩
    · have e1 : decide (n < (x.last : Int)) = false := by simpa using h0
      have e2 : decide (1099511627776 < n) = true := by
        refine decide_eq_true ?_
        have : ¬ n ≤ 1099511627776 := fun h => hr ⟨by omega, h⟩
        omega
      clear h0 hr H hl
      go_enter Try.func15, Try.ntmps15
      go_wp2
      go_ret2
      rw [HV.out.1, HV.out.2.1, HV.out.2.2]
      exact ⟨none, 0, S, rfl, HR.out, Fresh.refl _ _, Beside.refl _ _, Elt.Sl.nil _, (fun b off e => by cases e)⟩
  have hr := Decidable.not_not.1 hr
  obtain ⟨n, rfl⟩ := Int.eq_ofNat_of_zero_le (show 0 ≤ n by have := hr.1; omega)
  have e1 : decide ((n : Int) < (x.last : Int)) = false := decide_eq_false (by have := hr.1; omega)
  have e1n : decide (n < x.last) = false := decide_eq_false (by have := hr.1; omega)
  have e2 : decide ((1099511627776 : Int) < (n : Int)) = false := decide_eq_false (by have := hr.2; unfold Wh.max at this; omega)
  have e2n : decide (1099511627776 < n) = false := decide_eq_false (by have := hr.2; unfold Wh.max at this; omega)
  have HM := Lib.hid hr.2
  have HV : Hid (x.turnL (n : Int) = x.l.takeWhile (fun t => decide ((t.d : Int) ≤ (n : Int))) ∧ x.turnE (n : Int) = 0 ∧ x.turnT (n : Int) = ⟨n, x.l.dropWhile (fun t => decide ((t.d : Int) ≤ (n : Int)))⟩) := by
    show _ ∧ _ ∧ _
    obtain ⟨f1, f2⟩ := Wh.due_front H.ok.st (n : Int)
    unfold Wh.turnL Wh.turnE Wh.turnT
    rw [if_pos hr, if_pos hr, if_pos hr, f1, f2]
    exact ⟨rfl, rfl, rfl⟩
  have HS := Lib.hid H.lt
  have HH := Lib.hid H
  clear H hl hr
  go_enter Try.func15, Try.ntmps15
  go_upto_region 4 with fail
  clear c0 e1 e1n e2 e2n
  go_loopw [6] (fun v6 wr => ∃ (i : Nat) (a : Option Addr) (c : Nat), i ≤ x.l.length ∧ WhD wr S p a c ⟨x.last, x.l.drop i⟩ ∧ eltH.Own wr w.heap.size v6 ((x.l.take i).map Ti.h) ∧ Beside S w wr ∧ Hid (∀ j, j < i → (((x.l.getD j Ti.zero).d : Nat) : Int) ≤ (n : Int))) (fun v6 _ => x.l.length - lenV v6)
  case atStart => exact ⟨0, _, _, Nat.zero_le _, HH.out, Elt.Own.nil _ _, Beside.refl _ _, fun j hj => absurd hj (Nat.not_lt_zero j)⟩
  case round =>
    obtain ⟨i, a, c, hi, H2, HO, HB, HF⟩ := hrel
    have c1 := H2.c1
    have elen : (x.l.drop i).length = x.l.length - i := List.length_drop ..
    by_cases hlt : i < x.l.length
    · have HI := Lib.hid hlt
      have hd := drop_get hlt
      have t1 : decide ((0 : Int) < ((x.l.drop i).length : Int)) = true := by rw [elen]; simp; omega
      have t2 : decide (0 < (x.l.drop i).length) = true := by rw [elen]; simp; omega
      have t3 : (0 : Int) < ((x.l.drop i).length : Int) := by rw [elen]; omega
      have hpos : 0 < (x.l.drop i).length := by rw [elen]; omega
      obtain ⟨b, off, rfl, hb, y0, y1, y2⟩ := timer_at H2.sl.row (i := 0) hpos
      have eg : (x.l.drop i).getD 0 Ti.zero = x.l.getD i Ti.zero := by rw [hd]; rfl
      rw [eg] at y0 y1 y2
      rw [Nat.zero_mul, Nat.add_zero] at y0 y1 y2
      have HD := Lib.hid hd
      by_cases hq : (((x.l.getD i Ti.zero).d : Nat) : Int) ≤ (n : Int)
      · have q1 : decide ((((x.l.getD i Ti.zero).d : Nat) : Int) ≤ (n : Int)) = true := decide_eq_true hq
        have q2 : decide ((x.l.getD i Ti.zero).d ≤ n) = true := decide_eq_true (by omega)
        have HQ := Lib.hid hq
        obtain ⟨tt, htt⟩ : ∃ t_, t_ = x.l.getD i Ti.zero := ⟨_, rfl⟩
        have hsu := hs_succ hlt
        rw [← htt] at y0 y1 y2 q1 q2 hsu hd
        have HT := Lib.hid htt
        obtain ⟨ts, tg, td⟩ := tt
        simp only at y0 y1 y2 q1 q2
        obtain ⟨v', w', hrun, hown, hgrow, _⟩ := HO.alloc (.cells #[.int .i64 ts, .int .u32 tg] 34) |>.append 42 (Elt.Sl.box wr (ts, tg) 34 #[.int .i64 ts, .int .u32 tg] rfl) (by rw [hs_len hi]; exact Nat.le_trans (Nat.mul_le_mul_right _ (Nat.le_trans (Nat.succ_le_of_lt hlt) HL.out)) (by decide)) (by rw [hs_len hi]; exact Nat.le_trans (Nat.le_trans (Nat.succ_le_of_lt hlt) HL.out) (by decide)) (Nat.le_trans HB.size (by simp))
        obtain ⟨G1, G2⟩ := H2.grown (w0 := w) (o := .cells #[.int .i64 ts, .int .u32 tg] 34) HS.out HB hgrow (fun g hg => (HO.lt g hg).1)
        have c1' := G1.c1
        have f1' := G1.f 1
        rw [hd] at G1 c1' c1 t1 t2 t3
        obtain ⟨A, C, s1, P1, P2⟩ := G1.pop
        have hown2 : eltH.Own w' w.heap.size v' ((x.l.take (i + 1)).map Ti.h) := by rw [hsu]; exact hown
        have FIN := Lib.hid (And.intro P1 (And.intro (hown2.keep (w' := w'.setCell ⟨p, 1, none⟩ (.slice A (x.l.drop (i + 1)).length C)) (fun g hg => Below.heap_setCell _ _ _ _ (fun e => by have h1 := (hown2.lt g hg).1; have h2 := HS.out p G1.inp; have h3 : g = p := e; omega))) (G2.trans P2)))
        obtain ⟨a6, c6, e6, _⟩ := hown2.sl
        obtain ⟨a0, cc0, e0, _⟩ := HO.sl
        have el1 : ((x.l.take (i + 1)).map Ti.h).length = i + 1 := hs_len hlt
        have el0 : ((x.l.take i).map Ti.h).length = i := hs_len hi
        rw [el1] at e6
        rw [el0] at e0
        subst e6 e0
        have RUN := Lib.hid hrun
        clear hrun hown hown2 hgrow G1 G2 P1 P2 HO HB H2 hd hsu hb htt hq hpos eg elen hlt hi el1 el0
        generalize (Ti.mk ts tg td :: x.l.drop (i + 1)).length = N1 at c1 c1' t1 t2 t3 s1
        generalize (x.l.drop (i + 1)).length = N2 at s1 FIN
        go_upto_region 5 with fail
        go_wp2_with (at_builtin; refine Lib.wpList_append_run _ rfl _ _ 42 42 rfl _ _ rfl rfl _ _ RUN.out ?_)
        clear y0 y1 y2 c1
        go_wp2
        go_roundw
        case rel => exact ⟨i + 1, A, C, HI.out, FIN.out.1, FIN.out.2.1, FIN.out.2.2, fun j hj => by
          by_cases e : j = i
          · rw [e]; exact HQ.out
          · exact HF.out j (by omega)⟩
        case measure => exact less_one HI.out rfl
      · have q1 : decide ((((x.l.getD i Ti.zero).d : Nat) : Int) ≤ (n : Int)) = false := decide_eq_false hq
        have q2 : decide ((x.l.getD i Ti.zero).d ≤ n) = false := decide_eq_false (by omega)
        have GO := Lib.hid (due_at hi HF.out (.inr hq))
        rw [hd] at t1 t2 t3 c1
        generalize x.l.getD i Ti.zero = tt at y0 y1 y2 q1 q2 hd t1 t2 t3 c1
        clear y0 y1 hq hpos hb eg HD
        obtain ⟨T1, T2⟩ := H2.tick n HM.out
        have f0 := H2.f 0
        have c0 := H2.c0
        have HO2 : eltH.Own (wr.setCell ⟨p, 0, none⟩ (.int .i64 (n : Int))) w.heap.size u6 ((x.l.take i).map Ti.h) := HO.keep (fun g hg => Below.heap_setCell _ _ _ _ (fun e => by have h1 := (HO.lt g hg).1; have h2 := HS.out p H2.inp; have h3 : g = p := e; omega))
        obtain ⟨a6, c6, e6, S6, n6⟩ := HO2.sl
        rw [hs_len hi] at e6
        have LO : Hid (∀ b off, a6 = some ⟨b, off, none⟩ → w.heap.size ≤ b ∧ b < (wr.setCell ⟨p, 0, none⟩ (.int .i64 (n : Int))).heap.size) := fun b off e => HO2.lt b (n6 b off e)
        subst e6
        have TT := Lib.hid (And.intro T1 (And.intro (HB.trans T2) S6))
        have LI := Lib.hid hi
        clear T1 T2 HO HO2 S6 n6 HB H2 hi
        generalize (tt :: x.l.drop (i + 1)).length = N1 at c1 t1 t2 t3
        go_wp2
        go_ret2
        have e7 : x.turnL (n : Int) = x.l.take i := HV.out.1.trans GO.out.1
        have e8 : x.turnT (n : Int) = ⟨n, x.l.drop i⟩ := HV.out.2.2.trans (by rw [GO.out.2])
        have e9 : (x.turnL (n : Int)).length = i := by rw [e7, List.length_take, Nat.min_eq_left LI.out]
        rw [e9, HV.out.2.1, e8, e7]
        exact ⟨a6, c6, rfl, S, ⟨_, _, TT.out.1⟩, Fresh.refl _ _, TT.out.2.1, TT.out.2.2, fun b off e => ⟨fun hs => absurd (HS.out b hs) (Nat.not_lt_of_le (LO.out b off e).1), LO.out b off e⟩⟩
    · obtain rfl : i = x.l.length := Nat.le_antisymm hi (Nat.le_of_not_lt hlt)
      have t1 : decide ((0 : Int) < ((x.l.drop x.l.length).length : Int)) = false := by rw [elen]; simp
      have t2 : decide (0 < (x.l.drop x.l.length).length) = false := by rw [elen]; simp
      have GO := Lib.hid (due_at (Nat.le_refl _) HF.out (.inl rfl))
      obtain ⟨T1, T2⟩ := H2.tick n HM.out
      have f0 := H2.f 0
      have c0 := H2.c0
      have HO2 : eltH.Own (wr.setCell ⟨p, 0, none⟩ (.int .i64 (n : Int))) w.heap.size u6 ((x.l.take x.l.length).map Ti.h) := HO.keep (fun g hg => Below.heap_setCell _ _ _ _ (fun e => by have h1 := (HO.lt g hg).1; have h2 := HS.out p H2.inp; have h3 : g = p := e; omega))
      obtain ⟨a6, c6, e6, S6, n6⟩ := HO2.sl
      rw [hs_len hi] at e6
      have LO : Hid (∀ b off, a6 = some ⟨b, off, none⟩ → w.heap.size ≤ b ∧ b < (wr.setCell ⟨p, 0, none⟩ (.int .i64 (n : Int))).heap.size) := fun b off e => HO2.lt b (n6 b off e)
      subst e6
      have TT := Lib.hid (And.intro T1 (And.intro (HB.trans T2) S6))
      have LI := Lib.hid hi
      clear T1 T2 HO HO2 S6 n6 HB H2 hi
      generalize (x.l.drop x.l.length).length = N1 at c1 t1 t2
      go_wp2
      go_ret2
      have e7 : x.turnL (n : Int) = x.l.take x.l.length := HV.out.1.trans GO.out.1
      have e8 : x.turnT (n : Int) = ⟨n, x.l.drop x.l.length⟩ := HV.out.2.2.trans (by rw [GO.out.2])
      have e9 : (x.turnL (n : Int)).length = x.l.length := by rw [e7, List.length_take, Nat.min_eq_left LI.out]
      rw [e9, HV.out.2.1, e8, e7]
      exact ⟨a6, c6, rfl, S, ⟨_, _, TT.out.1⟩, Fresh.refl _ _, TT.out.2.1, TT.out.2.2, fun b off e => ⟨fun hs => absurd (HS.out b hs) (Nat.not_lt_of_le (LO.out b off e).1), LO.out b off e⟩⟩
end Go.Proofs.Ytmephmjlajaopaa
