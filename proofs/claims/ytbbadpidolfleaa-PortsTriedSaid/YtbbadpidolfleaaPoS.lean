/- The document's ports (layer 16): Take. Written by gen_pos.py. -/
import Derived.Test.YtbbadpidolfleaaPoT
import Derived.Test.YtbbadpidolfleaaVe
import Derived.Test.YtbbadpidolfleaaVh
namespace Go.Proofs.Ytbbadpidolfleaa
set_option linter.unusedVariables false
set_option maxRecDepth 100000
set_option linter.unusedSimpArgs false
open Go.ChangeShapes Go.WideShapes Go.ChangeAt Go.RowKit Go.PlainAid
attribute [local go_sem ↓] Go.wp_at_zero Go.wp_at_succ
theorem find_at {l : List Int} {q : Int → Bool} {i : Nat} (hi : i < l.length) (hn : ∀ j, j < i → q (l.getD j 0) = false) (hf : q (l.getD i 0) = true) : l.find? q = some (l.getD i 0) := by
  rw [List.find?_eq_some_iff_getElem]
  have e : ∀ j (h : j < l.length), l.getD j 0 = l[j] := fun j h => by simp [List.getD_eq_getElem?_getD, h]
  refine ⟨hf, i, hi, (e i hi).symm, fun j hj => ?_⟩
  have := hn j hj
  rw [e j (by omega)] at this
  simpa using this
theorem find_not {l : List Int} {q : Int → Bool} (hn : ∀ j, j < l.length → q (l.getD j 0) = false) : l.find? q = none := by
  rw [List.find?_eq_none]
  intro x hx
  obtain ⟨j, hj, rfl⟩ := List.mem_iff_getElem.1 hx
  have := hn j hj
  rw [List.getD_eq_getElem?_getD, List.getElem?_eq_getElem hj, Option.getD_some] at this
  rw [this]
  decide
/-- What Take has in memory. -/
structure TkS (w u : World) (S : Nat → Prop) (p : Nat) (x : Po) (v : Wi) : Prop where
  wi : WiB u w.heap.size v
  ep : EpB u (w.heap.size + 1) 0 0
  po : PoR u S p x
  low : ∀ k, S k → k < w.heap.size
  below : Below w.heap.size w u
section
variable {w u u' : World} {S : Nat → Prop} {p : Nat} {x : Po} {v : Wi}
theorem TkS.on (h : TkS w u S p x v) (hb : Below u.heap.size u u') : TkS w u' S p x v := ⟨h.wi.on hb, h.ep.on hb, poR.on h.po hb, h.low, h.below.trans (hb.mono h.below.size)⟩
theorem TkS.end_ (h : TkS w u S p x v) (hb : Beside (fun k => k = w.heap.size + 1) u u') : Beside S w u' ∧ PoR u' S p x := by
  have b := one_box h.below hb (Nat.le_succ _) h.below.size
  exact ⟨Beside.of b, poR.by h.po hb fun k hk e => by have := h.low k hk; omega⟩
end
/-- The tries of Take. -/
structure TkL (w u : World) (S : Nat → Prop) (p : Nat) (x : Po) (v : Wi) (i : Nat) (g c : Nat) : Prop where
  tk : TkS w u S p x v
  own : eltU.Own u (w.heap.size + 2) (.slice (some ⟨g, 0, none⟩) v.tried.length c) v.tried
  al : ∀ j, j < i → (!x.taken v.pr v.oi (v.tried.getD j 0)) = false
theorem TkL.on {w u u' : World} {S : Nat → Prop} {p : Nat} {x : Po} {v : Wi} {i g c : Nat} (h : TkL w u S p x v i g c) (hb : Below u.heap.size u u') : TkL w u' S p x v i g c := ⟨h.tk.on hb, h.own.on hb, h.al⟩
set_option maxHeartbeats 8000000 in
theorem rtake16_ (S p x) (v : Wi) (w : World) (H : PoR w S p x) (hf : x.Few 1000) (hv : WOk v) : Told Try.prog poR 40 #[.pointer (some ⟨p, 0, none⟩), .agg #[.int .u8 v.pr, .int .u32 v.ii, .int .u16 v.ip, .int .u32 v.oi, .int .u16 v.fr, .int .u16 v.to, .int .u16 v.dr]] w S p (.tuple #[.agg #[.int .u32 (x.take v).1.1.1, .int .u16 (x.take v).1.1.2], .int .i64 ((x.take v).1.2 : Int)]) (x.take v).2 := by
  have OK := Lib.hid (show x.Ok from by obtain ⟨_, h⟩ := H; exact h.ok)
  have LOW : ∀ k, S k → k < w.heap.size := by obtain ⟨_, h⟩ := H; exact h.lt
  have FEW := Lib.hid hf
  have HV := Lib.hid hv
  have B0 := two_below w (.cells #[.int .u8 v.pr, .int .u32 v.ii, .int .u16 v.ip, .int .u32 v.oi, .int .u16 v.fr, .int .u16 v.to, .int .u16 v.dr] 51) (.cells #[.int .u32 0, .int .u16 0] 34)
  have hz : (w.alloc (.cells #[.int .u8 v.pr, .int .u32 v.ii, .int .u16 v.ip, .int .u32 v.oi, .int .u16 v.fr, .int .u16 v.to, .int .u16 v.dr] 51)).heap.size = w.heap.size + 1 := by simp
  have A0 := (WiB.made w v 51).on ((Below.refl _ _).alloc (Nat.le_refl _) (.cells #[.int .u32 0, .int .u16 0] 34))
  have E0 := EpB.made (w.alloc (.cells #[.int .u8 v.pr, .int .u32 v.ii, .int .u16 v.ip, .int .u32 v.oi, .int .u16 v.fr, .int .u16 v.to, .int .u16 v.dr] 51)) 0 0 34
  rw [hz] at E0
  have T0 : TkS w ((w.alloc (.cells #[.int .u8 v.pr, .int .u32 v.ii, .int .u16 v.ip, .int .u32 v.oi, .int .u16 v.fr, .int .u16 v.to, .int .u16 v.dr] 51)).alloc (.cells #[.int .u32 0, .int .u16 0] 34)) S p x v := ⟨A0, E0, poR.on H B0, LOW, B0⟩
  generalize hY : x.take v = Y
  obtain ⟨⟨⟨ri, rp⟩, n⟩, y⟩ := Y
  simp only []
  have HY := Lib.hid hY
  clear hY hz A0 E0 B0 H LOW hf hv
  show Calls _ _ _ _ _
  go_enter Try.func40, Try.ntmps40
  go_upto_region 1 with fail
  generalize (w.alloc (.cells #[.int .u8 v.pr, .int .u32 v.ii, .int .u16 v.ip, .int .u32 v.oi, .int .u16 v.fr, .int .u16 v.to, .int .u16 v.dr] 51)).alloc (.cells #[.int .u32 0, .int .u16 0] 34) = u at T0 ⊢
  obtain ⟨_, a0, a1, a2, a3, a4, a5, a6⟩ := id T0.wi
  have HT := Lib.hid T0
  clear T0
  have cm := fun X => rmay16_ v X
  by_cases hm : v.may
  rotate_left
  · have t1 : decide v.may = false := decide_eq_false hm
    simp only [t1] at cm
    have e : x.take v = (((0, 0), 2), x) := by unfold Po.take; rw [if_neg hm]
    rw [HY.out] at e
    clear hm t1 HY
    cases e
    go_upto_region 2 with (go_at_call 18; refine (cm _).mono ?_; rintro e w2 ⟨rfl, b2⟩)
    have T2 := HT.out.on b2
    obtain ⟨_, z0, z1, zf⟩ := id T2.ep
    have H2 := Lib.hid T2
    clear T2 b2 HT a0 a1 a2 a3 a4 a5 a6 cm
    go_wp2_with fail
    refine ep_ H2.out.ep fun X hX bX => ?_
    obtain ⟨_, x0, x1, xf⟩ := id hX
    have E := H2.out.end_ bX
    clear H2 z0 z1 zf hX bX
    go_wp2
    refine bodyPost_ret (v := .tuple #[.agg #[.int .u32 0, .int .u16 0], .int .i64 2]) (by simp [results, Try.results40, go_sem, x0, x1]) rfl ?_
    exact ⟨rfl, S, E.2, Fresh.refl _ _, E.1⟩
  · have t1 : decide v.may = true := decide_eq_true hm
    simp only [t1] at cm
    have HM := Lib.hid hm
    clear hm t1
    go_upto_region 3 with (go_at_call 18; refine (cm _).mono ?_; rintro e w2 ⟨rfl, b2⟩)
    have T2 := HT.out.on b2
    clear a0 a1 a2 a3 a4 a5 a6 cm b2 HT
    obtain ⟨_, a0, a1, a2, a3, a4, a5, a6⟩ := id T2.wi
    have cf : Says _ _ _ w2 _ := rof16_ S p x v.pr v.ii v.ip w2 T2.po FEW.out.len
    have HT := Lib.hid T2
    clear T2
    cases hh : x.l.any (fun t => t.isI v.pr v.ii v.ip) with
    | true =>
      obtain ⟨i, e1, hi, hp, e4, _⟩ := firstAt_at Ro.zero hh
      rw [e1] at cf
      clear e1 hh
      go_upto_region 5 with (go_at_call 16; refine cf.mono ?_; rintro e w3 ⟨rfl, b3⟩)
      have T3 := HT.out.on b3
      clear HT b3 cf a0 a1 a2 a3 a4 a5 a6
      obtain ⟨vv, D3⟩ := id T3.po
      obtain ⟨g, c, rfl, hg, fr, y0, y1, y2, y3, y4, y5, y6⟩ := D3.at hi
      have c0 := D3.c0
      obtain ⟨f1, f2, f3⟩ := ix16 hi
      have f4 : decide ((0 : Int) ≤ (i : Int)) = true := decide_eq_true f3
      have BYF := Lib.hid (FEW.out.by_ _ (getD_mem Ro.zero hi))
      have HI : Hid (x.ofI v.pr v.ii v.ip = some (x.l.getD i Ro.zero)) := e4
      have b7 : Below w3.heap.size w3 (w3.alloc (.cells #[.int .u32 (x.l.getD i Ro.zero).oi, .int .u16 (x.l.getD i Ro.zero).op] 34)) := (Below.refl _ _).alloc (Nat.le_refl _) _
      have E7 := EpB.made w3 (x.l.getD i Ro.zero).oi (x.l.getD i Ro.zero).op 34
      have T7 := T3.on b7
      have D7 := D3.on b7
      have HI2 := Lib.hid hi
      have HP := Lib.hid hp
      have HD := Lib.hid D7
      have HL := Lib.hid T7
      have HE := Lib.hid E7
      obtain ⟨t, ht⟩ : ∃ t_, t_ = x.l.getD i Ro.zero := ⟨_, rfl⟩
      rw [← ht] at y0 y1 y2 y3 y4 y5 y6 BYF HI HD HL HE
      have HTT : Hid (x.l.getD i Ro.zero = t) := ht.symm
      have HT3 := Lib.hid T3
      clear T3 D3 b7 E7 T7 D7 e4 hp hi ht hg y0 y3 y4 y5 y6 fr
      have NB : Hid (¬ S w3.heap.size ∧ w.heap.size + 1 < w3.heap.size) := by
        have h1 := HT3.out.ep.lt
        exact ⟨fun h => by have := HT3.out.low _ h; omega, h1⟩
      clear HT3
      go_upto_region 6 with fail
      generalize w3.alloc (.cells #[.int .u32 t.oi, .int .u16 t.op] 34) = w7 at HD HL HE ⊢
      generalize w3.heap.size = b7 at HE NB ⊢
      obtain ⟨_, e0, e1, _⟩ := id HE.out
      obtain ⟨_, a0, a1, a2, a3, a4, a5, a6⟩ := id HL.out.wi
      cases hq : (t.oi == v.oi && v.hasB t.op) with
      | true =>
        have q := hq
        rw [Bool.and_eq_true] at q
        have q2 := (v.hasB_iff _).1 q.2
        have s1 : (t.oi != v.oi) = false := by rw [bne_eq_false_iff_eq]; exact beq_iff_eq.1 q.1
        have s2 : decide (t.op < v.fr) = false := decide_eq_false (by omega)
        have s3 : decide (v.to < t.op) = false := decide_eq_false (by omega)
        have e := take_hold HM.out HI.out hq
        rw [HY.out] at e
        clear hq q q2 HY
        cases e
        obtain ⟨g2, c2, ev, hg, fr, y0, y1, y2, y3, y4, y5, y6⟩ := HD.out.at HI2.out
        injection ev with ev1 ev2 ev3
        injection ev1 with ev1
        injection ev1 with ev1 _ _
        subst ev1 ev3
        have STO := row_held HD.out HI2.out HP.out
        rw [HTT.out] at y0 y1 y2 y3 y4 y5 y6 STO
        rw [show ((t.hd + 1 : Nat) : Int) = (t.hd : Int) + 1 from by simp] at STO
        have f6 := fr (i * 7 + 6)
        have c0 := HD.out.c0
        obtain ⟨w1, w3⟩ := few_wrap (n := t.hd) (by have := BYF.out; omega)
        have HS := Lib.hid STO
        clear STO y0 y1 y2 y3 y4 y5 fr hg BYF
        go_upto_region 9 with fail
        generalize w7.setCell ⟨g, i * 7 + 6, none⟩ (.int .i64 ((t.hd : Int) + 1)) = w8 at HS ⊢
        have E8 := HE.out.by HS.out.2 NB.out.1
        have O8 := HL.out.ep.by HS.out.2 (fun h => by have := HL.out.low _ h; omega)
        have B8 := (Beside.of HL.out.below).trans HS.out.2
        have R8 := HS.out.1
        have K8 := Lib.hid (And.intro O8 (And.intro B8 R8))
        have LW := Lib.hid HL.out.low
        clear e0 e1 a0 a1 a2 a3 a4 a5 a6 f6 c0 y6 HD HL HE HS s1 s2 s3
        obtain ⟨_, e0, e1, _⟩ := id E8
        obtain ⟨_, z0, z1, zf⟩ := id K8.out.1
        clear E8 O8 B8 R8
        go_wp2_with fail
        refine ep_ K8.out.1 fun X hX bX => ?_
        obtain ⟨_, x0, x1, xf⟩ := id hX
        have E := K8.out.2.1.seq bX (fun k hk e => by omega)
        have R := poR.by K8.out.2.2 bX fun k hk e => by have := LW.out k hk; omega
        clear K8 z0 z1 zf hX bX e0 e1
        go_wp2
        refine bodyPost_ret (v := .tuple #[.agg #[.int .u32 t.oi, .int .u16 t.op], .int .i64 0]) (by simp [results, Try.results40, go_sem, x0, x1]) rfl ?_
        exact ⟨rfl, S, R, Fresh.refl _ _, E⟩
      | false =>
        have e := take_have HM.out HI.out hq
        rw [HY.out] at e
        cases e
        have fin : ∀ (M : World → Prop) (b : EpB w7 (w.heap.size + 1) 0 0), (∀ X, X.cell? ⟨w.heap.size + 1, 0, none⟩ = some (.int .u32 0) → X.cell? ⟨w.heap.size + 1, 1, none⟩ = some (.int .u16 0) → (Beside S w X ∧ PoR X S p x) → M X) → M ((w7.setCell ⟨w.heap.size + 1, 0, none⟩ (.int .u32 0)).setCell ⟨w.heap.size + 1, 1, none⟩ (.int .u16 0)) := fun M b k => ep_ b fun X hX bX => k X hX.c0 hX.c1 (HL.out.end_ bX)
        have FIN := Lib.hid fin
        obtain ⟨_, z0, z1, zf⟩ := id HL.out.ep
        clear HY HD HI HI2 HP HTT HE NB fin
        by_cases k1 : t.oi = v.oi
        · have s1 : (t.oi != v.oi) = false := by rw [bne_eq_false_iff_eq]; exact k1
          have h2 : ¬ (v.fr ≤ t.op ∧ t.op ≤ v.to) := fun h => by
            rw [(v.hasB_iff _).2 h, beq_iff_eq.2 k1] at hq; cases hq
          clear hq k1
          by_cases k2 : t.op < v.fr
          · have s2 : decide (t.op < v.fr) = true := decide_eq_true k2
            clear h2 k2
            go_wp2_with fail
            refine FIN.out _ HL.out.ep fun X x0 x1 E => ?_
            clear HL FIN z0 z1 zf e0 e1 a0 a1 a2 a3 a4 a5 a6
            go_wp2
            refine bodyPost_ret (v := .tuple #[.agg #[.int .u32 0, .int .u16 0], .int .i64 7]) (by simp [results, Try.results40, go_sem, x0, x1]) rfl ?_
            exact ⟨rfl, S, E.2, Fresh.refl _ _, E.1⟩
          · have s2 : decide (t.op < v.fr) = false := decide_eq_false k2
            have s3 : decide (v.to < t.op) = true := decide_eq_true (by omega)
            clear h2 k2
            go_wp2_with fail
            refine FIN.out _ HL.out.ep fun X x0 x1 E => ?_
            clear HL FIN z0 z1 zf e0 e1 a0 a1 a2 a3 a4 a5 a6
            go_wp2
            refine bodyPost_ret (v := .tuple #[.agg #[.int .u32 0, .int .u16 0], .int .i64 7]) (by simp [results, Try.results40, go_sem, x0, x1]) rfl ?_
            exact ⟨rfl, S, E.2, Fresh.refl _ _, E.1⟩
        · have s1 : (t.oi != v.oi) = true := bne_iff_ne.2 k1
          clear hq k1
          go_wp2_with fail
          refine FIN.out _ HL.out.ep fun X x0 x1 E => ?_
          clear HL FIN z0 z1 zf e0 e1 a0 a1 a2 a3 a4 a5 a6
          go_wp2
          refine bodyPost_ret (v := .tuple #[.agg #[.int .u32 0, .int .u16 0], .int .i64 7]) (by simp [results, Try.results40, go_sem, x0, x1]) rfl ?_
          exact ⟨rfl, S, E.2, Fresh.refl _ _, E.1⟩
    | false =>
      rw [any_first hh] at cf
      have hI : Hid (x.ofI v.pr v.ii v.ip = none) := any_find hh
      clear hh
      have n1 : decide ((0 : Int) ≤ -1) = false := by decide
      go_upto_region 10 with (go_at_call 16; refine cf.mono ?_; rintro e w3 ⟨rfl, b3⟩)
      have T3 := HT.out.on b3
      clear HT b3 cf a0 a1 a2 a3 a4 a5 a6
      obtain ⟨_, a0, a1, a2, a3, a4, a5, a6⟩ := id T3.wi
      have HT := Lib.hid T3
      have ct := rtried16_ v HV.out HM.out w3
      clear T3
      go_upto_region 12 with (go_at_call 20; refine ct.mono ?_; rintro e w4 ⟨l, rfl, ho, b4⟩)
      have T4 := HT.out.on b4
      obtain ⟨hlen, ⟨_, h0⟩ | ⟨g, cap, cur, hl, hg, hb, hcap, hmax, hcur, htake⟩⟩ := id ho
      · exfalso
        have h2 : v.tried = [] := List.eq_nil_of_length_eq_zero h0
        have h3 := (Wi.wraps HV.out HM.out).2.2.1
        have h4 : v.round = [] := (List.append_eq_nil_iff.1 (List.append_eq_nil_iff.1 h2).2).2
        have h5 : v.round.length = v.many := by unfold Wi.round; simp
        rw [h4] at h5
        simp only [List.length_nil] at h5
        omega
      subst hl
      have L4 : Hid (TkL w w4 S p x v 0 g cap) := ⟨T4, ho.down (by have := HT.out.ep.lt; omega), fun j hj => absurd hj (Nat.not_lt_zero _)⟩
      clear T4 ho hlen hg hb hcap hmax hcur htake HT b4 ct a0 a1 a2 a3 a4 a5 a6
      have LEN : Hid (v.tried.length ≤ 200000) := by
        have h2 : v.round.length = v.many := by unfold Wi.round; simp
        have h3 := (Wi.wraps HV.out HM.out).2.2.2
        have h4 := Wi.pre_len (w := v) h3 v.many v.many
        rw [Wi.take_all] at h4
        exact h4
      go_loopw [9, 10] (fun si _ wr => ∃ i : Nat, i ≤ v.tried.length ∧ si = .int .i64 (i : Int) ∧ Hid (TkL w wr S p x v i g cap)) (fun si _ _ => v.tried.length - (intOf si).toNat)
      case atStart => exact ⟨0, Nat.zero_le _, rfl, L4⟩
      case round =>
        clear L4
        obtain ⟨i, hi, rfl, HQ⟩ := hrel
        by_cases hlt : i < v.tried.length
        · have EW := Lib.hid (step_16 (j := i) (Nat.lt_of_le_of_lt (Nat.le_trans hi LEN.out) (by decide)))
          obtain ⟨e10, e12, e13⟩ := ix16 hlt
          have HI := Lib.hid hlt
          have hc := Elt.Own.at (E := eltU) HQ.out.own hlt (j := 0) (u := .int .u16 (v.tried.getD i 0)) (by decide) rfl
          obtain ⟨k, hk⟩ : ∃ k, k = v.tried.getD i 0 := ⟨_, rfl⟩
          have HK : Hid (v.tried.getD i 0 = k) := hk.symm
          rw [← hk] at hc
          have hc1 : wr.cell? ⟨g, i, none⟩ = some (.int .u16 k) := by simpa [eltU] using hc
          obtain ⟨_, a0, a1, a2, a3, a4, a5, a6⟩ := id HQ.out.tk.wi
          have b5 : Below wr.heap.size wr (wr.alloc (.cells #[.int .u32 v.oi, .int .u16 k] 34)).drew := ((Below.refl _ _).alloc (Nat.le_refl _) _).drew
          have L5 := Lib.hid (HQ.out.on b5)
          have E5 := Lib.hid ((EpB.made wr v.oi k 34).on (w' := (wr.alloc (.cells #[.int .u32 v.oi, .int .u16 k] 34)).drew) (Below.refl _ _).drew)
          have GB : Hid (¬ S wr.heap.size ∧ w.heap.size + 1 < wr.heap.size) := by
            have h1 := HQ.out.tk.ep.lt
            exact ⟨fun h => by have := HQ.out.tk.low _ h; omega, h1⟩
          have hc2 : ∀ o, (wr.alloc o).cell? ⟨g, i, none⟩ = some (.int .u16 k) := fun o => (World.cell?_of_block (w := wr) (a := ⟨g, i, none⟩) (Below.heap_alloc wr o g (HQ.out.own.lt g rfl).2)).trans hc1
          have a32 : ∀ o, (wr.alloc o).cell? ⟨w.heap.size, 3, none⟩ = some (.int .u32 v.oi) := fun o => (World.cell?_of_block (w := wr) (a := ⟨w.heap.size, 3, none⟩) (Below.heap_alloc wr o _ HQ.out.tk.wi.lt)).trans a3
          clear hi hlt hc hk b5
          go_upto_region 14 with fail
          go_region
          generalize (wr.alloc (.cells #[.int .u32 v.oi, .int .u16 k] 34)).drew = w5 at L5 E5 ⊢
          generalize wr.heap.size = b10 at E5 GB ⊢
          clear HQ hc1 hc2 a32 e12 e13 a0 a1 a2 a3 a4 a5 a6
          obtain ⟨_, e0, e1, _⟩ := id E5.out
          obtain ⟨_, a0, a1, a2, a3, a4, a5, a6⟩ := id L5.out.tk.wi
          have co : Says _ _ _ w5 _ := rowner16_ S p x v.pr v.oi k w5 L5.out.tk.po FEW.out.len
          cases hh : x.l.any (fun t => t.isO v.pr v.oi k) with
          | true =>
            obtain ⟨i2, q1, _, _, q4, _⟩ := firstAt_at Ro.zero hh
            rw [q1] at co
            have t2 : decide ((i2 : Int) < 0) = false := by simp
            have TK : Hid ((!x.taken v.pr v.oi k) = false) := by show _ = _; unfold Po.taken; rw [show x.ofO v.pr v.oi k = some _ from q4]; rfl
            clear q1 q4 hh
            go_wp2_with (go_at_call 17; refine co.mono ?_; rintro e w6 ⟨rfl, b6⟩)
            have FIN : Hid (TkL w w6 S p x v (i + 1) g cap) := ⟨(L5.out.on b6).tk, (L5.out.on b6).own, fun j hj => by
              by_cases hji : j = i
              · subst hji; rw [HK.out]; exact TK.out
              · exact L5.out.al j (by omega)⟩
            go_roundw
            case rel => exact ⟨i + 1, HI.out, by simp [EW.out], FIN⟩
            case measure => first | exact step_meas16 EW.out (step_less16 HI.out) | (simp [EW.out]; exact step_less16 HI.out) | exact step_less16 HI.out
          | false =>
            rw [any_first hh] at co
            have hO : x.ofO v.pr v.oi k = none := any_find hh
            have t2 : decide ((-1 : Int) < 0) = true := by decide
            have hF : x.free v = some k := by
              rw [← HK.out]
              exact find_at HI.out L5.out.al (by rw [HK.out]; unfold Po.taken; rw [hO]; rfl)
            have e := take_new HM.out hI.out hF
            rw [HY.out] at e
            have hin := (Wi.tried_mem HM.out HV.out.dr0).1 (Po.free_some hF).1
            have NOK := Lib.hid (OK.out.put (t := ⟨v.pr, v.oi, k, v.ii, v.ip, 0, 1⟩) hO hI.out (Po.row_ok HV.out HM.out hin) (Nat.succ_pos _))
            clear hh hO hF hin HY
            cases e
            go_upto_region 16 with (go_at_call 17; refine co.mono ?_; rintro e w6 ⟨rfl, b6⟩)
            have L6 := Lib.hid (L5.out.on b6)
            have E6 := Lib.hid (E5.out.on b6)
            clear co b6 L5 E5 e0 e1 a0 a1 a2 a3 a4 a5 a6
            obtain ⟨_, e0, e1, _⟩ := id E6.out
            obtain ⟨_, a0, a1, a2, a3, a4, a5, a6⟩ := id L6.out.tk.wi
            have cp := rput16_ S p x ⟨v.pr, v.oi, rp, v.ii, v.ip, 0, 1⟩ w6 L6.out.tk.po FEW.out.len NOK.out
            go_upto_region 17 with (go_at_call 50; refine cp.mono ?_; rintro e w7 ⟨rfl, S7, q7, s7, d7⟩)
            have E7 := Lib.hid (E6.out.by d7 GB.out.1)
            have O7 := Lib.hid (L6.out.tk.ep.by d7 (fun h => by have := L6.out.tk.low _ h; omega))
            have F7 := Lib.hid (And.intro ((Beside.of L6.out.tk.below).trans d7) (And.intro q7 (And.intro s7 (And.intro L6.out.tk.below.size (And.intro L6.out.tk.low L6.out.tk.ep.lt)))))
            clear cp q7 s7 d7 L6 E6 e0 e1 a0 a1 a2 a3 a4 a5 a6
            obtain ⟨_, e0, e1, _⟩ := id E7.out
            obtain ⟨_, z0, z1, zf⟩ := id O7.out
            go_wp2_with fail
            refine ep_ O7.out fun X hX bX => ?_
            obtain ⟨_, x0, x1, xf⟩ := id hX
            have E := F7.out.1.seq bX (fun k hk e => by omega)
            have R := poR.by F7.out.2.1 bX fun k hk e => by
              have h := F7.out.2.2.1 k (by rw [e]; exact F7.out.2.2.2.2.2) hk
              have := F7.out.2.2.2.2.1 k h
              omega
            have FR : Fresh w S S7 := fresh_on F7.out.2.2.1 F7.out.2.2.2.1
            clear O7 E7 F7 z0 z1 zf hX bX e0 e1
            go_wp2
            refine bodyPost_ret (v := .tuple #[.agg #[.int .u32 v.oi, .int .u16 rp], .int .i64 0]) (by simp [results, Try.results40, go_sem, x0, x1]) rfl ?_
            exact ⟨rfl, S7, R, FR, E⟩
        · obtain rfl : i = v.tried.length := Nat.le_antisymm hi (Nat.le_of_not_lt hlt)
          have t1 : decide ((v.tried.length : Int) < (v.tried.length : Int)) = false := by simp
          have e := take_full HM.out hI.out (find_not HQ.out.al)
          rw [HY.out] at e
          clear HY hlt hi
          cases e
          obtain ⟨_, z0, z1, zf⟩ := id HQ.out.tk.ep
          go_wp2_with fail
          refine ep_ HQ.out.tk.ep fun X hX bX => ?_
          obtain ⟨_, x0, x1, xf⟩ := id hX
          have E := HQ.out.tk.end_ bX
          clear HQ z0 z1 zf hX bX
          go_wp2
          refine bodyPost_ret (v := .tuple #[.agg #[.int .u32 0, .int .u16 0], .int .i64 8]) (by simp [results, Try.results40, go_sem, x0, x1]) rfl ?_
          exact ⟨rfl, S, E.2, Fresh.refl _ _, E.1⟩
end Go.Proofs.Ytbbadpidolfleaa
