/- The code's ports (layer 16): the ports that are tried. -/
import Derived.Test.YtbbadpidolfleaaPzR
import Derived.Shelf.Abstract
namespace Go.Proofs.Ytbbadpidolfleaa
set_option linter.unusedVariables false
set_option maxRecDepth 100000
set_option linter.unusedSimpArgs false
open Go.ChangeShapes Go.WideShapes Go.ChangeAt Go.RowKit Go.PlainAid
namespace Wi
theorem own_yes {w : Wi} (h : w.hasB w.ip = true) : w.own = [w.ip] := by unfold own; rw [if_pos ((w.hasB_iff _).1 h)]
theorem own_no {w : Wi} (h : w.hasB w.ip = false) : w.own = [] := by
  unfold own
  rw [if_neg]
  intro e
  rw [(w.hasB_iff _).2 e] at h
  cases h
theorem pre_own {w : Wi} : w.own <+: w.tried := ⟨_, rfl⟩
theorem pre_one {w : Wi} {pre : List Int} (h : pre <+: w.round) : w.own ++ pre.filter w.even <+: w.tried := by
  obtain ⟨t, ht⟩ := h
  refine ⟨t.filter w.even ++ w.round, ?_⟩
  unfold tried
  rw [← ht, List.filter_append]
  simp
theorem pre_two {w : Wi} {pre : List Int} (h : pre <+: w.round) : w.own ++ (w.round.filter w.even ++ pre) <+: w.tried := by
  obtain ⟨t, ht⟩ := h
  refine ⟨t, ?_⟩
  unfold tried
  rw [← ht]
  simp
theorem step_yes {w : Wi} {pre : List Int} {x : Int} (h : w.even x = true) : w.own ++ (pre ++ [x]).filter w.even = (w.own ++ pre.filter w.even) ++ [x] := by
  rw [List.filter_append, List.filter_cons, if_pos h]
  simp
theorem step_no {w : Wi} {pre : List Int} {x : Int} (h : w.even x = false) : w.own ++ (pre ++ [x]).filter w.even = w.own ++ pre.filter w.even := by
  rw [List.filter_append, List.filter_cons, if_neg (by rw [h]; decide)]
  simp
end Wi
theorem tried_facts {v : Wi} (hv : WOk v) (hm : v.may) {pre : List Int} {x : Int} (hpre : pre ++ [x] <+: v.round) : x.tmod 2 = x % 2 ∧ v.ip.tmod 2 = v.ip % 2 ∧ IntKind.u16.wrap (x % 2) = x % 2 := by
  have hx : x ∈ v.round := hpre.subset (List.mem_append.2 (.inr (List.mem_singleton.2 rfl)))
  have h := (Wi.round_mem hm hv.dr0).1 hx
  have h1 := hm.1
  have h2 := hv.ip0
  refine ⟨Int.tmod_eq_emod_of_nonneg (by omega), Int.tmod_eq_emod_of_nonneg h2, ?_⟩
  rw [IntKind.wrap_u16]; omega
/-- What tried has in memory. -/
structure TrS (W : World) (B l : Nat) (v : Wi) : Prop where
  wi : WiB W B v
  y : W.cell? ⟨B + 1, 0, none⟩ = some (.func (.yield l) #[] #[])
  o : W.cell? ⟨B + 1 + 1, 0, none⟩ = some (.int .u16 v.ip)
  sz : B + 3 ≤ W.heap.size
theorem TrS.keep {W W' : World} {B l : Nat} {v : Wi} (h : TrS W B l v) (hs : W.heap.size ≤ W'.heap.size) (hb : ∀ k, B ≤ k → k < B + 3 → W'.heap[k]? = W.heap[k]?) : TrS W' B l v :=
  ⟨h.wi.keep hs (hb B (Nat.le_refl _) (by omega)), (World.cell?_of_block (w := W) (a := ⟨B + 1, 0, none⟩) (hb (B + 1) (by omega) (by omega))).trans h.y, (World.cell?_of_block (w := W) (a := ⟨B + 1 + 1, 0, none⟩) (hb (B + 1 + 1) (by omega) (by omega))).trans h.o, Nat.le_trans h.sz hs⟩
theorem TrS.above {W W' : World} {B l : Nat} {v : Wi} (h : TrS W B l v) (ha : Above B W W') : TrS W' B l v := h.keep ha.size fun k h1 h2 => ha.same k h1 (by have := h.sz; omega)
theorem TrS.below {W W' : World} {B l n : Nat} {v : Wi} (h : TrS W B l v) (hb : Below n W W') (hn : B + 3 ≤ n) : TrS W' B l v := h.keep hb.size fun k h1 h2 => hb.block k (by omega)
theorem TrS.made (W : World) (l : Nat) (v : Wi) (t1 t2 t3 : TypeId) : TrS (((W.alloc (.cells #[.int .u8 v.pr, .int .u32 v.ii, .int .u16 v.ip, .int .u32 v.oi, .int .u16 v.fr, .int .u16 v.to, .int .u16 v.dr] t1)).alloc (.cells #[.func (.yield l) #[] #[]] t2)).alloc (.cells #[.int .u16 v.ip] t3)) W.heap.size l v :=
  ⟨((WiB.made W v t1).on ((Below.refl _ _).alloc (Nat.le_refl _) _)).on ((Below.refl _ _).alloc (Nat.le_refl _) _), by simp [go_sem], by simp [go_sem], by simp⟩
attribute [local go_sem] Oper.semAt_some
set_option maxHeartbeats 4000000 in
theorem pz_tried_ (v : Wi) (hv : WOk v) (hm : v.may) (W0 : World) : GivesL Try.prog 48 #[.agg #[.int .u8 v.pr, .int .u32 v.ii, .int .u16 v.ip, .int .u32 v.oi, .int .u16 v.fr, .int .u16 v.to, .int .u16 v.dr]] #[] (fun k : Int => .int .u16 k) v.tried W0 := by
  intro l J Jx hl hJ hJx hY h0
  refine (callsIn_wide (n := 12)).1 ?_
  refine callsIn_of_wp_marks Try.func48 rfl trivial ?_ rfl
  simp only [Try.ntmps48, List.size_toArray, List.length_cons, List.length_nil, Nat.reduceAdd, Nat.reduceSub, Array.replicate_succ, Array.replicate_zero, List.push_toArray, List.append_toArray, List.nil_append, List.cons_append, Array.append_empty]
  have HM := Lib.hid hm
  have HV := Lib.hid hv
  have HJ := Lib.hid hJ
  have HY := Lib.hid hY
  have HJX := Lib.hid hJx
  have H0 := Lib.hid h0
  have kh := fun u => callsIn_wide (n := 11).2 (pz_has_ v v.ip u)
  clear hm hv hJ hJx hY h0
  gi_wp2_with fail
  have T3 := TrS.made W0 l v 36 88 32
  have B3 : Below W0.heap.size W0 (((W0.alloc (.cells #[.int .u8 v.pr, .int .u32 v.ii, .int .u16 v.ip, .int .u32 v.oi, .int .u16 v.fr, .int .u16 v.to, .int .u16 v.dr] 36)).alloc (.cells #[.func (.yield l) #[] #[]] 88)).alloc (.cells #[.int .u16 v.ip] 32)) := (((Below.refl _ W0).alloc (Nat.le_refl _) _).alloc (by simp) _).alloc (by simp; omega) _
  generalize (((W0.alloc (.cells #[.int .u8 v.pr, .int .u32 v.ii, .int .u16 v.ip, .int .u32 v.oi, .int .u16 v.fr, .int .u16 v.to, .int .u16 v.dr] 36)).alloc (.cells #[.func (.yield l) #[] #[]] 88)).alloc (.cells #[.int .u16 v.ip] 32)) = W3 at T3 B3 ⊢
  have J3 := HJ.out _ _ _ H0.out B3
  refine ⟨trivial, ?_⟩
  refine (kh _).mono ?_
  rintro e W4 ⟨rfl, b4⟩
  have J4 := HJ.out _ _ _ J3 (b4.mono B3.size)
  have T4 := T3.below b4 T3.sz
  have S4 := Nat.le_trans B3.size b4.size
  clear J3 T3 B3 b4 H0 kh
  obtain ⟨W5, w5⟩ : ∃ W5 : World, W5 = W4 := ⟨_, rfl⟩
  have kr := fun W => pz_round_ v HV.out HM.out W
  have en : ∀ args w, (callFunc 59 args).run Try.prog w = .ok (.enter 59 args) w := enters_of Try.func59 (by kernel_rfl) rfl
  cases hq : v.hasB v.ip with
  | false =>
    have Q4 := Lib.hid (And.intro (show J v.own W4 by rw [Wi.own_no hq]; exact J4) (And.intro T4 S4))
    obtain ⟨_, y0, y1, y2, y3, y4, y5, y6⟩ := id T4.wi
    clear J4 T4 S4 hq w5 W5
    gi_wp2_with fail
    repeat (refine ⟨fun f h => (by cases h), ?_⟩; gi_wp2_with fail)
    clear y0 y1 y2 y3 y4 y5 y6
    apply range_any (gf := 59) (va := #[.agg #[.int .u8 v.pr, .int .u32 v.ii, .int .u16 v.ip, .int .u32 v.oi, .int .u16 v.fr, .int .u16 v.to, .int .u16 v.dr]]) (lb := #[]) (m := 11) (enc := fun k : Int => Value.int .u16 k) (L := v.round)
      (I := fun pre X => J (v.own ++ pre.filter v.even) X ∧ TrS X W0.heap.size l v ∧ W0.heap.size ≤ X.heap.size)
      (Ix := fun _ X => W0.heap.size ≤ X.heap.size ∧ ∃ pre, pre <+: v.tried ∧ Jx pre X)
    case hg => rfl
    case eg => exact en
    case hps => rfl
    case hseq => exact fun X _ _ => kr X
    case hI => exact fun pre A C h hb => ⟨HJ.out _ _ _ h.1 (hb.mono Q4.out.2.2), h.2.1.below hb Q4.out.2.1.sz, Nat.le_trans h.2.2 hb.size⟩
    case hIx => exact fun pre A C h hb => ⟨Nat.le_trans h.1 hb.size, h.2.imp fun q hq => ⟨hq.1, HJX.out _ _ _ hq.2 (hb.mono Q4.out.2.2)⟩⟩
    case h0 => exact ⟨by simpa using Q4.out.1, Q4.out.2.1, Q4.out.2.2⟩
    case hassign =>
      intro l1 x X K hK
      gi_wp2
      exact hK
    case hbody =>
      intro l1 pre x X hl1 hsz ⟨hj, ht, hs⟩ hpre
      have FX := tried_facts HV.out HM.out hpre
      obtain ⟨f1, f2, f3⟩ := FX
      have yy := ht.y
      have yo := ht.o
      cases hx : v.even x with
      | false =>
        have t1 : (x % 2 == v.ip % 2) = false := hx
        have HX := Lib.hid hx
        have HQ := Lib.hid (And.intro hj (And.intro ht hs))
        clear hj ht hs hx
        gi_wp2_with fail
        repeat (refine ⟨fun f h => (by cases h), ?_⟩; gi_wp2_with fail)
        exact ⟨Above.refl _ _, by rw [Wi.step_no HX.out]; exact HQ.out.1, HQ.out.2.1, HQ.out.2.2⟩
      | true =>
        have t1 : (x % 2 == v.ip % 2) = true := hx
        obtain ⟨fn, tmps, assign, body, hy, hR⟩ := yieldAt_round (l0 := l1) (k := 10) (HY.out (v.own ++ pre.filter v.even) x X hs hj (by rw [← Wi.step_yes hx]; exact Wi.pre_one hpre))
        have HX := Lib.hid (Wi.step_yes (w := v) (pre := pre) hx)
        have HP := Lib.hid hpre
        have HQ := Lib.hid (And.intro ht hs)
        clear hj ht hs hx hpre
        gi_wp2_with fail
        refine hR.mono ?_
        rintro e Y (⟨rfl, hj5, ha5⟩ | ⟨rfl, hf, ha5⟩)
        · gi_wp2_with fail
          exact ⟨ha5.mono Q4.out.2.2, by rw [HX.out]; exact hj5, HQ.out.1.above ha5, Nat.le_trans HQ.out.2 ha5.size⟩
        · gi_wp2_with fail
          exact ⟨ha5.mono Q4.out.2.2, Nat.le_trans HQ.out.2 ha5.size, _, by rw [← HX.out]; exact Wi.pre_one HP.out, hf⟩
    case hstop =>
      rintro D pre X rfl hpre ⟨hz, q, hq, hj⟩ hd
      gi_wp2_with fail
      exact ⟨by simp, .inl ⟨_, _, rfl, run_takeDeferred hd, ⟨_, results_none rfl _ _ _, ⟨_, rfl⟩, .inr ⟨q, hq, HJX.out _ _ _ hj (below_putObj X _ Q4.out.2.2 hd)⟩⟩⟩⟩
    case hdone =>
      rintro D X rfl ⟨hj, ht, hs⟩ hd
      have hD : W4.heap.size < X.heap.size := (Array.getElem?_eq_some_iff.1 hd).1
      have QX := Lib.hid (And.intro hj (And.intro ht (And.intro hs (And.intro hd hD))))
      have SD := Lib.hid Q4.out.2.2
      obtain ⟨_, y0, y1, y2, y3, y4, y5, y6⟩ := id ht.wi
      clear Q4 hj ht hs hd hD
      generalize W4.heap.size = D at QX SD ⊢
      gi_wp2_with fail
      clear y0 y1 y2 y3 y4 y5 y6
      apply range_any (gf := 59) (va := #[.agg #[.int .u8 v.pr, .int .u32 v.ii, .int .u16 v.ip, .int .u32 v.oi, .int .u16 v.fr, .int .u16 v.to, .int .u16 v.dr]]) (lb := #[]) (m := 11) (enc := fun k : Int => Value.int .u16 k) (L := v.round)
        (I := fun pre Z => J (v.own ++ (v.round.filter v.even ++ pre)) Z ∧ TrS Z W0.heap.size l v ∧ W0.heap.size ≤ Z.heap.size ∧ Z.heap[D]? = some (.deferred (some [])))
        (Ix := fun _ Z => W0.heap.size ≤ Z.heap.size ∧ Z.heap[D]? = some (.deferred (some [])) ∧ ∃ pre, pre <+: v.tried ∧ Jx pre Z)
      case hg => rfl
      case eg => exact en
      case hps => rfl
      case hseq => exact fun X _ _ => kr X
      case hI => exact fun pre A C h hb => ⟨HJ.out _ _ _ h.1 (hb.mono QX.out.2.2.1), h.2.1.below hb QX.out.2.1.sz, Nat.le_trans h.2.2.1 hb.size, (hb.block D QX.out.2.2.2.2).trans h.2.2.2⟩
      case hIx => exact fun pre A C h hb => ⟨Nat.le_trans h.1 hb.size, (hb.block D QX.out.2.2.2.2).trans h.2.1, h.2.2.imp fun q hq => ⟨hq.1, HJX.out _ _ _ hq.2 (hb.mono QX.out.2.2.1)⟩⟩
      case h0 => exact ⟨by rw [List.append_nil]; exact QX.out.1, QX.out.2.1, QX.out.2.2.1, QX.out.2.2.2.1⟩
      case hassign =>
        intro l1 x Z K hK
        gi_wp2
        exact hK
      case hbody =>
        intro l1 pre x Z hl1 hsz ⟨hj, ht, hs, hd⟩ hpre
        have hlt : D < Z.heap.size := (Array.getElem?_eq_some_iff.1 hd).1
        obtain ⟨fn, tmps, assign, body, hy, hR⟩ := yieldAt_round (l0 := l1) (k := 10) (HY.out (v.own ++ (v.round.filter v.even ++ pre)) x Z hs hj (by rw [List.append_assoc, List.append_assoc]; exact Wi.pre_two hpre))
        have yy := ht.y
        have HP := Lib.hid hpre
        have HQ := Lib.hid (And.intro ht (And.intro hs (And.intro hd hlt)))
        clear hj ht hs hd hpre hlt
        gi_wp2_with fail
        refine hR.mono ?_
        rintro e Y (⟨rfl, hj5, ha5⟩ | ⟨rfl, hf, ha5⟩)
        · gi_wp2_with fail
          exact ⟨ha5.mono QX.out.2.2.1, by rw [List.append_assoc, List.append_assoc] at hj5; exact hj5, HQ.out.1.above ha5, Nat.le_trans HQ.out.2.1 ha5.size, (ha5.same D SD.out HQ.out.2.2.2).trans HQ.out.2.2.1⟩
        · gi_wp2_with fail
          exact ⟨ha5.mono QX.out.2.2.1, Nat.le_trans HQ.out.2.1 ha5.size, (ha5.same D SD.out HQ.out.2.2.2).trans HQ.out.2.2.1, _, by rw [List.append_assoc, List.append_assoc]; exact Wi.pre_two HP.out, hf⟩
      case hstop =>
        rintro D2 pre Z rfl hpre ⟨hz, hd1, q, hq, hj⟩ hd2
        gi_wp2_with fail
        have hne : D ≠ X.heap.size := Nat.ne_of_lt QX.out.2.2.2.2
        have hd1' := (World.putObj_heap_other (w := Z) (r := X.heap.size) (o := .deferred none) hne).trans hd1
        exact ⟨by simp, .inl ⟨_, _, rfl, run_takeDeferred hd2, ⟨by simp, .inl ⟨_, _, rfl, run_takeDeferred hd1', ⟨_, results_none rfl _ _ _, ⟨_, rfl⟩, .inr ⟨q, hq, HJX.out _ _ _ (HJX.out _ _ _ hj (below_putObj Z _ QX.out.2.2.1 hd2)) (below_putObj _ _ SD.out hd1')⟩⟩⟩⟩⟩⟩
      case hdone =>
        rintro D2 Z rfl ⟨hj, ht, hs, hd1⟩ hd2
        gi_wp2_with fail
        have hne : D ≠ X.heap.size := Nat.ne_of_lt QX.out.2.2.2.2
        have hd1' := (World.putObj_heap_other (w := Z) (r := X.heap.size) (o := .deferred none) hne).trans hd1
        exact ⟨by simp, .inl ⟨_, _, rfl, run_takeDeferred hd2, ⟨by simp, .inl ⟨_, _, rfl, run_takeDeferred hd1', ⟨_, results_none rfl _ _ _, ⟨_, rfl⟩, .inl (HJ.out _ _ _ (HJ.out _ _ _ hj (below_putObj Z _ QX.out.2.2.1 hd2)) (below_putObj _ _ SD.out hd1'))⟩⟩⟩⟩⟩
  | true =>
    obtain ⟨fn, tmps, assign, body, hy, hR⟩ := yieldAt_any (k := 11) (HY.out [] v.ip W4 S4 J4 (by rw [← Wi.own_yes hq]; exact Wi.pre_own))
    have yy := T4.y
    have yo := T4.o
    have OW := Lib.hid (Wi.own_yes hq)
    have TT := Lib.hid T4
    have SS := Lib.hid S4
    clear J4 T4 S4 hq w5 W5
    gi_wp2_with fail
    refine hR.mono ?_
    rintro e W5 (⟨rfl, hj5, ha5⟩ | ⟨rfl, hf, _⟩)
    · have T5 := TT.out.above ha5
      have Q4 := Lib.hid (And.intro (show J v.own W5 by rw [OW.out]; exact hj5) (And.intro T5 (Nat.le_trans SS.out ha5.size)))
      obtain ⟨_, y0, y1, y2, y3, y4, y5, y6⟩ := id T5.wi
      clear hj5 ha5 T5 TT SS OW hy hR yy yo
      gi_wp2_with fail
      clear y0 y1 y2 y3 y4 y5 y6
      clear W4
      apply range_any (gf := 59) (va := #[.agg #[.int .u8 v.pr, .int .u32 v.ii, .int .u16 v.ip, .int .u32 v.oi, .int .u16 v.fr, .int .u16 v.to, .int .u16 v.dr]]) (lb := #[]) (m := 11) (enc := fun k : Int => Value.int .u16 k) (L := v.round)
        (I := fun pre X => J (v.own ++ pre.filter v.even) X ∧ TrS X W0.heap.size l v ∧ W0.heap.size ≤ X.heap.size)
        (Ix := fun _ X => W0.heap.size ≤ X.heap.size ∧ ∃ pre, pre <+: v.tried ∧ Jx pre X)
      case hg => rfl
      case eg => exact en
      case hps => rfl
      case hseq => exact fun X _ _ => kr X
      case hI => exact fun pre A C h hb => ⟨HJ.out _ _ _ h.1 (hb.mono Q4.out.2.2), h.2.1.below hb Q4.out.2.1.sz, Nat.le_trans h.2.2 hb.size⟩
      case hIx => exact fun pre A C h hb => ⟨Nat.le_trans h.1 hb.size, h.2.imp fun q hq => ⟨hq.1, HJX.out _ _ _ hq.2 (hb.mono Q4.out.2.2)⟩⟩
      case h0 => exact ⟨by simpa using Q4.out.1, Q4.out.2.1, Q4.out.2.2⟩
      case hassign =>
        intro l1 x X K hK
        gi_wp2
        exact hK
      case hbody =>
        intro l1 pre x X hl1 hsz ⟨hj, ht, hs⟩ hpre
        have FX := tried_facts HV.out HM.out hpre
        obtain ⟨f1, f2, f3⟩ := FX
        have yy := ht.y
        have yo := ht.o
        cases hx : v.even x with
        | false =>
          have t1 : (x % 2 == v.ip % 2) = false := hx
          have HX := Lib.hid hx
          have HQ := Lib.hid (And.intro hj (And.intro ht hs))
          clear hj ht hs hx
          gi_wp2_with fail
          repeat (refine ⟨fun f h => (by cases h), ?_⟩; gi_wp2_with fail)
          exact ⟨Above.refl _ _, by rw [Wi.step_no HX.out]; exact HQ.out.1, HQ.out.2.1, HQ.out.2.2⟩
        | true =>
          have t1 : (x % 2 == v.ip % 2) = true := hx
          obtain ⟨fn, tmps, assign, body, hy, hR⟩ := yieldAt_round (l0 := l1) (k := 10) (HY.out (v.own ++ pre.filter v.even) x X hs hj (by rw [← Wi.step_yes hx]; exact Wi.pre_one hpre))
          have HX := Lib.hid (Wi.step_yes (w := v) (pre := pre) hx)
          have HP := Lib.hid hpre
          have HQ := Lib.hid (And.intro ht hs)
          clear hj ht hs hx hpre
          gi_wp2_with fail
          refine hR.mono ?_
          rintro e Y (⟨rfl, hj5, ha5⟩ | ⟨rfl, hf, ha5⟩)
          · gi_wp2_with fail
            exact ⟨ha5.mono Q4.out.2.2, by rw [HX.out]; exact hj5, HQ.out.1.above ha5, Nat.le_trans HQ.out.2 ha5.size⟩
          · gi_wp2_with fail
            exact ⟨ha5.mono Q4.out.2.2, Nat.le_trans HQ.out.2 ha5.size, _, by rw [← HX.out]; exact Wi.pre_one HP.out, hf⟩
      case hstop =>
        rintro D pre X rfl hpre ⟨hz, q, hq, hj⟩ hd
        gi_wp2_with fail
        exact ⟨by simp, .inl ⟨_, _, rfl, run_takeDeferred hd, ⟨_, results_none rfl _ _ _, ⟨_, rfl⟩, .inr ⟨q, hq, HJX.out _ _ _ hj (below_putObj X _ Q4.out.2.2 hd)⟩⟩⟩⟩
      case hdone =>
        rintro D X rfl ⟨hj, ht, hs⟩ hd
        have hD : W5.heap.size < X.heap.size := (Array.getElem?_eq_some_iff.1 hd).1
        have QX := Lib.hid (And.intro hj (And.intro ht (And.intro hs (And.intro hd hD))))
        have SD := Lib.hid Q4.out.2.2
        obtain ⟨_, y0, y1, y2, y3, y4, y5, y6⟩ := id ht.wi
        clear Q4 hj ht hs hd hD
        generalize W5.heap.size = D at QX SD ⊢
        gi_wp2_with fail
        clear y0 y1 y2 y3 y4 y5 y6
        apply range_any (gf := 59) (va := #[.agg #[.int .u8 v.pr, .int .u32 v.ii, .int .u16 v.ip, .int .u32 v.oi, .int .u16 v.fr, .int .u16 v.to, .int .u16 v.dr]]) (lb := #[]) (m := 11) (enc := fun k : Int => Value.int .u16 k) (L := v.round)
          (I := fun pre Z => J (v.own ++ (v.round.filter v.even ++ pre)) Z ∧ TrS Z W0.heap.size l v ∧ W0.heap.size ≤ Z.heap.size ∧ Z.heap[D]? = some (.deferred (some [])))
          (Ix := fun _ Z => W0.heap.size ≤ Z.heap.size ∧ Z.heap[D]? = some (.deferred (some [])) ∧ ∃ pre, pre <+: v.tried ∧ Jx pre Z)
        case hg => rfl
        case eg => exact en
        case hps => rfl
        case hseq => exact fun X _ _ => kr X
        case hI => exact fun pre A C h hb => ⟨HJ.out _ _ _ h.1 (hb.mono QX.out.2.2.1), h.2.1.below hb QX.out.2.1.sz, Nat.le_trans h.2.2.1 hb.size, (hb.block D QX.out.2.2.2.2).trans h.2.2.2⟩
        case hIx => exact fun pre A C h hb => ⟨Nat.le_trans h.1 hb.size, (hb.block D QX.out.2.2.2.2).trans h.2.1, h.2.2.imp fun q hq => ⟨hq.1, HJX.out _ _ _ hq.2 (hb.mono QX.out.2.2.1)⟩⟩
        case h0 => exact ⟨by rw [List.append_nil]; exact QX.out.1, QX.out.2.1, QX.out.2.2.1, QX.out.2.2.2.1⟩
        case hassign =>
          intro l1 x Z K hK
          gi_wp2
          exact hK
        case hbody =>
          intro l1 pre x Z hl1 hsz ⟨hj, ht, hs, hd⟩ hpre
          have hlt : D < Z.heap.size := (Array.getElem?_eq_some_iff.1 hd).1
          obtain ⟨fn, tmps, assign, body, hy, hR⟩ := yieldAt_round (l0 := l1) (k := 10) (HY.out (v.own ++ (v.round.filter v.even ++ pre)) x Z hs hj (by rw [List.append_assoc, List.append_assoc]; exact Wi.pre_two hpre))
          have yy := ht.y
          have HP := Lib.hid hpre
          have HQ := Lib.hid (And.intro ht (And.intro hs (And.intro hd hlt)))
          clear hj ht hs hd hpre hlt
          gi_wp2_with fail
          refine hR.mono ?_
          rintro e Y (⟨rfl, hj5, ha5⟩ | ⟨rfl, hf, ha5⟩)
          · gi_wp2_with fail
            exact ⟨ha5.mono QX.out.2.2.1, by rw [List.append_assoc, List.append_assoc] at hj5; exact hj5, HQ.out.1.above ha5, Nat.le_trans HQ.out.2.1 ha5.size, (ha5.same D SD.out HQ.out.2.2.2).trans HQ.out.2.2.1⟩
          · gi_wp2_with fail
            exact ⟨ha5.mono QX.out.2.2.1, Nat.le_trans HQ.out.2.1 ha5.size, (ha5.same D SD.out HQ.out.2.2.2).trans HQ.out.2.2.1, _, by rw [List.append_assoc, List.append_assoc]; exact Wi.pre_two HP.out, hf⟩
        case hstop =>
          rintro D2 pre Z rfl hpre ⟨hz, hd1, q, hq, hj⟩ hd2
          gi_wp2_with fail
          have hne : D ≠ X.heap.size := Nat.ne_of_lt QX.out.2.2.2.2
          have hd1' := (World.putObj_heap_other (w := Z) (r := X.heap.size) (o := .deferred none) hne).trans hd1
          exact ⟨by simp, .inl ⟨_, _, rfl, run_takeDeferred hd2, ⟨by simp, .inl ⟨_, _, rfl, run_takeDeferred hd1', ⟨_, results_none rfl _ _ _, ⟨_, rfl⟩, .inr ⟨q, hq, HJX.out _ _ _ (HJX.out _ _ _ hj (below_putObj Z _ QX.out.2.2.1 hd2)) (below_putObj _ _ SD.out hd1')⟩⟩⟩⟩⟩⟩
        case hdone =>
          rintro D2 Z rfl ⟨hj, ht, hs, hd1⟩ hd2
          gi_wp2_with fail
          have hne : D ≠ X.heap.size := Nat.ne_of_lt QX.out.2.2.2.2
          have hd1' := (World.putObj_heap_other (w := Z) (r := X.heap.size) (o := .deferred none) hne).trans hd1
          exact ⟨by simp, .inl ⟨_, _, rfl, run_takeDeferred hd2, ⟨by simp, .inl ⟨_, _, rfl, run_takeDeferred hd1', ⟨_, results_none rfl _ _ _, ⟨_, rfl⟩, .inl (HJ.out _ _ _ (HJ.out _ _ _ hj (below_putObj Z _ QX.out.2.2.1 hd2)) (below_putObj _ _ SD.out hd1'))⟩⟩⟩⟩⟩
    · gi_wp2_with fail
      exact ⟨_, results_none rfl _ _ _, ⟨_, rfl⟩, .inr ⟨_, by rw [List.nil_append, ← OW.out]; exact Wi.pre_own, hf⟩⟩
end Go.Proofs.Ytbbadpidolfleaa
