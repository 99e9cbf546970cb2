/- The code's epochs (layer 14): over, part, Ripe. Written by gen_epoze.py. -/
import Derived.Test.YtghicdajcmkfjaaEpoZD
namespace Go.Proofs.Ytghicdajcmkfjaa
set_option linter.unusedVariables false
set_option linter.unusedSimpArgs false
open Go.ChangeShapes Go.WideShapes Go.ChangeAt Go.RowKit Go.PlainAid
attribute [local go_sem ↓] Go.wp_at_zero Go.wp_at_succ
/-- Whether nobody can see any more what waits. -/
def Ep.over (x : Ep) (r : Nat × Nat) : Bool := decide (r.2 + 2 ≤ x.now)
theorem over_facts {e n : Nat} (h : n < 4611686018427387904) : wrap64 ((n : Int) - 2) = (n : Int) - 2 ∧ IntKind.i64.wrap ((n : Int) - 2) = (n : Int) - 2 ∧ decide ((e : Int) ≤ (n : Int) - 2) = decide (e + 2 ≤ n) :=
  ⟨IntWalk.wrap64_in _ (by omega), IntWalk.i64_in _ (by omega), decide_eq_decide.2 (by omega)⟩
set_option maxHeartbeats 4000000 in
set_option maxRecDepth 100000 in
theorem over14_ (x : Ep) (p : Nat) (r : Nat × Nat) (w : World) (hb : x.now < 4611686018427387904) (hp : p < w.heap.size) (c0 : w.cell? ⟨p, 0, none⟩ = some (.int .i64 (x.now : Int))) : Calls Try.prog 36 #[.pointer (some ⟨p, 0, none⟩), .agg #[.int .i64 (r.1 : Int), .int .i64 (r.2 : Int)]] w fun e w' => e = .returned (.bool (x.over r)) ∧ Below w.heap.size w w' := by
  obtain ⟨q1, q2, q3⟩ := over_facts (e := r.2) hb
  have Q := Lib.hid (And.intro q1 q3)
  clear q1 q2 q3 hb
  go_enter Try.func36, Try.ntmps36
  go_upto_region 1 with fail
  have B1 : Below w.heap.size w (w.alloc (.cells #[.int .i64 (r.1 : Int), .int .i64 (r.2 : Int)] 61)) := (Below.refl _ _).alloc (Nat.le_refl _) _
  have b1 : (w.alloc (.cells #[.int .i64 (r.1 : Int), .int .i64 (r.2 : Int)] 61)).cell? ⟨w.heap.size, 1, none⟩ = some (.int .i64 (r.2 : Int)) := by simp [go_sem]
  have d0 := (B1.cell (p := ⟨p, 0, none⟩) hp).trans c0
  obtain ⟨u, hu⟩ : ∃ x_ : World, x_ = w.alloc (.cells #[.int .i64 (r.1 : Int), .int .i64 (r.2 : Int)] 61) := ⟨_, rfl⟩
  rw [← hu] at B1 b1 d0 ⊢
  clear hu c0 hp
  go_region
  go_wp2
  go_ret
  refine ⟨?_, B1.drew⟩
  show Ending.returned (.bool (decide ((r.2 : Int) ≤ wrap64 ((x.now : Int) - 2)))) = _
  rw [Q.out.1, Q.out.2]
  rfl
/-- Two rows of pairs of the call's own, apart. -/
structure PartAt (w0 w : World) (v4 v5 : Value) (l4 l5 : List (Nat × Nat)) : Prop where
  r4 : w.ownsRow w0.heap.size 61 2 v4 l4.length (valsW l4)
  r5 : w.ownsRow w0.heap.size 61 2 v5 l5.length (valsW l5)
  ap : ∀ k, v4.ownBlock = some k → v5.ownBlock ≠ some k
  below : Below w0.heap.size w0 w
theorem PartAt.turn {w0 w : World} {v4 v5 : Value} {l4 l5 : List (Nat × Nat)} (h : PartAt w0 w v4 v5 l4 l5) : PartAt w0 w v5 v4 l5 l4 := ⟨h.r5, h.r4, fun k h5 h4 => h.ap k h4 h5, h.below⟩
theorem PartAt.on {w0 w w' : World} {v4 v5 : Value} {l4 l5 : List (Nat × Nat)} (h : PartAt w0 w v4 v5 l4 l5) (hb : Below w.heap.size w w') : PartAt w0 w' v4 v5 l4 l5 :=
  ⟨own_kept h.r4 (fun k hk => hb.block k (World.ownsRow.lt h.r4 k hk).2), own_kept h.r5 (fun k hk => hb.block k (World.ownsRow.lt h.r5 k hk).2), h.ap, h.below.trans (hb.mono h.below.size)⟩
theorem PartAt.push {w0 w w' : World} {v4 v5 v4' : Value} {l4 l5 : List (Nat × Nat)} {o : Obj} {z : Nat × Nat} (h : PartAt w0 w v4 v5 l4 l5) (hg : (w.alloc o).grownBy w' v4.ownBlock)
    (hr : w'.ownsRow w0.heap.size 61 2 v4' (l4.length + 1) (valsW l4 ++ valsW [z])) (hb : v4'.ownBlock = v4.ownBlock ∨ v4'.ownBlock = some (w.alloc o).heap.size) : PartAt w0 w' v4' v5 (l4 ++ [z]) l5 := by
  refine ⟨?_, own_kept h.r5 (fun k hk => grow_at hg (World.ownsRow.lt h.r5 k hk).2 (fun e => h.ap k e hk)), fun k h4 h5 => ?_, grow_below h.below hg (fun k hk => (World.ownsRow.lt h.r4 k hk).1)⟩
  · rw [List.length_append]
    show w'.ownsRow _ _ _ _ (l4.length + 1) _
    rw [valsW_app]
    exact hr
  · rcases hb with e | e
    · exact h.ap k (e ▸ h4) h5
    · rw [e] at h4
      have := (World.ownsRow.lt h.r5 k h5).2
      simp only [Option.some.injEq, World.size_alloc] at h4
      omega
theorem take_yes {l : List (Nat × Nat)} {p : Nat × Nat → Bool} {k : Nat} (h : k < l.length) (hp : p (l.getD k (0, 0)) = true) : (l.take (k + 1)).filter p = (l.take k).filter p ++ [l.getD k (0, 0)] := by
  rw [List.take_add_one, List.getElem?_eq_getElem h, List.filter_append]
  rw [List.getD_eq_getElem?_getD, List.getElem?_eq_getElem h] at hp ⊢
  have hq : p l[k] = true := hp
  simp [List.filter_cons, hq]
theorem take_no {l : List (Nat × Nat)} {p : Nat × Nat → Bool} {k : Nat} (h : k < l.length) (hp : p (l.getD k (0, 0)) = false) : (l.take (k + 1)).filter p = (l.take k).filter p := by
  rw [List.take_add_one, List.getElem?_eq_getElem h, List.filter_append]
  rw [List.getD_eq_getElem?_getD, List.getElem?_eq_getElem h] at hp
  have hq : p l[k] = false := hp
  simp [List.filter_cons, hq]
theorem take_le (l : List (Nat × Nat)) (p : Nat × Nat → Bool) (k : Nat) : ((l.take k).filter p).length ≤ l.length := by
  have h1 := List.length_filter_le p (l.take k)
  have h3 : (l.take k).length ≤ l.length := by rw [List.length_take]; omega
  omega
set_option maxHeartbeats 4000000 in
set_option maxRecDepth 100000 in
theorem part_ (g : Nat) (v : Value) (p : Nat × Nat → Bool) (a : Option Addr) (n cap : Nat) (zs : List (Nat × Nat)) (w : World) (eg : ∀ args w, (callFunc g args).run Try.prog w = .ok (.enter g args) w) (hn : n = zs.length) (hR : RowW w a zs) (hl : zs.length ≤ 256) (hp : PredW g v p zs w) :
    Calls Try.prog 35 #[.slice a n cap, .func (.func g) #[v] #[]] w fun e w' => ∃ v4 v5, e = .returned (.tuple #[v4, v5]) ∧ PartAt w w' v4 v5 (zs.filter p) (zs.filter fun r => !p r) := by
  subst hn
  have RZ := Lib.hid hR
  have HL := Lib.hid hl
  have HP := Lib.hid hp
  clear hR hl hp
  obtain ⟨j0, hj0, jz0, jz1, jz2⟩ := waitC_info
  go_enter Try.func35, Try.ntmps35
  go_upto_region 2 with fail
  go_loopw [4, 5, 10] (fun s4 s5 si wr => ∃ i : Nat, i ≤ zs.length ∧ si = .int .i64 (i : Int) ∧ PartAt w wr s4 s5 ((zs.take i).filter p) ((zs.take i).filter fun r => !p r)) (fun _ _ si _ => zs.length - (intOf si).toNat)
  case atStart => exact ⟨0, Nat.zero_le _, rfl, World.ownsRow_nil _ _ _ _, World.ownsRow_nil _ _ _ _, (fun k h => nomatch h), Below.refl _ _⟩
  case round =>
    obtain ⟨i, hi, rfl, hP⟩ := hrel
    have EW := Lib.hid (step_14 (j := i) (Nat.lt_of_le_of_lt (Nat.le_trans hi HL.out) (by decide)))
    by_cases hlt : i < zs.length
    · have HI := Lib.hid hlt
      obtain ⟨e10, e12, e13⟩ := int_lt hlt
      obtain ⟨b, rfl, hb, hc⟩ := (RZ.out.on hP.below).resolve_left (Nat.ne_of_gt (Nat.lt_of_le_of_lt (Nat.zero_le i) hlt))
      obtain ⟨c0, c1⟩ := hc i hlt
      have hm : zs.getD i (0, 0) ∈ zs := by simp [List.getD, hlt]
      obtain ⟨r, hr⟩ : ∃ r, r = zs.getD i (0, 0) := ⟨_, rfl⟩
      rw [← hr] at c0 c1 hm
      obtain ⟨z1, z2⟩ := r
      have BA : Below wr.heap.size wr (wr.alloc (.cells #[.int .i64 (z1 : Int), .int .i64 (z2 : Int)] 61)) := (Below.refl _ _).alloc (Nat.le_refl _) _
      have P1 := Lib.hid (hP.on BA)
      have hcall := HP.out (wr.alloc (.cells #[.int .i64 (z1 : Int), .int .i64 (z2 : Int)] 61)) (z1, z2) P1.out.below hm
      have b0 : (wr.alloc (.cells #[.int .i64 (z1 : Int), .int .i64 (z2 : Int)] 61)).cell? ⟨wr.heap.size, 0, none⟩ = some (.int .i64 (z1 : Int)) := by simp [go_sem]
      have b1 : (wr.alloc (.cells #[.int .i64 (z1 : Int), .int .i64 (z2 : Int)] 61)).cell? ⟨wr.heap.size, 1, none⟩ = some (.int .i64 (z2 : Int)) := by simp [go_sem]
      have HR := Lib.hid hr
      clear hr hi hlt hm hc hP BA hb
      cases hq : p (z1, z2) with
      | true =>
        rw [hq] at hcall
        have HQ := Lib.hid hq
        clear hq
        go_wp2_with fail
        go_at_fn g
        refine hcall.mono ?_; rintro e w2 ⟨rfl, b2⟩
        go_upto_region 5 with fail
        have P2 := (P1.out.on b2)
        have y0 := (b2.cell (p := ⟨wr.heap.size, 0, none⟩) (by simp)).trans b0
        have y1 := (b2.cell (p := ⟨wr.heap.size, 1, none⟩) (by simp)).trans b1
        obtain ⟨m1, m2, m3⟩ := few_ok HL.out (take_le zs p i)
        obtain ⟨v', w', hrun, hown, hgrow, _, hblk⟩ := run_append_own_at (P := Try.prog) (w := w2.alloc (.cells #[.int .i64 (z1 : Int), .int .i64 (z2 : Int)] 61)) w.heap.size 42 42 61 j0 _ 2 16 Try.underlying42 hj0 jz0 jz1 jz2 rfl (Nat.succ_pos _) u4 ((zs.take i).filter p).length (valsW ((zs.take i).filter p)) (P2.r4.alloc (.cells #[.int .i64 (z1 : Int), .int .i64 (z2 : Int)] 61)) ⟨w2.heap.size, 0, none⟩ 1 1 (valsW [(z1, z2)]) rfl (waitP w2 z1 z2 _) (onesW _) m1 m2 (Nat.le_trans P2.below.size (Nat.le_trans (Nat.le_succ _) (Nat.le_of_eq (World.size_alloc ..).symm)))
        have RT := Lib.hid (P2.push hgrow hown hblk)
        have RUN := Lib.hid hrun
        clear hrun hown hgrow hblk P2 m1 m2 m3 hcall b0 b1 c0 c1
        go_wp2_with (at_builtin; refine Lib.wpList_append_run _ rfl _ _ 42 42 rfl _ _ rfl rfl _ _ RUN.out ?_)
        go_roundw
        case rel =>
          refine ⟨i + 1, HI.out, by simp [EW.out], ?_⟩
          have e1 := take_yes (p := p) HI.out (by rw [← HR.out]; exact HQ.out)
          have e2 := take_no (p := fun r => !p r) HI.out (by rw [← HR.out]; simp [HQ.out])
          rw [e1, e2, ← HR.out]
          exact RT.out
        case measure => first | exact step_meas14 EW.out (step_less14 HI.out) | (simp [EW.out]; exact step_less14 HI.out) | exact step_less14 HI.out
      | false =>
        rw [hq] at hcall
        have HQ := Lib.hid hq
        clear hq
        go_wp2_with fail
        go_at_fn g
        refine hcall.mono ?_; rintro e w2 ⟨rfl, b2⟩
        go_upto_region 6 with fail
        have P2 := (P1.out.on b2)
        have y0 := (b2.cell (p := ⟨wr.heap.size, 0, none⟩) (by simp)).trans b0
        have y1 := (b2.cell (p := ⟨wr.heap.size, 1, none⟩) (by simp)).trans b1
        obtain ⟨m1, m2, m3⟩ := few_ok HL.out (take_le zs (fun r => !p r) i)
        obtain ⟨v', w', hrun, hown, hgrow, _, hblk⟩ := run_append_own_at (P := Try.prog) (w := w2.alloc (.cells #[.int .i64 (z1 : Int), .int .i64 (z2 : Int)] 61)) w.heap.size 42 42 61 j0 _ 2 16 Try.underlying42 hj0 jz0 jz1 jz2 rfl (Nat.succ_pos _) u5 ((zs.take i).filter fun r => !p r).length (valsW ((zs.take i).filter fun r => !p r)) (P2.r5.alloc (.cells #[.int .i64 (z1 : Int), .int .i64 (z2 : Int)] 61)) ⟨w2.heap.size, 0, none⟩ 1 1 (valsW [(z1, z2)]) rfl (waitP w2 z1 z2 _) (onesW _) m1 m2 (Nat.le_trans P2.below.size (Nat.le_trans (Nat.le_succ _) (Nat.le_of_eq (World.size_alloc ..).symm)))
        have RT := Lib.hid (P2.turn.push hgrow hown hblk)
        have RUN := Lib.hid hrun
        clear hrun hown hgrow hblk P2 m1 m2 m3 hcall b0 b1 c0 c1
        go_wp2_with (at_builtin; refine Lib.wpList_append_run _ rfl _ _ 42 42 rfl _ _ rfl rfl _ _ RUN.out ?_)
        go_roundw
        case rel =>
          refine ⟨i + 1, HI.out, by simp [EW.out], ?_⟩
          have e1 := take_no (p := p) HI.out (by rw [← HR.out]; exact HQ.out)
          have e2 := take_yes (p := fun r => !p r) HI.out (by rw [← HR.out]; simp [HQ.out])
          rw [e1, e2, ← HR.out]
          exact RT.out.turn
        case measure => first | exact step_meas14 EW.out (step_less14 HI.out) | (simp [EW.out]; exact step_less14 HI.out) | exact step_less14 HI.out
    · obtain rfl : i = zs.length := Nat.le_antisymm hi (Nat.le_of_not_lt hlt)
      have t1 : decide ((zs.length : Int) < (zs.length : Int)) = false := by simp
      rw [List.take_length] at hP
      have P := Lib.hid hP
      clear hlt hi hP
      go_wp2
      go_ret2
      exact ⟨_, _, rfl, P.out⟩
end Go.Proofs.Ytghicdajcmkfjaa
