/- The code's epochs (layer 14): slots that wait, by a method value; Defer. Written by gen_epozd.py. -/
import Derived.Test.YtghicdajcmkfjaaEpoZC
namespace Go.Proofs.Ytghicdajcmkfjaa
set_option linter.unusedVariables false
set_option linter.unusedSimpArgs false
open Go.ChangeShapes Go.WideShapes Go.ChangeAt Go.RowKit Go.PlainAid
attribute [local go_sem ↓] Go.wp_at_zero Go.wp_at_succ
/-- Pairs in a row. -/
def RowW (w : World) (a : Option Addr) (l : List (Nat × Nat)) : Prop := l.length = 0 ∨ ∃ b, a = some ⟨b, 0, none⟩ ∧ b < w.heap.size ∧ ∀ k, k < l.length → w.cell? ⟨b, k * 2, none⟩ = some (.int .i64 (((l.getD k (0, 0)).1 : Nat) : Int)) ∧ w.cell? ⟨b, k * 2 + 1, none⟩ = some (.int .i64 (((l.getD k (0, 0)).2 : Nat) : Int))
theorem RowW.on {w w' : World} {a : Option Addr} {l : List (Nat × Nat)} (h : RowW w a l) (hb : Below w.heap.size w w') : RowW w' a l :=
  h.imp id fun ⟨b, e, h1, h2⟩ => ⟨b, e, Nat.lt_of_lt_of_le h1 hb.size, fun k hk => ⟨(hb.cell (p := ⟨b, k * 2, none⟩) h1).trans (h2 k hk).1, (hb.cell (p := ⟨b, k * 2 + 1, none⟩) h1).trans (h2 k hk).2⟩⟩
theorem own_row {w : World} {B c : Nat} {a : Option Addr} {l : List (Nat × Nat)} (h : w.ownsRow B 61 2 (.slice a l.length c) l.length (valsW l)) : RowW w a l := by
  by_cases h0 : l.length = 0
  · exact .inl h0
  · obtain ⟨g, c', e, hg⟩ := own_block h (Nat.pos_of_ne_zero h0)
    injection e with e1 e2 e3
    subst e1
    exact .inr ⟨g, rfl, hg, fun k hk => ⟨(World.ownsRow.cellAt h (k * 2) (by omega)).trans (valsW_at _ _ hk).1, (World.ownsRow.cellAt h (k * 2 + 1) (by omega)).trans (valsW_at _ _ hk).2⟩⟩
/-- What a method value tells of what waits, in whatever world is behind. -/
def PredW (g : Nat) (v : Value) (p : Nat × Nat → Bool) (l : List (Nat × Nat)) (w : World) : Prop := ∀ (W : World) (r : Nat × Nat), Below w.heap.size w W → r ∈ l → Calls Try.prog g #[v, .agg #[.int .i64 (r.1 : Int), .int .i64 (r.2 : Int)]] W fun e w' => e = .returned (.bool (p r)) ∧ Below W.heap.size W w'
theorem PredW.on {g : Nat} {v : Value} {p : Nat × Nat → Bool} {l : List (Nat × Nat)} {w w' : World} (h : PredW g v p l w) (hb : Below w.heap.size w w') : PredW g v p l w' := fun W r hW hr => h W r (hb.trans (hW.mono hb.size)) hr
set_option maxHeartbeats 4000000 in
set_option maxRecDepth 100000 in
theorem indexW_ (g : Nat) (v : Value) (p : Nat × Nat → Bool) (a : Option Addr) (n cap : Nat) (zs : List (Nat × Nat)) (w : World) (eg : ∀ args w, (callFunc g args).run Try.prog w = .ok (.enter g args) w) (hn : n = zs.length) (hR : RowW w a zs) (hl : zs.length ≤ 1000) (hp : PredW g v p zs w) :
    Calls Try.prog 41 #[.slice a n cap, .func (.func g) #[v] #[]] w fun e w' => e = .returned (.int .i64 (placeL zs p)) ∧ Below w.heap.size w w' := by
  subst hn
  have RZ := Lib.hid hR
  have HL := Lib.hid hl
  have HP := Lib.hid hp
  clear hR hl hp
  go_enter Try.func41, Try.ntmps41
  go_wp2
  go_loopw [5, 8] (fun s5 s8 wr => ∃ i : Nat, i ≤ zs.length ∧ s8 = .int .i64 (i : Int) ∧ Below w.heap.size w wr ∧ Hid (∀ j, j < i → p (zs.getD j (0, 0)) = false)) (fun _ s8 _ => zs.length - (intOf s8).toNat)
  case atStart => exact ⟨0, Nat.zero_le _, rfl, Below.refl _ _, fun j hj => absurd hj (Nat.not_lt_zero j)⟩
  case round =>
    obtain ⟨i, hi, rfl, bb, HF⟩ := hrel
    have EW := Lib.hid (step_14 (j := i) (Nat.lt_of_le_of_lt (Nat.le_trans hi HL.out) (by decide)))
    by_cases hlt : i < zs.length
    · have HI := Lib.hid hlt
      obtain ⟨e10, e12, e13⟩ := int_lt hlt
      obtain ⟨b, rfl, hb, hc⟩ := (RZ.out.on bb).resolve_left (Nat.ne_of_gt (Nat.lt_of_le_of_lt (Nat.zero_le i) hlt))
      obtain ⟨c0, c1⟩ := hc i hlt
      have hm : zs.getD i (0, 0) ∈ zs := by simp [List.getD, hlt]
      obtain ⟨r, hr⟩ : ∃ r, r = zs.getD i (0, 0) := ⟨_, rfl⟩
      rw [← hr] at c0 c1 hm
      have hcall := HP.out wr r bb hm
      have HR := Lib.hid hr
      clear hr hi hlt hm hc
      cases hq : p r with
      | true =>
        rw [hq] at hcall
        have HV : Hid (placeL zs p = (i : Int)) := placeL_hit HI.out HF.out (by rw [← HR.out]; exact hq)
        clear hq
        go_wp2_with (go_at_fn g; refine hcall.mono ?_; rintro e w' ⟨rfl, hb'⟩)
        go_ret
        exact ⟨by rw [HV.out]; rfl, bb.trans (hb'.mono bb.size)⟩
      | false =>
        rw [hq] at hcall
        have HQ := Lib.hid hq
        clear hq
        go_wp2_with (go_at_fn g; refine hcall.mono ?_; rintro e w' ⟨rfl, hb'⟩)
        have BN := bb.trans (hb'.mono bb.size)
        go_roundw
        case rel =>
          refine ⟨i + 1, HI.out, by simp [EW.out], BN, fun j hj => ?_⟩
          by_cases e : j = i
          · rw [e, ← HR.out]; exact HQ.out
          · exact HF.out j (by omega)
        case measure => first | exact step_meas14 EW.out (step_less14 HI.out) | (simp [EW.out]; exact step_less14 HI.out) | exact step_less14 HI.out
    · obtain rfl : i = zs.length := Nat.le_antisymm hi (Nat.le_of_not_lt hlt)
      have t1 : decide ((zs.length : Int) < (zs.length : Int)) = false := by simp
      have HV : Hid (placeL zs p = -1) := placeL_none HF.out
      clear hlt hi
      go_wp2
      go_ret
      exact ⟨by rw [HV.out]; rfl, bb⟩
set_option maxHeartbeats 4000000 in
set_option maxRecDepth 100000 in
theorem containsW_ (g : Nat) (v : Value) (p : Nat × Nat → Bool) (a : Option Addr) (n cap : Nat) (zs : List (Nat × Nat)) (w : World) (eg : ∀ args w, (callFunc g args).run Try.prog w = .ok (.enter g args) w) (hn : n = zs.length) (hR : RowW w a zs) (hl : zs.length ≤ 1000) (hp : PredW g v p zs w) :
    Calls Try.prog 37 #[.slice a n cap, .func (.func g) #[v] #[]] w fun e w' => e = .returned (.bool (zs.any p)) ∧ Below w.heap.size w w' := by
  have ci := indexW_ g v p a n cap zs w eg hn hR hl hp
  have HV := Lib.hid (placeL_any zs p)
  generalize placeL zs p = z at ci HV
  clear hR hp hl eg hn
  go_enter Try.func37, Try.ntmps37
  go_wp2_with fail
  refine ci.mono ?_; rintro e w1 ⟨rfl, b1⟩
  go_wp2
  go_ret
  rw [← HV.out]
  exact ⟨rfl, b1⟩
set_option maxHeartbeats 1000000 in
set_option maxRecDepth 100000 in
theorem sameW14_ (s e a b : Int) (w : World) : Calls Try.prog 38 #[.agg #[.int .i64 s, .int .i64 e], .agg #[.int .i64 a, .int .i64 b]] w fun e w' => e = .returned (.bool (s == a)) ∧ Below w.heap.size w w' := by
  go_enter Try.func38, Try.ntmps38
  go_wp2
  go_ret
  exact ⟨rfl, ((Below.refl _ _).alloc (Nat.le_refl _) _).alloc (by simp) _⟩
/-- One more that waits. -/
theorem EpC.push {w0 w w' : World} {S : Nat → Prop} {p : Nat} {vs vl v' : Value} {x : Ep} {z : Nat × Nat} (h0 : EpC w0 S p vs vl x) (hB : Below w0.heap.size w0 w) (hg : w.grownBy w' vl.ownBlock) (hr : w'.ownsRow 0 61 2 v' (x.l.length + 1) (valsW x.l ++ valsW [z])) (hv : v'.ownBlock = vl.ownBlock ∨ v'.ownBlock = some w.heap.size) (ok : ({ x with l := x.l ++ [z] } : Ep).Ok) :
    EpC (w'.setCell ⟨p, 2, none⟩ v') (fun k => k = p ∨ vs.ownBlock = some k ∨ v'.ownBlock = some k) p vs v' { x with l := x.l ++ [z] } ∧ Fresh w0 S (fun k => k = p ∨ vs.ownBlock = some k ∨ v'.ownBlock = some k) ∧ Beside S w0 (w'.setCell ⟨p, 2, none⟩ v') := by
  have h := h0.on hB
  have e : ∀ k, k < w.heap.size → vl.ownBlock ≠ some k → w'.heap[k]? = w.heap[k]? := fun k hk hn => hg.block k hk (fun e => hn e.symm)
  have hp := h.lt p h.inp
  have hp0 := h0.lt p h0.inp
  have ep := e p hp (fun e => (h.nl p e).2 rfl)
  have hk1 : ∀ j, j ≠ p → (w'.setCell ⟨p, 2, none⟩ v').heap[j]? = w'.heap[j]? := fun j hj => Below.heap_setCell _ _ _ _ hj
  have c0 := (World.cell?_of_block (w := w) (a := ⟨p, 0, none⟩) ep).trans h.c0
  have c1 := (World.cell?_of_block (w := w) (a := ⟨p, 1, none⟩) ep).trans h.c1
  have c2 := (World.cell?_of_block (w := w) (a := ⟨p, 2, none⟩) ep).trans h.c2
  have sz : w'.heap.size ≤ (w'.setCell ⟨p, 2, none⟩ v').heap.size := by simp [World.setCell]
  have vn : ∀ k, v'.ownBlock = some k → k ≠ p := fun k hk ek => by
    rcases hv with e1 | e1
    · exact (h.nl k (e1 ▸ hk)).2 ek
    · rw [e1] at hk; injection hk with hk; omega
  have es : ∀ k, vs.ownBlock = some k → w'.heap[k]? = w.heap[k]? := fun k hk => e k (h.lt k (h.ns k hk).1) (h.sl k hk)
  refine ⟨⟨fun k hk => ?_, .inl rfl, ?_, ?_, World.cell?_setCell_same' _ _ _ (by rw [c2]; rfl), fun i => by rw [World.frozen?_setCell]; exact (World.frozen?_of_block (w := w) (a := ⟨p, i, none⟩) ep).trans (h.f i), own_kept h.rs (fun k hk => (hk1 k (h.ns k hk).2).trans (es k hk)), ?_, fun k hk => ⟨.inr (.inl hk), (h.ns k hk).2⟩, fun k hk => ⟨.inr (.inr hk), vn k hk⟩, fun k hk e2 => ?_, ok⟩, fun k hk hS => ?_, ⟨?_, ?_, ?_, ?_, fun k hk hn => ?_⟩⟩
  · refine Nat.lt_of_lt_of_le ?_ sz
    rcases hk with rfl | hk | hk
    · exact Nat.lt_of_lt_of_le hp hg.size
    · exact Nat.lt_of_lt_of_le (h.lt k (h.ns k hk).1) hg.size
    · exact (World.ownsRow.lt hr k hk).2
  · rw [World.cell?_setCell_other _ _ _ _ (by intro he; injection he with h5 h6; omega)]; exact c0
  · rw [World.cell?_setCell_other _ _ _ _ (by intro he; injection he with h5 h6; omega)]; exact c1
  · show World.ownsRow _ _ _ _ _ (x.l ++ [z]).length (valsW (x.l ++ [z]))
    rw [List.length_append, valsW_app]
    exact own_kept hr (fun k hk => hk1 k (vn k hk))
  · rcases hv with e1 | e1
    · exact h.sl k hk (e1 ▸ e2)
    · rw [e1] at e2; injection e2 with e2
      have := h.lt k (h.ns k hk).1
      omega
  · rcases hS with rfl | hS | hS
    · exact h0.inp
    · exact (h0.ns k hS).1
    · rcases hv with e1 | e1
      · exact (h0.nl k (e1 ▸ hS)).1
      · rw [e1] at hS; injection hS with hS
        have := hB.size
        omega
  · exact hg.os.trans hB.os
  · exact hg.tape.trans hB.tape
  · exact hg.output.trans hB.output
  · exact Nat.le_trans hB.size (Nat.le_trans hg.size sz)
  · have h1 := hk1 k (fun ek => hn (ek ▸ h0.inp))
    have h2 := e k (Nat.lt_of_lt_of_le hk hB.size) (fun ek => hn (h0.nl k ek).1)
    exact h1.trans (h2.trans (hB.block k hk))
theorem Ep.any_same (x : Ep) (k : Nat) : x.l.any (fun r => (k : Int) == (r.1 : Int)) = x.has (k : Int) := by
  unfold Ep.has
  congr 1
  funext r
  by_cases h : k = r.1
  · rw [h]; simp
  · rw [decide_eq_false (fun e => h (by omega))]
    exact beq_false_of_ne (fun e => h (by omega))
set_option maxHeartbeats 4000000 in
set_option maxRecDepth 100000 in
theorem defer14_ (S p x) (s : Int) (w : World) (H : EpCR w S p x) : Told Try.prog epC 20 #[.pointer (some ⟨p, 0, none⟩), .int .i64 s] w S p (.int .i64 (x.defE s : Int)) (x.defT s) := by
  have HR := Lib.hid H
  show Calls _ _ _ _ _
  by_cases hr : ¬ (0 ≤ s ∧ s ≤ 255)
  · have HV : Hid (x.defE s = 2 ∧ x.defT s = x) := by show _ ∧ _; unfold Ep.defE Ep.defT; rw [if_neg hr, if_neg hr]; exact ⟨rfl, rfl⟩
    clear H
    by_cases h0 : s < 0
    · have e1 : decide (s < 0) = true := by simpa using h0
      clear h0 hr
      go_enter Try.func20, Try.ntmps20
      go_wp2_with fail
      refine (now14_ S p x _ HR.out).mono ?_; rintro e w0 ⟨rfl, rfl⟩
      go_upto_region 2 with fail
      have B1 : Below w.heap.size w (w.alloc (.cells #[.int .i64 s, .int .i64 (x.now : Int)] 61)) := (Below.refl _ _).alloc (Nat.le_refl _) _
      have R1 := epC.on HR.out B1
      go_wp2_with fail
      refine (none14_ S p x _ R1).mono ?_; rintro e w2 ⟨rfl, rfl⟩
      go_wp2
      go_ret
      rw [HV.out.1, HV.out.2]
      exact ⟨rfl, S, R1, Fresh.refl _ _, Beside.of B1⟩
    · have e1 : decide (s < 0) = false := by simpa using h0
      have e2 : decide (256 ≤ s) = true := by simp; omega
      clear h0 hr
      go_enter Try.func20, Try.ntmps20
      go_wp2_with fail
      refine (now14_ S p x _ HR.out).mono ?_; rintro e w0 ⟨rfl, rfl⟩
      go_upto_region 2 with fail
      have B1 : Below w.heap.size w (w.alloc (.cells #[.int .i64 s, .int .i64 (x.now : Int)] 61)) := (Below.refl _ _).alloc (Nat.le_refl _) _
      have R1 := epC.on HR.out B1
      go_wp2_with fail
      refine (none14_ S p x _ R1).mono ?_; rintro e w2 ⟨rfl, rfl⟩
      go_wp2
      go_ret
      rw [HV.out.1, HV.out.2]
      exact ⟨rfl, S, R1, Fresh.refl _ _, Beside.of B1⟩
  have hr := Decidable.not_not.1 hr
  obtain ⟨k, rfl⟩ := Int.eq_ofNat_of_zero_le hr.1
  have e1 : decide ((k : Int) < 0) = false := by simp
  have e2 : decide (256 ≤ (k : Int)) = false := by simp; omega
  have e3 : decide (256 ≤ k) = false := by simp; omega
  have HK := Lib.hid hr
  obtain ⟨vs, vl, H⟩ := H
  have few := Lib.hid H.ok.few
  obtain ⟨al, cl, rfl⟩ := own_slice H.rl
  have eg : ∀ args w, (callFunc 38 args).run Try.prog w = .ok (.enter 38 args) w := enters_of Try.func38 (by kernel_rfl) rfl
  have cc := fun (u : World) (hu : EpC u S p vs (.slice al x.l.length cl) x) => containsW_ 38 (.agg #[.int .i64 (k : Int), .int .i64 (x.now : Int)]) (fun r => (k : Int) == (r.1 : Int)) al x.l.length cl x.l u eg rfl (own_row hu.rl) (Nat.le_trans few.out (by decide)) (fun W r _ _ => sameW14_ _ _ _ _ W)
  rw [Ep.any_same] at cc
  have HH := Lib.hid H
  clear H hr eg
  go_enter Try.func20, Try.ntmps20
  go_wp2_with fail
  refine (now14_ S p x _ HR.out).mono ?_; rintro e w0 ⟨rfl, rfl⟩
  go_upto_region 2 with fail
  have B1 : Below w.heap.size w (w.alloc (.cells #[.int .i64 (k : Int), .int .i64 (x.now : Int)] 61)) := (Below.refl _ _).alloc (Nat.le_refl _) _
  have R1 := epC.on HR.out B1
  have H1 := HH.out.on B1
  have sz : (w.alloc (.cells #[.int .i64 (k : Int), .int .i64 (x.now : Int)] 61)).heap.size = w.heap.size + 1 := by simp
  have b0 : (w.alloc (.cells #[.int .i64 (k : Int), .int .i64 (x.now : Int)] 61)).cell? ⟨w.heap.size, 0, none⟩ = some (.int .i64 (k : Int)) := by simp [go_sem]
  have b1 : (w.alloc (.cells #[.int .i64 (k : Int), .int .i64 (x.now : Int)] 61)).cell? ⟨w.heap.size, 1, none⟩ = some (.int .i64 (x.now : Int)) := by simp [go_sem]
  obtain ⟨u, hu⟩ : ∃ x_ : World, x_ = w.alloc (.cells #[.int .i64 (k : Int), .int .i64 (x.now : Int)] 61) := ⟨_, rfl⟩
  rw [← hu] at B1 R1 H1 sz b0 b1 ⊢
  clear hu
  go_wp2_with fail
  refine (none14_ S p x _ R1).mono ?_; rintro e w2 ⟨rfl, rfl⟩
  go_upto_region 6 with fail
  have hlt : w.heap.size < u.heap.size := by omega
  have hp : p < u.heap.size := H1.lt p H1.inp
  have F0 : ∀ q : Later u.heap.size u, q.u.cell? ⟨w.heap.size, 0, none⟩ = some (.int .i64 (k : Int)) := fun q => q.block hlt b0
  have F1 : ∀ q : Later u.heap.size u, q.u.cell? ⟨w.heap.size, 1, none⟩ = some (.int .i64 (x.now : Int)) := fun q => q.block hlt b1
  have F2 : ∀ q : Later u.heap.size u, q.u.cell? ⟨p, 2, none⟩ = some (.slice al x.l.length cl) := fun q => q.block hp H1.c2
  have HB := Lib.hid (And.intro sz (And.intro b0 b1))
  have HU := Lib.hid H1
  clear sz b0 b1 hlt hp H1
  cases hh : x.has (k : Int) with
  | true =>
    have HV : Hid (x.defE (k : Int) = 7 ∧ x.defT (k : Int) = x) := by show _ ∧ _; unfold Ep.defE Ep.defT; rw [if_pos HK.out, if_pos HK.out, hh]; exact ⟨rfl, rfl⟩
    have ct : ∀ q : Later u.heap.size u, _ := fun q => cc q.u (HU.out.on q.h)
    rw [hh] at ct
    clear hh cc
    refine region_later (B := u.heap.size) (by kernel_rfl) (by kernel_rfl) ?_
    repeat (go_big_quiet_step (first | (go_at_call 37; exact later_of _ (Nat.le_refl _) (ct _))))
    refine later_end fun w5 x5 => ?_
    clear F0 F1 F2 ct
    go_wp2
    go_ret
    rw [HV.out.1, HV.out.2]
    exact ⟨rfl, S, epC.on R1 x5, Fresh.refl _ _, Beside.of (B1.trans (x5.mono B1.size))⟩
  | false =>
    have HV : Hid (x.defE (k : Int) = 0 ∧ x.defT (k : Int) = { x with l := x.l ++ [(k, x.now)] }) := by
      show _ ∧ _
      unfold Ep.defE Ep.defT
      rw [if_pos HK.out, if_pos HK.out, hh]
      exact ⟨rfl, rfl⟩
    have OK := Lib.hid (HH.out.ok.defer (k : Int))
    rw [HV.out.2] at OK
    have ct : ∀ q : Later u.heap.size u, _ := fun q => cc q.u (HU.out.on q.h)
    rw [hh] at ct
    clear hh cc
    refine region_later (B := u.heap.size) (by kernel_rfl) (by kernel_rfl) ?_
    repeat (go_big_quiet_step (first | (go_at_call 37; exact later_of _ (Nat.le_refl _) (ct _))))
    refine later_end fun w5 x5 => ?_
    clear F0 F1 F2 ct
    go_upto_region 8 with fail
    have hlt : w.heap.size < u.heap.size := by have := HB.out.1; omega
    have B5 := (B1.trans (x5.mono B1.size)).drew
    have c0 := (x5.cell (p := ⟨w.heap.size, 0, none⟩) hlt).trans HB.out.2.1
    have c1 := (x5.cell (p := ⟨w.heap.size, 1, none⟩) hlt).trans HB.out.2.2
    have c2 := (HU.out.on x5).c2
    refine region_till 10 (fun w' => w'.cell? ⟨w.heap.size, 0, none⟩ = some (.int .i64 (k : Int)) ∧ w'.cell? ⟨w.heap.size, 1, none⟩ = some (.int .i64 (x.now : Int)) ∧ w'.cell? ⟨p, 2, none⟩ = some (.slice al x.l.length cl)) (by kernel_rfl) ?_ (fun hHeld => ?_)
    · exact ⟨c0, c1, c2⟩
    have H5 := HH.out.on B5
    have U5 : Below u.heap.size u w5.drew := x5.drew
    obtain ⟨w1, hw1⟩ : ∃ x_ : World, x_ = w5.drew := ⟨_, rfl⟩
    rw [← hw1] at B5 H5 U5 hHeld ⊢
    clear hw1 c0 c1 c2 x5 R1
    obtain ⟨j0, hj0, jz0, jz1, jz2⟩ := waitC_info
    obtain ⟨m1, m2, m3⟩ := few_ok few.out (Nat.le_refl _)
    have B6 := B5.alloc B5.size (.cells #[.int .i64 (k : Int), .int .i64 (x.now : Int)] 61)
    have U6 := U5.alloc U5.size (.cells #[.int .i64 (k : Int), .int .i64 (x.now : Int)] 61)
    obtain ⟨v7, w7, r7, o7, g7, _, hb7⟩ := run_append_own_at (P := Try.prog) (w := w1.alloc (.cells #[.int .i64 (k : Int), .int .i64 (x.now : Int)] 61)) 0 42 42 61 j0 _ 2 16 Try.underlying42 hj0 jz0 jz1 jz2 rfl (Nat.succ_pos _) (.slice al x.l.length cl) x.l.length (valsW x.l) (H5.rl.alloc (.cells #[.int .i64 (k : Int), .int .i64 (x.now : Int)] 61)) ⟨w1.heap.size, 0, none⟩ 1 1 (valsW [(k, x.now)]) rfl (waitP w1 k x.now _) (onesW _) m1 m2 (Nat.zero_le _)
    obtain ⟨a7, c7, rfl⟩ := own_slice o7
    have n7 : ∀ j, j < (w1.alloc (.cells #[.int .i64 (k : Int), .int .i64 (x.now : Int)] 61)).heap.size → (Value.slice al x.l.length cl).ownBlock ≠ some j → w7.heap[j]? = (w1.alloc (.cells #[.int .i64 (k : Int), .int .i64 (x.now : Int)] 61)).heap[j]? := fun j hj hn => g7.block j hj (fun e => hn e.symm)
    have FA := Lib.hid (HH.out.push B6 g7 (by exact o7) hb7 OK.out)
    have z1 : w.heap.size < w1.heap.size := Nat.lt_of_lt_of_le hlt U5.size
    have pz : p < w1.heap.size := H5.lt p H5.inp
    have nb : (Value.slice al x.l.length cl).ownBlock ≠ some w.heap.size := fun e => Nat.lt_irrefl _ (HH.out.lt _ (HH.out.nl _ e).1)
    have np : (Value.slice al x.l.length cl).ownBlock ≠ some p := fun e => (HH.out.nl _ e).2 rfl
    have k6b := Below.heap_alloc w1 (.cells #[.int .i64 (k : Int), .int .i64 (x.now : Int)] 61) w.heap.size z1
    have k6p := Below.heap_alloc w1 (.cells #[.int .i64 (k : Int), .int .i64 (x.now : Int)] 61) p pz
    have k7b := (n7 w.heap.size (by simp; omega) nb).trans k6b
    have k7p := (n7 p (by simp; omega) np).trans k6p
    have S6 : Hid ((w1.alloc (.cells #[.int .i64 (k : Int), .int .i64 (x.now : Int)] 61)).cell? ⟨w.heap.size, 0, none⟩ = some (.int .i64 (k : Int)) ∧ (w1.alloc (.cells #[.int .i64 (k : Int), .int .i64 (x.now : Int)] 61)).cell? ⟨w.heap.size, 1, none⟩ = some (.int .i64 (x.now : Int)) ∧ (w1.alloc (.cells #[.int .i64 (k : Int), .int .i64 (x.now : Int)] 61)).cell? ⟨p, 2, none⟩ = some (.slice al x.l.length cl)) :=
      ⟨(World.cell?_of_block (w := w1) (a := ⟨w.heap.size, 0, none⟩) k6b).trans hHeld.1, (World.cell?_of_block (w := w1) (a := ⟨w.heap.size, 1, none⟩) k6b).trans hHeld.2.1, (World.cell?_of_block (w := w1) (a := ⟨p, 2, none⟩) k6p).trans hHeld.2.2⟩
    have S7 : Hid (w7.cell? ⟨w.heap.size, 0, none⟩ = some (.int .i64 (k : Int)) ∧ w7.cell? ⟨w.heap.size, 1, none⟩ = some (.int .i64 (x.now : Int)) ∧ w7.cell? ⟨p, 2, none⟩ = some (.slice al x.l.length cl)) :=
      ⟨(World.cell?_of_block (w := w1) (a := ⟨w.heap.size, 0, none⟩) k7b).trans hHeld.1, (World.cell?_of_block (w := w1) (a := ⟨w.heap.size, 1, none⟩) k7b).trans hHeld.2.1, (World.cell?_of_block (w := w1) (a := ⟨p, 2, none⟩) k7p).trans hHeld.2.2⟩
    have f7 : w7.frozen? ⟨p, 2, none⟩ = false := (World.frozen?_of_block (w := w1) (a := ⟨p, 2, none⟩) k7p).trans (H5.f 2)
    have c7 := S7.out.2.2
    have R7 := Lib.hid r7
    clear r7 o7 g7 hb7 n7 z1 pz nb np k6b k6p k7b k7p B6 U6 B5 H5 U5 m1 m2 m3 OK hlt B1 HB HU
    refine till_take (i := 0) (oi := _) (v := ?_) rfl (by kernel_rfl) (by kernel_rfl) (by kernel_rfl) (by kernel_rfl) (by rfl) (fun _ _ _ h => h) (Or.inl ⟨by kernel_rfl, ?_⟩) (by assumption) ?_
    rotate_left
    · intro w hSw
      clear hSw
      go_simp
      with_reducible rfl
    try simp only [List.getElem_toArray, List.getElem_cons_succ, List.getElem_cons_zero, Act.put, List.setIfInBounds_toArray, List.set_cons_zero, List.set_cons_succ]
    refine till_take (i := 1) (oi := _) (v := ?_) rfl (by kernel_rfl) (by kernel_rfl) (by kernel_rfl) (by kernel_rfl) (by rfl) (fun _ _ _ h => h) (Or.inl ⟨by kernel_rfl, ?_⟩) (by assumption) ?_
    rotate_left
    · intro w hSw
      clear hSw
      go_simp
      with_reducible rfl
    try simp only [List.getElem_toArray, List.getElem_cons_succ, List.getElem_cons_zero, Act.put, List.setIfInBounds_toArray, List.set_cons_zero, List.set_cons_succ]
    refine till_take (i := 2) (oi := _) (v := ?_) rfl (by kernel_rfl) (by kernel_rfl) (by kernel_rfl) (by kernel_rfl) (by rfl) (fun _ _ _ h => h) (Or.inl ⟨by kernel_rfl, ?_⟩) (by assumption) ?_
    rotate_left
    · intro w hSw
      clear hSw
      go_simp
      with_reducible rfl
    try simp only [List.getElem_toArray, List.getElem_cons_succ, List.getElem_cons_zero, Act.put, List.setIfInBounds_toArray, List.set_cons_zero, List.set_cons_succ]
    refine till_take (i := 3) (oi := _) (v := ?_) rfl (by kernel_rfl) (by kernel_rfl) (by kernel_rfl) (by kernel_rfl) (by rfl) (fun _ _ _ h => h) (Or.inl ⟨by kernel_rfl, ?_⟩) (by assumption) ?_
    rotate_left
    · intro w hSw
      clear hSw
      go_simp
      with_reducible rfl
    try simp only [List.getElem_toArray, List.getElem_cons_succ, List.getElem_cons_zero, Act.put, List.setIfInBounds_toArray, List.set_cons_zero, List.set_cons_succ]
    refine till_take (i := 4) (oi := _) (v := ?_) rfl (by kernel_rfl) (by kernel_rfl) (by kernel_rfl) (by kernel_rfl) (by rfl) (fun _ _ _ h => h) (Or.inl ⟨by kernel_rfl, ?_⟩) (by assumption) ?_
    rotate_left
    · intro w hSw
      obtain ⟨hq0, hq1, hq2⟩ := hSw
      go_simp
      with_reducible rfl
    try simp only [List.getElem_toArray, List.getElem_cons_succ, List.getElem_cons_zero, Act.put, List.setIfInBounds_toArray, List.set_cons_zero, List.set_cons_succ]
    refine till_take (i := 5) (oi := _) (v := ?_) rfl (by kernel_rfl) (by kernel_rfl) (by kernel_rfl) (by kernel_rfl) (by rfl) (fun _ _ _ h => h) (Or.inl ⟨by kernel_rfl, ?_⟩) (by assumption) ?_
    rotate_left
    · intro w hSw
      obtain ⟨hq0, hq1, hq2⟩ := hSw
      go_simp
      with_reducible rfl
    try simp only [List.getElem_toArray, List.getElem_cons_succ, List.getElem_cons_zero, Act.put, List.setIfInBounds_toArray, List.set_cons_zero, List.set_cons_succ]
    refine till_ready (rs := [6]) (by kernel_rfl) (by simp) ?_
    refine TillAll.cons (o := _) rfl (by rfl) (fun K hK => ?_) TillAll.nil
    go_simp
    refine hK.out _ _ S6.out (fun hH => ?_)
    clear hK K hHeld
    have hHeld := hH
    clear hH
    try simp only [List.getElem_toArray, List.getElem_cons_succ, List.getElem_cons_zero, Act.put, List.setIfInBounds_toArray, List.set_cons_zero, List.set_cons_succ]
    refine till_ready (rs := [7]) (by kernel_rfl) (by simp) ?_
    refine TillAll.cons (o := _) rfl (by rfl) (fun K hK => ?_) TillAll.nil
    refine step_appendW rfl _ _ 42 42 rfl (.slice al x.l.length cl) (.slice (some ⟨w1.heap.size, 0, none⟩) 1 1) (by simp [Act.eval, Act.put]) (by simp [Act.eval, Act.put]) R7.out ?_
    refine hK.out _ _ S7.out (fun hH => ?_)
    clear hK K hHeld
    have hHeld := hH
    clear hH
    try simp only [List.getElem_toArray, List.getElem_cons_succ, List.getElem_cons_zero, Act.put, List.setIfInBounds_toArray, List.set_cons_zero, List.set_cons_succ]
    refine till_ready (rs := [8]) (by kernel_rfl) (by simp) ?_
    refine TillAll.cons (o := _) rfl (by rfl) (fun K hK => ?_) TillAll.nil
    go_simp
    refine hK.out _ _ hHeld (fun hH => ?_)
    clear hK K hH
    try simp only [List.getElem_toArray, List.getElem_cons_succ, List.getElem_cons_zero, Act.put, List.setIfInBounds_toArray, List.set_cons_zero, List.set_cons_succ]
    refine till_take (i := 9) (oi := _) (v := ?_) rfl (by kernel_rfl) (by kernel_rfl) (by kernel_rfl) (by kernel_rfl) (by rfl) (fun _ _ _ h => h) (Or.inl ⟨by kernel_rfl, ?_⟩) (by assumption) ?_
    rotate_left
    · intro w hSw
      clear hSw
      go_simp
      with_reducible rfl
    try simp only [List.getElem_toArray, List.getElem_cons_succ, List.getElem_cons_zero, Act.put, List.setIfInBounds_toArray, List.set_cons_zero, List.set_cons_succ]
    refine till_last (by kernel_rfl) (by kernel_rfl) rfl (fun K hK => ?_)
    go_simp
    refine hK.out _ _ ?_
    clear hK K
    go_wp2
    go_ret
    rw [HV.out.1, HV.out.2]
    exact ⟨rfl, _, ⟨_, _, FA.out.1⟩, FA.out.2.1, FA.out.2.2⟩
end Go.Proofs.Ytghicdajcmkfjaa
