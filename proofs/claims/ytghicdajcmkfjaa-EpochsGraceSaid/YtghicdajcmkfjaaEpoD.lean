/- The document's epochs (layer 14): Defer. Written by gen_epod.py. -/
import Derived.Test.YtghicdajcmkfjaaEpoE
import Derived.Test.YtghicdajcmkfjaaLast
namespace Go.Proofs.Ytghicdajcmkfjaa
set_option linter.unusedVariables false
set_option linter.unusedSimpArgs false
open Go.ChangeShapes Go.WideShapes Go.ChangeAt Go.RowKit Go.PlainAid
attribute [local go_sem ↓] Go.wp_at_zero Go.wp_at_succ
theorem Ep.has_at {x : Ep} {k : Nat} {s : Int} (hk : k < x.l.length) (h : ((x.l.getD k (0, 0)).1 : Int) = s) : x.has s = true := by
  refine List.any_eq_true.2 ⟨x.l.getD k (0, 0), ?_, by simpa using h⟩
  rw [List.getD_eq_getElem?_getD, List.getElem?_eq_getElem hk]
  exact List.getElem_mem hk
theorem Ep.has_no {x : Ep} {s : Int} (h : ∀ k, k < x.l.length → ((x.l.getD k (0, 0)).1 : Int) ≠ s) : x.has s = false := by
  refine List.any_eq_false.2 fun p hp => ?_
  obtain ⟨k, hk, rfl⟩ := List.mem_iff_getElem.1 hp
  have := h k hk
  rw [List.getD_eq_getElem?_getD, List.getElem?_eq_getElem hk] at this
  simpa using this
/-- append, as one step of a region that draws. -/
theorem step_appendW {P : Program} {ops : Array Oper} {o : Oper} {a : Act} {w : World} {K : Act → World → Prop} {Q : Exit → Act → World → Prop} {E : Prop} (hg : o.guard = none) (d x : Operand) (dT sT : TypeId) (hop : o.op = Op.call { callee := Callee.builtin Builtin.append, args := #[d, x], argTypes := #[dT, sT] })
    (v u : Value) (hd : a.eval d = v) (hx : a.eval x = u) {v' : Value} {w' : World} (hr : (Builtin.append_ #[dT, sT] o.type #[v, u]).run P w = .ok v' w') (hK : K (a.put o.dst v') w') :
    if Region.wanted o (yielded ops a.tmps) = true then Oper.wp P o a w K Q else E := by
  rw [if_pos (by simp [Region.wanted, hg])]
  exact Lib.wp_append_run w d x dT sT hop v u hd hx _ _ hr hK
/-- A row copied: appended to nil. -/
theorem copy_waits {w : World} {v : Value} {l : List (Nat × Nat)} (B : Nat) (h : w.ownsRow 0 63 2 v l.length (valsW l)) (hB : B ≤ w.heap.size) (hl : l.length ≤ 256) :
    ∃ v' w', (Builtin.append_ #[51, 51] 51 #[.slice none 0 0, v]).run Try.prog w = .ok v' w' ∧ w'.ownsRow B 63 2 v' l.length (valsW l) ∧ w.grownBy w' none := by
  obtain ⟨j0, hj0, jz0, jz1, jz2⟩ := wait_info
  rcases h.2 with ⟨rfl, h0⟩ | ⟨g, c, cur, rfl, hb, hg, _⟩
  · obtain rfl : l = [] := List.eq_nil_of_length_eq_zero h0
    exact ⟨.slice none 0 0, w, run_append_owned_none w B 51 51 63 j0 2 Try.underlying51 hj0 (.slice none 0 0) 0 [] (World.ownsRow_nil _ _ _ _), World.ownsRow_nil _ _ _ _, ⟨rfl, rfl, rfl, Nat.le_refl _, fun _ _ _ => rfl⟩⟩
  · have m : maxLen = 9223372036854775807 := rfl
    obtain ⟨v', w', hr, ho, hgr, _, _⟩ := run_append_own_at (P := Try.prog) (w := w) B 51 51 63 j0 _ 2 16 Try.underlying51 hj0 jz0 jz1 jz2 rfl (Nat.succ_pos _) (.slice none 0 0) 0 [] (World.ownsRow_nil _ _ _ _) ⟨g, 0, none⟩ l.length c (valsW l) (valsW_len l) (World.ownsRow.cells (g := g) h rfl) (onesW l) (by omega) (by omega) hB
    rw [Nat.zero_add, List.nil_append] at ho
    exact ⟨v', w', hr, ho, hgr⟩
/-- Another list takes the place of what waited. -/
theorem EpD.relist {w0 w : World} {S : Nat → Prop} {p : Nat} {vs vl v4 : Value} {x : Ep} {l' : List (Nat × Nat)} (h0 : EpD w0 S p vs vl x) (hB : Below w0.heap.size w0 w) (r4 : w.ownsRow w0.heap.size 63 2 v4 l'.length (valsW l')) (ok : ({ x with l := l' } : Ep).Ok) :
    EpD (w.setCell ⟨p, 2, none⟩ v4) (fun k => k = p ∨ vs.ownBlock = some k ∨ v4.ownBlock = some k) p vs v4 { x with l := l' } ∧ Fresh w0 S (fun k => k = p ∨ vs.ownBlock = some k ∨ v4.ownBlock = some k) ∧ Beside S w0 (w.setCell ⟨p, 2, none⟩ v4) := by
  have h := h0.on hB
  have hk1 : ∀ j, j ≠ p → (w.setCell ⟨p, 2, none⟩ v4).heap[j]? = w.heap[j]? := fun j hj => Below.heap_setCell _ _ _ _ hj
  have hp := h0.lt p h0.inp
  have n4 : ∀ k, v4.ownBlock = some k → k ≠ p := fun k hk e => by have := (World.ownsRow.lt r4 k hk).1; omega
  have s0 : ∀ k, vs.ownBlock = some k → k < w0.heap.size := fun k hk => h0.lt k (h0.ns k hk).1
  have sz : w.heap.size ≤ (w.setCell ⟨p, 2, none⟩ v4).heap.size := by simp [World.setCell]
  refine ⟨⟨fun k hk => ?_, .inl rfl, ?_, ?_, World.cell?_setCell_same' _ _ _ (by rw [h.c2]; rfl), fun i => by rw [World.frozen?_setCell]; exact h.f i, own_kept h.rs (fun k hk => hk1 k (h.ns k hk).2), ?_, fun k hk => ⟨.inr (.inl hk), (h.ns k hk).2⟩, fun k hk => ⟨.inr (.inr hk), n4 k hk⟩, fun k hk e => ?_, ok⟩, fun k hk hS => ?_, ?_⟩
  · refine Nat.lt_of_lt_of_le ?_ sz
    rcases hk with rfl | hk | hk
    · exact h.lt _ h.inp
    · exact h.lt k (h.ns k hk).1
    · exact (World.ownsRow.lt r4 k hk).2
  · rw [World.cell?_setCell_other _ _ _ _ (by intro he; injection he with h5 h6; omega)]; exact h.c0
  · rw [World.cell?_setCell_other _ _ _ _ (by intro he; injection he with h5 h6; omega)]; exact h.c1
  · exact own_kept (row_low r4 (Nat.zero_le _)) (fun k hk => hk1 k (n4 k hk))
  · have := s0 k hk
    have := (World.ownsRow.lt r4 k e).1
    omega
  · rcases hS with rfl | hS | hS
    · exact h0.inp
    · exact (h0.ns k hS).1
    · exact absurd (World.ownsRow.lt r4 k hS).1 (by omega)
  · exact (Beside.of hB).setCell (p := ⟨p, 2, none⟩) h0.inp _
theorem grown_none {w0 w w' : World} (h : Below w0.heap.size w0 w) (hg : w.grownBy w' none) : Below w0.heap.size w0 w' := h.grown hg h.size (fun k e => nomatch e)
set_option maxHeartbeats 4000000 in
set_option maxRecDepth 100000 in
theorem rdefer14_ (S p x) (s : Int) (w : World) (H : EpR w S p x) : Told Try.prog epR 21 #[.pointer (some ⟨p, 0, none⟩), .int .i64 s] w S p (.int .i64 (x.defE s : Int)) (x.defT s) := by
  obtain ⟨vs, vl, H⟩ := H
  show Calls _ _ _ _ _
  by_cases hr : ¬ (0 ≤ s ∧ s ≤ 255)
  · have HV : Hid (x.defE s = 2 ∧ x.defT s = x) := by show _ ∧ _; unfold Ep.defE Ep.defT; rw [if_neg hr, if_neg hr]; exact ⟨rfl, rfl⟩
    have HH := Lib.hid H
    clear H
    by_cases h0 : s < 0
    · have e1 : decide (s < 0) = true := by simpa using h0
      clear h0 hr
      go_enter Try.func21, Try.ntmps21
      go_wp2
      go_ret
      rw [HV.out.1, HV.out.2]
      exact ⟨rfl, S, ⟨_, _, HH.out⟩, Fresh.refl _ _, Beside.refl _ _⟩
    · have e1 : decide (s < 0) = false := by simpa using h0
      have e2 : decide (255 < s) = true := by simp; omega
      clear h0 hr
      go_enter Try.func21, Try.ntmps21
      go_wp2
      go_ret
      rw [HV.out.1, HV.out.2]
      exact ⟨rfl, S, ⟨_, _, HH.out⟩, Fresh.refl _ _, Beside.refl _ _⟩
  have hr := Decidable.not_not.1 hr
  obtain ⟨k, rfl⟩ := Int.eq_ofNat_of_zero_le hr.1
  have e1 : decide ((k : Int) < 0) = false := by simp
  have e2 : decide (255 < (k : Int)) = false := by simp; omega
  have e3 : decide (255 < k) = false := by simp; omega
  have HR := Lib.hid hr
  have few := Lib.hid H.ok.few
  obtain ⟨al, cl, rfl⟩ := own_slice H.rl
  have c0 := H.c0
  have c2 := H.c2
  have HH := Lib.hid H
  clear H hr
  go_enter Try.func21, Try.ntmps21
  go_upto_region 4 with fail
  go_loop [5] (fun si => ∃ i : Nat, i ≤ x.l.length ∧ si = .int .i64 (i : Int) ∧ ∀ j, j < i → ((x.l.getD j (0, 0)).1 : Int) ≠ (k : Int)) (fun si => x.l.length - (intOf si).toNat)
  case atStart => exact ⟨0, Nat.zero_le _, rfl, fun j hj => absurd hj (Nat.not_lt_zero j)⟩
  case round =>
    obtain ⟨i, hi, rfl, hm⟩ := hrel
    have HM := Lib.hid hm
    clear hm
    have EW := Lib.hid (step_14 (j := i) (Nat.lt_of_le_of_lt (Nat.le_trans hi few.out) (by decide)))
    by_cases hlt : i < x.l.length
    · obtain ⟨g, c, ev, hg⟩ := own_block HH.out.rl (Nat.lt_of_le_of_lt (Nat.zero_le i) hlt)
      injection ev with ev1 ev2 ev3
      subst ev1
      clear ev2 ev3
      obtain ⟨y1, _⟩ := HH.out.wait_at hlt
      have t1 : decide ((i : Int) < (x.l.length : Int)) = true := by simpa using hlt
      have k0 : (0 : Int) ≤ (i : Int) := Int.natCast_nonneg i
      have k1 : (i : Int) < (x.l.length : Int) := Int.ofNat_lt.2 hlt
      have HL := Lib.hid hlt
      by_cases hs : ((x.l.getD i (0, 0)).1 : Int) = (k : Int)
      · have HA : Hid (x.has (k : Int) = true) := Ep.has_at hlt hs
        rw [hs] at y1
        clear hs hlt hi
        go_wp2
        go_ret
        have HV : x.defE (k : Int) = 7 ∧ x.defT (k : Int) = x := by unfold Ep.defE Ep.defT; rw [if_pos HR.out, if_pos HR.out, HA.out]; exact ⟨rfl, rfl⟩
        rw [HV.1, HV.2]
        exact ⟨rfl, S, ⟨_, _, HH.out⟩, Fresh.refl _ _, Beside.refl _ _⟩
      · have HN := Lib.hid hs
        have d1 : (((x.l.getD i (0, 0)).1 : Int) == (k : Int)) = false := beq_false_of_ne hs
        have d2 : ((x.l.getD i (0, 0)).1 == k) = false := beq_false_of_ne (fun e => hs (by rw [e]))
        clear hs hlt hi
        generalize hz : x.l.getD i (0, 0) = z at y1 d1 d2
        have HZ := Lib.hid hz
        clear hz
        go_wp2
        go_round
        case rel => exact ⟨i + 1, HL.out, by simp [EW.out], fun j hj => by
          by_cases e : j = i
          · subst e; exact HN.out
          · exact HM.out j (by omega)⟩
        case measure => first | exact step_meas14 EW.out (step_less14 HL.out) | (simp [EW.out]; exact step_less14 HL.out) | exact step_less14 HL.out
    · obtain rfl : i = x.l.length := Nat.le_antisymm hi (Nat.le_of_not_lt hlt)
      have t1 : decide ((x.l.length : Int) < (x.l.length : Int)) = false := by simp
      have hn := Ep.has_no HM.out
      have HV : Hid (x.defE (k : Int) = 0 ∧ x.defT (k : Int) = { x with l := x.l ++ [(k, x.now)] }) := by
        show _ ∧ _
        unfold Ep.defE Ep.defT
        rw [if_pos HR.out, if_pos HR.out, hn]
        exact ⟨rfl, rfl⟩
      have OK := Lib.hid (HH.out.ok.defer (k : Int))
      rw [HV.out.2] at OK
      clear hn hlt hi HM
      go_upto_region 8 with fail
      have f2 := HH.out.f 2
      refine region_till 16 (fun w' => w'.cell? ⟨p, 0, none⟩ = some (.int .i64 (x.now : Int)) ∧ w'.cell? ⟨p, 2, none⟩ = some (.slice al x.l.length cl)) (by kernel_rfl) ?_ (fun hHeld => ?_)
      · exact ⟨c0, c2⟩
      have B1 : Below w.heap.size w w.drew := (Below.refl _ _).drew
      have H1 := HH.out.on B1
      obtain ⟨w1, hw1⟩ : ∃ x_ : World, x_ = w.drew := ⟨_, rfl⟩
      rw [← hw1] at B1 H1 hHeld ⊢
      clear hw1 c0 c2 f2
      obtain ⟨j0, hj0, jz0, jz1, jz2⟩ := wait_info
      obtain ⟨m1, m2, m3⟩ := few_ok few.out (Nat.le_refl _)
      -- the copy first
      obtain ⟨va5, wa5, ra5, oa5, ga5⟩ := copy_waits (w := w1) w.heap.size H1.rl B1.size few.out
      have Ba5 := grown_none B1 ga5
      have Ba12 := Ba5.alloc Ba5.size (.cells #[.int .i64 (k : Int), .int .i64 (x.now : Int)] 63)
      obtain ⟨va13, wa13, ra13, oa13, ga13, _, _⟩ := run_append_own_at (P := Try.prog) (w := wa5.alloc (.cells #[.int .i64 (k : Int), .int .i64 (x.now : Int)] 63)) w.heap.size 51 51 63 j0 _ 2 16 Try.underlying51 hj0 jz0 jz1 jz2 rfl (Nat.succ_pos _) va5 x.l.length (valsW x.l) (oa5.alloc (.cells #[.int .i64 (k : Int), .int .i64 (x.now : Int)] 63)) ⟨wa5.heap.size, 0, none⟩ 1 1 (valsW [(k, x.now)]) rfl (waitP wa5 k x.now _) (onesW _) m1 m2 Ba12.size
      obtain ⟨aA, cA, rfl⟩ := own_slice oa13
      have Ba13 := Ba12.grown ga13 Ba12.size (fun j e => (World.ownsRow.lt oa5 j e).1)
      have FA := Lib.hid (HH.out.relist Ba13 (l' := x.l ++ [(k, x.now)]) (by rw [List.length_append, valsW_app]; exact oa13) OK.out)
      have SA5 := Lib.hid (And.intro (HH.out.on Ba5).c0 (HH.out.on Ba5).c2)
      have SA12 := Lib.hid (And.intro (HH.out.on Ba12).c0 (HH.out.on Ba12).c2)
      have SA13 := Lib.hid (And.intro (HH.out.on Ba13).c0 (HH.out.on Ba13).c2)
      have fA := (HH.out.on Ba13).f 2
      have cA2 := (HH.out.on Ba13).c2
      have RA5 := Lib.hid ra5
      have RA13 := Lib.hid ra13
      clear ra5 oa5 ga5 Ba5 Ba12 ra13 oa13 ga13 Ba13
      -- the new one first
      have Bb12 := B1.alloc B1.size (.cells #[.int .i64 (k : Int), .int .i64 (x.now : Int)] 63)
      obtain ⟨vb5, wb5, rb5, ob5, gb5⟩ := copy_waits (w := w1.alloc (.cells #[.int .i64 (k : Int), .int .i64 (x.now : Int)] 63)) w.heap.size (HH.out.on Bb12).rl Bb12.size few.out
      have Bb5 := grown_none Bb12 gb5
      obtain ⟨vb13, wb13, rb13, ob13, gb13, _, _⟩ := run_append_own_at (P := Try.prog) (w := wb5) w.heap.size 51 51 63 j0 _ 2 16 Try.underlying51 hj0 jz0 jz1 jz2 rfl (Nat.succ_pos _) vb5 x.l.length (valsW x.l) ob5 ⟨w1.heap.size, 0, none⟩ 1 1 (valsW [(k, x.now)]) rfl (fun j u hj => by
        have h := waitP w1 k x.now 63 j u hj
        rw [Addr.add_lit, Nat.zero_add] at h ⊢
        exact (World.cell?_of_block (w := w1.alloc (.cells #[.int .i64 (k : Int), .int .i64 (x.now : Int)] 63)) (a := ⟨w1.heap.size, j, none⟩) (gb5.block _ (by simp) (fun e => nomatch e))).trans h) (onesW _) m1 m2 Bb5.size
      obtain ⟨aB, cB, rfl⟩ := own_slice ob13
      have Bb13 := Bb5.grown gb13 Bb5.size (fun j e => (World.ownsRow.lt ob5 j e).1)
      have FB := Lib.hid (HH.out.relist Bb13 (l' := x.l ++ [(k, x.now)]) (by rw [List.length_append, valsW_app]; exact ob13) OK.out)
      have SB12 := Lib.hid (And.intro (HH.out.on Bb12).c0 (HH.out.on Bb12).c2)
      have SB5 := Lib.hid (And.intro (HH.out.on Bb5).c0 (HH.out.on Bb5).c2)
      have SB13 := Lib.hid (And.intro (HH.out.on Bb13).c0 (HH.out.on Bb13).c2)
      have fB := (HH.out.on Bb13).f 2
      have cB2 := (HH.out.on Bb13).c2
      have RB5 := Lib.hid rb5
      have RB13 := Lib.hid rb13
      clear rb5 ob5 gb5 Bb5 Bb12 rb13 ob13 gb13 Bb13 B1 H1 m1 m2 m3 OK
      refine till_take (i := 0) (oi := _) (v := ?_) rfl (by kernel_rfl) (by kernel_rfl) (by kernel_rfl) (by kernel_rfl) (by rfl) (fun _ _ _ h => h) (Or.inl ⟨by kernel_rfl, ?_⟩) (by assumption) ?_
      rotate_left
      · intro w hSw
        clear hSw
        go_simp
        with_reducible rfl
      try simp only [List.getElem_toArray, List.getElem_cons_succ, List.getElem_cons_zero, Act.put, List.setIfInBounds_toArray, List.set_cons_zero, List.set_cons_succ]
      refine till_take (i := 1) (oi := _) (v := ?_) rfl (by kernel_rfl) (by kernel_rfl) (by kernel_rfl) (by kernel_rfl) (by rfl) (fun _ _ _ h => h) (Or.inl ⟨by kernel_rfl, ?_⟩) (by assumption) ?_
      rotate_left
      · intro w hSw
        clear hSw
        go_simp
        with_reducible rfl
      try simp only [List.getElem_toArray, List.getElem_cons_succ, List.getElem_cons_zero, Act.put, List.setIfInBounds_toArray, List.set_cons_zero, List.set_cons_succ]
      refine till_take (i := 2) (oi := _) (v := ?_) rfl (by kernel_rfl) (by kernel_rfl) (by kernel_rfl) (by kernel_rfl) (by rfl) (fun _ _ _ h => h) (Or.inl ⟨by kernel_rfl, ?_⟩) (by assumption) ?_
      rotate_left
      · intro w hSw
        clear hSw
        go_simp
        with_reducible rfl
      try simp only [List.getElem_toArray, List.getElem_cons_succ, List.getElem_cons_zero, Act.put, List.setIfInBounds_toArray, List.set_cons_zero, List.set_cons_succ]
      refine till_take (i := 3) (oi := _) (v := ?_) rfl (by kernel_rfl) (by kernel_rfl) (by kernel_rfl) (by kernel_rfl) (by rfl) (fun _ _ _ h => h) (Or.inl ⟨by kernel_rfl, ?_⟩) (by assumption) ?_
      rotate_left
      · intro w hSw
        clear hSw
        go_simp
        with_reducible rfl
      try simp only [List.getElem_toArray, List.getElem_cons_succ, List.getElem_cons_zero, Act.put, List.setIfInBounds_toArray, List.set_cons_zero, List.set_cons_succ]
      refine till_take (i := 4) (oi := _) (v := ?_) rfl (by kernel_rfl) (by kernel_rfl) (by kernel_rfl) (by kernel_rfl) (by rfl) (fun _ _ _ h => h) (Or.inl ⟨by kernel_rfl, ?_⟩) (by assumption) ?_
      rotate_left
      · intro w hSw
        obtain ⟨hq0, hq1⟩ := hSw
        go_simp
        with_reducible rfl
      try simp only [List.getElem_toArray, List.getElem_cons_succ, List.getElem_cons_zero, Act.put, List.setIfInBounds_toArray, List.set_cons_zero, List.set_cons_succ]
      refine till_take (i := 6) (oi := _) (v := ?_) rfl (by kernel_rfl) (by kernel_rfl) (by kernel_rfl) (by kernel_rfl) (by rfl) (fun _ _ _ h => h) (Or.inl ⟨by kernel_rfl, ?_⟩) (by assumption) ?_
      rotate_left
      · intro w hSw
        clear hSw
        go_simp
        with_reducible rfl
      try simp only [List.getElem_toArray, List.getElem_cons_succ, List.getElem_cons_zero, Act.put, List.setIfInBounds_toArray, List.set_cons_zero, List.set_cons_succ]
      refine till_take (i := 7) (oi := _) (v := ?_) rfl (by kernel_rfl) (by kernel_rfl) (by kernel_rfl) (by kernel_rfl) (by rfl) (fun _ _ _ h => h) (Or.inl ⟨by kernel_rfl, ?_⟩) (by assumption) ?_
      rotate_left
      · intro w hSw
        clear hSw
        go_simp
        with_reducible rfl
      try simp only [List.getElem_toArray, List.getElem_cons_succ, List.getElem_cons_zero, Act.put, List.setIfInBounds_toArray, List.set_cons_zero, List.set_cons_succ]
      refine till_take (i := 8) (oi := _) (v := ?_) rfl (by kernel_rfl) (by kernel_rfl) (by kernel_rfl) (by kernel_rfl) (by rfl) (fun _ _ _ h => h) (Or.inl ⟨by kernel_rfl, ?_⟩) (by assumption) ?_
      rotate_left
      · intro w hSw
        clear hSw
        go_simp
        with_reducible rfl
      try simp only [List.getElem_toArray, List.getElem_cons_succ, List.getElem_cons_zero, Act.put, List.setIfInBounds_toArray, List.set_cons_zero, List.set_cons_succ]
      refine till_take (i := 9) (oi := _) (v := ?_) rfl (by kernel_rfl) (by kernel_rfl) (by kernel_rfl) (by kernel_rfl) (by rfl) (fun _ _ _ h => h) (Or.inl ⟨by kernel_rfl, ?_⟩) (by assumption) ?_
      rotate_left
      · intro w hSw
        clear hSw
        go_simp
        with_reducible rfl
      try simp only [List.getElem_toArray, List.getElem_cons_succ, List.getElem_cons_zero, Act.put, List.setIfInBounds_toArray, List.set_cons_zero, List.set_cons_succ]
      refine till_take (i := 10) (oi := _) (v := ?_) rfl (by kernel_rfl) (by kernel_rfl) (by kernel_rfl) (by kernel_rfl) (by rfl) (fun _ _ _ h => h) (Or.inl ⟨by kernel_rfl, ?_⟩) (by assumption) ?_
      rotate_left
      · intro w hSw
        obtain ⟨hq0, hq1⟩ := hSw
        go_simp
        with_reducible rfl
      try simp only [List.getElem_toArray, List.getElem_cons_succ, List.getElem_cons_zero, Act.put, List.setIfInBounds_toArray, List.set_cons_zero, List.set_cons_succ]
      refine till_take (i := 11) (oi := _) (v := ?_) rfl (by kernel_rfl) (by kernel_rfl) (by kernel_rfl) (by kernel_rfl) (by rfl) (fun _ _ _ h => h) (Or.inl ⟨by kernel_rfl, ?_⟩) (by assumption) ?_
      rotate_left
      · intro w hSw
        clear hSw
        go_simp
        with_reducible rfl
      try simp only [List.getElem_toArray, List.getElem_cons_succ, List.getElem_cons_zero, Act.put, List.setIfInBounds_toArray, List.set_cons_zero, List.set_cons_succ]
      refine till_ready (rs := [5, 12]) (by kernel_rfl) (by simp) ?_
      refine TillAll.cons (o := _) rfl (by rfl) (fun K hK => ?_) ?_
      · refine step_appendW rfl _ _ 51 51 rfl (.slice none 0 0) (.slice al x.l.length cl) (by simp [Act.eval, Act.put]) (by simp [Act.eval, Act.put]) RA5.out ?_
        refine hK.out _ _ SA5.out (fun hH => ?_)
        clear hK K hHeld
        have hHeld := hH
        clear hH
        try simp only [List.getElem_toArray, List.getElem_cons_succ, List.getElem_cons_zero, Act.put, List.setIfInBounds_toArray, List.set_cons_zero, List.set_cons_succ]
        refine till_ready (rs := [12]) (by kernel_rfl) (by simp) ?_
        refine TillAll.cons (o := _) rfl (by rfl) (fun K hK => ?_) TillAll.nil
        go_simp
        refine hK.out _ _ SA12.out (fun hH => ?_)
        clear hK K hHeld
        have hHeld := hH
        clear hH
        try simp only [List.getElem_toArray, List.getElem_cons_succ, List.getElem_cons_zero, Act.put, List.setIfInBounds_toArray, List.set_cons_zero, List.set_cons_succ]
        refine till_ready (rs := [13]) (by kernel_rfl) (by simp) ?_
        refine TillAll.cons (o := _) rfl (by rfl) (fun K hK => ?_) TillAll.nil
        refine step_appendW rfl _ _ 51 51 rfl va5 (.slice (some ⟨wa5.heap.size, 0, none⟩) 1 1) (by simp [Act.eval, Act.put]) (by simp [Act.eval, Act.put]) RA13.out ?_
        refine hK.out _ _ SA13.out (fun hH => ?_)
        clear hK K hHeld
        have hHeld := hH
        clear hH
        try simp only [List.getElem_toArray, List.getElem_cons_succ, List.getElem_cons_zero, Act.put, List.setIfInBounds_toArray, List.set_cons_zero, List.set_cons_succ]
        refine till_ready (rs := [14]) (by kernel_rfl) (by simp) ?_
        refine TillAll.cons (o := _) rfl (by rfl) (fun K hK => ?_) TillAll.nil
        go_simp
        refine hK.out _ _ hHeld (fun hH => ?_)
        clear hK K hH
        try simp only [List.getElem_toArray, List.getElem_cons_succ, List.getElem_cons_zero, Act.put, List.setIfInBounds_toArray, List.set_cons_zero, List.set_cons_succ]
        refine till_take (i := 15) (oi := _) (v := ?_) rfl (by kernel_rfl) (by kernel_rfl) (by kernel_rfl) (by kernel_rfl) (by rfl) (fun _ _ _ h => h) (Or.inl ⟨by kernel_rfl, ?_⟩) (by assumption) ?_
        rotate_left
        · intro w hSw
          clear hSw
          go_simp
          with_reducible rfl
        try simp only [List.getElem_toArray, List.getElem_cons_succ, List.getElem_cons_zero, Act.put, List.setIfInBounds_toArray, List.set_cons_zero, List.set_cons_succ]
        refine till_last (by kernel_rfl) (by kernel_rfl) rfl (fun K hK => ?_)
        go_simp
        refine hK.out _ _ ?_
        clear hK K
        go_wp2
        go_ret
        rw [HV.out.1, HV.out.2]
        exact ⟨rfl, _, ⟨_, _, FA.out.1⟩, FA.out.2.1, FA.out.2.2⟩
      refine TillAll.cons (o := _) rfl (by rfl) (fun K hK => ?_) TillAll.nil
      go_simp
      refine hK.out _ _ SB12.out (fun hH => ?_)
      clear hK K hHeld
      have hHeld := hH
      clear hH
      try simp only [List.getElem_toArray, List.getElem_cons_succ, List.getElem_cons_zero, Act.put, List.setIfInBounds_toArray, List.set_cons_zero, List.set_cons_succ]
      refine till_ready (rs := [5]) (by kernel_rfl) (by simp) ?_
      refine TillAll.cons (o := _) rfl (by rfl) (fun K hK => ?_) TillAll.nil
      refine step_appendW rfl _ _ 51 51 rfl (.slice none 0 0) (.slice al x.l.length cl) (by simp [Act.eval, Act.put]) (by simp [Act.eval, Act.put]) RB5.out ?_
      refine hK.out _ _ SB5.out (fun hH => ?_)
      clear hK K hHeld
      have hHeld := hH
      clear hH
      try simp only [List.getElem_toArray, List.getElem_cons_succ, List.getElem_cons_zero, Act.put, List.setIfInBounds_toArray, List.set_cons_zero, List.set_cons_succ]
      refine till_ready (rs := [13]) (by kernel_rfl) (by simp) ?_
      refine TillAll.cons (o := _) rfl (by rfl) (fun K hK => ?_) TillAll.nil
      refine step_appendW rfl _ _ 51 51 rfl vb5 (.slice (some ⟨w1.heap.size, 0, none⟩) 1 1) (by simp [Act.eval, Act.put]) (by simp [Act.eval, Act.put]) RB13.out ?_
      refine hK.out _ _ SB13.out (fun hH => ?_)
      clear hK K hHeld
      have hHeld := hH
      clear hH
      try simp only [List.getElem_toArray, List.getElem_cons_succ, List.getElem_cons_zero, Act.put, List.setIfInBounds_toArray, List.set_cons_zero, List.set_cons_succ]
      refine till_ready (rs := [14]) (by kernel_rfl) (by simp) ?_
      refine TillAll.cons (o := _) rfl (by rfl) (fun K hK => ?_) TillAll.nil
      go_simp
      refine hK.out _ _ hHeld (fun hH => ?_)
      clear hK K hH
      try simp only [List.getElem_toArray, List.getElem_cons_succ, List.getElem_cons_zero, Act.put, List.setIfInBounds_toArray, List.set_cons_zero, List.set_cons_succ]
      refine till_take (i := 15) (oi := _) (v := ?_) rfl (by kernel_rfl) (by kernel_rfl) (by kernel_rfl) (by kernel_rfl) (by rfl) (fun _ _ _ h => h) (Or.inl ⟨by kernel_rfl, ?_⟩) (by assumption) ?_
      rotate_left
      · intro w hSw
        clear hSw
        go_simp
        with_reducible rfl
      try simp only [List.getElem_toArray, List.getElem_cons_succ, List.getElem_cons_zero, Act.put, List.setIfInBounds_toArray, List.set_cons_zero, List.set_cons_succ]
      refine till_last (by kernel_rfl) (by kernel_rfl) rfl (fun K hK => ?_)
      go_simp
      refine hK.out _ _ ?_
      clear hK K
      go_wp2
      go_ret
      rw [HV.out.1, HV.out.2]
      exact ⟨rfl, _, ⟨_, _, FB.out.1⟩, FB.out.2.1, FB.out.2.2⟩
end Go.Proofs.Ytghicdajcmkfjaa
