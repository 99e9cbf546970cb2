/- The document's epochs (layer 14): Ripe. -/
import Derived.Test.YtghicdajcmkfjaaEpoB
namespace Go.Proofs.Ytghicdajcmkfjaa
set_option linter.unusedVariables false
set_option linter.unusedSimpArgs false
open Go.ChangeShapes Go.WideShapes Go.ChangeAt Go.RowKit Go.PlainAid
attribute [local go_sem ↓] Go.wp_at_zero Go.wp_at_succ
/-- What is told, and what is left, of the first k that wait. -/
def Ep.outs (x : Ep) (k : Nat) : List Int := (((x.l.take k).filter fun p => decide (p.2 + 2 ≤ x.now)).map fun p => (p.1 : Int))
def Ep.lefts (x : Ep) (k : Nat) : List (Nat × Nat) := (x.l.take k).filter fun p => decide (¬ p.2 + 2 ≤ x.now)
theorem Ep.take_succ (x : Ep) {k : Nat} (h : k < x.l.length) : x.l.take (k + 1) = x.l.take k ++ [x.l.getD k (0, 0)] := by
  rw [List.take_add_one, List.getElem?_eq_getElem h, List.getD_eq_getElem?_getD, List.getElem?_eq_getElem h]
  rfl
theorem Ep.outs_yes (x : Ep) {k : Nat} (h : k < x.l.length) (hr : (x.l.getD k (0, 0)).2 + 2 ≤ x.now) : x.outs (k + 1) = x.outs k ++ [((x.l.getD k (0, 0)).1 : Int)] ∧ x.lefts (k + 1) = x.lefts k := by
  unfold outs lefts
  rw [x.take_succ h, List.filter_append, List.filter_append]
  generalize x.l.getD k (0, 0) = e at hr ⊢
  simp [List.filter_cons, hr]
theorem Ep.outs_no (x : Ep) {k : Nat} (h : k < x.l.length) (hr : ¬ (x.l.getD k (0, 0)).2 + 2 ≤ x.now) : x.outs (k + 1) = x.outs k ∧ x.lefts (k + 1) = x.lefts k ++ [x.l.getD k (0, 0)] := by
  unfold outs lefts
  rw [x.take_succ h, List.filter_append, List.filter_append]
  generalize x.l.getD k (0, 0) = e at hr ⊢
  simp [List.filter_cons, hr]
theorem Ep.outs_all (x : Ep) : x.outs x.l.length = x.ripe.map (fun (k : Nat) => (k : Int)) ∧ x.lefts x.l.length = x.ripeT.l := by
  unfold outs lefts ripe ripeT
  rw [List.take_length]
  exact ⟨by rw [List.map_map]; rfl, rfl⟩
theorem Ep.outs_le (x : Ep) (k : Nat) : (x.outs k).length ≤ x.l.length ∧ (x.lefts k).length ≤ x.l.length := by
  unfold outs lefts
  have h1 := List.length_filter_le (fun p : Nat × Nat => decide (p.2 + 2 ≤ x.now)) (x.l.take k)
  have h2 := List.length_filter_le (fun p : Nat × Nat => decide (¬ p.2 + 2 ≤ x.now)) (x.l.take k)
  have h3 : (x.l.take k).length ≤ x.l.length := by rw [List.length_take]; omega
  rw [List.length_map]
  omega
theorem intP (w : World) (z : Int) (T : TypeId) : ∀ j u, (valsI [z])[j]? = some u → (w.alloc (.cells #[.int .i64 z] T)).cell? ((⟨w.heap.size, 0, none⟩ : Addr).add j) = some u := by
  intro j u hj
  rw [Addr.add_lit, Nat.zero_add]
  match j, hj with
  | 0, hj => simp only [valsI, List.map_cons, List.map_nil, List.getElem?_cons_zero, Option.some.injEq] at hj; subst hj; simp [go_sem]
  | j + 1, hj => simp [valsI] at hj
theorem onesI (l : List Int) : ∀ u ∈ valsI l, u.oneCell' = true := by
  intro u hu
  obtain ⟨z, _, rfl⟩ := List.mem_map.1 hu
  rfl
theorem waitP (w : World) (a b : Nat) (T : TypeId) : ∀ j u, (valsW [(a, b)])[j]? = some u → (w.alloc (.cells #[.int .i64 (a : Int), .int .i64 (b : Int)] T)).cell? ((⟨w.heap.size, 0, none⟩ : Addr).add j) = some u := by
  intro j u hj
  rw [Addr.add_lit, Nat.zero_add]
  match j, hj with
  | 0, hj => simp only [valsW, List.flatMap_cons, List.flatMap_nil, List.append_nil, List.getElem?_cons_zero, Option.some.injEq] at hj; subst hj; simp [go_sem]
  | 1, hj => simp only [valsW, List.flatMap_cons, List.flatMap_nil, List.append_nil, List.getElem?_cons_succ, List.getElem?_cons_zero, Option.some.injEq] at hj; subst hj; simp [go_sem]
  | j + 2, hj => simp [valsW] at hj
theorem onesW (l : List (Nat × Nat)) : ∀ u ∈ valsW l, u.oneCell' = true := by
  intro u hu
  simp only [valsW, List.mem_flatMap, List.mem_cons, List.not_mem_nil, or_false] at hu
  obtain ⟨x, _, rfl | rfl⟩ := hu <;> rfl
theorem grow_at {wr w' : World} {o : Obj} {v : Value} {k : Nat} (hg : (wr.alloc o).grownBy w' v.ownBlock) (hk : k < wr.heap.size) (hn : v.ownBlock ≠ some k) : w'.heap[k]? = wr.heap[k]? :=
  (hg.block k (by simp; omega) (fun e => hn e.symm)).trans (Below.heap_alloc wr o k hk)
theorem grow_size {w w' : World} {o : Obj} {r : Option Nat} (h : (w.alloc o).grownBy w' r) : w.heap.size ≤ w'.heap.size := Nat.le_trans (by simp) h.size
theorem grow_below {w0 w w' : World} {o : Obj} {v : Value} (h : Below w0.heap.size w0 w) (hg : (w.alloc o).grownBy w' v.ownBlock) (hv : ∀ k, v.ownBlock = some k → w0.heap.size ≤ k) : Below w0.heap.size w0 w' :=
  (h.alloc h.size o).grown hg (by simp; have := h.size; omega) hv
theorem row_low {w : World} {A B : Nat} {e : TypeId} {size n : Nat} {v : Value} {xs : List Value} (h : w.ownsRow B e size v n xs) (hA : A ≤ B) : w.ownsRow A e size v n xs := by
  refine ⟨h.1, ?_⟩
  rcases h.2 with h | ⟨g, c, cur, rfl, hb, rest⟩
  · exact .inl h
  · exact .inr ⟨g, c, cur, rfl, Nat.le_trans hA hb, rest⟩
theorem int_info14 : ∃ i0, Try.prog.info? 3 = some i0 ∧ i0.zero = some (.int .i64 0) ∧ i0.size = 1 ∧ i0.bytes = 8 := by
  have h : (Try.prog.info? 3).map (fun i => (i.zero, i.size, i.bytes)) = some (some (.int .i64 0), 1, 8) := by kernel_rfl
  cases hq : Try.prog.info? 3 with
  | none => rw [hq] at h; simp at h
  | some i0 =>
    rw [hq] at h
    simp only [Option.map_some, Option.some.injEq, Prod.mk.injEq] at h
    exact ⟨i0, rfl, h.1, h.2.1, h.2.2⟩
theorem wait_info : ∃ i0, Try.prog.info? 63 = some i0 ∧ i0.zero = some (.agg #[.int .i64 0, .int .i64 0]) ∧ i0.size = 2 ∧ i0.bytes = 16 := by
  have h : (Try.prog.info? 63).map (fun i => (i.zero, i.size, i.bytes)) = some (some (.agg #[.int .i64 0, .int .i64 0]), 2, 16) := by kernel_rfl
  cases hq : Try.prog.info? 63 with
  | none => rw [hq] at h; simp at h
  | some i0 =>
    rw [hq] at h
    simp only [Option.map_some, Option.some.injEq, Prod.mk.injEq] at h
    exact ⟨i0, rfl, h.1, h.2.1, h.2.2⟩
/-- Two rows of the call's own, apart: numbers, and what waits. -/
structure RipeAt (w0 w : World) (v3 v4 : Value) (lo : List Int) (ll : List (Nat × Nat)) : Prop where
  r3 : w.ownsRow w0.heap.size 3 1 v3 lo.length (valsI lo)
  r4 : w.ownsRow w0.heap.size 63 2 v4 ll.length (valsW ll)
  ap : ∀ k, v3.ownBlock = some k → v4.ownBlock ≠ some k
  below : Below w0.heap.size w0 w
theorem RipeAt.on {w0 w w' : World} {v3 v4 : Value} {lo : List Int} {ll : List (Nat × Nat)} (h : RipeAt w0 w v3 v4 lo ll) (hb : Below w.heap.size w w') : RipeAt w0 w' v3 v4 lo ll :=
  ⟨own_kept h.r3 (fun k hk => hb.block k (World.ownsRow.lt h.r3 k hk).2), own_kept h.r4 (fun k hk => hb.block k (World.ownsRow.lt h.r4 k hk).2), h.ap, h.below.trans (hb.mono h.below.size)⟩
theorem RipeAt.told {w0 w w' : World} {v3 v4 v3' : Value} {lo : List Int} {ll : List (Nat × Nat)} {o : Obj} {z : Int} (h : RipeAt w0 w v3 v4 lo ll) (hg : (w.alloc o).grownBy w' v3.ownBlock)
    (hr : w'.ownsRow w0.heap.size 3 1 v3' (lo.length + 1) (valsI lo ++ valsI [z])) (hb : v3'.ownBlock = v3.ownBlock ∨ v3'.ownBlock = some (w.alloc o).heap.size) : RipeAt w0 w' v3' v4 (lo ++ [z]) ll := by
  refine ⟨?_, own_kept h.r4 (fun k hk => grow_at hg (World.ownsRow.lt h.r4 k hk).2 (fun e => h.ap k e hk)), fun k h3 h4 => ?_, grow_below h.below hg (fun k hk => (World.ownsRow.lt h.r3 k hk).1)⟩
  · rw [List.length_append]
    show w'.ownsRow _ _ _ _ (lo.length + 1) _
    rw [← valsI_push]
    exact hr
  · rcases hb with e | e
    · exact h.ap k (e ▸ h3) h4
    · rw [e] at h3
      have := (World.ownsRow.lt h.r4 k h4).2
      simp only [Option.some.injEq, World.size_alloc] at h3
      omega
theorem RipeAt.left {w0 w w' : World} {v3 v4 v4' : Value} {lo : List Int} {ll : List (Nat × Nat)} {o : Obj} {z : Nat × Nat} (h : RipeAt w0 w v3 v4 lo ll) (hg : (w.alloc o).grownBy w' v4.ownBlock)
    (hr : w'.ownsRow w0.heap.size 63 2 v4' (ll.length + 1) (valsW ll ++ valsW [z])) (hb : v4'.ownBlock = v4.ownBlock ∨ v4'.ownBlock = some (w.alloc o).heap.size) : RipeAt w0 w' v3 v4' lo (ll ++ [z]) := by
  refine ⟨own_kept h.r3 (fun k hk => grow_at hg (World.ownsRow.lt h.r3 k hk).2 (fun e => h.ap k hk e)), ?_, fun k h3 h4 => ?_, grow_below h.below hg (fun k hk => (World.ownsRow.lt h.r4 k hk).1)⟩
  · rw [List.length_append]
    show w'.ownsRow _ _ _ _ (ll.length + 1) _
    rw [valsW_app]
    exact hr
  · rcases hb with e | e
    · exact h.ap k h3 (e ▸ h4)
    · rw [e] at h4
      have := (World.ownsRow.lt h.r3 k h3).2
      simp only [Option.some.injEq, World.size_alloc] at h4
      omega
/-- What is left takes the place of what waited. -/
theorem EpD.leave {w0 w : World} {S : Nat → Prop} {p : Nat} {vs vl v3 v4 : Value} {x : Ep} (h0 : EpD w0 S p vs vl x) (h : EpD w S p vs vl x) (r : RipeAt w0 w v3 v4 (x.outs x.l.length) (x.lefts x.l.length)) :
    EpD (w.setCell ⟨p, 2, none⟩ v4) (fun k => k = p ∨ vs.ownBlock = some k ∨ v4.ownBlock = some k) p vs v4 x.ripeT ∧ Fresh w0 S (fun k => k = p ∨ vs.ownBlock = some k ∨ v4.ownBlock = some k) ∧ Beside S w0 (w.setCell ⟨p, 2, none⟩ v4) ∧
      (w.setCell ⟨p, 2, none⟩ v4).ownsRow w0.heap.size 3 1 v3 (x.outs x.l.length).length (valsI (x.outs x.l.length)) ∧ (∀ k, v3.ownBlock = some k → ¬ (k = p ∨ vs.ownBlock = some k ∨ v4.ownBlock = some k) ∧ w0.heap.size ≤ k) := by
  have hk1 : ∀ j, j ≠ p → (w.setCell ⟨p, 2, none⟩ v4).heap[j]? = w.heap[j]? := fun j hj => Below.heap_setCell _ _ _ _ hj
  have hp := h0.lt p h0.inp
  have n4 : ∀ k, v4.ownBlock = some k → k ≠ p := fun k hk e => by have := (World.ownsRow.lt r.r4 k hk).1; omega
  have n3 : ∀ k, v3.ownBlock = some k → k ≠ p := fun k hk e => by have := (World.ownsRow.lt r.r3 k hk).1; omega
  have s0 : ∀ k, vs.ownBlock = some k → k < w0.heap.size := fun k hk => h0.lt k (h0.ns k hk).1
  have sz : w.heap.size ≤ (w.setCell ⟨p, 2, none⟩ v4).heap.size := by simp [World.setCell]
  refine ⟨⟨fun k hk => ?_, .inl rfl, ?_, ?_, World.cell?_setCell_same' _ _ _ (by rw [h.c2]; rfl), fun i => by rw [World.frozen?_setCell]; exact h.f i, own_kept h.rs (fun k hk => hk1 k (h.ns k hk).2), ?_, fun k hk => ⟨.inr (.inl hk), (h.ns k hk).2⟩, fun k hk => ⟨.inr (.inr hk), n4 k hk⟩, fun k hk e => ?_, h.ok.ripe⟩, fun k hk hS => ?_, ?_, own_kept r.r3 (fun k hk => hk1 k (n3 k hk)), fun k hk => ⟨?_, (World.ownsRow.lt r.r3 k hk).1⟩⟩
  · refine Nat.lt_of_lt_of_le ?_ sz
    rcases hk with rfl | hk | hk
    · exact h.lt _ h.inp
    · exact h.lt k (h.ns k hk).1
    · exact (World.ownsRow.lt r.r4 k hk).2
  · rw [World.cell?_setCell_other _ _ _ _ (by intro he; injection he with h5 h6; omega)]; exact h.c0
  · rw [World.cell?_setCell_other _ _ _ _ (by intro he; injection he with h5 h6; omega)]; exact h.c1
  · rw [← x.outs_all.2]
    exact own_kept (row_low r.r4 (Nat.zero_le _)) (fun k hk => hk1 k (n4 k hk))
  · have := s0 k hk
    have := (World.ownsRow.lt r.r4 k e).1
    omega
  · rcases hS with rfl | hS | hS
    · exact h0.inp
    · exact (h0.ns k hS).1
    · exact absurd (World.ownsRow.lt r.r4 k hS).1 (by omega)
  · exact (Beside.of r.below).setCell (p := ⟨p, 2, none⟩) h0.inp _
  · rintro (e | e | e)
    · exact n3 k hk e
    · have := s0 k e
      have := (World.ownsRow.lt r.r3 k hk).1
      omega
    · exact r.ap k hk e
theorem row_of {w : World} {B : Nat} {T : TypeId} {v : Value} {l : List Int} (h : w.ownsRow B T 1 v l.length (valsI l)) : ∃ a c, v = .slice a l.length c ∧ Row .i64 w a l.length l ∧ ∀ b, a = some b → v.ownBlock = some b.block := by
  rcases h.2 with ⟨h0, h1⟩ | ⟨g, c, cur, rfl, hb, hg, _⟩
  · exact ⟨none, 0, by rw [h1]; exact h0, ⟨rfl, .inl h1⟩, fun b e => by cases e⟩
  · refine ⟨_, c, rfl, ⟨rfl, ?_⟩, fun b e => by injection e with e; subst e; rfl⟩
    by_cases hl : l.length = 0
    · exact .inl hl
    · exact .inr ⟨g, 0, rfl, (Array.getElem?_eq_some_iff.1 hg).1, fun t ht => by rw [Nat.zero_add]; exact (World.ownsRow.cellAt h t (by omega)).trans (valsI_at l t ht 0)⟩
theorem EpD.wait_at {w : World} {S : Nat → Prop} {p g c : Nat} {vs : Value} {x : Ep} (h : EpD w S p vs (.slice (some ⟨g, 0, none⟩) x.l.length c) x) {k : Nat} (hk : k < x.l.length) :
    w.cell? ⟨g, k * 2, none⟩ = some (.int .i64 (((x.l.getD k (0, 0)).1 : Nat) : Int)) ∧ w.cell? ⟨g, k * 2 + 1, none⟩ = some (.int .i64 (((x.l.getD k (0, 0)).2 : Nat) : Int)) :=
  ⟨(World.ownsRow.cellAt h.rl (k * 2) (by omega)).trans (valsW_at _ _ hk).1, (World.ownsRow.cellAt h.rl (k * 2 + 1) (by omega)).trans (valsW_at _ _ hk).2⟩
theorem EpD.wait_low {w : World} {S : Nat → Prop} {p : Nat} {vs vl : Value} {x : Ep} (h : EpD w S p vs vl x) (hb : x.now < 4611686018427387904) {k : Nat} (hk : k < x.l.length) : (x.l.getD k (0, 0)).2 < 4611686018427387904 :=
  Nat.lt_of_le_of_lt (h.ok.low (x.l.getD k (0, 0)) (by rw [List.getD_eq_getElem?_getD, List.getElem?_eq_getElem hk]; exact List.getElem_mem hk)).2 hb
theorem plus_two {z : Nat} (h : z < 4611686018427387904) : ∃ z3 : Nat, z3 = z + 2 ∧ wrap64 ((z : Int) + 2) = (z3 : Int) ∧ IntKind.i64.wrap ((z : Int) + 2) = (z3 : Int) :=
  ⟨z + 2, rfl, (IntWalk.wrap64_in _ (by omega)).trans (by omega), (IntWalk.i64_in _ (by omega)).trans (by omega)⟩
theorem le_yes {a b : Nat} (h : a ≤ b) : decide ((a : Int) ≤ (b : Int)) = true := by simp; omega
theorem le_no {a b : Nat} (h : ¬ a ≤ b) : decide ((a : Int) ≤ (b : Int)) = false := by simp; omega
theorem few_ok {n m : Nat} (h : n ≤ 256) (hm : m ≤ n) : m + 1 ≤ maxLen ∧ (m + 1) * 16 ≤ 140737488355328 ∧ (m + 1) * 8 ≤ 140737488355328 := by
  have : maxLen = 9223372036854775807 := rfl
  omega
set_option maxHeartbeats 4000000 in
set_option maxRecDepth 100000 in
theorem rripe14_ (S p x) (w : World) (H : EpR w S p x) (hb : x.now < 4611686018427387904) : Calls Try.prog 19 #[.pointer (some ⟨p, 0, none⟩)] w fun e w' => ∃ (a : Option Addr) (len cap : Nat) (S' : Nat → Prop), e = .returned (.slice a len cap) ∧ EpR w' S' p x.ripeT ∧ Fresh w S S' ∧ Beside S w w' ∧ Row .i64 w' a len (x.ripe.map fun (k : Nat) => (k : Int)) ∧ ∀ b, a = some b → ¬ S' b.block ∧ w.heap.size ≤ b.block := by
  obtain ⟨vs, vl, H⟩ := H
  obtain ⟨i0, hi0, hz0, hz1, hz2⟩ := int_info14
  obtain ⟨j0, hj0, jz0, jz1, jz2⟩ := wait_info
  have few := Lib.hid H.ok.few
  have low := Lib.hid H.ok.low
  obtain ⟨al, cl, rfl⟩ := own_slice H.rl
  have HH := Lib.hid H
  clear H
  go_enter Try.func19, Try.ntmps19
  go_upto_region 4 with fail
  go_loopw [3, 4, 5] (fun v3 v4 si wr => ∃ i : Nat, i ≤ x.l.length ∧ si = .int .i64 (i : Int) ∧ RipeAt w wr v3 v4 (x.outs i) (x.lefts i)) (fun _ _ si _ => x.l.length - (intOf si).toNat)
  case atStart => exact ⟨0, Nat.zero_le _, rfl, World.ownsRow_nil _ _ _ _, World.ownsRow_nil _ _ _ _, (fun k h => nomatch h), Below.refl _ _⟩
  case round =>
    obtain ⟨k, hk, rfl, hR⟩ := hrel
    have Hr := HH.out.on hR.below
    have c0 := Hr.c0
    have c2 := Hr.c2
    have EW := Lib.hid (step_14 (j := k) (Nat.lt_of_le_of_lt (Nat.le_trans hk few.out) (by decide)))
    have RR := Lib.hid hR
    by_cases hlt : k < x.l.length
    · obtain ⟨g, c, ev, hg⟩ := own_block Hr.rl (Nat.lt_of_le_of_lt (Nat.zero_le k) hlt)
      injection ev with ev1 ev2 ev3
      subst ev1
      clear ev2 ev3
      obtain ⟨y1, y2⟩ := Hr.wait_at hlt
      obtain ⟨z3, hz3, q1, q2⟩ := plus_two (Hr.wait_low hb hlt)
      have t1 : decide ((k : Int) < (x.l.length : Int)) = true := by simpa using hlt
      have k0 : (0 : Int) ≤ (k : Int) := Int.natCast_nonneg k
      have k1 : (k : Int) < (x.l.length : Int) := Int.ofNat_lt.2 hlt
      have HL := Lib.hid hlt
      have yes := x.outs_yes hlt
      have no := x.outs_no hlt
      have le := x.outs_le k
      clear Hr hlt hk hb hR
      obtain ⟨⟨z1, z2⟩, hz⟩ : ∃ z, z = x.l.getD k (0, 0) := ⟨_, rfl⟩
      rw [← hz] at y1 y2 q1 q2 hz3 yes no
      clear hz
      by_cases hr : z2 + 2 ≤ x.now
      · have d1 : decide (z3 ≤ x.now) = true := decide_eq_true (by rw [hz3]; exact hr)
        obtain ⟨e1, e2⟩ := yes hr
        have ER := Lib.hid (And.intro e1 e2)
        clear yes no e1 e2 hr hz3
        go_upto_region 6 with fail
        go_region
        have Rd := RR.out.on (Below.refl wr.heap.size wr).drew
        have y1d : wr.drew.cell? ⟨g, k * 2, none⟩ = some (.int .i64 (z1 : Int)) := y1
        have c2d : wr.drew.cell? ⟨p, 2, none⟩ = some (.slice (some ⟨g, 0, none⟩) x.l.length cl) := c2
        generalize wr.drew = wy at Rd y1d c2d ⊢
        clear y1 y2 c0 c2 q1 q2 d1
        obtain ⟨m1, m2, m3⟩ := few_ok few.out le.1
        obtain ⟨v3', w13, hrun, hown, hgrow, _, hblk⟩ := run_append_own_at (P := Try.prog) (w := wy.alloc (.cells #[.int .i64 (z1 : Int)] 3)) w.heap.size 36 36 3 i0 _ 1 8 Try.underlying36 hi0 hz0 hz1 hz2 rfl (Nat.succ_pos _) u3 (x.outs k).length (valsI (x.outs k)) (Rd.r3.alloc (.cells #[.int .i64 (z1 : Int)] 3)) ⟨wy.heap.size, 0, none⟩ 1 1 (valsI [(z1 : Int)]) rfl (intP wy z1 _) (onesI _) m1 m3 (Nat.le_trans Rd.below.size (Nat.le_trans (Nat.le_succ _) (Nat.le_of_eq (World.size_alloc ..).symm)))
        have RT := Lib.hid (Rd.told hgrow hown hblk)
        have RUN := Lib.hid hrun
        clear hrun hown hgrow hblk Rd m1 m2 m3 le
        go_wp2_with (at_builtin; refine Lib.wpList_append_run _ rfl _ _ 36 36 rfl _ _ rfl rfl _ _ RUN.out ?_)
        go_roundw
        case rel => exact ⟨k + 1, HL.out, by simp [EW.out], by rw [ER.out.1, ER.out.2]; exact RT.out⟩
        case measure => first | exact step_meas14 EW.out (step_less14 HL.out) | (simp [EW.out]; exact step_less14 HL.out) | exact step_less14 HL.out
      · have d1 : decide (z3 ≤ x.now) = false := decide_eq_false (by rw [hz3]; exact hr)
        obtain ⟨e1, e2⟩ := no hr
        have ER := Lib.hid (And.intro e1 e2)
        clear yes no e1 e2 hr hz3
        go_upto_region 6 with fail
        go_region
        have Rd := RR.out.on (Below.refl wr.heap.size wr).drew
        have y1d : wr.drew.cell? ⟨g, k * 2, none⟩ = some (.int .i64 (z1 : Int)) := y1
        have y2d : wr.drew.cell? ⟨g, k * 2 + 1, none⟩ = some (.int .i64 (z2 : Int)) := y2
        have c2d : wr.drew.cell? ⟨p, 2, none⟩ = some (.slice (some ⟨g, 0, none⟩) x.l.length cl) := c2
        generalize wr.drew = wy at Rd y1d y2d c2d ⊢
        clear y1 y2 c0 c2 q1 q2
        obtain ⟨m1, m2, m3⟩ := few_ok few.out le.2
        obtain ⟨v4', w13, hrun, hown, hgrow, _, hblk⟩ := run_append_own_at (P := Try.prog) (w := wy.alloc (.cells #[.int .i64 (z1 : Int), .int .i64 (z2 : Int)] 63)) w.heap.size 51 51 63 j0 _ 2 16 Try.underlying51 hj0 jz0 jz1 jz2 rfl (Nat.succ_pos _) u4 (x.lefts k).length (valsW (x.lefts k)) (Rd.r4.alloc (.cells #[.int .i64 (z1 : Int), .int .i64 (z2 : Int)] 63)) ⟨wy.heap.size, 0, none⟩ 1 1 (valsW [(z1, z2)]) rfl (waitP wy z1 z2 _) (onesW _) m1 m2 (Nat.le_trans Rd.below.size (Nat.le_trans (Nat.le_succ _) (Nat.le_of_eq (World.size_alloc ..).symm)))
        have RT := Lib.hid (Rd.left hgrow hown hblk)
        have RUN := Lib.hid hrun
        clear hrun hown hgrow hblk Rd m1 m2 m3 le
        go_wp2_with (at_builtin; refine Lib.wpList_append_run _ rfl _ _ 51 51 rfl _ _ rfl rfl _ _ RUN.out ?_)
        go_roundw
        case rel => exact ⟨k + 1, HL.out, by simp [EW.out], by rw [ER.out.1, ER.out.2]; exact RT.out⟩
        case measure => first | exact step_meas14 EW.out (step_less14 HL.out) | (simp [EW.out]; exact step_less14 HL.out) | exact step_less14 HL.out
    · obtain rfl : k = x.l.length := Nat.le_antisymm hk (Nat.le_of_not_lt hlt)
      have t1 : decide ((x.l.length : Int) < (x.l.length : Int)) = false := by simp
      obtain ⟨a4, c4, e4⟩ := own_slice RR.out.r4
      subst e4
      obtain ⟨g1, g2, g3, g4, g5⟩ := HH.out.leave Hr RR.out
      obtain ⟨a3, c3, ev, g6, g7⟩ := row_of g4
      subst ev
      have f2 := Hr.f 2
      have G := Lib.hid (And.intro g1 (And.intro g2 (And.intro g3 (And.intro g5 (And.intro g6 g7)))))
      clear g1 g2 g3 g4 g5 g6 g7 Hr hlt hk hb hR
      go_wp2
      go_ret
      refine ⟨a3, (x.outs x.l.length).length, c3, _, rfl, ⟨_, _, G.out.1⟩, G.out.2.1, G.out.2.2.1, ?_, fun b hb => G.out.2.2.2.1 b.block (G.out.2.2.2.2.2 b hb)⟩
      rw [← x.outs_all.1]
      exact G.out.2.2.2.2.1
end Go.Proofs.Ytghicdajcmkfjaa
