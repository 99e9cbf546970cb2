/- The code's epochs (layer 14): in memory; none, New. Written by gen_epoza.py. -/
import Derived.Test.YtghicdajcmkfjaaEpoE
import Derived.Test.YtghicdajcmkfjaaEpoD
namespace Go.Proofs.Ytghicdajcmkfjaa
set_option linter.unusedVariables false
set_option linter.unusedSimpArgs false
open Go.ChangeShapes Go.WideShapes Go.ChangeAt Go.RowKit Go.PlainAid
attribute [local go_sem ↓] Go.wp_at_zero Go.wp_at_succ
/-- The code's epochs: a block of three cells; a row of what was announced; a row of what waits. -/
structure EpC (w : World) (S : Nat → Prop) (p : Nat) (vs vl : Value) (x : Ep) : Prop where
  lt : ∀ k, S k → k < w.heap.size
  inp : S p
  c0 : w.cell? ⟨p, 0, none⟩ = some (.int .i64 (x.now : Int))
  c1 : w.cell? ⟨p, 1, none⟩ = some vs
  c2 : w.cell? ⟨p, 2, none⟩ = some vl
  f : ∀ i, w.frozen? ⟨p, i, none⟩ = false
  rs : w.ownsRow 0 3 1 vs x.said.length (valsI x.said)
  rl : w.ownsRow 0 61 2 vl x.l.length (valsW x.l)
  ns : ∀ k, vs.ownBlock = some k → S k ∧ k ≠ p
  nl : ∀ k, vl.ownBlock = some k → S k ∧ k ≠ p
  sl : ∀ k, vs.ownBlock = some k → vl.ownBlock ≠ some k
  ok : x.Ok
def EpCR (w : World) (S : Nat → Prop) (p : Nat) (x : Ep) : Prop := ∃ vs vl, EpC w S p vs vl x
theorem EpC.keep {w w' : World} {S : Nat → Prop} {p : Nat} {vs vl : Value} {x : Ep} (h : EpC w S p vs vl x) (hs : w.heap.size ≤ w'.heap.size) (hb : ∀ k, S k → w'.heap[k]? = w.heap[k]?) : EpC w' S p vs vl x :=
  have hp := hb p h.inp
  ⟨fun k hk => Nat.lt_of_lt_of_le (h.lt k hk) hs, h.inp, (World.cell?_of_block (w := w) (a := ⟨p, 0, none⟩) hp).trans h.c0, (World.cell?_of_block (w := w) (a := ⟨p, 1, none⟩) hp).trans h.c1, (World.cell?_of_block (w := w) (a := ⟨p, 2, none⟩) hp).trans h.c2,
    fun i => (World.frozen?_of_block (w := w) (a := ⟨p, i, none⟩) hp).trans (h.f i), own_kept h.rs (fun k hk => hb k (h.ns k hk).1), own_kept h.rl (fun k hk => hb k (h.nl k hk).1), h.ns, h.nl, h.sl, h.ok⟩
theorem EpC.on {w w' : World} {S : Nat → Prop} {p : Nat} {vs vl : Value} {x : Ep} (h : EpC w S p vs vl x) (hb : Below w.heap.size w w') : EpC w' S p vs vl x := h.keep hb.size fun k hk => hb.block k (h.lt k hk)
def epC : ObjP Ep where
  Rep := EpCR
  lt := fun ⟨_, _, h⟩ => h.lt
  keep := fun ⟨vs, vl, h⟩ hs hb => ⟨vs, vl, h.keep hs hb⟩
/-- What a worker announced is told. -/
theorem EpC.set {w : World} {S : Nat → Prop} {p g c : Nat} {vl : Value} {x : Ep} (h : EpC w S p (.slice (some ⟨g, 0, none⟩) x.said.length c) vl x) (k : Nat) (hk : k < x.said.length) (e : Int) (he : e = -1 ∨ e = x.now) :
    EpC (w.setCell ⟨g, k, none⟩ (.int .i64 e)) S p (.slice (some ⟨g, 0, none⟩) x.said.length c) vl (x.setT k e) ∧ Beside S w (w.setCell ⟨g, k, none⟩ (.int .i64 e)) := by
  have e1 : x.setT k e = { x with said := x.said.set k e } := by
    have ht : x.there (k : Int) := ⟨by omega, by omega⟩
    unfold Ep.setT; rw [if_pos ht]; rfl
  obtain ⟨h1, h2⟩ := World.ownsRow.stored h.rs k (.int .i64 e)
  rw [valsI_set] at h1
  have hg := h.ns g rfl
  have ok := h.ok.set (k : Int) e he
  have hk1 : ∀ j, j ≠ g → (w.setCell ⟨g, k, none⟩ (.int .i64 e)).heap[j]? = w.heap[j]? := fun j hj => Below.heap_setCell _ _ _ _ hj
  have hp := hk1 p (fun e => hg.2 e.symm)
  refine ⟨⟨fun j hj => by simpa [World.setCell] using h.lt j hj, h.inp, ?_, (World.cell?_of_block (w := w) (a := ⟨p, 1, none⟩) hp).trans h.c1, (World.cell?_of_block (w := w) (a := ⟨p, 2, none⟩) hp).trans h.c2, fun i => (World.frozen?_of_block (w := w) (a := ⟨p, i, none⟩) hp).trans (h.f i), ?_, ?_, h.ns, h.nl, h.sl, ok⟩, (Beside.refl S w).setCell (p := ⟨g, k, none⟩) hg.1 _⟩
  · rw [Ep.now_set]; exact (World.cell?_of_block (w := w) (a := ⟨p, 0, none⟩) hp).trans h.c0
  · rw [e1]; show World.ownsRow _ _ _ _ _ (x.said.set k e).length _; rw [List.length_set]; exact h1
  · rw [Ep.l_set]; exact own_kept h.rl (fun j hj => hk1 j (fun e => h.sl g rfl (e ▸ hj)))
theorem waitC_info : ∃ i0, Try.prog.info? 61 = some i0 ∧ i0.zero = some (.agg #[.int .i64 0, .int .i64 0]) ∧ i0.size = 2 ∧ i0.bytes = 16 := by
  have h : (Try.prog.info? 61).map (fun i => (i.zero, i.size, i.bytes)) = some (some (.agg #[.int .i64 0, .int .i64 0]), 2, 16) := by kernel_rfl
  cases hq : Try.prog.info? 61 with
  | none => rw [hq] at h; simp at h
  | some i0 =>
    rw [hq] at h
    simp only [Option.map_some, Option.some.injEq, Prod.mk.injEq] at h
    exact ⟨i0, rfl, h.1, h.2.1, h.2.2⟩
theorem EpC.bump {w : World} {S : Nat → Prop} {p : Nat} {vs vl : Value} {x : Ep} (h : EpC w S p vs vl x) (hh : x.held = false) :
    EpC (w.setCell ⟨p, 0, none⟩ (.int .i64 ((x.now + 1 : Nat) : Int))) S p vs vl x.advT ∧ Beside S w (w.setCell ⟨p, 0, none⟩ (.int .i64 ((x.now + 1 : Nat) : Int))) := by
  have e : x.advT = { x with now := x.now + 1 } := by unfold Ep.advT; rw [hh]; rfl
  have ok := h.ok.adv
  rw [e] at ok ⊢
  have hk1 : ∀ j, j ≠ p → (w.setCell ⟨p, 0, none⟩ (.int .i64 ((x.now + 1 : Nat) : Int))).heap[j]? = w.heap[j]? := fun j hj => Below.heap_setCell _ _ _ _ hj
  refine ⟨⟨fun j hj => by simpa [World.setCell] using h.lt j hj, h.inp, World.cell?_setCell_same' _ _ _ (by rw [h.c0]; rfl), ?_, ?_, fun i => by rw [World.frozen?_setCell]; exact h.f i, own_kept h.rs (fun k hk => hk1 k (h.ns k hk).2), own_kept h.rl (fun k hk => hk1 k (h.nl k hk).2), h.ns, h.nl, h.sl, ok⟩, (Beside.refl S w).setCell (p := ⟨p, 0, none⟩) h.inp _⟩
  · rw [World.cell?_setCell_other _ _ _ _ (by intro he; injection he with h5 h6; omega)]; exact h.c1
  · rw [World.cell?_setCell_other _ _ _ _ (by intro he; injection he with h5 h6; omega)]; exact h.c2
theorem EpC.wait_at {w : World} {S : Nat → Prop} {p g c : Nat} {vs : Value} {x : Ep} (h : EpC w S p vs (.slice (some ⟨g, 0, none⟩) x.l.length c) x) {k : Nat} (hk : k < x.l.length) :
    w.cell? ⟨g, k * 2, none⟩ = some (.int .i64 (((x.l.getD k (0, 0)).1 : Nat) : Int)) ∧ w.cell? ⟨g, k * 2 + 1, none⟩ = some (.int .i64 (((x.l.getD k (0, 0)).2 : Nat) : Int)) :=
  ⟨(World.ownsRow.cellAt h.rl (k * 2) (by omega)).trans (valsW_at _ _ hk).1, (World.ownsRow.cellAt h.rl (k * 2 + 1) (by omega)).trans (valsW_at _ _ hk).2⟩
theorem EpC.wait_low {w : World} {S : Nat → Prop} {p : Nat} {vs vl : Value} {x : Ep} (h : EpC w S p vs vl x) (hb : x.now < 4611686018427387904) {k : Nat} (hk : k < x.l.length) : (x.l.getD k (0, 0)).2 < 4611686018427387904 :=
  Nat.lt_of_le_of_lt (h.ok.low (x.l.getD k (0, 0)) (by rw [List.getD_eq_getElem?_getD, List.getElem?_eq_getElem hk]; exact List.getElem_mem hk)).2 hb
theorem EpC.relist {w0 w : World} {S : Nat → Prop} {p : Nat} {vs vl v4 : Value} {x : Ep} {l' : List (Nat × Nat)} (h0 : EpC w0 S p vs vl x) (hB : Below w0.heap.size w0 w) (r4 : w.ownsRow w0.heap.size 61 2 v4 l'.length (valsW l')) (ok : ({ x with l := l' } : Ep).Ok) :
    EpC (w.setCell ⟨p, 2, none⟩ v4) (fun k => k = p ∨ vs.ownBlock = some k ∨ v4.ownBlock = some k) p vs v4 { x with l := l' } ∧ Fresh w0 S (fun k => k = p ∨ vs.ownBlock = some k ∨ v4.ownBlock = some k) ∧ Beside S w0 (w.setCell ⟨p, 2, none⟩ v4) := by
  have h := h0.on hB
  have hk1 : ∀ j, j ≠ p → (w.setCell ⟨p, 2, none⟩ v4).heap[j]? = w.heap[j]? := fun j hj => Below.heap_setCell _ _ _ _ hj
  have hp := h0.lt p h0.inp
  have n4 : ∀ k, v4.ownBlock = some k → k ≠ p := fun k hk e => by have := (World.ownsRow.lt r4 k hk).1; omega
  have s0 : ∀ k, vs.ownBlock = some k → k < w0.heap.size := fun k hk => h0.lt k (h0.ns k hk).1
  have sz : w.heap.size ≤ (w.setCell ⟨p, 2, none⟩ v4).heap.size := by simp [World.setCell]
  refine ⟨⟨fun k hk => ?_, .inl rfl, ?_, ?_, World.cell?_setCell_same' _ _ _ (by rw [h.c2]; rfl), fun i => by rw [World.frozen?_setCell]; exact h.f i, own_kept h.rs (fun k hk => hk1 k (h.ns k hk).2), ?_, fun k hk => ⟨.inr (.inl hk), (h.ns k hk).2⟩, fun k hk => ⟨.inr (.inr hk), n4 k hk⟩, fun k hk e => ?_, ok⟩, fun k hk hS => ?_, ?_⟩
  · refine Nat.lt_of_lt_of_le ?_ sz
    rcases hk with rfl | hk | hk
    · exact h.lt _ h.inp
    · exact h.lt k (h.ns k hk).1
    · exact (World.ownsRow.lt r4 k hk).2
  · rw [World.cell?_setCell_other _ _ _ _ (by intro he; injection he with h5 h6; omega)]; exact h.c0
  · rw [World.cell?_setCell_other _ _ _ _ (by intro he; injection he with h5 h6; omega)]; exact h.c1
  · exact own_kept (row_low r4 (Nat.zero_le _)) (fun k hk => hk1 k (n4 k hk))
  · have := s0 k hk
    have := (World.ownsRow.lt r4 k e).1
    omega
  · rcases hS with rfl | hS | hS
    · exact h0.inp
    · exact (h0.ns k hS).1
    · exact absurd (World.ownsRow.lt r4 k hS).1 (by omega)
  · exact (Beside.of hB).setCell (p := ⟨p, 2, none⟩) h0.inp _
structure EpCNew (w0 w : World) (p : Nat) (vs : Value) (k : Nat) : Prop where
  pl : w0.heap.size ≤ p
  lt : p < w.heap.size
  c0 : w.cell? ⟨p, 0, none⟩ = some (.int .i64 0)
  c1 : w.cell? ⟨p, 1, none⟩ = some vs
  c2 : w.cell? ⟨p, 2, none⟩ = some (.slice none 0 0)
  f : ∀ i, w.frozen? ⟨p, i, none⟩ = false
  rs : w.ownsRow (p + 1) 3 1 vs k (valsI (List.replicate k (-1)))
  below : Below w0.heap.size w0 w
theorem EpCNew.push {w0 w w' : World} {p k : Nat} {vs vs' : Value} {o : Obj} (h : EpCNew w0 w p vs k) (hg : (w.alloc o).grownBy w' vs.ownBlock)
    (hr : w'.ownsRow (p + 1) 3 1 vs' (k + 1) (valsI (List.replicate k (-1)) ++ valsI [-1])) : EpCNew w0 (w'.setCell ⟨p, 1, none⟩ vs') p vs' (k + 1) := by
  have hp := h.pl
  have n1 : vs.ownBlock ≠ some p := fun e => by have := (World.ownsRow.lt h.rs p e).1; omega
  have e := grow_at hg h.lt n1
  have B1 := grow_below h.below hg (fun j hj => by have := (World.ownsRow.lt h.rs j hj).1; omega)
  have c0 := (World.cell?_of_block (w := w) (a := ⟨p, 0, none⟩) e).trans h.c0
  have c1 := (World.cell?_of_block (w := w) (a := ⟨p, 1, none⟩) e).trans h.c1
  have c2 := (World.cell?_of_block (w := w) (a := ⟨p, 2, none⟩) e).trans h.c2
  refine ⟨hp, by simpa [World.setCell] using Nat.lt_of_lt_of_le h.lt (grow_size hg), ?_, World.cell?_setCell_same' _ _ _ (by rw [c1]; rfl), ?_, fun i => ?_, ?_, B1.setCell (p := ⟨p, 1, none⟩) hp _⟩
  · rw [World.cell?_setCell_other _ _ _ _ (by intro he; injection he with h5 h6; omega)]; exact c0
  · rw [World.cell?_setCell_other _ _ _ _ (by intro he; injection he with h5 h6; omega)]; exact c2
  · rw [World.frozen?_setCell]; exact (World.frozen?_of_block (w := w) (a := ⟨p, i, none⟩) e).trans (h.f i)
  · rw [valsI_push_rep] at hr
    exact own_kept hr (fun j hj => Below.heap_setCell _ _ _ _ (fun e2 => by have := (World.ownsRow.lt hr j hj).1; have e3 : j = p := e2; omega))
theorem EpCNew.done {w0 w : World} {p k : Nat} {vs : Value} (h : EpCNew w0 w p vs k) (h1 : 1 ≤ k) (h2 : k ≤ 64) : ∃ S : Nat → Prop, (∀ j, S j → w0.heap.size ≤ j) ∧ EpCR w S p (Ep.new k) := by
  have hp := h.pl
  refine ⟨fun j => j = p ∨ vs.ownBlock = some j, fun j hj => ?_, vs, .slice none 0 0, ⟨fun j hj => ?_, .inl rfl, h.c0, h.c1, h.c2, h.f, ?_, World.ownsRow_nil _ _ _ _, fun j hj => ⟨.inr hj, fun e => ?_⟩, (fun j h => nomatch h), (fun j _ h => nomatch h), Ep.Ok.new h1 h2⟩⟩
  · rcases hj with rfl | hj
    · exact hp
    · have := (World.ownsRow.lt h.rs j hj).1; omega
  · rcases hj with rfl | hj
    · exact h.lt
    · exact (World.ownsRow.lt h.rs j hj).2
  · show w.ownsRow 0 _ 1 vs (List.replicate k (-1)).length (valsI (List.replicate k (-1)))
    rw [List.length_replicate]
    exact row_low h.rs (Nat.zero_le _)
  · have := (World.ownsRow.lt h.rs j hj).1; omega
theorem len_pos_no {n : Nat} (h : 1 ≤ n) : ((n : Int) == 0) = false ∧ (n == 0) = false := ⟨beq_false_of_ne (by omega), beq_false_of_ne (by omega)⟩
set_option maxHeartbeats 1000000 in
set_option maxRecDepth 100000 in
theorem none14_ (S p x) (w : World) (H : EpCR w S p x) : Calls Try.prog 32 #[.pointer (some ⟨p, 0, none⟩)] w fun e w' => e = .returned (.bool false) ∧ w = w' := by
  obtain ⟨vs, vl, H⟩ := H
  have c1 := H.c1
  obtain ⟨e1, e2⟩ := len_pos_no H.ok.pos
  obtain ⟨g, c, rfl, hg⟩ := own_block H.rs H.ok.pos
  clear H
  go_enter Try.func32, Try.ntmps32
  go_wp2
  go_ret
  exact ⟨rfl, rfl⟩
/-- A pointer that is nil, or at epochs that New did not make. -/
def NoC (w : World) (v : Value) : Prop := v = .pointer none ∨ ∃ p, v = .pointer (some ⟨p, 0, none⟩) ∧ p < w.heap.size ∧ w.cell? ⟨p, 1, none⟩ = some (.slice none 0 0)
theorem NoC.on {w w' : World} {v : Value} (h : NoC w v) (hb : Below w.heap.size w w') : NoC w' v := by
  rcases h with rfl | ⟨p, rfl, hp, hc⟩
  · exact .inl rfl
  · exact .inr ⟨p, rfl, Nat.lt_of_lt_of_le hp hb.size, (hb.cell (p := ⟨p, 1, none⟩) hp).trans hc⟩
set_option maxHeartbeats 1000000 in
set_option maxRecDepth 100000 in
theorem none14N_ (v : Value) (w : World) (H : NoC w v) : Calls Try.prog 32 #[v] w fun e w' => e = .returned (.bool true) ∧ w = w' := by
  rcases H with rfl | ⟨p, rfl, hp, c1⟩
  · go_enter Try.func32, Try.ntmps32
    go_wp2
    go_ret
    exact ⟨rfl, rfl⟩
  · clear hp
    go_enter Try.func32, Try.ntmps32
    go_wp2
    go_ret
    exact ⟨rfl, rfl⟩
set_option maxHeartbeats 1000000 in
set_option maxRecDepth 100000 in
theorem new14E_ (n : Int) (w : World) (hn : n < 1 ∨ 64 < n) : Calls Try.prog 8 #[.int .i64 n] w fun e w' => e = .returned (.tuple #[.pointer none, .int .i64 2]) ∧ w = w' := by
  by_cases h : n < 1
  · have e1 : decide (n < 1) = true := by simpa using h
    clear h hn
    go_enter Try.func8, Try.ntmps8
    go_wp2
    go_ret2
    exact ⟨rfl, rfl⟩
  · have e1 : decide (n < 1) = false := by simpa using h
    have e2 : decide (64 < n) = true := by simp; omega
    clear h hn
    go_enter Try.func8, Try.ntmps8
    go_wp2
    go_ret2
    exact ⟨rfl, rfl⟩
set_option maxHeartbeats 2000000 in
set_option maxRecDepth 100000 in
theorem new14_ (n : Nat) (w : World) (h1 : 1 ≤ n) (h2 : n ≤ 64) : Calls Try.prog 8 #[.int .i64 (n : Int)] w fun e w' => ∃ q S, e = .returned (.tuple #[.pointer (some ⟨q, 0, none⟩), .int .i64 0]) ∧ Below w.heap.size w w' ∧ (∀ k, S k → w.heap.size ≤ k) ∧ EpCR w' S q (Ep.new n) := by
  have e1 : decide ((n : Int) < 1) = false := by simp; omega
  have e2 : decide (64 < (n : Int)) = false := by simp; omega
  obtain ⟨i0, hi0, hz0, hz1, hz2⟩ := int_info14
  go_enter Try.func8, Try.ntmps8
  go_upto_region 5 with fail
  have N1 : EpCNew w (w.alloc (.cells #[.int .i64 0, .slice none 0 0, .slice none 0 0] 44)) w.heap.size (.slice none 0 0) 0 :=
    ⟨Nat.le_refl _, by simp, by simp [go_sem], by simp [go_sem], by simp [go_sem], fun i => by simp [go_sem], World.ownsRow_nil _ _ _ _, (Below.refl _ _).alloc (Nat.le_refl _) _⟩
  obtain ⟨w1, hw1⟩ : ∃ w1, w1 = w.alloc (.cells #[.int .i64 0, .slice none 0 0, .slice none 0 0] 44) := ⟨_, rfl⟩
  rw [← hw1] at N1 ⊢
  clear hw1
  go_loopw [13] (fun si wr => ∃ (i : Nat) (vs : Value), i ≤ n ∧ si = .int .i64 (i : Int) ∧ EpCNew w wr w.heap.size vs i) (fun si _ => n - (intOf si).toNat)
  case atStart => exact ⟨0, _, Nat.zero_le _, rfl, N1⟩
  case round =>
    obtain ⟨k, vs, hk, rfl, N2⟩ := hrel
    clear N1
    have EW := Lib.hid (step_14 (j := k) (Nat.lt_of_le_of_lt (Nat.le_trans hk h2) (by decide)))
    by_cases hlt : k < n
    · have t1 : decide ((k : Int) < (n : Int)) = true := by simpa using hlt
      obtain ⟨m1, m2, m3⟩ := few_ok (n := 256) (m := k) (Nat.le_refl _) (Nat.le_trans (Nat.le_trans hk h2) (by decide))
      obtain ⟨vs', w13, hrun, hown, hgrow, _, hblk⟩ := run_append_own_at (P := Try.prog) (w := wr.alloc (.cells #[.int .i64 (-1)] 3)) (w.heap.size + 1) 36 36 3 i0 _ 1 8 Try.underlying36 hi0 hz0 hz1 hz2 rfl (Nat.succ_pos _) vs k (valsI (List.replicate k (-1))) (N2.rs.alloc (.cells #[.int .i64 (-1)] 3)) ⟨wr.heap.size, 0, none⟩ 1 1 (valsI [-1]) rfl (intP wr (-1) _) (onesI _) m1 m3 (Nat.le_trans N2.lt (Nat.le_trans (Nat.le_succ _) (Nat.le_of_eq (World.size_alloc ..).symm)))
      have e := grow_at hgrow N2.lt (fun e => Nat.lt_irrefl _ (World.ownsRow.lt N2.rs _ e).1)
      have c1 := N2.c1
      have c1' := (World.cell?_of_block (w := wr) (a := ⟨w.heap.size, 1, none⟩) e).trans N2.c1
      have f1' := (World.frozen?_of_block (w := wr) (a := ⟨w.heap.size, 1, none⟩) e).trans (N2.f 1)
      obtain ⟨av, cv, rfl⟩ := own_slice hown
      obtain ⟨av0, cv0, rfl⟩ := own_slice N2.rs
      have NN := Lib.hid (N2.push hgrow hown)
      have RUN := Lib.hid hrun
      have HL := Lib.hid hlt
      clear hrun hown hgrow hblk N2 m1 m2 m3 hlt hk e
      go_wp2_with (at_builtin; refine Lib.wpList_append_run _ rfl _ _ 36 36 rfl _ _ rfl rfl _ _ RUN.out ?_)
      go_roundw
      case rel => exact ⟨k + 1, _, HL.out, by simp [EW.out], NN.out⟩
      case measure => first | exact step_meas14 EW.out (step_less14 HL.out) | (simp [EW.out]; exact step_less14 HL.out) | exact step_less14 HL.out
    · obtain rfl : k = n := Nat.le_antisymm hk (Nat.le_of_not_lt hlt)
      have t1 : decide ((k : Int) < (k : Int)) = false := by simp
      obtain ⟨S, hS, hE⟩ := N2.done h1 h2
      have B2 := N2.below
      clear N2 hlt hk
      go_wp2
      go_ret2
      exact ⟨_, S, rfl, B2, hS, hE⟩
end Go.Proofs.Ytghicdajcmkfjaa
