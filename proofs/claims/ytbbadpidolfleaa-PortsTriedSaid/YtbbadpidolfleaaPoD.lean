/- The document's ports (layer 16): change; Confirm, Drop, Release. Written by gen_pod.py. -/
import Derived.Test.YtbbadpidolfleaaVh
import Derived.Test.YtbbadpidolfleaaLast
namespace Go.Proofs.Ytbbadpidolfleaa
set_option linter.unusedVariables false
set_option linter.unusedSimpArgs false
open Go.ChangeShapes Go.WideShapes Go.ChangeAt Go.RowKit Go.PlainAid
attribute [local go_sem ↓] Go.wp_at_zero Go.wp_at_succ
/-- append, as one step of a region that draws. -/
theorem step_append16 {P : Program} {ops : Array Oper} {o : Oper} {a : Act} {w : World} {K : Act → World → Prop} {Q : Exit → Act → World → Prop} {E : Prop} (hg : o.guard = none) (d x : Operand) (dT sT : TypeId) (hop : o.op = Op.call { callee := Callee.builtin Builtin.append, args := #[d, x], argTypes := #[dT, sT] })
    (v u : Value) (hd : a.eval d = v) (hx : a.eval x = u) {v' : Value} {w' : World} (hr : (Builtin.append_ #[dT, sT] o.type #[v, u]).run P w = .ok v' w') (hK : K (a.put o.dst v') w') :
    if Region.wanted o (yielded ops a.tmps) = true then Oper.wp P o a w K Q else E := by
  rw [if_pos (by simp [Region.wanted, hg])]
  exact Lib.wp_append_run w d x dT sT hop v u hd hx _ _ hr hK
/-- The document's ports, whatever rows they are. -/
structure PoW (w : World) (S : Nat → Prop) (p : Nat) (v : Value) (l : List Ro) : Prop where
  lt : ∀ k, S k → k < w.heap.size
  inp : S p
  c0 : w.cell? ⟨p, 0, none⟩ = some v
  f : w.frozen? ⟨p, 0, none⟩ = false
  own : eltQ.Own w 0 v l
  ns : ∀ g, v.ownBlock = some g → S g ∧ g ≠ p
section
variable {w w' : World} {S : Nat → Prop} {p : Nat} {v v' : Value} {x : Po} {l l' : List Ro}
theorem PoD.weak (h : PoD w S p v x) : PoW w S p v x.l := ⟨h.lt, h.inp, h.c0, h.f, h.own, h.ns⟩
theorem PoW.full (h : PoW w S p v l) (ok : (⟨l⟩ : Po).Ok) : PoD w S p v ⟨l⟩ := ⟨h.lt, h.inp, h.c0, h.f, h.own, h.ns, ok⟩
theorem PoW.on (h : PoW w S p v l) (hb : Below w.heap.size w w') : PoW w' S p v l :=
  ⟨fun k hk => Nat.lt_of_lt_of_le (h.lt k hk) hb.size, h.inp, (hb.cell (p := ⟨p, 0, none⟩) (h.lt p h.inp)).trans h.c0, (World.frozen?_of_block (w := w) (a := ⟨p, 0, none⟩) (hb.block p (h.lt p h.inp))).trans h.f, h.own.on hb, h.ns⟩
theorem PoW.relist (h0 : PoW w S p v l) (hB : Below w.heap.size w w') (ho : eltQ.Own w' w.heap.size v' l') :
    PoW (w'.setCell ⟨p, 0, none⟩ v') (fun k => k = p ∨ v'.ownBlock = some k) p v' l' ∧ Fresh w S (fun k => k = p ∨ v'.ownBlock = some k) ∧ Beside S w (w'.setCell ⟨p, 0, none⟩ v') := by
  have h := h0.on hB
  have hk1 : ∀ j, j ≠ p → (w'.setCell ⟨p, 0, none⟩ v').heap[j]? = w'.heap[j]? := fun j hj => Below.heap_setCell _ _ _ _ hj
  have hp0 := h0.lt p h0.inp
  have sz : w'.heap.size ≤ (w'.setCell ⟨p, 0, none⟩ v').heap.size := by simp [World.setCell]
  have np : ∀ g, v'.ownBlock = some g → g ≠ p := fun g e => by have := (ho.lt g e).1; omega
  refine ⟨⟨fun k hk => ?_, .inl rfl, World.cell?_setCell_same _ _ _ h.c0, by rw [World.frozen?_setCell]; exact h.f, ?_, fun g hg => ⟨.inr hg, np g hg⟩⟩, fun k hk hS => ?_, (Beside.of hB).setCell (p := ⟨p, 0, none⟩) h0.inp _⟩
  · refine Nat.lt_of_lt_of_le ?_ sz
    rcases hk with rfl | hk
    · exact h.lt _ h.inp
    · exact (ho.lt k hk).2
  · exact (ho.down (Nat.zero_le _)).keep fun g hg => hk1 g (np g hg)
  · rcases hS with rfl | hS
    · exact h0.inp
    · have := (ho.lt k hS).1; omega
theorem PoW.store {g c n : Nat} (h : PoW w S p (.slice (some ⟨g, 0, none⟩) n c) l) (hn : n = l.length) {i j : Nat} (hi : i < l.length) (hj : j < 7) {y : Ro} {u : Value} (he : y.cs = (l.getD i Ro.zero).cs.set j u) :
    PoW (w.setCell ⟨g, i * 7 + j, none⟩ u) S p (.slice (some ⟨g, 0, none⟩) n c) (l.set i y) ∧ Beside S w (w.setCell ⟨g, i * 7 + j, none⟩ u) := by
  subst hn
  have hg := h.ns g rfl
  have hk1 : ∀ k, k ≠ g → (w.setCell ⟨g, i * 7 + j, none⟩ u).heap[k]? = w.heap[k]? := fun k hk => Below.heap_setCell _ _ _ _ hk
  have sz : w.heap.size ≤ (w.setCell ⟨g, i * 7 + j, none⟩ u).heap.size := by simp [World.setCell]
  exact ⟨⟨fun k hk => Nat.lt_of_lt_of_le (h.lt k hk) sz, h.inp, (World.cell?_of_block (w := w) (a := ⟨p, 0, none⟩) (hk1 p (Ne.symm hg.2))).trans h.c0, by rw [World.frozen?_setCell]; exact h.f, Elt.Own.set (E := eltQ) h.own hi hj he, h.ns⟩, (Beside.refl S w).setCell (p := ⟨g, i * 7 + j, none⟩) hg.1 u⟩
/-- A row's two numbers are changed. -/
theorem PoD.two {g c i : Nat} (h : PoD w S p (.slice (some ⟨g, 0, none⟩) x.l.length c) x) (hi : i < x.l.length) (lv hd : Nat) : PoW ((w.setCell ⟨g, i * 7 + 6, none⟩ (.int .i64 (hd : Int))).setCell ⟨g, i * 7 + 5, none⟩ (.int .i64 (lv : Int))) S p (.slice (some ⟨g, 0, none⟩) x.l.length c) (x.l.set i { x.l.getD i Ro.zero with lv := lv, hd := hd }) ∧ Beside S w ((w.setCell ⟨g, i * 7 + 6, none⟩ (.int .i64 (hd : Int))).setCell ⟨g, i * 7 + 5, none⟩ (.int .i64 (lv : Int))) := by
  obtain ⟨h1, b1⟩ := h.weak.store rfl hi (j := 6) (y := { x.l.getD i Ro.zero with hd := hd }) (u := .int .i64 (hd : Int)) (by decide) rfl
  have e : (x.l.set i { x.l.getD i Ro.zero with hd := hd }).getD i Ro.zero = { x.l.getD i Ro.zero with hd := hd } := by
    rw [List.getD_eq_getElem?_getD, List.getElem?_set_self hi]; rfl
  obtain ⟨h2, b2⟩ := h1.store (List.length_set ..).symm (i := i) (by rw [List.length_set]; exact hi) (j := 5) (y := { x.l.getD i Ro.zero with lv := lv, hd := hd }) (u := .int .i64 (lv : Int)) (by decide) (by rw [e]; rfl)
  rw [List.set_set] at h2
  exact ⟨h2, b1.trans b2⟩
/-- A row is taken out. -/
theorem PoW.out {g c i n : Nat} (ty ty2 : TypeId) (h : PoW w S p (.slice (some ⟨g, 0, none⟩) n c) l) (hn : n = l.length) (hi : i < l.length) (few : l.length ≤ 1000) : ∃ A1 C1 n1 A2 C2 n2 v7 w7 v9 w9, (∀ u, (Instr.slice 27 (.slice (some ⟨g, 0, none⟩) n c) none (some (.int .i64 (i : Int))) none).run Try.prog u = .ok (.slice A1 n1 C1) u) ∧ (∀ u, (Instr.slice 27 (.slice (some ⟨g, 0, none⟩) n c) (some (.int .i64 ((i + 1 : Nat) : Int))) none none).run Try.prog u = .ok (.slice A2 n2 C2) u) ∧
    (Builtin.append_ #[27, 27] ty #[.slice none 0 0, .slice A1 n1 C1]).run Try.prog w = .ok v7 w7 ∧ (Builtin.append_ #[27, 27] ty2 #[v7, .slice A2 n2 C2]).run Try.prog w7 = .ok v9 w9 ∧ eltQ.Own w9 w.heap.size v9 (l.take i ++ l.drop (i + 1)) ∧ Below w.heap.size w w7 ∧ Below w.heap.size w w9 := by
  subst hn
  obtain ⟨a, c', e, hs, _⟩ := h.own.sl
  injection e with e1 e2 e3
  subst e1 e3
  obtain ⟨A1, C1, s1, S1⟩ := hs.low (Nat.le_of_lt hi)
  obtain ⟨A2, C2, s2, S2, _⟩ := hs.high (i := i + 1) hi
  have hlen : (l.take i).length + (l.drop (i + 1)).length ≤ 1000 := by rw [List.length_take, List.length_drop]; omega
  obtain ⟨v7, w7, v9, w9, r7, r9, ho, b7, b9⟩ := Elt.two_own eltQ ty ty2 S1 S2 (Nat.le_trans (Nat.mul_le_mul_right _ hlen) (by decide)) (Nat.le_trans hlen (by decide))
  exact ⟨A1, C1, _, A2, C2, _, v7, w7, v9, w9, s1, s2, r7, r9, ho, b7, b9⟩
end
theorem set_out {l : List Ro} {i : Nat} (y : Ro) : (l.set i y).take i ++ (l.set i y).drop (i + 1) = l.take i ++ l.drop (i + 1) := by
  rw [List.take_set, List.drop_set, if_pos (Nat.lt_succ_self i), List.set_eq_of_length_le (by rw [List.length_take]; omega)]
/-- A row's two numbers. -/
theorem PoW.nums {w : World} {S : Nat → Prop} {p g c n i : Nat} {l : List Ro} {y : Ro} (h : PoW w S p (.slice (some ⟨g, 0, none⟩) n c) (l.set i y)) (hn : n = l.length) (hi : i < l.length) : w.cell? ⟨g, i * 7 + 5, none⟩ = some (.int .i64 (y.lv : Int)) ∧ w.cell? ⟨g, i * 7 + 6, none⟩ = some (.int .i64 (y.hd : Int)) := by
  have e : (l.set i y).getD i Ro.zero = y := by rw [List.getD_eq_getElem?_getD, List.getElem?_set_self hi]; rfl
  have ho := h.own
  rw [show n = (l.set i y).length by rw [List.length_set]; exact hn] at ho
  have hi2 : i < (l.set i y).length := by rw [List.length_set]; exact hi
  exact ⟨Elt.Own.at (E := eltQ) ho hi2 (j := 5) (by decide) (by show (Ro.cs ((l.set i y).getD i Ro.zero))[5]? = _; rw [e]; rfl), Elt.Own.at (E := eltQ) ho hi2 (j := 6) (by decide) (by show (Ro.cs ((l.set i y).getD i Ro.zero))[6]? = _; rw [e]; rfl)⟩
theorem nat_wraps {n : Nat} (h : n ≤ 1000) : IntKind.i64.wrap (n : Int) = (n : Int) ∧ wrap64 (n : Int) = (n : Int) ∧ IntKind.i64.wrap ((n : Int) + 1) = ((n + 1 : Nat) : Int) ∧ wrap64 ((n : Int) + 1) = ((n + 1 : Nat) : Int) ∧ (0 < n → IntKind.i64.wrap ((n : Int) + -1) = ((n - 1 : Nat) : Int) ∧ wrap64 ((n : Int) + -1) = ((n - 1 : Nat) : Int)) := by
  refine ⟨by rw [IntKind.wrap_i64]; omega, by rw [IntWalk.wrap64_in _ (by omega)], by rw [IntKind.wrap_i64]; omega, step_16 (by omega), fun h0 => ⟨by rw [IntKind.wrap_i64]; omega, ?_⟩⟩
  rw [IntWalk.wrap64_in _ (by omega)]; omega
theorem nat_zero {n : Nat} (h : 0 < n) : ((n : Int) == 0) = false ∧ (n == 0) = false ∧ ¬ (n : Int) = 0 ∧ ¬ n = 0 := ⟨by rw [beq_eq_false_iff_ne]; omega, by rw [beq_eq_false_iff_ne]; omega, by omega, by omega⟩
end Go.Proofs.Ytbbadpidolfleaa
