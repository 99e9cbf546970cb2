/- Texts of this proof, together: PoM, PoA, PoB, PoC. -/
import Derived.Test.YtbbadpidolfleaaPoK
import Derived.Test.YtbbadpidolfleaaGb
import Derived.BigRegion
import Derived.Deep.DeepCutAuto
import Derived.Lib.AppendZeros
namespace Go.Proofs.Ytbbadpidolfleaa
set_option linter.unusedVariables false
set_option maxRecDepth 100000
set_option linter.unusedSimpArgs false
open Go.ChangeShapes Go.WideShapes Go.ChangeAt Go.RowKit Go.PlainAid
namespace Elt
variable {α : Type} (E : Elt α)
/-- One cell of one of them. -/
theorem vals_set {l : List α} {i j : Nat} (hi : i < l.length) (hj : j < E.k) {y : α} {u : Value} (he : E.enc y = (E.enc (l.getD i E.d)).set j u) : E.vals (l.set i y) = (E.vals l).set (i * E.k + j) u := by
  have hx : l.getD i E.d = l[i] := by rw [List.getD_eq_getElem?_getD, List.getElem?_eq_getElem hi]; rfl
  have h : l = l.take i ++ l[i] :: l.drop (i + 1) := by rw [List.getElem_cons_drop, List.take_append_drop]
  have hs : l.set i y = l.take i ++ y :: l.drop (i + 1) := List.set_eq_take_append_cons_drop.trans (if_pos hi)
  have e : (E.vals (l.take i)).length = i * E.k := by rw [E.vals_len, List.length_take, Nat.min_eq_left (Nat.le_of_lt hi)]
  have hv : E.vals l = E.vals (l.take i) ++ (E.enc l[i] ++ E.vals (l.drop (i + 1))) := by rw [← E.vals_cons, ← E.vals_app, ← h]
  rw [hs, E.vals_app, E.vals_cons, hv, List.set_append_right _ _ (by omega), e, Nat.add_sub_cancel_left, List.set_append_left _ _ (by rw [E.len]; exact hj), he, hx]
variable {E} {w : World} {B g c : Nat} {l : List α}
theorem Own.set (h : E.Own w B (.slice (some ⟨g, 0, none⟩) l.length c) l) {i j : Nat} (hi : i < l.length) (hj : j < E.k) {y : α} {u : Value} (he : E.enc y = (E.enc (l.getD i E.d)).set j u) : E.Own (w.setCell ⟨g, i * E.k + j, none⟩ u) B (.slice (some ⟨g, 0, none⟩) l.length c) (l.set i y) := by
  have hs := (World.ownsRow.stored h (i * E.k + j) u).1
  unfold Own
  rw [List.length_set, E.vals_set hi hj he]
  exact hs
/-- One of them, of a row of the call's own. -/
theorem Own.at (h : E.Own w B (.slice (some ⟨g, 0, none⟩) l.length c) l) {i : Nat} (hi : i < l.length) {j : Nat} {u : Value} (hj : j < E.k) (hu : (E.enc (l.getD i E.d))[j]? = some u) : w.cell? ⟨g, i * E.k + j, none⟩ = some u :=
  (World.ownsRow.cellAt h (i * E.k + j) (by
    have : (i + 1) * E.k ≤ l.length * E.k := Nat.mul_le_mul_right _ hi
    rw [Nat.add_mul, Nat.one_mul] at this; omega)).trans ((E.vals_at hi hj).trans hu)
theorem Own.fr (h : E.Own w B (.slice (some ⟨g, 0, none⟩) l.length c) l) (j : Nat) : w.frozen? ⟨g, j, none⟩ = false := World.ownsRow.frozenAt h j
/-- append(append([]T(nil), p...), q...): a row of the call's own. -/
theorem two_own (E : Elt α) (ty ty2 : TypeId) {w : World} {a1 a2 : Option Addr} {c1 c2 : Nat} {p q : List α} (h1 : E.Sl w a1 c1 p) (h2 : E.Sl w a2 c2 q) (hl : (p.length + q.length) * E.bytes ≤ 140737488355328) (h63 : p.length + q.length ≤ maxLen) :
    ∃ v7 w7 v9 w9, (Builtin.append_ #[E.TS, E.TS] ty #[.slice none 0 0, .slice a1 p.length c1]).run Try.prog w = .ok v7 w7 ∧ (Builtin.append_ #[E.TS, E.TS] ty2 #[v7, .slice a2 q.length c2]).run Try.prog w7 = .ok v9 w9 ∧
      E.Own w9 w.heap.size v9 (p ++ q) ∧ Below w.heap.size w w7 ∧ Below w.heap.size w w9 := by
  have hb : p.length * E.bytes ≤ 140737488355328 := Nat.le_trans (Nat.mul_le_mul_right _ (Nat.le_add_right _ _)) hl
  obtain ⟨v7, w7, r7, o7, g7, _⟩ := Own.append (E := E) ty (Own.nil w w.heap.size) h1 (by rw [List.length_nil, Nat.zero_add]; exact hb) (by rw [List.length_nil, Nat.zero_add]; omega) (Nat.le_refl _)
  have b7 : Below w.heap.size w w7 := (Below.refl w.heap.size w).grown g7 (Nat.le_refl _) (fun k e => nomatch e)
  rw [List.nil_append] at o7
  obtain ⟨v9, w9, r9, o9, g9, _⟩ := Own.append (E := E) ty2 o7 (h2.on b7) hl h63 b7.size
  exact ⟨v7, w7, v9, w9, r7, r9, o9, b7, b7.grown g9 b7.size (fun k e => (o7.lt k e).1)⟩
end Elt
/-- The document's rows. -/
def eltQ : Elt Ro where
  enc x := x.cs
  d := Ro.zero
  k := 7
  bytes := 40
  T := 78
  TS := 27
  pos := by decide
  len _ := rfl
  one x u hu := by
    simp only [Ro.cs, List.mem_cons, List.not_mem_nil, or_false] at hu
    rcases hu with rfl | rfl | rfl | rfl | rfl | rfl | rfl <;> rfl
  und := Try.underlying27
  el := by kernel_rfl
  inf := by
    have h : (Try.prog.info? 78).map (fun i => (i.zero, i.size, i.bytes)) = some (some (.agg #[.int .u8 0, .int .u32 0, .int .u16 0, .int .u32 0, .int .u16 0, .int .i64 0, .int .i64 0]), 7, 40) := by kernel_rfl
    cases hq : Try.prog.info? 78 with
    | none => rw [hq] at h; simp at h
    | some i0 =>
      rw [hq] at h
      simp only [Option.map_some, Option.some.injEq, Prod.mk.injEq] at h
      exact ⟨i0, _, rfl, h.1, h.2.1, h.2.2, rfl⟩
  sz w := Try.sizeOf78 w
/-- Who is changed, of a list: one. -/
theorem map_set {α : Type} {l : List α} {p : α → Bool} {f : α → α} {i : Nat} {d : α} (hi : i < l.length) (hp : p (l.getD i d) = true) (hu : ∀ j, j < l.length → p (l.getD j d) = true → j = i) : l.map (fun r => if p r then f r else r) = l.set i (f (l.getD i d)) := by
  refine List.ext_getElem (by simp) fun j h1 h2 => ?_
  have hj : j < l.length := by simpa using h1
  have ej : l.getD j d = l[j] := by rw [List.getD_eq_getElem?_getD, List.getElem?_eq_getElem hj]; rfl
  rw [List.getElem_map, List.getElem_set]
  by_cases e : i = j
  · subst e
    rw [if_pos rfl]
    rw [ej] at hp ⊢
    rw [if_pos hp]
  · rw [if_neg e]
    by_cases hq : p l[j] = true
    · exact absurd (hu j hj (by rw [ej]; exact hq)).symm e
    · rw [if_neg hq]
theorem getD_mem {α : Type} {l : List α} {i : Nat} (d : α) (hi : i < l.length) : l.getD i d ∈ l := by rw [List.getD_eq_getElem?_getD, List.getElem?_eq_getElem hi]; exact List.getElem_mem _
theorem pw_ix {α : Type} {R : α → α → Prop} {l : List α} {d : α} (h : l.Pairwise R) {i j : Nat} (hi : i < l.length) (hj : j < l.length) (n : ¬ R (l.getD i d) (l.getD j d)) (m : ¬ R (l.getD j d) (l.getD i d)) : i = j := by
  have ei : l.getD i d = l[i] := by rw [List.getD_eq_getElem?_getD, List.getElem?_eq_getElem hi]; rfl
  have ej : l.getD j d = l[j] := by rw [List.getD_eq_getElem?_getD, List.getElem?_eq_getElem hj]; rfl
  rw [ei, ej] at n m
  rcases Nat.lt_trichotomy i j with hlt | rfl | hlt
  · exact absurd (List.pairwise_iff_getElem.1 h i j hi hj hlt) n
  · rfl
  · exact absurd (List.pairwise_iff_getElem.1 h j i hj hi hlt) m
namespace Po
theorem hold_set {x : Po} (h : x.Ok) {pr ii ip : Int} {i : Nat} (hi : i < x.l.length) (hp : (x.l.getD i Ro.zero).isI pr ii ip = true) : x.hold pr ii ip = ⟨x.l.set i { x.l.getD i Ro.zero with hd := (x.l.getD i Ro.zero).hd + 1 }⟩ := by
  refine congrArg Po.mk (map_set hi hp fun j hj hq => pw_ix (d := Ro.zero) h.nd hj hi ?_ ?_)
  · intro hn; exact hn ⟨((Ro.isI_iff _ _ _ _).1 hq).1.trans ((Ro.isI_iff _ _ _ _).1 hp).1.symm, ((Ro.isI_iff _ _ _ _).1 hq).2.1.trans ((Ro.isI_iff _ _ _ _).1 hp).2.1.symm, ((Ro.isI_iff _ _ _ _).1 hq).2.2.trans ((Ro.isI_iff _ _ _ _).1 hp).2.2.symm⟩
  · intro hn; exact hn ⟨((Ro.isI_iff _ _ _ _).1 hp).1.trans ((Ro.isI_iff _ _ _ _).1 hq).1.symm, ((Ro.isI_iff _ _ _ _).1 hp).2.1.trans ((Ro.isI_iff _ _ _ _).1 hq).2.1.symm, ((Ro.isI_iff _ _ _ _).1 hp).2.2.trans ((Ro.isI_iff _ _ _ _).1 hq).2.2.symm⟩
theorem alter_map {x : Po} (h : x.Ok) (c : Ch) {pr oi op : Int} {i : Nat} (hi : i < x.l.length) (hp : (x.l.getD i Ro.zero).isO pr oi op = true) : (x.l.map fun r => if r.isO pr oi op then c.on r else r) = x.l.set i (c.on (x.l.getD i Ro.zero)) := by
  refine map_set hi hp fun j hj hq => pw_ix (d := Ro.zero) h.st hj hi ?_ ?_
  · intro hn; exact Ro.ahead_ne hn ⟨((Ro.isO_iff _ _ _ _).1 hq).1.trans ((Ro.isO_iff _ _ _ _).1 hp).1.symm, ((Ro.isO_iff _ _ _ _).1 hq).2.1.trans ((Ro.isO_iff _ _ _ _).1 hp).2.1.symm, ((Ro.isO_iff _ _ _ _).1 hq).2.2.trans ((Ro.isO_iff _ _ _ _).1 hp).2.2.symm⟩
  · intro hn; exact Ro.ahead_ne hn ⟨((Ro.isO_iff _ _ _ _).1 hp).1.trans ((Ro.isO_iff _ _ _ _).1 hq).1.symm, ((Ro.isO_iff _ _ _ _).1 hp).2.1.trans ((Ro.isO_iff _ _ _ _).1 hq).2.1.symm, ((Ro.isO_iff _ _ _ _).1 hp).2.2.trans ((Ro.isO_iff _ _ _ _).1 hq).2.2.symm⟩
theorem alter_live {x : Po} (h : x.Ok) (c : Ch) {pr oi op : Int} {i : Nat} (hi : i < x.l.length) (hp : (x.l.getD i Ro.zero).isO pr oi op = true) (hl : 0 < (c.on (x.l.getD i Ro.zero)).lv + (c.on (x.l.getD i Ro.zero)).hd) : x.alter c pr oi op = ⟨x.l.set i (c.on (x.l.getD i Ro.zero))⟩ := by
  unfold Po.alter
  rw [alter_map h c hi hp]
  refine congrArg Po.mk (List.filter_eq_self.2 fun r hr => ?_)
  have : 0 < r.lv + r.hd := by
    rcases List.mem_or_eq_of_mem_set hr with hr | rfl
    · exact h.som r hr
    · exact hl
  simp
  omega
theorem alter_dead {x : Po} (h : x.Ok) (c : Ch) {pr oi op : Int} {i : Nat} (hi : i < x.l.length) (hp : (x.l.getD i Ro.zero).isO pr oi op = true) (hl : (c.on (x.l.getD i Ro.zero)).lv = 0 ∧ (c.on (x.l.getD i Ro.zero)).hd = 0) : x.alter c pr oi op = ⟨x.l.take i ++ x.l.drop (i + 1)⟩ := by
  unfold Po.alter
  rw [alter_map h c hi hp]
  have hs : x.l.set i (c.on (x.l.getD i Ro.zero)) = x.l.take i ++ c.on (x.l.getD i Ro.zero) :: x.l.drop (i + 1) := List.set_eq_take_append_cons_drop.trans (if_pos hi)
  have live : ∀ l : List Ro, (∀ r ∈ l, r ∈ x.l) → l.filter (fun r => !(r.lv == 0 && r.hd == 0)) = l := fun l hl => List.filter_eq_self.2 fun r hr => by
    have := h.som r (hl r hr)
    simp
    omega
  rw [hs, List.filter_append, List.filter_cons, if_neg (by rw [hl.1, hl.2]; decide), live _ (fun r hr => List.mem_of_mem_take hr), live _ (fun r hr => List.mem_of_mem_drop hr)]
end Po
/-- The document's ports: a block of one cell; a row of what there is. -/
structure PoD (w : World) (S : Nat → Prop) (p : Nat) (v : Value) (x : Po) : Prop where
  lt : ∀ k, S k → k < w.heap.size
  inp : S p
  c0 : w.cell? ⟨p, 0, none⟩ = some v
  f : w.frozen? ⟨p, 0, none⟩ = false
  own : eltQ.Own w 0 v x.l
  ns : ∀ g, v.ownBlock = some g → S g ∧ g ≠ p
  ok : x.Ok
def PoR (w : World) (S : Nat → Prop) (p : Nat) (x : Po) : Prop := ∃ v, PoD w S p v x
section
variable {w w' : World} {S : Nat → Prop} {p : Nat} {v : Value} {x : Po}
theorem PoD.keep (h : PoD w S p v x) (hs : w.heap.size ≤ w'.heap.size) (hb : ∀ k, S k → w'.heap[k]? = w.heap[k]?) : PoD w' S p v x :=
  have hp := hb p h.inp
  ⟨fun k hk => Nat.lt_of_lt_of_le (h.lt k hk) hs, h.inp, (World.cell?_of_block (w := w) (a := ⟨p, 0, none⟩) hp).trans h.c0, (World.frozen?_of_block (w := w) (a := ⟨p, 0, none⟩) hp).trans h.f, h.own.keep (fun g hg => hb g (h.ns g hg).1), h.ns, h.ok⟩
theorem PoD.on (h : PoD w S p v x) (hb : Below w.heap.size w w') : PoD w' S p v x := h.keep hb.size fun k hk => hb.block k (h.lt k hk)
/-- It is a slice. -/
theorem PoD.sl (h : PoD w S p v x) : ∃ a c, v = .slice a x.l.length c ∧ eltQ.Sl w a c x.l ∧ (∀ b off, a = some ⟨b, off, none⟩ → v.ownBlock = some b) ∧ (0 < x.l.length → ∃ g, a = some ⟨g, 0, none⟩) := by
  obtain ⟨a, c, e, hs, hn⟩ := h.own.sl
  refine ⟨a, c, e, hs, hn, fun hl => ?_⟩
  rcases h.own.2 with ⟨_, h0⟩ | ⟨g, c', cur, e', _⟩
  · omega
  · rw [e] at e'
    injection e' with e1 e2 e3
    exact ⟨g, e1⟩
/-- Other rows take the place of those that there were. -/
theorem PoD.relist {w0 : World} {v' : Value} {l' : List Ro} (h0 : PoD w0 S p v x) (hB : Below w0.heap.size w0 w) (ho : eltQ.Own w w0.heap.size v' l') (ok : (⟨l'⟩ : Po).Ok) :
    PoD (w.setCell ⟨p, 0, none⟩ v') (fun k => k = p ∨ v'.ownBlock = some k) p v' ⟨l'⟩ ∧ Fresh w0 S (fun k => k = p ∨ v'.ownBlock = some k) ∧ Beside S w0 (w.setCell ⟨p, 0, none⟩ v') := by
  have h := h0.on hB
  have hk1 : ∀ j, j ≠ p → (w.setCell ⟨p, 0, none⟩ v').heap[j]? = w.heap[j]? := fun j hj => Below.heap_setCell _ _ _ _ hj
  have hp0 := h0.lt p h0.inp
  have sz : w.heap.size ≤ (w.setCell ⟨p, 0, none⟩ v').heap.size := by simp [World.setCell]
  have np : ∀ g, v'.ownBlock = some g → g ≠ p := fun g e => by have := (ho.lt g e).1; omega
  refine ⟨⟨fun k hk => ?_, .inl rfl, World.cell?_setCell_same _ _ _ h.c0, by rw [World.frozen?_setCell]; exact h.f, ?_, fun g hg => ⟨.inr hg, np g hg⟩, ok⟩, fun k hk hS => ?_, (Beside.of hB).setCell (p := ⟨p, 0, none⟩) h0.inp _⟩
  · refine Nat.lt_of_lt_of_le ?_ sz
    rcases hk with rfl | hk
    · exact h.lt _ h.inp
    · exact (ho.lt k hk).2
  · exact (ho.down (Nat.zero_le _)).keep fun g hg => hk1 g (np g hg)
  · rcases hS with rfl | hS
    · exact h0.inp
    · have := (ho.lt k hS).1; omega
/-- One cell of a row is stored into. -/
theorem PoD.store {g c : Nat} {x' : Po} (h : PoD w S p (.slice (some ⟨g, 0, none⟩) x.l.length c) x) {i j : Nat} (hi : i < x.l.length) (hj : j < 7) {y : Ro} {u : Value} (he : y.cs = (x.l.getD i Ro.zero).cs.set j u) (hx : x' = ⟨x.l.set i y⟩) (ok : x'.Ok) :
    PoD (w.setCell ⟨g, i * 7 + j, none⟩ u) S p (.slice (some ⟨g, 0, none⟩) x.l.length c) x' ∧ Beside S w (w.setCell ⟨g, i * 7 + j, none⟩ u) := by
  subst hx
  have hg := h.ns g rfl
  have hk1 : ∀ k, k ≠ g → (w.setCell ⟨g, i * 7 + j, none⟩ u).heap[k]? = w.heap[k]? := fun k hk => Below.heap_setCell _ _ _ _ hk
  have sz : w.heap.size ≤ (w.setCell ⟨g, i * 7 + j, none⟩ u).heap.size := by simp [World.setCell]
  refine ⟨⟨fun k hk => Nat.lt_of_lt_of_le (h.lt k hk) sz, h.inp, (World.cell?_of_block (w := w) (a := ⟨p, 0, none⟩) (hk1 p (Ne.symm hg.2))).trans h.c0, by rw [World.frozen?_setCell]; exact h.f, Elt.Own.set (E := eltQ) h.own hi hj he, h.ns, ok⟩, (Beside.refl S w).setCell (p := ⟨g, i * 7 + j, none⟩) hg.1 u⟩
end
def poR : ObjP Po where
  Rep := PoR
  lt := fun ⟨_, h⟩ => h.lt
  keep := fun ⟨v, h⟩ hs hb => ⟨v, h.keep hs hb⟩
end Go.Proofs.Ytbbadpidolfleaa

namespace Go.Proofs.Ytbbadpidolfleaa
set_option linter.unusedVariables false
set_option linter.unusedSimpArgs false
open Go.ChangeShapes Go.WideShapes Go.ChangeAt Go.RowKit Go.PlainAid
attribute [local go_sem ↓] Go.wp_at_zero Go.wp_at_succ
theorem says_same {P : Program} {f : FuncId} {args : Array Value} {w : World} {v : Value} (h : Calls P f args w fun e w' => e = .returned v ∧ w = w') : Says P f args w v := Calls.mono h fun _ _ ⟨he, hb⟩ => ⟨he, hb ▸ Below.refl _ _⟩
theorem step_less16 {j n : Nat} (h : j < n) : n - (j + 1) < n - j := by omega
theorem step_meas16 {j n : Nat} (h : wrap64 ((j : Int) + 1) = (j : Int) + 1) (hl : n - (j + 1) < n - j) : n - (intOf (.int .i64 (wrap64 ((j : Int) + 1)))).toNat < n - (intOf (.int .i64 (j : Int))).toNat := by
  rw [h]; exact hl
theorem step_16 {j : Nat} (h : j < 4611686018427387904) : wrap64 ((j : Int) + 1) = ((j + 1 : Nat) : Int) := by
  rw [IntWalk.wrap64_in _ (by omega)]; omega
theorem ix16 {i n : Nat} (h : i < n) : decide ((i : Int) < (n : Int)) = true ∧ (i : Int) < (n : Int) ∧ (0 : Int) ≤ (i : Int) := ⟨by simpa using h, Int.ofNat_lt.2 h, Int.natCast_nonneg _⟩
/-- A row's cells. -/
theorem PoD.at {w : World} {S : Nat → Prop} {p : Nat} {v : Value} {x : Po} (h : PoD w S p v x) {i : Nat} (hi : i < x.l.length) : ∃ g c, v = .slice (some ⟨g, 0, none⟩) x.l.length c ∧ g < w.heap.size ∧ (∀ j, w.frozen? ⟨g, j, none⟩ = false) ∧
    w.cell? ⟨g, i * 7, none⟩ = some (.int .u8 (x.l.getD i Ro.zero).pr) ∧ w.cell? ⟨g, i * 7 + 1, none⟩ = some (.int .u32 (x.l.getD i Ro.zero).oi) ∧ w.cell? ⟨g, i * 7 + 2, none⟩ = some (.int .u16 (x.l.getD i Ro.zero).op) ∧ w.cell? ⟨g, i * 7 + 3, none⟩ = some (.int .u32 (x.l.getD i Ro.zero).ii) ∧ w.cell? ⟨g, i * 7 + 4, none⟩ = some (.int .u16 (x.l.getD i Ro.zero).ip) ∧ w.cell? ⟨g, i * 7 + 5, none⟩ = some (.int .i64 ((x.l.getD i Ro.zero).lv : Int)) ∧ w.cell? ⟨g, i * 7 + 6, none⟩ = some (.int .i64 ((x.l.getD i Ro.zero).hd : Int)) := by
  obtain ⟨a, c, e, _, hn, hg⟩ := h.sl
  obtain ⟨g, rfl⟩ := hg (by omega)
  have ho := h.own
  rw [e] at ho
  refine ⟨g, c, e, (h.own.lt g (hn g 0 rfl)).2, fun j => Elt.Own.fr (E := eltQ) ho j, Elt.Own.at (E := eltQ) ho hi (j := 0) (by decide) rfl, Elt.Own.at (E := eltQ) ho hi (j := 1) (by decide) rfl, Elt.Own.at (E := eltQ) ho hi (j := 2) (by decide) rfl, Elt.Own.at (E := eltQ) ho hi (j := 3) (by decide) rfl, Elt.Own.at (E := eltQ) ho hi (j := 4) (by decide) rfl, Elt.Own.at (E := eltQ) ho hi (j := 5) (by decide) rfl, Elt.Own.at (E := eltQ) ho hi (j := 6) (by decide) rfl⟩
set_option maxHeartbeats 1000000 in
set_option maxRecDepth 100000 in
theorem rless16_ (t u : Ro) (w : World) : Says Try.prog 60 #[.agg #[.int .u8 t.pr, .int .u32 t.oi, .int .u16 t.op, .int .u32 t.ii, .int .u16 t.ip, .int .i64 (t.lv : Int), .int .i64 (t.hd : Int)], .agg #[.int .u8 u.pr, .int .u32 u.oi, .int .u16 u.op, .int .u32 u.ii, .int .u16 u.ip, .int .i64 (u.lv : Int), .int .i64 (u.hd : Int)]] w (.bool (t.ahead u)) := by
  have B1 : Below w.heap.size w ((w.alloc (.cells #[.int .u8 t.pr, .int .u32 t.oi, .int .u16 t.op, .int .u32 t.ii, .int .u16 t.ip, .int .i64 (t.lv : Int), .int .i64 (t.hd : Int)] 78)).alloc (.cells #[.int .u8 u.pr, .int .u32 u.oi, .int .u16 u.op, .int .u32 u.ii, .int .u16 u.ip, .int .i64 (u.lv : Int), .int .i64 (u.hd : Int)] 78)) := ((Below.refl _ _).alloc (Nat.le_refl _) _).alloc (by simp) _
  obtain ⟨tp, ti, tq, t4, t5, t6, t7⟩ := t
  obtain ⟨up, ui, uq, u4, u5, u6, u7⟩ := u
  simp only at B1
  show Calls _ _ _ _ _
  by_cases h1 : tp = up
  · subst h1
    by_cases h2 : ti = ui
    · subst h2
      have HV : Hid (Ro.ahead ⟨tp, ti, tq, t4, t5, t6, t7⟩ ⟨tp, ti, uq, u4, u5, u6, u7⟩ = decide (tq < uq)) := by show _ = _; unfold Ro.ahead; rw [if_pos rfl, if_pos rfl]
      go_enter Try.func60, Try.ntmps60
      go_wp2
      go_ret
      rw [HV.out]
      exact ⟨rfl, B1⟩
    · have HV : Hid (Ro.ahead ⟨tp, ti, tq, t4, t5, t6, t7⟩ ⟨tp, ui, uq, u4, u5, u6, u7⟩ = decide (ti < ui)) := by show _ = _; unfold Ro.ahead; rw [if_pos rfl, if_neg h2]
      have e1 : (ti != ui) = true := bne_iff_ne.2 h2
      go_enter Try.func60, Try.ntmps60
      go_wp2
      go_ret
      rw [HV.out]
      exact ⟨rfl, B1⟩
  · have HV : Hid (Ro.ahead ⟨tp, ti, tq, t4, t5, t6, t7⟩ ⟨up, ui, uq, u4, u5, u6, u7⟩ = decide (tp < up)) := by show _ = _; unfold Ro.ahead; rw [if_neg h1]
    have e1 : (tp != up) = true := bne_iff_ne.2 h1
    go_enter Try.func60, Try.ntmps60
    go_wp2
    go_ret
    rw [HV.out]
    exact ⟨rfl, B1⟩
set_option maxHeartbeats 3000000 in
set_option maxRecDepth 100000 in
theorem rowner16_ (S p x) (pr oi op : Int) (w : World) (H : PoR w S p x) (hl : x.l.length ≤ 1000) : Says Try.prog 17 #[.pointer (some ⟨p, 0, none⟩), .int .u8 pr, .agg #[.int .u32 oi, .int .u16 op]] w (.int .i64 (firstAt x.l fun t => t.isO pr oi op)) := by
  obtain ⟨v, H⟩ := H
  have B1 : Below w.heap.size w (w.alloc (.cells #[.int .u32 oi, .int .u16 op] 34)) := (Below.refl _ _).alloc (Nat.le_refl _) _
  have H1 := H.on B1
  have b0 : (w.alloc (.cells #[.int .u32 oi, .int .u16 op] 34)).cell? ⟨w.heap.size, 0, none⟩ = some (.int .u32 oi) := by simp [go_sem]
  have b1 : (w.alloc (.cells #[.int .u32 oi, .int .u16 op] 34)).cell? ⟨w.heap.size, 1, none⟩ = some (.int .u16 op) := by simp [go_sem]
  have hs : (w.alloc (.cells #[.int .u32 oi, .int .u16 op] 34)).heap.size = w.heap.size + 1 := by simp
  have HL := Lib.hid hl
  clear H hl
  show Calls _ _ _ _ _
  go_enter Try.func17, Try.ntmps17
  go_upto_region 1 with fail
  obtain ⟨u, hu⟩ : ∃ x_ : World, x_ = w.alloc (.cells #[.int .u32 oi, .int .u16 op] 34) := ⟨_, rfl⟩
  rw [← hu] at B1 H1 b0 b1 hs ⊢
  clear hu
  have Hb := Lib.hid (show w.heap.size < u.heap.size by omega)
  clear hs
  have HH := Lib.hid H1
  have HC := Lib.hid (And.intro b0 b1)
  clear H1 b0 b1
  go_upto_region 2 with fail
  go_loopw [7] (fun si wr => ∃ i : Nat, i ≤ x.l.length ∧ si = .int .i64 (i : Int) ∧ Below u.heap.size u wr ∧ Hid (∀ j, j < i → (x.l.getD j Ro.zero).isO pr oi op = false)) (fun si _ => x.l.length - (intOf si).toNat)
  case atStart => exact ⟨0, Nat.zero_le _, rfl, Below.refl _ _, fun j hj => absurd hj (Nat.not_lt_zero j)⟩
  case round =>
    obtain ⟨i, hi, rfl, bb, HF⟩ := hrel
    have EW := Lib.hid (step_16 (j := i) (Nat.lt_of_le_of_lt (Nat.le_trans hi HL.out) (by decide)))
    have H2 := HH.out.on bb
    have c1 := H2.c0
    by_cases hlt : i < x.l.length
    · have HI := Lib.hid hlt
      obtain ⟨e10, e12, e13⟩ := ix16 hlt
      obtain ⟨g, c, rfl, hb, _, y0, ya, yb, _⟩ := H2.at hlt
      have z0 := (bb.cell (p := ⟨w.heap.size, 0, none⟩) Hb.out).trans HC.out.1
      have z1 := (bb.cell (p := ⟨w.heap.size, 1, none⟩) Hb.out).trans HC.out.2
      obtain ⟨t, ht⟩ : ∃ t_, t_ = x.l.getD i Ro.zero := ⟨_, rfl⟩
      rw [← ht] at y0 ya yb
      have HT := Lib.hid ht
      clear ht hlt hi hb H2
      have key : t.isO pr oi op = (t.pr == pr && (t.oi == oi && t.op == op)) := rfl
      cases hq : t.isO pr oi op with
      | true =>
        have HV : Hid (firstAt x.l (fun t => t.isO pr oi op) = (i : Int)) := firstAt_hit HI.out HF.out (by rw [← HT.out]; exact hq)
        obtain ⟨q0, q1, q2⟩ := (t.isO_iff pr oi op).1 hq
        rw [q0] at y0
        rw [q1] at ya
        rw [q2] at yb
        clear hq key q0 q1 q2
        go_wp2
        go_region
        go_wp2
        go_ret
        exact ⟨by rw [HV.out]; rfl, B1.trans ((bb.mono B1.size).trans ((Below.refl _ _).drew.mono (Nat.le_trans B1.size bb.size)))⟩
      | false =>
        have HN : Hid ((x.l.getD i Ro.zero).isO pr oi op = false) := by show _ = _; rw [← HT.out]; exact hq
        have hk : ¬ (t.pr = pr ∧ t.oi = oi ∧ t.op = op) := fun e => by rw [(t.isO_iff pr oi op).2 e] at hq; cases hq
        generalize t.pr = t1 at y0 hk
        generalize t.oi = t2 at ya hk
        generalize t.op = t3 at yb hk
        by_cases n1 : t1 = pr
        · by_cases n2 : t2 = oi
          · have n3 : ¬ t3 = op := fun e => hk ⟨n1, n2, e⟩
            subst n1 n2
            clear key hq HT hk
            go_wp2
            go_region
            have bk := bb.drew
            generalize wr.drew = wy at bk ⊢
            clear y0 ya yb z0 z1 c1
            go_wp2
            go_roundw
            case rel => exact ⟨i + 1, HI.out, by simp [EW.out], bk, fun j hj => by
              by_cases e : j = i
              · rw [e]; exact HN.out
              · exact HF.out j (by omega)⟩
            case measure => first | exact step_meas16 EW.out (step_less16 HI.out) | (simp [EW.out]; exact step_less16 HI.out) | exact step_less16 HI.out
          · subst n1
            clear key hq HT hk
            go_wp2
            go_region
            have bk := bb.drew
            generalize wr.drew = wy at bk ⊢
            clear y0 ya yb z0 z1 c1
            go_wp2
            go_roundw
            case rel => exact ⟨i + 1, HI.out, by simp [EW.out], bk, fun j hj => by
              by_cases e : j = i
              · rw [e]; exact HN.out
              · exact HF.out j (by omega)⟩
            case measure => first | exact step_meas16 EW.out (step_less16 HI.out) | (simp [EW.out]; exact step_less16 HI.out) | exact step_less16 HI.out
        · have e1 : (t1 == pr) = false := beq_false_of_ne n1
          have e2 : decide (t1 = pr) = false := decide_eq_false n1
          clear key hq HT hk
          go_wp2
          go_region
          have bk := bb.drew
          generalize wr.drew = wy at bk ⊢
          clear y0 ya yb z0 z1 c1
          go_wp2
          go_roundw
          case rel => exact ⟨i + 1, HI.out, by simp [EW.out], bk, fun j hj => by
            by_cases e : j = i
            · rw [e]; exact HN.out
            · exact HF.out j (by omega)⟩
          case measure => first | exact step_meas16 EW.out (step_less16 HI.out) | (simp [EW.out]; exact step_less16 HI.out) | exact step_less16 HI.out
    · obtain rfl : i = x.l.length := Nat.le_antisymm hi (Nat.le_of_not_lt hlt)
      have t1 : decide ((x.l.length : Int) < (x.l.length : Int)) = false := by simp
      have HV : Hid (firstAt x.l (fun t => t.isO pr oi op) = -1) := firstAt_none HF.out
      obtain ⟨a, c, rfl, _⟩ := H2.sl
      clear hlt hi H2
      go_wp2
      go_ret
      exact ⟨by rw [HV.out]; rfl, B1.trans (bb.mono B1.size)⟩
set_option maxHeartbeats 3000000 in
set_option maxRecDepth 100000 in
theorem rof16_ (S p x) (pr ii ip : Int) (w : World) (H : PoR w S p x) (hl : x.l.length ≤ 1000) : Says Try.prog 16 #[.pointer (some ⟨p, 0, none⟩), .int .u8 pr, .agg #[.int .u32 ii, .int .u16 ip]] w (.int .i64 (firstAt x.l fun t => t.isI pr ii ip)) := by
  obtain ⟨v, H⟩ := H
  have B1 : Below w.heap.size w (w.alloc (.cells #[.int .u32 ii, .int .u16 ip] 34)) := (Below.refl _ _).alloc (Nat.le_refl _) _
  have H1 := H.on B1
  have b0 : (w.alloc (.cells #[.int .u32 ii, .int .u16 ip] 34)).cell? ⟨w.heap.size, 0, none⟩ = some (.int .u32 ii) := by simp [go_sem]
  have b1 : (w.alloc (.cells #[.int .u32 ii, .int .u16 ip] 34)).cell? ⟨w.heap.size, 1, none⟩ = some (.int .u16 ip) := by simp [go_sem]
  have hs : (w.alloc (.cells #[.int .u32 ii, .int .u16 ip] 34)).heap.size = w.heap.size + 1 := by simp
  have HL := Lib.hid hl
  clear H hl
  show Calls _ _ _ _ _
  go_enter Try.func16, Try.ntmps16
  go_upto_region 1 with fail
  obtain ⟨u, hu⟩ : ∃ x_ : World, x_ = w.alloc (.cells #[.int .u32 ii, .int .u16 ip] 34) := ⟨_, rfl⟩
  rw [← hu] at B1 H1 b0 b1 hs ⊢
  clear hu
  have Hb := Lib.hid (show w.heap.size < u.heap.size by omega)
  clear hs
  have HH := Lib.hid H1
  have HC := Lib.hid (And.intro b0 b1)
  clear H1 b0 b1
  go_upto_region 2 with fail
  go_loopw [7] (fun si wr => ∃ i : Nat, i ≤ x.l.length ∧ si = .int .i64 (i : Int) ∧ Below u.heap.size u wr ∧ Hid (∀ j, j < i → (x.l.getD j Ro.zero).isI pr ii ip = false)) (fun si _ => x.l.length - (intOf si).toNat)
  case atStart => exact ⟨0, Nat.zero_le _, rfl, Below.refl _ _, fun j hj => absurd hj (Nat.not_lt_zero j)⟩
  case round =>
    obtain ⟨i, hi, rfl, bb, HF⟩ := hrel
    have EW := Lib.hid (step_16 (j := i) (Nat.lt_of_le_of_lt (Nat.le_trans hi HL.out) (by decide)))
    have H2 := HH.out.on bb
    have c1 := H2.c0
    by_cases hlt : i < x.l.length
    · have HI := Lib.hid hlt
      obtain ⟨e10, e12, e13⟩ := ix16 hlt
      obtain ⟨g, c, rfl, hb, _, y0, _, _, ya, yb, _⟩ := H2.at hlt
      have z0 := (bb.cell (p := ⟨w.heap.size, 0, none⟩) Hb.out).trans HC.out.1
      have z1 := (bb.cell (p := ⟨w.heap.size, 1, none⟩) Hb.out).trans HC.out.2
      obtain ⟨t, ht⟩ : ∃ t_, t_ = x.l.getD i Ro.zero := ⟨_, rfl⟩
      rw [← ht] at y0 ya yb
      have HT := Lib.hid ht
      clear ht hlt hi hb H2
      have key : t.isI pr ii ip = (t.pr == pr && (t.ii == ii && t.ip == ip)) := rfl
      cases hq : t.isI pr ii ip with
      | true =>
        have HV : Hid (firstAt x.l (fun t => t.isI pr ii ip) = (i : Int)) := firstAt_hit HI.out HF.out (by rw [← HT.out]; exact hq)
        obtain ⟨q0, q1, q2⟩ := (t.isI_iff pr ii ip).1 hq
        rw [q0] at y0
        rw [q1] at ya
        rw [q2] at yb
        clear hq key q0 q1 q2
        go_wp2
        go_region
        go_wp2
        go_ret
        exact ⟨by rw [HV.out]; rfl, B1.trans ((bb.mono B1.size).trans ((Below.refl _ _).drew.mono (Nat.le_trans B1.size bb.size)))⟩
      | false =>
        have HN : Hid ((x.l.getD i Ro.zero).isI pr ii ip = false) := by show _ = _; rw [← HT.out]; exact hq
        have hk : ¬ (t.pr = pr ∧ t.ii = ii ∧ t.ip = ip) := fun e => by rw [(t.isI_iff pr ii ip).2 e] at hq; cases hq
        generalize t.pr = t1 at y0 hk
        generalize t.ii = t2 at ya hk
        generalize t.ip = t3 at yb hk
        by_cases n1 : t1 = pr
        · by_cases n2 : t2 = ii
          · have n3 : ¬ t3 = ip := fun e => hk ⟨n1, n2, e⟩
            subst n1 n2
            clear key hq HT hk
            go_wp2
            go_region
            have bk := bb.drew
            generalize wr.drew = wy at bk ⊢
            clear y0 ya yb z0 z1 c1
            go_wp2
            go_roundw
            case rel => exact ⟨i + 1, HI.out, by simp [EW.out], bk, fun j hj => by
              by_cases e : j = i
              · rw [e]; exact HN.out
              · exact HF.out j (by omega)⟩
            case measure => first | exact step_meas16 EW.out (step_less16 HI.out) | (simp [EW.out]; exact step_less16 HI.out) | exact step_less16 HI.out
          · subst n1
            clear key hq HT hk
            go_wp2
            go_region
            have bk := bb.drew
            generalize wr.drew = wy at bk ⊢
            clear y0 ya yb z0 z1 c1
            go_wp2
            go_roundw
            case rel => exact ⟨i + 1, HI.out, by simp [EW.out], bk, fun j hj => by
              by_cases e : j = i
              · rw [e]; exact HN.out
              · exact HF.out j (by omega)⟩
            case measure => first | exact step_meas16 EW.out (step_less16 HI.out) | (simp [EW.out]; exact step_less16 HI.out) | exact step_less16 HI.out
        · have e1 : (t1 == pr) = false := beq_false_of_ne n1
          have e2 : decide (t1 = pr) = false := decide_eq_false n1
          clear key hq HT hk
          go_wp2
          go_region
          have bk := bb.drew
          generalize wr.drew = wy at bk ⊢
          clear y0 ya yb z0 z1 c1
          go_wp2
          go_roundw
          case rel => exact ⟨i + 1, HI.out, by simp [EW.out], bk, fun j hj => by
            by_cases e : j = i
            · rw [e]; exact HN.out
            · exact HF.out j (by omega)⟩
          case measure => first | exact step_meas16 EW.out (step_less16 HI.out) | (simp [EW.out]; exact step_less16 HI.out) | exact step_less16 HI.out
    · obtain rfl : i = x.l.length := Nat.le_antisymm hi (Nat.le_of_not_lt hlt)
      have t1 : decide ((x.l.length : Int) < (x.l.length : Int)) = false := by simp
      have HV : Hid (firstAt x.l (fun t => t.isI pr ii ip) = -1) := firstAt_none HF.out
      obtain ⟨a, c, rfl, _⟩ := H2.sl
      clear hlt hi H2
      go_wp2
      go_ret
      exact ⟨by rw [HV.out]; rfl, B1.trans (bb.mono B1.size)⟩
set_option maxHeartbeats 1000000 in
set_option maxRecDepth 100000 in
theorem rmay16_ (v : Wi) (w : World) : Calls Try.prog 18 #[.agg #[.int .u8 v.pr, .int .u32 v.ii, .int .u16 v.ip, .int .u32 v.oi, .int .u16 v.fr, .int .u16 v.to, .int .u16 v.dr]] w fun e w' => e = .returned (.bool (decide v.may)) ∧ Below w.heap.size w w' := by
  have HV : Hid (decide v.may = (decide (0 < v.fr) && decide (v.fr ≤ v.to))) := by show _ = _; unfold Wi.may; exact Bool.decide_and _ _
  have HB : Hid (∀ o, Below w.heap.size w (w.alloc o)) := fun o => (Below.refl _ _).alloc (Nat.le_refl _) _
  go_enter Try.func18, Try.ntmps18
  cases h1 : decide (0 < v.fr) with
  | true =>
    go_wp2
    go_ret
    rw [HV.out, h1]
    exact ⟨rfl, HB.out _⟩
  | false =>
    go_wp2
    go_ret
    rw [HV.out, h1]
    exact ⟨rfl, HB.out _⟩
end Go.Proofs.Ytbbadpidolfleaa

namespace Go.Proofs.Ytbbadpidolfleaa
set_option linter.unusedVariables false
set_option linter.unusedSimpArgs false
open Go.ChangeShapes Go.WideShapes Go.ChangeAt Go.RowKit Go.PlainAid
attribute [local go_sem ↓] Go.wp_at_zero Go.wp_at_succ
/-- The loop of put, plainly: what has been laid, and whether the new one has. -/
def stepP (t : Ro) (s : List Ro × Bool) (a : Ro) : List Ro × Bool := if !s.2 && t.ahead a then (s.1 ++ [t] ++ [a], true) else (s.1 ++ [a], s.2)
def foldP (t : Ro) (l : List Ro) : List Ro × Bool := l.foldl (stepP t) ([], false)
theorem foldP_true (t : Ro) : ∀ (l acc : List Ro), l.foldl (stepP t) (acc, true) = (acc ++ l, true)
  | [], acc => by simp
  | a :: l, acc => by
    rw [List.foldl_cons]
    show l.foldl (stepP t) (acc ++ [a], true) = _
    rw [foldP_true t l, List.append_assoc]
    rfl
theorem foldP_false (t : Ro) : ∀ (l acc : List Ro), (l.foldl (stepP t) (acc, false)).1 = (if l.any (fun a => t.ahead a) then acc ++ Po.ins l t else acc ++ l) ∧ (l.foldl (stepP t) (acc, false)).2 = l.any (fun a => t.ahead a)
  | [], acc => by simp
  | a :: l, acc => by
    rw [List.foldl_cons, List.any_cons]
    cases ha : t.ahead a with
    | true =>
      have e : stepP t (acc, false) a = (acc ++ [t] ++ [a], true) := by unfold stepP; simp [ha]
      rw [e, foldP_true]
      refine ⟨?_, rfl⟩
      show _ = acc ++ Po.ins (a :: l) t
      unfold Po.ins
      rw [List.takeWhile_cons, List.dropWhile_cons, ha]
      simp
    | false =>
      have e : stepP t (acc, false) a = (acc ++ [a], false) := by unfold stepP; simp [ha]
      rw [e]
      obtain ⟨h1, h2⟩ := foldP_false t l (acc ++ [a])
      refine ⟨?_, by rw [h2]; rfl⟩
      rw [h1]
      show (if l.any (fun a => t.ahead a) = true then _ else _) = (if (false || l.any (fun a => t.ahead a)) = true then _ else _)
      rw [Bool.false_or]
      split
      · unfold Po.ins
        rw [List.takeWhile_cons, List.dropWhile_cons, ha]
        simp
      · simp
theorem tw_all {p : Ro → Bool} : ∀ {l : List Ro}, (∀ a ∈ l, p a = true) → l.takeWhile p = l ∧ l.dropWhile p = []
  | [], _ => ⟨rfl, rfl⟩
  | a :: l, h => by
    obtain ⟨h1, h2⟩ := tw_all (l := l) fun b hb => h b (List.mem_cons_of_mem _ hb)
    rw [List.takeWhile_cons, List.dropWhile_cons, h a (List.mem_cons_self ..), if_pos rfl, if_pos rfl, h1, h2]
    exact ⟨rfl, rfl⟩
theorem foldP_ins (t : Ro) (l : List Ro) : (if (foldP t l).2 then (foldP t l).1 else (foldP t l).1 ++ [t]) = Po.ins l t := by
  obtain ⟨h1, h2⟩ := foldP_false t l []
  unfold foldP
  rw [h2, h1]
  cases ha : l.any (fun a => t.ahead a) with
  | true => simp
  | false =>
    have hall := List.any_eq_false.1 ha
    obtain ⟨e1, e2⟩ := tw_all (p := fun a => !t.ahead a) (l := l) fun a h => by simpa using hall a h
    unfold Po.ins
    rw [e1, e2]
    simp
theorem foldP_succ (t : Ro) {l : List Ro} {i : Nat} (hi : i < l.length) : foldP t (l.take (i + 1)) = stepP t (foldP t (l.take i)) (l.getD i Ro.zero) := by
  have e : l.getD i Ro.zero = l[i] := by rw [List.getD_eq_getElem?_getD, List.getElem?_eq_getElem hi]; rfl
  unfold foldP
  rw [e, List.take_add_one, List.getElem?_eq_getElem hi, List.foldl_append]
  rfl
theorem foldP_len (t : Ro) (l : List Ro) : (foldP t l).1.length ≤ l.length + 1 ∧ ((foldP t l).2 = false → (foldP t l).1.length = l.length) := by
  obtain ⟨h1, h2⟩ := foldP_false t l []
  unfold foldP
  rw [h1, h2]
  cases l.any (fun a => t.ahead a) with
  | true => refine ⟨?_, fun e => by cases e⟩; rw [if_pos rfl, List.nil_append, Po.ins_len]; exact Nat.le_refl _
  | false => rw [if_neg (by decide)]; simp
/-- A row in a box of its own. -/
structure BoxR (w : World) (b : Nat) (t : Ro) : Prop where
  lt : b < w.heap.size
  c0 : w.cell? ⟨b, 0, none⟩ = some (.int .u8 t.pr)
  c1 : w.cell? ⟨b, 1, none⟩ = some (.int .u32 t.oi)
  c2 : w.cell? ⟨b, 2, none⟩ = some (.int .u16 t.op)
  c3 : w.cell? ⟨b, 3, none⟩ = some (.int .u32 t.ii)
  c4 : w.cell? ⟨b, 4, none⟩ = some (.int .u16 t.ip)
  c5 : w.cell? ⟨b, 5, none⟩ = some (.int .i64 (t.lv : Int))
  c6 : w.cell? ⟨b, 6, none⟩ = some (.int .i64 (t.hd : Int))
theorem BoxR.keep {w w' : World} {b : Nat} {t : Ro} (h : BoxR w b t) (hs : w.heap.size ≤ w'.heap.size) (hb : w'.heap[b]? = w.heap[b]?) : BoxR w' b t :=
  ⟨Nat.lt_of_lt_of_le h.lt hs, (World.cell?_of_block (w := w) (a := ⟨b, 0, none⟩) hb).trans h.c0, (World.cell?_of_block (w := w) (a := ⟨b, 1, none⟩) hb).trans h.c1, (World.cell?_of_block (w := w) (a := ⟨b, 2, none⟩) hb).trans h.c2, (World.cell?_of_block (w := w) (a := ⟨b, 3, none⟩) hb).trans h.c3, (World.cell?_of_block (w := w) (a := ⟨b, 4, none⟩) hb).trans h.c4, (World.cell?_of_block (w := w) (a := ⟨b, 5, none⟩) hb).trans h.c5, (World.cell?_of_block (w := w) (a := ⟨b, 6, none⟩) hb).trans h.c6⟩
theorem BoxR.on {w w' : World} {b : Nat} {t : Ro} (h : BoxR w b t) (hb : Below w.heap.size w w') : BoxR w' b t := h.keep hb.size (hb.block b h.lt)
theorem BoxR.made (w : World) (t : Ro) (T : TypeId) : BoxR (w.alloc (.cells #[.int .u8 t.pr, .int .u32 t.oi, .int .u16 t.op, .int .u32 t.ii, .int .u16 t.ip, .int .i64 (t.lv : Int), .int .i64 (t.hd : Int)] T)) w.heap.size t :=
  have c := fun j => World.cell?_alloc_mark w #[.int .u8 t.pr, .int .u32 t.oi, .int .u16 t.op, .int .u32 t.ii, .int .u16 t.ip, .int .i64 (t.lv : Int), .int .i64 (t.hd : Int)] T (0, 0) j
  ⟨by simp, c 0, c 1, c 2, c 3, c 4, c 5, c 6⟩
/-- The loop of put in memory. -/
structure PutS (w wr : World) (S : Nat → Prop) (p : Nat) (v : Value) (x : Po) (t : Ro) (i : Nat) (u : Value) (d : Bool) : Prop where
  po : PoD wr S p v x
  own : eltQ.Own wr (w.heap.size + 1) u (foldP t (x.l.take i)).1
  dn : d = (foldP t (x.l.take i)).2
  box : BoxR wr w.heap.size t
  below : Below w.heap.size w wr
section
variable {w wr w' : World} {S : Nat → Prop} {p i : Nat} {v u u' : Value} {x : Po} {t : Ro} {d : Bool}
theorem PutS.on (h : PutS w wr S p v x t i u d) (hb : Below wr.heap.size wr w') : PutS w w' S p v x t i u d := ⟨h.po.on hb, h.own.on hb, h.dn, h.box.on hb, h.below.trans (hb.mono h.below.size)⟩
theorem PutS.few (h : PutS w wr S p v x t i u d) (hl : x.l.length ≤ 1000) (hi : i < x.l.length) : (foldP t (x.l.take i)).1.length ≤ 1001 := by
  have := (foldP_len t (x.l.take i)).1
  rw [List.length_take] at this
  omega
/-- One more has been laid behind those that have been. -/
theorem own_more {B : Nat} {l : List Ro} (ho : eltQ.Own wr B u l) (a : Ro) (hB : B ≤ wr.heap.size) (hl : l.length ≤ 1010) : ∃ w' v' , (Builtin.append_ #[27, 27] 27 #[u, .slice (some ⟨wr.heap.size, 0, none⟩) 1 1]).run Try.prog (wr.alloc (.cells #[.int .u8 a.pr, .int .u32 a.oi, .int .u16 a.op, .int .u32 a.ii, .int .u16 a.ip, .int .i64 (a.lv : Int), .int .i64 (a.hd : Int)] 78)) = .ok v' w' ∧ eltQ.Own w' B v' (l ++ [a]) ∧ wr.heap.size ≤ w'.heap.size ∧ (∀ k, k < wr.heap.size → u.ownBlock ≠ some k → w'.heap[k]? = wr.heap[k]?) ∧ (∀ (w0 : World), Below w0.heap.size w0 wr → w0.heap.size ≤ B → Below w0.heap.size w0 w') ∧ (∀ k, k < wr.heap.size → u.ownBlock ≠ some k → v'.ownBlock ≠ some k) := by
  obtain ⟨v', w', hrun, hown, hgrow, hnew⟩ := (ho.alloc (.cells #[.int .u8 a.pr, .int .u32 a.oi, .int .u16 a.op, .int .u32 a.ii, .int .u16 a.ip, .int .i64 (a.lv : Int), .int .i64 (a.hd : Int)] 78)).append 27 (Elt.Sl.box (E := eltQ) wr a 78 #[.int .u8 a.pr, .int .u32 a.oi, .int .u16 a.op, .int .u32 a.ii, .int .u16 a.ip, .int .i64 (a.lv : Int), .int .i64 (a.hd : Int)] rfl)
    (by show (l.length + 1) * 40 ≤ _; omega) (by show l.length + 1 ≤ 9223372036854775807; omega) (by simp; omega)
  have sz := hgrow.size
  simp only [World.size_alloc] at sz
  refine ⟨w', v', hrun, hown, by omega, fun k hk hne => ?_, fun w0 hb h0 => ?_, fun k hk hne e => ?_⟩
  · exact (hgrow.block k (by simp; omega) (fun e => hne e.symm)).trans (((Below.refl wr.heap.size wr).alloc (Nat.le_refl _) _).block k hk)
  · exact (hb.alloc hb.size (.cells #[.int .u8 a.pr, .int .u32 a.oi, .int .u16 a.op, .int .u32 a.ii, .int .u16 a.ip, .int .i64 (a.lv : Int), .int .i64 (a.hd : Int)] 78)).grown hgrow (by simp; exact Nat.le_succ_of_le hb.size) (fun k e => Nat.le_trans h0 (ho.lt k e).1)
  · rcases hnew with h | h
    · rw [h] at e; exact hne e
    · rw [h] at e; injection e with e; simp at e; omega
end
theorem PutS.next {w wr w' : World} {S : Nat → Prop} {p i : Nat} {v u u' : Value} {x : Po} {t : Ro} {d d' : Bool} (h : PutS w wr S p v x t i u d) (hi : i < x.l.length) (hs : wr.heap.size ≤ w'.heap.size) (hk : ∀ k, k < wr.heap.size → u.ownBlock ≠ some k → w'.heap[k]? = wr.heap[k]?) (hb : Below w.heap.size w w') (hS : ∀ k, S k → k < w.heap.size) (ho : eltQ.Own w' (w.heap.size + 1) u' (stepP t (foldP t (x.l.take i)) (x.l.getD i Ro.zero)).1) (hd : d' = (stepP t (foldP t (x.l.take i)) (x.l.getD i Ro.zero)).2) : PutS w w' S p v x t (i + 1) u' d' := by
  have nb : ∀ k, k ≤ w.heap.size → u.ownBlock ≠ some k := fun k hk e => by have := (h.own.lt k e).1; omega
  refine ⟨h.po.keep hs fun k hkS => hk k (h.po.lt k hkS) (nb k (Nat.le_of_lt (hS k hkS))), by rw [foldP_succ t hi]; exact ho, by rw [foldP_succ t hi]; exact hd, h.box.keep hs (hk _ h.box.lt (nb _ (Nat.le_refl _))), hb⟩
set_option maxHeartbeats 8000000 in
set_option maxRecDepth 100000 in
theorem rput16_ (S p x) (t : Ro) (w : World) (H : PoR w S p x) (hl : x.l.length ≤ 1000) (ok : (⟨Po.ins x.l t⟩ : Po).Ok) : Calls Try.prog 50 #[.pointer (some ⟨p, 0, none⟩), .agg #[.int .u8 t.pr, .int .u32 t.oi, .int .u16 t.op, .int .u32 t.ii, .int .u16 t.ip, .int .i64 (t.lv : Int), .int .i64 (t.hd : Int)]] w fun e w' => e = .returned (.tuple #[]) ∧ ∃ S', PoR w' S' p ⟨Po.ins x.l t⟩ ∧ Fresh w S S' ∧ Beside S w w' := by
  obtain ⟨v, H⟩ := H
  have H0 := Lib.hid H
  have B1 : Below w.heap.size w (w.alloc (.cells #[.int .u8 t.pr, .int .u32 t.oi, .int .u16 t.op, .int .u32 t.ii, .int .u16 t.ip, .int .i64 (t.lv : Int), .int .i64 (t.hd : Int)] 78)) := (Below.refl _ _).alloc (Nat.le_refl _) _
  have P0 : Hid (PutS w (w.alloc (.cells #[.int .u8 t.pr, .int .u32 t.oi, .int .u16 t.op, .int .u32 t.ii, .int .u16 t.ip, .int .i64 (t.lv : Int), .int .i64 (t.hd : Int)] 78)) S p v x t 0 (.slice none 0 0) false) := ⟨H.on B1, Elt.Own.nil _ _, rfl, BoxR.made w t _, B1⟩
  have HS := Lib.hid H.lt
  have HL := Lib.hid hl
  have OK := Lib.hid ok
  clear H hl ok B1
  go_enter Try.func50, Try.ntmps50
  go_upto_region 4 with fail
  go_loopw [4, 5, 6] (fun v4 v5 v6 wr => ∃ (i : Nat) (d : Bool), i ≤ x.l.length ∧ v6 = .int .i64 (i : Int) ∧ v5 = .bool d ∧ Hid (PutS w wr S p v x t i v4 d)) (fun _ _ v6 _ => x.l.length - (intOf v6).toNat)
  case atStart => exact ⟨0, false, Nat.zero_le _, rfl, rfl, P0⟩
  case round =>
    clear P0
    obtain ⟨i, d, hi, rfl, rfl, HQ⟩ := hrel
    have EW := Lib.hid (step_16 (j := i) (Nat.lt_of_le_of_lt (Nat.le_trans hi HL.out) (by decide)))
    have c0 := HQ.out.po.c0
    by_cases hlt : i < x.l.length
    · have HI := Lib.hid hlt
      obtain ⟨e10, e12, e13⟩ := ix16 hlt
      obtain ⟨a, ha⟩ : ∃ a, a = x.l.getD i Ro.zero := ⟨_, rfl⟩
      have HA : Hid (x.l.getD i Ro.zero = a) := ha.symm
      obtain ⟨g, c, rfl, hg, _, y0, y1, y2, y3, y4, y5, y6⟩ := HQ.out.po.at hlt
      rw [← ha] at y0 y1 y2 y3 y4 y5 y6
      clear ha hi hlt
      cases d with
      | true =>
        have dn := HQ.out.dn
        have EST : Hid (stepP t (foldP t (x.l.take i)) a = ((foldP t (x.l.take i)).1 ++ [a], true)) := by show _ = _; unfold stepP; rw [← dn]; rfl
        clear dn
        go_upto_region 6 with fail
        refine region_later (B := wr.heap.size) (by kernel_rfl) (by kernel_rfl) ?_
        repeat (go_big_quiet_step (fail))
        refine later_end fun w2 x2 => ?_
        have HP := Lib.hid (HQ.out.on x2)
        clear HQ c0 y0 y1 y2 y3 y4 y5 y6 x2 hg
        obtain ⟨g2, c2, ev, hg, _, y0, y1, y2, y3, y4, y5, y6⟩ := HP.out.po.at HI.out
        injection ev with ev1 ev2 ev3
        injection ev1 with ev1
        injection ev1 with ev1 _ _
        subst ev1 ev3
        rw [HA.out] at y0 y1 y2 y3 y4 y5 y6
        have c0 := HP.out.po.c0
        have hfew := HP.out.few HL.out HI.out
        obtain ⟨w', v', hrun, hown, hsz, hkk, hbb, hnk⟩ := own_more HP.out.own a (Nat.le_trans (Nat.succ_le_of_lt HP.out.box.lt) (Nat.le_refl _)) (Nat.le_trans hfew (by decide))
        have RUN := Lib.hid hrun
        have FIN : Hid (PutS w w' S p _ x t (i + 1) v' true) := HP.out.next HI.out hsz hkk (hbb w HP.out.below (Nat.le_succ _)) HS.out (by rw [HA.out]; rw [EST.out]; exact hown) (by rw [HA.out]; rw [EST.out])
        obtain ⟨a4, c4, e4, _, _⟩ := HP.out.own.sl
        obtain ⟨a8, c8, e8, _, _⟩ := hown.sl
        clear hrun hown hsz hkk hbb hnk hfew HP
        subst e4
        subst e8
        generalize (foldP t (x.l.take i)).1.length = n4 at RUN ⊢
        generalize ((foldP t (x.l.take i)).1 ++ [a]).length = n8 at RUN FIN
        clear e10 
        go_wp2_with (at_builtin; refine Lib.wpList_append_run _ rfl _ _ 27 27 rfl _ _ rfl rfl _ _ RUN.out ?_)
        go_wp2
        go_roundw
        case rel => exact ⟨i + 1, true, HI.out, by simp [EW.out], rfl, FIN⟩
        case measure => first | exact step_meas16 EW.out (step_less16 HI.out) | (simp [EW.out]; exact step_less16 HI.out) | exact step_less16 HI.out
      | false =>
        have dn := HQ.out.dn
        have SF : Hid (stepP t (foldP t (x.l.take i)) a = if t.ahead a then ((foldP t (x.l.take i)).1 ++ [t] ++ [a], true) else ((foldP t (x.l.take i)).1 ++ [a], false)) := by show _ = _; unfold stepP; rw [← dn]; rfl
        clear dn
        have Fb0 : ∀ q : Later wr.heap.size wr, q.u.cell? ⟨w.heap.size, 0, none⟩ = some (.int .u8 t.pr) := fun q => q.block HQ.out.box.lt HQ.out.box.c0
        have Fb1 : ∀ q : Later wr.heap.size wr, q.u.cell? ⟨w.heap.size, 1, none⟩ = some (.int .u32 t.oi) := fun q => q.block HQ.out.box.lt HQ.out.box.c1
        have Fb2 : ∀ q : Later wr.heap.size wr, q.u.cell? ⟨w.heap.size, 2, none⟩ = some (.int .u16 t.op) := fun q => q.block HQ.out.box.lt HQ.out.box.c2
        have Fb3 : ∀ q : Later wr.heap.size wr, q.u.cell? ⟨w.heap.size, 3, none⟩ = some (.int .u32 t.ii) := fun q => q.block HQ.out.box.lt HQ.out.box.c3
        have Fb4 : ∀ q : Later wr.heap.size wr, q.u.cell? ⟨w.heap.size, 4, none⟩ = some (.int .u16 t.ip) := fun q => q.block HQ.out.box.lt HQ.out.box.c4
        have Fb5 : ∀ q : Later wr.heap.size wr, q.u.cell? ⟨w.heap.size, 5, none⟩ = some (.int .i64 (t.lv : Int)) := fun q => q.block HQ.out.box.lt HQ.out.box.c5
        have Fb6 : ∀ q : Later wr.heap.size wr, q.u.cell? ⟨w.heap.size, 6, none⟩ = some (.int .i64 (t.hd : Int)) := fun q => q.block HQ.out.box.lt HQ.out.box.c6
        have Fr0 : ∀ q : Later wr.heap.size wr, q.u.cell? ⟨g, i * 7, none⟩ = some (.int .u8 a.pr) := fun q => q.block hg y0
        have Fr1 : ∀ q : Later wr.heap.size wr, q.u.cell? ⟨g, i * 7 + 1, none⟩ = some (.int .u32 a.oi) := fun q => q.block hg y1
        have Fr2 : ∀ q : Later wr.heap.size wr, q.u.cell? ⟨g, i * 7 + 2, none⟩ = some (.int .u16 a.op) := fun q => q.block hg y2
        have Fr3 : ∀ q : Later wr.heap.size wr, q.u.cell? ⟨g, i * 7 + 3, none⟩ = some (.int .u32 a.ii) := fun q => q.block hg y3
        have Fr4 : ∀ q : Later wr.heap.size wr, q.u.cell? ⟨g, i * 7 + 4, none⟩ = some (.int .u16 a.ip) := fun q => q.block hg y4
        have Fr5 : ∀ q : Later wr.heap.size wr, q.u.cell? ⟨g, i * 7 + 5, none⟩ = some (.int .i64 (a.lv : Int)) := fun q => q.block hg y5
        have Fr6 : ∀ q : Later wr.heap.size wr, q.u.cell? ⟨g, i * 7 + 6, none⟩ = some (.int .i64 (a.hd : Int)) := fun q => q.block hg y6
        have Fp : ∀ q : Later wr.heap.size wr, q.u.cell? ⟨p, 0, none⟩ = some (.slice (some ⟨g, 0, none⟩) x.l.length c) := fun q => q.block (HQ.out.po.lt p HQ.out.po.inp) HQ.out.po.c0
        clear y0 y1 y2 y3 y4 y5 y6
        cases hah : t.ahead a with
        | true =>
          have EST : Hid (stepP t (foldP t (x.l.take i)) a = ((foldP t (x.l.take i)).1 ++ [t] ++ [a], true)) := by show _ = _; rw [SF.out, if_pos hah]
          have KL : ∀ u : World, Says Try.prog 60 #[.agg #[.int .u8 t.pr, .int .u32 t.oi, .int .u16 t.op, .int .u32 t.ii, .int .u16 t.ip, .int .i64 (t.lv : Int), .int .i64 (t.hd : Int)], .agg #[.int .u8 a.pr, .int .u32 a.oi, .int .u16 a.op, .int .u32 a.ii, .int .u16 a.ip, .int .i64 (a.lv : Int), .int .i64 (a.hd : Int)]] u (.bool true) := fun u => by rw [← hah]; exact rless16_ t a u
          clear hah SF
          go_upto_region 6 with fail
          refine region_later (B := wr.heap.size) (by kernel_rfl) (by kernel_rfl) ?_
          repeat (go_big_quiet_step (first | (go_at_call 60; exact later_of _ (Nat.le_refl _) (KL _))))
          refine later_end fun w2 x2 => ?_
          have HP := Lib.hid (HQ.out.on x2)
          clear HQ c0 x2 hg KL Fp Fb0 Fr0 Fb1 Fr1 Fb2 Fr2 Fb3 Fr3 Fb4 Fr4 Fb5 Fr5 Fb6 Fr6
          have hfew := HP.out.few HL.out HI.out
          have lb := HP.out.box.lt
          obtain ⟨w3, v3, hrun, hown, hsz, hkk, hbb, hnk⟩ := own_more HP.out.own t (Nat.succ_le_of_lt lb) (Nat.le_trans hfew (by decide))
          obtain ⟨w', v', hrun2, hown2, hsz2, hkk2, hbb2, hnk2⟩ := own_more hown a (Nat.le_trans (Nat.succ_le_of_lt lb) hsz) (by rw [List.length_append, List.length_singleton]; omega)
          have RUN := Lib.hid hrun
          have RUN2 := Lib.hid hrun2
          have nb : ∀ k, k ≤ w.heap.size → u4.ownBlock ≠ some k := fun k hk e => by have := (HP.out.own.lt k e).1; omega
          have P3 : PoD w3 S p _ x := HP.out.po.keep hsz fun k hk => hkk k (HP.out.po.lt k hk) (nb k (Nat.le_of_lt (HS.out k hk)))
          have FIN : Hid (PutS w w' S p _ x t (i + 1) v' true) := HP.out.next HI.out (Nat.le_trans hsz hsz2) (fun k hk hne => (hkk2 k (Nat.lt_of_lt_of_le hk hsz) (hnk k hk hne)).trans (hkk k hk hne)) (hbb2 w (hbb w HP.out.below (Nat.le_succ _)) (Nat.le_succ _)) HS.out (by rw [HA.out, EST.out]; exact hown2) (by rw [HA.out, EST.out])
          obtain ⟨b0, b1, b2, b3, b4, b5, b6⟩ := (⟨HP.out.box.c0, HP.out.box.c1, HP.out.box.c2, HP.out.box.c3, HP.out.box.c4, HP.out.box.c5, HP.out.box.c6⟩ : _ ∧ _ ∧ _ ∧ _ ∧ _ ∧ _ ∧ _)
          have c0 := P3.c0
          obtain ⟨g2, c2, ev, hg, _, y0, y1, y2, y3, y4, y5, y6⟩ := P3.at HI.out
          injection ev with ev1 ev2 ev3
          injection ev1 with ev1
          injection ev1 with ev1 _ _
          subst ev1 ev3
          rw [HA.out] at y0 y1 y2 y3 y4 y5 y6
          obtain ⟨a4, c4, e4, _, _⟩ := HP.out.own.sl
          obtain ⟨a5, c5, e5, _, _⟩ := hown.sl
          obtain ⟨a8, c8, e8, _, _⟩ := hown2.sl
          clear hrun hown hsz hkk hbb hnk hrun2 hown2 hsz2 hkk2 hbb2 hnk2 hfew HP P3 nb lb hg
          subst e4
          subst e5
          subst e8
          generalize (foldP t (x.l.take i)).1.length = n4 at RUN ⊢
          generalize ((foldP t (x.l.take i)).1 ++ [t]).length = n5 at RUN RUN2
          generalize ((foldP t (x.l.take i)).1 ++ [t] ++ [a]).length = n8 at RUN2 FIN
          go_wp2_with (at_builtin; first | refine Lib.wpList_append_run _ rfl _ _ 27 27 rfl _ _ rfl rfl _ _ RUN.out ?_ | refine Lib.wpList_append_run _ rfl _ _ 27 27 rfl _ _ rfl rfl _ _ RUN2.out ?_)
          go_wp2
          go_roundw
          case rel => exact ⟨i + 1, true, HI.out, by simp [EW.out], rfl, FIN⟩
          case measure => first | exact step_meas16 EW.out (step_less16 HI.out) | (simp [EW.out]; exact step_less16 HI.out) | exact step_less16 HI.out
        | false =>
          have EST : Hid (stepP t (foldP t (x.l.take i)) a = ((foldP t (x.l.take i)).1 ++ [a], false)) := by show _ = _; rw [SF.out, if_neg (by rw [hah]; decide)]
          have KL : ∀ u : World, Says Try.prog 60 #[.agg #[.int .u8 t.pr, .int .u32 t.oi, .int .u16 t.op, .int .u32 t.ii, .int .u16 t.ip, .int .i64 (t.lv : Int), .int .i64 (t.hd : Int)], .agg #[.int .u8 a.pr, .int .u32 a.oi, .int .u16 a.op, .int .u32 a.ii, .int .u16 a.ip, .int .i64 (a.lv : Int), .int .i64 (a.hd : Int)]] u (.bool false) := fun u => by rw [← hah]; exact rless16_ t a u
          clear hah SF
          go_upto_region 6 with fail
          refine region_later (B := wr.heap.size) (by kernel_rfl) (by kernel_rfl) ?_
          repeat (go_big_quiet_step (first | (go_at_call 60; exact later_of _ (Nat.le_refl _) (KL _))))
          refine later_end fun w2 x2 => ?_
          have HP := Lib.hid (HQ.out.on x2)
          clear HQ c0 x2 hg KL Fp Fb0 Fr0 Fb1 Fr1 Fb2 Fr2 Fb3 Fr3 Fb4 Fr4 Fb5 Fr5 Fb6 Fr6
          obtain ⟨g2, c2, ev, hg, _, y0, y1, y2, y3, y4, y5, y6⟩ := HP.out.po.at HI.out
          injection ev with ev1 ev2 ev3
          injection ev1 with ev1
          injection ev1 with ev1 _ _
          subst ev1 ev3
          rw [HA.out] at y0 y1 y2 y3 y4 y5 y6
          have c0 := HP.out.po.c0
          have hfew := HP.out.few HL.out HI.out
          obtain ⟨w', v', hrun, hown, hsz, hkk, hbb, hnk⟩ := own_more HP.out.own a (Nat.le_trans (Nat.succ_le_of_lt HP.out.box.lt) (Nat.le_refl _)) (Nat.le_trans hfew (by decide))
          have RUN := Lib.hid hrun
          have FIN : Hid (PutS w w' S p _ x t (i + 1) v' false) := HP.out.next HI.out hsz hkk (hbb w HP.out.below (Nat.le_succ _)) HS.out (by rw [HA.out]; rw [EST.out]; exact hown) (by rw [HA.out]; rw [EST.out])
          obtain ⟨a4, c4, e4, _, _⟩ := HP.out.own.sl
          obtain ⟨a8, c8, e8, _, _⟩ := hown.sl
          clear hrun hown hsz hkk hbb hnk hfew HP
          subst e4
          subst e8
          generalize (foldP t (x.l.take i)).1.length = n4 at RUN ⊢
          generalize ((foldP t (x.l.take i)).1 ++ [a]).length = n8 at RUN FIN
          clear e10
          go_wp2_with (at_builtin; refine Lib.wpList_append_run _ rfl _ _ 27 27 rfl _ _ rfl rfl _ _ RUN.out ?_)
          go_wp2
          go_roundw
          case rel => exact ⟨i + 1, false, HI.out, by simp [EW.out], rfl, FIN⟩
          case measure => first | exact step_meas16 EW.out (step_less16 HI.out) | (simp [EW.out]; exact step_less16 HI.out) | exact step_less16 HI.out
    · obtain rfl : i = x.l.length := Nat.le_antisymm hi (Nat.le_of_not_lt hlt)
      have t1 : decide ((x.l.length : Int) < (x.l.length : Int)) = false := by simp
      have INS := Lib.hid (foldP_ins t x.l)
      have dn := HQ.out.dn
      rw [List.take_length] at dn
      have own := HQ.out.own
      rw [List.take_length] at own
      have f0 := HQ.out.po.f
      obtain ⟨a0, cc, e0, _⟩ := HQ.out.po.sl
      clear hlt hi
      cases d with
      | true =>
        have HI : Hid ((foldP t x.l).1 = Po.ins x.l t) := by show _ = _; rw [← INS.out, ← dn]; rfl
        rw [HI.out] at own
        have FIN := Lib.hid (H0.out.relist HQ.out.below (own.down (Nat.le_succ _)) OK.out)
        have c0' := HQ.out.po.c0
        obtain ⟨a4, c4, e4, _, _⟩ := own.sl
        clear HQ own dn
        subst e0
        subst e4
        go_wp2
        go_end0
        exact ⟨rfl, _, ⟨_, FIN.out.1⟩, FIN.out.2.1, FIN.out.2.2⟩
      | false =>
        have HI : Hid ((foldP t x.l).1 ++ [t] = Po.ins x.l t) := by show _ = _; rw [← INS.out, ← dn]; rfl
        have hfew : (foldP t x.l).1.length ≤ 1010 := by have := (foldP_len t x.l).1; have := HL.out; omega
        have lb := HQ.out.box.lt
        obtain ⟨w3, v3, hrun, hown, hsz, hkk, hbb, hnk⟩ := own_more own t (Nat.succ_le_of_lt lb) hfew
        have RUN := Lib.hid hrun
        have nb : ∀ k, k ≤ w.heap.size → u4.ownBlock ≠ some k := fun k hk e => by have := (own.lt k e).1; omega
        have P3 : PoD w3 S p _ x := HQ.out.po.keep hsz fun k hk => hkk k (HQ.out.po.lt k hk) (nb k (Nat.le_of_lt (HS.out k hk)))
        obtain ⟨b0, b1, b2, b3, b4, b5, b6⟩ := (⟨HQ.out.box.c0, HQ.out.box.c1, HQ.out.box.c2, HQ.out.box.c3, HQ.out.box.c4, HQ.out.box.c5, HQ.out.box.c6⟩ : _ ∧ _ ∧ _ ∧ _ ∧ _ ∧ _ ∧ _)
        obtain ⟨a4, c4, e4, _, _⟩ := own.sl
        have hown2 := hown
        rw [HI.out] at hown2
        have FIN := Lib.hid (H0.out.relist (hbb w HQ.out.below (Nat.le_succ _)) (hown2.down (Nat.le_succ _)) OK.out)
        have d0 := P3.c0
        have g0 := P3.f
        obtain ⟨a5, c5, e5, _, _⟩ := hown.sl
        clear HQ hrun hown hsz hkk hbb hnk own hown2 nb lb hfew P3 dn
        subst e0
        subst e4
        subst e5
        generalize (foldP t x.l).1.length = n4 at RUN ⊢
        generalize ((foldP t x.l).1 ++ [t]).length = n5 at RUN FIN
        go_wp2_with (at_builtin; refine Lib.wpList_append_run _ rfl _ _ 27 27 rfl _ _ rfl rfl _ _ RUN.out ?_)
        go_end0
        exact ⟨rfl, _, ⟨_, FIN.out.1⟩, FIN.out.2.1, FIN.out.2.2⟩
end Go.Proofs.Ytbbadpidolfleaa

namespace Go.Proofs.Ytbbadpidolfleaa
set_option linter.unusedVariables false
set_option linter.unusedSimpArgs false
open Go.ChangeShapes Go.WideShapes Go.ChangeAt Go.RowKit Go.PlainAid
attribute [local go_sem ↓] Go.wp_at_zero Go.wp_at_succ
/-- Two endpoints in boxes. -/
structure Eps (w : World) (b : Nat) (ii ip oi op : Int) : Prop where
  lt : b + 1 < w.heap.size
  a0 : w.cell? ⟨b, 0, none⟩ = some (.int .u32 ii)
  a1 : w.cell? ⟨b, 1, none⟩ = some (.int .u16 ip)
  b0 : w.cell? ⟨b + 1, 0, none⟩ = some (.int .u32 oi)
  b1 : w.cell? ⟨b + 1, 1, none⟩ = some (.int .u16 op)
theorem Eps.on {w w' : World} {b : Nat} {ii ip oi op : Int} (h : Eps w b ii ip oi op) (hb : Below w.heap.size w w') : Eps w' b ii ip oi op :=
  ⟨Nat.lt_of_lt_of_le h.lt hb.size, (hb.cell (p := ⟨b, 0, none⟩) (Nat.lt_of_succ_lt h.lt)).trans h.a0, (hb.cell (p := ⟨b, 1, none⟩) (Nat.lt_of_succ_lt h.lt)).trans h.a1, (hb.cell (p := ⟨b + 1, 0, none⟩) h.lt).trans h.b0, (hb.cell (p := ⟨b + 1, 1, none⟩) h.lt).trans h.b1⟩
theorem Eps.made (w : World) (ii ip oi op : Int) : Eps ((w.alloc (.cells #[.int .u32 ii, .int .u16 ip] 34)).alloc (.cells #[.int .u32 oi, .int .u16 op] 34)) w.heap.size ii ip oi op := by
  have e : (w.alloc (.cells #[.int .u32 ii, .int .u16 ip] 34)).heap.size = w.heap.size + 1 := by simp
  have c := fun j => World.cell?_alloc_mark w #[.int .u32 ii, .int .u16 ip] 34 (0, 0) j
  have d := fun j => World.cell?_alloc_mark (w.alloc (.cells #[.int .u32 ii, .int .u16 ip] 34)) #[.int .u32 oi, .int .u16 op] 34 (0, 0) j
  rw [e] at d
  have k : Below (w.alloc (.cells #[.int .u32 ii, .int .u16 ip] 34)).heap.size (w.alloc (.cells #[.int .u32 ii, .int .u16 ip] 34)) ((w.alloc (.cells #[.int .u32 ii, .int .u16 ip] 34)).alloc (.cells #[.int .u32 oi, .int .u16 op] 34)) := (Below.refl _ _).alloc (Nat.le_refl _) _
  exact ⟨by simp, (k.cell (p := ⟨w.heap.size, 0, none⟩) (by simp)).trans (c 0), (k.cell (p := ⟨w.heap.size, 1, none⟩) (by simp)).trans (c 1), d 0, d 1⟩
theorem two_below (w : World) (a b : Obj) : Below w.heap.size w ((w.alloc a).alloc b) := ((Below.refl _ _).alloc (Nat.le_refl _) _).alloc (by simp) _
theorem any_find {l : List Ro} {q : Ro → Bool} (h : l.any q = false) : l.find? q = none := List.find?_eq_none.2 fun t ht => by simpa using List.any_eq_false.1 h t ht
theorem any_first {l : List Ro} {q : Ro → Bool} (h : l.any q = false) : firstAt l q = -1 := by unfold firstAt; rw [if_neg (by rw [h]; decide)]
theorem fresh_on {w w' : World} {S S' : Nat → Prop} (h : Fresh w' S S') (hs : w.heap.size ≤ w'.heap.size) : Fresh w S S' := (Fresh.refl w S).trans h hs
theorem few_wrap {n : Nat} (h : n ≤ 1000) : IntKind.i64.wrap ((n : Int) + 1) = ((n + 1 : Nat) : Int) ∧ wrap64 ((n : Int) + 1) = ((n + 1 : Nat) : Int) := by
  refine ⟨?_, step_16 (by omega)⟩
  rw [IntKind.wrap_i64]; omega
theorem row_held {w : World} {S : Nat → Prop} {p g c i : Nat} {x : Po} (h : PoD w S p (.slice (some ⟨g, 0, none⟩) x.l.length c) x) (hi : i < x.l.length) {pr ii ip : Int} (hp : (x.l.getD i Ro.zero).isI pr ii ip = true) : PoR (w.setCell ⟨g, i * 7 + 6, none⟩ (.int .i64 (((x.l.getD i Ro.zero).hd + 1 : Nat) : Int))) S p (x.hold pr ii ip) ∧ Beside S w (w.setCell ⟨g, i * 7 + 6, none⟩ (.int .i64 (((x.l.getD i Ro.zero).hd + 1 : Nat) : Int))) := by
  have hx := Po.hold_set h.ok hi hp
  have ho := h.ok.hold pr ii ip
  have k := h.store (x' := x.hold pr ii ip) hi (j := 6) (y := { x.l.getD i Ro.zero with hd := (x.l.getD i Ro.zero).hd + 1 }) (u := .int .i64 (((x.l.getD i Ro.zero).hd + 1 : Nat) : Int)) (by decide) rfl hx ho
  exact ⟨⟨_, k.1⟩, k.2⟩
set_option maxHeartbeats 4000000 in
set_option maxRecDepth 100000 in
theorem rfix16_ (S p x) (pr ii ip oi op : Int) (w : World) (H : PoR w S p x) (hf : x.Few 1000) (k1 : EOk pr ii ip) (k2 : EOk pr oi op) : Told Try.prog poR 36 #[.pointer (some ⟨p, 0, none⟩), .int .u8 pr, .agg #[.int .u32 ii, .int .u16 ip], .agg #[.int .u32 oi, .int .u16 op]] w S p (.int .i64 ((x.fix pr ii ip oi op).1 : Int)) (x.fix pr ii ip oi op).2 := by
  have OK := Lib.hid (show x.Ok from by obtain ⟨_, h⟩ := H; exact h.ok)
  have ROWOK := Lib.hid (k1.row k2)
  have FEW := Lib.hid hf
  have B0 := two_below w (.cells #[.int .u32 ii, .int .u16 ip] 34) (.cells #[.int .u32 oi, .int .u16 op] 34)
  have E0 := Eps.made w ii ip oi op
  have R0 := poR.on H B0
  show Calls _ _ _ _ _
  go_enter Try.func36, Try.ntmps36
  go_upto_region 1 with fail
  obtain ⟨u, hu⟩ : ∃ x_ : World, x_ = (w.alloc (.cells #[.int .u32 ii, .int .u16 ip] 34)).alloc (.cells #[.int .u32 oi, .int .u16 op] 34) := ⟨_, rfl⟩
  rw [← hu] at B0 E0 R0 ⊢
  clear hu H k1 k2
  have cf : Says _ _ _ u _ := rof16_ S p x pr ii ip u R0 hf.len
  have a0 := E0.a0
  have a1 := E0.a1
  have HE := Lib.hid E0
  have HB := Lib.hid B0
  have HR := Lib.hid R0
  clear E0 B0 R0 hf
  cases hh : x.l.any (fun t => t.isI pr ii ip) with
  | true =>
    obtain ⟨i, e1, hi, hp, e4, _⟩ := firstAt_at Ro.zero hh
    rw [e1] at cf
    clear e1 hh
    go_upto_region 2 with (go_at_call 16; refine cf.mono ?_; rintro e w2 ⟨rfl, b2⟩)
    obtain ⟨v, D2⟩ := poR.on HR.out b2
    have E2 := HE.out.on b2
    have B2 := HB.out.trans (b2.mono HB.out.size)
    obtain ⟨g, c, rfl, hg, fr, y0, y1, y2, y3, y4, y5, y6⟩ := D2.at hi
    have c0 := D2.c0
    obtain ⟨f1, f2, f3⟩ := ix16 hi
    have f4 : decide ((0 : Int) ≤ (i : Int)) = true := decide_eq_true f3
    have b0 := E2.b0
    have b1 := E2.b1
    have FX : Hid (x.fix pr ii ip oi op = if (x.l.getD i Ro.zero).oi = oi ∧ (x.l.getD i Ro.zero).op = op then (0, x.hold pr ii ip) else (7, x)) := by
      show _ = _
      unfold Po.fix
      rw [show x.ofI pr ii ip = some (x.l.getD i Ro.zero) from e4]
    have HD := Lib.hid D2
    have HB2 := Lib.hid B2
    have HI := Lib.hid hi
    have HP := Lib.hid hp
    have BYF := Lib.hid (FEW.out.by_ _ (getD_mem Ro.zero hi))
    have STO : Hid (PoR (w2.drew.setCell ⟨g, i * 7 + 6, none⟩ (.int .i64 (((x.l.getD i Ro.zero).hd + 1 : Nat) : Int))) S p (x.hold pr ii ip) ∧ Beside S w2.drew (w2.drew.setCell ⟨g, i * 7 + 6, none⟩ (.int .i64 (((x.l.getD i Ro.zero).hd + 1 : Nat) : Int)))) := row_held (D2.on (Below.refl _ _).drew) hi hp
    have RD := Lib.hid (poR.on (⟨_, D2⟩ : PoR w2 S p x) (Below.refl w2.heap.size w2).drew)
    obtain ⟨t, ht⟩ : ∃ t_, t_ = x.l.getD i Ro.zero := ⟨_, rfl⟩
    rw [← ht] at y0 y1 y2 y3 y4 y5 y6 FX BYF STO
    have f6 := fr (i * 7 + 6)
    clear ht hi hp e4 a0 a1 cf D2 E2 B2 hg fr y0 y3 y4 y5 b2
    obtain ⟨t1, t2, t3, t4, t5, t6, t7⟩ := t
    simp only at y1 y2 y6 FX BYF STO
    by_cases hs : t2 = oi ∧ t3 = op
    · obtain ⟨rfl, rfl⟩ := hs
      have FV : Hid (x.fix pr ii ip t2 t3 = (0, x.hold pr ii ip)) := by show _ = _; rw [FX.out, if_pos ⟨rfl, rfl⟩]
      obtain ⟨w1, w3⟩ := few_wrap (n := t7) (by have := BYF.out; omega)
      clear FX BYF
      go_wp2
      go_region
      go_wp2
      go_ret
      rw [FV.out]
      exact ⟨rfl, S, STO.out.1, Fresh.refl _ _, (Beside.of HB2.out.drew).trans STO.out.2⟩
    · have FV : Hid (x.fix pr ii ip oi op = (7, x)) := by show _ = _; rw [FX.out, if_neg hs]
      clear FX BYF STO
      by_cases h2 : t2 = oi
      · have h3 : ¬ t3 = op := fun e => hs ⟨h2, e⟩
        subst h2
        clear hs
        go_wp2
        go_region
        go_wp2
        go_ret
        rw [FV.out]
        exact ⟨rfl, S, RD.out, Fresh.refl _ _, Beside.of HB2.out.drew⟩
      · clear hs
        go_wp2
        go_region
        go_wp2
        go_ret
        rw [FV.out]
        exact ⟨rfl, S, RD.out, Fresh.refl _ _, Beside.of HB2.out.drew⟩
  | false =>
    rw [any_first hh] at cf
    have hI := any_find hh
    clear hh
    go_upto_region 2 with (go_at_call 16; refine cf.mono ?_; rintro e w2 ⟨rfl, b2⟩)
    have HR2 := Lib.hid (poR.on (poR.on HR.out b2) (Below.refl _ _).drew)
    have HE2 := Lib.hid ((HE.out.on b2).on (Below.refl _ _).drew)
    have HB2 := Lib.hid ((HB.out.trans (b2.mono HB.out.size)).drew)
    have hI : Hid (x.ofI pr ii ip = none) := hI
    have n1 : decide ((0 : Int) ≤ -1) = false := by decide
    clear cf a0 a1 HR HE HB b2
    go_region
    have cO : Says _ _ _ w2.drew _ := rowner16_ S p x pr oi op w2.drew HR2.out FEW.out.len
    have b0 := HE2.out.b0
    have b1 := HE2.out.b1
    generalize w2.drew = w3 at HR2 HE2 HB2 cO b0 b1 ⊢
    cases hh : x.l.any (fun t => t.isO pr oi op) with
    | true =>
      obtain ⟨i, e1, hi, hp, e4, _⟩ := firstAt_at Ro.zero hh
      rw [e1] at cO
      have f4 : decide ((0 : Int) ≤ (i : Int)) = true := decide_eq_true (Int.natCast_nonneg _)
      have FV : Hid (x.fix pr ii ip oi op = (10, x)) := by show _ = _; unfold Po.fix; rw [hI.out, show x.ofO pr oi op = some (x.l.getD i Ro.zero) from e4]
      clear e1 hi hp e4 hh
      go_wp2_with (go_at_call 17; refine cO.mono ?_; rintro e w4 ⟨rfl, b4⟩)
      go_ret
      rw [FV.out]
      exact ⟨rfl, S, poR.on HR2.out b4, Fresh.refl _ _, Beside.of (HB2.out.trans (b4.mono HB2.out.size))⟩
    | false =>
      rw [any_first hh] at cO
      have hO : x.ofO pr oi op = none := any_find hh
      have FV : Hid (x.fix pr ii ip oi op = (0, ⟨Po.ins x.l ⟨pr, oi, op, ii, ip, 0, 1⟩⟩)) := by show _ = _; unfold Po.fix; rw [hI.out, hO]
      have NOK := Lib.hid (OK.out.put (t := ⟨pr, oi, op, ii, ip, 0, 1⟩) hO hI.out ROWOK.out (Nat.succ_pos _))
      clear hh hO
      go_upto_region 9 with (go_at_call 17; refine cO.mono ?_; rintro e w4 ⟨rfl, b4⟩)
      have E4 := HE2.out.on b4
      have B4 := Lib.hid (HB2.out.trans (b4.mono HB2.out.size))
      have cp := rput16_ S p x ⟨pr, oi, op, ii, ip, 0, 1⟩ w4 (poR.on HR2.out b4) FEW.out.len NOK.out
      have a0 := E4.a0
      have a1 := E4.a1
      have b0' := E4.b0
      have b1' := E4.b1
      clear E4 b0 b1 cO b4 HR2 HE2 HB2
      go_wp2_with (go_at_call 50; refine cp.mono ?_; rintro e w5 ⟨rfl, S5, q5, s5, d5⟩)
      go_ret
      rw [FV.out]
      exact ⟨rfl, S5, q5, fresh_on s5 B4.out.size, (Beside.of B4.out).trans d5⟩
end Go.Proofs.Ytbbadpidolfleaa
