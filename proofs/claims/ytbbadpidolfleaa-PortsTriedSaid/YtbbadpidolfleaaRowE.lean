/- Rows of values of one type, each of some cells: in memory, cut, appended (for every layer from 15 on). -/
import Derived.Test.YtbbadpidolfleaaVp
import Derived.Laws.OwnMore
import Derived.Laws.Slices
import Derived.Maps.AppendAt
namespace Go.Proofs.Ytbbadpidolfleaa
set_option linter.unusedVariables false
set_option maxRecDepth 100000
set_option linter.unusedSimpArgs false
open Go.ChangeShapes Go.WideShapes Go.ChangeAt Go.RowKit
/-- How a type's values lie in cells; the type, and that of its slices. -/
structure Elt (α : Type) where
  enc : α → List Value
  d : α
  k : Nat
  bytes : Nat
  T : TypeId
  TS : TypeId
  pos : 0 < k
  len : ∀ x, (enc x).length = k
  one : ∀ x, ∀ u ∈ enc x, u.oneCell' = true
  und : Try.prog.underlying TS = some (.slice T)
  el : Try.prog.elem TS = T
  inf : ∃ i z, Try.prog.info? T = some i ∧ i.zero = some z ∧ i.size = k ∧ i.bytes = bytes ∧ z.cells.size = k
  sz : ∀ w, (Go.sizeOf T).run Try.prog w = .ok k w
namespace Elt
variable {α : Type} (E : Elt α)
def vals (l : List α) : List Value := l.flatMap E.enc
theorem vals_nil : E.vals [] = [] := rfl
theorem vals_cons (x : α) (l : List α) : E.vals (x :: l) = E.enc x ++ E.vals l := rfl
theorem vals_one (x : α) : E.vals [x] = E.enc x := List.append_nil _
theorem vals_app (a b : List α) : E.vals (a ++ b) = E.vals a ++ E.vals b := List.flatMap_append
theorem vals_len : ∀ l : List α, (E.vals l).length = l.length * E.k
  | [] => by rw [vals_nil, List.length_nil, List.length_nil, Nat.zero_mul]
  | x :: l => by rw [vals_cons, List.length_append, E.len, vals_len l, List.length_cons, Nat.add_mul, Nat.one_mul, Nat.add_comm]
theorem vals_ones (l : List α) : ∀ u ∈ E.vals l, u.oneCell' = true := fun u hu => by
  obtain ⟨x, _, h⟩ := List.mem_flatMap.1 hu
  exact E.one x u h
theorem vals_take : ∀ (l : List α) (i : Nat), E.vals (l.take i) = (E.vals l).take (i * E.k)
  | [], i => by rw [List.take_nil, vals_nil, List.take_nil]
  | x :: l, 0 => by rw [List.take_zero, Nat.zero_mul, List.take_zero]; rfl
  | x :: l, i + 1 => by
    rw [List.take_succ_cons, vals_cons, vals_cons, vals_take l i, List.take_append, E.len]
    have e : (i + 1) * E.k = E.k + i * E.k := by rw [Nat.add_mul, Nat.one_mul, Nat.add_comm]
    rw [e, List.take_of_length_le (l := E.enc x) (by rw [E.len]; omega), Nat.add_sub_cancel_left]
theorem vals_drop : ∀ (l : List α) (i : Nat), E.vals (l.drop i) = (E.vals l).drop (i * E.k)
  | [], i => by rw [List.drop_nil, vals_nil, List.drop_nil]
  | x :: l, 0 => by rw [List.drop_zero, Nat.zero_mul, List.drop_zero]
  | x :: l, i + 1 => by
    rw [List.drop_succ_cons, vals_cons, vals_drop l i, List.drop_append, E.len]
    have e : (i + 1) * E.k = E.k + i * E.k := by rw [Nat.add_mul, Nat.one_mul, Nat.add_comm]
    rw [e, (List.drop_eq_nil_of_le (by rw [E.len]; omega) : List.drop (E.k + i * E.k) (E.enc x) = []), List.nil_append, Nat.add_sub_cancel_left]
theorem vals_at {l : List α} {i c : Nat} (hi : i < l.length) (hc : c < E.k) : (E.vals l)[i * E.k + c]? = (E.enc (l.getD i E.d))[c]? := by
  have h : l = l.take i ++ l.getD i E.d :: l.drop (i + 1) := by
    rw [List.getD_eq_getElem?_getD, List.getElem?_eq_getElem hi]
    show l = l.take i ++ l[i] :: l.drop (i + 1)
    rw [List.getElem_cons_drop, List.take_append_drop]
  have e : (E.vals (l.take i)).length = i * E.k := by rw [vals_len, List.length_take, Nat.min_eq_left (Nat.le_of_lt hi)]
  rw [show E.vals l = E.vals (l.take i) ++ (E.enc (l.getD i E.d) ++ E.vals (l.drop (i + 1))) by rw [← vals_cons, ← vals_app, ← h]]
  rw [List.getElem?_append_right (by omega), e, Nat.add_sub_cancel_left, List.getElem?_append_left (by rw [E.len]; exact hc)]
/-- A slice's cells, wherever it begins. -/
def Row (w : World) (a : Option Addr) (l : List α) : Prop := l = [] ∨ ∃ b off, a = some ⟨b, off, none⟩ ∧ b < w.heap.size ∧ ∀ j u, (E.vals l)[j]? = some u → w.cell? ⟨b, off + j, none⟩ = some u
/-- What a slice of this length, and this capacity, holds. -/
structure Sl (w : World) (a : Option Addr) (c : Nat) (l : List α) : Prop where
  le : l.length ≤ c
  nl : a = none → c = 0
  sp : ∀ ad, a = some ad → ∃ b off, ad = ⟨b, off, none⟩
  row : E.Row w a l
section
variable {E} {w w' : World} {a : Option Addr} {c : Nat} {l : List α}
theorem Row.keep (h : E.Row w a l) (hs : w.heap.size ≤ w'.heap.size) (hb : ∀ b off, a = some ⟨b, off, none⟩ → w'.heap[b]? = w.heap[b]?) : E.Row w' a l :=
  h.imp id fun ⟨b, off, e, h1, h2⟩ => ⟨b, off, e, Nat.lt_of_lt_of_le h1 hs, fun j u hj => (World.cell?_of_block (w := w) (a := ⟨b, off + j, none⟩) (hb b off e)).trans (h2 j u hj)⟩
theorem Row.on (h : E.Row w a l) (hb : Below w.heap.size w w') : E.Row w' a l :=
  h.imp id fun ⟨b, off, e, h1, h2⟩ => ⟨b, off, e, Nat.lt_of_lt_of_le h1 hb.size, fun j u hj => (hb.cell (p := ⟨b, off + j, none⟩) h1).trans (h2 j u hj)⟩
theorem Row.by {S : Nat → Prop} (h : E.Row w a l) (hb : Beside S w w') (hn : ∀ b off, a = some ⟨b, off, none⟩ → ¬ S b) : E.Row w' a l :=
  h.imp id fun ⟨b, off, e, h1, h2⟩ => ⟨b, off, e, Nat.lt_of_lt_of_le h1 hb.size, fun j u hj => (hb.cell (p := ⟨b, off + j, none⟩) h1 (hn b off e)).trans (h2 j u hj)⟩
/-- One of them. -/
theorem Row.at (h : E.Row w a l) {i : Nat} (hi : i < l.length) : ∃ b off, a = some ⟨b, off, none⟩ ∧ b < w.heap.size ∧ ∀ c u, c < E.k → (E.enc (l.getD i E.d))[c]? = some u → w.cell? ⟨b, off + i * E.k + c, none⟩ = some u := by
  obtain ⟨b, off, e, h1, h2⟩ := h.resolve_left (fun e => by rw [e] at hi; exact absurd hi (Nat.not_lt_zero _))
  refine ⟨b, off, e, h1, fun c u hc hu => ?_⟩
  rw [Nat.add_assoc]
  exact h2 _ u ((E.vals_at hi hc).trans hu)
theorem Row.take (h : E.Row w a l) (i : Nat) : E.Row w a (l.take i) := by
  rcases h with rfl | ⟨b, off, e, h1, h2⟩
  · exact .inl List.take_nil
  · refine .inr ⟨b, off, e, h1, fun j u hj => h2 j u ?_⟩
    rw [E.vals_take, List.getElem?_take] at hj
    split at hj
    · exact hj
    · cases hj
theorem Row.drop {b off : Nat} (h : E.Row w (some ⟨b, off, none⟩) l) (i : Nat) : E.Row w (some ⟨b, off + i * E.k, none⟩) (l.drop i) := by
  rcases h with rfl | ⟨b', off', e, h1, h2⟩
  · exact .inl List.drop_nil
  · injection e with e; injection e with e1 e2 e3
    subst e1 e2
    refine .inr ⟨b, _, rfl, h1, fun j u hj => ?_⟩
    rw [Nat.add_assoc]
    refine h2 _ u ?_
    rw [E.vals_drop, List.getElem?_drop] at hj
    exact hj
theorem Sl.on (h : E.Sl w a c l) (hb : Below w.heap.size w w') : E.Sl w' a c l := ⟨h.le, h.nl, h.sp, h.row.on hb⟩
theorem Sl.by {S : Nat → Prop} (h : E.Sl w a c l) (hb : Beside S w w') (hn : ∀ b off, a = some ⟨b, off, none⟩ → ¬ S b) : E.Sl w' a c l := ⟨h.le, h.nl, h.sp, h.row.by hb hn⟩
theorem Sl.keep (h : E.Sl w a c l) (hs : w.heap.size ≤ w'.heap.size) (hb : ∀ b off, a = some ⟨b, off, none⟩ → w'.heap[b]? = w.heap[b]?) : E.Sl w' a c l := ⟨h.le, h.nl, h.sp, h.row.keep hs hb⟩
theorem Sl.nil (w : World) : E.Sl w none 0 [] := ⟨Nat.le_refl _, fun _ => rfl, (fun ad e => by cases e), .inl rfl⟩
/-- l[:i]. -/
theorem Sl.low (h : E.Sl w a c l) {i : Nat} (hi : i ≤ l.length) : ∃ A C, (∀ u, (Instr.slice E.TS (.slice a l.length c) none (some (.int .i64 (i : Int))) none).run Try.prog u = .ok (.slice A (l.take i).length C) u) ∧ E.Sl w A C (l.take i) := by
  have e : (l.take i).length = i := by rw [List.length_take, Nat.min_eq_left hi]
  have hc := h.le
  refine ⟨a, c, fun u => ?_, ⟨by omega, h.nl, h.sp, h.row.take i⟩⟩
  rw [run_slice_h u E.TS a l.length c (by rw [E.el]; exact E.und) .i64 i (by omega) (by omega), E.el, E.sz, e]
  cases a with
  | none => simp [Result.andThen, sliced, h.nl rfl]
  | some ad => simp [Result.andThen, sliced, Addr.add]
/-- l[i:]. -/
theorem Sl.high (h : E.Sl w a c l) {i : Nat} (hi : i ≤ l.length) : ∃ A C, (∀ u, (Instr.slice E.TS (.slice a l.length c) (some (.int .i64 (i : Int))) none none).run Try.prog u = .ok (.slice A (l.drop i).length C) u) ∧ E.Sl w A C (l.drop i) ∧ (∀ b off, A = some ⟨b, off, none⟩ → ∃ o, a = some ⟨b, o, none⟩) := by
  have e : (l.drop i).length = l.length - i := List.length_drop ..
  have hc := h.le
  have key : ∀ u, (Instr.slice E.TS (.slice a l.length c) (some (.int .i64 (i : Int))) none none).run Try.prog u = .ok (.slice (if c = i then a else a.map (·.add (i * E.k))) (l.drop i).length (c - i)) u := fun u => by
    rw [run_slice_l u E.TS a l.length c (by rw [E.el]; exact E.und) .i64 i (by omega) (by omega), E.el, E.sz, e]
    simp [Result.andThen, sliced]
  have fin : (if c = i then a else a.map (·.add (i * E.k))) = a ∨ ∃ b off, a = some ⟨b, off, none⟩ ∧ (if c = i then a else a.map (·.add (i * E.k))) = some ⟨b, off + i * E.k, none⟩ := by
    by_cases hci : c = i
    · exact .inl (if_pos hci)
    · cases a with
      | none => exact .inl (by rw [if_neg hci]; rfl)
      | some ad =>
        obtain ⟨b, off, rfl⟩ := h.sp ad rfl
        exact .inr ⟨b, off, rfl, by rw [if_neg hci]; simp [addr_add]⟩
  refine ⟨_, _, key, ⟨by omega, fun hA => ?_, fun ad hA => ?_, ?_⟩, fun b off hA => ?_⟩
  · rcases fin with e1 | ⟨b, off, _, e2⟩
    · rw [e1] at hA; have := h.nl hA; omega
    · rw [e2] at hA; cases hA
  · rcases fin with e1 | ⟨b, off, _, e2⟩
    · rw [e1] at hA; exact h.sp ad hA
    · rw [e2] at hA; injection hA with hA; exact ⟨_, _, hA.symm⟩
  · by_cases hci : c = i
    · exact .inl (List.eq_nil_of_length_eq_zero (by omega))
    · rw [if_neg hci]
      cases a with
      | none => exact .inl (List.eq_nil_of_length_eq_zero (by have := h.nl rfl; omega))
      | some ad =>
        obtain ⟨b, off, rfl⟩ := h.sp ad rfl
        have := h.row.drop i
        simpa [addr_add] using this
  · rcases fin with e1 | ⟨b', off', e1, e2⟩
    · rw [e1] at hA; exact ⟨off, hA⟩
    · rw [e2] at hA; injection hA with hA; injection hA with h1 h2 h3; subst h1; exact ⟨off', e1⟩
end
/-- A row of the call's own. -/
def Own (w : World) (B : Nat) (v : Value) (l : List α) : Prop := w.ownsRow B E.T E.k v l.length (E.vals l)
section
variable {E} {w w' : World} {B : Nat} {v : Value} {l : List α}
theorem Own.nil (w : World) (B : Nat) : E.Own w B (.slice none 0 0) [] := World.ownsRow_nil _ _ _ _
theorem Own.lt (h : E.Own w B v l) (g : Nat) (hg : v.ownBlock = some g) : B ≤ g ∧ g < w.heap.size := World.ownsRow.lt h g hg
theorem Own.keep (h : E.Own w B v l) (hv : ∀ g, v.ownBlock = some g → w'.heap[g]? = w.heap[g]?) : E.Own w' B v l := by
  refine ⟨h.1, ?_⟩
  rcases h.2 with h | ⟨g, c, cur, rfl, hb, hg, rest⟩
  · exact .inl h
  · exact .inr ⟨g, c, cur, rfl, hb, (hv g rfl).trans hg, rest⟩
theorem Own.on (h : E.Own w B v l) (hb : Below w.heap.size w w') : E.Own w' B v l := h.keep fun g hg => hb.block g (h.lt g hg).2
theorem Own.alloc (h : E.Own w B v l) (o : Obj) : E.Own (w.alloc o) B v l := World.ownsRow.alloc h o
theorem Own.down {A : Nat} (h : E.Own w B v l) (hA : A ≤ B) : E.Own w A v l := by
  refine ⟨h.1, ?_⟩
  rcases h.2 with h | ⟨g, c, cur, rfl, hb, rest⟩
  · exact .inl h
  · exact .inr ⟨g, c, cur, rfl, Nat.le_trans hA hb, rest⟩
/-- It is a slice. -/
theorem Own.sl (h : E.Own w B v l) : ∃ a c, v = .slice a l.length c ∧ E.Sl w a c l ∧ ∀ b off, a = some ⟨b, off, none⟩ → v.ownBlock = some b := by
  rcases h.2 with ⟨h0, h1⟩ | ⟨g, c, cur, rfl, hb, hg, hnc, hcm, rest⟩
  · refine ⟨none, 0, by rw [h1]; exact h0, ⟨by omega, fun _ => rfl, (fun ad e => by cases e), .inl (List.eq_nil_of_length_eq_zero h1)⟩, fun b off e => by cases e⟩
  · refine ⟨_, c, rfl, ⟨hnc, (fun e => by cases e), (fun ad e => by injection e with e; exact ⟨g, 0, e.symm⟩), ?_⟩, fun b off e => by injection e with e; injection e with e1 e2 e3; subst e1; rfl⟩
    by_cases hl : l = []
    · exact .inl hl
    · refine .inr ⟨g, 0, rfl, (Array.getElem?_eq_some_iff.1 hg).1, fun j u hj => ?_⟩
      have hj2 := (List.getElem?_eq_some_iff.1 hj).1
      rw [E.vals_len] at hj2
      rw [Nat.zero_add]
      exact (World.ownsRow.cellAt h j hj2).trans hj
/-- A slice's values are appended to it. -/
theorem Own.append (ty : TypeId) {a : Option Addr} {c : Nat} {ys : List α} (h : E.Own w B v l) (hu : E.Sl w a c ys) (hl : (l.length + ys.length) * E.bytes ≤ 140737488355328) (h63 : l.length + ys.length ≤ maxLen) (hB : B ≤ w.heap.size) :
    ∃ v' w', (Builtin.append_ #[E.TS, E.TS] ty #[v, .slice a ys.length c]).run Try.prog w = .ok v' w' ∧ E.Own w' B v' (l ++ ys) ∧ w.grownBy w' v.ownBlock ∧ (v'.ownBlock = v.ownBlock ∨ v'.ownBlock = some w.heap.size) := by
  obtain ⟨i, z, h1, h2, h3, h4, h5⟩ := E.inf
  cases a with
  | none =>
    have hc := hu.nl rfl
    subst hc
    have h0 : ys = [] := List.eq_nil_of_length_eq_zero (Nat.le_zero.1 hu.le)
    subst h0
    refine ⟨v, w, run_append_owned_none w B E.TS ty E.T i E.k E.und h1 v l.length (E.vals l) h, ?_, ⟨rfl, rfl, rfl, Nat.le_refl _, fun _ _ _ => rfl⟩, .inl rfl⟩
    rw [List.append_nil]
    exact h
  | some ad =>
    have hc : ∀ j u, (E.vals ys)[j]? = some u → w.cell? (ad.add j) = some u := fun j u hj => by
      rcases hu.row with rfl | ⟨b, off, e, _, hcell⟩
      · rw [E.vals_nil] at hj; cases hj
      · injection e with e
        subst e
        rw [Addr.add_lit]
        exact hcell j u hj
    obtain ⟨v', w', hr, ho, hg, _, hb⟩ := run_append_own_at (P := Try.prog) (w := w) B E.TS ty E.T i z E.k E.bytes E.und h1 h2 h3 h4 h5 E.pos v l.length (E.vals l) h ad ys.length c (E.vals ys) (E.vals_len ys) hc (E.vals_ones ys) h63 hl hB
    refine ⟨v', w', hr, ?_, hg, hb⟩
    show w'.ownsRow _ _ _ v' (l ++ ys).length (E.vals (l ++ ys))
    rw [List.length_append, E.vals_app]
    exact ho
/-- A slice of several, just made. -/
theorem Sl.lit (w : World) (l : List α) (T : TypeId) (cs : Array Value) (hc : cs.toList = E.vals l) : E.Sl (w.alloc (.cells cs T)) (some ⟨w.heap.size, 0, none⟩) l.length l := by
  refine ⟨Nat.le_refl _, (fun e => by cases e), (fun ad e => by injection e with e; exact ⟨_, _, e.symm⟩), .inr ⟨_, 0, rfl, by simp, fun j u hj => ?_⟩⟩
  rw [← hc] at hj
  have k := World.cell?_alloc_mark w cs T (0, 0) j
  rw [Nat.zero_add]
  refine k.trans ?_
  simpa using hj
/-- A slice of one, just made. -/
theorem Sl.box (w : World) (x : α) (T : TypeId) (cs : Array Value) (hc : cs.toList = E.enc x) : E.Sl (w.alloc (.cells cs T)) (some ⟨w.heap.size, 0, none⟩) 1 [x] := by
  refine ⟨Nat.le_refl _, (fun e => by cases e), (fun ad e => by injection e with e; exact ⟨_, _, e.symm⟩), .inr ⟨_, 0, rfl, by simp, fun j u hj => ?_⟩⟩
  rw [E.vals_one, ← hc] at hj
  have k := World.cell?_alloc_mark w cs T (0, 0) j
  rw [Nat.zero_add]
  refine k.trans ?_
  simpa using hj
end
end Elt
namespace Elt
variable {α : Type} (E : Elt α)
/-- append(append([]T(nil), p...), q...). -/
theorem two_rows (ty ty2 : TypeId) {w : World} {a1 a2 : Option Addr} {c1 c2 : Nat} {p q : List α} (h1 : E.Sl w a1 c1 p) (h2 : E.Sl w a2 c2 q) (hl : (p.length + q.length) * E.bytes ≤ 140737488355328) (h63 : p.length + q.length ≤ maxLen) :
    ∃ v7 w7 a9 c9 w9, (Builtin.append_ #[E.TS, E.TS] ty #[.slice none 0 0, .slice a1 p.length c1]).run Try.prog w = .ok v7 w7 ∧ (Builtin.append_ #[E.TS, E.TS] ty2 #[v7, .slice a2 q.length c2]).run Try.prog w7 = .ok (.slice a9 (p ++ q).length c9) w9 ∧
      E.Sl w9 a9 c9 (p ++ q) ∧ (∀ b off, a9 = some ⟨b, off, none⟩ → w.heap.size ≤ b ∧ b < w9.heap.size) ∧ Below w.heap.size w w7 ∧ Below w.heap.size w w9 := by
  have hb : p.length * E.bytes ≤ 140737488355328 := Nat.le_trans (Nat.mul_le_mul_right _ (Nat.le_add_right _ _)) hl
  obtain ⟨v7, w7, r7, o7, g7, _⟩ := Own.append (E := E) ty (Own.nil w w.heap.size) h1 (by rw [List.length_nil, Nat.zero_add]; exact hb) (by rw [List.length_nil, Nat.zero_add]; omega) (Nat.le_refl _)
  have b7 : Below w.heap.size w w7 := (Below.refl w.heap.size w).grown g7 (Nat.le_refl _) (fun k e => nomatch e)
  rw [List.nil_append] at o7
  obtain ⟨v9, w9, r9, o9, g9, _⟩ := Own.append (E := E) ty2 o7 (h2.on b7) hl h63 b7.size
  have b9 : Below w.heap.size w w9 := b7.grown g9 b7.size (fun k e => (o7.lt k e).1)
  obtain ⟨a9, c9, e9, s9, n9⟩ := o9.sl
  refine ⟨v7, w7, a9, c9, w9, r7, by rw [← e9]; exact r9, s9, fun b off e => o9.lt b (n9 b off e), b7, b9⟩
/-- append(append(append([]T(nil), p...), x), q...): the copy first, or the new one. -/
theorem three_rows (ty ty2 ty3 : TypeId) {w : World} {a1 a2 : Option Addr} {c1 c2 : Nat} {p q : List α} (x : α) (T : TypeId) (cs : Array Value) (hc : cs.toList = E.enc x) (h1 : E.Sl w a1 c1 p) (h2 : E.Sl w a2 c2 q) (hl : (p.length + q.length + 1) * E.bytes ≤ 140737488355328) (h63 : p.length + q.length + 1 ≤ maxLen) :
    (∃ v7 w7 v10 w10 a17 c17 w17, (Builtin.append_ #[E.TS, E.TS] ty #[.slice none 0 0, .slice a1 p.length c1]).run Try.prog w = .ok v7 w7 ∧ (Builtin.append_ #[E.TS, E.TS] ty2 #[v7, .slice (some ⟨w7.heap.size, 0, none⟩) 1 1]).run Try.prog (w7.alloc (.cells cs T)) = .ok v10 w10 ∧
      (Builtin.append_ #[E.TS, E.TS] ty3 #[v10, .slice a2 q.length c2]).run Try.prog w10 = .ok (.slice a17 (p ++ x :: q).length c17) w17 ∧ E.Sl w17 a17 c17 (p ++ x :: q) ∧ (∀ b off, a17 = some ⟨b, off, none⟩ → w.heap.size ≤ b ∧ b < w17.heap.size) ∧ Below w.heap.size w w7 ∧ Below w.heap.size w (w7.alloc (.cells cs T)) ∧ Below w.heap.size w w10 ∧ Below w.heap.size w w17) ∧
    ∃ v7 w7 v10 w10 a17 c17 w17, (Builtin.append_ #[E.TS, E.TS] ty #[.slice none 0 0, .slice a1 p.length c1]).run Try.prog (w.alloc (.cells cs T)) = .ok v7 w7 ∧ (Builtin.append_ #[E.TS, E.TS] ty2 #[v7, .slice (some ⟨w.heap.size, 0, none⟩) 1 1]).run Try.prog w7 = .ok v10 w10 ∧
      (Builtin.append_ #[E.TS, E.TS] ty3 #[v10, .slice a2 q.length c2]).run Try.prog w10 = .ok (.slice a17 (p ++ x :: q).length c17) w17 ∧ E.Sl w17 a17 c17 (p ++ x :: q) ∧ (∀ b off, a17 = some ⟨b, off, none⟩ → w.heap.size ≤ b ∧ b < w17.heap.size) ∧ Below w.heap.size w (w.alloc (.cells cs T)) ∧ Below w.heap.size w w7 ∧ Below w.heap.size w w10 ∧ Below w.heap.size w w17 := by
  have hb : p.length * E.bytes ≤ 140737488355328 := Nat.le_trans (Nat.mul_le_mul_right _ (by omega)) hl
  have hb1 : (p.length + [x].length) * E.bytes ≤ 140737488355328 := Nat.le_trans (Nat.mul_le_mul_right _ (by rw [List.length_singleton]; omega)) hl
  have hb2 : ((p ++ [x]).length + q.length) * E.bytes ≤ 140737488355328 := Nat.le_trans (Nat.mul_le_mul_right _ (by rw [List.length_append, List.length_singleton]; omega)) hl
  have e : p ++ [x] ++ q = p ++ x :: q := by rw [List.append_assoc, List.singleton_append]
  refine ⟨?_, ?_⟩
  · obtain ⟨v7, w7, r7, o7, g7, _⟩ := Own.append (E := E) ty (Own.nil w w.heap.size) h1 (by rw [List.length_nil, Nat.zero_add]; exact hb) (by rw [List.length_nil, Nat.zero_add]; omega) (Nat.le_refl _)
    have b7 : Below w.heap.size w w7 := (Below.refl w.heap.size w).grown g7 (Nat.le_refl _) (fun k e => nomatch e)
    have b8 : Below w.heap.size w (w7.alloc (.cells cs T)) := b7.alloc b7.size _
    rw [List.nil_append] at o7
    obtain ⟨v10, w10, r10, o10, g10, _⟩ := Own.append (E := E) ty2 (o7.alloc (.cells cs T)) (Sl.box w7 x T cs hc) hb1 (by rw [List.length_singleton]; omega) b8.size
    have b10 : Below w.heap.size w w10 := b8.grown g10 b8.size (fun k e => (o7.lt k e).1)
    obtain ⟨v17, w17, r17, o17, g17, _⟩ := Own.append (E := E) ty3 o10 (h2.on b10) hb2 (by rw [List.length_append, List.length_singleton]; omega) b10.size
    have b17 : Below w.heap.size w w17 := b10.grown g17 b10.size (fun k e => (o10.lt k e).1)
    rw [e] at o17
    obtain ⟨a17, c17, e17, s17, n17⟩ := o17.sl
    exact ⟨v7, w7, v10, w10, a17, c17, w17, r7, r10, by rw [← e17]; exact r17, s17, fun b off e => o17.lt b (n17 b off e), b7, b8, b10, b17⟩
  · have b8 : Below w.heap.size w (w.alloc (.cells cs T)) := (Below.refl _ _).alloc (Nat.le_refl _) _
    obtain ⟨v7, w7, r7, o7, g7, _⟩ := Own.append (E := E) ty (Own.nil (w.alloc (.cells cs T)) (w.heap.size + 1)) (h1.on b8) (by rw [List.length_nil, Nat.zero_add]; exact hb) (by rw [List.length_nil, Nat.zero_add]; omega) (by simp)
    have b7 : Below w.heap.size w w7 := b8.grown g7 b8.size (fun k e => nomatch e)
    have x7 : Below (w.alloc (.cells cs T)).heap.size (w.alloc (.cells cs T)) w7 := (Below.refl _ _).grown g7 (Nat.le_refl _) (fun k e => nomatch e)
    rw [List.nil_append] at o7
    obtain ⟨v10, w10, r10, o10, g10, _⟩ := Own.append (E := E) ty2 o7 ((Sl.box w x T cs hc).on x7) hb1 (by rw [List.length_singleton]; omega) (by have := x7.size; simp at this; omega)
    have b10 : Below w.heap.size w w10 := b7.grown g10 b7.size (fun k e => Nat.le_of_succ_le (o7.lt k e).1)
    obtain ⟨v17, w17, r17, o17, g17, _⟩ := Own.append (E := E) ty3 o10 (h2.on b10) hb2 (by rw [List.length_append, List.length_singleton]; omega) (by have := x7.size; have := g10.size; simp at *; omega)
    have b17 : Below w.heap.size w w17 := b10.grown g17 b10.size (fun k e => Nat.le_of_succ_le (o10.lt k e).1)
    rw [e] at o17
    obtain ⟨a17, c17, e17, s17, n17⟩ := o17.sl
    exact ⟨v7, w7, v10, w10, a17, c17, w17, r7, r10, by rw [← e17]; exact r17, s17, fun b off e => ⟨Nat.le_of_succ_le (o17.lt b (n17 b off e)).1, (o17.lt b (n17 b off e)).2⟩, b8, b7, b10, b17⟩
end Elt
theorem grew_below {w0 w w' : World} {v : Value} (h : Below w0.heap.size w0 w) (hg : w.grownBy w' v.ownBlock) (hv : ∀ k, v.ownBlock = some k → w0.heap.size ≤ k) : Below w0.heap.size w0 w' := h.grown hg h.size hv
end Go.Proofs.Ytbbadpidolfleaa
