/- Texts of this proof, together: MapV, KeyLits. -/
import Derived.Maps.RangeWalk
import Derived.DeepKeys4
import Derived.DataShut
import Derived.Below
import Derived.RangeFuncSeq
namespace Go.Proofs.Ytbbadpidolfleaa
set_option linter.unusedVariables false
set_option linter.unusedSimpArgs false
open Go.RowKit
open Go.Maps (Keyed)
/-- How a value reads: as itself. -/
def anyE (v : Value) : Option (DataW Value × List MemPlace) := some (.held v, [])
/-- How keys lie in values. -/
structure KeyK (P : Program) (κ : Type) where
  T : TypeId
  v : κ → Value
  ok : κ → Prop
  l : κ → Lit
  keyed : Keyed P T
  of : ∀ k, ok k → keyOf P T (v k) = some (l k)
  inv : ∀ u z, keyOf P T u = some z → ∃ k, ok k ∧ u = v k
  lit : ∀ k, WideAt.IsKeyLit (l k)
  inj : ∀ a b, v a = v b → a = b
namespace KeyK
variable {P : Program} {κ : Type} (K : KeyK P κ)
theorem l_inj {a b : κ} (ha : K.ok a) (hb : K.ok b) (h : K.l a = K.l b) : a = b := by
  have h1 := K.of a ha
  have h2 := K.of b hb
  exact K.inj a b (K.keyed.inj h1 (by rw [h2]; exact congrArg some h.symm))
/-- What a datum is of a list of entries. -/
structure Dat (D : DataW Value) (L : List (κ × Value)) : Prop where
  yes : ∀ h v, (h, v) ∈ L → Maps.has D (K.l h) = true ∧ ∀ zd, D.atKey (K.l h) zd = .held v
  no : ∀ h : κ, K.ok h → (∀ v, (h, v) ∉ L) → Maps.has D (K.l h) = false
structure Map (w : World) (b : Nat) (L : List (κ × Value)) : Prop where
  nd : L.Pairwise fun p q => p.1 ≠ q.1
  hk : ∀ p ∈ L, K.ok p.1
  da : ∃ D, w.ownsMap P K.T anyE b L.length D ∧ Maps.size D = L.length ∧ K.Dat D L
/-- A map that is gone over: M is still to come. -/
structure Iter (w : World) (b r : Nat) (L M : List (κ × Value)) : Prop where
  nd : L.Pairwise fun p q => p.1 ≠ q.1
  hk : ∀ p ∈ L, K.ok p.1
  da : ∃ D left cnt, w.ranges P K.T anyE b r L.length D left cnt ∧ Maps.size D = L.length ∧ K.Dat D L ∧ M = L.filter fun p => left (K.l p.1)
end KeyK
/-- The others. -/
def butV {κ : Type} [DecidableEq κ] (L : List (κ × Value)) (k : κ) : List (κ × Value) := L.filter fun p => decide (p.1 ≠ k)
namespace KeyK
variable {P : Program} {κ : Type} {K : KeyK P κ} {w w' : World} {b : Nat} {L L' : List (κ × Value)} {T E : TypeId} {z : Value}
theorem nd_mem {h : κ} {u v : Value} (hn : L.Pairwise fun p q => p.1 ≠ q.1) (hu : (h, u) ∈ L) (hv : (h, v) ∈ L) : u = v := by
  induction L with
  | nil => exact absurd hu List.not_mem_nil
  | cons p r ih =>
    obtain ⟨h1, h2⟩ := List.pairwise_cons.1 hn
    rcases List.mem_cons.1 hu with e | hu'
    · rcases List.mem_cons.1 hv with e2 | hv'
      · exact congrArg Prod.snd (e.trans e2.symm)
      · exact absurd (by rw [← e]) (h1 _ hv')
    · rcases List.mem_cons.1 hv with e2 | hv'
      · exact absurd (by rw [← e2]) (h1 _ hu')
      · exact ih h2 hu' hv'
theorem Dat.perm {D : DataW Value} (h : K.Dat D L) (p : L.Perm L') : K.Dat D L' := ⟨fun k v hv => h.yes k v (p.mem_iff.2 hv), fun k hk hn => h.no k hk fun v hv => hn v (p.mem_iff.1 hv)⟩
theorem Map.perm (h : K.Map w b L) (p : L.Perm L') : K.Map w b L' := by
  obtain ⟨D, o, s, d⟩ := h.da
  exact ⟨(p.pairwise_iff (fun {_ _} hne => Ne.symm hne)).1 h.nd, fun q hq => h.hk q (p.mem_iff.2 hq), D, by rw [← p.length_eq]; exact o, by rw [← p.length_eq]; exact s, d.perm p⟩
theorem Map.made (K : KeyK P κ) (w : World) : K.Map (w.alloc (.map #[] 0)) w.heap.size [] :=
  ⟨List.Pairwise.nil, fun p hp => absurd hp List.not_mem_nil, _, World.ownsMap_made w _ _ _, rfl, fun h v hv => absurd hv List.not_mem_nil, fun h _ _ => rfl⟩
theorem mapv_keep {D : DataW Value} {n : Nat} (h : w.ownsMap P K.T anyE b n D) (hb : w'.heap[b]? = w.heap[b]?) : w'.ownsMap P K.T anyE b n D := by
  obtain ⟨es, clock, h1, r⟩ := h
  exact ⟨es, clock, hb.trans h1, r⟩
theorem Map.keep (h : K.Map w b L) (hb : w'.heap[b]? = w.heap[b]?) : K.Map w' b L := by
  obtain ⟨D, o, s, d⟩ := h.da
  exact ⟨h.nd, h.hk, D, mapv_keep o hb, s, d⟩
theorem Map.lt (h : K.Map w b L) : b < w.heap.size := by
  obtain ⟨D, o, s, d⟩ := h.da
  exact o.lt
theorem Map.on (h : K.Map w b L) (hb : Below w.heap.size w w') : K.Map w' b L := h.keep (hb.block b h.lt)
/-- A copy of a map's block. -/
theorem Map.copy (h : K.Map w b L) {c : Nat} (hc : w'.heap[c]? = w.heap[b]?) : K.Map w' c L := by
  obtain ⟨D, ⟨es, clock, h1, r⟩, s, d⟩ := h.da
  exact ⟨h.nd, h.hk, D, ⟨es, clock, hc.trans h1, r⟩, s, d⟩
/-- A map's block. -/
theorem Map.block (h : K.Map w b L) : ∃ es clock, w.heap[b]? = some (.map es clock) := by
  obtain ⟨D, ⟨es, clock, h1, r⟩, s, d⟩ := h.da
  exact ⟨es, clock, h1⟩
theorem mapv_size {D : DataW Value} {n : Nat} (h : w.ownsMap P K.T anyE b n D) : w.ownsMap P K.T anyE b (Maps.size D) D := by
  obtain ⟨es, clock, h1, F, h2, rfl⟩ := h
  refine ⟨es, clock, h1, F, ?_, rfl⟩
  rw [Maps.size_eq, length_sorted]
  simp
/-- 'v, ok := m[k]', of a key that is there. -/
theorem Map.look2 (h : K.Map w b L) (ht : P.underlying T = some (.map K.T E)) (hz : ∀ w, (zeroValue E).run P w = .ok z w) {k : κ} {v : Value} (hv : (k, v) ∈ L) : (Instr.lookup T (.map (some b)) (K.v k) true).run P w = .ok (.tuple #[v, .bool true]) w := by
  obtain ⟨D, o, s, d⟩ := h.da
  obtain ⟨u, ps, hr, hu⟩ := o.look_ok K.keyed ht (hz w) (zd := .held z) (zp := []) rfl (K.of k (h.hk _ hv))
  have e := d.yes k v hv
  rw [e.2] at hu
  injection hu with hu
  injection hu with hu _
  injection hu with hu
  rw [hr, e.1, hu]
/-- .. of one that is not. -/
theorem Map.miss (h : K.Map w b L) (ht : P.underlying T = some (.map K.T E)) (hz : ∀ w, (zeroValue E).run P w = .ok z w) {k : κ} (hk : K.ok k) (hn : ∀ v, (k, v) ∉ L) : (Instr.lookup T (.map (some b)) (K.v k) true).run P w = .ok (.tuple #[z, .bool false]) w := by
  obtain ⟨D, o, s, d⟩ := h.da
  obtain ⟨u, ps, hr, hu⟩ := o.look_ok K.keyed ht (hz w) (zd := .held z) (zp := []) rfl (K.of k hk)
  have e := d.no k hk hn
  rw [Maps.atKey_of_not_has e] at hu
  injection hu with hu
  injection hu with hu _
  injection hu with hu
  rw [hr, e, hu]
/-- 'm[k]', of a key that is there. -/
theorem Map.look (h : K.Map w b L) (ht : P.underlying T = some (.map K.T E)) (hz : ∀ w, (zeroValue E).run P w = .ok z w) {k : κ} {v : Value} (hv : (k, v) ∈ L) : (Instr.lookup T (.map (some b)) (K.v k) false).run P w = .ok v w := by
  obtain ⟨D, o, s, d⟩ := h.da
  obtain ⟨u, ps, hr, hu⟩ := o.lookup K.keyed ht (hz w) (zd := .held z) (zp := []) rfl (K.of k (h.hk _ hv))
  have e := d.yes k v hv
  rw [e.2] at hu
  injection hu with hu
  injection hu with hu _
  injection hu with hu
  rw [hr, hu]
theorem Map.look0 (h : K.Map w b L) (ht : P.underlying T = some (.map K.T E)) (hz : ∀ w, (zeroValue E).run P w = .ok z w) {k : κ} (hk : K.ok k) (hn : ∀ v, (k, v) ∉ L) : (Instr.lookup T (.map (some b)) (K.v k) false).run P w = .ok z w := by
  obtain ⟨D, o, s, d⟩ := h.da
  obtain ⟨u, ps, hr, hu⟩ := o.lookup K.keyed ht (hz w) (zd := .held z) (zp := []) rfl (K.of k hk)
  have e := d.no k hk hn
  rw [Maps.atKey_of_not_has e] at hu
  injection hu with hu
  injection hu with hu _
  injection hu with hu
  rw [hr, hu]
/-- 'len(m)'. -/
theorem Map.len (h : K.Map w b L) (ht : P.underlying T = some (.map K.T E)) (ty : TypeId) : (Builtin.len_ #[T] ty #[.map (some b)]).run P w = .ok (.int .i64 (L.length : Int)) w := by
  obtain ⟨D, o, s, d⟩ := h.da
  rw [o.len ht ty, s]
theorem Iter.map {r : Nat} {M : List (κ × Value)} (h : K.Iter w b r L M) : K.Map w b L := by
  obtain ⟨D, left, cnt, o, s, d, _⟩ := h.da
  exact ⟨h.nd, h.hk, D, o.owns, s, d⟩
theorem Iter.keep {r : Nat} {M : List (κ × Value)} (h : K.Iter w b r L M) (hb : w'.heap[b]? = w.heap[b]?) (hr : w'.heap[r]? = w.heap[r]?) : K.Iter w' b r L M := by
  obtain ⟨D, left, cnt, ⟨es, clock, since, seen, c0, h1, F, h2, h3, h4, rest⟩, s, d, e⟩ := h.da
  exact ⟨h.nd, h.hk, D, left, cnt, ⟨es, clock, since, seen, c0, hb.trans h1, F, h2, h3, hr.trans h4, rest⟩, s, d, e⟩
theorem Iter.lt {r : Nat} {M : List (κ × Value)} (h : K.Iter w b r L M) : b < w.heap.size ∧ r < w.heap.size := by
  obtain ⟨D, left, cnt, o, _⟩ := h.da
  exact ⟨o.owns.lt, o.lt⟩
theorem Iter.on {r : Nat} {M : List (κ × Value)} (h : K.Iter w b r L M) (hb : Below w.heap.size w w') : K.Iter w' b r L M := h.keep (hb.block b h.lt.1) (hb.block r h.lt.2)
/-- Both blocks are a walk's. -/
theorem Iter.walks {r : Nat} {M : List (κ × Value)} (h : K.Iter w b r L M) (hk : KeepsWalks w w') : K.Iter w' b r L M := by
  obtain ⟨D, left, cnt, o, s, d, e⟩ := h.da
  exact ⟨h.nd, h.hk, D, left, cnt, o.of_walks hk, s, d, e⟩
theorem Iter.isWalk {r : Nat} {M : List (κ × Value)} (h : K.Iter w b r L M) : ∃ o : Obj, w.heap[r]? = some o ∧ o.isWalk = true := by
  obtain ⟨D, left, cnt, o, _⟩ := h.da
  exact o.iter_walk
theorem Map.range (h : K.Map w b L) (ht : P.underlying T = some (.map K.T E)) :
    ∃ w', (Instr.range T (.map (some b))).run P w = .ok (.pointer (some ⟨w.heap.size, 0, none⟩)) w' ∧ K.Iter w' b w.heap.size L L ∧ w.grownBy w' none ∧ w'.heap.size = w.heap.size + 1 := by
  obtain ⟨D, o, s, d⟩ := h.da
  obtain ⟨w', hr, hrg, hg, hs⟩ := o.range K.keyed ht
  exact ⟨w', hr, ⟨h.nd, h.hk, D, _, _, hrg, s, d, (List.filter_eq_self.2 fun p hp => (d.yes p.1 p.2 hp).1).symm⟩, hg, hs⟩
variable [DecidableEq κ]
theorem but_perm (hn : L.Pairwise fun p q => p.1 ≠ q.1) {k : κ} {v : Value} (hv : (k, v) ∈ L) : L.Perm ((k, v) :: butV L k) := by
  induction L with
  | nil => exact absurd hv List.not_mem_nil
  | cons p r ih =>
    obtain ⟨h1, h2⟩ := List.pairwise_cons.1 hn
    rcases List.mem_cons.1 hv with e | hv'
    · subst e
      unfold butV
      rw [List.filter_cons, if_neg (by simp), List.filter_eq_self.2 (fun q hq => by have := h1 q hq; simpa using Ne.symm this)]
    · have hne : p.1 ≠ k := h1 _ hv'
      unfold butV
      rw [List.filter_cons, if_pos (by simpa using hne)]
      exact (List.Perm.cons p (ih h2 hv')).trans (List.Perm.swap _ _ _)
theorem but_none {k : κ} (hn : ∀ v, (k, v) ∉ L) : butV L k = L := List.filter_eq_self.2 fun q hq => by
  have : q.1 ≠ k := fun e => hn q.2 (by rw [show ((k, q.2) : κ × Value) = q from Prod.ext e.symm rfl]; exact hq)
  simpa using this
theorem but_mem {k : κ} {q : κ × Value} : q ∈ butV L k ↔ q ∈ L ∧ q.1 ≠ k := by unfold butV; rw [List.mem_filter]; simp
/-- 'm[k] = v', whether the key is there or not. -/
theorem Map.put (h : K.Map w b L) (ht : P.underlying T = some (.map K.T E)) {k : κ} (hk : K.ok k) {v : Value} (hl : L.length < 1000000) :
    ∃ w', (Instr.mapUpdate T (.map (some b)) (K.v k) v).run P w = .ok () w' ∧ K.Map w' b ((k, v) :: butV L k) ∧ w.mapTurned w' b := by
  obtain ⟨D, o, s, d⟩ := h.da
  obtain ⟨w', hr, o2, t2⟩ := o.store K.keyed ht (Nat.lt_of_lt_of_le hl (by decide)) (K.of k hk) (val := v) (d := .held v) (ps := []) rfl
  have ti := o.tidy K.keyed
  have hs : Maps.size (D.put (K.l k) (.held v)) = ((k, v) :: butV L k).length := by
    rw [Maps.size_put ti, s, List.length_cons]
    by_cases hin : ∃ u, (k, u) ∈ L
    · obtain ⟨u, hu⟩ := hin
      rw [(d.yes k u hu).1, (but_perm h.nd hu).length_eq, List.length_cons]
      rfl
    · have hin' : ∀ u, (k, u) ∉ L := fun u hu => hin ⟨u, hu⟩
      rw [d.no k hk hin', but_none hin']
      rfl
  refine ⟨w', hr, ⟨List.pairwise_cons.2 ⟨fun q hq e => (but_mem.1 hq).2 e.symm, h.nd.sublist List.filter_sublist⟩, fun q hq => ?_, _, ?_, hs, fun j u hu => ?_, fun j hj hno => ?_⟩, t2⟩
  · rcases List.mem_cons.1 hq with rfl | hq
    · exact hk
    · exact h.hk q (but_mem.1 hq).1
  · have := mapv_size o2
    rw [hs] at this
    exact this
  · by_cases e : j = k
    · subst e
      rcases List.mem_cons.1 hu with hu | hu
      · injection hu with _ hu
        subst hu
        exact ⟨Maps.has_put_same ti.isMap (K.lit j) _, fun zd => Maps.atKey_put_same ti.isMap (K.lit j) _ zd⟩
      · exact absurd rfl (but_mem.1 hu).2
    · rcases List.mem_cons.1 hu with hu | hu
      · injection hu with hu _; exact absurd hu e
      · have hu := (but_mem.1 hu).1
        have hj : K.ok j := h.hk _ hu
        have ne : K.l j ≠ K.l k := fun e2 => e (K.l_inj hj hk e2)
        exact ⟨by rw [Maps.has_put_other ne]; exact (d.yes j u hu).1, fun zd => by rw [Maps.atKey_put_other ne]; exact (d.yes j u hu).2 zd⟩
  · have e : j ≠ k := fun e => hno v (by rw [e]; exact List.mem_cons_self ..)
    have ne : K.l j ≠ K.l k := fun e2 => e (K.l_inj hj hk e2)
    rw [Maps.has_put_other ne]
    exact d.no j hj fun u hu => hno u (List.mem_cons_of_mem _ (but_mem.2 ⟨hu, e⟩))
/-- 'delete(m, k)', whether the key is there or not. -/
theorem Map.del (h : K.Map w b L) (ht : P.underlying T = some (.map K.T E)) {k : κ} (hk : K.ok k) (ty : TypeId) :
    ∃ w', (Builtin.delete_ #[T, K.T] ty #[.map (some b), K.v k]).run P w = .ok (.tuple #[]) w' ∧ K.Map w' b (butV L k) ∧ w.mapTurned w' b := by
  obtain ⟨D, o, s, d⟩ := h.da
  obtain ⟨w', hr, o2, t2⟩ := o.drop K.keyed ht (K.of k hk) ty
  have ti := o.tidy K.keyed
  have hs : Maps.size (D.del (K.l k)) = (butV L k).length := by
    have := Maps.size_del (k := K.l k) ti
    rw [s] at this
    by_cases hin : ∃ u, (k, u) ∈ L
    · obtain ⟨u, hu⟩ := hin
      rw [(d.yes k u hu).1, (but_perm h.nd hu).length_eq, List.length_cons] at this
      simp at this
      omega
    · have hin' : ∀ u, (k, u) ∉ L := fun u hu => hin ⟨u, hu⟩
      rw [d.no k hk hin'] at this
      rw [but_none hin']
      simp at this
      omega
  refine ⟨w', hr, ⟨h.nd.sublist List.filter_sublist, fun q hq => h.hk q (but_mem.1 hq).1, _, ?_, hs, fun j u hu => ?_, fun j hj hno => ?_⟩, t2⟩
  · have := mapv_size o2
    rw [hs] at this
    exact this
  · obtain ⟨hu1, e⟩ := but_mem.1 hu
    have ne : K.l j ≠ K.l k := fun e2 => e (K.l_inj (h.hk _ hu1) hk e2)
    exact ⟨by rw [Maps.has_del_other ne]; exact (d.yes j u hu1).1, fun zd => by rw [Maps.atKey_del_other ne]; exact (d.yes j u hu1).2 zd⟩
  · by_cases e : j = k
    · subst e; exact Maps.has_del_same
    · have ne : K.l j ≠ K.l k := fun e2 => e (K.l_inj hj hk e2)
      rw [Maps.has_del_other ne]
      exact d.no j hj fun u hu => hno u (but_mem.2 ⟨hu, e⟩)
theorem Iter.next {r : Nat} {M : List (κ × Value)} (h : K.Iter w b r L M) (ty : TypeId) :
    (M = [] ∧ (Instr.next (.pointer (some ⟨r, 0, none⟩)) false ty).run P w = .ok (.tuple #[.bool false]) w) ∨
    ∃ k v M' w', M.Perm ((k, v) :: M') ∧ (k, v) ∈ L ∧ (Instr.next (.pointer (some ⟨r, 0, none⟩)) false ty).run P w = .ok (.tuple #[.bool true, K.v k, v]) w' ∧ K.Iter w' b r L M' ∧ w.grownBy w' (some r) ∧ w'.heap.size = w.heap.size ∧
      (Instr.entry (.pointer (some ⟨r, 0, none⟩))).run P w' = .ok (.tuple #[K.v k, v]) w' := by
  obtain ⟨D, left, cnt, o, s, d, rfl⟩ := h.da
  rcases o.next K.keyed ty with ⟨h0, hl, hr⟩ | ⟨key, u, k1, y, w', cnt', hkey, hlk, hu, hat, hr, hrg, hlt, hg, hs, hen⟩
  · exact .inl ⟨List.filter_eq_nil_iff.2 fun p _ => by simp [hl], hr⟩
  · obtain ⟨k, hk, rfl⟩ := K.inv _ _ hkey
    have ek : k1 = K.l k := by rw [K.of k hk] at hkey; exact (Option.some.inj hkey).symm
    subst ek
    have hh := Maps.has_true_of_atKey hat
    have hy : y.1 = .held u := by
      unfold anyE at hu
      injection hu with hu
      exact (congrArg Prod.fst hu).symm
    have hm : (k, u) ∈ L := by
      refine Classical.byContradiction fun hno => ?_
      by_cases hex : ∃ v, (k, v) ∈ L
      · obtain ⟨v, hv⟩ := hex
        have e1 := (d.yes k v hv).2 (.held u)
        rw [hat, hy] at e1
        injection e1 with e1
        exact hno (by rw [e1]; exact hv)
      · have := d.no k hk fun v hv => hex ⟨v, hv⟩
        rw [hh] at this
        cases this
    have hM : (k, u) ∈ L.filter fun p => left (K.l p.1) := List.mem_filter.2 ⟨hm, hlk⟩
    refine .inr ⟨k, u, butV (L.filter fun p => left (K.l p.1)) k, w', but_perm (h.nd.sublist List.filter_sublist) hM, hm, hr, ⟨h.nd, h.hk, D, _, _, hrg, s, d, ?_⟩, hg, hs, hen⟩
    unfold butV
    rw [List.filter_filter]
    refine List.filter_congr fun p hp => ?_
    by_cases e : p.1 = k
    · rw [e, WideAt.sameKey_self (K.lit k)]; simp
    · rw [Maps.sameKey_ne (fun e2 => e (K.l_inj (h.hk p hp) hk e2))]; simp [e]
end KeyK
end Go.Proofs.Ytbbadpidolfleaa

namespace Go.Proofs.Ytbbadpidolfleaa
set_option linter.unusedVariables false
set_option linter.unusedSimpArgs false
section
variable {P : Program} {d : Nat} {t : TypeId} {cs : List Value} {ls : List Lit}
theorem kl_int {q : IntKind} (h : P.underlying t = some (.int q)) {n : Int} (hw : (Lit.int q n).wf = true) : P.keyLits (d + 1) t [.int q n] = some [.int q n] := by
  unfold Program.keyLits
  rw [h]
  simp [hw]
theorem kl_int_inv {q : IntKind} (h : P.underlying t = some (.int q)) (e : P.keyLits (d + 1) t cs = some ls) : ∃ n, cs = [.int q n] ∧ (Lit.int q n).wf = true ∧ ls = [.int q n] := by
  unfold Program.keyLits at e
  rw [h] at e
  match cs, e with
  | [.int q' n], e =>
    simp only [] at e
    split at e
    · rename_i hq
      obtain ⟨rfl, hw⟩ := hq
      exact ⟨n, rfl, hw, (Option.some.inj e).symm⟩
    · cases e
  | [], e => cases e
  | [.bool _], e => cases e
  | [.string _], e => cases e
  | [.agg _], e => cases e
  | [.tuple _], e => cases e
  | [.pointer _], e => cases e
  | [.slice _ _ _], e => cases e
  | [.map _], e => cases e
  | [.nilFunc], e => cases e
  | [.func _ _ _], e => cases e
  | [.nilIface], e => cases e
  | [.iface _ _], e => cases e
  | _ :: _ :: _, e => simp at e
theorem kl_two {f g : Field} (h : P.underlying t = some (.struct #[f, g])) (hn : (#[f, g].all (·.name != "_")) = true) {l1 l2 : List Lit} (hl : cs.length = P.cellsOf t)
    (e1 : P.keyLits d f.type ((cs.drop f.offset).take (P.cellsOf f.type)) = some l1) (e2 : P.keyLits d g.type ((cs.drop g.offset).take (P.cellsOf g.type)) = some l2) : P.keyLits (d + 1) t cs = some (l1 ++ l2) := by
  unfold Program.keyLits
  rw [h]
  simp only []
  rw [if_pos ⟨hl, hn⟩]
  simp [e1, e2]
theorem kl_two_inv {f g : Field} (h : P.underlying t = some (.struct #[f, g])) (e : P.keyLits (d + 1) t cs = some ls) : cs.length = P.cellsOf t ∧ ∃ l1 l2, P.keyLits d f.type ((cs.drop f.offset).take (P.cellsOf f.type)) = some l1 ∧ P.keyLits d g.type ((cs.drop g.offset).take (P.cellsOf g.type)) = some l2 ∧ ls = l1 ++ l2 := by
  unfold Program.keyLits at e
  rw [h] at e
  simp only [] at e
  split at e
  · rename_i hc
    refine ⟨hc.1, ?_⟩
    cases h1 : P.keyLits d f.type ((cs.drop f.offset).take (P.cellsOf f.type)) with
    | none => simp [h1] at e
    | some l1 =>
      cases h2 : P.keyLits d g.type ((cs.drop g.offset).take (P.cellsOf g.type)) with
      | none => simp [h1, h2] at e
      | some l2 =>
        simp [h1, h2] at e
        exact ⟨l1, l2, rfl, rfl, e.symm⟩
  · cases e
theorem kl_three {f g k : Field} (h : P.underlying t = some (.struct #[f, g, k])) (hn : (#[f, g, k].all (·.name != "_")) = true) {l1 l2 l3 : List Lit} (hl : cs.length = P.cellsOf t)
    (e1 : P.keyLits d f.type ((cs.drop f.offset).take (P.cellsOf f.type)) = some l1) (e2 : P.keyLits d g.type ((cs.drop g.offset).take (P.cellsOf g.type)) = some l2) (e3 : P.keyLits d k.type ((cs.drop k.offset).take (P.cellsOf k.type)) = some l3) : P.keyLits (d + 1) t cs = some (l1 ++ (l2 ++ l3)) := by
  unfold Program.keyLits
  rw [h]
  simp only []
  rw [if_pos ⟨hl, hn⟩]
  simp [e1, e2, e3]
theorem kl_three_inv {f g k : Field} (h : P.underlying t = some (.struct #[f, g, k])) (e : P.keyLits (d + 1) t cs = some ls) : cs.length = P.cellsOf t ∧ ∃ l1 l2 l3, P.keyLits d f.type ((cs.drop f.offset).take (P.cellsOf f.type)) = some l1 ∧ P.keyLits d g.type ((cs.drop g.offset).take (P.cellsOf g.type)) = some l2 ∧ P.keyLits d k.type ((cs.drop k.offset).take (P.cellsOf k.type)) = some l3 ∧ ls = l1 ++ (l2 ++ l3) := by
  unfold Program.keyLits at e
  rw [h] at e
  simp only [] at e
  split at e
  · rename_i hc
    refine ⟨hc.1, ?_⟩
    cases h1 : P.keyLits d f.type ((cs.drop f.offset).take (P.cellsOf f.type)) with
    | none => simp [h1] at e
    | some l1 =>
      cases h2 : P.keyLits d g.type ((cs.drop g.offset).take (P.cellsOf g.type)) with
      | none => simp [h1, h2] at e
      | some l2 =>
        cases h3 : P.keyLits d k.type ((cs.drop k.offset).take (P.cellsOf k.type)) with
        | none => simp [h1, h2, h3] at e
        | some l3 =>
          simp [h1, h2, h3] at e
          exact ⟨l1, l2, l3, rfl, rfl, rfl, e.symm⟩
  · cases e
/-- A struct's key. -/
theorem key_struct {k : TypeId} {fs : Array Field} (h : P.underlying k = some (.struct fs)) (hk : P.keyType k = true) {cs : Array Value} (hc : cs.size = P.cellsOf k) {ls : List Lit} (e : P.keyLits (P.types.size + 1) k cs.toList = some ls) : keyOf P k (.agg cs) = some (.string (keyBytes ls)) := by
  unfold keyOf
  rw [h]
  simp only []
  rw [if_pos (by simp [hk, Value.formed, h, hc])]
  show Option.map _ (P.keyLits (P.types.size + 1) k cs.toList) = _
  rw [e]
  rfl
theorem key_struct_inv {k : TypeId} {fs : Array Field} (h : P.underlying k = some (.struct fs)) {u : Value} {l : Lit} (e : keyOf P k u = some l) : ∃ cs ls, u = .agg cs ∧ P.keyLits (P.types.size + 1) k cs.toList = some ls ∧ l = .string (keyBytes ls) := by
  unfold keyOf at e
  rw [h] at e
  simp only [] at e
  split at e
  · rename_i hf
    rw [Bool.and_eq_true] at hf
    cases u with
    | agg cs =>
      cases h1 : P.keyLits (P.types.size + 1) k cs.toList with
      | none => rw [show (Value.agg cs).cells.toList = cs.toList from rfl, h1] at e; cases e
      | some ls =>
        rw [show (Value.agg cs).cells.toList = cs.toList from rfl, h1] at e
        exact ⟨cs, ls, rfl, h1, (Option.some.inj e).symm⟩
    | _ => simp [Value.formed, h] at hf
  · cases e
end
end Go.Proofs.Ytbbadpidolfleaa
