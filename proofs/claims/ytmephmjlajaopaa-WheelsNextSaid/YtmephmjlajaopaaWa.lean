/- Texts of this proof, together: MapH, MapL, WzA, Cmp, WzB, WzC, WzD. -/
import Derived.Test.YtmephmjlajaopaaWheK
import Derived.Test.YtmephmjlajaopaaLead
import Derived.Test.YtmephmjlajaopaaBeside
import Derived.Maps.RangeWalk
import Derived.DeepKeys4
import Derived.DataShut
import Derived.Sort.Grow
import Derived.Deep.DeepCutAuto
import Derived.Deep.RegionHeld3
import Derived.Lib.AppendZeros
namespace Go.Proofs.Ytmephmjlajaopaa
set_option linter.unusedVariables false
set_option linter.unusedSimpArgs false
open Go.ChangeShapes Go.WideShapes Go.ChangeAt Go.RowKit Go.PlainAid
open Go.Maps (Keyed)
theorem hashed : Keyed Try.prog 34 := Keyed.of_law (deep_law_laid (by kernel_rfl) (m := 9999) (Nat.le_refl _) (by decide) (by kernel_rfl) (by kernel_rfl))
/-- A handle, as a value. -/
def hV (h : Int × Int) : Value := .agg #[.int .i64 h.1, .int .u32 h.2]
theorem wf_i64 {s : Int} (h0 : -9223372036854775808 ≤ s) (h1 : s ≤ 9223372036854775807) : (Lit.int .i64 s).wf = true := by simp [Lit.wf, IntKind.min, IntKind.max, IntKind.bits, IntKind.signed]; omega
theorem wf_u32 {g : Int} (h0 : 0 ≤ g) (h1 : g < 4294967296) : (Lit.int .u32 g).wf = true := by simp [Lit.wf, IntKind.min, IntKind.max, IntKind.bits, IntKind.signed]; omega
theorem key_of {h : Int × Int} (hh : HOk h.1 h.2) : keyOf Try.prog 34 (hV h) = some (.string (keyBytes [.int .i64 h.1, .int .u32 h.2])) := by
  have hk : Try.prog.keyType 34 = true := by kernel_rfl
  have hc : Try.prog.cellsOf 34 = 2 := by kernel_rfl
  have hc1 : Try.prog.cellsOf 3 = 1 := by kernel_rfl
  have hc2 : Try.prog.cellsOf 32 = 1 := by kernel_rfl
  have w1 := wf_i64 hh.s0 hh.s1
  have w2 := wf_u32 hh.g0 hh.g1
  obtain ⟨m, hm⟩ : ∃ m, Try.prog.types.size = m + 1 := ⟨Try.prog.types.size - 1, by kernel_rfl⟩
  unfold keyOf hV
  rw [Try.underlying34]
  simp only []
  rw [if_pos (by simp [hk, Value.formed, Try.underlying34, hc]), hm]
  unfold Program.keyLits
  rw [Try.underlying34]
  simp [hc, hc1, hc2, Value.cells, Program.keyLits, Try.underlying3, Try.underlying32, w1, w2]
theorem key_inv {v : Value} {l : Lit} (h : keyOf Try.prog 34 v = some l) : ∃ x : Int × Int, HOk x.1 x.2 ∧ v = hV x := by
  have hc : Try.prog.cellsOf 34 = 2 := by kernel_rfl
  have hc1 : Try.prog.cellsOf 3 = 1 := by kernel_rfl
  have hc2 : Try.prog.cellsOf 32 = 1 := by kernel_rfl
  obtain ⟨m, hm⟩ : ∃ m, Try.prog.types.size = m + 1 := ⟨Try.prog.types.size - 1, by kernel_rfl⟩
  unfold keyOf at h
  rw [Try.underlying34] at h
  simp only [] at h
  split at h
  · rename_i hf
    rw [Bool.and_eq_true] at hf
    cases v with
    | agg cs =>
      have h2 : cs.size = 2 := by have := hf.2; simpa [Value.formed, Try.underlying34, hc] using this
      obtain ⟨a, c, rfl⟩ : ∃ a c, cs = #[a, c] := by
        obtain ⟨l⟩ := cs
        match l, h2 with
        | [a, c], _ => exact ⟨a, c, rfl⟩
      rw [hm] at h
      unfold Program.keyLits at h
      rw [Try.underlying34] at h
      cases a with
      | int q n =>
        cases c with
        | int q2 n2 =>
          by_cases e1 : q = .i64 ∧ (Lit.int .i64 n).wf = true
          · by_cases e2 : q2 = .u32 ∧ (Lit.int .u32 n2).wf = true
            · obtain ⟨rfl, w1⟩ := e1
              obtain ⟨rfl, w2⟩ := e2
              rw [Lit.wf_int_iff] at w1 w2
              refine ⟨(n, n2), ⟨by simpa [IntKind.min, IntKind.signed, IntKind.bits] using w1.1, by have := w1.2; simp [IntKind.max, IntKind.signed, IntKind.bits] at this; omega, by simpa [IntKind.min, IntKind.signed, IntKind.bits] using w2.1, by have := w2.2; simp [IntKind.max, IntKind.signed, IntKind.bits] at this; omega⟩, rfl⟩
            · simp [hc, hc1, hc2, Value.cells, Program.keyLits, Try.underlying3, Try.underlying32] at h
              rw [if_neg e2, if_pos e1] at h
              simp at h
          · simp [hc, hc1, hc2, Value.cells, Program.keyLits, Try.underlying3, Try.underlying32] at h
            rw [if_neg e1] at h
            simp at h
        | _ => simp [hc, hc1, hc2, Value.cells, Program.keyLits, Try.underlying3, Try.underlying32] at h
      | _ => simp [hc, hc1, hc2, Value.cells, Program.keyLits, Try.underlying3, Try.underlying32] at h
    | _ => simp [Value.formed, Try.underlying34] at hf
  · cases h
end Go.Proofs.Ytmephmjlajaopaa

namespace Go.Proofs.Ytmephmjlajaopaa
set_option linter.unusedVariables false
set_option linter.unusedSimpArgs false
open Go.ChangeShapes Go.WideShapes Go.ChangeAt Go.RowKit Go.PlainAid
open Go.Maps (Keyed)
abbrev HE := (Int × Int) × Int
def kl (h : Int × Int) : Lit := .string (keyBytes [.int .i64 h.1, .int .u32 h.2])
theorem kl_key (h : Int × Int) : WideAt.IsKeyLit (kl h) := trivial
theorem kl_inj {a b : Int × Int} (ha : HOk a.1 a.2) (hb : HOk b.1 b.2) (h : kl a = kl b) : a = b := by
  have h1 := key_of ha
  have h2 := key_of hb
  have e : hV a = hV b := hashed.inj h1 (by rw [h2]; exact congrArg some h.symm)
  unfold hV at e
  injection e with e
  simp at e
  exact Prod.ext e.1 e.2
theorem hV_inj {a b : Int × Int} (e : hV a = hV b) : a = b := by
  unfold hV at e
  injection e with e
  simp at e
  exact Prod.ext e.1 e.2
/-- What a datum is of a list of entries. -/
structure DatL (D : DataW Unit) (L : List HE) : Prop where
  yes : ∀ h v, (h, v) ∈ L → Maps.has D (kl h) = true ∧ ∀ zd, D.atKey (kl h) zd = .lit (.int .i64 v)
  no : ∀ h : Int × Int, HOk h.1 h.2 → (∀ v, (h, v) ∉ L) → Maps.has D (kl h) = false
structure MapL (w : World) (b : Nat) (L : List HE) : Prop where
  nd : L.Pairwise fun p q => p.1 ≠ q.1
  hk : ∀ p ∈ L, HOk p.1.1 p.1.2
  da : ∃ D, w.ownsMap Try.prog 34 (plainElem (H := Unit) Try.prog 3) b L.length D ∧ Maps.size D = L.length ∧ DatL D L
section
variable {w w' : World} {b : Nat} {L L' : List HE} {T : TypeId}
theorem nd_mem {h : Int × Int} {u v : Int} (hn : L.Pairwise fun p q => p.1 ≠ q.1) (hu : (h, u) ∈ L) (hv : (h, v) ∈ L) : u = v := by
  induction L with
  | nil => exact absurd hu List.not_mem_nil
  | cons p r ih =>
    obtain ⟨h1, h2⟩ := List.pairwise_cons.1 hn
    rcases List.mem_cons.1 hu with e | hu'
    · rcases List.mem_cons.1 hv with e2 | hv'
      · exact congrArg Prod.snd (e.trans e2.symm)
      · exact absurd (by rw [← e]) (h1 _ hv')
    · rcases List.mem_cons.1 hv with e2 | hv'
      · exact absurd (by rw [← e2]) (h1 _ hu')
      · exact ih h2 hu' hv'
theorem DatL.perm {D : DataW Unit} (h : DatL D L) (p : L.Perm L') : DatL D L' := ⟨fun k v hv => h.yes k v (p.mem_iff.2 hv), fun k hk hn => h.no k hk fun v hv => hn v (p.mem_iff.1 hv)⟩
theorem MapL.perm (h : MapL w b L) (p : L.Perm L') : MapL w b L' := by
  obtain ⟨D, o, s, d⟩ := h.da
  exact ⟨(p.pairwise_iff (fun {_ _} hne => Ne.symm hne)).1 h.nd, fun q hq => h.hk q (p.mem_iff.2 hq), D, by rw [← p.length_eq]; exact o, by rw [← p.length_eq]; exact s, d.perm p⟩
theorem MapL.made (w : World) : MapL (w.alloc (.map #[] 0)) w.heap.size [] :=
  ⟨List.Pairwise.nil, fun p hp => absurd hp List.not_mem_nil, _, World.ownsMap_made w _ _ _, rfl, fun h v hv => absurd hv List.not_mem_nil, fun h _ _ => rfl⟩
theorem owns_keep {D : DataW Unit} {n : Nat} (h : w.ownsMap Try.prog 34 (plainElem (H := Unit) Try.prog 3) b n D) (hb : w'.heap[b]? = w.heap[b]?) : w'.ownsMap Try.prog 34 (plainElem (H := Unit) Try.prog 3) b n D := by
  obtain ⟨es, clock, h1, r⟩ := h
  exact ⟨es, clock, hb.trans h1, r⟩
theorem MapL.keep (h : MapL w b L) (hb : w'.heap[b]? = w.heap[b]?) : MapL w' b L := by
  obtain ⟨D, o, s, d⟩ := h.da
  exact ⟨h.nd, h.hk, D, owns_keep o hb, s, d⟩
theorem MapL.lt (h : MapL w b L) : b < w.heap.size := by
  obtain ⟨D, o, s, d⟩ := h.da
  exact o.lt
theorem MapL.on (h : MapL w b L) (hb : Below w.heap.size w w') : MapL w' b L := h.keep (hb.block b h.lt)
/-- As many as there are: no more. -/
theorem owns_size {D : DataW Unit} {n : Nat} (h : w.ownsMap Try.prog 34 (plainElem (H := Unit) Try.prog 3) b n D) : w.ownsMap Try.prog 34 (plainElem (H := Unit) Try.prog 3) b (Maps.size D) D := by
  obtain ⟨es, clock, h1, F, h2, rfl⟩ := h
  refine ⟨es, clock, h1, F, ?_, rfl⟩
  rw [Maps.size_eq, length_sorted]
  simp
theorem int_zero (w : World) : (zeroValue 3).run Try.prog w = .ok (.int .i64 0) w := Try.zeroValue3 w
/-- 'm[h]', of a handle that is there. -/
theorem MapL.look (h : MapL w b L) (ht : Try.prog.underlying T = some (.map 34 3)) {k : Int × Int} {v : Int} (hv : (k, v) ∈ L) : (Instr.lookup T (.map (some b)) (hV k) false).run Try.prog w = .ok (.int .i64 v) w := by
  obtain ⟨D, o, s, d⟩ := h.da
  obtain ⟨c, hr, ha, hw⟩ := o.lookup_int hashed ht Try.underlying3 (int_zero w) (key_of (h.hk _ hv))
  have e := (d.yes k v hv).2 (.lit (.int .i64 0))
  rw [show kl k = .string (keyBytes [.int .i64 k.1, .int .u32 k.2]) from rfl, ha] at e
  injection e with e
  injection e with _ e
  rw [hr, e]
/-- '_, ok := m[h]'. -/
theorem MapL.look2 (h : MapL w b L) (ht : Try.prog.underlying T = some (.map 34 3)) {k : Int × Int} {v : Int} (hv : (k, v) ∈ L) : (Instr.lookup T (.map (some b)) (hV k) true).run Try.prog w = .ok (.tuple #[.int .i64 v, .bool true]) w := by
  obtain ⟨D, o, s, d⟩ := h.da
  obtain ⟨u, ps, hr, hu⟩ := o.look_ok hashed ht (int_zero w) (plainElem_int Try.underlying3 (by decide)) (key_of (h.hk _ hv))
  have e := d.yes k v hv
  obtain ⟨c, rfl, hc, _⟩ := plainElem_int_inv Try.underlying3 hu
  have e1 := e.2 (.lit (.int .i64 0))
  have e2 := congrArg Prod.fst hc
  simp only [] at e2
  rw [show kl k = .string (keyBytes [.int .i64 k.1, .int .u32 k.2]) from rfl] at e1 e
  rw [e1] at e2
  injection e2 with e2
  injection e2 with _ e2
  rw [hr, e.1, e2]
theorem MapL.miss (h : MapL w b L) (ht : Try.prog.underlying T = some (.map 34 3)) {k : Int × Int} (hk : HOk k.1 k.2) (hn : ∀ v, (k, v) ∉ L) : ∃ u, (Instr.lookup T (.map (some b)) (hV k) true).run Try.prog w = .ok (.tuple #[.int .i64 u, .bool false]) w := by
  obtain ⟨D, o, s, d⟩ := h.da
  obtain ⟨u, ps, hr, hu⟩ := o.look_ok hashed ht (int_zero w) (plainElem_int Try.underlying3 (by decide)) (key_of hk)
  obtain ⟨c, rfl, hc, _⟩ := plainElem_int_inv Try.underlying3 hu
  have e := d.no k hk hn
  rw [show kl k = .string (keyBytes [.int .i64 k.1, .int .u32 k.2]) from rfl] at e
  exact ⟨c, by rw [hr, e]⟩
/-- 'm[h] = v', of a handle that is not there. -/
theorem MapL.put (h : MapL w b L) (ht : Try.prog.underlying T = some (.map 34 3)) {k : Int × Int} (hk : HOk k.1 k.2) (hn : ∀ v, (k, v) ∉ L) {v : Int} (hw : (Lit.int .i64 v).wf = true) (hl : L.length < 1000000) :
    ∃ w', (Instr.mapUpdate T (.map (some b)) (hV k) (.int .i64 v)).run Try.prog w = .ok () w' ∧ MapL w' b ((k, v) :: L) ∧ w.mapTurned w' b := by
  obtain ⟨D, o, s, d⟩ := h.da
  obtain ⟨w', hr, o2, t2⟩ := o.store hashed ht (Nat.lt_of_lt_of_le hl (by decide)) (key_of hk) (plainElem_int (H := Unit) Try.underlying3 hw)
  have ti := o.tidy hashed
  have hs : Maps.size (D.put (kl k) (.lit (.int .i64 v))) = ((k, v) :: L).length := by rw [Maps.size_put ti, d.no k hk hn, s, List.length_cons]; rfl
  refine ⟨w', hr, ⟨List.pairwise_cons.2 ⟨fun q hq e => hn q.2 (by rw [show ((k, q.2) : HE) = q from Prod.ext e rfl]; exact hq), h.nd⟩, fun q hq => ?_, _, ?_, hs, fun j u hu => ?_, fun j hj hno => ?_⟩, t2⟩
  · rcases List.mem_cons.1 hq with rfl | hq
    · exact hk
    · exact h.hk q hq
  · have := owns_size o2
    rw [show Maps.size (D.put (.string (keyBytes [.int .i64 k.1, .int .u32 k.2])) (.lit (.int .i64 v))) = ((k, v) :: L).length from hs] at this
    exact this
  · by_cases e : j = k
    · subst e
      rcases List.mem_cons.1 hu with hu | hu
      · injection hu with _ hu
        subst hu
        exact ⟨Maps.has_put_same ti.isMap (kl_key j) _, fun zd => Maps.atKey_put_same ti.isMap (kl_key j) _ zd⟩
      · exact absurd hu (hn u)
    · rcases List.mem_cons.1 hu with hu | hu
      · injection hu with hu _; exact absurd hu e
      · have hj : HOk j.1 j.2 := h.hk _ hu
        have ne : kl j ≠ kl k := fun e2 => e (kl_inj hj hk e2)
        exact ⟨by rw [Maps.has_put_other ne]; exact (d.yes j u hu).1, fun zd => by rw [Maps.atKey_put_other ne]; exact (d.yes j u hu).2 zd⟩
  · have e : j ≠ k := fun e => hno v (by rw [e]; exact List.mem_cons_self ..)
    have ne : kl j ≠ kl k := fun e2 => e (kl_inj hj hk e2)
    rw [Maps.has_put_other ne]
    exact d.no j hj fun u hu => hno u (List.mem_cons_of_mem _ hu)
/-- The others. -/
def but (L : List HE) (k : Int × Int) : List HE := L.filter fun p => decide (p.1 ≠ k)
theorem but_perm (hn : L.Pairwise fun p q => p.1 ≠ q.1) {k : Int × Int} {v : Int} (hv : (k, v) ∈ L) : L.Perm ((k, v) :: but L k) := by
  induction L with
  | nil => exact absurd hv List.not_mem_nil
  | cons p r ih =>
    obtain ⟨h1, h2⟩ := List.pairwise_cons.1 hn
    rcases List.mem_cons.1 hv with e | hv'
    · subst e
      unfold but
      rw [List.filter_cons, if_neg (by simp), List.filter_eq_self.2 (fun q hq => by have := h1 q hq; simpa using Ne.symm this)]
    · have hne : p.1 ≠ k := h1 _ hv'
      unfold but
      rw [List.filter_cons, if_pos (by simpa using hne)]
      exact (List.Perm.cons p (ih h2 hv')).trans (List.Perm.swap _ _ _)
theorem but_none {k : Int × Int} (hn : ∀ v, (k, v) ∉ L) : but L k = L := List.filter_eq_self.2 fun q hq => by
  have : q.1 ≠ k := fun e => hn q.2 (by rw [show ((k, q.2) : HE) = q from Prod.ext e.symm rfl]; exact hq)
  simpa using this
/-- 'delete(m, h)', of a handle that is there. -/
theorem MapL.del (h : MapL w b L) (ht : Try.prog.underlying T = some (.map 34 3)) {k : Int × Int} {v : Int} (hv : (k, v) ∈ L) (ty : TypeId) :
    ∃ w', (Builtin.delete_ #[T, 34] ty #[.map (some b), hV k]).run Try.prog w = .ok (.tuple #[]) w' ∧ MapL w' b (but L k) ∧ w.mapTurned w' b := by
  obtain ⟨D, o, s, d⟩ := h.da
  have hk := h.hk _ hv
  obtain ⟨w', hr, o2, t2⟩ := o.drop hashed ht (key_of hk) ty
  have ti := o.tidy hashed
  have hl := (but_perm h.nd hv).length_eq
  rw [List.length_cons] at hl
  have hs : Maps.size (D.del (kl k)) = (but L k).length := by
    have := Maps.size_del (k := kl k) ti
    rw [(d.yes k v hv).1, s] at this
    simp at this
    omega
  refine ⟨w', hr, ⟨h.nd.sublist List.filter_sublist, fun q hq => h.hk q (List.mem_filter.1 hq).1, _, ?_, hs, fun j u hu => ?_, fun j hj hno => ?_⟩, t2⟩
  · have := owns_size o2
    rw [show Maps.size (D.del (.string (keyBytes [.int .i64 k.1, .int .u32 k.2]))) = (but L k).length from hs] at this
    exact this
  · obtain ⟨hu1, hu2⟩ := List.mem_filter.1 hu
    have e : j ≠ k := by simpa using hu2
    have ne : kl j ≠ kl k := fun e2 => e (kl_inj (h.hk _ hu1) hk e2)
    exact ⟨by rw [Maps.has_del_other ne]; exact (d.yes j u hu1).1, fun zd => by rw [Maps.atKey_del_other ne]; exact (d.yes j u hu1).2 zd⟩
  · by_cases e : j = k
    · subst e; exact Maps.has_del_same
    · have ne : kl j ≠ kl k := fun e2 => e (kl_inj hj hk e2)
      rw [Maps.has_del_other ne]
      exact d.no j hj fun u hu => hno u (List.mem_filter.2 ⟨hu, by simpa using e⟩)
/-- 'len(m)'. -/
theorem MapL.len (h : MapL w b L) (ht : Try.prog.underlying T = some (.map 34 3)) (ty : TypeId) : (Builtin.len_ #[T] ty #[.map (some b)]).run Try.prog w = .ok (.int .i64 (L.length : Int)) w := by
  obtain ⟨D, o, s, d⟩ := h.da
  rw [o.len ht ty, s]
/-- A map that is gone over: M is still to come. -/
structure IterL (w : World) (b r : Nat) (L M : List HE) : Prop where
  nd : L.Pairwise fun p q => p.1 ≠ q.1
  hk : ∀ p ∈ L, HOk p.1.1 p.1.2
  da : ∃ D left cnt, w.ranges Try.prog 34 (plainElem (H := Unit) Try.prog 3) b r L.length D left cnt ∧ Maps.size D = L.length ∧ DatL D L ∧ M = L.filter fun p => left (kl p.1)
theorem IterL.map {r : Nat} {M : List HE} (h : IterL w b r L M) : MapL w b L := by
  obtain ⟨D, left, cnt, o, s, d, _⟩ := h.da
  exact ⟨h.nd, h.hk, D, o.owns, s, d⟩
theorem IterL.keep {r : Nat} {M : List HE} (h : IterL w b r L M) (hb : w'.heap[b]? = w.heap[b]?) (hr : w'.heap[r]? = w.heap[r]?) : IterL w' b r L M := by
  obtain ⟨D, left, cnt, ⟨es, clock, since, seen, c0, h1, F, h2, h3, h4, rest⟩, s, d, e⟩ := h.da
  exact ⟨h.nd, h.hk, D, left, cnt, ⟨es, clock, since, seen, c0, hb.trans h1, F, h2, h3, hr.trans h4, rest⟩, s, d, e⟩
theorem IterL.lt {r : Nat} {M : List HE} (h : IterL w b r L M) : b < w.heap.size ∧ r < w.heap.size := by
  obtain ⟨D, left, cnt, o, _⟩ := h.da
  exact ⟨o.owns.lt, o.lt⟩
theorem IterL.on {r : Nat} {M : List HE} (h : IterL w b r L M) (hb : Below w.heap.size w w') : IterL w' b r L M := h.keep (hb.block b h.lt.1) (hb.block r h.lt.2)
theorem MapL.range (h : MapL w b L) (ht : Try.prog.underlying T = some (.map 34 3)) :
    ∃ w', (Instr.range T (.map (some b))).run Try.prog w = .ok (.pointer (some ⟨w.heap.size, 0, none⟩)) w' ∧ IterL w' b w.heap.size L L ∧ w.grownBy w' none ∧ w'.heap.size = w.heap.size + 1 := by
  obtain ⟨D, o, s, d⟩ := h.da
  obtain ⟨w', hr, hrg, hg, hs⟩ := o.range hashed ht
  exact ⟨w', hr, ⟨h.nd, h.hk, D, _, _, hrg, s, d, (List.filter_eq_self.2 fun p hp => (d.yes p.1 p.2 hp).1).symm⟩, hg, hs⟩
theorem IterL.next {r : Nat} {M : List HE} (h : IterL w b r L M) (ty : TypeId) :
    (M = [] ∧ (Instr.next (.pointer (some ⟨r, 0, none⟩)) false ty).run Try.prog w = .ok (.tuple #[.bool false]) w) ∨
    ∃ k v M' w', M.Perm ((k, v) :: M') ∧ (k, v) ∈ L ∧ (Instr.next (.pointer (some ⟨r, 0, none⟩)) false ty).run Try.prog w = .ok (.tuple #[.bool true, hV k, .int .i64 v]) w' ∧ IterL w' b r L M' ∧ w.grownBy w' (some r) ∧ w'.heap.size = w.heap.size ∧
      (Instr.entry (.pointer (some ⟨r, 0, none⟩))).run Try.prog w' = .ok (.tuple #[hV k, .int .i64 v]) w' := by
  obtain ⟨D, left, cnt, o, s, d, rfl⟩ := h.da
  rcases o.next hashed ty with ⟨h0, hl, hr⟩ | ⟨key, u, k1, y, w', cnt', hkey, hlk, hu, hat, hr, hrg, hlt, hg, hs, hen⟩
  · exact .inl ⟨List.filter_eq_nil_iff.2 fun p _ => by simp [hl], hr⟩
  · obtain ⟨k, hk, rfl⟩ := key_inv hkey
    have ek : k1 = kl k := by rw [key_of hk] at hkey; exact (Option.some.inj hkey).symm
    subst ek
    obtain ⟨c, rfl, hc, _⟩ := plainElem_int_inv Try.underlying3 hu
    have hh := Maps.has_true_of_atKey hat
    have hm : (k, c) ∈ L := by
      refine Classical.byContradiction fun hno => ?_
      by_cases hex : ∃ v, (k, v) ∈ L
      · obtain ⟨v, hv⟩ := hex
        have e1 := (d.yes k v hv).2 (.lit (.int .i64 0))
        rw [hat] at e1
        have e2 := congrArg Prod.fst hc
        simp only [] at e2
        rw [e2] at e1
        injection e1 with e1
        injection e1 with _ e1
        exact hno (by rw [e1]; exact hv)
      · have := d.no k hk fun v hv => hex ⟨v, hv⟩
        rw [hh] at this
        cases this
    have hM : (k, c) ∈ L.filter fun p => left (kl p.1) := List.mem_filter.2 ⟨hm, hlk⟩
    refine .inr ⟨k, c, but (L.filter fun p => left (kl p.1)) k, w', but_perm (h.nd.sublist List.filter_sublist) hM, hm, hr, ⟨h.nd, h.hk, D, _, _, hrg, s, d, ?_⟩, hg, hs, hen⟩
    unfold but
    rw [List.filter_filter]
    refine List.filter_congr fun p hp => ?_
    by_cases e : p.1 = k
    · rw [e, WideAt.sameKey_self (kl_key k)]; simp
    · rw [Maps.sameKey_ne (fun e2 => e (kl_inj (h.hk p hp) hk e2))]; simp [e]
end
end Go.Proofs.Ytmephmjlajaopaa

namespace Go.Proofs.Ytmephmjlajaopaa
set_option linter.unusedVariables false
set_option maxRecDepth 100000
set_option linter.unusedSimpArgs false
open Go.ChangeShapes Go.WideShapes Go.ChangeAt Go.RowKit Go.PlainAid
attribute [local go_sem ↓] Go.wp_at_zero Go.wp_at_succ
/-- Nothing that was there has turned; draws have been drawn. -/
structure Fw (w w' : World) : Prop where
  b : Below w.heap.size w w'
  d : w.drawn ≤ w'.drawn
theorem Fw.refl (w : World) : Fw w w := ⟨Below.refl _ _, Nat.le_refl _⟩
theorem Fw.trans {a b c : World} (h : Fw a b) (k : Fw b c) : Fw a c := ⟨h.b.trans (k.b.mono h.b.size), Nat.le_trans h.d k.d⟩
theorem Fw.alloc {a w : World} (h : Fw a w) (o : Obj) : Fw a (w.alloc o) := h.trans ⟨(Below.refl _ _).alloc (Nat.le_refl _) o, Nat.le_refl _⟩
theorem Fw.drew {a w : World} (h : Fw a w) : Fw a w.drew := h.trans ⟨(Below.refl _ _).drew, Nat.le_succ _⟩
/-- Some draws, some blocks: no more. -/
theorem Fw.grow {w w' : World} (h : Fw w w') : ∃ q os, w' = Sort.grow (w.drewN q) os := by
  refine ⟨w'.drawn - w.drawn, w'.heap.extract w.heap.size w'.heap.size, ?_⟩
  have hh : w'.heap = w.heap ++ w'.heap.extract w.heap.size w'.heap.size := by
    apply Array.ext_getElem?
    intro i
    rw [Array.getElem?_append]
    by_cases hi : i < w.heap.size
    · rw [if_pos hi]; exact h.b.block i hi
    · rw [if_neg hi, Array.getElem?_extract]
      by_cases h2 : i < w'.heap.size
      · rw [if_pos (by omega)]; congr 1; omega
      · rw [if_neg (by omega)]; exact Array.getElem?_eq_none (by omega)
  have hd : w'.drawn = w.drawn + (w'.drawn - w.drawn) := by have := h.d; omega
  have ho := h.b.os
  have ht := h.b.tape
  have hu := h.b.output
  cases w'
  simp only [] at hh hd ho ht hu ⊢
  unfold Sort.grow World.drewN
  simp only [World.mk.injEq]
  exact ⟨hh, ht, hd, ho, hu⟩
/-- In which place one stands. -/
def Wh.atN (x : Wh) (n : Nat) (t : Ti) : Nat := Nat.max t.d x.last % n
def Ti.key (t : Ti) : Int × Int := (t.s, t.g)
/-- Where each stands; who stands in a place, and when they are due. -/
def Wh.stL (x : Wh) (n : Nat) : List HE := x.l.map fun t => (t.key, ((x.atN n t : Nat) : Int))
def Wh.plL (x : Wh) (n i : Nat) : List HE := (x.l.filter fun t => decide (x.atN n t = i)).map fun t => (t.key, (t.d : Int))
/-- The code's wheel: its cells, its places, its maps. -/
structure WhI (w : World) (p : Nat) (x : Wh) (n pb cap sb : Nat) (mb : Nat → Nat) : Prop where
  ok : x.Ok
  lp : p < w.heap.size
  c0 : w.cell? ⟨p, 0, none⟩ = some (.int .i64 (x.last : Int))
  f0 : w.frozen? ⟨p, 0, none⟩ = false
  c1 : w.cell? ⟨p, 1, none⟩ = some (.slice (some ⟨pb, 0, none⟩) n cap)
  c2 : w.cell? ⟨p, 2, none⟩ = some (.map (some sb))
  n1 : 1 ≤ n
  n64 : n ≤ 64
  lb : pb < w.heap.size
  pl : ∀ i, i < n → w.cell? ⟨pb, i, none⟩ = some (.map (some (mb i)))
  st : MapL w sb (x.stL n)
  pm : ∀ i, i < n → MapL w (mb i) (x.plL n i)
  ne : p ≠ pb
  inj : ∀ i j, i < n → j < n → mb i = mb j → i = j
  sne : ∀ i, i < n → mb i ≠ sb
/-- Its blocks. -/
def whS (p n pb sb : Nat) (mb : Nat → Nat) (k : Nat) : Prop := k = p ∨ k = pb ∨ k = sb ∨ ∃ i, i < n ∧ k = mb i
section
variable {w w' : World} {p : Nat} {x : Wh} {n pb cap sb : Nat} {mb : Nat → Nat}
theorem WhI.keep (h : WhI w p x n pb cap sb mb) (hs : w.heap.size ≤ w'.heap.size) (hb : ∀ k, whS p n pb sb mb k → w'.heap[k]? = w.heap[k]?) : WhI w' p x n pb cap sb mb :=
  ⟨h.ok, Nat.lt_of_lt_of_le h.lp hs, (World.cell?_of_block (w := w) (a := ⟨p, 0, none⟩) (hb p (.inl rfl))).trans h.c0, (World.frozen?_of_block (w := w) (a := ⟨p, 0, none⟩) (hb p (.inl rfl))).trans h.f0, (World.cell?_of_block (w := w) (a := ⟨p, 1, none⟩) (hb p (.inl rfl))).trans h.c1, (World.cell?_of_block (w := w) (a := ⟨p, 2, none⟩) (hb p (.inl rfl))).trans h.c2, h.n1, h.n64,
   Nat.lt_of_lt_of_le h.lb hs, fun i hi => (World.cell?_of_block (w := w) (a := ⟨pb, i, none⟩) (hb pb (.inr (.inl rfl)))).trans (h.pl i hi), h.st.keep (hb sb (.inr (.inr (.inl rfl)))), fun i hi => (h.pm i hi).keep (hb _ (.inr (.inr (.inr ⟨i, hi, rfl⟩)))), h.ne, h.inj, h.sne⟩
theorem WhI.lt (h : WhI w p x n pb cap sb mb) : ∀ k, whS p n pb sb mb k → k < w.heap.size := fun k hk => by
  rcases hk with rfl | rfl | rfl | ⟨i, hi, rfl⟩
  · exact h.lp
  · exact h.lb
  · exact h.st.lt
  · exact (h.pm i hi).lt
theorem WhI.on (h : WhI w p x n pb cap sb mb) (hb : Below w.heap.size w w') : WhI w' p x n pb cap sb mb := h.keep hb.size fun k hk => hb.block k (h.lt k hk)
theorem WhI.key_ok (h : WhI w p x n pb cap sb mb) {t : Ti} (ht : t ∈ x.l) : HOk t.s t.g := h.st.hk _ (List.mem_map.2 ⟨t, ht, rfl⟩)
/-- Those that it has. -/
theorem has_mem {s g : Int} (hh : x.has s g = true) : ∃ t ∈ x.l, t.s = s ∧ t.g = g := by
  obtain ⟨t, ht, hi⟩ := List.any_eq_true.1 hh
  exact ⟨t, ht, (t.is_iff s g).1 hi⟩
theorem mem_has {t : Ti} (ht : t ∈ x.l) : x.has t.s t.g = true := List.any_eq_true.2 ⟨t, ht, (t.is_iff _ _).2 ⟨rfl, rfl⟩⟩
theorem st_mem {t : Ti} (ht : t ∈ x.l) : (t.key, ((x.atN n t : Nat) : Int)) ∈ x.stL n := List.mem_map.2 ⟨t, ht, rfl⟩
theorem pl_mem {t : Ti} (ht : t ∈ x.l) : (t.key, (t.d : Int)) ∈ x.plL n (x.atN n t) := List.mem_map.2 ⟨t, List.mem_filter.2 ⟨ht, by simp⟩, rfl⟩
theorem st_none {s g : Int} (hh : x.has s g = false) : ∀ v, ((s, g), v) ∉ x.stL n := fun v hv => by
  obtain ⟨t, ht, e⟩ := List.mem_map.1 hv
  have e1 := congrArg Prod.fst e
  exact Wh.not_has hh t ht ⟨congrArg Prod.fst e1, congrArg Prod.snd e1⟩
theorem pl_none {s g : Int} {i : Nat} (hh : x.has s g = false) : ∀ v, ((s, g), v) ∉ x.plL n i := fun v hv => by
  obtain ⟨t, ht, e⟩ := List.mem_map.1 hv
  have e1 := congrArg Prod.fst e
  exact Wh.not_has hh t (List.mem_filter.1 ht).1 ⟨congrArg Prod.fst e1, congrArg Prod.snd e1⟩
theorem due_of (ok : x.Ok) {t : Ti} (ht : t ∈ x.l) : x.dueN t.s t.g = t.d := by
  unfold Wh.dueN
  have key : ∀ l : List Ti, l.Pairwise (fun a b => ¬ (a.s = b.s ∧ a.g = b.g)) → t ∈ l → l.find? (fun u => u.is t.s t.g) = some t := fun l => by
    induction l with
    | nil => intro _ h; exact absurd h List.not_mem_nil
    | cons a r ih =>
      intro hp hm
      obtain ⟨h1, h2⟩ := List.pairwise_cons.1 hp
      by_cases e : a.is t.s t.g = true
      · simp only [List.find?_cons, e]
        rcases List.mem_cons.1 hm with rfl | hm
        · rfl
        · exact absurd ((a.is_iff _ _).1 e) (h1 t hm)
      · simp only [List.find?_cons, Bool.eq_false_iff.2 e]
        rcases List.mem_cons.1 hm with rfl | hm
        · exact absurd ((t.is_iff _ _).2 ⟨rfl, rfl⟩) e
        · exact ih h2 hm
  rw [key x.l ok.nd ht]
theorem due_none {s g : Int} (hh : x.has s g = false) : x.dueN s g = 0 := by
  unfold Wh.dueN
  rw [List.find?_eq_none.2 fun t ht => by simpa using List.any_eq_false.1 hh t ht]
theorem atN_lt (h : 1 ≤ n) (t : Ti) : x.atN n t < n := Nat.mod_lt _ h
theorem small_beq {n : Nat} (h : 1 ≤ n) : ((n : Int) == 0) = false ∧ (n == 0) = false ∧ ¬ (n : Int) = 0 ∧ ¬ n = 0 := ⟨by rw [beq_eq_false_iff_ne]; omega, by rw [beq_eq_false_iff_ne]; omega, by omega, by omega⟩
/-- (*Wheel).none. -/
theorem wz_none_ (h : WhI w p x n pb cap sb mb) : Calls Try.prog 27 #[.pointer (some ⟨p, 0, none⟩)] w fun e w' => e = .returned (.bool false) ∧ w' = w := by
  obtain ⟨t1, t2, t3, t4⟩ := small_beq h.n1
  have c1 := h.c1
  clear h
  go_enter Try.func27, Try.ntmps27
  go_wp2
  go_ret
  exact ⟨rfl, rfl⟩
set_option maxHeartbeats 1000000 in
/-- (*Wheel).has. -/
theorem wz_has_ (h : WhI w p x n pb cap sb mb) {s g : Int} (hk : HOk s g) : Calls Try.prog 25 #[.pointer (some ⟨p, 0, none⟩), .agg #[.int .i64 s, .int .u32 g]] w fun e w' => e = .returned (.bool (x.has s g)) ∧ Fw w w' := by
  have H := Lib.hid h
  clear h
  go_enter Try.func25, Try.ntmps25
  go_upto_region 1 with fail
  have f1 : Fw w (w.alloc (.cells #[.int .i64 s, .int .u32 g] 34)) := (Fw.refl w).alloc _
  have b0 := World.cell?_alloc_mark w #[.int .i64 s, .int .u32 g] 34 (0, 0) 0
  have b1 := World.cell?_alloc_mark w #[.int .i64 s, .int .u32 g] 34 (0, 0) 1
  have H1 := Lib.hid (H.out.on f1.b)
  have F1 := Lib.hid f1
  clear f1
  generalize w.alloc (.cells #[.int .i64 s, .int .u32 g] 34) = w1 at b0 b1 H1 F1 ⊢
  generalize w.heap.size = c at b0 b1 ⊢
  have kn := wz_none_ H1.out
  have c2 := H1.out.c2
  have hd : MapL w1.drew sb (x.stL n) := H1.out.st.on (Below.refl _ _).drew
  have HR : ∃ u, (Instr.lookup 53 (.map (some sb)) (.agg #[.int .i64 s, .int .u32 g]) true).run Try.prog w1.drew = .ok (.tuple #[.int .i64 u, .bool (x.has s g)]) w1.drew := by
    cases hh : x.has s g with
    | true =>
      obtain ⟨t, ht, rfl, rfl⟩ := has_mem hh
      exact ⟨_, hd.look2 Try.underlying53 (st_mem ht)⟩
    | false => exact hd.miss Try.underlying53 (k := (s, g)) hk (st_none hh)
  obtain ⟨u, hl⟩ := HR
  clear hd
  go_upto_region 3 with (go_at_call 27; refine kn.mono ?_; rintro e w2 ⟨rfl, rfl⟩)
  go_region
  go_wp2
  go_ret
  exact ⟨rfl, F1.out.drew⟩
end
end Go.Proofs.Ytmephmjlajaopaa

namespace Go.Proofs.Ytmephmjlajaopaa
set_option linter.unusedVariables false
set_option linter.unusedSimpArgs false
open Go.ChangeShapes Go.WideShapes Go.ChangeAt Go.RowKit Go.PlainAid
attribute [local go_sem ↓] Go.wp_at_zero Go.wp_at_succ
def cmpV (x y : Int) : Int := if x < y then -1 else if y < x then 1 else 0
def orV (a b c : Int) : Int := if a = 0 then (if b = 0 then c else b) else a
theorem isNaNI_ (x : Int) (w : World) : Calls Try.prog 49 #[.int .i64 x] w fun e w' => e = .returned (.bool false) ∧ w' = w := by
  have t1 : (x != x) = false := by simp
  go_enter Try.func49, Try.ntmps49
  go_wp2
  go_ret
  exact ⟨rfl, rfl⟩
theorem compareI_ (x y : Int) (w : World) : Calls Try.prog 37 #[.int .i64 x, .int .i64 y] w fun e w' => e = .returned (.int .i64 (cmpV x y)) ∧ w' = w := by
  have k1 := isNaNI_ x w
  have k2 := isNaNI_ y w
  unfold cmpV
  by_cases h : x < y
  · have t1 : decide (x < y) = true := decide_eq_true h
    rw [if_pos h]
    go_enter Try.func37, Try.ntmps37
    go_upto_region 2 with (go_at_call 49; refine k1.mono ?_; rintro e w1 ⟨rfl, rfl⟩)
    go_wp2_with (go_at_call 49; refine k2.mono ?_; rintro e w1 ⟨rfl, rfl⟩)
    go_ret
    exact ⟨rfl, rfl⟩
  · have t1 : decide (x < y) = false := decide_eq_false h
    rw [if_neg h]
    by_cases h2 : y < x
    · have t2 : decide (y < x) = true := decide_eq_true h2
      rw [if_pos h2]
      go_enter Try.func37, Try.ntmps37
      go_upto_region 2 with (go_at_call 49; refine k1.mono ?_; rintro e w1 ⟨rfl, rfl⟩)
      go_wp2_with (go_at_call 49; refine k2.mono ?_; rintro e w1 ⟨rfl, rfl⟩)
      go_ret
      exact ⟨rfl, rfl⟩
    · have t2 : decide (y < x) = false := decide_eq_false h2
      rw [if_neg h2]
      go_enter Try.func37, Try.ntmps37
      go_upto_region 2 with (go_at_call 49; refine k1.mono ?_; rintro e w1 ⟨rfl, rfl⟩)
      go_wp2_with (go_at_call 49; refine k2.mono ?_; rintro e w1 ⟨rfl, rfl⟩)
      go_ret
      exact ⟨rfl, rfl⟩
theorem isNaNU_ (x : Int) (w : World) : Calls Try.prog 50 #[.int .u32 x] w fun e w' => e = .returned (.bool false) ∧ w' = w := by
  have t1 : (x != x) = false := by simp
  go_enter Try.func50, Try.ntmps50
  go_wp2
  go_ret
  exact ⟨rfl, rfl⟩
theorem compareU_ (x y : Int) (w : World) : Calls Try.prog 38 #[.int .u32 x, .int .u32 y] w fun e w' => e = .returned (.int .i64 (cmpV x y)) ∧ w' = w := by
  have k1 := isNaNU_ x w
  have k2 := isNaNU_ y w
  unfold cmpV
  by_cases h : x < y
  · have t1 : decide (x < y) = true := decide_eq_true h
    rw [if_pos h]
    go_enter Try.func38, Try.ntmps38
    go_upto_region 2 with (go_at_call 50; refine k1.mono ?_; rintro e w1 ⟨rfl, rfl⟩)
    go_wp2_with (go_at_call 50; refine k2.mono ?_; rintro e w1 ⟨rfl, rfl⟩)
    go_ret
    exact ⟨rfl, rfl⟩
  · have t1 : decide (x < y) = false := decide_eq_false h
    rw [if_neg h]
    by_cases h2 : y < x
    · have t2 : decide (y < x) = true := decide_eq_true h2
      rw [if_pos h2]
      go_enter Try.func38, Try.ntmps38
      go_upto_region 2 with (go_at_call 50; refine k1.mono ?_; rintro e w1 ⟨rfl, rfl⟩)
      go_wp2_with (go_at_call 50; refine k2.mono ?_; rintro e w1 ⟨rfl, rfl⟩)
      go_ret
      exact ⟨rfl, rfl⟩
    · have t2 : decide (y < x) = false := decide_eq_false h2
      rw [if_neg h2]
      go_enter Try.func38, Try.ntmps38
      go_upto_region 2 with (go_at_call 50; refine k1.mono ?_; rintro e w1 ⟨rfl, rfl⟩)
      go_wp2_with (go_at_call 50; refine k2.mono ?_; rintro e w1 ⟨rfl, rfl⟩)
      go_ret
      exact ⟨rfl, rfl⟩
set_option maxHeartbeats 1000000 in
theorem or3_ (g cap : Nat) (a b c : Int) (w : World) (c0 : w.cell? ⟨g, 0, none⟩ = some (.int .i64 a)) (c1 : w.cell? ⟨g, 1, none⟩ = some (.int .i64 b)) (c2 : w.cell? ⟨g, 2, none⟩ = some (.int .i64 c)) : Calls Try.prog 36 #[.slice (some ⟨g, 0, none⟩) 3 cap] w fun e w' => e = .returned (.int .i64 (orV a b c)) ∧ w' = w := by
  unfold orV
  by_cases ha : a = 0
  · subst ha
    rw [if_pos rfl]
    by_cases hb : b = 0
    · subst hb
      rw [if_pos rfl]
      by_cases hc : c = 0
      · subst hc
        go_enter Try.func36, Try.ntmps36
        go_wp2
        refine wp_loop_rounds 4 ?_
        rw [rounds_succ]
        go_wp2
        rw [rounds_succ]
        go_wp2
        rw [rounds_succ]
        go_wp2
        rw [rounds_succ]
        go_wp2
        go_ret
        exact ⟨rfl, rfl⟩
      · have t1 : (c != 0) = true := by simpa using hc
        go_enter Try.func36, Try.ntmps36
        go_wp2
        refine wp_loop_rounds 4 ?_
        rw [rounds_succ]
        go_wp2
        rw [rounds_succ]
        go_wp2
        rw [rounds_succ]
        go_wp2
        go_ret
        exact ⟨rfl, rfl⟩
    · have t1 : (b != 0) = true := by simpa using hb
      rw [if_neg hb]
      go_enter Try.func36, Try.ntmps36
      go_wp2
      refine wp_loop_rounds 4 ?_
      rw [rounds_succ]
      go_wp2
      rw [rounds_succ]
      go_wp2
      go_ret
      exact ⟨rfl, rfl⟩
  · have t1 : (a != 0) = true := by simpa using ha
    rw [if_neg ha]
    go_enter Try.func36, Try.ntmps36
    go_wp2
    refine wp_loop_rounds 4 ?_
    rw [rounds_succ]
    go_wp2
    go_ret
    exact ⟨rfl, rfl⟩
end Go.Proofs.Ytmephmjlajaopaa

namespace Go.Proofs.Ytmephmjlajaopaa
set_option linter.unusedVariables false
set_option maxRecDepth 100000
set_option linter.unusedSimpArgs false
open Go.ChangeShapes Go.WideShapes Go.ChangeAt Go.RowKit Go.PlainAid
attribute [local go_sem ↓] Go.wp_at_zero Go.wp_at_succ
section
variable {w w' : World} {p : Nat} {x : Wh} {n pb cap sb : Nat} {mb : Nat → Nat}
theorem place_facts {i n : Nat} (h : i < n) (h64 : n ≤ 64) : (i : Int).toNat = i ∧ (0 : Int) ≤ (i : Int) ∧ (i : Int) < (n : Int) ∧ IntKind.i64.wrap (i : Int) = (i : Int) := ⟨by omega, by omega, by omega, by rw [IntKind.wrap_i64]; omega⟩
/-- (*Wheel).at. -/
theorem wz_at_ (h : WhI w p x n pb cap sb mb) (t : Nat) : Calls Try.prog 32 #[.pointer (some ⟨p, 0, none⟩), .int .i64 (t : Int)] w fun e w' => e = .returned (.int .i64 ((t % n : Nat) : Int)) ∧ w' = w := by
  obtain ⟨t1, t2, t3, t4⟩ := small_beq h.n1
  have hm : t % n < n := Nat.mod_lt _ h.n1
  have em : (t : Int).tmod (n : Int) = ((t % n : Nat) : Int) := rfl
  have n64 := h.n64
  have c1 := h.c1
  obtain ⟨m, hmm⟩ : ∃ m, m = t % n := ⟨_, rfl⟩
  rw [← hmm] at em hm ⊢
  obtain ⟨i1, i2, i3, i4⟩ := place_facts hm n64
  clear h hmm
  go_enter Try.func32, Try.ntmps32
  go_wp2
  go_ret
  exact ⟨rfl, rfl⟩
set_option maxHeartbeats 1000000 in
/-- (*Wheel).Due. -/
theorem wz_due_ (h : WhI w p x n pb cap sb mb) {s g : Int} (hk : HOk s g) : Calls Try.prog 19 #[.pointer (some ⟨p, 0, none⟩), .agg #[.int .i64 s, .int .u32 g]] w fun e w' => e = .returned (.tuple #[.int .i64 (x.dueN s g : Int), .bool (x.has s g)]) ∧ Fw w w' := by
  have H := Lib.hid h
  clear h
  go_enter Try.func19, Try.ntmps19
  go_upto_region 1 with fail
  have f1 : Fw w (w.alloc (.cells #[.int .i64 s, .int .u32 g] 34)) := (Fw.refl w).alloc _
  have b0 := World.cell?_alloc_mark w #[.int .i64 s, .int .u32 g] 34 (0, 0) 0
  have b1 := World.cell?_alloc_mark w #[.int .i64 s, .int .u32 g] 34 (0, 0) 1
  have lc : w.heap.size < (w.alloc (.cells #[.int .i64 s, .int .u32 g] 34)).heap.size := by simp
  have H1 := Lib.hid (H.out.on f1.b)
  have F1 := Lib.hid f1
  clear f1
  generalize w.alloc (.cells #[.int .i64 s, .int .u32 g] 34) = w1 at b0 b1 lc H1 F1 ⊢
  generalize w.heap.size = c at b0 b1 lc ⊢
  have kh := wz_has_ H1.out hk
  have LC := Lib.hid lc
  have B0 := Lib.hid b0
  have B1 := Lib.hid b1
  cases hh : x.has s g with
  | true =>
    rw [hh] at kh
    obtain ⟨t, ht, es, eg⟩ := has_mem hh
    have HS := Lib.hid hh
    have HT := Lib.hid ht
    have HES := Lib.hid es
    have HEG := Lib.hid eg
    clear hh ht es eg lc
    go_upto_region 3 with (go_at_call 25; refine kh.mono ?_; rintro e w2 ⟨rfl, f2⟩)
    have H2 := H1.out.on f2.b
    have c0' := (f2.b.cell (p := ⟨c, 0, none⟩) LC.out).trans B0.out
    have c1' := (f2.b.cell (p := ⟨c, 1, none⟩) LC.out).trans B1.out
    have F2 := Lib.hid (F1.out.trans f2)
    have c1 := H2.c1
    have c2 := H2.c2
    obtain ⟨i1, i2, i3, i4⟩ := place_facts (atN_lt (x := x) H2.n1 t) H2.n64
    have pl := H2.pl _ (atN_lt (x := x) H2.n1 t)
    have l1 := (H2.st.on (w' := w2.drew) (Below.refl _ _).drew).look Try.underlying53 (st_mem HT.out)
    have l2 := ((H2.pm _ (atN_lt (x := x) H2.n1 t)).on (w' := w2.drew) (Below.refl _ _).drew).look Try.underlying64 (pl_mem HT.out)
    have hd : x.dueN s g = t.d := by rw [← HES.out, ← HEG.out]; exact due_of H2.ok HT.out
    have ek : t.key = (s, g) := Prod.ext HES.out HEG.out
    rw [ek] at l1 l2
    unfold hV at l1 l2
    simp only [] at l1 l2
    have HD := Lib.hid hd
    clear hd ek H1 kh f2 H2 b0 b1
    generalize x.atN n t = j at i1 i2 i3 i4 pl l1 l2
    go_region
    go_wp2
    go_ret2
    rw [HD.out, HS.out]
    exact ⟨rfl, F2.out.drew⟩
  | false =>
    rw [hh] at kh
    have HS := Lib.hid hh
    clear hh
    go_wp2_with (go_at_call 25; refine kh.mono ?_; rintro e w2 ⟨rfl, f2⟩)
    go_ret2
    rw [due_none HS.out, HS.out]
    exact ⟨rfl, F1.out.trans f2⟩
end
end Go.Proofs.Ytmephmjlajaopaa

namespace Go.Proofs.Ytmephmjlajaopaa
set_option linter.unusedVariables false
set_option maxRecDepth 100000
set_option linter.unusedSimpArgs false
open Go.ChangeShapes Go.WideShapes Go.ChangeAt Go.RowKit Go.PlainAid
attribute [local go_sem ↓] Go.wp_at_zero Go.wp_at_succ
def Wh.cmpH (x : Wh) (a b : Int × Int) : Int := orV (cmpV (x.dueN a.1 a.2 : Int) (x.dueN b.1 b.2 : Int)) (cmpV a.1 b.1) (cmpV a.2 b.2)
section
variable {w w' : World} {p : Nat} {x : Wh} {n pb cap sb : Nat} {mb : Nat → Nat}
set_option maxHeartbeats 4000000 in
/-- (*Wheel).compare. -/
theorem wz_compare_ (h : WhI w p x n pb cap sb mb) {s g t k : Int} (h1 : HOk s g) (h2 : HOk t k) : Calls Try.prog 31 #[.pointer (some ⟨p, 0, none⟩), .agg #[.int .i64 s, .int .u32 g], .agg #[.int .i64 t, .int .u32 k]] w fun e w' => e = .returned (.int .i64 (x.cmpH (s, g) (t, k))) ∧ Fw w w' := by
  have H := Lib.hid h
  clear h
  go_enter Try.func31, Try.ntmps31
  go_upto_region 1 with fail
  have f1 : Fw w (w.alloc (.cells #[.int .i64 s, .int .u32 g] 34)) := (Fw.refl w).alloc _
  have b0 : (w.alloc (.cells #[.int .i64 s, .int .u32 g] 34)).cell? ⟨w.heap.size, 0, none⟩ = some (.int .i64 s) := World.cell?_alloc_mark w #[.int .i64 s, .int .u32 g] 34 (0, 0) 0
  have b1 : (w.alloc (.cells #[.int .i64 s, .int .u32 g] 34)).cell? ⟨w.heap.size, 1, none⟩ = some (.int .u32 g) := World.cell?_alloc_mark w #[.int .i64 s, .int .u32 g] 34 (0, 0) 1
  have lc : w.heap.size < (w.alloc (.cells #[.int .i64 s, .int .u32 g] 34)).heap.size := by simp
  have eu : (w.alloc (.cells #[.int .i64 s, .int .u32 g] 34)).heap.size = w.heap.size + 1 := by simp
  generalize w.alloc (.cells #[.int .i64 s, .int .u32 g] 34) = u at f1 b0 b1 lc eu ⊢
  generalize w.heap.size = c at b0 b1 lc eu ⊢
  have f2 : Fw u (u.alloc (.cells #[.int .i64 t, .int .u32 k] 34)) := (Fw.refl u).alloc _
  have d0 : (u.alloc (.cells #[.int .i64 t, .int .u32 k] 34)).cell? ⟨u.heap.size, 0, none⟩ = some (.int .i64 t) := World.cell?_alloc_mark u #[.int .i64 t, .int .u32 k] 34 (0, 0) 0
  have d1 : (u.alloc (.cells #[.int .i64 t, .int .u32 k] 34)).cell? ⟨u.heap.size, 1, none⟩ = some (.int .u32 k) := World.cell?_alloc_mark u #[.int .i64 t, .int .u32 k] 34 (0, 0) 1
  have le : u.heap.size < (u.alloc (.cells #[.int .i64 t, .int .u32 k] 34)).heap.size := by simp
  have b0 := (f2.b.cell (p := ⟨c, 0, none⟩) lc).trans b0
  have b1 := (f2.b.cell (p := ⟨c, 1, none⟩) lc).trans b1
  have lc := Nat.lt_of_lt_of_le lc f2.b.size
  have F := Lib.hid (f1.trans f2)
  clear f1 f2
  generalize u.alloc (.cells #[.int .i64 t, .int .u32 k] 34) = w1 at b0 b1 lc d0 d1 le F ⊢
  rw [eu] at d0 d1 le
  obtain ⟨e, he⟩ : ∃ e, e = c + 1 := ⟨_, rfl⟩
  rw [← he] at d0 d1 le ⊢
  clear he eu
  have H1 := H.out.on F.out.b
  have k1 := wz_due_ H1 h1
  have H1 := Lib.hid H1
  obtain ⟨q1, r1, hq1⟩ : ∃ a b, x.dueN s g = a ∧ x.has s g = b := ⟨_, _, rfl, rfl⟩
  obtain ⟨q2, r2, hq2⟩ : ∃ a b, x.dueN t k = a ∧ x.has t k = b := ⟨_, _, rfl, rfl⟩
  rw [hq1.1, hq1.2] at k1
  have BB := Lib.hid (And.intro b0 (And.intro b1 (And.intro d0 (And.intro d1 (And.intro lc le)))))
  clear lc le
  go_upto_region 2 with (go_at_call 19; refine k1.mono ?_; rintro _ w2 ⟨rfl, f2⟩)
  have H2 := H1.out.on f2.b
  have k2 := wz_due_ H2 h2
  rw [hq2.1, hq2.2] at k2
  have F2 := Lib.hid (F.out.trans f2)
  obtain ⟨b0', b1', d0', d1', lc, le⟩ := BB.out
  have d0'' := (f2.b.cell (p := ⟨e, 0, none⟩) le).trans d0'
  have d1'' := (f2.b.cell (p := ⟨e, 1, none⟩) le).trans d1'
  have b0'' := (f2.b.cell (p := ⟨c, 0, none⟩) lc).trans b0'
  have b1'' := (f2.b.cell (p := ⟨c, 1, none⟩) lc).trans b1'
  have BB2 := Lib.hid (And.intro b0'' (And.intro b1'' (And.intro (Nat.lt_of_lt_of_le lc f2.b.size) (Nat.lt_of_lt_of_le le f2.b.size))))
  clear b0 b1 d0 d1 b0' b1' d0' d1' lc le b0'' b1'' H1 H2 k1 f2
  have DD2 := Lib.hid (And.intro d0'' d1'')
  go_upto_region 3 with (go_at_call 19; refine k2.mono ?_; rintro _ w3 ⟨rfl, f3⟩)
  have F3 := Lib.hid (F2.out.trans f3)
  obtain ⟨b0', b1', lc, le⟩ := BB2.out
  have b0 := (f3.b.cell (p := ⟨c, 0, none⟩) lc).trans b0'
  have b1 := (f3.b.cell (p := ⟨c, 1, none⟩) lc).trans b1'
  have d0 := (f3.b.cell (p := ⟨e, 0, none⟩) le).trans DD2.out.1
  have d1 := (f3.b.cell (p := ⟨e, 1, none⟩) le).trans DD2.out.2
  have HV : Hid (x.cmpH (s, g) (t, k) = orV (cmpV (q1 : Int) (q2 : Int)) (cmpV s t) (cmpV g k)) := by show _ = _; unfold Wh.cmpH; simp only [hq1.1, hq2.1]
  clear b0' b1' lc le d0'' d1'' f3 k2 hq1 hq2
  obtain ⟨v1, hv1⟩ : ∃ v, v = cmpV (q1 : Int) (q2 : Int) := ⟨_, rfl⟩
  obtain ⟨v2, hv2⟩ : ∃ v, v = cmpV s t := ⟨_, rfl⟩
  obtain ⟨v3, hv3⟩ : ∃ v, v = cmpV g k := ⟨_, rfl⟩
  have k1 := fun W => compareI_ (q1 : Int) (q2 : Int) W
  have k2 := fun W => compareI_ s t W
  have k3 := fun W => compareU_ g k W
  rw [← hv1] at k1
  rw [← hv2] at k2
  rw [← hv3] at k3
  have HV : Hid (x.cmpH (s, g) (t, k) = orV v1 v2 v3) := by rw [hv1, hv2, hv3]; exact HV
  clear hv1 hv2 hv3
  have k4 : Calls Try.prog 36 #[.slice (some ⟨w3.heap.size, 0, none⟩) 3 3] (w3.alloc (.cells #[.int .i64 v1, .int .i64 v2, .int .i64 v3] 3)).drew fun e w' => e = .returned (.int .i64 (orV v1 v2 v3)) ∧ w' = (w3.alloc (.cells #[.int .i64 v1, .int .i64 v2, .int .i64 v3] 3)).drew :=
    or3_ _ 3 v1 v2 v3 _ (World.cell?_alloc_mark w3 #[.int .i64 v1, .int .i64 v2, .int .i64 v3] 3 (0, 0) 0) (World.cell?_alloc_mark w3 #[.int .i64 v1, .int .i64 v2, .int .i64 v3] 3 (0, 0) 1) (World.cell?_alloc_mark w3 #[.int .i64 v1, .int .i64 v2, .int .i64 v3] 3 (0, 0) 2)
  generalize orV v1 v2 v3 = r at k4 HV
  have MK := Lib.hid (show ∀ w', Below w3.heap.size w3 w' → w'.cell? ⟨c, 0, none⟩ = some (.int .i64 s) ∧ w'.cell? ⟨c, 1, none⟩ = some (.int .u32 g) ∧ w'.cell? ⟨e, 0, none⟩ = some (.int .i64 t) ∧ w'.cell? ⟨e, 1, none⟩ = some (.int .u32 k) ∧ Below w3.heap.size w3 w' from
    fun w' h => ⟨(h.cell (World.block_lt_of_cell? _ _ b0)).trans b0, (h.cell (World.block_lt_of_cell? _ _ b1)).trans b1, (h.cell (World.block_lt_of_cell? _ _ d0)).trans d0, (h.cell (World.block_lt_of_cell? _ _ d1)).trans d1, h⟩)
  clear b0 b1 d0 d1
  go_region_held3 (fun w' => w'.cell? ⟨c, 0, none⟩ = some (.int .i64 s) ∧ w'.cell? ⟨c, 1, none⟩ = some (.int .u32 g) ∧ w'.cell? ⟨e, 0, none⟩ = some (.int .i64 t) ∧ w'.cell? ⟨e, 1, none⟩ = some (.int .u32 k) ∧ Below w3.heap.size w3 w')
    ((go_split_ands
      refine MK.out _ ?_
      repeat
        first
          | assumption
          | exact Below.refl _ _
          | refine Below.drew ?_
          | refine Below.alloc ?_ ?_ _
          | exact Nat.le_refl _
          | focus (simp; done)))
    ((first
      | (go_at_call_of 37 q1
         refine (k1 _).mono ?_
         rintro _ w4 ⟨rfl, rfl⟩)
      | (go_at_call_of 37 s
         refine (k2 _).mono ?_
         rintro _ w4 ⟨rfl, rfl⟩)
      | (go_at_call 38
         refine (k3 _).mono ?_
         rintro _ w4 ⟨rfl, rfl⟩)
      | (go_at_call 36
         refine k4.mono ?_
         rintro _ w4 ⟨rfl, rfl⟩)))
  all_goals
    go_wp2
    go_ret
    rw [HV.out]
    exact ⟨rfl, (F3.out.alloc _).drew⟩
end
end Go.Proofs.Ytmephmjlajaopaa

namespace Go.Proofs.Ytmephmjlajaopaa
set_option linter.unusedVariables false
set_option maxRecDepth 100000
set_option linter.unusedSimpArgs false
open Go.ChangeShapes Go.WideShapes Go.ChangeAt Go.RowKit Go.PlainAid
attribute [local go_sem ↓] Go.wp_at_zero Go.wp_at_succ
/-- Those that are due. -/
def dueL (now : Int) (L : List HE) : List (Int × Int) := (L.filter fun p => decide (p.2 ≤ now)).map Prod.fst
theorem dueL_len (now : Int) (L : List HE) : (dueL now L).length ≤ L.length := by unfold dueL; rw [List.length_map]; exact List.length_filter_le _ _
theorem dueL_app (now : Int) (L M : List HE) : dueL now (L ++ M) = dueL now L ++ dueL now M := by unfold dueL; rw [List.filter_append, List.map_append]
theorem dueL_perm (now : Int) {L M : List HE} (h : L.Perm M) : (dueL now L).Perm (dueL now M) := (h.filter _).map _
theorem dueL_yes {now : Int} {k : Int × Int} {v : Int} (h : v ≤ now) : dueL now [(k, v)] = [k] := by simp [dueL, h]
theorem dueL_no {now : Int} {k : Int × Int} {v : Int} (h : ¬ v ≤ now) : dueL now [(k, v)] = [] := by simp [dueL, h]
/-- The loop of over: M is still to come, V has come. -/
structure OverS (w wr : World) (b : Nat) (now : Int) (L M V : List HE) (v : Value) : Prop where
  pm : (V ++ M).Perm L
  it : IterL wr b w.heap.size L M
  own : eltH.Own wr (w.heap.size + 1) v (dueL now V)
  below : Below w.heap.size w wr
theorem OverS.few {w wr : World} {b : Nat} {now : Int} {L M V : List HE} {v : Value} (h : OverS w wr b now L M V v) : (dueL now V).length + M.length ≤ L.length := by
  have := h.pm.length_eq
  rw [List.length_append] at this
  have := dueL_len now V
  omega
set_option maxHeartbeats 4000000 in
theorem wz_over_ (b : Nat) (L : List HE) (now : Int) (w : World) (h : MapL w b L) (few : L.length ≤ 1000) : Calls Try.prog 29 #[.map (some b), .int .i64 now] w fun e w' => ∃ (v : Value) (out : List (Int × Int)), e = .returned v ∧ out.Perm (dueL now L) ∧ eltH.Own w' w.heap.size v out ∧ Below w.heap.size w w' := by
  obtain ⟨w1, hr, it, hg, hs⟩ := h.range Try.underlying64
  have FEW := Lib.hid few
  have LB := Lib.hid h.lt
  have S1 : Hid (OverS w w1 b now L L [] (.slice none 0 0)) := ⟨List.Perm.refl _, it, Elt.Own.nil _ _, (Below.refl _ _).grown hg (Nat.le_refl _) (fun k e => nomatch e)⟩
  have HS := Lib.hid hs
  clear h it hg hs few
  go_enter Try.func29, Try.ntmps29
  go_wp2
  go_loopg [5] L.length (fun k v5 wr => ∃ (M V : List HE), M.length ≤ k ∧ Hid (OverS w wr b now L M V v5))
  case atStart => exact ⟨L, [], Nat.le_refl _, S1⟩
  case round =>
    clear S1 hr
    obtain ⟨M, V, hk, HO⟩ := hrel
    rcases HO.out.it.next 0 with ⟨rfl, hr⟩ | ⟨key, u, M', w2, hp, hm, hr, it2, hg, hs, hen⟩
    · have HE : Hid ((dueL now V).Perm (dueL now L) ∧ eltH.Own wr w.heap.size u5 (dueL now V) ∧ Below w.heap.size w wr) := ⟨dueL_perm now (by have := HO.out.pm; rwa [List.append_nil] at this), HO.out.own.down (Nat.le_succ _), HO.out.below⟩
      clear HO
      go_wp2
      go_ret
      exact ⟨_, _, rfl, HE.out.1, HE.out.2.1, HE.out.2.2⟩
    · obtain ⟨ks, kg⟩ := key
      unfold hV at hr hen
      simp only [] at hr hen
      have HF := HO.out.few
      have hl := hp.length_eq
      rw [List.length_cons] at hl
      have lw : w.heap.size < wr.heap.size := Nat.lt_of_lt_of_le it2.lt.2 (Nat.le_of_eq hs)
      have own2 : eltH.Own w2 (w.heap.size + 1) u5 (dueL now V) := HO.out.own.keep fun g hgk => hg.block g (HO.out.own.lt g hgk).2 (fun e => by have := (HO.out.own.lt g hgk).1; injection e with e; omega)
      have b2 : Below w.heap.size w w2 := HO.out.below.grown hg HO.out.below.size (fun k e => by injection e with e; omega)
      have hk2 : M'.length + 1 ≤ gk := by omega
      have IT := Lib.hid it2
      have PM : Hid (((V ++ [((ks, kg), u)]) ++ M').Perm L) := (List.Perm.trans (by rw [List.append_assoc]; exact List.Perm.append_left V hp.symm) HO.out.pm)
      have OW := Lib.hid own2
      have BL := Lib.hid b2
      have LW : Hid (w.heap.size < w2.heap.size) := by show _ < _; omega
      have HF2 : Hid ((dueL now V).length + 1 ≤ L.length) := by show _ ≤ _; omega
      clear HO it2 hg hs hp hm own2 b2 HF hl lw
      by_cases hd : u ≤ now
      · have t1 : decide (u ≤ now) = true := decide_eq_true hd
        have HD := Lib.hid (dueL_yes (k := (ks, kg)) hd)
        have c0 := World.cell?_alloc_mark w2 #[.int .i64 ks, .int .u32 kg] 34 (0, 0) 0
        have c1 := World.cell?_alloc_mark w2 #[.int .i64 ks, .int .u32 kg] 34 (0, 0) 1
        have B3 : Below w.heap.size w (w2.alloc (.cells #[.int .i64 ks, .int .u32 kg] 34)) := BL.out.alloc (Nat.le_of_lt LW.out) _
        have O3 := OW.out.alloc (.cells #[.int .i64 ks, .int .u32 kg] 34)
        have I3 := IT.out.on ((Below.refl w2.heap.size w2).alloc (Nat.le_refl _) (.cells #[.int .i64 ks, .int .u32 kg] 34))
        have L3 : w.heap.size < (w2.alloc (.cells #[.int .i64 ks, .int .u32 kg] 34)).heap.size := by simp; have := LW.out; omega
        clear hd
        go_upto_region 6 with fail
        clear hr hen IT OW BL LW
        generalize w2.alloc (.cells #[.int .i64 ks, .int .u32 kg] 34) = w3 at c0 c1 B3 O3 I3 L3 ⊢
        generalize w2.heap.size = c at c0 c1 ⊢
        obtain ⟨v', w', hrun, hown, hgrow, hnew⟩ := O3.alloc (.cells #[.int .i64 ks, .int .u32 kg] 34) |>.append 42 (Elt.Sl.box w3 (ks, kg) 34 #[.int .i64 ks, .int .u32 kg] rfl)
          (Nat.le_trans (Nat.mul_le_mul_right _ (Nat.le_trans HF2.out FEW.out)) (by decide)) (Nat.le_trans (Nat.le_trans HF2.out FEW.out) (by decide)) (by simp; omega)
        obtain ⟨a5, c5, e5, _, _⟩ := O3.sl
        have RUN := Lib.hid hrun
        have BA : Below w.heap.size w (w3.alloc (.cells #[.int .i64 ks, .int .u32 kg] 34)) := B3.alloc B3.size _
        have B4 : Below w.heap.size w w' := BA.grown hgrow BA.size (fun k e => Nat.le_of_succ_le (O3.lt k e).1)
        have IA := I3.on ((Below.refl w3.heap.size w3).alloc (Nat.le_refl _) (.cells #[.int .i64 ks, .int .u32 kg] 34))
        have ob : ∀ k, u5.ownBlock = some k → w.heap.size + 1 ≤ k := fun k e => (O3.lt k e).1
        have I4 : IterL w' b w.heap.size L M' := IA.keep (hgrow.block b IA.lt.1 (fun e => by have := ob b e.symm; have := LB.out; omega)) (hgrow.block _ IA.lt.2 (fun e => by have := ob _ e.symm; omega))
        have S4 : Hid (OverS w w' b now L M' (V ++ [((ks, kg), u)]) v') := ⟨PM.out, I4, by rw [dueL_app, HD.out]; exact hown, B4⟩
        obtain ⟨a6, c6, e6, _, _⟩ := hown.sl
        clear hrun hown hgrow hnew B3 O3 I3 L3 BA B4 IA ob I4
        subst e5
        subst e6
        generalize (dueL now V).length = n5 at RUN ⊢
        generalize (dueL now V ++ [(ks, kg)]).length = n6 at RUN S4
        go_wp2_with (at_builtin; refine Lib.wpList_append_run _ rfl _ _ 42 42 rfl _ _ rfl rfl _ _ RUN.out ?_)
        go_roundg (M'.length)
        case measure => omega
        case rel => exact ⟨M', _, Nat.le_refl _, S4⟩
      · have t1 : decide (u ≤ now) = false := decide_eq_false hd
        have HD := Lib.hid (dueL_no (k := (ks, kg)) hd)
        have S4 : Hid (OverS w (w2.alloc (.cells #[.int .i64 ks, .int .u32 kg] 34)) b now L M' (V ++ [((ks, kg), u)]) u5) := ⟨PM.out, IT.out.on ((Below.refl w2.heap.size w2).alloc (Nat.le_refl _) _), by rw [dueL_app, HD.out, List.append_nil]; exact OW.out.alloc _, BL.out.alloc (Nat.le_of_lt LW.out) _⟩
        clear IT OW BL LW hd
        go_wp2
        go_roundg (M'.length)
        case measure => omega
        case rel => exact ⟨M', _, Nat.le_refl _, S4⟩
end Go.Proofs.Ytmephmjlajaopaa
