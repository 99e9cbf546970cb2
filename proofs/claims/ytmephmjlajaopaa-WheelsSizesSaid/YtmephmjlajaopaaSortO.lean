/- slices.SortFunc of a row of the call's own, its order a method value: the row is one of the same, as they stand. -/
import Derived.Test.YtmephmjlajaopaaSortF
import Derived.Test.YtmephmjlajaopaaRowE
namespace Go.Proofs.Ytmephmjlajaopaa
set_option linter.unusedVariables false
set_option maxRecDepth 100000
set_option linter.unusedSimpArgs false
open Go.ChangeShapes Go.WideShapes Go.ChangeAt Go.RowKit Go.PlainAid Go.Shelf
section
variable {X : Type} (E : Elt X) {Q : X → Prop}
/-- A list, as an array of such as may be. -/
def okArr {X : Type} {Q : X → Prop} (l : List X) (hl : ∀ x ∈ l, Q x) : Array {x : X // Q x} := (l.attachWith Q hl).toArray
theorem okArr_size {l : List X} (hl : ∀ x ∈ l, Q x) : (okArr l hl).size = l.length := by simp [okArr]
theorem okArr_val {l : List X} (hl : ∀ x ∈ l, Q x) : (okArr l hl).toList.map Subtype.val = l := by simp [okArr]
variable [Inhabited {x : X // Q x}]
theorem arr_at (R : Array {x : X // Q x}) (d : X) {i : Nat} (hi : i < R.size) : (R.toList.map Subtype.val).getD i d = (R[i]!).1 := by
  rw [getElem!_pos R i hi]
  simp [List.getD, hi]
theorem flat_vals (R : Array {x : X // Q x}) : (Sort.flatK (fun x : {x : X // Q x} => E.enc x.1) E.k R).toList = E.vals (R.toList.map Subtype.val) := by
  apply List.ext_getElem?
  intro j
  have hp := E.pos
  by_cases hj : j < R.size * E.k
  · have h1 : j / E.k < R.size := Nat.div_lt_of_lt_mul (by rw [Nat.mul_comm]; exact hj)
    have h2 : j % E.k < E.k := Nat.mod_lt _ hp
    have e : j / E.k * E.k + j % E.k = j := by rw [Nat.mul_comm]; exact Nat.div_add_mod j E.k
    have hv := E.vals_at (l := R.toList.map Subtype.val) (i := j / E.k) (c := j % E.k) (by simpa using h1) h2
    rw [e, arr_at R E.d h1] at hv
    rw [hv, Array.getElem?_toList]
    have hg := Sort.get_flatK (fun x : {x : X // Q x} => E.enc x.1) E.k R j hj
    rw [getElem!_pos _ j (by rw [Sort.size_flatK]; exact hj)] at hg
    rw [Array.getElem?_eq_getElem (by rw [Sort.size_flatK]; exact hj), hg]
    have hlen := E.len (R[j / E.k]!).1
    rw [List.getElem?_eq_getElem (by omega), getElem!_pos (E.enc (R[j / E.k]!).1) (j % E.k) (by omega)]
  · rw [List.getElem?_eq_none (by simp; omega), List.getElem?_eq_none (by rw [E.vals_len]; simp; omega)]
theorem taken_cells (F cur : Array Value) (n : Nat) (hn : n = F.size) (hc : n ≤ cur.size) : (Sort.putCells id 0 F cur).toList.take n = F.toList := by
  apply List.ext_getElem?
  intro j
  by_cases hj : j < n
  · rw [List.getElem?_take_of_lt hj, Array.getElem?_toList, Array.getElem?_toList]
    have h1 : j < F.size := by omega
    simp [Sort.putCells, h1, show j < cur.size by omega]
  · rw [List.getElem?_take_eq_none (by omega), List.getElem?_eq_none (by simp; omega)]
theorem sort_block {w0 W : World} {g : Nat} {cur : Array Value} {e : TypeId} {fr : Nat × Nat} {d : Array {x : X // Q x}} (hS : SWK (fun x : {x : X // Q x} => E.enc x.1) E.k w0 g 0 d W) (hb : w0.heap[g]? = some (.cells cur e fr)) :
    W.heap[g]? = some (.cells (Sort.putCells id 0 (Sort.flatK (fun x : {x : X // Q x} => E.enc x.1) E.k d) cur) e fr) ∧ (∀ i, i < w0.heap.size → i ≠ g → W.heap[i]? = w0.heap[i]?) ∧ W.os = w0.os ∧ W.tape = w0.tape ∧ W.output = w0.output ∧ w0.heap.size ≤ W.heap.size := by
  obtain ⟨n, os, rfl⟩ := hS
  have hg : g < w0.heap.size := (Array.getElem?_eq_some_iff.1 hb).1
  unfold sortWorldK Sort.putRowK
  refine ⟨?_, fun i hi hne => ?_, rfl, rfl, rfl, by simp [Sort.putRow, Sort.mapBlock, Sort.ahead]⟩
  · rw [Sort.heap_grow_old _ _ (by simpa [Sort.putRow, Sort.mapBlock, Sort.ahead] using hg)]
    simp [Sort.putRow, Sort.mapBlock, Sort.ahead, Array.getElem?_modify, hb, Sort.onCells]
  · rw [Sort.heap_grow_old _ _ (by simpa [Sort.putRow, Sort.mapBlock, Sort.ahead] using hi)]
    simp [Sort.putRow, Sort.mapBlock, Sort.ahead, Array.getElem?_modify, Ne.symm hne]
theorem sort_pairs {cf : {x : X // Q x} → {x : X // Q x} → Int} {R : Array {x : X // Q x}} {n : Nat} (hn : R.size = n) (h : Sort.SortedIn (ltOf cf) 0 n R) : R.toList.Pairwise fun a b => ¬ cf b a < 0 := by
  rw [List.pairwise_iff_getElem]
  intro i j hi hj hij
  have hi' : i < R.size := by simpa using hi
  have hj' : j < R.size := by simpa using hj
  have := h i j (Nat.zero_le _) hij (by omega)
  rw [getElem!_pos R i hi', getElem!_pos R j hj'] at this
  simpa [ltOf] using this
theorem sort_perm {d R : Array {x : X // Q x}} {n : Nat} (hd : d.size = n) (h : Sort.PermIn 0 n d R) : R.toList.Perm d.toList := by
  have h3 := h.2.2
  have e1 : R.extract 0 n = R := by rw [← hd, ← h.1]; simp
  have e2 : d.extract 0 n = d := by rw [← hd]; simp
  rwa [e1, e2] at h3
/-- Of handles (or others) that lie in a row of the call's own. -/
theorem sort_own {ρ : Ren} (L : SlLaysF0.n6 Try.prog ρ) (eT : ρ.t 24 = E.T) (aE : ∀ w, (isAgg E.T).run Try.prog w = .ok true w) (g0 : Nat) (v : Value) (cmp : X → X → Int) (w : World) (B g c : Nat) (l : List X) (hl : ∀ x ∈ l, Q x) (own : E.Own w B (.slice (some ⟨g, 0, none⟩) l.length c) l) (few : l.length < 1000000)
    (eg : ∀ args w, (callFunc g0 args).run Try.prog w = .ok (.enter g0 args) w) (hO : Sort.SWO (ltOf fun x y : {x : X // Q x} => cmp x.1 y.1))
    (hc : ∀ W, (∀ i, i < w.heap.size → i ≠ g → W.heap[i]? = w.heap[i]?) → w.heap.size ≤ W.heap.size → ∀ x y, Q x → Q y → Calls Try.prog g0 #[v, .agg (E.enc x).toArray, .agg (E.enc y).toArray] W fun e w' => e = .returned (.int .i64 (cmp x y)) ∧ ∃ q os', w' = Sort.grow (W.drewN q) os') :
    Calls Try.prog (ρ.f 6) #[.slice (some ⟨g, 0, none⟩) l.length c, .func (.func g0) #[v] #[]] w fun e w' => e = .returned (.tuple #[]) ∧ ∃ l', l'.Perm l ∧ (l'.Pairwise fun a b => ¬ cmp b a < 0) ∧ E.Own w' B (.slice (some ⟨g, 0, none⟩) l'.length c) l' ∧ (∀ i, i < w.heap.size → i ≠ g → w'.heap[i]? = w.heap[i]?) ∧ w'.os = w.os ∧ w'.tape = w.tape ∧ w'.output = w.output ∧ w.heap.size ≤ w'.heap.size := by
  obtain ⟨hlen, h | ⟨g', cap, cur, e, hB, hb, hcap, hmax, hcur, htake⟩⟩ := own
  · cases h.1
  injection e with e1 e2 e3
  injection e1 with e1
  injection e1 with e1
  subst e1 e3
  have hz := okArr_size hl
  have hH : Sort.HoldsK (fun x : {x : X // Q x} => E.enc x.1) E.k w g 0 (okArr l hl) := by
    intro j hj
    rw [Sort.size_flatK, hz] at hj
    have hfl : (Sort.flatK (fun x : {x : X // Q x} => E.enc x.1) E.k (okArr l hl)).toList = E.vals l := by rw [flat_vals E, okArr_val]
    have hj2 : j < (Sort.flatK (fun x : {x : X // Q x} => E.enc x.1) E.k (okArr l hl)).size := by rw [Sort.size_flatK, hz]; exact hj
    have hcell : cur[j]? = some ((Sort.flatK (fun x : {x : X // Q x} => E.enc x.1) E.k (okArr l hl))[j]!) := by
      rw [getElem!_pos _ j hj2, ← Array.getElem?_eq_getElem hj2, ← Array.getElem?_toList, ← Array.getElem?_toList, hfl, ← htake, List.getElem?_take_of_lt hj]
    refine ⟨?_, ?_⟩
    · simp only [World.cell?, hb, Nat.zero_add, Option.isSome_none, Bool.false_eq_true, if_false, id]
      exact hcell
    · simp [World.frozen?, hb]
  have hblk : g < w.heap.size := (Array.getElem?_eq_some_iff.1 hb).1
  have row : RowK (fun x : {x : X // Q x} => E.enc x.1) E.k w g 0 (okArr l hl) := ⟨fun x => E.len x.1, fun x => E.one x.1, hH, hblk⟩
  have K : Srt Try.prog g0 v (fun x : {x : X // Q x} => E.enc x.1) E.k (fun x y => cmp x.1 y.1) g 0 l.length (okArr l hl) w := ⟨eg, fun dk W _ S x y => by
    obtain ⟨_, s2, _, _, _, s6⟩ := sort_block E S hb
    exact hc W s2 s6 x.1 y.1 x.2 y.2, row, hz, few, hO⟩
  have S0 : Aside (SWK (fun x : {x : X // Q x} => E.enc x.1) E.k w g 0 (okArr l hl) w) := SWK.start hH
  refine (sSort_ L (by rw [eT]; exact aE) (by rw [eT]; exact E.sz) K c (okArr l hl) w hz S0).mono ?_
  rintro e w' ⟨rfl, R, pR, sR, S1⟩
  obtain ⟨s1, s2, s3, s4, s5, s6⟩ := sort_block E S1.out hb
  have pp := (sort_perm hz pR).map Subtype.val
  rw [okArr_val] at pp
  have hRs : R.size = l.length := pR.1.trans hz
  have hRl : (R.toList.map Subtype.val).length = l.length := by simpa using hRs
  refine ⟨rfl, R.toList.map Subtype.val, pp, List.pairwise_map.2 (sort_pairs hRs sR), ⟨E.vals_len _, .inr ⟨g, c, _, rfl, hB, s1, by omega, hmax, by simp [Sort.putCells, hcur], ?_⟩⟩, s2, s3, s4, s5, s6⟩
  rw [taken_cells _ _ _ (by rw [Sort.size_flatK, hRl, hRs]) (by rw [hRl, hcur]; exact Nat.mul_le_mul_right _ hcap), flat_vals E]
end
end Go.Proofs.Ytmephmjlajaopaa
