/- The code's ports (layer 16): rows sorted by compare, off the shelf. -/
import Derived.Test.YtbbadpidolfleaaPzS
import Derived.Test.YtbbadpidolfleaaPzSL
import Derived.Shelf.SlSortCmp.NoneTotal
namespace Go.Proofs.Ytbbadpidolfleaa
set_option linter.unusedVariables false
set_option maxRecDepth 100000
set_option linter.unusedSimpArgs false
open Go.ChangeShapes Go.WideShapes Go.ChangeAt Go.RowKit Go.PlainAid Go.Shelf
instance roInh : Inhabited Ro := ⟨Ro.zero⟩
theorem cmp_ahead (a b : Ro) : cmpR a b < 0 ↔ a.ahead b = true := by
  rw [Ro.ahead_iff]
  unfold cmpR orV cmpV
  by_cases h1 : a.pr < b.pr
  · simp [h1]
  · by_cases h2 : b.pr < a.pr
    · simp [h1, h2]; omega
    · by_cases h3 : a.oi < b.oi
      · simp [h1, h2, h3]; omega
      · by_cases h4 : b.oi < a.oi
        · simp [h1, h2, h3, h4]; omega
        · by_cases h5 : a.op < b.op
          · simp [h1, h2, h3, h4, h5]; omega
          · by_cases h6 : b.op < a.op
            · simp [h1, h2, h3, h4, h5, h6]
            · simp [h1, h2, h3, h4, h5, h6]
theorem lt_ahead (a b : Ro) : ltOf cmpR a b = a.ahead b := by
  unfold ltOf
  rw [Bool.eq_iff_iff, decide_eq_true_iff]
  exact cmp_ahead a b
theorem cmp_swo : Sort.SWO (ltOf cmpR) where
  irrefl x := by rw [lt_ahead, Bool.eq_false_iff]; intro h; exact Ro.ahead_ne h ⟨rfl, rfl, rfl⟩
  trans x y z h1 h2 := by rw [lt_ahead] at *; exact Ro.ahead_trans h1 h2
  ntrans x y z h1 h2 := by
    rw [lt_ahead] at *
    rw [Bool.eq_false_iff, Ne, Ro.ahead_iff] at *
    omega
theorem perm_same {α : Type} {R : α → α → Prop} : ∀ {l l' : List α}, l.Perm l' → l.Pairwise R → l'.Pairwise R → (∀ a b, a ∈ l → b ∈ l → R a b → R b a → a = b) → l = l'
  | [], l', p, _, _, _ => (List.Perm.nil_eq p)
  | a :: l, [], p, _, _, _ => absurd p.length_eq (by simp)
  | a :: l, b :: l', p, h1, h2, h3 => by
    obtain ⟨q1, r1⟩ := List.pairwise_cons.1 h1
    obtain ⟨q2, r2⟩ := List.pairwise_cons.1 h2
    have e : a = b := by
      rcases List.mem_cons.1 (p.mem_iff.1 (List.mem_cons_self ..)) with e | ha
      · exact e
      · rcases List.mem_cons.1 (p.mem_iff.2 (List.mem_cons_self ..)) with e | hb
        · exact e.symm
        · exact h3 a b (List.mem_cons_self ..) (List.mem_cons_of_mem _ hb) (q1 b hb) (q2 a ha)
    subst e
    rw [perm_same p.cons_inv r1 r2 fun x y hx hy => h3 x y (List.mem_cons_of_mem _ hx) (List.mem_cons_of_mem _ hy)]
/-- Rows that are those of ports, and stand so: they are those of ports, as they stand. -/
theorem sorted_rows {x : Po} (h : x.Ok) {l : List Ro} (hp : l.Perm x.l) (hs : l.Pairwise fun a b => ¬ cmpR b a < 0) : l = x.l := by
  refine perm_same hp hs (h.st.imp fun {a b} hab => ?_) fun a b ha hb h1 h2 => ?_
  · rw [cmp_ahead]
    intro h2
    exact Ro.ahead_ne (Ro.ahead_trans hab h2) ⟨rfl, rfl, rfl⟩
  · rw [cmp_ahead] at h1 h2
    refine h.same_out (hp.mem_iff.1 ha) (hp.mem_iff.1 hb) ?_
    rw [Ro.ahead_iff] at h1 h2
    omega
theorem taken_rows (F cur : Array Value) (n : Nat) (hn : n = F.size) (hc : n ≤ cur.size) : (Sort.putCells id 0 F cur).toList.take n = F.toList := by
  apply List.ext_getElem?
  intro j
  by_cases hj : j < n
  · rw [List.getElem?_take_of_lt hj, Array.getElem?_toList, Array.getElem?_toList]
    have h1 : j < F.size := by omega
    simp [Sort.putCells, h1, show j < cur.size by omega]
  · rw [List.getElem?_take_eq_none (by omega), List.getElem?_eq_none (by simp; omega)]
theorem flat_rows (R : Array Ro) : (Sort.flatK Ro.cs 7 R).toList = eltR.vals R.toList := by
  apply List.ext_getElem?
  intro j
  by_cases hj : j < R.size * 7
  · have h1 : j / 7 < R.size := Nat.div_lt_of_lt_mul (by rw [Nat.mul_comm]; exact hj)
    have h2 : j % 7 < 7 := Nat.mod_lt _ (by decide)
    have e : j / 7 * 7 + j % 7 = j := by rw [Nat.mul_comm]; exact Nat.div_add_mod j 7
    have hv := eltR.vals_at (l := R.toList) (i := j / 7) (c := j % 7) (by simpa using h1) h2
    have e7 : j / 7 * eltR.k + j % 7 = j := e
    have ed : R.toList.getD (j / 7) eltR.d = R[j / 7]! := by rw [getElem!_pos R (j / 7) h1]; simp [List.getD, h1]
    rw [e7, ed] at hv
    rw [hv, Array.getElem?_toList]
    have hg := Sort.get_flatK Ro.cs 7 R j hj
    rw [getElem!_pos _ j (by rw [Sort.size_flatK]; exact hj)] at hg
    rw [Array.getElem?_eq_getElem (by rw [Sort.size_flatK]; exact hj), hg]
    have hlen : (Ro.cs (R[j / 7]!)).length = 7 := rfl
    rw [show eltR.enc (R[j / 7]!) = Ro.cs (R[j / 7]!) from rfl, List.getElem?_eq_getElem (by omega), getElem!_pos (Ro.cs (R[j / 7]!)) (j % 7) (by omega)]
  · rw [List.getElem?_eq_none (by simp; omega), List.getElem?_eq_none (by rw [eltR.vals_len]; show R.toList.length * 7 ≤ j; simp; omega)]
theorem sorted_block {w0 : World} {g n : Nat} {os : Array Obj} {cur : Array Value} {e : TypeId} {fr : Nat × Nat} {d : Array Ro} (hb : w0.heap[g]? = some (.cells cur e fr)) :
    (sortWorldK Ro.cs 7 w0 g 0 n d os).heap[g]? = some (.cells (Sort.putCells id 0 (Sort.flatK Ro.cs 7 d) cur) e fr) ∧ (∀ i, i < w0.heap.size → i ≠ g → (sortWorldK Ro.cs 7 w0 g 0 n d os).heap[i]? = w0.heap[i]?) ∧ (sortWorldK Ro.cs 7 w0 g 0 n d os).os = w0.os ∧ (sortWorldK Ro.cs 7 w0 g 0 n d os).tape = w0.tape ∧ (sortWorldK Ro.cs 7 w0 g 0 n d os).output = w0.output ∧ w0.heap.size ≤ (sortWorldK Ro.cs 7 w0 g 0 n d os).heap.size := by
  have hg : g < w0.heap.size := (Array.getElem?_eq_some_iff.1 hb).1
  unfold sortWorldK Sort.putRowK
  refine ⟨?_, fun i hi hne => ?_, rfl, rfl, rfl, by simp [Sort.putRow, Sort.mapBlock, Sort.ahead]⟩
  · rw [Sort.heap_grow_old _ _ (by simpa [Sort.putRow, Sort.mapBlock, Sort.ahead] using hg)]
    simp [Sort.putRow, Sort.mapBlock, Sort.ahead, Array.getElem?_modify, hb, Sort.onCells]
  · rw [Sort.heap_grow_old _ _ (by simpa [Sort.putRow, Sort.mapBlock, Sort.ahead] using hi)]
    simp [Sort.putRow, Sort.mapBlock, Sort.ahead, Array.getElem?_modify, Ne.symm hne]
theorem compare_enters : ∀ args w, (callFunc 45 args).run Try.prog w = .ok (.enter 45 args) w := enters_of Try.func45 (by kernel_rfl) rfl
/-- slices.SortFunc of rows of the call's own. -/
theorem pz_sort_ {w : World} {B : Nat} {v : Value} {l : List Ro} (own : eltR.Own w B v l) (hBw : B ≤ w.heap.size) (hl : l.length ≤ 1000) :
    Calls Try.prog 53 #[v, .func (.func 45) #[] #[]] w fun e w' => e = .returned (.tuple #[]) ∧ ∃ l', l'.Perm l ∧ (l'.Pairwise fun a b => ¬ cmpR b a < 0) ∧ eltR.Own w' B v l' ∧ Below B w w' := by
  obtain ⟨hlen, ⟨hv, h0⟩ | ⟨g, cap, cur, hv, hg, hb, hcap, hmax, hcur, htake⟩⟩ := own
  · subst hv
    have e : l = [] := List.eq_nil_of_length_eq_zero h0
    subst e
    have hc := AnyF.slices_SortFunc_none (P := Try.prog) Try.sortR none 0 (.func (.func 45) #[] #[]) w
    change Calls Try.prog 53 _ _ _ at hc
    refine hc.mono ?_
    rintro e w' ⟨rfl, rfl⟩
    exact ⟨rfl, [], List.Perm.refl _, List.Pairwise.nil, Elt.Own.nil _ _, Below.refl _ _⟩
  · subst hv
    have hz : l.toArray.size = l.length := by simp
    have hlt : g < w.heap.size := (Array.getElem?_eq_some_iff.1 hb).1
    have hH : Sort.HoldsK Ro.cs 7 w g 0 l.toArray := by
      intro j hj
      rw [Sort.size_flatK, hz] at hj
      have hfl : (Sort.flatK Ro.cs 7 l.toArray).toList = eltR.vals l := flat_rows _
      have hj2 : j < (Sort.flatK Ro.cs 7 l.toArray).size := by rw [Sort.size_flatK, hz]; exact hj
      have hcell : cur[j]? = some ((Sort.flatK Ro.cs 7 l.toArray)[j]!) := by
        rw [getElem!_pos _ j hj2, ← Array.getElem?_eq_getElem hj2, ← Array.getElem?_toList, ← Array.getElem?_toList, hfl, ← htake, List.getElem?_take_of_lt (show j < l.length * eltR.k from hj)]
      refine ⟨?_, ?_⟩
      · simp only [World.cell?, hb, Nat.zero_add, Option.isSome_none, Bool.false_eq_true, if_false, id]
        exact hcell
      · simp [World.frozen?, hb]
    have hc := AnyQ.slices_SortFunc (P := Try.prog) Try.sortR 7 (fun w => Try.isAgg44 w) (fun w => Try.sizeOf44 w) Ro.cs (fun x => rfl) (fun x => eltR.one x) cmpR cmp_swo 45 #[] g 0 cap l.toArray w compare_enters
      (fun m os dk hs a b => (pz_compare_ a b _).mono fun e w' h => ⟨h.1, h.2⟩) hH hlt (by rw [hz]; omega)
    change Calls Try.prog 53 _ _ _ at hc
    rw [hz] at hc
    refine hc.mono ?_
    rintro e w' ⟨rfl, d', n, os, hp, hs, rfl⟩
    obtain ⟨s1, s2, s3, s4, s5, s6⟩ := sorted_block (n := n) (os := os) (d := d') hb
    have hds : d'.size = l.length := hp.1.trans hz
    have hperm : d'.toList.Perm l := by
      have h3 := hp.2.2
      have e1 : d'.extract 0 l.length = d' := by rw [← hds]; simp
      have e2 : l.toArray.extract 0 l.length = l.toArray := by rw [← hz]; simp
      rw [e1, e2] at h3
      simpa using h3
    have hlen2 : d'.toList.length = l.length := by simpa using hds
    refine ⟨rfl, d'.toList, hperm, ?_, ⟨eltR.vals_len _, .inr ⟨g, cap, _, by rw [hlen2], hg, s1, by omega, hmax, by simp [Sort.putCells, hcur], ?_⟩⟩, ⟨s3, s4, s5, s6, fun k hk => s2 k (by omega) (by omega)⟩⟩
    · rw [List.pairwise_iff_getElem]
      intro i j hi hj hij
      have hi' : i < d'.size := by simpa using hi
      have hj' : j < d'.size := by simpa using hj
      have := hs i j (Nat.zero_le _) hij (by omega)
      rw [getElem!_pos d' i hi', getElem!_pos d' j hj'] at this
      simpa [ltOf] using this
    · rw [taken_rows _ _ _ (by rw [Sort.size_flatK]; show d'.toList.length * 7 = _; simp) (by rw [hlen2, hcur]; exact Nat.mul_le_mul_right _ hcap), flat_rows]
end Go.Proofs.Ytbbadpidolfleaa
