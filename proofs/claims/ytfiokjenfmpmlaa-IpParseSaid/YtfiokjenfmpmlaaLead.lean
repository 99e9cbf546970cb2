/- A region that draws its order, whose last operation waits for all others (a store of what they have reckoned): the others by one walk of the order of the text, in a class of worlds; then the last one, in any world of the class. -/
import Derived.Test.YtfiokjenfmpmlaaRegion
import Derived.RegionTactic
import Derived.Deep.RegionHeld
import Derived.Deep.DrawnRows
namespace Go.Proofs.Ytfiokjenfmpmlaa
set_option linter.unusedVariables false
set_option linter.unusedSimpArgs false
open Go.ChangeShapes Go.WideShapes Go.ChangeAt Go.RowKit
section
variable {P : Program} {ops : Array Oper} {md : Region.Mode} {C : World → Prop}
/-- What stands listed has all listed that it waits for. -/
def closedL (md : Region.Mode) (ops : Array Oper) (listed : Array Bool) : Prop :=
  ∀ j oj, ops[j]? = some oj → listed.getD j true = true → ∀ e ∈ oj.after, Region.binds md e = true → listed.getD e.on false = true
/-- The first 'n' operations stand listed. -/
def finL (ops : Array Oper) (n : Nat) : Array Bool := ((List.range ops.size).map fun i => decide (i < n)).toArray
theorem finL_lt {n j : Nat} (h : j < n) : (finL ops n).getD j true = true := by
  unfold finL
  rcases Nat.lt_or_ge j ops.size with h' | h'
  · simp [h, h']
  · simp [Nat.not_lt.2 h']
/-- Whatever order is picked from here on, of the first 'n' operations. -/
def wpLead (P : Program) (md : Region.Mode) (ops : Array Oper) (C : World → Prop) (n : Nat) (Q : Act → Prop) : Nat → Array Bool → Act → Prop
  | 0, listed, a => listed = finL ops n ∧ Q a
  | fuel + 1, listed, a => (∀ t, n ≤ t → t ∉ Region.ready md ops listed) ∧ Region.ready md ops listed ≠ [] ∧
    ∀ i ∈ Region.ready md ops listed, qOp P ops C i (wpLead P md ops C n Q fuel (listed.setIfInBounds i true)) a
theorem closedL_set {listed : Array Bool} {i : Nat} (hc : closedL md ops listed) (hi : i ∈ Region.ready md ops listed) : closedL md ops (listed.setIfInBounds i true) := by
  intro j oj hj hl e he hb
  obtain ⟨h0, o, ho, hall⟩ := mem_ready.1 hi
  by_cases hij : i = j
  · subst hij
    rw [ho] at hj; obtain rfl : o = oj := by simpa using hj
    exact getD_set_true (hall e he hb)
  · rw [getD_set_ne true hij] at hl
    exact getD_set_true (hc j oj hj hl e he hb)
/-- Operation 'j' waits for operation 'i'. -/
def waitsB (md : Region.Mode) (ops : Array Oper) (i j : Nat) : Bool := match ops[j]? with
  | some oj => oj.after.any fun e => Region.binds md e && e.on == i
  | none => false
/-- For each of the first 'n' operations one of them waits, or all others do. -/
def waitedB (md : Region.Mode) (ops : Array Oper) (n : Nat) : Bool :=
  (List.range n).all fun i => (List.range n).any (fun j => waitsB md ops i j) || (List.range ops.size).all fun j => decide (j < n) || waitsB md ops i j
theorem waitsB_spec {i j : Nat} (h : waitsB md ops i j = true) : ∃ oj, ops[j]? = some oj ∧ ∃ e ∈ oj.after, Region.binds md e = true ∧ e.on = i := by
  unfold waitsB at h
  cases ho : ops[j]? with
  | none => simp [ho] at h
  | some oj =>
    simp only [ho, Array.any_eq_true] at h
    obtain ⟨k, hk, he⟩ := h
    simp only [Bool.and_eq_true, beq_iff_eq] at he
    exact ⟨oj, rfl, _, Array.getElem_mem hk, he.1, he.2⟩
theorem waitedB_spec {n : Nat} (h : waitedB md ops n = true) {i : Nat} (hn : i < n) : (∃ j, j < n ∧ waitsB md ops i j = true) ∨ ∀ j, j < ops.size → n ≤ j → waitsB md ops i j = true := by
  unfold waitedB at h
  rw [List.all_eq_true] at h
  have h1 := h i (by simpa using hn)
  simp only [Bool.or_eq_true, List.any_eq_true, List.all_eq_true, List.mem_range, decide_eq_true_eq] at h1
  exact h1.imp (fun ⟨j, h, h'⟩ => ⟨j, h, h'⟩) fun h j h1 h2 => (h j h1).resolve_left (by omega)
theorem waits_ready {listed : Array Bool} {i j : Nat} (h : waitsB md ops i j = true) (hr : j ∈ Region.ready md ops listed) : listed.getD i false = true := by
  obtain ⟨oj, hj, e, he, hb, heq⟩ := waitsB_spec h
  obtain ⟨_, o, ho, hall⟩ := mem_ready.1 hr
  rw [ho] at hj; obtain rfl : o = oj := by simpa using hj
  rw [← heq]; exact hall e he hb
theorem wpLead_first {n : Nat} {Q : Act → Prop} {i : Nat} {oi : Oper} {v : Value} (hi : ops[i]? = some oi) (hin : i < n) (hsel : ∀ (j : Nat) (o : Oper) cs b, ops[j]? = some o → o.op ≠ .select cs b) (hw : waitedB md ops n = true) :
    ∀ (fuel : Nat) (listed : Array Bool) (a : Act), closedL md ops listed →
      (∀ j oj, ops[j]? = some oj → j ≠ i → listed.getD j true = false → (∀ e ∈ oj.after, Region.binds md e = true → e.on ≠ i) → oi.apart ops oj = true) →
      i ∈ Region.ready md ops listed → YieldsIn P ops C oi v a →
      wpLead P md ops C n Q fuel (listed.setIfInBounds i true) (a.put oi.dst v) → wpLead P md ops C n Q (fuel + 1) listed a := by
  intro fuel
  induction fuel with
  | zero =>
    intro listed a hc _ hr hy H
    have hun : listed.getD i true = false := (mem_ready.1 hr).1
    have hunf : ¬ listed.getD i false = true := fun h1 => by
      rcases Nat.lt_or_ge i listed.size with h' | h'
      · simp [h'] at hun h1; rw [hun] at h1; cases h1
      · simp [Array.getElem?_eq_none h'] at h1
    have hall : ∀ j, j < n → j ≠ i → listed.getD j true = true := fun j hj hji => by
      have := finL_lt (ops := ops) hj
      rw [← H.1, getD_set_ne true (Ne.symm hji)] at this
      exact this
    have hnot : ∀ t, n ≤ t → t ∉ Region.ready md ops listed := fun t ht hn => by
      rcases waitedB_spec hw hin with ⟨j, hj, hwt⟩ | h
      · by_cases hji : j = i
        · subst hji; exact hunf (waits_ready hwt hr)
        · obtain ⟨oj, hoj, e, he, hb, heq⟩ := waitsB_spec hwt
          have := hc j oj hoj (hall j hj hji) e he hb
          rw [heq] at this
          exact hunf this
      · refine hunf (waits_ready (h t ?_ ht) hn)
        obtain ⟨_, o, ho, _⟩ := mem_ready.1 hn
        exact (Array.getElem?_eq_some_iff.1 ho).1
    refine ⟨hnot, fun h => (by rw [h] at hr; cases hr), fun j hj => ?_⟩
    by_cases hji : j = i
    · subst hji; exact hy.qOp hi H
    · rcases Nat.lt_or_ge j n with h' | h'
      · have h1 := (mem_ready.1 hj).1
        rw [hall j h' hji] at h1; cases h1
      · exact absurd hj (hnot j h')
  | succ fuel ih =>
    intro listed a hc hfree hr hy H
    refine ⟨fun t ht hn => H.1 t ht (ready_mono hn (by omega)), fun h => (by rw [h] at hr; cases hr), fun j hj => ?_⟩
    by_cases hji : j = i
    · subst hji; exact hy.qOp hi H
    · have h1 := H.2.2 j (ready_mono hj hji)
      obtain ⟨hjun, oj, hoj, hall⟩ := mem_ready.1 hj
      have hnot : ∀ e ∈ oj.after, Region.binds md e = true → e.on ≠ i := fun e he hb heq => by
        have h1 := hall e he hb
        have h0 := (mem_ready.1 hr).1
        rw [heq] at h1
        rcases Nat.lt_or_ge i listed.size with h' | h'
        · simp [h'] at h0 h1; rw [h0] at h1; cases h1
        · simp [Array.getElem?_eq_none h'] at h1
      have h2 := qOp_put hoj (hfree j oj hoj hji hjun hnot) (fun cs b => hsel i oi cs b hi) (fun cs b => hsel j oj cs b hoj) hy h1
      have hfree' : ∀ k ok, ops[k]? = some ok → k ≠ i → (listed.setIfInBounds j true).getD k true = false →
          (∀ e ∈ ok.after, Region.binds md e = true → e.on ≠ i) → oi.apart ops ok = true := fun k ok hk hki hun hno => by
        refine hfree k ok hk hki ?_ hno
        by_cases hjk : j = k
        · subst hjk; exact hjun
        · rw [getD_set_ne true hjk] at hun; exact hun
      refine qOp_mono (fun a' h3 => ih (listed.setIfInBounds j true) a' (closedL_set hc hj) hfree' (ready_mono hr (Ne.symm hji)) h3.1 ?_) h2
      rw [Array.setIfInBounds_comm _ _ hji]
      exact h3.2
/-- The order of the text, over the first 'n' operations. -/
def leadFrom (md : Region.Mode) (ops : Array Oper) (n : Nat) : Nat → Nat → Array Bool → Bool
  | 0, _, listed => decide (listed = finL ops n)
  | fuel + 1, k, listed => decide (k < n) && (Region.ready md ops listed).contains k && Region.free md ops listed k && leadFrom md ops n fuel (k + 1) (listed.setIfInBounds k true)
def leadB (md : Region.Mode) (ops : Array Oper) (n : Nat) : Bool := Region.noSelect ops && waitedB md ops n && leadFrom md ops n n 0 (Array.replicate ops.size false)
theorem wpLead_lex {n : Nat} {Q : Act → Prop} (hs : Region.noSelect ops = true) (hw : waitedB md ops n = true) : ∀ (l : List Oper) (k : Nat) (listed : Array Bool) (a : Act), closedL md ops listed → (∀ j, j < l.length → l[j]? = ops[k + j]?) →
    leadFrom md ops n l.length k listed = true → wpQuiet P ops C Q l a → wpLead P md ops C n Q l.length listed a
  | [], _, listed, _, _, _, hB, h => by
    simp only [List.length_nil, leadFrom, decide_eq_true_eq] at hB
    exact ⟨hB, h⟩
  | o :: l, k, listed, a, hc, hl, hB, h => by
    have h0 : ops[k]? = some o := by simpa using (hl 0 (by simp)).symm
    simp only [List.length_cons, leadFrom, Bool.and_eq_true, decide_eq_true_eq] at hB
    obtain ⟨⟨⟨hkn, hr⟩, hf⟩, hB'⟩ := hB
    have hr' : k ∈ Region.ready md ops listed := by simpa using hr
    have hst : qOp P ops C k (wpQuiet P ops C Q l) a := by unfold qOp; simp only [h0]; exact h
    obtain ⟨v, hy, hK⟩ := yieldsIn_of_qOp h0 hst
    exact wpLead_first h0 hkn (Region.noSelect_spec hs) hw l.length listed a hc (Region.free_spec h0 hf) hr' hy
      (wpLead_lex hs hw l (k + 1) _ _ (closedL_set hc hr') (fun j hj => by have := hl (j + 1) (by simp; omega); simpa [Nat.add_assoc, Nat.add_comm 1 j] using this) hB' hK)
theorem wpAny_of_lead {n m : Nat} {Q : Act → Prop} {Q' : Exit → Act → World → Prop} (hQ : ∀ a w, C w → Q a → wpAny P md ops Q' m (finL ops n) a w) : ∀ (fuel : Nat) (listed : Array Bool) (a : Act) (w : World), C w →
    wpLead P md ops C n Q fuel listed a → wpAny P md ops Q' (m + fuel) listed a w
  | 0, listed, a, w, hw, ⟨h1, h2⟩ => by subst h1; exact hQ a w hw h2
  | fuel + 1, listed, a, w, hw, ⟨h1, h2, h3⟩ =>
    ⟨fun h0 => absurd h0 h2, fun i hi => wpOp_of_qOp hw (fun a' w' hw' => wpAny_of_lead hQ fuel _ a' w' hw') (h3 i hi)⟩
/-- **The region's walk**: the order of the text over the first 'n' operations, each quiet in the class; then the others, in whatever order, in any world of the class. -/
theorem wp_region_lead {id : Nat} {Q : Exit → Act → World → Prop} {a : Act} {w : World} {l : List Oper} (n m : Nat) (hm : P.follows .mixedOrders = true) (hz : l.length = m + n) (hB : leadB .any l.toArray n = true) (hC : C { w with drawn := w.drawn + 1 })
    (h : wpQuiet P l.toArray C (fun a' => ∀ w', C w' → wpAny P .any l.toArray Q m (finL l.toArray n) a' w') (l.take n) a) : (Code.region id l.toArray true).wp P Q a w := by
  simp only [leadB, Bool.and_eq_true] at hB
  refine wp_region_any hm ?_
  have hl : (l.take n).length = n := by rw [List.length_take]; omega
  have key := wpLead_lex (C := C) (P := P) (md := .any) hB.1.1 hB.1.2 (l.take n) 0 (Array.replicate l.toArray.size false) a (by
    intro j oj hj hlj
    have := (Array.getElem?_eq_some_iff.1 hj).1
    simp at this
    simp [this] at hlj) (by intro j hj; rw [hl] at hj; simp [List.getElem?_take, hj]) (by rw [hl]; exact hB.2) h
  rw [hl] at key
  have := wpAny_of_lead (Q' := Q) (m := m) (fun _ w' hw' (h : ∀ w', C w' → wpAny P .any l.toArray Q m (finL l.toArray n) _ w') => h w' hw') n _ _ _ hC key
  rw [show l.toArray.size = m + n by simp [hz]]
  rw [show l.toArray.size = m + n by simp [hz]] at this
  exact this
/-- The same, in the class of the worlds that are as 'w' below block 'B'. -/
theorem region_lead {id B : Nat} {Q : Exit → Act → World → Prop} {a : Act} {w : World} {l : List Oper} (n m : Nat) (hm : P.follows .mixedOrders = true) (hz : l.length = m + n) (hB : leadB .any l.toArray n = true)
    (h : wpQuiet P l.toArray (fun w' => ∃ x : Later B w, w' = x.u) (fun a' => ∀ w', (∃ x : Later B w, w' = x.u) → wpAny P .any l.toArray Q m (finL l.toArray n) a' w') (l.take n) a) : (Code.region id l.toArray true).wp P Q a w :=
  wp_region_lead (C := fun w' => ∃ x : Later B w, w' = x.u) n m hm hz hB ⟨⟨w.drew, (Below.refl B w).drew⟩, rfl⟩ h
theorem lead_tail {n m B : Nat} {Q : Exit → Act → World → Prop} {a : Act} {w : World} {fin : Array Bool} (hf : finL ops n = fin)
    (h : ∀ w', Below B w w' → wpAny P .any ops Q m fin a w') :
    wpQuiet P ops (fun w' => ∃ x : Later B w, w' = x.u) (fun a' => ∀ w', (∃ x : Later B w, w' = x.u) → wpAny P .any ops Q m (finL ops n) a' w') [] a :=
  wpQuiet_nil fun w' ⟨x, e⟩ => by subst e; rw [hf]; exact h _ x.h
/-- One operation alone is left. -/
theorem lead_end {n B : Nat} {o : Oper} {Q : Exit → Act → World → Prop} {a : Act} {w : World} (hr : Region.ready .any ops (finL ops n) = [n]) (he : Region.ready .any ops ((finL ops n).setIfInBounds n true) = []) (ho : ops[n]? = some o)
    (h : ∀ w', Below B w w' → ∀ K : Act → World → Prop, Shut (∀ a w, Q .normal a w → K a w) → if Region.wanted o (yielded ops a.tmps) = true then Oper.wp P o a w' K Q else K (a.put o.dst undef) w') :
    wpQuiet P ops (fun w' => ∃ x : Later B w, w' = x.u) (fun a' => ∀ w', (∃ x : Later B w, w' = x.u) → wpAny P .any ops Q 1 (finL ops n) a' w') [] a :=
  wpQuiet_nil fun w' ⟨x, e⟩ => by
    subst e
    refine wpAny_ready hr (by simp) (AllReady.cons ho (fun K hK => h _ x.h K fun a w hq => hK a w ?_) AllReady.nil)
    exact wpAny_done he hq _
end
end Go.Proofs.Ytfiokjenfmpmlaa
