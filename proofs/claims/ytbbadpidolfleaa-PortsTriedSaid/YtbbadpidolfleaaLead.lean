/- A region that draws its order, whose last operations wait for all others (stores of what those have reckoned): the others by one walk of the order of the text, in a class of worlds (the library's law of quiet regions, for that part alone); then the last ones, in any world of the class. -/
import Derived.Test.YtbbadpidolfleaaGb
import Derived.RegionTactic
import Derived.Deep.RegionHeld
import Derived.Deep.DrawnRows
namespace Go.Proofs.Ytbbadpidolfleaa
set_option linter.unusedVariables false
set_option linter.unusedSimpArgs false
open Go.ChangeShapes Go.WideShapes Go.ChangeAt Go.RowKit
section
variable {P : Program} {ops part : Array Oper} {md : Region.Mode} {C : World → Prop} {n m : Nat} {suf : Array Bool}
/-- The part's list, behind it the rest's. -/
def bigL (listed suf : Array Bool) : Array Bool := listed ++ suf
theorem bigL_lt {listed : Array Bool} {j : Nat} (d : Bool) (h : j < listed.size) : (bigL listed suf).getD j d = listed.getD j d := by
  have : (bigL listed suf)[j]? = listed[j]? := Array.getElem?_append_left h
  simp [Array.getD_eq_getD_getElem?, this]
theorem bigL_ge {listed : Array Bool} {j : Nat} (d : Bool) (h : listed.size ≤ j) : (bigL listed suf).getD j d = suf.getD (j - listed.size) d := by
  have : (bigL listed suf)[j]? = suf[j - listed.size]? := Array.getElem?_append_right h
  simp only [Array.getD_eq_getD_getElem?, this]
theorem bigL_set {listed : Array Bool} {j : Nat} (h : j < listed.size) : bigL (listed.setIfInBounds j true) suf = (bigL listed suf).setIfInBounds j true := by
  unfold bigL
  exact (Array.setIfInBounds_append_left h).symm
/-- What stands listed has all listed that it waits for. -/
def shutL (md : Region.Mode) (ops : Array Oper) (listed : Array Bool) : Prop :=
  ∀ (j : Nat) (o : Oper), ops[j]? = some o → listed.getD j false = true → ∀ e ∈ o.after, Region.binds md e = true → listed.getD e.on false = true
/-- Operation 'j' waits for operation 'i'. -/
def waitsB (md : Region.Mode) (ops : Array Oper) (i j : Nat) : Bool := match ops[j]? with
  | some o => o.after.any fun e => Region.binds md e && e.on == i
  | none => false
theorem waitsB_spec {i j : Nat} (h : waitsB md ops i j = true) : ∃ o, ops[j]? = some o ∧ ∃ e ∈ o.after, Region.binds md e = true ∧ e.on = i := by
  unfold waitsB at h
  cases ho : ops[j]? with
  | none => simp [ho] at h
  | some o =>
    simp only [ho, Array.any_eq_true] at h
    obtain ⟨k, hk, he⟩ := h
    simp only [Bool.and_eq_true, beq_iff_eq] at he
    exact ⟨o, rfl, _, Array.getElem_mem hk, he.1, he.2⟩
/-- For each of the first 'n' operations one later one of them waits, or all of the rest that have not come up do; the first 'n' wait for earlier ones alone, and are guarded by them; what has come up of the rest waited for nothing else. -/
def leadsB (md : Region.Mode) (ops : Array Oper) (n : Nat) (suf : Array Bool) : Bool :=
  (((List.range n).all fun i => ((List.range n).any fun j => decide (i < j) && waitsB md ops i j) || (List.range ops.size).all fun j => decide (j < n) || suf.getD (j - n) true || (waitsB md ops i j || (List.range ops.size).any fun k => decide (n ≤ k) && !suf.getD (k - n) true && waitsB md ops k j)) &&
  (List.range ops.size).all fun j => !(bigL (Array.replicate n false) suf).getD j false || match ops[j]? with
    | some o => o.after.all fun e => !Region.binds md e || (bigL (Array.replicate n false) suf).getD e.on false
    | none => true) &&
  (List.range n).all fun i => match ops[i]? with
    | some o => (o.after.all fun e => !Region.binds md e || decide (e.on < i)) && (match o.guard with | some (g, _) => decide (g < n) | none => true)
    | none => false
theorem leadsB_waits (h : leadsB md ops n suf = true) {i : Nat} (hi : i < n) : (∃ j, i < j ∧ j < n ∧ waitsB md ops i j = true) ∨ ∀ j, j < ops.size → n ≤ j → suf.getD (j - n) true = false → waitsB md ops i j = true ∨ ∃ k, n ≤ k ∧ suf.getD (k - n) true = false ∧ waitsB md ops k j = true := by
  simp only [leadsB, Bool.and_eq_true, List.all_eq_true, List.mem_range] at h
  have h1 := h.1.1 i hi
  simp only [Bool.or_eq_true, List.any_eq_true, List.all_eq_true, List.mem_range, decide_eq_true_eq, Bool.and_eq_true, Bool.not_eq_true'] at h1
  refine h1.imp (fun ⟨j, h, h', h''⟩ => ⟨j, h', h, h''⟩) fun h j h1 h2 h3 => ?_
  rcases h j h1 with (h4 | h4) | h4 | ⟨k, h5, ⟨h6, h7⟩, h8⟩
  · omega
  · rw [h3] at h4; cases h4
  · exact .inl h4
  · exact .inr ⟨k, h6, h7, h8⟩
theorem leadsB_shut (h : leadsB md ops n suf = true) : shutL md ops (bigL (Array.replicate n false) suf) := by
  simp only [leadsB, Bool.and_eq_true, List.all_eq_true, List.mem_range] at h
  intro j o hj hl e he hb
  have h1 := h.1.2 j (Array.getElem?_eq_some_iff.1 hj).1
  rw [hl, hj] at h1
  simp only [Bool.not_true, Bool.false_or] at h1
  have := Array.all_eq_true_iff_forall_mem.1 h1 e he
  simpa [hb] using this
theorem leadsB_back (h : leadsB md ops n suf = true) {i : Nat} (hi : i < n) : ∃ o, ops[i]? = some o ∧ (∀ e ∈ o.after, Region.binds md e = true → e.on < i) ∧ ∀ g b, o.guard = some (g, b) → g < n := by
  simp only [leadsB, Bool.and_eq_true, List.all_eq_true, List.mem_range] at h
  have h1 := h.2 i hi
  cases ho : ops[i]? with
  | none => simp [ho] at h1
  | some o =>
    simp only [ho, Bool.and_eq_true] at h1
    refine ⟨o, rfl, fun e he hb => ?_, fun g b hg => ?_⟩
    · have := Array.all_eq_true_iff_forall_mem.1 h1.1 e he
      simpa [hb] using this
    · have := h1.2
      rw [hg] at this
      simpa using this
theorem getD_both {listed : Array Bool} {j : Nat} (h : j < listed.size) : listed.getD j true = listed.getD j false := by
  simp [h]
/-- Where a later operation comes up, all of the part have. -/
theorem all_listed {listed : Array Bool} (hz : listed.size = n) (hB : leadsB md ops n suf = true) (hs : shutL md ops (bigL listed suf)) {t : Nat} (ht : n ≤ t) (hr : t ∈ Region.ready md ops (bigL listed suf)) :
    ∀ k i, i + k + 1 = n → listed.getD i false = true := by
  intro k
  induction k using Nat.strongRecOn with
  | _ k ih =>
    intro i hi
    obtain ⟨_, o, ho, hall⟩ := mem_ready.1 hr
    have h0 : (bigL listed suf).getD i false = true := by
      rcases leadsB_waits hB (show i < n by omega) with ⟨j, hij, hjn, hw⟩ | hw
      · obtain ⟨oj, hoj, e, he, hb, heq⟩ := waitsB_spec hw
        have hj : (bigL listed suf).getD j false = true := by rw [bigL_lt false (by omega)]; exact ih (n - 1 - j) (by omega) j (by omega)
        rw [← heq]; exact hs j oj hoj hj e he hb
      · rcases hw t (Array.getElem?_eq_some_iff.1 ho).1 ht (by
          have := (mem_ready.1 hr).1
          rwa [bigL_ge true (by omega), hz] at this) with hw1 | ⟨k, hk, hs1, hw1⟩
        · obtain ⟨ot, hot, e, he, hb, heq⟩ := waitsB_spec hw1
          rw [ho] at hot; obtain rfl : o = ot := by simpa using hot
          rw [← heq]; exact hall e he hb
        · obtain ⟨ot, hot, e, he, hb, heq⟩ := waitsB_spec hw1
          rw [ho] at hot; obtain rfl : o = ot := by simpa using hot
          have h9 := hall e he hb
          rw [heq, bigL_ge false (by omega), hz] at h9
          exfalso
          simp only [Array.getD_eq_getD_getElem?] at h9 hs1
          cases hx : suf[k - n]? with
          | none => rw [hx] at hs1; cases hs1
          | some b => rw [hx] at hs1 h9; rw [show b = false from hs1] at h9; cases h9
    rwa [bigL_lt false (by omega)] at h0
/-- Where none of the part may come up, all of it have. -/
theorem none_ready {listed : Array Bool} (hz : listed.size = n) (hp : part.size = n) (he : ∀ i, i < n → part[i]? = ops[i]?) (hB : leadsB md ops n suf = true) (hr : Region.ready md part listed = []) : ∀ i, i < n → listed.getD i false = true := by
  intro i
  induction i using Nat.strongRecOn with
  | _ i ih =>
    intro hi
    obtain ⟨o, ho, hback, _⟩ := leadsB_back hB hi
    cases hl : listed.getD i false with
    | true => rfl
    | false =>
      have : i ∈ Region.ready md part listed := mem_ready.2 ⟨by rw [getD_both (by omega)]; exact hl, o, by rw [he i hi]; exact ho, fun e hm hb => ih e.on (hback e hm hb) (by have := hback e hm hb; omega)⟩
      rw [hr] at this; cases this
theorem yielded_part (he : ∀ i, i < n → part[i]? = ops[i]?) {tmps : Array Value} {j : Nat} (hj : j < n) : yielded part tmps j = yielded ops tmps j := by
  unfold yielded; rw [he j hj]
theorem wanted_part (he : ∀ i, i < n → part[i]? = ops[i]?) {o : Oper} (hg : ∀ g b, o.guard = some (g, b) → g < n) {tmps : Array Value} : Region.wanted o (yielded part tmps) = Region.wanted o (yielded ops tmps) := by
  unfold Region.wanted
  cases hgd : o.guard with
  | none => rfl
  | some x => obtain ⟨g, b⟩ := x; simp only [yielded_part he (hg g b hgd)]
/-- An order of the part, then the rest: an order of the whole. -/
theorem wpAny_of_part {Q : Act → Prop} {Q' : Exit → Act → World → Prop} (hp : part.size = n) (he : ∀ i, i < n → part[i]? = ops[i]?) (hB : leadsB md ops n suf = true)
    (hQ : ∀ f a w, C w → Q a → wpAny P md ops Q' (f + m) (bigL (Array.replicate n true) suf) a w) :
    ∀ (fuel : Nat) (listed : Array Bool) (a : Act) (w : World), C w → listed.size = n → shutL md ops (bigL listed suf) → wpAnyQ P md part C Q fuel listed a → wpAny P md ops Q' (fuel + m) (bigL listed suf) a w := by
  have full : ∀ listed : Array Bool, listed.size = n → (∀ i, i < n → listed.getD i false = true) → listed = Array.replicate n true := by
    intro listed hz h
    apply Array.ext (by simp [hz])
    intro i h1 h2
    have := h i (by omega)
    simpa [h1] using this
  intro fuel
  induction fuel with
  | zero =>
    intro listed a w hC hz hs h
    rw [full listed hz (none_ready hz hp he hB h.1)]
    exact hQ 0 a w hC h.2
  | succ fuel ih =>
    intro listed a w hC hz hs h
    by_cases hr : Region.ready md part listed = []
    · rw [full listed hz (none_ready hz hp he hB hr)]
      exact hQ (fuel + 1) a w hC (h.1 hr)
    · have sub : ∀ i, i < n → (i ∈ Region.ready md ops (bigL listed suf) ↔ i ∈ Region.ready md part listed) := by
        intro i hi
        obtain ⟨o, ho, hback, _⟩ := leadsB_back hB hi
        rw [mem_ready, mem_ready, bigL_lt true (by omega), he i hi, ho]
        refine and_congr Iff.rfl ⟨?_, ?_⟩
        · rintro ⟨o', h1, h2⟩
          obtain rfl : o = o' := by simpa using h1
          exact ⟨o, rfl, fun e hm hb => by have := h2 e hm hb; rwa [bigL_lt false (by have := hback e hm hb; omega)] at this⟩
        · rintro ⟨o', h1, h2⟩
          obtain rfl : o = o' := by simpa using h1
          exact ⟨o, rfl, fun e hm hb => by rw [bigL_lt false (by have := hback e hm hb; omega)]; exact h2 e hm hb⟩
      have low : ∀ i, i ∈ Region.ready md ops (bigL listed suf) → i < n := by
        intro i hi
        rcases Nat.lt_or_ge i n with h' | h'
        · exact h'
        · refine absurd ?_ hr
          refine List.eq_nil_iff_forall_not_mem.2 fun k hk => ?_
          have hkn : k < n := by
            obtain ⟨_, o, ho, _⟩ := mem_ready.1 hk
            have := (Array.getElem?_eq_some_iff.1 ho).1; omega
          have := all_listed hz hB hs h' hi (n - 1 - k) k (by omega)
          have h2 := (mem_ready.1 hk).1
          rw [getD_both (by omega), this] at h2
          cases h2
      rw [show fuel + 1 + m = (fuel + m) + 1 by omega]
      refine ⟨fun h0 => absurd (List.eq_nil_iff_forall_not_mem.2 fun k hk => ?_) hr, fun i hi => ?_⟩
      · have hkn : k < n := by
          obtain ⟨_, o, ho, _⟩ := mem_ready.1 hk
          have := (Array.getElem?_eq_some_iff.1 ho).1; omega
        have := (sub k hkn).2 hk
        rw [h0] at this; cases this
      · have hin := low i hi
        obtain ⟨o, ho, hback, hg⟩ := leadsB_back hB hin
        have hq := h.2 i ((sub i hin).1 hi)
        have hs' : shutL md ops (bigL (listed.setIfInBounds i true) suf) := by
          rw [bigL_set (by omega)]
          intro j oj hj hl e hm hb
          by_cases hij : i = j
          · subst hij
            obtain ⟨_, o', ho', hall⟩ := mem_ready.1 hi
            rw [hj] at ho'; obtain rfl : oj = o' := by simpa using ho'
            exact getD_set_true (hall e hm hb)
          · rw [getD_set_ne false hij] at hl
            exact getD_set_true (hs j oj hj hl e hm hb)
        have hq2 : qOp P ops C i (wpAnyQ P md part C Q fuel (listed.setIfInBounds i true)) a := by
          unfold qOp at hq ⊢
          rw [he i hin, ho] at hq
          rw [ho]
          simp only at hq ⊢
          rwa [wanted_part he hg] at hq
        refine wpOp_of_qOp hC (fun a' w' hw' h' => ?_) hq2
        rw [← bigL_set (by omega)]
        exact ih _ a' w' hw' (by simp [hz]) hs' h'
/-- **The walk**: where what has come up of the rest stands in 'suf': the order of the text over the first 'n' operations, each quiet in the class; then the others, in whatever order, in any world of the class. -/
theorem wpAny_lead {Q : Exit → Act → World → Prop} {a : Act} {w : World} {l : List Oper} {listed : Array Bool} {F : Nat} (n m : Nat) (suf : Array Bool) (hF : F = n + m) (hl : listed = bigL (Array.replicate n false) suf) (hz : (l.take n).length = n) (hB : leadsB .any l.toArray n suf = true) (hL : Region.lexB .any (l.take n).toArray = true) (hC : C w)
    (h : wpQuiet P (l.take n).toArray C (fun a' => ∀ f w', C w' → wpAny P .any l.toArray Q (f + m) (bigL (Array.replicate n true) suf) a' w') (l.take n) a) : wpAny P .any l.toArray Q F listed a w := by
  have hp : (l.take n).toArray.size = n := by simpa using hz
  simp only [Region.lexB, Bool.and_eq_true] at hL
  have key := wpAnyQ_lex (C := C) (P := P) (md := .any) hL.1 (l.take n) 0 (Array.replicate n false) a (by simp) (by
    have := hL.2
    rw [hp] at this
    rw [hz]
    exact this) h
  have := wpAny_of_part (m := m) (Q' := Q) hp (by intro i hi; simp [List.getElem?_take, hi]) hB (fun f a w hw hq => hq f w hw) _ _ _ _ hC (by simp) (leadsB_shut hB) key
  rw [hz] at this
  rw [hF, hl]
  exact this
/-- A region from its beginning on. -/
theorem wp_region_lead {id : Nat} {Q : Exit → Act → World → Prop} {a : Act} {w : World} {l : List Oper} (n m : Nat) (hm : P.follows .mixedOrders = true) (hz : l.length = n + m) (hB : leadsB .any l.toArray n (Array.replicate m false) = true) (hL : Region.lexB .any (l.take n).toArray = true) (hC : C { w with drawn := w.drawn + 1 })
    (h : wpQuiet P (l.take n).toArray C (fun a' => ∀ f w', C w' → wpAny P .any l.toArray Q (f + m) (bigL (Array.replicate n true) (Array.replicate m false)) a' w') (l.take n) a) : (Code.region id l.toArray true).wp P Q a w :=
  wp_region_any hm (wpAny_lead n m (Array.replicate m false) (by simp [hz]) (by unfold bigL; simp [hz]) (by simp; omega) hB hL hC h)
/-- The same, in the class of the worlds that are as 'w' below block 'B'. -/
theorem region_lead {id B : Nat} {Q : Exit → Act → World → Prop} {a : Act} {w : World} {l : List Oper} (n m : Nat) (hm : P.follows .mixedOrders = true) (hz : l.length = n + m) (hB : leadsB .any l.toArray n (Array.replicate m false) = true) (hL : Region.lexB .any (l.take n).toArray = true)
    (h : wpQuiet P (l.take n).toArray (fun w' => ∃ x : Later B w, w' = x.u) (fun a' => ∀ f w', (∃ x : Later B w, w' = x.u) → wpAny P .any l.toArray Q (f + m) (bigL (Array.replicate n true) (Array.replicate m false)) a' w') (l.take n) a) : (Code.region id l.toArray true).wp P Q a w :=
  wp_region_lead (C := fun w' => ∃ x : Later B w, w' = x.u) n m hm hz hB hL ⟨⟨w.drew, (Below.refl B w).drew⟩, rfl⟩ h
/-- From where some of the rest have come up. -/
theorem any_lead {B F : Nat} {Q : Exit → Act → World → Prop} {a : Act} {w : World} {l : List Oper} {listed : Array Bool} (n m : Nat) (suf : Array Bool) (hF : F = n + m) (hl : listed = bigL (Array.replicate n false) suf) (hz : (l.take n).length = n) (hB : leadsB .any l.toArray n suf = true) (hL : Region.lexB .any (l.take n).toArray = true)
    (h : wpQuiet P (l.take n).toArray (fun w' => ∃ x : Later B w, w' = x.u) (fun a' => ∀ f w', (∃ x : Later B w, w' = x.u) → wpAny P .any l.toArray Q (f + m) (bigL (Array.replicate n true) suf) a' w') (l.take n) a) : wpAny P .any l.toArray Q F listed a w.drew :=
  wpAny_lead (C := fun w' => ∃ x : Later B w, w' = x.u) n m suf hF hl hz hB hL ⟨⟨w.drew, (Below.refl B w).drew⟩, rfl⟩ h
theorem lead_tail {B : Nat} {Q : Exit → Act → World → Prop} {a : Act} {w : World} {fin : Array Bool} (hf : bigL (Array.replicate n true) suf = fin)
    (h : ∀ f w', Below B w w' → wpAny P .any ops Q (f + m) fin a w') :
    wpQuiet P part (fun w' => ∃ x : Later B w, w' = x.u) (fun a' => ∀ f w', (∃ x : Later B w, w' = x.u) → wpAny P .any ops Q (f + m) (bigL (Array.replicate n true) suf) a' w') [] a :=
  wpQuiet_nil fun f w' ⟨y, e'⟩ => by subst e'; rw [hf]; exact h f _ y.h
/-- One operation alone is left. -/
theorem lead_end {B : Nat} {o : Oper} {Q : Exit → Act → World → Prop} {a : Act} {w : World} (hr : Region.ready .any ops (bigL (Array.replicate n true) (Array.replicate 1 false)) = [n]) (he : Region.ready .any ops ((bigL (Array.replicate n true) (Array.replicate 1 false)).setIfInBounds n true) = []) (ho : ops[n]? = some o)
    (h : ∀ w', Below B w w' → ∀ K : Act → World → Prop, Shut (∀ a w, Q .normal a w → K a w) → if Region.wanted o (yielded ops a.tmps) = true then Oper.wp P o a w' K Q else K (a.put o.dst undef) w') :
    wpQuiet P part (fun w' => ∃ x : Later B w, w' = x.u) (fun a' => ∀ f w', (∃ x : Later B w, w' = x.u) → wpAny P .any ops Q (f + 1) (bigL (Array.replicate n true) (Array.replicate 1 false)) a' w') [] a :=
  wpQuiet_nil fun f w' ⟨y, e'⟩ => by
    subst e'
    exact wpAny_ready hr (by simp) (AllReady.cons ho (fun K hK => h _ y.h K fun a w hq => hK a w (wpAny_done he hq _)) AllReady.nil)
end
end Go.Proofs.Ytbbadpidolfleaa
