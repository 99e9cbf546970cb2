/- Texts of this proof, together: Text, Box4, Lead, Box8, Box5, Box10, Box9, ShelfStr, Map. -/
import Derived.Test.YtbpicngbjggblaaGreatDoorGd
import Derived.Test.YtbpicngbjggblaaGreatDoorGb
import Derived.Test.YtbpicngbjggblaaGreatDoorGa
import Derived.PlainAid
import Derived.Lib.Bytealg
import Derived.Lib.Hide
import Derived.RegionTactic
import Derived.Deep.RegionHeld
import Derived.Deep.DrawnRows
import Derived.Shelf.LaysM
import Derived.Shelf.Strings.Repeat
import Derived.Shelf.Strconv.Clone
import Derived.Maps.OwnOps
import Derived.Maps.Views
namespace Go.Proofs.YtbpicngbjggblaaGreatDoor
open Go.PlainAid
/-- The text of a list of bytes. -/
def str (l : List UInt8) : ByteArray := ⟨l.toArray⟩
theorem str_data (l : List UInt8) : (str l).data.toList = l := by simp [str]
theorem str_toList (l : List UInt8) : (str l).toList = l := by rw [Lib.toList_data, str_data]
theorem str_size (l : List UInt8) : (str l).size = l.length := by rw [← ByteArray.size_data]; simp [str]
theorem str_ext {a b : ByteArray} (h : a.data.toList = b.data.toList) : a = b := ByteArray.ext (Array.toList_inj.1 h)
theorem str_app (a b : List UInt8) : str a ++ str b = str (a ++ b) := by apply str_ext; simp [str]
theorem str_extract (l : List UInt8) (i j : Nat) : (str l).extract i j = str ((l.take j).drop i) := by
  apply str_ext
  rw [str_data]
  simp [ByteArray.data_extract, List.extract, List.drop_take, str]
theorem str_bt (l : List UInt8) (k : Nat) : bt (str l) k = ((l.getD k 0).toNat : Int) := by
  unfold bt
  by_cases h : k < (str l).size
  · have h' : k < l.length := by rw [← str_size]; exact h
    rw [dif_pos h]
    simp [List.getD, h']
    rfl
  · have h' : l.length ≤ k := by rw [← str_size]; omega
    rw [dif_neg h]
    simp [List.getD, h']
theorem index_app (c : UInt8) : ∀ (a b : List UInt8), c ∉ a → Lib.indexByte (a ++ c :: b) c = (a.length : Int)
  | [], b, _ => by simp [Lib.indexByte]
  | x :: r, b, h => by
    simp at h
    have e := index_app c r b h.2
    have h1 : (x == c) = false := by simpa using Ne.symm h.1
    have h2 : (Lib.indexByte (r ++ c :: b) c == -1) = false := by rw [e]; simp
    simp [Lib.indexByte, h1, h2]
    rw [e]
theorem index_none (c : UInt8) : ∀ (a : List UInt8), c ∉ a → Lib.indexByte a c = -1
  | [], _ => by simp [Lib.indexByte]
  | x :: r, h => by
    simp at h
    have h1 : (x == c) = false := by simpa using Ne.symm h.1
    simp [Lib.indexByte, h1, index_none c r h.2]
end Go.Proofs.YtbpicngbjggblaaGreatDoor
namespace Go.Proofs.YtbpicngbjggblaaGreatDoor
set_option linter.unusedVariables false
set_option linter.unusedSimpArgs false
open Go.ChangeShapes Go.WideShapes Go.ChangeAt Go.RowKit Go.PlainAid
/-- A box of 4 cells that is written whole. -/
theorem box4_ {W0 W : World} {b n : Nat} {v0 v1 v2 v3 : Value} {M : World → Prop} (h : ∀ j, j < 4 → (W.cell? ⟨b, j, none⟩).isSome = true) (hb : Below n W0 W) (hn : n ≤ b)
    (k : ∀ X : World, X.cell? ⟨b, 0, none⟩ = some v0 → X.cell? ⟨b, 1, none⟩ = some v1 → X.cell? ⟨b, 2, none⟩ = some v2 → X.cell? ⟨b, 3, none⟩ = some v3 → Below n W0 X → (∀ a : Addr, ¬ b = a.block → X.cell? a = W.cell? a) → X.heap.size = W.heap.size → M X) :
    M ((((W.setCell ⟨b, 0, none⟩ v0).setCell ⟨b, 1, none⟩ v1).setCell ⟨b, 2, none⟩ v2).setCell ⟨b, 3, none⟩ v3) := by
  have c := World.cell?_setCells_in b [v0, v1, v2, v3] 0 W (by intro j hj; rw [Nat.zero_add]; exact h j hj)
  refine k _ (c 0 (by simp)) (c 1 (by simp)) (c 2 (by simp)) (c 3 (by simp)) ?_ ?_ (by simp)
  rotate_left
  · intro a ha
    rw [World.cell?_setCell_far _ _ _ _ ha, World.cell?_setCell_far _ _ _ _ ha, World.cell?_setCell_far _ _ _ _ ha, World.cell?_setCell_far _ _ _ _ ha]
  exact (((hb.setCell hn _).setCell hn _).setCell hn _).setCell hn _
theorem box4_is {W w1 : World} {b : Nat} {v0 v1 v2 v3 : Value} {t : TypeId} (hb : b = W.heap.size) (hc : ∀ b o, b < (W.alloc (.cells #[v0, v1, v2, v3] t)).heap.size → w1.cell? ⟨b, o, none⟩ = (W.alloc (.cells #[v0, v1, v2, v3] t)).cell? ⟨b, o, none⟩) : ∀ j, j < 4 → (w1.cell? ⟨b, j, none⟩).isSome = true := by
  subst hb
  intro j hj
  rw [hc _ _ (by simp)]
  match j, hj with
  | 0, _ => simp [go_sem]
  | 1, _ => simp [go_sem]
  | 2, _ => simp [go_sem]
  | 3, _ => simp [go_sem]
/-- A box of 4 cells. -/
def Box4 (w : World) (b : Nat) (v0 v1 v2 v3 : Value) : Prop :=
  b < w.heap.size ∧ w.cell? ⟨b, 0, none⟩ = some v0 ∧ w.cell? ⟨b, 1, none⟩ = some v1 ∧ w.cell? ⟨b, 2, none⟩ = some v2 ∧ w.cell? ⟨b, 3, none⟩ = some v3
theorem Box4.on {w w' : World} {b : Nat} {v0 v1 v2 v3 : Value} (h : Box4 w b v0 v1 v2 v3) (hb : Below w.heap.size w w') : Box4 w' b v0 v1 v2 v3 := by
  obtain ⟨h, h0, h1, h2, h3⟩ := h
  exact ⟨Nat.lt_of_lt_of_le h hb.size, (hb.cell (p := ⟨b, 0, none⟩) h).trans h0, (hb.cell (p := ⟨b, 1, none⟩) h).trans h1, (hb.cell (p := ⟨b, 2, none⟩) h).trans h2, (hb.cell (p := ⟨b, 3, none⟩) h).trans h3⟩
theorem Box4.make (w : World) (v0 v1 v2 v3 : Value) (t : TypeId) : Box4 (w.alloc (.cells #[v0, v1, v2, v3] t)) w.heap.size v0 v1 v2 v3 :=
  ⟨by simp, by simp [go_sem], by simp [go_sem], by simp [go_sem], by simp [go_sem]⟩
theorem Box4.past {w : World} {o : Obj} {b : Nat} {v0 v1 v2 v3 : Value} (h : Box4 w b v0 v1 v2 v3) : Box4 (w.alloc o) b v0 v1 v2 v3 := h.on ((Below.refl _ _).alloc (Nat.le_refl _) _)
theorem Box4.far {W X : World} {a b : Nat} {v0 v1 v2 v3 : Value} (h : Box4 W a v0 v1 v2 v3) (hf : ∀ p : Addr, ¬ b = p.block → X.cell? p = W.cell? p) (hn : ¬ b = a) : Box4 X a v0 v1 v2 v3 := by
  obtain ⟨h, h0, h1, h2, h3⟩ := h
  have k0 := (hf ⟨a, 0, none⟩ hn).trans h0
  exact ⟨World.block_lt_of_cell? _ _ k0, k0, (hf ⟨a, 1, none⟩ hn).trans h1, (hf ⟨a, 2, none⟩ hn).trans h2, (hf ⟨a, 3, none⟩ hn).trans h3⟩
theorem Box4.some {W : World} {a : Nat} {v0 v1 v2 v3 : Value} (h : Box4 W a v0 v1 v2 v3) : ∀ j, j < 4 → (W.cell? ⟨a, j, none⟩).isSome = true := by
  obtain ⟨h, h0, h1, h2, h3⟩ := h
  intro j hj
  match j, hj with
  | 0, _ => rw [h0]; rfl
  | 1, _ => rw [h1]; rfl
  | 2, _ => rw [h2]; rfl
  | 3, _ => rw [h3]; rfl
/-- A box of 2 cells that is written whole. -/
theorem box2_ {W0 W : World} {b n : Nat} {v0 v1 : Value} {M : World → Prop} (h : ∀ j, j < 2 → (W.cell? ⟨b, j, none⟩).isSome = true) (hb : Below n W0 W) (hn : n ≤ b)
    (k : ∀ X : World, X.cell? ⟨b, 0, none⟩ = some v0 → X.cell? ⟨b, 1, none⟩ = some v1 → Below n W0 X → (∀ a : Addr, ¬ b = a.block → X.cell? a = W.cell? a) → X.heap.size = W.heap.size → M X) :
    M ((W.setCell ⟨b, 0, none⟩ v0).setCell ⟨b, 1, none⟩ v1) := by
  have c := World.cell?_setCells_in b [v0, v1] 0 W (by intro j hj; rw [Nat.zero_add]; exact h j hj)
  refine k _ (c 0 (by simp)) (c 1 (by simp)) ?_ ?_ (by simp)
  rotate_left
  · intro a ha
    rw [World.cell?_setCell_far _ _ _ _ ha, World.cell?_setCell_far _ _ _ _ ha]
  exact (hb.setCell hn _).setCell hn _
/-- A box of 2 cells. -/
def Box2 (w : World) (b : Nat) (v0 v1 : Value) : Prop :=
  b < w.heap.size ∧ w.cell? ⟨b, 0, none⟩ = some v0 ∧ w.cell? ⟨b, 1, none⟩ = some v1
theorem Box2.on {w w' : World} {b : Nat} {v0 v1 : Value} (h : Box2 w b v0 v1) (hb : Below w.heap.size w w') : Box2 w' b v0 v1 := by
  obtain ⟨h, h0, h1⟩ := h
  exact ⟨Nat.lt_of_lt_of_le h hb.size, (hb.cell (p := ⟨b, 0, none⟩) h).trans h0, (hb.cell (p := ⟨b, 1, none⟩) h).trans h1⟩
theorem Box2.make (w : World) (v0 v1 : Value) (t : TypeId) : Box2 (w.alloc (.cells #[v0, v1] t)) w.heap.size v0 v1 :=
  ⟨by simp, by simp [go_sem], by simp [go_sem]⟩
theorem Box2.past {w : World} {o : Obj} {b : Nat} {v0 v1 : Value} (h : Box2 w b v0 v1) : Box2 (w.alloc o) b v0 v1 := h.on ((Below.refl _ _).alloc (Nat.le_refl _) _)
theorem Box2.far {W X : World} {a b : Nat} {v0 v1 : Value} (h : Box2 W a v0 v1) (hf : ∀ p : Addr, ¬ b = p.block → X.cell? p = W.cell? p) (hn : ¬ b = a) : Box2 X a v0 v1 := by
  obtain ⟨h, h0, h1⟩ := h
  have k0 := (hf ⟨a, 0, none⟩ hn).trans h0
  exact ⟨World.block_lt_of_cell? _ _ k0, k0, (hf ⟨a, 1, none⟩ hn).trans h1⟩
theorem Box2.some {W : World} {a : Nat} {v0 v1 : Value} (h : Box2 W a v0 v1) : ∀ j, j < 2 → (W.cell? ⟨a, j, none⟩).isSome = true := by
  obtain ⟨h, h0, h1⟩ := h
  intro j hj
  match j, hj with
  | 0, _ => rw [h0]; rfl
  | 1, _ => rw [h1]; rfl
end Go.Proofs.YtbpicngbjggblaaGreatDoor
namespace Go.Proofs.YtbpicngbjggblaaGreatDoor
set_option linter.unusedVariables false
set_option linter.unusedSimpArgs false
open Go.ChangeShapes Go.WideShapes Go.ChangeAt Go.RowKit
section
variable {P : Program} {ops part : Array Oper} {md : Region.Mode} {C : World → Prop} {n m : Nat} {suf : Array Bool}
/-- The part's list, behind it the rest's. -/
def bigL (listed suf : Array Bool) : Array Bool := listed ++ suf
theorem bigL_lt {listed : Array Bool} {j : Nat} (d : Bool) (h : j < listed.size) : (bigL listed suf).getD j d = listed.getD j d := by
  have : (bigL listed suf)[j]? = listed[j]? := Array.getElem?_append_left h
  simp [Array.getD_eq_getD_getElem?, this]
theorem bigL_ge {listed : Array Bool} {j : Nat} (d : Bool) (h : listed.size ≤ j) : (bigL listed suf).getD j d = suf.getD (j - listed.size) d := by
  have : (bigL listed suf)[j]? = suf[j - listed.size]? := Array.getElem?_append_right h
  simp only [Array.getD_eq_getD_getElem?, this]
theorem bigL_set {listed : Array Bool} {j : Nat} (h : j < listed.size) : bigL (listed.setIfInBounds j true) suf = (bigL listed suf).setIfInBounds j true := by
  unfold bigL
  exact (Array.setIfInBounds_append_left h).symm
/-- What stands listed has all listed that it waits for. -/
def shutL (md : Region.Mode) (ops : Array Oper) (listed : Array Bool) : Prop :=
  ∀ (j : Nat) (o : Oper), ops[j]? = some o → listed.getD j false = true → ∀ e ∈ o.after, Region.binds md e = true → listed.getD e.on false = true
/-- Operation 'j' waits for operation 'i'. -/
def waitsB (md : Region.Mode) (ops : Array Oper) (i j : Nat) : Bool := match ops[j]? with
  | some o => o.after.any fun e => Region.binds md e && e.on == i
  | none => false
theorem waitsB_spec {i j : Nat} (h : waitsB md ops i j = true) : ∃ o, ops[j]? = some o ∧ ∃ e ∈ o.after, Region.binds md e = true ∧ e.on = i := by
  unfold waitsB at h
  cases ho : ops[j]? with
  | none => simp [ho] at h
  | some o =>
    simp only [ho, Array.any_eq_true] at h
    obtain ⟨k, hk, he⟩ := h
    simp only [Bool.and_eq_true, beq_iff_eq] at he
    exact ⟨o, rfl, _, Array.getElem_mem hk, he.1, he.2⟩
/-- For each of the first 'n' operations one later one of them waits, or all of the rest that have not come up do; the first 'n' wait for earlier ones alone, and are guarded by them; what has come up of the rest waited for nothing else. -/
def leadsB (md : Region.Mode) (ops : Array Oper) (n : Nat) (suf : Array Bool) : Bool :=
  (((List.range n).all fun i => ((List.range n).any fun j => decide (i < j) && waitsB md ops i j) || (List.range ops.size).all fun j => decide (j < n) || suf.getD (j - n) true || waitsB md ops i j) &&
  (List.range ops.size).all fun j => !(bigL (Array.replicate n false) suf).getD j false || match ops[j]? with
    | some o => o.after.all fun e => !Region.binds md e || (bigL (Array.replicate n false) suf).getD e.on false
    | none => true) &&
  (List.range n).all fun i => match ops[i]? with
    | some o => (o.after.all fun e => !Region.binds md e || decide (e.on < i)) && (match o.guard with | some (g, _) => decide (g < n) | none => true)
    | none => false
theorem leadsB_waits (h : leadsB md ops n suf = true) {i : Nat} (hi : i < n) : (∃ j, i < j ∧ j < n ∧ waitsB md ops i j = true) ∨ ∀ j, j < ops.size → n ≤ j → suf.getD (j - n) true = false → waitsB md ops i j = true := by
  simp only [leadsB, Bool.and_eq_true, List.all_eq_true, List.mem_range] at h
  have h1 := h.1.1 i hi
  simp only [Bool.or_eq_true, List.any_eq_true, List.all_eq_true, List.mem_range, decide_eq_true_eq, Bool.and_eq_true] at h1
  refine h1.imp (fun ⟨j, h, h', h''⟩ => ⟨j, h', h, h''⟩) fun h j h1 h2 h3 => ?_
  rcases h j h1 with (h4 | h4) | h4
  · omega
  · rw [h3] at h4; cases h4
  · exact h4
theorem leadsB_shut (h : leadsB md ops n suf = true) : shutL md ops (bigL (Array.replicate n false) suf) := by
  simp only [leadsB, Bool.and_eq_true, List.all_eq_true, List.mem_range] at h
  intro j o hj hl e he hb
  have h1 := h.1.2 j (Array.getElem?_eq_some_iff.1 hj).1
  rw [hl, hj] at h1
  simp only [Bool.not_true, Bool.false_or] at h1
  have := Array.all_eq_true_iff_forall_mem.1 h1 e he
  simpa [hb] using this
theorem leadsB_back (h : leadsB md ops n suf = true) {i : Nat} (hi : i < n) : ∃ o, ops[i]? = some o ∧ (∀ e ∈ o.after, Region.binds md e = true → e.on < i) ∧ ∀ g b, o.guard = some (g, b) → g < n := by
  simp only [leadsB, Bool.and_eq_true, List.all_eq_true, List.mem_range] at h
  have h1 := h.2 i hi
  cases ho : ops[i]? with
  | none => simp [ho] at h1
  | some o =>
    simp only [ho, Bool.and_eq_true] at h1
    refine ⟨o, rfl, fun e he hb => ?_, fun g b hg => ?_⟩
    · have := Array.all_eq_true_iff_forall_mem.1 h1.1 e he
      simpa [hb] using this
    · have := h1.2
      rw [hg] at this
      simpa using this
theorem getD_both {listed : Array Bool} {j : Nat} (h : j < listed.size) : listed.getD j true = listed.getD j false := by
  simp [h]
/-- Where a later operation comes up, all of the part have. -/
theorem all_listed {listed : Array Bool} (hz : listed.size = n) (hB : leadsB md ops n suf = true) (hs : shutL md ops (bigL listed suf)) {t : Nat} (ht : n ≤ t) (hr : t ∈ Region.ready md ops (bigL listed suf)) :
    ∀ k i, i + k + 1 = n → listed.getD i false = true := by
  intro k
  induction k using Nat.strongRecOn with
  | _ k ih =>
    intro i hi
    obtain ⟨_, o, ho, hall⟩ := mem_ready.1 hr
    have h0 : (bigL listed suf).getD i false = true := by
      rcases leadsB_waits hB (show i < n by omega) with ⟨j, hij, hjn, hw⟩ | hw
      · obtain ⟨oj, hoj, e, he, hb, heq⟩ := waitsB_spec hw
        have hj : (bigL listed suf).getD j false = true := by rw [bigL_lt false (by omega)]; exact ih (n - 1 - j) (by omega) j (by omega)
        rw [← heq]; exact hs j oj hoj hj e he hb
      · obtain ⟨ot, hot, e, he, hb, heq⟩ := waitsB_spec (hw t (Array.getElem?_eq_some_iff.1 ho).1 ht (by
          have := (mem_ready.1 hr).1
          rwa [bigL_ge true (by omega), hz] at this))
        rw [ho] at hot; obtain rfl : o = ot := by simpa using hot
        rw [← heq]; exact hall e he hb
    rwa [bigL_lt false (by omega)] at h0
/-- Where none of the part may come up, all of it have. -/
theorem none_ready {listed : Array Bool} (hz : listed.size = n) (hp : part.size = n) (he : ∀ i, i < n → part[i]? = ops[i]?) (hB : leadsB md ops n suf = true) (hr : Region.ready md part listed = []) : ∀ i, i < n → listed.getD i false = true := by
  intro i
  induction i using Nat.strongRecOn with
  | _ i ih =>
    intro hi
    obtain ⟨o, ho, hback, _⟩ := leadsB_back hB hi
    cases hl : listed.getD i false with
    | true => rfl
    | false =>
      have : i ∈ Region.ready md part listed := mem_ready.2 ⟨by rw [getD_both (by omega)]; exact hl, o, by rw [he i hi]; exact ho, fun e hm hb => ih e.on (hback e hm hb) (by have := hback e hm hb; omega)⟩
      rw [hr] at this; cases this
theorem yielded_part (he : ∀ i, i < n → part[i]? = ops[i]?) {tmps : Array Value} {j : Nat} (hj : j < n) : yielded part tmps j = yielded ops tmps j := by
  unfold yielded; rw [he j hj]
theorem wanted_part (he : ∀ i, i < n → part[i]? = ops[i]?) {o : Oper} (hg : ∀ g b, o.guard = some (g, b) → g < n) {tmps : Array Value} : Region.wanted o (yielded part tmps) = Region.wanted o (yielded ops tmps) := by
  unfold Region.wanted
  cases hgd : o.guard with
  | none => rfl
  | some x => obtain ⟨g, b⟩ := x; simp only [yielded_part he (hg g b hgd)]
/-- An order of the part, then the rest: an order of the whole. -/
theorem wpAny_of_part {Q : Act → Prop} {Q' : Exit → Act → World → Prop} (hp : part.size = n) (he : ∀ i, i < n → part[i]? = ops[i]?) (hB : leadsB md ops n suf = true)
    (hQ : ∀ f a w, C w → Q a → wpAny P md ops Q' (f + m) (bigL (Array.replicate n true) suf) a w) :
    ∀ (fuel : Nat) (listed : Array Bool) (a : Act) (w : World), C w → listed.size = n → shutL md ops (bigL listed suf) → wpAnyQ P md part C Q fuel listed a → wpAny P md ops Q' (fuel + m) (bigL listed suf) a w := by
  have full : ∀ listed : Array Bool, listed.size = n → (∀ i, i < n → listed.getD i false = true) → listed = Array.replicate n true := by
    intro listed hz h
    apply Array.ext (by simp [hz])
    intro i h1 h2
    have := h i (by omega)
    simpa [h1] using this
  intro fuel
  induction fuel with
  | zero =>
    intro listed a w hC hz hs h
    rw [full listed hz (none_ready hz hp he hB h.1)]
    exact hQ 0 a w hC h.2
  | succ fuel ih =>
    intro listed a w hC hz hs h
    by_cases hr : Region.ready md part listed = []
    · rw [full listed hz (none_ready hz hp he hB hr)]
      exact hQ (fuel + 1) a w hC (h.1 hr)
    · have sub : ∀ i, i < n → (i ∈ Region.ready md ops (bigL listed suf) ↔ i ∈ Region.ready md part listed) := by
        intro i hi
        obtain ⟨o, ho, hback, _⟩ := leadsB_back hB hi
        rw [mem_ready, mem_ready, bigL_lt true (by omega), he i hi, ho]
        refine and_congr Iff.rfl ⟨?_, ?_⟩
        · rintro ⟨o', h1, h2⟩
          obtain rfl : o = o' := by simpa using h1
          exact ⟨o, rfl, fun e hm hb => by have := h2 e hm hb; rwa [bigL_lt false (by have := hback e hm hb; omega)] at this⟩
        · rintro ⟨o', h1, h2⟩
          obtain rfl : o = o' := by simpa using h1
          exact ⟨o, rfl, fun e hm hb => by rw [bigL_lt false (by have := hback e hm hb; omega)]; exact h2 e hm hb⟩
      have low : ∀ i, i ∈ Region.ready md ops (bigL listed suf) → i < n := by
        intro i hi
        rcases Nat.lt_or_ge i n with h' | h'
        · exact h'
        · refine absurd ?_ hr
          refine List.eq_nil_iff_forall_not_mem.2 fun k hk => ?_
          have hkn : k < n := by
            obtain ⟨_, o, ho, _⟩ := mem_ready.1 hk
            have := (Array.getElem?_eq_some_iff.1 ho).1; omega
          have := all_listed hz hB hs h' hi (n - 1 - k) k (by omega)
          have h2 := (mem_ready.1 hk).1
          rw [getD_both (by omega), this] at h2
          cases h2
      rw [show fuel + 1 + m = (fuel + m) + 1 by omega]
      refine ⟨fun h0 => absurd (List.eq_nil_iff_forall_not_mem.2 fun k hk => ?_) hr, fun i hi => ?_⟩
      · have hkn : k < n := by
          obtain ⟨_, o, ho, _⟩ := mem_ready.1 hk
          have := (Array.getElem?_eq_some_iff.1 ho).1; omega
        have := (sub k hkn).2 hk
        rw [h0] at this; cases this
      · have hin := low i hi
        obtain ⟨o, ho, hback, hg⟩ := leadsB_back hB hin
        have hq := h.2 i ((sub i hin).1 hi)
        have hs' : shutL md ops (bigL (listed.setIfInBounds i true) suf) := by
          rw [bigL_set (by omega)]
          intro j oj hj hl e hm hb
          by_cases hij : i = j
          · subst hij
            obtain ⟨_, o', ho', hall⟩ := mem_ready.1 hi
            rw [hj] at ho'; obtain rfl : oj = o' := by simpa using ho'
            exact getD_set_true (hall e hm hb)
          · rw [getD_set_ne false hij] at hl
            exact getD_set_true (hs j oj hj hl e hm hb)
        have hq2 : qOp P ops C i (wpAnyQ P md part C Q fuel (listed.setIfInBounds i true)) a := by
          unfold qOp at hq ⊢
          rw [he i hin, ho] at hq
          rw [ho]
          simp only at hq ⊢
          rwa [wanted_part he hg] at hq
        refine wpOp_of_qOp hC (fun a' w' hw' h' => ?_) hq2
        rw [← bigL_set (by omega)]
        exact ih _ a' w' hw' (by simp [hz]) hs' h'
/-- **The walk**: where what has come up of the rest stands in 'suf': the order of the text over the first 'n' operations, each quiet in the class; then the others, in whatever order, in any world of the class. -/
theorem wpAny_lead {Q : Exit → Act → World → Prop} {a : Act} {w : World} {l : List Oper} {listed : Array Bool} {F : Nat} (n m : Nat) (suf : Array Bool) (hF : F = n + m) (hl : listed = bigL (Array.replicate n false) suf) (hz : (l.take n).length = n) (hB : leadsB .any l.toArray n suf = true) (hL : Region.lexB .any (l.take n).toArray = true) (hC : C w)
    (h : wpQuiet P (l.take n).toArray C (fun a' => ∀ f w', C w' → wpAny P .any l.toArray Q (f + m) (bigL (Array.replicate n true) suf) a' w') (l.take n) a) : wpAny P .any l.toArray Q F listed a w := by
  have hp : (l.take n).toArray.size = n := by simpa using hz
  simp only [Region.lexB, Bool.and_eq_true] at hL
  have key := wpAnyQ_lex (C := C) (P := P) (md := .any) hL.1 (l.take n) 0 (Array.replicate n false) a (by simp) (by
    have := hL.2
    rw [hp] at this
    rw [hz]
    exact this) h
  have := wpAny_of_part (m := m) (Q' := Q) hp (by intro i hi; simp [List.getElem?_take, hi]) hB (fun f a w hw hq => hq f w hw) _ _ _ _ hC (by simp) (leadsB_shut hB) key
  rw [hz] at this
  rw [hF, hl]
  exact this
/-- A region from its beginning on. -/
theorem wp_region_lead {id : Nat} {Q : Exit → Act → World → Prop} {a : Act} {w : World} {l : List Oper} (n m : Nat) (hm : P.follows .mixedOrders = true) (hz : l.length = n + m) (hB : leadsB .any l.toArray n (Array.replicate m false) = true) (hL : Region.lexB .any (l.take n).toArray = true) (hC : C { w with drawn := w.drawn + 1 })
    (h : wpQuiet P (l.take n).toArray C (fun a' => ∀ f w', C w' → wpAny P .any l.toArray Q (f + m) (bigL (Array.replicate n true) (Array.replicate m false)) a' w') (l.take n) a) : (Code.region id l.toArray true).wp P Q a w :=
  wp_region_any hm (wpAny_lead n m (Array.replicate m false) (by simp [hz]) (by unfold bigL; simp [hz]) (by simp; omega) hB hL hC h)
/-- The same, in the class of the worlds that are as 'w' below block 'B'. -/
theorem region_lead {id B : Nat} {Q : Exit → Act → World → Prop} {a : Act} {w : World} {l : List Oper} (n m : Nat) (hm : P.follows .mixedOrders = true) (hz : l.length = n + m) (hB : leadsB .any l.toArray n (Array.replicate m false) = true) (hL : Region.lexB .any (l.take n).toArray = true)
    (h : wpQuiet P (l.take n).toArray (fun w' => ∃ x : Later B w, w' = x.u) (fun a' => ∀ f w', (∃ x : Later B w, w' = x.u) → wpAny P .any l.toArray Q (f + m) (bigL (Array.replicate n true) (Array.replicate m false)) a' w') (l.take n) a) : (Code.region id l.toArray true).wp P Q a w :=
  wp_region_lead (C := fun w' => ∃ x : Later B w, w' = x.u) n m hm hz hB hL ⟨⟨w.drew, (Below.refl B w).drew⟩, rfl⟩ h
/-- From where some of the rest have come up. -/
theorem any_lead {B F : Nat} {Q : Exit → Act → World → Prop} {a : Act} {w : World} {l : List Oper} {listed : Array Bool} (n m : Nat) (suf : Array Bool) (hF : F = n + m) (hl : listed = bigL (Array.replicate n false) suf) (hz : (l.take n).length = n) (hB : leadsB .any l.toArray n suf = true) (hL : Region.lexB .any (l.take n).toArray = true)
    (h : wpQuiet P (l.take n).toArray (fun w' => ∃ x : Later B w, w' = x.u) (fun a' => ∀ f w', (∃ x : Later B w, w' = x.u) → wpAny P .any l.toArray Q (f + m) (bigL (Array.replicate n true) suf) a' w') (l.take n) a) : wpAny P .any l.toArray Q F listed a w.drew :=
  wpAny_lead (C := fun w' => ∃ x : Later B w, w' = x.u) n m suf hF hl hz hB hL ⟨⟨w.drew, (Below.refl B w).drew⟩, rfl⟩ h
theorem lead_tail {B : Nat} {Q : Exit → Act → World → Prop} {a : Act} {w : World} {fin : Array Bool} (hf : bigL (Array.replicate n true) suf = fin)
    (h : ∀ f w', Below B w w' → wpAny P .any ops Q (f + m) fin a w') :
    wpQuiet P part (fun w' => ∃ x : Later B w, w' = x.u) (fun a' => ∀ f w', (∃ x : Later B w, w' = x.u) → wpAny P .any ops Q (f + m) (bigL (Array.replicate n true) suf) a' w') [] a :=
  wpQuiet_nil fun f w' ⟨y, e'⟩ => by subst e'; rw [hf]; exact h f _ y.h
/-- One operation alone is left. -/
theorem lead_end {B : Nat} {o : Oper} {Q : Exit → Act → World → Prop} {a : Act} {w : World} (hr : Region.ready .any ops (bigL (Array.replicate n true) (Array.replicate 1 false)) = [n]) (he : Region.ready .any ops ((bigL (Array.replicate n true) (Array.replicate 1 false)).setIfInBounds n true) = []) (ho : ops[n]? = some o)
    (h : ∀ w', Below B w w' → ∀ K : Act → World → Prop, Shut (∀ a w, Q .normal a w → K a w) → if Region.wanted o (yielded ops a.tmps) = true then Oper.wp P o a w' K Q else K (a.put o.dst undef) w') :
    wpQuiet P part (fun w' => ∃ x : Later B w, w' = x.u) (fun a' => ∀ f w', (∃ x : Later B w, w' = x.u) → wpAny P .any ops Q (f + 1) (bigL (Array.replicate n true) (Array.replicate 1 false)) a' w') [] a :=
  wpQuiet_nil fun f w' ⟨y, e'⟩ => by
    subst e'
    exact wpAny_ready hr (by simp) (AllReady.cons ho (fun K hK => h _ y.h K fun a w hq => hK a w (wpAny_done he hq _)) AllReady.nil)
end
end Go.Proofs.YtbpicngbjggblaaGreatDoor
namespace Go.Proofs.YtbpicngbjggblaaGreatDoor
set_option linter.unusedVariables false
set_option linter.unusedSimpArgs false
open Go.ChangeShapes Go.WideShapes Go.ChangeAt Go.RowKit Go.PlainAid
/-- A box of eight cells. -/
def Box8 (w : World) (b : Nat) (v0 v1 v2 v3 v4 v5 v6 v7 : Value) : Prop :=
  b < w.heap.size ∧ w.cell? ⟨b, 0, none⟩ = some v0 ∧ w.cell? ⟨b, 1, none⟩ = some v1 ∧ w.cell? ⟨b, 2, none⟩ = some v2 ∧ w.cell? ⟨b, 3, none⟩ = some v3 ∧ w.cell? ⟨b, 4, none⟩ = some v4 ∧ w.cell? ⟨b, 5, none⟩ = some v5 ∧ w.cell? ⟨b, 6, none⟩ = some v6 ∧ w.cell? ⟨b, 7, none⟩ = some v7
theorem Box8.on {w w' : World} {b : Nat} {v0 v1 v2 v3 v4 v5 v6 v7 : Value} (h : Box8 w b v0 v1 v2 v3 v4 v5 v6 v7) (hb : Below w.heap.size w w') : Box8 w' b v0 v1 v2 v3 v4 v5 v6 v7 := by
  obtain ⟨h, h0, h1, h2, h3, h4, h5, h6, h7⟩ := h
  exact ⟨Nat.lt_of_lt_of_le h hb.size, (hb.cell (p := ⟨b, 0, none⟩) h).trans h0, (hb.cell (p := ⟨b, 1, none⟩) h).trans h1, (hb.cell (p := ⟨b, 2, none⟩) h).trans h2, (hb.cell (p := ⟨b, 3, none⟩) h).trans h3, (hb.cell (p := ⟨b, 4, none⟩) h).trans h4, (hb.cell (p := ⟨b, 5, none⟩) h).trans h5, (hb.cell (p := ⟨b, 6, none⟩) h).trans h6, (hb.cell (p := ⟨b, 7, none⟩) h).trans h7⟩
theorem Box8.make (w : World) (v0 v1 v2 v3 v4 v5 v6 v7 : Value) (t : TypeId) : Box8 (w.alloc (.cells #[v0, v1, v2, v3, v4, v5, v6, v7] t)) w.heap.size v0 v1 v2 v3 v4 v5 v6 v7 :=
  ⟨by simp, by simp [go_sem], by simp [go_sem], by simp [go_sem], by simp [go_sem], by simp [go_sem], by simp [go_sem], by simp [go_sem], by simp [go_sem]⟩
theorem Box8.past {w : World} {o : Obj} {b : Nat} {v0 v1 v2 v3 v4 v5 v6 v7 : Value} (h : Box8 w b v0 v1 v2 v3 v4 v5 v6 v7) : Box8 (w.alloc o) b v0 v1 v2 v3 v4 v5 v6 v7 := h.on ((Below.refl _ _).alloc (Nat.le_refl _) _)
theorem Box8.far {W X : World} {a b : Nat} {v0 v1 v2 v3 v4 v5 v6 v7 : Value} (h : Box8 W a v0 v1 v2 v3 v4 v5 v6 v7) (hf : ∀ p : Addr, ¬ b = p.block → X.cell? p = W.cell? p) (hn : ¬ b = a) : Box8 X a v0 v1 v2 v3 v4 v5 v6 v7 := by
  obtain ⟨h, h0, h1, h2, h3, h4, h5, h6, h7⟩ := h
  have k0 := (hf ⟨a, 0, none⟩ hn).trans h0
  exact ⟨World.block_lt_of_cell? _ _ k0, k0, (hf ⟨a, 1, none⟩ hn).trans h1, (hf ⟨a, 2, none⟩ hn).trans h2, (hf ⟨a, 3, none⟩ hn).trans h3, (hf ⟨a, 4, none⟩ hn).trans h4, (hf ⟨a, 5, none⟩ hn).trans h5, (hf ⟨a, 6, none⟩ hn).trans h6, (hf ⟨a, 7, none⟩ hn).trans h7⟩
theorem Box8.some {W : World} {a : Nat} {v0 v1 v2 v3 v4 v5 v6 v7 : Value} (h : Box8 W a v0 v1 v2 v3 v4 v5 v6 v7) : ∀ j, j < 8 → (W.cell? ⟨a, j, none⟩).isSome = true := by
  obtain ⟨h, h0, h1, h2, h3, h4, h5, h6, h7⟩ := h
  intro j hj
  match j, hj with
  | 0, _ => rw [h0]; rfl
  | 1, _ => rw [h1]; rfl
  | 2, _ => rw [h2]; rfl
  | 3, _ => rw [h3]; rfl
  | 4, _ => rw [h4]; rfl
  | 5, _ => rw [h5]; rfl
  | 6, _ => rw [h6]; rfl
  | 7, _ => rw [h7]; rfl
/-- A box of 5 cells that is written whole. -/
theorem box5_ {W0 W : World} {b n : Nat} {v0 v1 v2 v3 v4 : Value} {M : World → Prop} (h : ∀ j, j < 5 → (W.cell? ⟨b, j, none⟩).isSome = true) (hb : Below n W0 W) (hn : n ≤ b)
    (k : ∀ X : World, X.cell? ⟨b, 0, none⟩ = some v0 → X.cell? ⟨b, 1, none⟩ = some v1 → X.cell? ⟨b, 2, none⟩ = some v2 → X.cell? ⟨b, 3, none⟩ = some v3 → X.cell? ⟨b, 4, none⟩ = some v4 → Below n W0 X → (∀ a : Addr, ¬ b = a.block → X.cell? a = W.cell? a) → X.heap.size = W.heap.size → M X) :
    M (((((W.setCell ⟨b, 0, none⟩ v0).setCell ⟨b, 1, none⟩ v1).setCell ⟨b, 2, none⟩ v2).setCell ⟨b, 3, none⟩ v3).setCell ⟨b, 4, none⟩ v4) := by
  have c := World.cell?_setCells_in b [v0, v1, v2, v3, v4] 0 W (by intro j hj; rw [Nat.zero_add]; exact h j hj)
  refine k _ (c 0 (by simp)) (c 1 (by simp)) (c 2 (by simp)) (c 3 (by simp)) (c 4 (by simp)) ?_ ?_ (by simp)
  rotate_left
  · intro a ha
    rw [World.cell?_setCell_far _ _ _ _ ha, World.cell?_setCell_far _ _ _ _ ha, World.cell?_setCell_far _ _ _ _ ha, World.cell?_setCell_far _ _ _ _ ha, World.cell?_setCell_far _ _ _ _ ha]
  exact ((((hb.setCell hn _).setCell hn _).setCell hn _).setCell hn _).setCell hn _
theorem box5_is {W w1 : World} {b : Nat} {v0 v1 v2 v3 v4 : Value} {t : TypeId} (hb : b = W.heap.size) (hc : ∀ b o, b < (W.alloc (.cells #[v0, v1, v2, v3, v4] t)).heap.size → w1.cell? ⟨b, o, none⟩ = (W.alloc (.cells #[v0, v1, v2, v3, v4] t)).cell? ⟨b, o, none⟩) : ∀ j, j < 5 → (w1.cell? ⟨b, j, none⟩).isSome = true := by
  subst hb
  intro j hj
  rw [hc _ _ (by simp)]
  match j, hj with
  | 0, _ => simp [go_sem]
  | 1, _ => simp [go_sem]
  | 2, _ => simp [go_sem]
  | 3, _ => simp [go_sem]
  | 4, _ => simp [go_sem]
/-- A box of 5 cells. -/
def Box5 (w : World) (b : Nat) (v0 v1 v2 v3 v4 : Value) : Prop :=
  b < w.heap.size ∧ w.cell? ⟨b, 0, none⟩ = some v0 ∧ w.cell? ⟨b, 1, none⟩ = some v1 ∧ w.cell? ⟨b, 2, none⟩ = some v2 ∧ w.cell? ⟨b, 3, none⟩ = some v3 ∧ w.cell? ⟨b, 4, none⟩ = some v4
theorem Box5.on {w w' : World} {b : Nat} {v0 v1 v2 v3 v4 : Value} (h : Box5 w b v0 v1 v2 v3 v4) (hb : Below w.heap.size w w') : Box5 w' b v0 v1 v2 v3 v4 := by
  obtain ⟨h, h0, h1, h2, h3, h4⟩ := h
  exact ⟨Nat.lt_of_lt_of_le h hb.size, (hb.cell (p := ⟨b, 0, none⟩) h).trans h0, (hb.cell (p := ⟨b, 1, none⟩) h).trans h1, (hb.cell (p := ⟨b, 2, none⟩) h).trans h2, (hb.cell (p := ⟨b, 3, none⟩) h).trans h3, (hb.cell (p := ⟨b, 4, none⟩) h).trans h4⟩
theorem Box5.make (w : World) (v0 v1 v2 v3 v4 : Value) (t : TypeId) : Box5 (w.alloc (.cells #[v0, v1, v2, v3, v4] t)) w.heap.size v0 v1 v2 v3 v4 :=
  ⟨by simp, by simp [go_sem], by simp [go_sem], by simp [go_sem], by simp [go_sem], by simp [go_sem]⟩
theorem Box5.past {w : World} {o : Obj} {b : Nat} {v0 v1 v2 v3 v4 : Value} (h : Box5 w b v0 v1 v2 v3 v4) : Box5 (w.alloc o) b v0 v1 v2 v3 v4 := h.on ((Below.refl _ _).alloc (Nat.le_refl _) _)
theorem Box5.far {W X : World} {a b : Nat} {v0 v1 v2 v3 v4 : Value} (h : Box5 W a v0 v1 v2 v3 v4) (hf : ∀ p : Addr, ¬ b = p.block → X.cell? p = W.cell? p) (hn : ¬ b = a) : Box5 X a v0 v1 v2 v3 v4 := by
  obtain ⟨h, h0, h1, h2, h3, h4⟩ := h
  have k0 := (hf ⟨a, 0, none⟩ hn).trans h0
  exact ⟨World.block_lt_of_cell? _ _ k0, k0, (hf ⟨a, 1, none⟩ hn).trans h1, (hf ⟨a, 2, none⟩ hn).trans h2, (hf ⟨a, 3, none⟩ hn).trans h3, (hf ⟨a, 4, none⟩ hn).trans h4⟩
theorem Box5.some {W : World} {a : Nat} {v0 v1 v2 v3 v4 : Value} (h : Box5 W a v0 v1 v2 v3 v4) : ∀ j, j < 5 → (W.cell? ⟨a, j, none⟩).isSome = true := by
  obtain ⟨h, h0, h1, h2, h3, h4⟩ := h
  intro j hj
  match j, hj with
  | 0, _ => rw [h0]; rfl
  | 1, _ => rw [h1]; rfl
  | 2, _ => rw [h2]; rfl
  | 3, _ => rw [h3]; rfl
  | 4, _ => rw [h4]; rfl
/-- A box of 10 cells that is written whole. -/
theorem box10_ {W0 W : World} {b n : Nat} {v0 v1 v2 v3 v4 v5 v6 v7 v8 v9 : Value} {M : World → Prop} (h : ∀ j, j < 10 → (W.cell? ⟨b, j, none⟩).isSome = true) (hb : Below n W0 W) (hn : n ≤ b)
    (k : ∀ X : World, X.cell? ⟨b, 0, none⟩ = some v0 → X.cell? ⟨b, 1, none⟩ = some v1 → X.cell? ⟨b, 2, none⟩ = some v2 → X.cell? ⟨b, 3, none⟩ = some v3 → X.cell? ⟨b, 4, none⟩ = some v4 → X.cell? ⟨b, 5, none⟩ = some v5 → X.cell? ⟨b, 6, none⟩ = some v6 → X.cell? ⟨b, 7, none⟩ = some v7 → X.cell? ⟨b, 8, none⟩ = some v8 → X.cell? ⟨b, 9, none⟩ = some v9 → Below n W0 X → (∀ a : Addr, ¬ b = a.block → X.cell? a = W.cell? a) → X.heap.size = W.heap.size → M X) :
    M ((((((((((W.setCell ⟨b, 0, none⟩ v0).setCell ⟨b, 1, none⟩ v1).setCell ⟨b, 2, none⟩ v2).setCell ⟨b, 3, none⟩ v3).setCell ⟨b, 4, none⟩ v4).setCell ⟨b, 5, none⟩ v5).setCell ⟨b, 6, none⟩ v6).setCell ⟨b, 7, none⟩ v7).setCell ⟨b, 8, none⟩ v8).setCell ⟨b, 9, none⟩ v9) := by
  have c := World.cell?_setCells_in b [v0, v1, v2, v3, v4, v5, v6, v7, v8, v9] 0 W (by intro j hj; rw [Nat.zero_add]; exact h j hj)
  refine k _ (c 0 (by simp)) (c 1 (by simp)) (c 2 (by simp)) (c 3 (by simp)) (c 4 (by simp)) (c 5 (by simp)) (c 6 (by simp)) (c 7 (by simp)) (c 8 (by simp)) (c 9 (by simp)) ?_ ?_ (by simp)
  rotate_left
  · intro a ha
    rw [World.cell?_setCell_far _ _ _ _ ha, World.cell?_setCell_far _ _ _ _ ha, World.cell?_setCell_far _ _ _ _ ha, World.cell?_setCell_far _ _ _ _ ha, World.cell?_setCell_far _ _ _ _ ha, World.cell?_setCell_far _ _ _ _ ha, World.cell?_setCell_far _ _ _ _ ha, World.cell?_setCell_far _ _ _ _ ha, World.cell?_setCell_far _ _ _ _ ha, World.cell?_setCell_far _ _ _ _ ha]
  exact (((((((((hb.setCell hn _).setCell hn _).setCell hn _).setCell hn _).setCell hn _).setCell hn _).setCell hn _).setCell hn _).setCell hn _).setCell hn _
theorem box10_is {W w1 : World} {b : Nat} {v0 v1 v2 v3 v4 v5 v6 v7 v8 v9 : Value} {t : TypeId} (hb : b = W.heap.size) (hc : ∀ b o, b < (W.alloc (.cells #[v0, v1, v2, v3, v4, v5, v6, v7, v8, v9] t)).heap.size → w1.cell? ⟨b, o, none⟩ = (W.alloc (.cells #[v0, v1, v2, v3, v4, v5, v6, v7, v8, v9] t)).cell? ⟨b, o, none⟩) : ∀ j, j < 10 → (w1.cell? ⟨b, j, none⟩).isSome = true := by
  subst hb
  intro j hj
  rw [hc _ _ (by simp)]
  match j, hj with
  | 0, _ => simp [go_sem]
  | 1, _ => simp [go_sem]
  | 2, _ => simp [go_sem]
  | 3, _ => simp [go_sem]
  | 4, _ => simp [go_sem]
  | 5, _ => simp [go_sem]
  | 6, _ => simp [go_sem]
  | 7, _ => simp [go_sem]
  | 8, _ => simp [go_sem]
  | 9, _ => simp [go_sem]
/-- A box of 10 cells. -/
def Box10 (w : World) (b : Nat) (v0 v1 v2 v3 v4 v5 v6 v7 v8 v9 : Value) : Prop :=
  b < w.heap.size ∧ w.cell? ⟨b, 0, none⟩ = some v0 ∧ w.cell? ⟨b, 1, none⟩ = some v1 ∧ w.cell? ⟨b, 2, none⟩ = some v2 ∧ w.cell? ⟨b, 3, none⟩ = some v3 ∧ w.cell? ⟨b, 4, none⟩ = some v4 ∧ w.cell? ⟨b, 5, none⟩ = some v5 ∧ w.cell? ⟨b, 6, none⟩ = some v6 ∧ w.cell? ⟨b, 7, none⟩ = some v7 ∧ w.cell? ⟨b, 8, none⟩ = some v8 ∧ w.cell? ⟨b, 9, none⟩ = some v9
theorem Box10.on {w w' : World} {b : Nat} {v0 v1 v2 v3 v4 v5 v6 v7 v8 v9 : Value} (h : Box10 w b v0 v1 v2 v3 v4 v5 v6 v7 v8 v9) (hb : Below w.heap.size w w') : Box10 w' b v0 v1 v2 v3 v4 v5 v6 v7 v8 v9 := by
  obtain ⟨h, h0, h1, h2, h3, h4, h5, h6, h7, h8, h9⟩ := h
  exact ⟨Nat.lt_of_lt_of_le h hb.size, (hb.cell (p := ⟨b, 0, none⟩) h).trans h0, (hb.cell (p := ⟨b, 1, none⟩) h).trans h1, (hb.cell (p := ⟨b, 2, none⟩) h).trans h2, (hb.cell (p := ⟨b, 3, none⟩) h).trans h3, (hb.cell (p := ⟨b, 4, none⟩) h).trans h4, (hb.cell (p := ⟨b, 5, none⟩) h).trans h5, (hb.cell (p := ⟨b, 6, none⟩) h).trans h6, (hb.cell (p := ⟨b, 7, none⟩) h).trans h7, (hb.cell (p := ⟨b, 8, none⟩) h).trans h8, (hb.cell (p := ⟨b, 9, none⟩) h).trans h9⟩
theorem Box10.make (w : World) (v0 v1 v2 v3 v4 v5 v6 v7 v8 v9 : Value) (t : TypeId) : Box10 (w.alloc (.cells #[v0, v1, v2, v3, v4, v5, v6, v7, v8, v9] t)) w.heap.size v0 v1 v2 v3 v4 v5 v6 v7 v8 v9 :=
  ⟨by simp, by simp [go_sem], by simp [go_sem], by simp [go_sem], by simp [go_sem], by simp [go_sem], by simp [go_sem], by simp [go_sem], by simp [go_sem], by simp [go_sem], by simp [go_sem]⟩
theorem Box10.past {w : World} {o : Obj} {b : Nat} {v0 v1 v2 v3 v4 v5 v6 v7 v8 v9 : Value} (h : Box10 w b v0 v1 v2 v3 v4 v5 v6 v7 v8 v9) : Box10 (w.alloc o) b v0 v1 v2 v3 v4 v5 v6 v7 v8 v9 := h.on ((Below.refl _ _).alloc (Nat.le_refl _) _)
theorem Box10.far {W X : World} {a b : Nat} {v0 v1 v2 v3 v4 v5 v6 v7 v8 v9 : Value} (h : Box10 W a v0 v1 v2 v3 v4 v5 v6 v7 v8 v9) (hf : ∀ p : Addr, ¬ b = p.block → X.cell? p = W.cell? p) (hn : ¬ b = a) : Box10 X a v0 v1 v2 v3 v4 v5 v6 v7 v8 v9 := by
  obtain ⟨h, h0, h1, h2, h3, h4, h5, h6, h7, h8, h9⟩ := h
  have k0 := (hf ⟨a, 0, none⟩ hn).trans h0
  exact ⟨World.block_lt_of_cell? _ _ k0, k0, (hf ⟨a, 1, none⟩ hn).trans h1, (hf ⟨a, 2, none⟩ hn).trans h2, (hf ⟨a, 3, none⟩ hn).trans h3, (hf ⟨a, 4, none⟩ hn).trans h4, (hf ⟨a, 5, none⟩ hn).trans h5, (hf ⟨a, 6, none⟩ hn).trans h6, (hf ⟨a, 7, none⟩ hn).trans h7, (hf ⟨a, 8, none⟩ hn).trans h8, (hf ⟨a, 9, none⟩ hn).trans h9⟩
theorem Box10.some {W : World} {a : Nat} {v0 v1 v2 v3 v4 v5 v6 v7 v8 v9 : Value} (h : Box10 W a v0 v1 v2 v3 v4 v5 v6 v7 v8 v9) : ∀ j, j < 10 → (W.cell? ⟨a, j, none⟩).isSome = true := by
  obtain ⟨h, h0, h1, h2, h3, h4, h5, h6, h7, h8, h9⟩ := h
  intro j hj
  match j, hj with
  | 0, _ => rw [h0]; rfl
  | 1, _ => rw [h1]; rfl
  | 2, _ => rw [h2]; rfl
  | 3, _ => rw [h3]; rfl
  | 4, _ => rw [h4]; rfl
  | 5, _ => rw [h5]; rfl
  | 6, _ => rw [h6]; rfl
  | 7, _ => rw [h7]; rfl
  | 8, _ => rw [h8]; rfl
  | 9, _ => rw [h9]; rfl
theorem new10_ {W : World} {v0 v1 v2 v3 v4 v5 v6 v7 v8 v9 : Value} {t : TypeId} {M : World → Prop}
    (k : ∀ X : World, X.cell? ⟨W.heap.size, 0, none⟩ = some v0 → X.cell? ⟨W.heap.size, 1, none⟩ = some v1 → X.cell? ⟨W.heap.size, 2, none⟩ = some v2 → X.cell? ⟨W.heap.size, 3, none⟩ = some v3 → X.cell? ⟨W.heap.size, 4, none⟩ = some v4 → X.cell? ⟨W.heap.size, 5, none⟩ = some v5 → X.cell? ⟨W.heap.size, 6, none⟩ = some v6 → X.cell? ⟨W.heap.size, 7, none⟩ = some v7 → X.cell? ⟨W.heap.size, 8, none⟩ = some v8 → X.cell? ⟨W.heap.size, 9, none⟩ = some v9 → Below W.heap.size W X → W.heap.size < X.heap.size → M X) :
    M (W.alloc (.cells #[v0, v1, v2, v3, v4, v5, v6, v7, v8, v9] t)).drew :=
  k _ (by simp [go_sem]) (by simp [go_sem]) (by simp [go_sem]) (by simp [go_sem]) (by simp [go_sem]) (by simp [go_sem]) (by simp [go_sem]) (by simp [go_sem]) (by simp [go_sem]) (by simp [go_sem]) ((Below.refl _ _).alloc (Nat.le_refl _) _).drew (by simp)
theorem box10d_ {W0 W : World} {b n : Nat} {v0 v1 v2 v3 v4 v5 v6 v7 v8 v9 : Value} {M : World → Prop} (h : ∀ j, j < 10 → (W.cell? ⟨b, j, none⟩).isSome = true) (hb : Below n W0 W) (hn : n ≤ b)
    (k : ∀ X : World, X.cell? ⟨b, 0, none⟩ = some v0 → X.cell? ⟨b, 1, none⟩ = some v1 → X.cell? ⟨b, 2, none⟩ = some v2 → X.cell? ⟨b, 3, none⟩ = some v3 → X.cell? ⟨b, 4, none⟩ = some v4 → X.cell? ⟨b, 5, none⟩ = some v5 → X.cell? ⟨b, 6, none⟩ = some v6 → X.cell? ⟨b, 7, none⟩ = some v7 → X.cell? ⟨b, 8, none⟩ = some v8 → X.cell? ⟨b, 9, none⟩ = some v9 → Below n W0 X → (∀ a : Addr, ¬ b = a.block → X.cell? a = W.cell? a) → M X) :
    M ((((((((((W.setCell ⟨b, 0, none⟩ v0).setCell ⟨b, 1, none⟩ v1).setCell ⟨b, 2, none⟩ v2).setCell ⟨b, 3, none⟩ v3).setCell ⟨b, 4, none⟩ v4).setCell ⟨b, 5, none⟩ v5).setCell ⟨b, 6, none⟩ v6).setCell ⟨b, 7, none⟩ v7).setCell ⟨b, 8, none⟩ v8).setCell ⟨b, 9, none⟩ v9).drew := by
  refine box10_ (M := fun X => M X.drew) h hb hn fun X x0 x1 x2 x3 x4 x5 x6 x7 x8 x9 B f _ => ?_
  exact k X.drew x0 x1 x2 x3 x4 x5 x6 x7 x8 x9 B.drew f
/-- A box of 9 cells that is written whole. -/
theorem box9_ {W0 W : World} {b n : Nat} {v0 v1 v2 v3 v4 v5 v6 v7 v8 : Value} {M : World → Prop} (h : ∀ j, j < 9 → (W.cell? ⟨b, j, none⟩).isSome = true) (hb : Below n W0 W) (hn : n ≤ b)
    (k : ∀ X : World, X.cell? ⟨b, 0, none⟩ = some v0 → X.cell? ⟨b, 1, none⟩ = some v1 → X.cell? ⟨b, 2, none⟩ = some v2 → X.cell? ⟨b, 3, none⟩ = some v3 → X.cell? ⟨b, 4, none⟩ = some v4 → X.cell? ⟨b, 5, none⟩ = some v5 → X.cell? ⟨b, 6, none⟩ = some v6 → X.cell? ⟨b, 7, none⟩ = some v7 → X.cell? ⟨b, 8, none⟩ = some v8 → Below n W0 X → (∀ a : Addr, ¬ b = a.block → X.cell? a = W.cell? a) → X.heap.size = W.heap.size → M X) :
    M (((((((((W.setCell ⟨b, 0, none⟩ v0).setCell ⟨b, 1, none⟩ v1).setCell ⟨b, 2, none⟩ v2).setCell ⟨b, 3, none⟩ v3).setCell ⟨b, 4, none⟩ v4).setCell ⟨b, 5, none⟩ v5).setCell ⟨b, 6, none⟩ v6).setCell ⟨b, 7, none⟩ v7).setCell ⟨b, 8, none⟩ v8) := by
  have c := World.cell?_setCells_in b [v0, v1, v2, v3, v4, v5, v6, v7, v8] 0 W (by intro j hj; rw [Nat.zero_add]; exact h j hj)
  refine k _ (c 0 (by simp)) (c 1 (by simp)) (c 2 (by simp)) (c 3 (by simp)) (c 4 (by simp)) (c 5 (by simp)) (c 6 (by simp)) (c 7 (by simp)) (c 8 (by simp)) ?_ ?_ (by simp)
  rotate_left
  · intro a ha
    rw [World.cell?_setCell_far _ _ _ _ ha, World.cell?_setCell_far _ _ _ _ ha, World.cell?_setCell_far _ _ _ _ ha, World.cell?_setCell_far _ _ _ _ ha, World.cell?_setCell_far _ _ _ _ ha, World.cell?_setCell_far _ _ _ _ ha, World.cell?_setCell_far _ _ _ _ ha, World.cell?_setCell_far _ _ _ _ ha, World.cell?_setCell_far _ _ _ _ ha]
  exact ((((((((hb.setCell hn _).setCell hn _).setCell hn _).setCell hn _).setCell hn _).setCell hn _).setCell hn _).setCell hn _).setCell hn _
/-- A box of 9 cells. -/
def Box9 (w : World) (b : Nat) (v0 v1 v2 v3 v4 v5 v6 v7 v8 : Value) : Prop :=
  b < w.heap.size ∧ w.cell? ⟨b, 0, none⟩ = some v0 ∧ w.cell? ⟨b, 1, none⟩ = some v1 ∧ w.cell? ⟨b, 2, none⟩ = some v2 ∧ w.cell? ⟨b, 3, none⟩ = some v3 ∧ w.cell? ⟨b, 4, none⟩ = some v4 ∧ w.cell? ⟨b, 5, none⟩ = some v5 ∧ w.cell? ⟨b, 6, none⟩ = some v6 ∧ w.cell? ⟨b, 7, none⟩ = some v7 ∧ w.cell? ⟨b, 8, none⟩ = some v8
theorem Box9.on {w w' : World} {b : Nat} {v0 v1 v2 v3 v4 v5 v6 v7 v8 : Value} (h : Box9 w b v0 v1 v2 v3 v4 v5 v6 v7 v8) (hb : Below w.heap.size w w') : Box9 w' b v0 v1 v2 v3 v4 v5 v6 v7 v8 := by
  obtain ⟨h, h0, h1, h2, h3, h4, h5, h6, h7, h8⟩ := h
  exact ⟨Nat.lt_of_lt_of_le h hb.size, (hb.cell (p := ⟨b, 0, none⟩) h).trans h0, (hb.cell (p := ⟨b, 1, none⟩) h).trans h1, (hb.cell (p := ⟨b, 2, none⟩) h).trans h2, (hb.cell (p := ⟨b, 3, none⟩) h).trans h3, (hb.cell (p := ⟨b, 4, none⟩) h).trans h4, (hb.cell (p := ⟨b, 5, none⟩) h).trans h5, (hb.cell (p := ⟨b, 6, none⟩) h).trans h6, (hb.cell (p := ⟨b, 7, none⟩) h).trans h7, (hb.cell (p := ⟨b, 8, none⟩) h).trans h8⟩
theorem Box9.make (w : World) (v0 v1 v2 v3 v4 v5 v6 v7 v8 : Value) (t : TypeId) : Box9 (w.alloc (.cells #[v0, v1, v2, v3, v4, v5, v6, v7, v8] t)) w.heap.size v0 v1 v2 v3 v4 v5 v6 v7 v8 :=
  ⟨by simp, by simp [go_sem], by simp [go_sem], by simp [go_sem], by simp [go_sem], by simp [go_sem], by simp [go_sem], by simp [go_sem], by simp [go_sem], by simp [go_sem]⟩
theorem Box9.past {w : World} {o : Obj} {b : Nat} {v0 v1 v2 v3 v4 v5 v6 v7 v8 : Value} (h : Box9 w b v0 v1 v2 v3 v4 v5 v6 v7 v8) : Box9 (w.alloc o) b v0 v1 v2 v3 v4 v5 v6 v7 v8 := h.on ((Below.refl _ _).alloc (Nat.le_refl _) _)
theorem Box9.far {W X : World} {a b : Nat} {v0 v1 v2 v3 v4 v5 v6 v7 v8 : Value} (h : Box9 W a v0 v1 v2 v3 v4 v5 v6 v7 v8) (hf : ∀ p : Addr, ¬ b = p.block → X.cell? p = W.cell? p) (hn : ¬ b = a) : Box9 X a v0 v1 v2 v3 v4 v5 v6 v7 v8 := by
  obtain ⟨h, h0, h1, h2, h3, h4, h5, h6, h7, h8⟩ := h
  have k0 := (hf ⟨a, 0, none⟩ hn).trans h0
  exact ⟨World.block_lt_of_cell? _ _ k0, k0, (hf ⟨a, 1, none⟩ hn).trans h1, (hf ⟨a, 2, none⟩ hn).trans h2, (hf ⟨a, 3, none⟩ hn).trans h3, (hf ⟨a, 4, none⟩ hn).trans h4, (hf ⟨a, 5, none⟩ hn).trans h5, (hf ⟨a, 6, none⟩ hn).trans h6, (hf ⟨a, 7, none⟩ hn).trans h7, (hf ⟨a, 8, none⟩ hn).trans h8⟩
theorem Box9.some {W : World} {a : Nat} {v0 v1 v2 v3 v4 v5 v6 v7 v8 : Value} (h : Box9 W a v0 v1 v2 v3 v4 v5 v6 v7 v8) : ∀ j, j < 9 → (W.cell? ⟨a, j, none⟩).isSome = true := by
  obtain ⟨h, h0, h1, h2, h3, h4, h5, h6, h7, h8⟩ := h
  intro j hj
  match j, hj with
  | 0, _ => rw [h0]; rfl
  | 1, _ => rw [h1]; rfl
  | 2, _ => rw [h2]; rfl
  | 3, _ => rw [h3]; rfl
  | 4, _ => rw [h4]; rfl
  | 5, _ => rw [h5]; rfl
  | 6, _ => rw [h6]; rfl
  | 7, _ => rw [h7]; rfl
  | 8, _ => rw [h8]; rfl
end Go.Proofs.YtbpicngbjggblaaGreatDoor
namespace Go.Proofs
set_option maxHeartbeats 1000000
set_option maxRecDepth 100000
open Go.Shelf
def Tryz.laysM316_ren : Go.Shelf.Ren := ⟨fun | 316 => 100 | n => n, fun | 9 => 9 | 3 => 3 | 4 => 4 | 37 => 45 | 0 => 0 | 127 => 189 | 5 => 5 | n => n, fun | n => n⟩
theorem Tryz.laysM316 : Go.Proofs.LaysM.n316 Tryz.prog Tryz.laysM316_ren := {
  mixed := by kernel_rfl
  f316 := Tryz.func100.trans (congrArg some (by kernel_rfl))
  t0 := Tryz.underlying0
  a0 := Tryz.isAgg0
  z0 := Tryz.sizeOf0
  v0 := Tryz.zeroValue0
  t3 := Tryz.underlying3
  a3 := Tryz.isAgg3
  z3 := Tryz.sizeOf3
  v3 := Tryz.zeroValue3
  t4 := Tryz.underlying4
  a4 := Tryz.isAgg4
  z4 := Tryz.sizeOf4
  v4 := Tryz.zeroValue4
  t9 := Tryz.underlying9
  a9 := Tryz.isAgg9
  z9 := Tryz.sizeOf9
  v9 := Tryz.zeroValue9
  t37 := Tryz.underlying45
  a37 := Tryz.isAgg45
  z37 := Tryz.sizeOf45
  v37 := Tryz.zeroValue45
  t127 := Tryz.underlying189
  a127 := Tryz.isAgg189
  z127 := Tryz.sizeOf189
  v127 := Tryz.zeroValue189
  t5 := Tryz.underlying5
  a5 := Tryz.isAgg5
  z5 := Tryz.sizeOf5
  v5 := Tryz.zeroValue5
  i0 := by kernel_rfl
  i3 := by kernel_rfl
  i4 := by kernel_rfl
  i5 := by kernel_rfl
  i9 := by kernel_rfl
  i37 := by kernel_rfl
  i127 := by kernel_rfl }
end Go.Proofs
namespace Go.Proofs.YtbpicngbjggblaaGreatDoor
set_option linter.unusedVariables false
set_option linter.unusedSimpArgs false
open Go.ChangeShapes Go.WideShapes Go.ChangeAt Go.RowKit Go.PlainAid
theorem cloneIn_ (s : ByteArray) (w : World) (h : s.size ≤ 281474976710656) :
    Calls Tryz.prog 100 #[.string s] w fun e w' => e = .returned (.string s) ∧ Below w.heap.size w w' :=
  Any.stringslite_Clone Tryz.laysM316 s w h
theorem clone_ (s : ByteArray) (w : World) (h : s.size ≤ 281474976710656) :
    Cw_ 52 #[.string s] (.string s) w := by
  go_enter Tryz.func52, Tryz.ntmps52
  go_wp2_with fail
  refine (cloneIn_ s _ h).mono ?_; rintro e w1 ⟨rfl, B1⟩
  go_wp2
  go_ret
  exact ⟨rfl, B1⟩
end Go.Proofs.YtbpicngbjggblaaGreatDoor
namespace Go.Proofs.YtbpicngbjggblaaGreatDoor
open Go.Maps (Keyed)
theorem wpList_insert_own {H : Type} {P : Program} (w : World) {ops : Array Oper} {rest : List Oper} {o : Oper} {a : Act} {Q : Exit → Act → World → Prop}
    (hg : o.guard = none) (m x v : Operand) (t : TypeId) (hop : o.op = Op.insert t m x v)
    (k e : TypeId) (K : Keyed P k) (ht : P.underlying t = some (.map k e)) (R : Value → Option (DataW H × List MemPlace)) (b n : Nat) (D : DataW H)
    (hm : a.eval m = .map (some b)) (hown : w.ownsMap P k R b n D) (hn : n < maxLen) (key val : Value) (kl : Lit) (hx : a.eval x = key) (hv : a.eval v = val) (hkey : keyOf P k key = some kl)
    (d : DataW H) (ps : List MemPlace) (hval : R val = some (d, ps))
    (hK : ∀ w', w'.ownsMap P k R b (n + 1) (D.put kl d) → w.grownBy w' (some b) → wpList P ops Q rest (a.put o.dst undef) w') :
    wpList P ops Q (o :: rest) a w := by
  refine wpList_plain hg fun K' hK' => ?_
  obtain ⟨w', hrun, r1, r2⟩ := hown.update K ht hn hkey hval
  unfold Oper.wp
  simp [execOp, hop, hm, hx, hv, hrun, Result.andThen]
  exact hK' _ _ (hK w' r1 r2)
end Go.Proofs.YtbpicngbjggblaaGreatDoor
