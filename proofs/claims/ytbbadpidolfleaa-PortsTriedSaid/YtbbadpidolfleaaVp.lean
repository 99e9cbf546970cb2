/- Texts of this proof, together: Box4, Beside, Obj, Place. -/
import Derived.Test.YtbbadpidolfleaaVr
import Derived.Test.YtbbadpidolfleaaGa
namespace Go.Proofs.Ytbbadpidolfleaa
set_option linter.unusedVariables false
set_option linter.unusedSimpArgs false
open Go.ChangeShapes Go.WideShapes Go.ChangeAt Go.RowKit Go.PlainAid
/-- A box of 4 cells that is written whole. -/
theorem box4_ {W0 W : World} {b n : Nat} {v0 v1 v2 v3 : Value} {M : World → Prop} (h : ∀ j, j < 4 → (W.cell? ⟨b, j, none⟩).isSome = true) (hb : Below n W0 W) (hn : n ≤ b)
    (k : ∀ X : World, X.cell? ⟨b, 0, none⟩ = some v0 → X.cell? ⟨b, 1, none⟩ = some v1 → X.cell? ⟨b, 2, none⟩ = some v2 → X.cell? ⟨b, 3, none⟩ = some v3 → Below n W0 X → (∀ a : Addr, ¬ b = a.block → X.cell? a = W.cell? a) → X.heap.size = W.heap.size → M X) :
    M ((((W.setCell ⟨b, 0, none⟩ v0).setCell ⟨b, 1, none⟩ v1).setCell ⟨b, 2, none⟩ v2).setCell ⟨b, 3, none⟩ v3) := by
  have c := World.cell?_setCells_in b [v0, v1, v2, v3] 0 W (by intro j hj; rw [Nat.zero_add]; exact h j hj)
  refine k _ (c 0 (by simp)) (c 1 (by simp)) (c 2 (by simp)) (c 3 (by simp)) ?_ ?_ (by simp)
  rotate_left
  · intro a ha
    rw [World.cell?_setCell_far _ _ _ _ ha, World.cell?_setCell_far _ _ _ _ ha, World.cell?_setCell_far _ _ _ _ ha, World.cell?_setCell_far _ _ _ _ ha]
  exact (((hb.setCell hn _).setCell hn _).setCell hn _).setCell hn _
theorem box4_is {W w1 : World} {b : Nat} {v0 v1 v2 v3 : Value} {t : TypeId} (hb : b = W.heap.size) (hc : ∀ b o, b < (W.alloc (.cells #[v0, v1, v2, v3] t)).heap.size → w1.cell? ⟨b, o, none⟩ = (W.alloc (.cells #[v0, v1, v2, v3] t)).cell? ⟨b, o, none⟩) : ∀ j, j < 4 → (w1.cell? ⟨b, j, none⟩).isSome = true := by
  subst hb
  intro j hj
  rw [hc _ _ (by simp)]
  match j, hj with
  | 0, _ => simp [go_sem]
  | 1, _ => simp [go_sem]
  | 2, _ => simp [go_sem]
  | 3, _ => simp [go_sem]
/-- A box of 4 cells. -/
def Box4 (w : World) (b : Nat) (v0 v1 v2 v3 : Value) : Prop :=
  b < w.heap.size ∧ w.cell? ⟨b, 0, none⟩ = some v0 ∧ w.cell? ⟨b, 1, none⟩ = some v1 ∧ w.cell? ⟨b, 2, none⟩ = some v2 ∧ w.cell? ⟨b, 3, none⟩ = some v3
theorem Box4.on {w w' : World} {b : Nat} {v0 v1 v2 v3 : Value} (h : Box4 w b v0 v1 v2 v3) (hb : Below w.heap.size w w') : Box4 w' b v0 v1 v2 v3 := by
  obtain ⟨h, h0, h1, h2, h3⟩ := h
  exact ⟨Nat.lt_of_lt_of_le h hb.size, (hb.cell (p := ⟨b, 0, none⟩) h).trans h0, (hb.cell (p := ⟨b, 1, none⟩) h).trans h1, (hb.cell (p := ⟨b, 2, none⟩) h).trans h2, (hb.cell (p := ⟨b, 3, none⟩) h).trans h3⟩
theorem Box4.make (w : World) (v0 v1 v2 v3 : Value) (t : TypeId) : Box4 (w.alloc (.cells #[v0, v1, v2, v3] t)) w.heap.size v0 v1 v2 v3 :=
  ⟨by simp, by simp [go_sem], by simp [go_sem], by simp [go_sem], by simp [go_sem]⟩
theorem Box4.past {w : World} {o : Obj} {b : Nat} {v0 v1 v2 v3 : Value} (h : Box4 w b v0 v1 v2 v3) : Box4 (w.alloc o) b v0 v1 v2 v3 := h.on ((Below.refl _ _).alloc (Nat.le_refl _) _)
theorem Box4.far {W X : World} {a b : Nat} {v0 v1 v2 v3 : Value} (h : Box4 W a v0 v1 v2 v3) (hf : ∀ p : Addr, ¬ b = p.block → X.cell? p = W.cell? p) (hn : ¬ b = a) : Box4 X a v0 v1 v2 v3 := by
  obtain ⟨h, h0, h1, h2, h3⟩ := h
  have k0 := (hf ⟨a, 0, none⟩ hn).trans h0
  exact ⟨World.block_lt_of_cell? _ _ k0, k0, (hf ⟨a, 1, none⟩ hn).trans h1, (hf ⟨a, 2, none⟩ hn).trans h2, (hf ⟨a, 3, none⟩ hn).trans h3⟩
theorem Box4.some {W : World} {a : Nat} {v0 v1 v2 v3 : Value} (h : Box4 W a v0 v1 v2 v3) : ∀ j, j < 4 → (W.cell? ⟨a, j, none⟩).isSome = true := by
  obtain ⟨h, h0, h1, h2, h3⟩ := h
  intro j hj
  match j, hj with
  | 0, _ => rw [h0]; rfl
  | 1, _ => rw [h1]; rfl
  | 2, _ => rw [h2]; rfl
  | 3, _ => rw [h3]; rfl
/-- A box of 2 cells that is written whole. -/
theorem box2_ {W0 W : World} {b n : Nat} {v0 v1 : Value} {M : World → Prop} (h : ∀ j, j < 2 → (W.cell? ⟨b, j, none⟩).isSome = true) (hb : Below n W0 W) (hn : n ≤ b)
    (k : ∀ X : World, X.cell? ⟨b, 0, none⟩ = some v0 → X.cell? ⟨b, 1, none⟩ = some v1 → Below n W0 X → (∀ a : Addr, ¬ b = a.block → X.cell? a = W.cell? a) → X.heap.size = W.heap.size → M X) :
    M ((W.setCell ⟨b, 0, none⟩ v0).setCell ⟨b, 1, none⟩ v1) := by
  have c := World.cell?_setCells_in b [v0, v1] 0 W (by intro j hj; rw [Nat.zero_add]; exact h j hj)
  refine k _ (c 0 (by simp)) (c 1 (by simp)) ?_ ?_ (by simp)
  rotate_left
  · intro a ha
    rw [World.cell?_setCell_far _ _ _ _ ha, World.cell?_setCell_far _ _ _ _ ha]
  exact (hb.setCell hn _).setCell hn _
theorem box2_is {W w1 : World} {b : Nat} {v0 v1 : Value} {t : TypeId} (hb : b = W.heap.size) (hc : ∀ b o, b < (W.alloc (.cells #[v0, v1] t)).heap.size → w1.cell? ⟨b, o, none⟩ = (W.alloc (.cells #[v0, v1] t)).cell? ⟨b, o, none⟩) : ∀ j, j < 2 → (w1.cell? ⟨b, j, none⟩).isSome = true := by
  subst hb
  intro j hj
  rw [hc _ _ (by simp)]
  match j, hj with
  | 0, _ => simp [go_sem]
  | 1, _ => simp [go_sem]
/-- A box of 2 cells. -/
def Box2 (w : World) (b : Nat) (v0 v1 : Value) : Prop :=
  b < w.heap.size ∧ w.cell? ⟨b, 0, none⟩ = some v0 ∧ w.cell? ⟨b, 1, none⟩ = some v1
theorem Box2.on {w w' : World} {b : Nat} {v0 v1 : Value} (h : Box2 w b v0 v1) (hb : Below w.heap.size w w') : Box2 w' b v0 v1 := by
  obtain ⟨h, h0, h1⟩ := h
  exact ⟨Nat.lt_of_lt_of_le h hb.size, (hb.cell (p := ⟨b, 0, none⟩) h).trans h0, (hb.cell (p := ⟨b, 1, none⟩) h).trans h1⟩
theorem Box2.make (w : World) (v0 v1 : Value) (t : TypeId) : Box2 (w.alloc (.cells #[v0, v1] t)) w.heap.size v0 v1 :=
  ⟨by simp, by simp [go_sem], by simp [go_sem]⟩
theorem Box2.past {w : World} {o : Obj} {b : Nat} {v0 v1 : Value} (h : Box2 w b v0 v1) : Box2 (w.alloc o) b v0 v1 := h.on ((Below.refl _ _).alloc (Nat.le_refl _) _)
theorem Box2.far {W X : World} {a b : Nat} {v0 v1 : Value} (h : Box2 W a v0 v1) (hf : ∀ p : Addr, ¬ b = p.block → X.cell? p = W.cell? p) (hn : ¬ b = a) : Box2 X a v0 v1 := by
  obtain ⟨h, h0, h1⟩ := h
  have k0 := (hf ⟨a, 0, none⟩ hn).trans h0
  exact ⟨World.block_lt_of_cell? _ _ k0, k0, (hf ⟨a, 1, none⟩ hn).trans h1⟩
theorem Box2.some {W : World} {a : Nat} {v0 v1 : Value} (h : Box2 W a v0 v1) : ∀ j, j < 2 → (W.cell? ⟨a, j, none⟩).isSome = true := by
  obtain ⟨h, h0, h1⟩ := h
  intro j hj
  match j, hj with
  | 0, _ => rw [h0]; rfl
  | 1, _ => rw [h1]; rfl
end Go.Proofs.Ytbbadpidolfleaa

namespace Go.Proofs.Ytbbadpidolfleaa
set_option linter.unusedVariables false
set_option linter.unusedSimpArgs false
open Go.ChangeShapes Go.WideShapes Go.ChangeAt Go.RowKit
/-- Blocks that were there are as they were, but for those of which S speaks; the streams are as they were; no block has gone. -/
structure Beside (S : Nat → Prop) (w w' : World) : Prop where
  os : w'.os = w.os
  tape : w'.tape = w.tape
  output : w'.output = w.output
  size : w.heap.size ≤ w'.heap.size
  block : ∀ k, k < w.heap.size → ¬ S k → w'.heap[k]? = w.heap[k]?
theorem Beside.refl (S : Nat → Prop) (w : World) : Beside S w w := ⟨rfl, rfl, rfl, Nat.le_refl _, fun _ _ _ => rfl⟩
theorem Beside.trans {S : Nat → Prop} {a b c : World} (h : Beside S a b) (k : Beside S b c) : Beside S a c :=
  ⟨k.os.trans h.os, k.tape.trans h.tape, k.output.trans h.output, Nat.le_trans h.size k.size, fun i hi hn => (k.block i (Nat.lt_of_lt_of_le hi h.size) hn).trans (h.block i hi hn)⟩
theorem Beside.mono {S T : Nat → Prop} {w w' : World} (h : Beside S w w') (hm : ∀ k, k < w.heap.size → S k → T k) : Beside T w w' := ⟨h.os, h.tape, h.output, h.size, fun k hk hn => h.block k hk (fun s => hn (hm k hk s))⟩
/-- Two calls, each with blocks of its own: those that the second one speaks of are of the first one's, or newer. -/
theorem Beside.seq {S T : Nat → Prop} {a b c : World} (h : Beside S a b) (k : Beside T b c) (hm : ∀ i, i < a.heap.size → T i → S i) : Beside S a c :=
  ⟨k.os.trans h.os, k.tape.trans h.tape, k.output.trans h.output, Nat.le_trans h.size k.size, fun i hi hn => (k.block i (Nat.lt_of_lt_of_le hi h.size) (fun t => hn (hm i hi t))).trans (h.block i hi hn)⟩
theorem Beside.of {S : Nat → Prop} {w w' : World} (h : Below w.heap.size w w') : Beside S w w' := ⟨h.os, h.tape, h.output, h.size, fun k hk _ => h.block k hk⟩
theorem Beside.from {n : Nat} {w w' : World} (h : Below n w w') : Beside (fun k => n ≤ k) w w' := ⟨h.os, h.tape, h.output, h.size, fun k _ hn => h.block k (by omega)⟩
/-- What it speaks of is from B on: below B all is as it was. -/
theorem Beside.below {S : Nat → Prop} {B : Nat} {w w' : World} (h : Beside S w w') (hS : ∀ k, k < w.heap.size → S k → B ≤ k) (hB : B ≤ w.heap.size) : Below B w w' :=
  ⟨h.os, h.tape, h.output, h.size, fun k hk => h.block k (by omega) (fun s => by have := hS k (by omega) s; omega)⟩
theorem Beside.after {S : Nat → Prop} {B : Nat} {a w w' : World} (b : Below B a w) (hB : B ≤ w.heap.size) (h : Beside S w w') (hS : ∀ k, k < w.heap.size → S k → B ≤ k) : Below B a w' := b.trans (h.below hS hB)
theorem Beside.cell {S : Nat → Prop} {w w' : World} (h : Beside S w w') {p : Addr} (hp : p.block < w.heap.size) (hn : ¬ S p.block) : w'.cell? p = w.cell? p := World.cell?_of_block (w := w) (h.block p.block hp hn)
theorem Beside.frozen {S : Nat → Prop} {w w' : World} (h : Beside S w w') {p : Addr} (hp : p.block < w.heap.size) (hn : ¬ S p.block) : w'.frozen? p = w.frozen? p := World.frozen?_of_block (w := w) (h.block p.block hp hn)
theorem Beside.setCell {S : Nat → Prop} {a w : World} (h : Beside S a w) {p : Addr} (hp : S p.block) (u : Value) : Beside S a (w.setCell p u) :=
  h.trans ⟨rfl, rfl, rfl, by simp [World.setCell], fun k hk hn => Below.heap_setCell _ _ _ _ (fun e => hn (e ▸ hp))⟩
theorem Beside.alloc {S : Nat → Prop} {a w : World} (h : Beside S a w) (o : Obj) : Beside S a (w.alloc o) :=
  h.trans (Beside.of ((Below.refl w.heap.size w).alloc (Nat.le_refl _) o))
theorem Beside.drew {S : Nat → Prop} {a w : World} (h : Beside S a w) : Beside S a w.drew := ⟨h.os, h.tape, h.output, h.size, h.block⟩
theorem Box4.by {S : Nat → Prop} {w w' : World} {b : Nat} {v0 v1 v2 v3 : Value} (h : Box4 w b v0 v1 v2 v3) (hb : Beside S w w') (hn : ¬ S b) : Box4 w' b v0 v1 v2 v3 := by
  obtain ⟨h, h0, h1, h2, h3⟩ := h
  exact ⟨Nat.lt_of_lt_of_le h hb.size, (hb.cell (p := ⟨b, 0, none⟩) h hn).trans h0, (hb.cell (p := ⟨b, 1, none⟩) h hn).trans h1, (hb.cell (p := ⟨b, 2, none⟩) h hn).trans h2, (hb.cell (p := ⟨b, 3, none⟩) h hn).trans h3⟩
end Go.Proofs.Ytbbadpidolfleaa

namespace Go.Proofs.Ytbbadpidolfleaa
set_option linter.unusedVariables false
set_option linter.unusedSimpArgs false
open Go.ChangeShapes Go.WideShapes Go.ChangeAt Go.RowKit
/-- An object behind a pointer to a block's beginning: Rep w S p x: at p lies x, in the blocks S. -/
structure ObjP (X : Type) where
  Rep : World → (Nat → Prop) → Nat → X → Prop
  lt : ∀ {w S p x}, Rep w S p x → ∀ k, S k → k < w.heap.size
  keep : ∀ {w w' : World} {S p x}, Rep w S p x → w.heap.size ≤ w'.heap.size → (∀ k, S k → w'.heap[k]? = w.heap[k]?) → Rep w' S p x
/-- The blocks of S' that were there are of S. -/
def Fresh (w : World) (S S' : Nat → Prop) : Prop := ∀ k, k < w.heap.size → S' k → S k
theorem Fresh.refl (w : World) (S : Nat → Prop) : Fresh w S S := fun _ _ h => h
theorem Fresh.trans {a b : World} {S S' S'' : Nat → Prop} (h : Fresh a S S') (k : Fresh b S' S'') (hs : a.heap.size ≤ b.heap.size) : Fresh a S S'' := fun i hi h2 => h i hi (k i (Nat.lt_of_lt_of_le hi hs) h2)
section
variable {X : Type} (O : ObjP X) {w w' : World} {S T T' : Nat → Prop} {p : Nat} {x : X}
theorem ObjP.on (h : O.Rep w S p x) (hb : Below w.heap.size w w') : O.Rep w' S p x := O.keep h hb.size fun k hk => hb.block k (O.lt h k hk)
theorem ObjP.by (h : O.Rep w S p x) (hb : Beside T w w') (hd : ∀ k, S k → ¬ T k) : O.Rep w' S p x := O.keep h hb.size fun k hk => hb.block k (O.lt h k hk) (hd k hk)
theorem ObjP.far (h : O.Rep w S p x) (hd : ∀ k, S k → ¬ T k) (hf : Fresh w T T') : ∀ k, S k → ¬ T' k := fun k hk ht => hd k hk (hf k (O.lt h k hk) ht)
end
theorem Fresh.from {w : World} {S S' : Nat → Prop} {B : Nat} (h : Fresh w S S') (hS : ∀ k, S k → B ≤ k) (hB : B ≤ w.heap.size) : ∀ k, S' k → B ≤ k := fun k hk => by
  by_cases e : k < w.heap.size
  · exact hS k (h k e hk)
  · omega
theorem Fresh.not {w : World} {S S' : Nat → Prop} {b : Nat} (h : Fresh w S S') (hb : b < w.heap.size) (hn : ¬ S b) : ¬ S' b := fun e => hn (h b hb e)
/-- Two objects that were made since a world, apart from each other. -/
structure Pair {X Y : Type} (A : ObjP X) (C : ObjP Y) (w0 w : World) (S T : Nat → Prop) (p q : Nat) (x : X) (y : Y) : Prop where
  fst : A.Rep w S p x
  snd : C.Rep w T q y
  ap : ∀ k, S k → ¬ T k
  la : ∀ k, S k → w0.heap.size ≤ k
  lb : ∀ k, T k → w0.heap.size ≤ k
  below : Below w0.heap.size w0 w
section
variable {X Y : Type} {A : ObjP X} {C : ObjP Y} {w0 w w' : World} {S T S' T' : Nat → Prop} {p q : Nat} {x x' : X} {y y' : Y}
theorem Pair.on (h : Pair A C w0 w S T p q x y) (hb : Below w.heap.size w w') : Pair A C w0 w' S T p q x y :=
  ⟨A.on h.fst hb, C.on h.snd hb, h.ap, h.la, h.lb, h.below.trans (hb.mono h.below.size)⟩
theorem Pair.one (h : Pair A C w0 w S T p q x y) (hr : A.Rep w' S' p x') (hf : Fresh w S S') (hb : Beside S w w') : Pair A C w0 w' S' T p q x' y :=
  ⟨hr, C.by h.snd hb (fun k ht hs => h.ap k hs ht), fun k hs ht => C.far h.snd (fun k ht hs => h.ap k hs ht) hf k ht hs, hf.from h.la h.below.size, h.lb, hb.after h.below h.below.size (fun k _ hs => h.la k hs)⟩
theorem Pair.two (h : Pair A C w0 w S T p q x y) (hr : C.Rep w' T' q y') (hf : Fresh w T T') (hb : Beside T w w') : Pair A C w0 w' S T' p q x y' :=
  ⟨A.by h.fst hb h.ap, hr, fun k hs ht => A.far h.fst h.ap hf k hs ht, h.la, hf.from h.lb h.below.size, hb.after h.below h.below.size (fun k _ hs => h.lb k hs)⟩
end
/-- One object that was made since a world. -/
structure Alone {X : Type} (A : ObjP X) (w0 w : World) (S : Nat → Prop) (p : Nat) (x : X) : Prop where
  rep : A.Rep w S p x
  la : ∀ k, S k → w0.heap.size ≤ k
  below : Below w0.heap.size w0 w
section
variable {X : Type} {A : ObjP X} {w0 w w' : World} {S S' : Nat → Prop} {p : Nat} {x x' : X}
theorem Alone.on (h : Alone A w0 w S p x) (hb : Below w.heap.size w w') : Alone A w0 w' S p x := ⟨A.on h.rep hb, h.la, h.below.trans (hb.mono h.below.size)⟩
theorem Alone.one (h : Alone A w0 w S p x) (hr : A.Rep w' S' p x') (hf : Fresh w S S') (hb : Beside S w w') : Alone A w0 w' S' p x' :=
  ⟨hr, hf.from h.la h.below.size, hb.after h.below h.below.size (fun k _ hs => h.la k hs)⟩
theorem Alone.by {T : Nat → Prop} (h : Alone A w0 w S p x) (hb : Beside T w w') (hd : ∀ k, S k → ¬ T k) (hT : ∀ k, T k → w0.heap.size ≤ k) : Alone A w0 w' S p x :=
  ⟨A.by h.rep hb hd, h.la, hb.after h.below h.below.size (fun k _ ht => hT k ht)⟩
end
/-- A call of an object that tells a value, and leaves the object as another one. -/
def Told {X : Type} (P : Program) (O : ObjP X) (f : FuncId) (args : Array Value) (w : World) (S : Nat → Prop) (p : Nat) (v : Value) (x' : X) : Prop :=
  Calls P f args w fun e w' => e = .returned v ∧ ∃ S', O.Rep w' S' p x' ∧ Fresh w S S' ∧ Beside S w w'
/-- A call that tells a value, and leaves all as it was. -/
def Says (P : Program) (f : FuncId) (args : Array Value) (w : World) (v : Value) : Prop := Calls P f args w fun e w' => e = .returned v ∧ Below w.heap.size w w'
theorem Told.mono {X : Type} {P : Program} {O : ObjP X} {f : FuncId} {args : Array Value} {w : World} {S : Nat → Prop} {p : Nat} {v : Value} {x' : X} {R : Ending → World → Prop} (h : Told P O f args w S p v x')
    (k : ∀ e w', (e = .returned v ∧ ∃ S', O.Rep w' S' p x' ∧ Fresh w S S' ∧ Beside S w w') → R e w') : Calls P f args w R := Calls.mono h k
theorem Says.mono {P : Program} {f : FuncId} {args : Array Value} {w : World} {v : Value} {R : Ending → World → Prop} (h : Says P f args w v) (k : ∀ e w', (e = .returned v ∧ Below w.heap.size w w') → R e w') : Calls P f args w R := Calls.mono h k
end Go.Proofs.Ytbbadpidolfleaa

namespace Go.Proofs.Ytbbadpidolfleaa
set_option linter.unusedVariables false
set_option linter.unusedSimpArgs false
/-- The place of the first that fits; -1: none does. -/
def firstAt {α : Type} (l : List α) (p : α → Bool) : Int := if l.any p = true then ((l.findIdx p : Nat) : Int) else -1
section
variable {α : Type} {l : List α} {p : α → Bool}
theorem firstAt_hit {d : α} {i : Nat} (h : i < l.length) (hn : ∀ j, j < i → p (l.getD j d) = false) (hf : p (l.getD i d) = true) : firstAt l p = (i : Int) := by
  rw [List.getD_eq_getElem?_getD, List.getElem?_eq_getElem h] at hf
  have ha : l.any p = true := List.any_eq_true.2 ⟨l[i], List.getElem_mem h, by simpa using hf⟩
  unfold firstAt
  rw [if_pos ha]
  congr 1
  refine (List.findIdx_eq h).2 ⟨by simpa using hf, fun j hj => ?_⟩
  have := hn j hj
  rw [List.getD_eq_getElem?_getD, List.getElem?_eq_getElem (by omega)] at this
  simpa using this
theorem anyAt_none {d : α} (hn : ∀ j, j < l.length → p (l.getD j d) = false) : l.any p = false := by
  refine List.any_eq_false.2 fun x hx => ?_
  obtain ⟨k, hk, rfl⟩ := List.mem_iff_getElem.1 hx
  have := hn k hk
  rw [List.getD_eq_getElem?_getD, List.getElem?_eq_getElem hk] at this
  simpa using this
theorem firstAt_none {d : α} (hn : ∀ j, j < l.length → p (l.getD j d) = false) : firstAt l p = -1 := by
  unfold firstAt
  rw [anyAt_none hn]
  rfl
theorem firstAt_any : decide (0 ≤ firstAt l p) = l.any p := by
  unfold firstAt
  cases h : l.any p with
  | true => rw [if_pos rfl]; exact decide_eq_true (Int.natCast_nonneg _)
  | false => rfl
theorem firstAt_neg : decide (firstAt l p < 0) = !l.any p := by
  unfold firstAt
  cases h : l.any p with
  | true => rw [if_pos rfl]; simp
  | false => rfl
/-- What it is. -/
theorem firstAt_at (d : α) (h : l.any p = true) : ∃ i, firstAt l p = ((i : Nat) : Int) ∧ i < l.length ∧ p (l.getD i d) = true ∧ l.find? p = some (l.getD i d) ∧ ∀ j, j < i → p (l.getD j d) = false := by
  have hx := List.any_eq_true.1 h
  have hlt : l.findIdx p < l.length := List.findIdx_lt_length.2 hx
  refine ⟨l.findIdx p, ?_, hlt, ?_, ?_, fun j hj => ?_⟩
  · unfold firstAt; rw [if_pos h]
  · rw [List.getD_eq_getElem?_getD, List.getElem?_eq_getElem hlt]
    exact List.findIdx_getElem
  · rw [List.getD_eq_getElem?_getD, List.getElem?_eq_getElem hlt]
    exact List.find?_eq_some_iff_getElem.2 ⟨List.findIdx_getElem, _, hlt, rfl, fun j hj => by simpa using List.not_of_lt_findIdx hj⟩
  · rw [List.getD_eq_getElem?_getD, List.getElem?_eq_getElem (Nat.lt_trans hj hlt)]
    simpa using List.not_of_lt_findIdx hj
end
end Go.Proofs.Ytbbadpidolfleaa
