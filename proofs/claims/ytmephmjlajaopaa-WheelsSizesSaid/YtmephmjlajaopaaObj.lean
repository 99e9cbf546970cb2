/- Objects in memory: what one is, and in which blocks it lies; two of them that go along. -/
import Derived.Test.YtmephmjlajaopaaBeside
namespace Go.Proofs.Ytmephmjlajaopaa
set_option linter.unusedVariables false
set_option linter.unusedSimpArgs false
open Go.ChangeShapes Go.WideShapes Go.ChangeAt Go.RowKit
/-- An object behind a pointer to a block's beginning: Rep w S p x: at p lies x, in the blocks S. -/
structure ObjP (X : Type) where
  Rep : World → (Nat → Prop) → Nat → X → Prop
  lt : ∀ {w S p x}, Rep w S p x → ∀ k, S k → k < w.heap.size
  keep : ∀ {w w' : World} {S p x}, Rep w S p x → w.heap.size ≤ w'.heap.size → (∀ k, S k → w'.heap[k]? = w.heap[k]?) → Rep w' S p x
/-- The blocks of S' that were there are of S. -/
def Fresh (w : World) (S S' : Nat → Prop) : Prop := ∀ k, k < w.heap.size → S' k → S k
theorem Fresh.refl (w : World) (S : Nat → Prop) : Fresh w S S := fun _ _ h => h
theorem Fresh.trans {a b : World} {S S' S'' : Nat → Prop} (h : Fresh a S S') (k : Fresh b S' S'') (hs : a.heap.size ≤ b.heap.size) : Fresh a S S'' := fun i hi h2 => h i hi (k i (Nat.lt_of_lt_of_le hi hs) h2)
section
variable {X : Type} (O : ObjP X) {w w' : World} {S T T' : Nat → Prop} {p : Nat} {x : X}
theorem ObjP.on (h : O.Rep w S p x) (hb : Below w.heap.size w w') : O.Rep w' S p x := O.keep h hb.size fun k hk => hb.block k (O.lt h k hk)
theorem ObjP.by (h : O.Rep w S p x) (hb : Beside T w w') (hd : ∀ k, S k → ¬ T k) : O.Rep w' S p x := O.keep h hb.size fun k hk => hb.block k (O.lt h k hk) (hd k hk)
theorem ObjP.far (h : O.Rep w S p x) (hd : ∀ k, S k → ¬ T k) (hf : Fresh w T T') : ∀ k, S k → ¬ T' k := fun k hk ht => hd k hk (hf k (O.lt h k hk) ht)
end
theorem Fresh.from {w : World} {S S' : Nat → Prop} {B : Nat} (h : Fresh w S S') (hS : ∀ k, S k → B ≤ k) (hB : B ≤ w.heap.size) : ∀ k, S' k → B ≤ k := fun k hk => by
  by_cases e : k < w.heap.size
  · exact hS k (h k e hk)
  · omega
theorem Fresh.not {w : World} {S S' : Nat → Prop} {b : Nat} (h : Fresh w S S') (hb : b < w.heap.size) (hn : ¬ S b) : ¬ S' b := fun e => hn (h b hb e)
/-- Two objects that were made since a world, apart from each other. -/
structure Pair {X Y : Type} (A : ObjP X) (C : ObjP Y) (w0 w : World) (S T : Nat → Prop) (p q : Nat) (x : X) (y : Y) : Prop where
  fst : A.Rep w S p x
  snd : C.Rep w T q y
  ap : ∀ k, S k → ¬ T k
  la : ∀ k, S k → w0.heap.size ≤ k
  lb : ∀ k, T k → w0.heap.size ≤ k
  below : Below w0.heap.size w0 w
section
variable {X Y : Type} {A : ObjP X} {C : ObjP Y} {w0 w w' : World} {S T S' T' : Nat → Prop} {p q : Nat} {x x' : X} {y y' : Y}
theorem Pair.on (h : Pair A C w0 w S T p q x y) (hb : Below w.heap.size w w') : Pair A C w0 w' S T p q x y :=
  ⟨A.on h.fst hb, C.on h.snd hb, h.ap, h.la, h.lb, h.below.trans (hb.mono h.below.size)⟩
theorem Pair.one (h : Pair A C w0 w S T p q x y) (hr : A.Rep w' S' p x') (hf : Fresh w S S') (hb : Beside S w w') : Pair A C w0 w' S' T p q x' y :=
  ⟨hr, C.by h.snd hb (fun k ht hs => h.ap k hs ht), fun k hs ht => C.far h.snd (fun k ht hs => h.ap k hs ht) hf k ht hs, hf.from h.la h.below.size, h.lb, hb.after h.below h.below.size (fun k _ hs => h.la k hs)⟩
theorem Pair.two (h : Pair A C w0 w S T p q x y) (hr : C.Rep w' T' q y') (hf : Fresh w T T') (hb : Beside T w w') : Pair A C w0 w' S T' p q x y' :=
  ⟨A.by h.fst hb h.ap, hr, fun k hs ht => A.far h.fst h.ap hf k hs ht, h.la, hf.from h.lb h.below.size, hb.after h.below h.below.size (fun k _ hs => h.lb k hs)⟩
end
/-- One object that was made since a world. -/
structure Alone {X : Type} (A : ObjP X) (w0 w : World) (S : Nat → Prop) (p : Nat) (x : X) : Prop where
  rep : A.Rep w S p x
  la : ∀ k, S k → w0.heap.size ≤ k
  below : Below w0.heap.size w0 w
section
variable {X : Type} {A : ObjP X} {w0 w w' : World} {S S' : Nat → Prop} {p : Nat} {x x' : X}
theorem Alone.on (h : Alone A w0 w S p x) (hb : Below w.heap.size w w') : Alone A w0 w' S p x := ⟨A.on h.rep hb, h.la, h.below.trans (hb.mono h.below.size)⟩
theorem Alone.one (h : Alone A w0 w S p x) (hr : A.Rep w' S' p x') (hf : Fresh w S S') (hb : Beside S w w') : Alone A w0 w' S' p x' :=
  ⟨hr, hf.from h.la h.below.size, hb.after h.below h.below.size (fun k _ hs => h.la k hs)⟩
theorem Alone.by {T : Nat → Prop} (h : Alone A w0 w S p x) (hb : Beside T w w') (hd : ∀ k, S k → ¬ T k) (hT : ∀ k, T k → w0.heap.size ≤ k) : Alone A w0 w' S p x :=
  ⟨A.by h.rep hb hd, h.la, hb.after h.below h.below.size (fun k _ ht => hT k ht)⟩
end
/-- A call of an object that tells a value, and leaves the object as another one. -/
def Told {X : Type} (P : Program) (O : ObjP X) (f : FuncId) (args : Array Value) (w : World) (S : Nat → Prop) (p : Nat) (v : Value) (x' : X) : Prop :=
  Calls P f args w fun e w' => e = .returned v ∧ ∃ S', O.Rep w' S' p x' ∧ Fresh w S S' ∧ Beside S w w'
/-- A call that tells a value, and leaves all as it was. -/
def Says (P : Program) (f : FuncId) (args : Array Value) (w : World) (v : Value) : Prop := Calls P f args w fun e w' => e = .returned v ∧ Below w.heap.size w w'
theorem Told.mono {X : Type} {P : Program} {O : ObjP X} {f : FuncId} {args : Array Value} {w : World} {S : Nat → Prop} {p : Nat} {v : Value} {x' : X} {R : Ending → World → Prop} (h : Told P O f args w S p v x')
    (k : ∀ e w', (e = .returned v ∧ ∃ S', O.Rep w' S' p x' ∧ Fresh w S S' ∧ Beside S w w') → R e w') : Calls P f args w R := Calls.mono h k
theorem Says.mono {P : Program} {f : FuncId} {args : Array Value} {w : World} {v : Value} {R : Ending → World → Prop} (h : Says P f args w v) (k : ∀ e w', (e = .returned v ∧ Below w.heap.size w w') → R e w') : Calls P f args w R := Calls.mono h k
end Go.Proofs.Ytmephmjlajaopaa
