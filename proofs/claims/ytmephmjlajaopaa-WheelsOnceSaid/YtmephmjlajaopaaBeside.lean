/- A call that writes to blocks that were there ahead of it: all others are as they were. -/
import Derived.Test.YtmephmjlajaopaaBox4
namespace Go.Proofs.Ytmephmjlajaopaa
set_option linter.unusedVariables false
set_option linter.unusedSimpArgs false
open Go.ChangeShapes Go.WideShapes Go.ChangeAt Go.RowKit
/-- Blocks that were there are as they were, but for those of which S speaks; the streams are as they were; no block has gone. -/
structure Beside (S : Nat → Prop) (w w' : World) : Prop where
  os : w'.os = w.os
  tape : w'.tape = w.tape
  output : w'.output = w.output
  size : w.heap.size ≤ w'.heap.size
  block : ∀ k, k < w.heap.size → ¬ S k → w'.heap[k]? = w.heap[k]?
theorem Beside.refl (S : Nat → Prop) (w : World) : Beside S w w := ⟨rfl, rfl, rfl, Nat.le_refl _, fun _ _ _ => rfl⟩
theorem Beside.trans {S : Nat → Prop} {a b c : World} (h : Beside S a b) (k : Beside S b c) : Beside S a c :=
  ⟨k.os.trans h.os, k.tape.trans h.tape, k.output.trans h.output, Nat.le_trans h.size k.size, fun i hi hn => (k.block i (Nat.lt_of_lt_of_le hi h.size) hn).trans (h.block i hi hn)⟩
theorem Beside.mono {S T : Nat → Prop} {w w' : World} (h : Beside S w w') (hm : ∀ k, k < w.heap.size → S k → T k) : Beside T w w' := ⟨h.os, h.tape, h.output, h.size, fun k hk hn => h.block k hk (fun s => hn (hm k hk s))⟩
/-- Two calls, each with blocks of its own: those that the second one speaks of are of the first one's, or newer. -/
theorem Beside.seq {S T : Nat → Prop} {a b c : World} (h : Beside S a b) (k : Beside T b c) (hm : ∀ i, i < a.heap.size → T i → S i) : Beside S a c :=
  ⟨k.os.trans h.os, k.tape.trans h.tape, k.output.trans h.output, Nat.le_trans h.size k.size, fun i hi hn => (k.block i (Nat.lt_of_lt_of_le hi h.size) (fun t => hn (hm i hi t))).trans (h.block i hi hn)⟩
theorem Beside.of {S : Nat → Prop} {w w' : World} (h : Below w.heap.size w w') : Beside S w w' := ⟨h.os, h.tape, h.output, h.size, fun k hk _ => h.block k hk⟩
theorem Beside.from {n : Nat} {w w' : World} (h : Below n w w') : Beside (fun k => n ≤ k) w w' := ⟨h.os, h.tape, h.output, h.size, fun k _ hn => h.block k (by omega)⟩
/-- What it speaks of is from B on: below B all is as it was. -/
theorem Beside.below {S : Nat → Prop} {B : Nat} {w w' : World} (h : Beside S w w') (hS : ∀ k, k < w.heap.size → S k → B ≤ k) (hB : B ≤ w.heap.size) : Below B w w' :=
  ⟨h.os, h.tape, h.output, h.size, fun k hk => h.block k (by omega) (fun s => by have := hS k (by omega) s; omega)⟩
theorem Beside.after {S : Nat → Prop} {B : Nat} {a w w' : World} (b : Below B a w) (hB : B ≤ w.heap.size) (h : Beside S w w') (hS : ∀ k, k < w.heap.size → S k → B ≤ k) : Below B a w' := b.trans (h.below hS hB)
theorem Beside.cell {S : Nat → Prop} {w w' : World} (h : Beside S w w') {p : Addr} (hp : p.block < w.heap.size) (hn : ¬ S p.block) : w'.cell? p = w.cell? p := World.cell?_of_block (w := w) (h.block p.block hp hn)
theorem Beside.frozen {S : Nat → Prop} {w w' : World} (h : Beside S w w') {p : Addr} (hp : p.block < w.heap.size) (hn : ¬ S p.block) : w'.frozen? p = w.frozen? p := World.frozen?_of_block (w := w) (h.block p.block hp hn)
theorem Beside.setCell {S : Nat → Prop} {a w : World} (h : Beside S a w) {p : Addr} (hp : S p.block) (u : Value) : Beside S a (w.setCell p u) :=
  h.trans ⟨rfl, rfl, rfl, by simp [World.setCell], fun k hk hn => Below.heap_setCell _ _ _ _ (fun e => hn (e ▸ hp))⟩
theorem Beside.alloc {S : Nat → Prop} {a w : World} (h : Beside S a w) (o : Obj) : Beside S a (w.alloc o) :=
  h.trans (Beside.of ((Below.refl w.heap.size w).alloc (Nat.le_refl _) o))
theorem Beside.drew {S : Nat → Prop} {a w : World} (h : Beside S a w) : Beside S a w.drew := ⟨h.os, h.tape, h.output, h.size, h.block⟩
theorem Box4.by {S : Nat → Prop} {w w' : World} {b : Nat} {v0 v1 v2 v3 : Value} (h : Box4 w b v0 v1 v2 v3) (hb : Beside S w w') (hn : ¬ S b) : Box4 w' b v0 v1 v2 v3 := by
  obtain ⟨h, h0, h1, h2, h3⟩ := h
  exact ⟨Nat.lt_of_lt_of_le h hb.size, (hb.cell (p := ⟨b, 0, none⟩) h hn).trans h0, (hb.cell (p := ⟨b, 1, none⟩) h hn).trans h1, (hb.cell (p := ⟨b, 2, none⟩) h hn).trans h2, (hb.cell (p := ⟨b, 3, none⟩) h hn).trans h3⟩
end Go.Proofs.Ytmephmjlajaopaa
