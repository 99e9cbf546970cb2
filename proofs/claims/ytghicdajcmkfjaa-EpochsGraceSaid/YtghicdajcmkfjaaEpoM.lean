/- The document's epochs in memory (layer 14). -/
import Derived.Test.YtghicdajcmkfjaaEpoK
import Derived.Laws.OwnMore
import Derived.Maps.AppendAt
namespace Go.Proofs.Ytghicdajcmkfjaa
set_option linter.unusedVariables false
set_option linter.unusedSimpArgs false
open Go.ChangeShapes Go.WideShapes Go.ChangeAt Go.RowKit Go.PlainAid
def valsI (l : List Int) : List Value := l.map fun z => .int .i64 z
theorem valsI_len (l : List Int) : (valsI l).length = l.length := List.length_map ..
theorem valsI_at (l : List Int) (i : Nat) (h : i < l.length) (d : Int) : (valsI l)[i]? = some (.int .i64 (l.getD i d)) := by simp [valsI, List.getD, h]
theorem valsI_set (l : List Int) (i : Nat) (e : Int) : (valsI l).set i (.int .i64 e) = valsI (l.set i e) := by simp [valsI, List.map_set]
theorem valsI_push (l : List Int) (e : Int) : valsI l ++ [.int .i64 e] = valsI (l ++ [e]) := by simp [valsI]
def valsW (l : List (Nat × Nat)) : List Value := l.flatMap fun p => [.int .i64 (p.1 : Int), .int .i64 (p.2 : Int)]
theorem valsW_len : ∀ l : List (Nat × Nat), (valsW l).length = l.length * 2
  | [] => rfl
  | x :: l => by
    have := valsW_len l
    show (_ :: _ :: valsW l).length = _
    simp only [List.length_cons, this]
    omega
theorem valsW_app (a b : List (Nat × Nat)) : valsW (a ++ b) = valsW a ++ valsW b := List.flatMap_append
theorem valsW_at : ∀ (l : List (Nat × Nat)) (i : Nat), i < l.length → (valsW l)[i * 2]? = some (.int .i64 (((l.getD i (0, 0)).1 : Nat) : Int)) ∧ (valsW l)[i * 2 + 1]? = some (.int .i64 (((l.getD i (0, 0)).2 : Nat) : Int))
  | x :: l, 0, _ => ⟨rfl, rfl⟩
  | x :: l, i + 1, h => by
    have ih := valsW_at l i (by simpa using h)
    have e : (i + 1) * 2 = i * 2 + 1 + 1 := by omega
    rw [e]
    show (_ :: _ :: valsW l)[i * 2 + 1 + 1]? = _ ∧ (_ :: _ :: valsW l)[i * 2 + 1 + 1 + 1]? = _
    simp only [List.getElem?_cons_succ]
    exact ih
theorem own_kept {w w' : World} {base : Nat} {e : TypeId} {size n : Nat} {v : Value} {xs : List Value} (h : w.ownsRow base e size v n xs) (hv : ∀ g, v.ownBlock = some g → w'.heap[g]? = w.heap[g]?) : w'.ownsRow base e size v n xs := by
  refine ⟨h.1, ?_⟩
  rcases h.2 with h | ⟨g, c, cur, rfl, hb, hg, rest⟩
  · exact .inl h
  · exact .inr ⟨g, c, cur, rfl, hb, (hv g rfl).trans hg, rest⟩
theorem own_slice {w : World} {base : Nat} {e : TypeId} {size n : Nat} {v : Value} {xs : List Value} (h : w.ownsRow base e size v n xs) : ∃ a c, v = .slice a n c := by
  rcases h.2 with ⟨h0, h1⟩ | ⟨g, c, cur, rfl, _⟩
  · exact ⟨none, 0, by rw [h1]; exact h0⟩
  · exact ⟨_, _, rfl⟩
theorem own_block {w : World} {base : Nat} {e : TypeId} {size n : Nat} {v : Value} {xs : List Value} (h : w.ownsRow base e size v n xs) (hn : 0 < n) : ∃ g c, v = .slice (some ⟨g, 0, none⟩) n c ∧ g < w.heap.size := by
  rcases h.2 with ⟨h0, h1⟩ | ⟨g, c, cur, rfl, hb, hg, _⟩
  · omega
  · exact ⟨g, c, rfl, (Array.getElem?_eq_some_iff.1 hg).1⟩
/-- The document's epochs: a block of three cells; a row of what was announced; a row of what waits. -/
structure EpD (w : World) (S : Nat → Prop) (p : Nat) (vs vl : Value) (x : Ep) : Prop where
  lt : ∀ k, S k → k < w.heap.size
  inp : S p
  c0 : w.cell? ⟨p, 0, none⟩ = some (.int .i64 (x.now : Int))
  c1 : w.cell? ⟨p, 1, none⟩ = some vs
  c2 : w.cell? ⟨p, 2, none⟩ = some vl
  f : ∀ i, w.frozen? ⟨p, i, none⟩ = false
  rs : w.ownsRow 0 3 1 vs x.said.length (valsI x.said)
  rl : w.ownsRow 0 63 2 vl x.l.length (valsW x.l)
  ns : ∀ k, vs.ownBlock = some k → S k ∧ k ≠ p
  nl : ∀ k, vl.ownBlock = some k → S k ∧ k ≠ p
  sl : ∀ k, vs.ownBlock = some k → vl.ownBlock ≠ some k
  ok : x.Ok
def EpR (w : World) (S : Nat → Prop) (p : Nat) (x : Ep) : Prop := ∃ vs vl, EpD w S p vs vl x
theorem EpD.keep {w w' : World} {S : Nat → Prop} {p : Nat} {vs vl : Value} {x : Ep} (h : EpD w S p vs vl x) (hs : w.heap.size ≤ w'.heap.size) (hb : ∀ k, S k → w'.heap[k]? = w.heap[k]?) : EpD w' S p vs vl x :=
  have hp := hb p h.inp
  ⟨fun k hk => Nat.lt_of_lt_of_le (h.lt k hk) hs, h.inp, (World.cell?_of_block (w := w) (a := ⟨p, 0, none⟩) hp).trans h.c0, (World.cell?_of_block (w := w) (a := ⟨p, 1, none⟩) hp).trans h.c1, (World.cell?_of_block (w := w) (a := ⟨p, 2, none⟩) hp).trans h.c2,
    fun i => (World.frozen?_of_block (w := w) (a := ⟨p, i, none⟩) hp).trans (h.f i), own_kept h.rs (fun k hk => hb k (h.ns k hk).1), own_kept h.rl (fun k hk => hb k (h.nl k hk).1), h.ns, h.nl, h.sl, h.ok⟩
theorem EpD.on {w w' : World} {S : Nat → Prop} {p : Nat} {vs vl : Value} {x : Ep} (h : EpD w S p vs vl x) (hb : Below w.heap.size w w') : EpD w' S p vs vl x := h.keep hb.size fun k hk => hb.block k (h.lt k hk)
def epR : ObjP Ep where
  Rep := EpR
  lt := fun ⟨_, _, h⟩ => h.lt
  keep := fun ⟨vs, vl, h⟩ hs hb => ⟨vs, vl, h.keep hs hb⟩
/-- What a worker announced is told. -/
theorem EpD.set {w : World} {S : Nat → Prop} {p g c : Nat} {vl : Value} {x : Ep} (h : EpD w S p (.slice (some ⟨g, 0, none⟩) x.said.length c) vl x) (k : Nat) (hk : k < x.said.length) (e : Int) (he : e = -1 ∨ e = x.now) :
    EpD (w.setCell ⟨g, k, none⟩ (.int .i64 e)) S p (.slice (some ⟨g, 0, none⟩) x.said.length c) vl (x.setT k e) ∧ Beside S w (w.setCell ⟨g, k, none⟩ (.int .i64 e)) := by
  have e1 : x.setT k e = { x with said := x.said.set k e } := by
    have ht : x.there (k : Int) := ⟨by omega, by omega⟩
    unfold Ep.setT; rw [if_pos ht]; rfl
  obtain ⟨h1, h2⟩ := World.ownsRow.stored h.rs k (.int .i64 e)
  rw [valsI_set] at h1
  have hg := h.ns g rfl
  have ok := h.ok.set (k : Int) e he
  have hk1 : ∀ j, j ≠ g → (w.setCell ⟨g, k, none⟩ (.int .i64 e)).heap[j]? = w.heap[j]? := fun j hj => Below.heap_setCell _ _ _ _ hj
  have hp := hk1 p (fun e => hg.2 e.symm)
  refine ⟨⟨fun j hj => by simpa [World.setCell] using h.lt j hj, h.inp, ?_, (World.cell?_of_block (w := w) (a := ⟨p, 1, none⟩) hp).trans h.c1, (World.cell?_of_block (w := w) (a := ⟨p, 2, none⟩) hp).trans h.c2, fun i => (World.frozen?_of_block (w := w) (a := ⟨p, i, none⟩) hp).trans (h.f i), ?_, ?_, h.ns, h.nl, h.sl, ok⟩, (Beside.refl S w).setCell (p := ⟨g, k, none⟩) hg.1 _⟩
  · rw [Ep.now_set]; exact (World.cell?_of_block (w := w) (a := ⟨p, 0, none⟩) hp).trans h.c0
  · rw [e1]; show World.ownsRow _ _ _ _ _ (x.said.set k e).length _; rw [List.length_set]; exact h1
  · rw [Ep.l_set]; exact own_kept h.rl (fun j hj => hk1 j (fun e => h.sl g rfl (e ▸ hj)))
end Go.Proofs.Ytghicdajcmkfjaa
