/- SlabOnce's state in memory (layer 13): the slab, the handles that were taken, which of them are over, which slots are gone. -/
import Derived.Test.YtlnbjpabcldmnaaSlaT
import Derived.Test.YtlnbjpabcldmnaaSlaQ
import Derived.Test.YtlnbjpabcldmnaaSlaAct
import Derived.Lib.AppendZeros
namespace Go.Proofs.Ytlnbjpabcldmnaa
set_option linter.unusedVariables false
set_option linter.unusedSimpArgs false
open Go.ChangeShapes Go.WideShapes Go.ChangeAt Go.RowKit Go.PlainAid
/-- Bools as values. -/
def valsB (f : Nat → Bool) (m : Nat) : List Value := (List.range m).map fun j => .bool (f j)
theorem valsB_len (f : Nat → Bool) (m : Nat) : (valsB f m).length = m := by simp [valsB]
theorem valsB_at (f : Nat → Bool) (m j : Nat) (h : j < m) : (valsB f m)[j]? = some (.bool (f j)) := by simp [valsB, h]
theorem valsB_congr {f g : Nat → Bool} {m : Nat} (h : ∀ j, j < m → f j = g j) : valsB f m = valsB g m :=
  List.map_congr_left fun j hj => by rw [h j (by simpa using hj)]
theorem valsB_set (f : Nat → Bool) (m k : Nat) (b : Bool) : (valsB f m).set k (.bool b) = valsB (fun j => if j = k then b else f j) m := by
  refine List.ext_getElem? fun i => ?_
  rw [List.getElem?_set]
  by_cases hi : i < m
  · rw [valsB_at f m i hi, valsB_at _ m i hi, valsB_len]
    by_cases e : k = i
    · subst e; rw [if_pos rfl, if_pos hi, if_pos rfl]
    · rw [if_neg e, if_neg (fun h => e h.symm)]
  · have h1 : (valsB f m)[i]? = none := by simp [valsB_len]; omega
    have h2 : (valsB (fun j => if j = k then b else f j) m)[i]? = none := by simp [valsB_len]; omega
    rw [h1, h2, valsB_len]
    split
    · rename_i e; rw [if_neg (by omega)]
    · rfl
theorem valsB_push {f : Nat → Bool} {m : Nat} {b : Bool} (h : f m = b) : valsB f m ++ [.bool b] = valsB f (m + 1) := by
  unfold valsB
  rw [List.range_succ, List.map_append, ← h]
  rfl
theorem own_keep {w w' : World} {base : Nat} {e : TypeId} {size n : Nat} {v : Value} {xs : List Value} (h : w.ownsRow base e size v n xs) (hv : ∀ g, v.ownBlock = some g → w'.heap[g]? = w.heap[g]?) : w'.ownsRow base e size v n xs := by
  refine ⟨h.1, ?_⟩
  rcases h.2 with h | ⟨g, c, cur, rfl, hb, hg, rest⟩
  · exact .inl h
  · exact .inr ⟨g, c, cur, rfl, hb, (hv g rfl).trans hg, rest⟩
theorem ownF_keep {w w' : World} {g n : Nat} {f : Nat → Value} (h : OwnF w g n f) (hs : w.heap.size ≤ w'.heap.size) (hb : w'.heap[g]? = w.heap[g]?) : OwnF w' g n f :=
  ⟨Nat.lt_of_lt_of_le h.1 hs, fun j hj => ⟨(World.cell?_of_block (w := w) (a := ⟨g, j, none⟩) hb).trans (h.2 j hj).1, (World.frozen?_of_block (w := w) (a := ⟨g, j, none⟩) hb).trans (h.2 j hj).2⟩⟩
theorem own_form {w : World} {base : Nat} {e : TypeId} {size n : Nat} {v : Value} {xs : List Value} (h : w.ownsRow base e size v n xs) : ∃ a c, v = .slice a n c := by
  rcases h.2 with ⟨h0, h1⟩ | ⟨g, c, cur, rfl, _⟩
  · exact ⟨none, 0, by rw [h1]; exact h0⟩
  · exact ⟨_, _, rfl⟩
theorem own_some {w : World} {base : Nat} {e : TypeId} {size n : Nat} {v : Value} {xs : List Value} (h : w.ownsRow base e size v n xs) (hn : 0 < n) : ∃ g c, v = .slice (some ⟨g, 0, none⟩) n c ∧ base ≤ g ∧ g < w.heap.size := by
  rcases h.2 with ⟨h0, h1⟩ | ⟨g, c, cur, rfl, hb, hg, _⟩
  · omega
  · exact ⟨g, c, rfl, hb, (Array.getElem?_eq_some_iff.1 hg).1⟩
/-- What SlabOnce has in memory: the slab t at q; the handles hs in the row v8; which are over (f) in the row v9; which slots are gone (g) at gb. -/
structure OnS (K : SlabOk) (w wr : World) (q gb n : Nat) (v8 v9 : Value) (t hs : Sl) (f g : Nat → Bool) : Prop where
  rep : K.Rep wr q t
  row : RowP 34 wr (gb + 1) v8 hs
  ovr : wr.ownsRow (gb + 1) 4 1 v9 hs.length (valsB f hs.length)
  gone : OwnF wr gb n (fun j => .bool (g j))
  ap : ∀ k, v8.ownBlock = some k → v9.ownBlock ≠ some k
  below : Below w.heap.size w wr
structure OnB (w : World) (q gb : Nat) : Prop where
  hq : w.heap.size ≤ q
  hg : q < gb
section
variable {K : SlabOk} {w wr : World} {q gb n : Nat} {v8 v9 : Value} {t hs : Sl} {f g : Nat → Bool}
theorem OnS.on (h : OnS K w wr q gb n v8 v9 t hs f g) {w' : World} (hb : Below wr.heap.size wr w') : OnS K w w' q gb n v8 v9 t hs f g :=
  ⟨K.on h.rep hb, h.row.on hb, own_keep h.ovr (fun k hk => hb.block k (World.ownsRow.lt h.ovr k hk).2), h.gone.on hb, h.ap, h.below.trans (hb.mono h.below.size)⟩
theorem OnS.ne8 (h : OnS K w wr q gb n v8 v9 t hs f g) (b : OnB w q gb) {k : Nat} (hk : v8.ownBlock = some k) : gb < k ∧ k < wr.heap.size := h.row.lt k hk
theorem OnS.ne9 (h : OnS K w wr q gb n v8 v9 t hs f g) (b : OnB w q gb) {k : Nat} (hk : v9.ownBlock = some k) : gb < k ∧ k < wr.heap.size := World.ownsRow.lt h.ovr k hk
/-- A call that writes the slab. -/
theorem OnS.call (h : OnS K w wr q gb n v8 v9 t hs f g) (b : OnB w q gb) {w' : World} {t2 : Sl} (hr : K.Rep w' q t2) (hb : Beside (fun k => k = q) wr w') : OnS K w w' q gb n v8 v9 t2 hs f g :=
  ⟨hr, h.row.beside hb (fun k hk (e : k = q) => by have := (h.ne8 b hk).1; have := b.hg; omega), own_keep h.ovr (fun k hk => hb.block k (h.ne9 b hk).2 (fun (e : k = q) => by have := (h.ne9 b hk).1; have := b.hg; omega)),
    h.gone.by hb (fun (e : gb = q) => by have := b.hg; omega), h.ap, below_own h.below b.hq hb⟩
/-- Which slot is gone is told. -/
theorem OnS.setGone (h : OnS K w wr q gb n v8 v9 t hs f g) (b : OnB w q gb) (k : Nat) (hk : k < n) (z : Bool) : OnS K w (wr.setCell ⟨gb, k, none⟩ (.bool z)) q gb n v8 v9 t hs f (fun j => if j = k then z else g j) := by
  have hk1 : ∀ j, j ≠ gb → (wr.setCell ⟨gb, k, none⟩ (.bool z)).heap[j]? = wr.heap[j]? := fun j hj => Below.heap_setCell _ _ _ _ hj
  have hs1 : wr.heap.size ≤ (wr.setCell ⟨gb, k, none⟩ (.bool z)).heap.size := by simp [World.setCell]
  have hq := b.hq
  have hg := b.hg
  refine ⟨K.keep h.rep hs1 (hk1 q (by omega)), h.row.keep (fun j hj => hk1 j (by have := (h.ne8 b hj).1; omega)), own_keep h.ovr (fun j hj => hk1 j (by have := (h.ne9 b hj).1; omega)), ?_, h.ap, h.below.setCell (p := ⟨gb, k, none⟩) (by show w.heap.size ≤ gb; omega) _⟩
  refine (h.gone.set k hk (.bool z)).congr fun j _ => ?_
  show (if j = k then Value.bool z else .bool (g j)) = .bool (if j = k then z else g j)
  split <;> rfl
/-- That a handle is over is told. -/
theorem OnS.setOver {g9 c9 : Nat} (h : OnS K w wr q gb n v8 (.slice (some ⟨g9, 0, none⟩) hs.length c9) t hs f g) (b : OnB w q gb) (k : Nat) (z : Bool) :
    OnS K w (wr.setCell ⟨g9, k, none⟩ (.bool z)) q gb n v8 (.slice (some ⟨g9, 0, none⟩) hs.length c9) t hs (fun j => if j = k then z else f j) g := by
  obtain ⟨h1, h2⟩ := World.ownsRow.stored h.ovr k (.bool z)
  rw [valsB_set] at h1
  have h9 := h.ne9 b (k := g9) rfl
  have hq := b.hq
  have hg := b.hg
  have hk1 : ∀ j, j ≠ g9 → (wr.setCell ⟨g9, k, none⟩ (.bool z)).heap[j]? = wr.heap[j]? := fun j hj => Below.heap_setCell _ _ _ _ hj
  have hs1 : wr.heap.size ≤ (wr.setCell ⟨g9, k, none⟩ (.bool z)).heap.size := by simp [World.setCell]
  exact ⟨K.keep h.rep hs1 (hk1 q (by omega)), h.row.keep (fun j hj => hk1 j (fun e => h.ap j hj (by rw [e]; rfl))), h1, ownF_keep h.gone hs1 (hk1 gb (by omega)), h.ap, h.below.setCell (p := ⟨g9, k, none⟩) (by show w.heap.size ≤ g9; omega) _⟩
/-- The cells of a handle that was taken. -/
theorem OnS.had (h : OnS K w wr q gb n v8 v9 t hs f g) (h0 : 0 < hs.length) : ∃ g8 c8, v8 = .slice (some ⟨g8, 0, none⟩) hs.length c8 ∧ ∀ j, j < hs.length → wr.cell? ⟨g8, j * 2, none⟩ = some (.int .i64 ((slS hs j : Nat) : Int)) ∧ wr.cell? ⟨g8, j * 2 + 1, none⟩ = some (.int .u32 ((slG hs j : Nat) : Int)) := by
  obtain ⟨g8, c8, e, _, hp⟩ := h.row.at h0
  exact ⟨g8, c8, e, hp.cs⟩
theorem OnS.over (h : OnS K w wr q gb n v8 v9 t hs f g) (h0 : 0 < hs.length) : ∃ g9 c9, v9 = .slice (some ⟨g9, 0, none⟩) hs.length c9 ∧ g9 < wr.heap.size ∧ ∀ j, j < hs.length → wr.cell? ⟨g9, j, none⟩ = some (.bool (f j)) ∧ wr.frozen? ⟨g9, j, none⟩ = false := by
  obtain ⟨g9, c9, rfl, _, hl⟩ := own_some h.ovr h0
  exact ⟨g9, c9, rfl, hl, fun j hj => ⟨(World.ownsRow.cellAt h.ovr j (by omega)).trans (valsB_at f _ j hj), World.ownsRow.frozenAt h.ovr j⟩⟩
theorem OnS.congr (h : OnS K w wr q gb n v8 v9 t hs f g) {f' g' : Nat → Bool} (hf : ∀ j, j < hs.length → f j = f' j) (hg : ∀ j, j < n → g j = g' j) : OnS K w wr q gb n v8 v9 t hs f' g' :=
  ⟨h.rep, h.row, by rw [← valsB_congr hf]; exact h.ovr, h.gone.congr (fun j hj => by rw [hg j hj]), h.ap, h.below⟩
end
/-- The law's state: what it has is what is so. -/
def OnG (K : SlabOk) (w wr : World) (q gb n c : Nat) (v8 v9 : Value) (t hs : Sl) : Prop :=
  OnS K w wr q gb n v8 v9 t hs (fun j => !livH t hs j) (fun j => decide (slS t j = 2)) ∧ Once t hs n c
theorem OnG.on {K : SlabOk} {w wr w' : World} {q gb n c : Nat} {v8 v9 : Value} {t hs : Sl} (h : OnG K w wr q gb n c v8 v9 t hs) (hb : Below wr.heap.size wr w') : OnG K w w' q gb n c v8 v9 t hs := ⟨h.1.on hb, h.2⟩
theorem OnG.more {K : SlabOk} {w wr : World} {q gb n c d : Nat} {v8 v9 : Value} {t hs : Sl} (h : OnG K w wr q gb n c v8 v9 t hs) (hd : c ≤ d) : OnG K w wr q gb n d v8 v9 t hs := ⟨h.1, h.2.more hd⟩
theorem SlabOk.takeNo (K : SlabOk) {t : Sl} {q : Nat} (hF : slFirst t = none) (u : World) (R : K.Rep u q t) : Calls Try.prog 10 #[.pointer (some ⟨q, 0, none⟩)] u fun e w' => e = .returned (.tuple #[.agg #[.int .i64 0, .int .u32 0], .int .i64 8]) ∧ K.Rep w' q t ∧ Beside (fun k => k = q) u w' := by
  have h := K.takes q t u R
  unfold takeS takeG takeE slTake at h
  rw [hF] at h
  exact h
theorem SlabOk.takeYes (K : SlabOk) {t : Sl} {q i : Nat} (hF : slFirst t = some i) (u : World) (R : K.Rep u q t) : Calls Try.prog 10 #[.pointer (some ⟨q, 0, none⟩)] u fun e w' => e = .returned (.tuple #[.agg #[.int .i64 (i : Int), .int .u32 (slG t i : Int)], .int .i64 0]) ∧ K.Rep w' q (slTake t) ∧ Beside (fun k => k = q) u w' := by
  have h := K.takes q t u R
  have e : takeS t = i ∧ takeG t = slG t i ∧ takeE t = 0 := by unfold takeS takeG takeE; rw [hF]; exact ⟨rfl, rfl, rfl⟩
  rw [e.1, e.2.1, e.2.2] at h
  exact h
section
variable {K : SlabOk} {w wr : World} {q gb n : Nat} {v8 v9 : Value} {t hs : Sl} {f g : Nat → Bool}
theorem grown_at {wr w' : World} {o : Obj} {v : Value} {k : Nat} (hg : (wr.alloc o).grownBy w' v.ownBlock) (hk : k < wr.heap.size) (hn : v.ownBlock ≠ some k) : w'.heap[k]? = wr.heap[k]? :=
  grown_block hg hk (fun e => hn e.symm)
/-- The other row is kept behind the first append. -/
theorem OnS.push1 (h : OnS K w wr q gb n v8 v9 t hs f g) {w' : World} {o : Obj} (hg : (wr.alloc o).grownBy w' v8.ownBlock) : w'.ownsRow (gb + 1) 4 1 v9 hs.length (valsB f hs.length) :=
  own_keep h.ovr fun k hk => grown_at hg (World.ownsRow.lt h.ovr k hk).2 (fun e => h.ap k e hk)
/-- A handle more, and that it is not over. -/
theorem OnS.push (h : OnS K w wr q gb n v8 v9 t hs f g) (b : OnB w q gb) {w1 w2 : World} {o1 o2 : Obj} {v8' v9' : Value} {s y : Nat} {z : Bool} {f' : Nat → Bool}
    (hg1 : (wr.alloc o1).grownBy w1 v8.ownBlock) (ho1 : w1.ownsRow (gb + 1) 34 2 v8' (hs.length + 1) (valsP hs ++ valsP [(s, y)])) (hb1 : v8'.ownBlock = v8.ownBlock ∨ v8'.ownBlock = some (wr.alloc o1).heap.size)
    (hg2 : (w1.alloc o2).grownBy w2 v9.ownBlock) (ho2 : w2.ownsRow (gb + 1) 4 1 v9' (hs.length + 1) (valsB f hs.length ++ [.bool z])) (hb2 : v9'.ownBlock = v9.ownBlock ∨ v9'.ownBlock = some (w1.alloc o2).heap.size)
    (hf : ∀ j, j < hs.length → f j = f' j) (hz : f' hs.length = z) : OnS K w w2 q gb n v8' v9' t (hs ++ [(s, y)]) f' g := by
  have hq := b.hq
  have hg := b.hg
  have hgl := h.gone.1
  have sz1 : wr.heap.size ≤ w1.heap.size := grown_size hg1
  have sz2 : w1.heap.size ≤ w2.heap.size := grown_size hg2
  have n8 : ∀ k, k ≤ gb → v8.ownBlock ≠ some k := fun k hk e => by have := (h.ne8 b e).1; omega
  have n9 : ∀ k, k ≤ gb → v9.ownBlock ≠ some k := fun k hk e => by have := (h.ne9 b e).1; omega
  have kp : ∀ k, k ≤ gb → w2.heap[k]? = wr.heap[k]? := fun k hk => (grown_at hg2 (by omega) (n9 k hk)).trans (grown_at hg1 (by omega) (n8 k hk))
  have e8 : ∀ k, v8'.ownBlock = some k → v9.ownBlock ≠ some k := fun k hk e => by
    rcases hb1 with e1 | e1
    · exact h.ap k (e1 ▸ hk) e
    · rw [e1] at hk
      have h9 := (World.ownsRow.lt h.ovr k e).2
      simp only [Option.some.injEq, World.size_alloc] at hk
      omega
  refine ⟨K.keep h.rep (Nat.le_trans sz1 sz2) (kp q (by omega)), ?_, ?_, ownF_keep h.gone (Nat.le_trans sz1 sz2) (kp gb (Nat.le_refl _)), fun k h8 h9 => ?_, ?_⟩
  · exact (push_row ho1).keep fun k hk => grown_at hg2 (World.ownsRow.lt ho1 k hk).2 (e8 k hk)
  · rw [List.length_append]
    show w2.ownsRow _ _ _ _ (hs.length + 1) (valsB f' (hs.length + 1))
    rw [← valsB_push hz, ← valsB_congr hf]
    exact ho2
  · rcases hb2 with e2 | e2
    · exact e8 k h8 (e2 ▸ h9)
    · rw [e2] at h9
      have := (World.ownsRow.lt ho1 k h8).2
      simp only [Option.some.injEq, World.size_alloc] at h9
      omega
  · refine ((((h.below.alloc h.below.size o1).grown hg1 (by simp; have := h.below.size; omega) (fun k e => by have := (h.ne8 b e).1; omega)).alloc ?_ o2).grown hg2 ?_ (fun k e => by have := (h.ne9 b e).1; omega))
    · have := h.below.size; omega
    · have := h.below.size; simp; omega
end
/-- A handle's number is one of 32 bits. -/
theorem Once.gen {t hs : Sl} {n c k : Nat} (h : Once t hs n c) (hk : k < hs.length) : slG hs k < 4294967296 := Nat.lt_of_le_of_lt (h.old k hk) (h.ok.2 _).2
theorem OnG.taken {K : SlabOk} {w wr : World} {q gb n c i : Nat} {v8 v9 : Value} {t hs : Sl} (h : OnG K w wr q gb n c v8 v9 t hs) (hF : slFirst t = some i) :
    (∀ j, j < hs.length → (!livH t hs j) = !livH (slTake t) (hs ++ [(i, slG t i)]) j) ∧ (!livH (slTake t) (hs ++ [(i, slG t i)]) hs.length) = false ∧ (∀ j, j < n → decide (slS t j = 2) = decide (slS (slTake t) j = 2)) ∧ Once (slTake t) (hs ++ [(i, slG t i)]) n c := by
  obtain ⟨h1, h2⟩ := h.2.take hF
  obtain ⟨a1, a2, _⟩ := slFirst_some hF
  have e : ∀ k, slS (slTake t) k = if k = i then 1 else slS t k := fun k => by unfold slTake; rw [hF]; exact slPut_S _ _ _ _ _ a1
  refine ⟨fun j hj => by rw [h2 j hj], ?_, fun j hj => ?_, h1⟩
  · rw [h1.live (by simp), slS_app, slG_app, if_neg (Nat.lt_irrefl _), if_pos rfl, if_neg (Nat.lt_irrefl _), if_pos rfl]
    have eG : slG (slTake t) i = slG t i := by unfold slTake; rw [hF]; exact (slPut_G _ _ _ _ _ a1).trans (if_pos rfl)
    show (!decide (slG t i = slG (slTake t) i)) = false
    rw [eG]
    simp
  · rw [e]
    by_cases ej : j = i
    · subst ej; rw [if_pos rfl, a2]; simp
    · rw [if_neg ej]
end Go.Proofs.Ytlnbjpabcldmnaa
