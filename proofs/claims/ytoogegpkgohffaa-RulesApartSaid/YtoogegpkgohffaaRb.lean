/- Texts of this proof, together: Box11, RulA, RulC, RulF. -/
import Derived.Test.YtoogegpkgohffaaGc
import Derived.Test.YtoogegpkgohffaaRa
import Derived.Test.YtoogegpkgohffaaHd
import Derived.Test.YtoogegpkgohffaaGk
import Derived.Test.YtoogegpkgohffaaGb
import Derived.BigRegion
import Derived.Deep.DeepCutAuto
namespace Go.Proofs.Ytoogegpkgohffaa
set_option linter.unusedVariables false
set_option linter.unusedSimpArgs false
open Go.ChangeShapes Go.WideShapes Go.ChangeAt Go.RowKit Go.PlainAid
/-- A box of 11 cells that is written whole. -/
theorem box11_ {W0 W : World} {b n : Nat} {v0 v1 v2 v3 v4 v5 v6 v7 v8 v9 v10 : Value} {M : World → Prop} (h : ∀ j, j < 11 → (W.cell? ⟨b, j, none⟩).isSome = true) (hb : Below n W0 W) (hn : n ≤ b)
    (k : ∀ X : World, X.cell? ⟨b, 0, none⟩ = some v0 → X.cell? ⟨b, 1, none⟩ = some v1 → X.cell? ⟨b, 2, none⟩ = some v2 → X.cell? ⟨b, 3, none⟩ = some v3 → X.cell? ⟨b, 4, none⟩ = some v4 → X.cell? ⟨b, 5, none⟩ = some v5 → X.cell? ⟨b, 6, none⟩ = some v6 → X.cell? ⟨b, 7, none⟩ = some v7 → X.cell? ⟨b, 8, none⟩ = some v8 → X.cell? ⟨b, 9, none⟩ = some v9 → X.cell? ⟨b, 10, none⟩ = some v10 → Below n W0 X → (∀ a : Addr, ¬ b = a.block → X.cell? a = W.cell? a) → X.heap.size = W.heap.size → M X) :
    M (((((((((((W.setCell ⟨b, 0, none⟩ v0).setCell ⟨b, 1, none⟩ v1).setCell ⟨b, 2, none⟩ v2).setCell ⟨b, 3, none⟩ v3).setCell ⟨b, 4, none⟩ v4).setCell ⟨b, 5, none⟩ v5).setCell ⟨b, 6, none⟩ v6).setCell ⟨b, 7, none⟩ v7).setCell ⟨b, 8, none⟩ v8).setCell ⟨b, 9, none⟩ v9).setCell ⟨b, 10, none⟩ v10) := by
  have c := World.cell?_setCells_in b [v0, v1, v2, v3, v4, v5, v6, v7, v8, v9, v10] 0 W (by intro j hj; rw [Nat.zero_add]; exact h j hj)
  refine k _ (c 0 (by simp)) (c 1 (by simp)) (c 2 (by simp)) (c 3 (by simp)) (c 4 (by simp)) (c 5 (by simp)) (c 6 (by simp)) (c 7 (by simp)) (c 8 (by simp)) (c 9 (by simp)) (c 10 (by simp)) ?_ ?_ (by simp)
  rotate_left
  · intro a ha
    rw [World.cell?_setCell_far _ _ _ _ ha, World.cell?_setCell_far _ _ _ _ ha, World.cell?_setCell_far _ _ _ _ ha, World.cell?_setCell_far _ _ _ _ ha, World.cell?_setCell_far _ _ _ _ ha, World.cell?_setCell_far _ _ _ _ ha, World.cell?_setCell_far _ _ _ _ ha, World.cell?_setCell_far _ _ _ _ ha, World.cell?_setCell_far _ _ _ _ ha, World.cell?_setCell_far _ _ _ _ ha, World.cell?_setCell_far _ _ _ _ ha]
  exact ((((((((((hb.setCell hn _).setCell hn _).setCell hn _).setCell hn _).setCell hn _).setCell hn _).setCell hn _).setCell hn _).setCell hn _).setCell hn _).setCell hn _
/-- A box of 11 cells. -/
def Box11 (w : World) (b : Nat) (v0 v1 v2 v3 v4 v5 v6 v7 v8 v9 v10 : Value) : Prop :=
  b < w.heap.size ∧ w.cell? ⟨b, 0, none⟩ = some v0 ∧ w.cell? ⟨b, 1, none⟩ = some v1 ∧ w.cell? ⟨b, 2, none⟩ = some v2 ∧ w.cell? ⟨b, 3, none⟩ = some v3 ∧ w.cell? ⟨b, 4, none⟩ = some v4 ∧ w.cell? ⟨b, 5, none⟩ = some v5 ∧ w.cell? ⟨b, 6, none⟩ = some v6 ∧ w.cell? ⟨b, 7, none⟩ = some v7 ∧ w.cell? ⟨b, 8, none⟩ = some v8 ∧ w.cell? ⟨b, 9, none⟩ = some v9 ∧ w.cell? ⟨b, 10, none⟩ = some v10
theorem Box11.on {w w' : World} {b : Nat} {v0 v1 v2 v3 v4 v5 v6 v7 v8 v9 v10 : Value} (h : Box11 w b v0 v1 v2 v3 v4 v5 v6 v7 v8 v9 v10) (hb : Below w.heap.size w w') : Box11 w' b v0 v1 v2 v3 v4 v5 v6 v7 v8 v9 v10 := by
  obtain ⟨h, h0, h1, h2, h3, h4, h5, h6, h7, h8, h9, h10⟩ := h
  exact ⟨Nat.lt_of_lt_of_le h hb.size, (hb.cell (p := ⟨b, 0, none⟩) h).trans h0, (hb.cell (p := ⟨b, 1, none⟩) h).trans h1, (hb.cell (p := ⟨b, 2, none⟩) h).trans h2, (hb.cell (p := ⟨b, 3, none⟩) h).trans h3, (hb.cell (p := ⟨b, 4, none⟩) h).trans h4, (hb.cell (p := ⟨b, 5, none⟩) h).trans h5, (hb.cell (p := ⟨b, 6, none⟩) h).trans h6, (hb.cell (p := ⟨b, 7, none⟩) h).trans h7, (hb.cell (p := ⟨b, 8, none⟩) h).trans h8, (hb.cell (p := ⟨b, 9, none⟩) h).trans h9, (hb.cell (p := ⟨b, 10, none⟩) h).trans h10⟩
theorem Box11.make (w : World) (v0 v1 v2 v3 v4 v5 v6 v7 v8 v9 v10 : Value) (t : TypeId) : Box11 (w.alloc (.cells #[v0, v1, v2, v3, v4, v5, v6, v7, v8, v9, v10] t)) w.heap.size v0 v1 v2 v3 v4 v5 v6 v7 v8 v9 v10 :=
  ⟨by simp, by simp [go_sem], by simp [go_sem], by simp [go_sem], by simp [go_sem], by simp [go_sem], by simp [go_sem], by simp [go_sem], by simp [go_sem], by simp [go_sem], by simp [go_sem], by simp [go_sem]⟩
theorem Box11.past {w : World} {o : Obj} {b : Nat} {v0 v1 v2 v3 v4 v5 v6 v7 v8 v9 v10 : Value} (h : Box11 w b v0 v1 v2 v3 v4 v5 v6 v7 v8 v9 v10) : Box11 (w.alloc o) b v0 v1 v2 v3 v4 v5 v6 v7 v8 v9 v10 := h.on ((Below.refl _ _).alloc (Nat.le_refl _) _)
theorem Box11.some {W : World} {a : Nat} {v0 v1 v2 v3 v4 v5 v6 v7 v8 v9 v10 : Value} (h : Box11 W a v0 v1 v2 v3 v4 v5 v6 v7 v8 v9 v10) : ∀ j, j < 11 → (W.cell? ⟨a, j, none⟩).isSome = true := by
  obtain ⟨h, h0, h1, h2, h3, h4, h5, h6, h7, h8, h9, h10⟩ := h
  intro j hj
  match j, hj with
  | 0, _ => rw [h0]; rfl
  | 1, _ => rw [h1]; rfl
  | 2, _ => rw [h2]; rfl
  | 3, _ => rw [h3]; rfl
  | 4, _ => rw [h4]; rfl
  | 5, _ => rw [h5]; rfl
  | 6, _ => rw [h6]; rfl
  | 7, _ => rw [h7]; rfl
  | 8, _ => rw [h8]; rfl
  | 9, _ => rw [h9]; rfl
  | 10, _ => rw [h10]; rfl
end Go.Proofs.Ytoogegpkgohffaa
namespace Go.Proofs.Ytoogegpkgohffaa
set_option linter.unusedVariables false
set_option linter.unusedSimpArgs false
open Go.ChangeShapes Go.WideShapes Go.ChangeAt Go.RowKit Go.PlainAid
attribute [local go_sem ↓] Go.wp_at_zero Go.wp_at_succ
theorem beq_cast (x y : Nat) : ((x : Int) == (y : Int)) = decide (x = y) := by
  by_cases h : x = y
  · subst h; simp
  · have h2 : ¬ (x : Int) = (y : Int) := by omega
    simp [h]; exact h2
theorem eqn_ (x y : Nat) : ∃ b : Bool, ((x : Int) == (y : Int)) = b ∧ (x == y) = b ∧ decide (x = y) = b := ⟨decide (x = y), beq_cast x y, by simp [BEq.beq], rfl⟩
theorem eqi_ (x y : Int) : ∃ b : Bool, (x == y) = b ∧ (x != y) = !b ∧ decide (x = y) = b := ⟨decide (x = y), by simp [BEq.beq], by simp [bne, BEq.beq], rfl⟩
/-- A box of 11 cells that is written whole: its cells, and its marks. -/
theorem box11f_ {W0 W : World} {b n : Nat} {v0 v1 v2 v3 v4 v5 v6 v7 v8 v9 v10 : Value} {M : World → Prop} (h : ∀ j, j < 11 → (W.cell? ⟨b, j, none⟩).isSome = true) (hb : Below n W0 W) (hn : n ≤ b)
    (k : ∀ X : World, X.cell? ⟨b, 0, none⟩ = some v0 → X.cell? ⟨b, 1, none⟩ = some v1 → X.cell? ⟨b, 2, none⟩ = some v2 → X.cell? ⟨b, 3, none⟩ = some v3 → X.cell? ⟨b, 4, none⟩ = some v4 → X.cell? ⟨b, 5, none⟩ = some v5 → X.cell? ⟨b, 6, none⟩ = some v6 → X.cell? ⟨b, 7, none⟩ = some v7 → X.cell? ⟨b, 8, none⟩ = some v8 → X.cell? ⟨b, 9, none⟩ = some v9 → X.cell? ⟨b, 10, none⟩ = some v10 → Below n W0 X → (∀ a : Addr, ¬ b = a.block → X.cell? a = W.cell? a) → X.heap.size = W.heap.size → (∀ a : Addr, X.frozen? a = W.frozen? a) → M X) :
    M (((((((((((W.setCell ⟨b, 0, none⟩ v0).setCell ⟨b, 1, none⟩ v1).setCell ⟨b, 2, none⟩ v2).setCell ⟨b, 3, none⟩ v3).setCell ⟨b, 4, none⟩ v4).setCell ⟨b, 5, none⟩ v5).setCell ⟨b, 6, none⟩ v6).setCell ⟨b, 7, none⟩ v7).setCell ⟨b, 8, none⟩ v8).setCell ⟨b, 9, none⟩ v9).setCell ⟨b, 10, none⟩ v10) := by
  have f : ∀ a : Addr, (((((((((((W.setCell ⟨b, 0, none⟩ v0).setCell ⟨b, 1, none⟩ v1).setCell ⟨b, 2, none⟩ v2).setCell ⟨b, 3, none⟩ v3).setCell ⟨b, 4, none⟩ v4).setCell ⟨b, 5, none⟩ v5).setCell ⟨b, 6, none⟩ v6).setCell ⟨b, 7, none⟩ v7).setCell ⟨b, 8, none⟩ v8).setCell ⟨b, 9, none⟩ v9).setCell ⟨b, 10, none⟩ v10).frozen? a = W.frozen? a := by intro a; simp
  have key := box11_ (W0 := W0) (W := W) (b := b) (n := n) (v0 := v0) (v1 := v1) (v2 := v2) (v3 := v3) (v4 := v4) (v5 := v5) (v6 := v6) (v7 := v7) (v8 := v8) (v9 := v9) (v10 := v10) (M := fun X => (∀ a : Addr, X.frozen? a = W.frozen? a) → M X) h hb hn k
  exact key f
/-- A slice of rules. -/
def RulesAt (w : World) (a : Option Addr) (rs : List Ru) : Prop :=
  rs.length = 0 ∨ ∃ b, a = some ⟨b, 0, none⟩ ∧ b < w.heap.size ∧ ∀ i, i < rs.length → w.cell? ⟨b, i * 11, none⟩ = some (.int .i64 (rs.getD i Ru.zero).k) ∧ w.cell? ⟨b, i * 11 + 1, none⟩ = some (.int .u8 (rs.getD i Ru.zero).pr) ∧ w.cell? ⟨b, i * 11 + 2, none⟩ = some (.int .u32 ((rs.getD i Ru.zero).si : Int)) ∧ w.cell? ⟨b, i * 11 + 3, none⟩ = some (.int .i64 (rs.getD i Ru.zero).sb) ∧ w.cell? ⟨b, i * 11 + 4, none⟩ = some (.int .u32 ((rs.getD i Ru.zero).di : Int)) ∧ w.cell? ⟨b, i * 11 + 5, none⟩ = some (.int .i64 (rs.getD i Ru.zero).db) ∧ w.cell? ⟨b, i * 11 + 6, none⟩ = some (.int .u32 ((rs.getD i Ru.zero).ex : Int)) ∧ w.cell? ⟨b, i * 11 + 7, none⟩ = some (.int .u16 (rs.getD i Ru.zero).fr) ∧ w.cell? ⟨b, i * 11 + 8, none⟩ = some (.int .u16 (rs.getD i Ru.zero).to) ∧ w.cell? ⟨b, i * 11 + 9, none⟩ = some (.int .u32 ((rs.getD i Ru.zero).ii : Int)) ∧ w.cell? ⟨b, i * 11 + 10, none⟩ = some (.int .u16 (rs.getD i Ru.zero).ip)
theorem RulesAt.on {w w' : World} {a : Option Addr} {rs : List Ru} (h : RulesAt w a rs) (hb : Below w.heap.size w w') : RulesAt w' a rs := by
  rcases h with h | ⟨b, rfl, hlt, hc⟩
  · exact .inl h
  · refine .inr ⟨b, rfl, Nat.lt_of_lt_of_le hlt hb.size, fun i hi => ?_⟩
    obtain ⟨c0, c1, c2, c3, c4, c5, c6, c7, c8, c9, c10⟩ := hc i hi
    exact ⟨(hb.cell (p := ⟨b, i * 11, none⟩) hlt).trans c0, (hb.cell (p := ⟨b, i * 11 + 1, none⟩) hlt).trans c1, (hb.cell (p := ⟨b, i * 11 + 2, none⟩) hlt).trans c2, (hb.cell (p := ⟨b, i * 11 + 3, none⟩) hlt).trans c3, (hb.cell (p := ⟨b, i * 11 + 4, none⟩) hlt).trans c4, (hb.cell (p := ⟨b, i * 11 + 5, none⟩) hlt).trans c5, (hb.cell (p := ⟨b, i * 11 + 6, none⟩) hlt).trans c6, (hb.cell (p := ⟨b, i * 11 + 7, none⟩) hlt).trans c7, (hb.cell (p := ⟨b, i * 11 + 8, none⟩) hlt).trans c8, (hb.cell (p := ⟨b, i * 11 + 9, none⟩) hlt).trans c9, (hb.cell (p := ⟨b, i * 11 + 10, none⟩) hlt).trans c10⟩
theorem first_fit {rs : List Ru} {f : Ru → Bool} {i : Nat} {r : Ru} (h : i < rs.length) (hr : r = rs.getD i Ru.zero) (hn : ∀ j, j < i → f (rs.getD j Ru.zero) = false) (hf : f r = true) : findRu rs f = r ∧ hitRu rs f = true := by
  unfold findRu hitRu
  induction rs generalizing i with
  | nil => simp at h
  | cons a l ih =>
    cases i with
    | zero =>
      simp at hr
      subst hr
      simp [hf]
    | succ i =>
      have h0 := hn 0 (by omega)
      simp at h0
      have k := ih (i := i) (by simpa using h) (by simpa using hr) (fun j hj => by have := hn (j + 1) (by omega); simpa using this)
      simp only [List.find?_cons, List.any_cons, h0, Bool.false_or]
      exact k
theorem none_fits {rs : List Ru} {f : Ru → Bool} {i : Nat} (h : rs.length ≤ i) (hn : ∀ j, j < i → f (rs.getD j Ru.zero) = false) : findRu rs f = Ru.zero ∧ hitRu rs f = false := by
  unfold findRu hitRu
  induction rs generalizing i with
  | nil => simp
  | cons a l ih =>
    have h0 := hn 0 (by simp at h; omega)
    simp at h0
    have k := ih (i := i - 1) (by simp at h; omega) (fun j hj => by have := hn (j + 1) (by omega); simpa using this)
    simp only [List.find?_cons, List.any_cons, h0, Bool.false_or]
    exact k
end Go.Proofs.Ytoogegpkgohffaa
namespace Go.Proofs.Ytoogegpkgohffaa
set_option linter.unusedVariables false
set_option linter.unusedSimpArgs false
open Go.ChangeShapes Go.WideShapes Go.ChangeAt Go.RowKit Go.PlainAid
def Ru.vals (r : Ru) : List Value := [.int .i64 r.k, .int .u8 r.pr, .int .u32 (r.si : Int), .int .i64 r.sb, .int .u32 (r.di : Int), .int .i64 r.db, .int .u32 (r.ex : Int), .int .u16 r.fr, .int .u16 r.to, .int .u32 (r.ii : Int), .int .u16 r.ip]
def valsR (rs : List Ru) : List Value := rs.flatMap Ru.vals
theorem vals_len (r : Ru) : r.vals.length = 11 := rfl
theorem valsR_cons (r : Ru) (l : List Ru) : valsR (r :: l) = r.vals ++ valsR l := by simp [valsR]
theorem valsR_app (l m : List Ru) : valsR (l ++ m) = valsR l ++ valsR m := by simp [valsR]
theorem valsR_len (rs : List Ru) : (valsR rs).length = rs.length * 11 := by
  induction rs with
  | nil => rfl
  | cons r l ih => rw [valsR_cons, List.length_append, ih, vals_len, List.length_cons]; omega
theorem valsR_get (rs : List Ru) : ∀ i j, i < rs.length → j < 11 → (valsR rs)[i * 11 + j]? = (rs.getD i Ru.zero).vals[j]? := by
  induction rs with
  | nil => intro i j h; simp at h
  | cons r l ih =>
    intro i j h hj
    rw [valsR_cons]
    cases i with
    | zero =>
      rw [List.getElem?_append_left (by rw [vals_len]; omega)]
      simp
    | succ i =>
      rw [List.getElem?_append_right (by rw [vals_len]; omega), vals_len, show (i + 1) * 11 + j - 11 = i * 11 + j by omega, ih i j (by simpa using h) hj]
      simp
theorem vals_one (rs : List Ru) : ∀ u ∈ valsR rs, u.oneCell' = true := by
  intro u hu
  simp only [valsR, List.mem_flatMap] at hu
  obtain ⟨r, _, hr⟩ := hu
  simp only [Ru.vals, List.mem_cons, List.not_mem_nil, or_false] at hr
  rcases hr with rfl | rfl | rfl | rfl | rfl | rfl | rfl | rfl | rfl | rfl | rfl <;> rfl
/-- The cells, one behind the other. -/
theorem RulesAt.each {w : World} {b : Nat} {rs : List Ru} (h : RulesAt w (some ⟨b, 0, none⟩) rs) (q : Nat) (u : Value) (hu : (valsR rs)[q]? = some u) : w.cell? ⟨b, q, none⟩ = some u := by
  have hq : q < rs.length * 11 := by
    have := (List.getElem?_eq_some_iff.1 hu).1
    rw [valsR_len] at this
    exact this
  rcases h with h | ⟨b', e, hb, hc⟩
  · omega
  · obtain rfl : b = b' := by simpa using e
    obtain ⟨i, j, hj, rfl⟩ : ∃ i j, j < 11 ∧ q = i * 11 + j := ⟨q / 11, q % 11, by omega, by omega⟩
    have hi : i < rs.length := by omega
    rw [valsR_get rs i j hi hj] at hu
    obtain ⟨c0, c1, c2, c3, c4, c5, c6, c7, c8, c9, c10⟩ := hc i hi
    match j, hj with
    | 0, _ => simp [Ru.vals] at hu; rw [← hu]; exact c0
    | 1, _ => simp [Ru.vals] at hu; rw [← hu]; exact c1
    | 2, _ => simp [Ru.vals] at hu; rw [← hu]; exact c2
    | 3, _ => simp [Ru.vals] at hu; rw [← hu]; exact c3
    | 4, _ => simp [Ru.vals] at hu; rw [← hu]; exact c4
    | 5, _ => simp [Ru.vals] at hu; rw [← hu]; exact c5
    | 6, _ => simp [Ru.vals] at hu; rw [← hu]; exact c6
    | 7, _ => simp [Ru.vals] at hu; rw [← hu]; exact c7
    | 8, _ => simp [Ru.vals] at hu; rw [← hu]; exact c8
    | 9, _ => simp [Ru.vals] at hu; rw [← hu]; exact c9
    | 10, _ => simp [Ru.vals] at hu; rw [← hu]; exact c10
    | j + 11, hj => omega
theorem RulesAt.made {w : World} {g : Nat} {rs : List Ru} (hg : g < w.heap.size) (h : ∀ q u, (valsR rs)[q]? = some u → w.cell? ⟨g, q, none⟩ = some u) : RulesAt w (some ⟨g, 0, none⟩) rs := by
  refine .inr ⟨g, rfl, hg, fun i hi => ?_⟩
  have k := fun j hj => valsR_get rs i j hi hj
  exact ⟨h (i * 11) _ (k 0 (by omega)), h (i * 11 + 1) _ (k 1 (by omega)), h (i * 11 + 2) _ (k 2 (by omega)), h (i * 11 + 3) _ (k 3 (by omega)), h (i * 11 + 4) _ (k 4 (by omega)), h (i * 11 + 5) _ (k 5 (by omega)), h (i * 11 + 6) _ (k 6 (by omega)), h (i * 11 + 7) _ (k 7 (by omega)), h (i * 11 + 8) _ (k 8 (by omega)), h (i * 11 + 9) _ (k 9 (by omega)), h (i * 11 + 10) _ (k 10 (by omega))⟩
end Go.Proofs.Ytoogegpkgohffaa
