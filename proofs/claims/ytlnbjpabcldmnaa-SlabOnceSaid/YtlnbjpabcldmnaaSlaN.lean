/- Rows of pairs of a call's own; the document's New (layer 13). -/
import Derived.Test.YtlnbjpabcldmnaaSlaC
import Derived.Laws.OwnMore
import Derived.Maps.AppendAt
import Derived.Tactics
namespace Go.Proofs.Ytlnbjpabcldmnaa
set_option linter.unusedVariables false
set_option linter.unusedSimpArgs false
open Go.ChangeShapes Go.WideShapes Go.ChangeAt Go.RowKit Go.PlainAid
/-- The cells of pairs. -/
def valsP (t : Sl) : List Value := t.flatMap fun x => [.int .i64 (x.1 : Int), .int .u32 (x.2 : Int)]
theorem valsP_len : ∀ t : Sl, (valsP t).length = t.length * 2
  | [] => rfl
  | x :: t => by
    have := valsP_len t
    show (_ :: _ :: valsP t).length = _
    simp only [List.length_cons, this]
    omega
theorem valsP_app (a b : Sl) : valsP (a ++ b) = valsP a ++ valsP b := List.flatMap_append
theorem valsP_at : ∀ (t : Sl) (i : Nat), i < t.length → (valsP t)[i * 2]? = some (.int .i64 ((slS t i : Nat) : Int)) ∧ (valsP t)[i * 2 + 1]? = some (.int .u32 ((slG t i : Nat) : Int))
  | x :: t, 0, _ => ⟨rfl, rfl⟩
  | x :: t, i + 1, h => by
    have ih := valsP_at t i (by simpa using h)
    have e : (i + 1) * 2 = i * 2 + 1 + 1 := by omega
    rw [e]
    show (_ :: _ :: valsP t)[i * 2 + 1 + 1]? = _ ∧ (_ :: _ :: valsP t)[i * 2 + 1 + 1 + 1]? = _
    simp only [List.getElem?_cons_succ]
    exact ih
/-- Pairs in a row of the call's own. -/
def RowP (T : TypeId) (w : World) (B : Nat) (v : Value) (t : Sl) : Prop := w.ownsRow B T 2 v t.length (valsP t)
theorem RowP.nil (T : TypeId) (w : World) (B : Nat) : RowP T w B (.slice none 0 0) [] := World.ownsRow_nil _ _ _ _
theorem RowP.at {T : TypeId} {w : World} {B : Nat} {v : Value} {t : Sl} (h : RowP T w B v t) (h0 : 0 < t.length) : ∃ g c, v = .slice (some ⟨g, 0, none⟩) t.length c ∧ B ≤ g ∧ PairsAt w g t := by
  rcases h.2 with ⟨_, h1⟩ | ⟨g, c, cur, rfl, hb, hg, _⟩
  · omega
  · refine ⟨g, c, rfl, hb, (Array.getElem?_eq_some_iff.1 hg).1, fun i hi => ?_, fun i hi => ⟨World.ownsRow.frozenAt h _, World.ownsRow.frozenAt h _⟩⟩
    have k := valsP_at t i hi
    exact ⟨(World.ownsRow.cellAt h (i * 2) (by omega)).trans k.1, (World.ownsRow.cellAt h (i * 2 + 1) (by omega)).trans k.2⟩
theorem RowP.low {T : TypeId} {w : World} {A B : Nat} {v : Value} {t : Sl} (h : RowP T w B v t) (hA : A ≤ B) : RowP T w A v t := by
  refine ⟨h.1, ?_⟩
  rcases h.2 with h | ⟨g, c, cur, rfl, hb, rest⟩
  · exact .inl h
  · exact .inr ⟨g, c, cur, rfl, Nat.le_trans hA hb, rest⟩
theorem RowP.lt {T : TypeId} {w : World} {B : Nat} {v : Value} {t : Sl} (h : RowP T w B v t) : ∀ k, v.ownBlock = some k → B ≤ k ∧ k < w.heap.size := World.ownsRow.lt h
theorem RowP.keep {T : TypeId} {w w' : World} {B : Nat} {v : Value} {t : Sl} (h : RowP T w B v t) (hv : ∀ g, v.ownBlock = some g → w'.heap[g]? = w.heap[g]?) : RowP T w' B v t := by
  refine ⟨h.1, ?_⟩
  rcases h.2 with h | ⟨g, c, cur, rfl, hb, hg, rest⟩
  · exact .inl h
  · exact .inr ⟨g, c, cur, rfl, hb, (hv g rfl).trans hg, rest⟩
theorem RowP.on {T : TypeId} {w w' : World} {B : Nat} {v : Value} {t : Sl} (h : RowP T w B v t) (hb : Below w.heap.size w w') : RowP T w' B v t := h.keep fun g hg => hb.block g (h.lt g hg).2
theorem RowP.beside {S : Nat → Prop} {T : TypeId} {w w' : World} {B : Nat} {v : Value} {t : Sl} (h : RowP T w B v t) (hb : Beside S w w') (hn : ∀ g, v.ownBlock = some g → ¬ S g) : RowP T w' B v t := h.keep fun g hg => hb.block g (h.lt g hg).2 (hn g hg)
theorem slNew_succ (n : Nat) : slNew n ++ [(0, 1)] = slNew (n + 1) := (List.replicate_succ' (n := n) (a := ((0, 1) : Nat × Nat))).symm
theorem slot_info : ∃ i0, Try.prog.info? 64 = some i0 ∧ i0.zero = some (.agg #[.int .i64 0, .int .u32 0]) ∧ i0.size = 2 ∧ i0.bytes = 16 := by
  have h : (Try.prog.info? 64).map (fun i => (i.zero, i.size, i.bytes)) = some (some (.agg #[.int .i64 0, .int .u32 0]), 2, 16) := by kernel_rfl
  cases hq : Try.prog.info? 64 with
  | none => rw [hq] at h; simp at h
  | some i0 =>
    rw [hq] at h
    simp only [Option.map_some, Option.some.injEq, Prod.mk.injEq] at h
    exact ⟨i0, rfl, h.1, h.2.1, h.2.2⟩
theorem newP (w : World) (x g : Nat) (T : TypeId) : ∀ j u, (valsP [(x, g)])[j]? = some u → (w.alloc (.cells #[.int .i64 (x : Int), .int .u32 (g : Int)] T)).cell? ((⟨w.heap.size, 0, none⟩ : Addr).add j) = some u := by
  intro j u hj
  rw [Addr.add_lit, Nat.zero_add]
  match j, hj with
  | 0, hj => simp only [valsP, List.flatMap_cons, List.flatMap_nil, List.append_nil, List.getElem?_cons_zero, Option.some.injEq] at hj; subst hj; simp [go_sem]
  | 1, hj => simp only [valsP, List.flatMap_cons, List.flatMap_nil, List.append_nil, List.getElem?_cons_succ, List.getElem?_cons_zero, Option.some.injEq] at hj; subst hj; simp [go_sem]
  | j + 2, hj => simp [valsP] at hj
theorem onesP (t : Sl) : ∀ u ∈ valsP t, u.oneCell' = true := by
  intro u hu
  simp only [valsP, List.mem_flatMap, List.mem_cons, List.not_mem_nil, or_false] at hu
  obtain ⟨x, _, rfl | rfl⟩ := hu <;> rfl
end Go.Proofs.Ytlnbjpabcldmnaa
