/- Plain: the place of the first of a list that fits (for every layer from 15 on). -/
import Derived.Test.YtmephmjlajaopaaPlain
namespace Go.Proofs.Ytmephmjlajaopaa
set_option linter.unusedVariables false
set_option linter.unusedSimpArgs false
/-- The place of the first that fits; -1: none does. -/
def firstAt {α : Type} (l : List α) (p : α → Bool) : Int := if l.any p = true then ((l.findIdx p : Nat) : Int) else -1
section
variable {α : Type} {l : List α} {p : α → Bool}
theorem firstAt_hit {d : α} {i : Nat} (h : i < l.length) (hn : ∀ j, j < i → p (l.getD j d) = false) (hf : p (l.getD i d) = true) : firstAt l p = (i : Int) := by
  rw [List.getD_eq_getElem?_getD, List.getElem?_eq_getElem h] at hf
  have ha : l.any p = true := List.any_eq_true.2 ⟨l[i], List.getElem_mem h, by simpa using hf⟩
  unfold firstAt
  rw [if_pos ha]
  congr 1
  refine (List.findIdx_eq h).2 ⟨by simpa using hf, fun j hj => ?_⟩
  have := hn j hj
  rw [List.getD_eq_getElem?_getD, List.getElem?_eq_getElem (by omega)] at this
  simpa using this
theorem anyAt_none {d : α} (hn : ∀ j, j < l.length → p (l.getD j d) = false) : l.any p = false := by
  refine List.any_eq_false.2 fun x hx => ?_
  obtain ⟨k, hk, rfl⟩ := List.mem_iff_getElem.1 hx
  have := hn k hk
  rw [List.getD_eq_getElem?_getD, List.getElem?_eq_getElem hk] at this
  simpa using this
theorem firstAt_none {d : α} (hn : ∀ j, j < l.length → p (l.getD j d) = false) : firstAt l p = -1 := by
  unfold firstAt
  rw [anyAt_none hn]
  rfl
theorem firstAt_any : decide (0 ≤ firstAt l p) = l.any p := by
  unfold firstAt
  cases h : l.any p with
  | true => rw [if_pos rfl]; exact decide_eq_true (Int.natCast_nonneg _)
  | false => rfl
theorem firstAt_neg : decide (firstAt l p < 0) = !l.any p := by
  unfold firstAt
  cases h : l.any p with
  | true => rw [if_pos rfl]; simp
  | false => rfl
/-- What it is. -/
theorem firstAt_at (d : α) (h : l.any p = true) : ∃ i, firstAt l p = ((i : Nat) : Int) ∧ i < l.length ∧ p (l.getD i d) = true ∧ l.find? p = some (l.getD i d) ∧ ∀ j, j < i → p (l.getD j d) = false := by
  have hx := List.any_eq_true.1 h
  have hlt : l.findIdx p < l.length := List.findIdx_lt_length.2 hx
  refine ⟨l.findIdx p, ?_, hlt, ?_, ?_, fun j hj => ?_⟩
  · unfold firstAt; rw [if_pos h]
  · rw [List.getD_eq_getElem?_getD, List.getElem?_eq_getElem hlt]
    exact List.findIdx_getElem
  · rw [List.getD_eq_getElem?_getD, List.getElem?_eq_getElem hlt]
    exact List.find?_eq_some_iff_getElem.2 ⟨List.findIdx_getElem, _, hlt, rfl, fun j hj => by simpa using List.not_of_lt_findIdx hj⟩
  · rw [List.getD_eq_getElem?_getD, List.getElem?_eq_getElem (Nat.lt_trans hj hlt)]
    simpa using List.not_of_lt_findIdx hj
end
end Go.Proofs.Ytmephmjlajaopaa
