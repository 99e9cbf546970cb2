/- Plain: what EpochsEnd goes by (layer 14). -/
import Derived.Test.YtghicdajcmkfjaaEpoP
namespace Go.Proofs.Ytghicdajcmkfjaa
set_option linter.unusedVariables false
set_option linter.unusedSimpArgs false
namespace Ep
theorem seen_nat {x : Ep} {k : Nat} (h : k < x.said.length) : x.seen (k : Int) = x.said.getD k (-1) := by
  unfold seen
  rw [if_pos (show x.there (k : Int) from ⟨by omega, by omega⟩)]
  rfl
theorem setE_nat {x : Ep} {k : Nat} (h : k < x.said.length) : x.setE (k : Int) = 0 := by
  unfold setE
  rw [if_pos (show x.there (k : Int) from ⟨by omega, by omega⟩)]
theorem said_at {x : Ep} {k : Nat} (h : k < x.said.length) (e : Int) (i : Nat) : (x.setT (k : Int) e).said.getD i (-1) = if i = k then e else x.said.getD i (-1) := by
  unfold setT
  rw [if_pos (show x.there (k : Int) from ⟨by omega, by omega⟩)]
  show (x.said.set k e).getD i (-1) = _
  rw [List.getD_eq_getElem?_getD, List.getElem?_set, List.getD_eq_getElem?_getD]
  by_cases ei : i = k
  · subst ei; rw [if_pos rfl, if_pos h, if_pos rfl]; rfl
  · rw [if_neg (fun h => ei h.symm), if_neg ei]
theorem len_adv (x : Ep) : x.advT.said.length = x.said.length := by unfold advT; split <;> rfl
theorem len_def (x : Ep) (s : Int) : (x.defT s).said.length = x.said.length := by
  unfold defT
  split
  · split <;> rfl
  · rfl
theorem l_adv (x : Ep) : x.advT.l = x.l := by unfold advT; split <;> rfl
theorem now_free {x : Ep} (h : x.held = false) : x.advT.now = x.now + 1 := by unfold advT; rw [h]; rfl
/-- All of the first j workers that are in have announced the epoch. -/
def Up (x : Ep) (j : Nat) : Prop := ∀ i, i < j → ¬ (0 ≤ x.said.getD i (-1) ∧ x.said.getD i (-1) ≠ x.now)
theorem Up.enter {x : Ep} {j : Nat} (h : x.Up j) (hj : j < x.said.length) : (x.setT (j : Int) x.now).Up (j + 1) := by
  intro i hi
  rw [said_at hj, now_set]
  by_cases e : i = j
  · rw [if_pos e]; exact fun h => h.2 rfl
  · rw [if_neg e]; exact h i (by omega)
theorem Up.out {x : Ep} {j : Nat} (h : x.Up j) (hj : ¬ 0 ≤ x.said.getD j (-1)) : x.Up (j + 1) := by
  intro i hi
  by_cases e : i = j
  · subst e; exact fun h => hj h.1
  · exact h i (by omega)
/-- When the epoch has gone on by two all that waits is ripe. -/
theorem all_ripe {x : Ep} {n : Nat} (h : ∀ p ∈ x.l, p.2 ≤ n) (hn : n + 2 ≤ x.now) : x.ripe = x.l.map (fun p => p.1) ∧ x.ripeT.l = [] := by
  have e : ∀ p ∈ x.l, p.2 + 2 ≤ x.now := fun p hp => by have := h p hp; omega
  refine ⟨?_, ?_⟩
  · unfold ripe
    rw [List.filter_eq_self.2 (fun p hp => by simpa using e p hp)]
  · show x.l.filter _ = []
    exact List.filter_eq_nil_iff.2 fun p hp => by simpa using e p hp
end Ep
end Go.Proofs.Ytghicdajcmkfjaa
