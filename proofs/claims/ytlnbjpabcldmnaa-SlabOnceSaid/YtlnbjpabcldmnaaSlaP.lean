/- Plain: a slab as a list of slots (how it is, which time), layer 13. -/
import Derived.Test.YtlnbjpabcldmnaaPlain
namespace Go.Proofs.Ytlnbjpabcldmnaa
set_option linter.unusedVariables false
set_option linter.unusedSimpArgs false
/-- Slots: how each is (0 free, 1 live, 2 gone), and its generation. -/
abbrev Sl := List (Nat × Nat)
def slS (t : Sl) (i : Nat) : Nat := (t.getD i (0, 0)).1
def slG (t : Sl) (i : Nat) : Nat := (t.getD i (0, 0)).2
def Sl.Ok (t : Sl) : Prop := t.length ≤ 256 ∧ ∀ i, slS t i ≤ 2 ∧ slG t i < 4294967296
/-- The first free slot from 'i' on. -/
def slFrom (t : Sl) : Nat → Nat → Option Nat
  | 0, _ => none
  | k + 1, i => if slS t i = 0 then some i else slFrom t k (i + 1)
def slFirst (t : Sl) : Option Nat := slFrom t t.length 0
def slNew (n : Nat) : Sl := List.replicate n (0, 1)
def slPut (t : Sl) (i s g : Nat) : Sl := t.set i (s, g)
def slTake (t : Sl) : Sl := match slFirst t with | some i => slPut t i 1 (slG t i) | none => t
def takeS (t : Sl) : Nat := (slFirst t).getD 0
def takeG (t : Sl) : Nat := match slFirst t with | some i => slG t i | none => 0
def takeE (t : Sl) : Nat := match slFirst t with | some _ => 0 | none => 8
/-- How the slot of any number is; -1: there is none. -/
def stateV (t : Sl) (i : Int) : Int := if 0 ≤ i ∧ i < t.length then (slS t i.toNat : Int) else -1
def liveV (t : Sl) (i : Int) (g : Nat) : Bool := decide (stateV t i = 1 ∧ slG t i.toNat = g)
def endE (t : Sl) (i : Int) (g : Nat) : Nat := if liveV t i g then 0 else 9
def endT (t : Sl) (i : Int) (g s : Nat) : Sl := if liveV t i g then slPut t i.toNat s ((g + 1) % 4294967296) else t
def freeE (t : Sl) (i : Int) : Nat := if stateV t i = 2 then 0 else 6
def freeT (t : Sl) (i : Int) : Sl := if stateV t i = 2 then slPut t i.toNat 0 (slG t i.toNat) else t
/-- How many of the first 'k' slots are so. -/
def cntTo (t : Sl) (s : Nat) : Nat → Nat
  | 0 => 0
  | k + 1 => cntTo t s k + if slS t k = s then 1 else 0
def cnt (t : Sl) (s : Nat) : Nat := cntTo t s t.length
theorem slPut_len (t : Sl) (i s g : Nat) : (slPut t i s g).length = t.length := List.length_set
theorem slPut_S (t : Sl) (i s g j : Nat) (h : i < t.length) : slS (slPut t i s g) j = if j = i then s else slS t j := by
  unfold slS slPut
  simp only [List.getD_eq_getElem?_getD, List.getElem?_set]
  by_cases e : i = j
  · subst e; rw [if_pos rfl, if_pos h, if_pos rfl]; rfl
  · rw [if_neg e, if_neg (Ne.symm e)]
theorem slPut_G (t : Sl) (i s g j : Nat) (h : i < t.length) : slG (slPut t i s g) j = if j = i then g else slG t j := by
  unfold slG slPut
  simp only [List.getD_eq_getElem?_getD, List.getElem?_set]
  by_cases e : i = j
  · subst e; rw [if_pos rfl, if_pos h, if_pos rfl]; rfl
  · rw [if_neg e, if_neg (Ne.symm e)]
theorem slS_out (t : Sl) (i : Nat) (h : t.length ≤ i) : slS t i = 0 := by unfold slS; simp [List.getD, h]
theorem slG_out (t : Sl) (i : Nat) (h : t.length ≤ i) : slG t i = 0 := by unfold slG; simp [List.getD, h]
theorem slPut_ok {t : Sl} {i s g : Nat} (h : t.Ok) (hi : i < t.length) (hs : s ≤ 2) (hg : g < 4294967296) : (slPut t i s g).Ok := by
  refine ⟨by rw [slPut_len]; exact h.1, fun j => ⟨?_, ?_⟩⟩
  · rw [slPut_S _ _ _ _ _ hi]; split
    · exact hs
    · exact (h.2 j).1
  · rw [slPut_G _ _ _ _ _ hi]; split
    · exact hg
    · exact (h.2 j).2
theorem slFrom_some (t : Sl) : ∀ (k i j : Nat), slFrom t k i = some j → i ≤ j ∧ j < i + k ∧ slS t j = 0 ∧ ∀ m, i ≤ m → m < j → slS t m ≠ 0
  | 0, _, _, h => by cases h
  | k + 1, i, j, h => by
    unfold slFrom at h
    split at h
    · obtain rfl : i = j := by simpa using h
      exact ⟨Nat.le_refl _, by omega, by assumption, fun m h1 h2 => by omega⟩
    · rename_i hn
      obtain ⟨h1, h2, h3, h4⟩ := slFrom_some t k (i + 1) j h
      exact ⟨by omega, by omega, h3, fun m h5 h6 => by
        by_cases e : m = i
        · subst e; exact hn
        · exact h4 m (by omega) h6⟩
theorem slFrom_none (t : Sl) : ∀ (k i : Nat), slFrom t k i = none → ∀ m, i ≤ m → m < i + k → slS t m ≠ 0
  | 0, _, _, m, h1, h2 => by omega
  | k + 1, i, h, m, h1, h2 => by
    unfold slFrom at h
    split at h
    · cases h
    · rename_i hn
      by_cases e : m = i
      · subst e; exact hn
      · exact slFrom_none t k (i + 1) h m (by omega) (by omega)
/-- Where the walk stands at slot 'i', all ahead of it being no free ones. -/
theorem slFirst_at (t : Sl) (i : Nat) (hi : i ≤ t.length) (h : ∀ m, m < i → slS t m ≠ 0) : slFirst t = slFrom t (t.length - i) i := by
  have key : ∀ (d i : Nat), d + i = t.length → (∀ m, m < i → slS t m ≠ 0) → slFrom t t.length 0 = slFrom t d i := by
    intro d i
    induction i generalizing d with
    | zero => intro h1 _; rw [show d = t.length by omega]
    | succ i ih =>
      intro h1 h2
      rw [ih (d + 1) (by omega) (fun m hm => h2 m (by omega))]
      show (if slS t i = 0 then some i else slFrom t d (i + 1)) = _
      rw [if_neg (h2 i (by omega))]
  exact key _ i (by omega) h
theorem slFirst_hit {t : Sl} {i : Nat} (hi : i < t.length) (h : ∀ m, m < i → slS t m ≠ 0) (h0 : slS t i = 0) : slFirst t = some i := by
  rw [slFirst_at t i (by omega) h, show t.length - i = (t.length - i - 1) + 1 by omega]
  show (if slS t i = 0 then some i else _) = _
  rw [if_pos h0]
theorem slFirst_no {t : Sl} (h : ∀ m, m < t.length → slS t m ≠ 0) : slFirst t = none := by
  rw [slFirst_at t t.length (Nat.le_refl _) h, Nat.sub_self]
  rfl
theorem slFirst_some {t : Sl} {i : Nat} (h : slFirst t = some i) : i < t.length ∧ slS t i = 0 ∧ ∀ m, m < i → slS t m ≠ 0 := by
  obtain ⟨_, h2, h3, h4⟩ := slFrom_some t _ _ _ h
  exact ⟨by omega, h3, fun m hm => h4 m (Nat.zero_le _) hm⟩
theorem slFirst_none {t : Sl} (h : slFirst t = none) : ∀ m, m < t.length → slS t m ≠ 0 := fun m hm => slFrom_none t _ _ h m (Nat.zero_le _) (by omega)
theorem slTake_len (t : Sl) : (slTake t).length = t.length := by
  unfold slTake
  split
  · exact slPut_len _ _ _ _
  · rfl
theorem endT_len (t : Sl) (i : Int) (g s : Nat) : (endT t i g s).length = t.length := by
  unfold endT
  split
  · exact slPut_len _ _ _ _
  · rfl
theorem freeT_len (t : Sl) (i : Int) : (freeT t i).length = t.length := by
  unfold freeT
  split
  · exact slPut_len _ _ _ _
  · rfl
theorem stateV_in {t : Sl} {i : Int} (h : stateV t i ≠ -1) : 0 ≤ i ∧ i < t.length := by
  unfold stateV at h
  split at h
  · assumption
  · exact absurd rfl h
theorem liveV_in {t : Sl} {i : Int} {g : Nat} (h : liveV t i g = true) : 0 ≤ i ∧ i < t.length ∧ slS t i.toNat = 1 ∧ slG t i.toNat = g := by
  unfold liveV at h
  obtain ⟨h1, h2⟩ := of_decide_eq_true h
  have h3 := stateV_in (t := t) (i := i) (by omega)
  unfold stateV at h1
  rw [if_pos h3] at h1
  exact ⟨h3.1, h3.2, by omega, h2⟩
theorem liveV_nat {t : Sl} {i g : Nat} (h : i < t.length) : liveV t (i : Int) g = decide (slS t i = 1 ∧ slG t i = g) := by
  unfold liveV stateV
  rw [if_pos ⟨by omega, by omega⟩]
  refine decide_eq_decide.2 ?_
  show ((slS t (i : Int).toNat : Nat) : Int) = 1 ∧ _ ↔ _
  rw [Int.toNat_natCast]
  exact and_congr (by omega) Iff.rfl
theorem Sl.Ok.new (n : Nat) (h : n ≤ 256) : (slNew n).Ok := by
  refine ⟨by rw [slNew, List.length_replicate]; exact h, fun i => ?_⟩
  by_cases hi : i < n
  · unfold slS slG slNew
    simp [List.getD, hi]
  · have hl : (slNew n).length ≤ i := by rw [slNew, List.length_replicate]; omega
    rw [slS_out _ _ hl, slG_out _ _ hl]
    omega
theorem slNew_S (n i : Nat) : slS (slNew n) i = 0 := by
  by_cases hi : i < n
  · unfold slS slNew; simp [List.getD, hi]
  · exact slS_out _ _ (by rw [slNew, List.length_replicate]; omega)
theorem slNew_G (n i : Nat) (h : i < n) : slG (slNew n) i = 1 := by unfold slG slNew; simp [List.getD, h]
theorem slNew_len (n : Nat) : (slNew n).length = n := List.length_replicate
theorem Sl.Ok.take {t : Sl} (h : t.Ok) : (slTake t).Ok := by
  unfold slTake
  split
  · rename_i i hi
    exact slPut_ok h (slFirst_some hi).1 (by omega) (h.2 i).2
  · exact h
theorem Sl.Ok.endT {t : Sl} (h : t.Ok) (i : Int) (g s : Nat) (hs : s ≤ 2) : (endT t i g s).Ok := by
  unfold Go.Proofs.Ytlnbjpabcldmnaa.endT
  split
  · rename_i hl
    obtain ⟨h0, h1, _, _⟩ := liveV_in hl
    exact slPut_ok h (by omega) hs (Nat.mod_lt _ (by omega))
  · exact h
theorem Sl.Ok.freeT {t : Sl} (h : t.Ok) (i : Int) : (freeT t i).Ok := by
  unfold Go.Proofs.Ytlnbjpabcldmnaa.freeT
  split
  · rename_i hl
    obtain ⟨h0, h1⟩ := stateV_in (t := t) (i := i) (by omega)
    exact slPut_ok h (by omega) (by omega) (h.2 _).2
  · exact h
theorem cntTo_all {t : Sl} (h : ∀ i, slS t i ≤ 2) : ∀ k, cntTo t 0 k + cntTo t 1 k + cntTo t 2 k = k
  | 0 => rfl
  | k + 1 => by
    have ih := cntTo_all h k
    have := h k
    unfold cntTo
    split <;> split <;> split <;> omega
/-- All slots are counted, each once. -/
theorem cnt_all {t : Sl} (h : t.Ok) : cnt t 0 + cnt t 1 + cnt t 2 = t.length := cntTo_all (fun i => (h.2 i).1) _
theorem cntTo_le (t : Sl) (s : Nat) : ∀ k, cntTo t s k ≤ k
  | 0 => Nat.le_refl _
  | k + 1 => by
    have := cntTo_le t s k
    unfold cntTo
    split <;> omega
theorem cnt_le (t : Sl) (s : Nat) : cnt t s ≤ t.length := cntTo_le t s _
theorem cntTo_zero {t : Sl} {s : Nat} : ∀ k, cntTo t s k = 0 → ∀ i, i < k → slS t i ≠ s
  | k + 1, h, i, hi => by
    unfold cntTo at h
    by_cases e : i = k
    · subst e; intro h2; rw [if_pos h2] at h; omega
    · exact cntTo_zero k (by omega) i (by omega)
theorem cntTo_none {t : Sl} {s : Nat} : ∀ k, (∀ i, i < k → slS t i ≠ s) → cntTo t s k = 0
  | 0, _ => rfl
  | k + 1, h => by
    unfold cntTo
    rw [if_neg (h k (by omega)), cntTo_none k (fun i hi => h i (by omega))]
/-- There is no free slot just if none is told. -/
theorem slFirst_cnt {t : Sl} (h : slFirst t = none) : cnt t 0 = 0 := cntTo_none _ (slFirst_none h)
end Go.Proofs.Ytlnbjpabcldmnaa
