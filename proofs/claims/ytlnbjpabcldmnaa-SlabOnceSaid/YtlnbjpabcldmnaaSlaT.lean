/- Plain: what SlabOnce goes by (layer 13): which handles are live, and how many. -/
import Derived.Test.YtlnbjpabcldmnaaSlaP
namespace Go.Proofs.Ytlnbjpabcldmnaa
set_option linter.unusedVariables false
set_option linter.unusedSimpArgs false
/-- How many of the first 'm' are so. -/
def cntF (f : Nat → Bool) : Nat → Nat
  | 0 => 0
  | m + 1 => cntF f m + if f m = true then 1 else 0
theorem cntF_congr {f g : Nat → Bool} : ∀ m, (∀ j, j < m → f j = g j) → cntF f m = cntF g m
  | 0, _ => rfl
  | m + 1, h => by unfold cntF; rw [cntF_congr m (fun j hj => h j (by omega)), h m (by omega)]
theorem cntF_one {f g : Nat → Bool} {k : Nat} : ∀ m, k < m → (∀ j, j < m → j ≠ k → f j = g j) → f k = true → g k = false → cntF f m = cntF g m + 1
  | m + 1, hk, h, h1, h2 => by
    unfold cntF
    by_cases e : k = m
    · subst e
      rw [cntF_congr k (fun j hj => h j (by omega) (by omega)), h1, h2]
      simp
    · rw [cntF_one m (by omega) (fun j hj hn => h j (by omega) hn) h1 h2, h m (by omega) (fun e2 => e e2.symm)]
      omega
theorem cnt_F (t : Sl) (s : Nat) : cnt t s = cntF (fun i => decide (slS t i = s)) t.length := by
  have key : ∀ k, cntTo t s k = cntF (fun i => decide (slS t i = s)) k := by
    intro k
    induction k with
    | zero => rfl
    | succ k ih =>
      unfold cntTo cntF
      rw [ih]
      by_cases e : slS t k = s <;> simp [e]
  exact key _
/-- Whether the 'j'th handle that was taken is live. -/
def livH (t hs : Sl) (j : Nat) : Bool := liveV t (slS hs j : Int) (slG hs j)
structure Once (t hs : Sl) (n c : Nat) : Prop where
  len : t.length = n
  ok : t.Ok
  low : ∀ i, i < n → slG t i ≤ 1 + c
  ins : ∀ j, j < hs.length → slS hs j < n
  old : ∀ j, j < hs.length → slG hs j ≤ slG t (slS hs j)
  cur : ∀ j, j < hs.length → slG hs j = slG t (slS hs j) → slS t (slS hs j) = 1
  one : ∀ i j, i < hs.length → j < hs.length → slS hs i = slS hs j → slG hs i = slG hs j → i = j
  sum : cntF (livH t hs) hs.length = cnt t 1
theorem Once.live {t hs : Sl} {n c j : Nat} (h : Once t hs n c) (hj : j < hs.length) : livH t hs j = decide (slG hs j = slG t (slS hs j)) := by
  unfold livH
  rw [liveV_nat (by rw [h.len]; exact h.ins j hj)]
  refine decide_eq_decide.2 ⟨fun ⟨_, h2⟩ => h2.symm, fun e => ⟨h.cur j hj e, e.symm⟩⟩
theorem Once.new {n : Nat} (hn : n ≤ 256) : Once (slNew n) [] n 0 where
  len := slNew_len n
  ok := Sl.Ok.new n hn
  low i hi := by rw [slNew_G n i hi]; omega
  ins j hj := absurd hj (Nat.not_lt_zero j)
  old j hj := absurd hj (Nat.not_lt_zero j)
  cur j hj := absurd hj (Nat.not_lt_zero j)
  one i j hi := absurd hi (Nat.not_lt_zero i)
  sum := by
    show 0 = cnt (slNew n) 1
    exact (cntTo_none _ (fun i _ => by rw [slNew_S]; omega)).symm
theorem Once.more {t hs : Sl} {n c d : Nat} (h : Once t hs n c) (hd : c ≤ d) : Once t hs n d := { h with low := fun i hi => Nat.le_trans (h.low i hi) (by omega) }
theorem slS_app (hs : Sl) (p : Nat × Nat) (j : Nat) : slS (hs ++ [p]) j = if j < hs.length then slS hs j else if j = hs.length then p.1 else 0 := by
  unfold slS
  by_cases h : j < hs.length
  · rw [if_pos h]; simp [List.getD, List.getElem?_append_left h]
  · rw [if_neg h]
    by_cases e : j = hs.length
    · subst e; simp [List.getD]
    · rw [if_neg e]; simp [List.getD, show ¬ j < hs.length + 1 by omega]
theorem slG_app (hs : Sl) (p : Nat × Nat) (j : Nat) : slG (hs ++ [p]) j = if j < hs.length then slG hs j else if j = hs.length then p.2 else 0 := by
  unfold slG
  by_cases h : j < hs.length
  · rw [if_pos h]; simp [List.getD, List.getElem?_append_left h]
  · rw [if_neg h]
    by_cases e : j = hs.length
    · subst e; simp [List.getD]
    · rw [if_neg e]; simp [List.getD, show ¬ j < hs.length + 1 by omega]
/-- A handle that is taken is none of those that were. -/
theorem Once.fresh {t hs : Sl} {n c i j : Nat} (h : Once t hs n c) (hf : slFirst t = some i) (hj : j < hs.length) : ¬ (slS hs j = i ∧ slG hs j = slG t i) := by
  rintro ⟨rfl, e⟩
  have := h.cur j hj e
  rw [(slFirst_some hf).2.1] at this
  omega
theorem Once.take {t hs : Sl} {n c i : Nat} (h : Once t hs n c) (hf : slFirst t = some i) : Once (slTake t) (hs ++ [(i, slG t i)]) n c ∧ ∀ j, j < hs.length → livH (slTake t) (hs ++ [(i, slG t i)]) j = livH t hs j := by
  obtain ⟨hi, h0, _⟩ := slFirst_some hf
  have e : slTake t = slPut t i 1 (slG t i) := by unfold slTake; rw [hf]
  have hS : ∀ k, slS (slTake t) k = if k = i then 1 else slS t k := fun k => by rw [e]; exact slPut_S _ _ _ _ _ hi
  have hG : ∀ k, slG (slTake t) k = slG t k := fun k => by
    rw [e, slPut_G _ _ _ _ _ hi]
    split
    · rename_i ek; subst ek; rfl
    · rfl
  have hl : (slTake t).length = n := by rw [slTake_len]; exact h.len
  have same : ∀ j, j < hs.length → livH (slTake t) (hs ++ [(i, slG t i)]) j = livH t hs j := by
    intro j hj
    unfold livH
    rw [slS_app, slG_app, if_pos hj, if_pos hj, liveV_nat (by rw [hl]; exact h.ins j hj), liveV_nat (by rw [h.len]; exact h.ins j hj), hS, hG]
    refine decide_eq_decide.2 ?_
    by_cases ek : slS hs j = i
    · rw [if_pos ek]
      refine ⟨fun ⟨_, h2⟩ => absurd ⟨ek, by rw [← ek]; exact h2.symm⟩ (h.fresh hf hj), fun ⟨h1, _⟩ => ?_⟩
      rw [ek, h0] at h1
      omega
    · rw [if_neg ek]
  have lst : livH (slTake t) (hs ++ [(i, slG t i)]) hs.length = true := by
    unfold livH
    rw [slS_app, slG_app, if_neg (Nat.lt_irrefl _), if_pos rfl, if_neg (Nat.lt_irrefl _), if_pos rfl, liveV_nat (by rw [hl, ← h.len]; exact hi), hS, hG, if_pos rfl]
    simp
  refine ⟨⟨hl, h.ok.take, fun k hk => by rw [hG]; exact h.low k hk, fun j hj => ?_, fun j hj => ?_, fun j hj => ?_, fun a b ha hb => ?_, ?_⟩, same⟩
  · rw [slS_app]
    split
    · exact h.ins j (by assumption)
    · rw [List.length_append] at hj
      rw [if_pos (by simp at hj; omega), ← h.len]; exact hi
  · rw [slS_app, slG_app, hG]
    split
    · rename_i hj2; exact h.old j hj2
    · rename_i hj2
      rw [if_pos (by simp at hj; omega), if_pos (by simp at hj; omega)]
      exact Nat.le_refl _
  · rw [slS_app, slG_app, hG, hS]
    by_cases hj2 : j < hs.length
    · rw [if_pos hj2, if_pos hj2]
      intro e2
      split
      · rfl
      · exact h.cur j hj2 e2
    · rw [if_neg hj2, if_neg hj2, if_pos (by simp at hj; omega), if_pos (by simp at hj; omega)]
      intro _
      rw [if_pos rfl]
  · rw [slS_app, slS_app, slG_app, slG_app]
    rw [List.length_append] at ha hb
    simp only [List.length_cons, List.length_nil] at ha hb
    by_cases a2 : a < hs.length <;> by_cases b2 : b < hs.length
    · simp only [a2, b2, if_true]; exact h.one a b a2 b2
    · have eb : b = hs.length := by omega
      simp only [a2, eb, Nat.lt_irrefl, if_true, if_false]
      intro e1 e2
      exact absurd ⟨e1, e2⟩ (h.fresh hf a2)
    · have ea : a = hs.length := by omega
      simp only [b2, ea, Nat.lt_irrefl, if_true, if_false]
      intro e1 e2
      exact absurd ⟨e1.symm, e2.symm⟩ (h.fresh hf b2)
    · intro _ _; omega
  · rw [List.length_append]
    show cntF _ (hs.length + 1) = _
    unfold cntF
    rw [cntF_congr hs.length same, h.sum, lst, cnt_F, cnt_F, hl, h.len]
    simp only [if_true]
    refine (cntF_one (k := i) n (by rw [← h.len]; exact hi) (fun j hj hn => ?_) ?_ ?_).symm
    · rw [hS, if_neg hn]
    · rw [hS, if_pos rfl]; rfl
    · rw [h0]; rfl
/-- A live handle is given back (s = 0), or retired (s = 2). -/
theorem Once.fin {t hs : Sl} {n c k s : Nat} (h : Once t hs n c) (hk : k < hs.length) (hl : livH t hs k = true) (hs1 : s = 0 ∨ s = 2) (hc : c ≤ 100000) :
    Once (endT t (slS hs k : Int) (slG hs k) s) hs n (c + 1) ∧ (∀ j, j < hs.length → livH (endT t (slS hs k : Int) (slG hs k) s) hs j = (if j = k then false else livH t hs j)) ∧
      (∀ i, slS (endT t (slS hs k : Int) (slG hs k) s) i = if i = slS hs k then s else slS t i) := by
  have hkl := h.ins k hk
  rw [h.live hk, decide_eq_true_eq] at hl
  have h1 := h.cur k hk hl
  have hlow := h.low _ hkl
  have e : endT t (slS hs k : Int) (slG hs k) s = slPut t (slS hs k) s (slG hs k + 1) := by
    unfold endT
    rw [liveV_nat (by rw [h.len]; exact hkl), if_pos (by rw [h1, hl]; simp), Int.toNat_natCast, Nat.mod_eq_of_lt (by omega)]
  have hb : slS hs k < t.length := by rw [h.len]; exact hkl
  rw [e]
  have hS : ∀ i, slS (slPut t (slS hs k) s (slG hs k + 1)) i = if i = slS hs k then s else slS t i := fun i => slPut_S _ _ _ _ _ hb
  have hG : ∀ i, slG (slPut t (slS hs k) s (slG hs k + 1)) i = if i = slS hs k then slG hs k + 1 else slG t i := fun i => slPut_G _ _ _ _ _ hb
  have hlen : (slPut t (slS hs k) s (slG hs k + 1)).length = n := by rw [slPut_len]; exact h.len
  have lv : ∀ j, j < hs.length → livH (slPut t (slS hs k) s (slG hs k + 1)) hs j = (if j = k then false else livH t hs j) := by
    intro j hj
    rw [h.live hj]
    unfold livH
    rw [liveV_nat (by rw [hlen]; exact h.ins j hj), hS, hG]
    by_cases ej : j = k
    · subst ej
      rw [if_pos rfl, if_pos rfl, if_pos rfl]
      simp
    · rw [if_neg ej]
      refine decide_eq_decide.2 ?_
      by_cases es : slS hs j = slS hs k
      · rw [if_pos es, if_pos es, es, ← hl]
        refine ⟨fun ⟨h2, _⟩ => by omega, fun h2 => absurd (h.one j k hj hk es h2) ej⟩
      · rw [if_neg es, if_neg es]
        exact ⟨fun ⟨_, h2⟩ => h2.symm, fun h2 => ⟨h.cur j hj h2, h2.symm⟩⟩
  refine ⟨⟨hlen, slPut_ok h.ok hb (by omega) (by omega), fun i hi => ?_, h.ins, fun j hj => ?_, fun j hj => ?_, h.one, ?_⟩, lv, hS⟩
  · rw [hG]
    split
    · omega
    · have := h.low i hi; omega
  · rw [hG]
    have := h.old j hj
    split
    · rename_i es; rw [es, ← hl] at this; omega
    · exact this
  · rw [hG, hS]
    have := h.old j hj
    by_cases es : slS hs j = slS hs k
    · rw [if_pos es, if_pos es]
      intro h2
      rw [es, ← hl] at this
      omega
    · rw [if_neg es, if_neg es]; exact h.cur j hj
  · have a1 : cntF (livH t hs) hs.length = cntF (livH (slPut t (slS hs k) s (slG hs k + 1)) hs) hs.length + 1 :=
      cntF_one hs.length hk (fun j hj hn => by rw [lv j hj, if_neg hn]) (by rw [h.live hk]; simpa using hl) (by rw [lv k hk, if_pos rfl])
    have a2 : cnt t 1 = cnt (slPut t (slS hs k) s (slG hs k + 1)) 1 + 1 := by
      rw [cnt_F, cnt_F, hlen, h.len]
      refine cntF_one n hkl (fun j hj hn => ?_) ?_ ?_
      · rw [hS, if_neg hn]
      · rw [h1]; rfl
      · rw [hS, if_pos rfl]; rcases hs1 with rfl | rfl <;> rfl
    have := h.sum
    omega
/-- One that is not live changes nothing. -/
theorem Once.stale {t hs : Sl} {k s : Nat} (hl : livH t hs k = false) : endT t (slS hs k : Int) (slG hs k) s = t ∧ endE t (slS hs k : Int) (slG hs k) = 9 := by
  unfold endT endE
  rw [show liveV t (slS hs k : Int) (slG hs k) = false from hl]
  exact ⟨rfl, rfl⟩
theorem Once.told {t hs : Sl} {k : Nat} (hl : livH t hs k = true) : endE t (slS hs k : Int) (slG hs k) = 0 := by
  unfold endE
  rw [show liveV t (slS hs k : Int) (slG hs k) = true from hl]
  rfl
/-- A slot that is gone is made free. -/
theorem Once.free {t hs : Sl} {n c i : Nat} (h : Once t hs n c) (hi : i < n) (h2 : slS t i = 2) : freeE t (i : Int) = 0 ∧ Once (freeT t (i : Int)) hs n c ∧ (∀ j, j < hs.length → livH (freeT t (i : Int)) hs j = livH t hs j) ∧ (∀ k, slS (freeT t (i : Int)) k = if k = i then 0 else slS t k) := by
  have hb : i < t.length := by rw [h.len]; exact hi
  have hv : stateV t (i : Int) = 2 := by unfold stateV; rw [if_pos ⟨by omega, by omega⟩, Int.toNat_natCast, h2]; rfl
  have e : freeT t (i : Int) = slPut t i 0 (slG t i) := by unfold freeT; rw [if_pos hv, Int.toNat_natCast]
  have hS : ∀ k, slS (freeT t (i : Int)) k = if k = i then 0 else slS t k := fun k => by rw [e]; exact slPut_S _ _ _ _ _ hb
  have hG : ∀ k, slG (freeT t (i : Int)) k = slG t k := fun k => by
    rw [e, slPut_G _ _ _ _ _ hb]
    split
    · rename_i ek; subst ek; rfl
    · rfl
  have hlen : (freeT t (i : Int)).length = n := by rw [freeT_len]; exact h.len
  have lv : ∀ j, j < hs.length → livH (freeT t (i : Int)) hs j = livH t hs j := by
    intro j hj
    rw [h.live hj]
    unfold livH
    rw [liveV_nat (by rw [hlen]; exact h.ins j hj), hS, hG]
    refine decide_eq_decide.2 ⟨fun ⟨_, h3⟩ => h3.symm, fun h3 => ⟨?_, h3.symm⟩⟩
    have h4 := h.cur j hj h3
    rw [if_neg (fun es => by rw [es, h2] at h4; omega)]
    exact h4
  refine ⟨by unfold freeE; rw [if_pos hv], ⟨hlen, h.ok.freeT _, fun k hk => by rw [hG]; exact h.low k hk, h.ins, fun j hj => by rw [hG]; exact h.old j hj, fun j hj h3 => ?_, h.one, ?_⟩, lv, hS⟩
  · rw [hG] at h3
    have h4 := h.cur j hj h3
    rw [hS, if_neg (fun es => by rw [es, h2] at h4; omega)]
    exact h4
  · rw [cntF_congr _ lv, h.sum, cnt_F, cnt_F, hlen, h.len]
    refine cntF_congr n fun k _ => ?_
    rw [hS]
    by_cases ek : k = i
    · subst ek; rw [if_pos rfl, h2]; rfl
    · rw [if_neg ek]
theorem Once.kept {t : Sl} {n i : Nat} (hl : t.length = n) (hi : i < n) (h2 : slS t i ≠ 2) : freeE t (i : Int) = 6 ∧ freeT t (i : Int) = t := by
  have hv : ¬ stateV t (i : Int) = 2 := by unfold stateV; rw [if_pos ⟨by omega, by omega⟩, Int.toNat_natCast]; omega
  unfold freeE freeT
  rw [if_neg hv, if_neg hv]
  exact ⟨rfl, rfl⟩
end Go.Proofs.Ytlnbjpabcldmnaa
