/- Plain: messages (layer 7). -/
import Derived.Test.YtlcgpjeggelbaaaTcpP
namespace Go.Proofs.Ytlcgpjeggelbaaa
set_option linter.unusedVariables false
set_option linter.unusedSimpArgs false
open Go.ChangeShapes Go.WideShapes Go.ChangeAt Go.RowKit Go.PlainAid
/-- A text that is a message, and what it says. -/
def mOk (s : ByteArray) : Bool := decide (8 ≤ s.size)
def mI (s : ByteArray) (v : Int) : Int := if mOk s then v else 0
def mR (s : ByteArray) : ByteArray := if mOk s then s.extract 4 8 else ⟨#[]⟩
def mD (s : ByteArray) : ByteArray := if mOk s then s.extract 8 s.size else ⟨#[]⟩
/-- A message's bytes; why it can't be put. -/
def icB (ty co su : Int) (r d : ByteArray) : ByteArray := strOfNums (wordL [256 * ty + co, su]) ++ r ++ d
def icE (n : Nat) : Int := if n = 4 then 0 else 2
def icP (ty co su : Int) (r d : ByteArray) : ByteArray := if r.size = 4 then icB ty co su r d else ⟨#[]⟩
def ckM (s : ByteArray) : Bool := decide (8 ≤ s.size) && holdsV [s]
def slC (s : ByteArray) : Int := sumV [zeroB s 2]
def slI (s : ByteArray) : ByteArray := if s.size < 8 then s else s.extract 0 2 ++ strOfNums (wordL [slC s]) ++ s.extract 4 s.size
def qAsk (ty co : Int) : Bool := decide (co = 0) && (decide (ty = 8) || decide (ty = 13))
def qIs (ty co : Int) : Bool := decide (co = 0) && (decide (ty = 8) || decide (ty = 13) || decide (ty = 0) || decide (ty = 14))
def erM (ty : Int) : Bool := decide (ty = 3) || decide (ty = 11) || decide (ty = 12)
def idM (r : ByteArray) : Int := if 2 ≤ r.size then g16 r 0 else 0
def wiM (r : ByteArray) (id : Int) : ByteArray := if 2 ≤ r.size then strOfNums (wordL [id]) ++ r.extract 2 r.size else r
theorem mOk_yes {s : ByteArray} (h : mOk s = true) : 8 ≤ s.size ∧ (∀ v, mI s v = v) ∧ mR s = s.extract 4 8 ∧ mD s = s.extract 8 s.size := by
  have h' := h
  unfold mOk at h'
  simp only [decide_eq_true_eq] at h'
  refine ⟨h', fun v => ?_, ?_, ?_⟩
  · unfold mI; rw [if_pos h]
  · unfold mR; rw [if_pos h]
  · unfold mD; rw [if_pos h]
theorem mOk_no {s : ByteArray} (h : mOk s = false) : (∀ v, mI s v = 0) ∧ mR s = ⟨#[]⟩ ∧ mD s = ⟨#[]⟩ := by
  refine ⟨fun v => ?_, ?_, ?_⟩
  · unfold mI; rw [if_neg (by rw [h]; decide)]
  · unfold mR; rw [if_neg (by rw [h]; decide)]
  · unfold mD; rw [if_neg (by rw [h]; decide)]
theorem idM_bd (r : ByteArray) : 0 ≤ idM r ∧ idM r ≤ 65535 := by
  have := g16_nonneg r 0; have := g16_le r 0
  unfold idM; split <;> omega
theorem wiM_size (r : ByteArray) (id : Int) : (wiM r id).size = r.size := by
  unfold wiM
  split
  · rw [ByteArray.size_append, size_W, size_extract' r 2 r.size (by omega) (Nat.le_refl _)]; show 2 * 1 + _ = _; omega
  · rfl
/-- What is sealed. -/
theorem slI_facts (s : ByteArray) (h : 8 ≤ s.size) :
    (slI s).size = s.size ∧ (slI s).extract 0 2 = s.extract 0 2 ∧ (slI s).extract 4 s.size = s.extract 4 s.size ∧ slI (slI s) = slI s ∧ holdsV [slI s] = true := by
  have hx := size_extract' s 0 2 (by omega) (by omega)
  have hz := size_extract' s 4 s.size (by omega) (Nat.le_refl _)
  have hn : 0 ≤ slC s ∧ slC s ≤ 65535 := sumV_bd _
  have hm : (strOfNums (wordL [slC s])).size = 2 := by rw [size_W]; rfl
  have e : slI s = s.extract 0 2 ++ strOfNums (wordL [slC s]) ++ s.extract 4 s.size := by unfold slI; rw [if_neg (by omega)]
  obtain ⟨m1, m2, m3, m4⟩ := mid_parts (s.extract 0 2) (strOfNums (wordL [slC s])) (s.extract 4 s.size) hm
  rw [← e, hx, hz] at m1
  rw [← e, hx] at m2 m3
  rw [← e, hx, hz] at m4
  have z1 : (slI s).size = s.size := by omega
  have z2 : (slI s).extract 0 2 = s.extract 0 2 := m2
  have z3 : (slI s).extract 4 s.size = s.extract 4 s.size := by rw [show 2 - 0 + 2 + (s.size - 4) = s.size by omega] at m4; exact m4
  have z4 : g16 (slI s) 2 = slC s := by
    have := g16_mid (s.extract 0 2) (s.extract 4 s.size) (slC s) hn.1 hn.2
    rw [← e, hx] at this
    exact this
  have z5 : zeroB (slI s) 2 = zeroB s 2 := by unfold zeroB; rw [z1, z2, z3]
  have z6 : slC (slI s) = slC s := by unfold slC; rw [z5]
  have z7 : slI (slI s) = slI s := by
    have e2 : slI (slI s) = (slI s).extract 0 2 ++ strOfNums (wordL [slC (slI s)]) ++ (slI s).extract 4 (slI s).size := by
      rw [show slI (slI s) = if (slI s).size < 8 then slI s else (slI s).extract 0 2 ++ strOfNums (wordL [slC (slI s)]) ++ (slI s).extract 4 (slI s).size from rfl, if_neg (by omega)]
    rw [e2, z1, z2, z3, z6, e]
  refine ⟨z1, z2, z3, z7, ?_⟩
  have hT := tot_split (slI s) 1 (by omega)
  rw [show 2 * 1 = 2 by rfl, z5, z4] at hT
  have hz0 := totT_nonneg (zeroB s 2)
  unfold holdsV
  rw [decide_eq_true_iff, sumV_cl, totTs1, hT]
  have hs : slC s = 65535 - cl (totT (zeroB s 2)) := by unfold slC; rw [sumV_cl, totTs1]
  rw [hs]
  generalize totT (zeroB s 2) = Z at *
  unfold cl
  split <;> split <;> omega
theorem holdsV_nil (s : ByteArray) : holdsV [ByteArray.empty, s] = holdsV [s] := by
  unfold holdsV
  rw [sumV_cl, sumV_cl, totTs2, totTs1]
  rw [show totT ByteArray.empty = 0 from by kernel_rfl, Int.zero_add]
/-- What is right is not, with one byte another. -/
theorem spoilt1 (s t : ByteArray) (j : Nat) (hz : t.size = s.size) (hj : j < s.size) (h : ∀ i, ¬ i = j → bt t i = bt s i) (hd : ¬ bt t j = bt s j) (hh : holdsV [s] = true) : holdsV [t] = false := by
  rw [← holdsV_nil] at hh ⊢
  exact spoilt2 _ s t j hz hj h hd hh
end Go.Proofs.Ytlcgpjeggelbaaa
