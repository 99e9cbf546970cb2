/- Texts of this proof, together: TupQ, TupP, TupS, TupT. -/
import Derived.Test.YtbpicngbjggblaaGreatDoorGj
import Derived.Test.YtbpicngbjggblaaGreatDoorGk
import Derived.Test.YtbpicngbjggblaaGreatDoorGv
import Derived.Test.YtbpicngbjggblaaGreatDoorGd
import Derived.Test.YtbpicngbjggblaaGreatDoorGc
namespace Go.Proofs.YtbpicngbjggblaaGreatDoor
set_option linter.unusedVariables false
set_option linter.unusedSimpArgs false
open Go.ChangeShapes Go.WideShapes Go.ChangeAt Go.RowKit Go.PlainAid
/-- Of a protocol and what a packet carries: why nothing is seen; the ports; the kind; the flags; whether it asks. -/
def oR (pr : Int) (L : ByteArray) : Int := if pr = 6 then (if tOk L = true then 0 else 7) else if pr = 17 then (if uOk L = true then 0 else 7) else if pr = 1 then (if mOk L = true then (if (qIs (bt L 0) (bt L 1) || erM (bt L 0)) = true then 0 else 6) else 7) else 6
def oM (pr : Int) (L : ByteArray) : Int := if pr = 1 then (if qAsk (bt L 0) (bt L 1) = true then idM (mR L) else 0) else g16 L 0
def oN (pr : Int) (L : ByteArray) : Int := if pr = 1 then (if (qIs (bt L 0) (bt L 1) && !qAsk (bt L 0) (bt L 1)) = true then idM (mR L) else 0) else g16 L 2
def oK (pr : Int) (L : ByteArray) : Int := if pr = 1 then (if qIs (bt L 0) (bt L 1) = true then 2 else 3) else if pr = 6 ∧ bits .and .u8 (bt L 13) 23 = 2 then 1 else 2
def oF (pr : Int) (L : ByteArray) : Int := if pr = 6 then bt L 13 else 0
def oA (pr : Int) (L : ByteArray) : Bool := decide (pr = 1) && qAsk (bt L 0) (bt L 1)
def seenR (s : ByteArray) : Int := if pR s = 0 then oR (bt s 9) (pP s) else pR s
def sI (s : ByteArray) (v : Int) : Int := if seenR s = 0 then v else 0
def sB (s : ByteArray) (v : Bool) : Bool := if seenR s = 0 then v else false
theorem s_no {s : ByteArray} (h : ¬ seenR s = 0) : (∀ v, sI s v = 0) ∧ (∀ v, sB s v = false) := ⟨fun v => by unfold sI; rw [if_neg h], fun v => by unfold sB; rw [if_neg h]⟩
theorem s_yes {s : ByteArray} (h : seenR s = 0) : (∀ v, sI s v = v) ∧ (∀ v, sB s v = v) := ⟨fun v => by unfold sI; rw [if_pos h], fun v => by unfold sB; rw [if_pos h]⟩
theorem q_sub {ty co : Int} (h : qAsk ty co = true) : qIs ty co = true := by
  unfold qAsk at h
  unfold qIs
  simp only [Bool.and_eq_true, Bool.or_eq_true, decide_eq_true_eq] at h ⊢
  omega
/-- A protocol's word; a tuple that may be (its protocol, its ports); which is less (protocol, addresses and ports). -/
def tword (pr : Int) : ByteArray := if pr = 1 then ⟨#[105, 99, 109, 112]⟩ else if pr = 6 then ⟨#[116, 99, 112]⟩ else if pr = 17 then ⟨#[117, 100, 112]⟩ else ⟨#[]⟩
def tmay (pr m n : Int) : Bool := decide (pr = 6) || decide (pr = 17) || (decide (pr = 1) && (decide (m = 0) || decide (n = 0)))
theorem tword_cases (pr : Int) : (pr = 1 ∧ tword pr = ⟨#[105, 99, 109, 112]⟩) ∨ (pr = 6 ∧ tword pr = ⟨#[116, 99, 112]⟩) ∨ (pr = 17 ∧ tword pr = ⟨#[117, 100, 112]⟩) ∨ (¬ pr = 1 ∧ ¬ pr = 6 ∧ ¬ pr = 17 ∧ tword pr = ⟨#[]⟩) := by
  unfold tword
  by_cases h1 : pr = 1
  · left; exact ⟨h1, if_pos h1⟩
  · by_cases h2 : pr = 6
    · right; left; exact ⟨h2, by rw [if_neg h1, if_pos h2]⟩
    · by_cases h3 : pr = 17
      · right; right; left; exact ⟨h3, by rw [if_neg h1, if_neg h2, if_pos h3]⟩
      · right; right; right; exact ⟨h1, h2, h3, by rw [if_neg h1, if_neg h2, if_neg h3]⟩
theorem seen_ip {s : ByteArray} (h : seenR s = 0) : pR s = 0 ∧ oR (bt s 9) (pP s) = 0 := by
  unfold seenR at h
  split at h
  · rename_i e; exact ⟨e, h⟩
  · rename_i e; exact absurd h e
theorem ip_facts {s : ByteArray} (h : pR s = 0) : 20 ≤ s.size ∧ bt s 0 / 16 = 4 ∧ 20 ≤ ownN s ∧ ownN s ≤ s.size ∧ (ownN s : Int) ≤ g16 s 2 ∧ g16 s 2 ≤ (s.size : Int) ∧ g16 s 2 ≤ 2048 ∧ holdsV [s.extract 0 (ownN s)] = true ∧ (g16 s 6 = 0 ∨ g16 s 6 = 16384) := by
  unfold pR at h
  split at h
  · omega
  · split at h
    · omega
    · split at h
      · omega
      · split at h
        · omega
        · rename_i h1 h2 h3 h4
          split at h
          · omega
          · rename_i h5
            refine ⟨by omega, by omega, by omega, by omega, by omega, by omega, by omega, ?_, by omega⟩
            cases hh : holdsV [s.extract 0 (ownN s)] with
            | true => rfl
            | false => exact absurd hh h4
theorem ip_zero {s : ByteArray} (h1 : 20 ≤ s.size) (h2 : bt s 0 / 16 = 4) (h3 : 20 ≤ ownN s) (h4 : ownN s ≤ s.size) (h5 : (ownN s : Int) ≤ g16 s 2) (h6 : g16 s 2 ≤ (s.size : Int)) (h7 : g16 s 2 ≤ 2048) (h8 : holdsV [s.extract 0 (ownN s)] = true) (h9 : g16 s 6 = 0 ∨ g16 s 6 = 16384) : pR s = 0 := by
  unfold pR
  rw [if_neg (by omega), if_neg (by omega), if_neg (by omega), if_neg (by rw [h8]; decide), if_neg (by omega)]
theorem seen_of {s : ByteArray} (h : pR s = 0) (h2 : oR (bt s 9) (pP s) = 0) : seenR s = 0 := by unfold seenR; rw [if_pos h]; exact h2
/-- A protocol's word; the protocol of a word. -/
def twL (p : Nat) : List UInt8 := if p = 1 then [105, 99, 109, 112] else if p = 6 then [116, 99, 112] else if p = 17 then [117, 100, 112] else []
def tprot (l : List UInt8) : Option Nat := if l = [105, 99, 109, 112] then some 1 else if l = [116, 99, 112] then some 6 else if l = [117, 100, 112] then some 17 else none
theorem tword_str (p : Nat) : tword (p : Int) = str (twL p) := by
  unfold tword twL
  by_cases h1 : p = 1
  · subst h1; rfl
  · by_cases h2 : p = 6
    · subst h2; rfl
    · by_cases h3 : p = 17
      · subst h3; rfl
      · rw [if_neg (by omega), if_neg (by omega), if_neg (by omega), if_neg h1, if_neg h2, if_neg h3]; rfl
/-- A tuple's text. -/
def ttextL (p a m b n : Nat) : List UInt8 := if tmay p m n then twL p ++ 32 :: (pointL a m ++ 32 :: pointL b n) else []
/-- The tuple that may be of a word and two endpoints' texts. -/
def tupMid (name src dst : List UInt8) : Option (Nat × Nat × Nat × Nat × Nat) := match tprot name, pointV src, pointV dst with
  | some p, some (a, m), some (b, n) => if tmay p m n then some (p, a, m, b, n) else none
  | _, _, _ => none
/-- As the document reads them: the last blank first. -/
def tupR (l : List UInt8) : Option (Nat × Nat × Nat × Nat × Nat) :=
  if (cutZ 32 l).2.2 = false then none else if (cutZ 32 (cutZ 32 l).1).2.2 = false then none else tupMid (cutZ 32 (cutZ 32 l).1).1 (cutZ 32 (cutZ 32 l).1).2.1 (cutZ 32 l).2.1
end Go.Proofs.YtbpicngbjggblaaGreatDoor
