/- Texts of this proof, together: TupQ, TupP, TupT, TupS. -/
import Derived.Test.YtidkgnanfhdhdaaDoorGj
import Derived.Test.YtidkgnanfhdhdaaDoorGk
import Derived.Test.YtidkgnanfhdhdaaDoorGc
import Derived.Test.YtidkgnanfhdhdaaDoorTcpQ
import Derived.Test.YtidkgnanfhdhdaaDoorGd
namespace Go.Proofs.YtidkgnanfhdhdaaDoor
set_option linter.unusedVariables false
set_option linter.unusedSimpArgs false
open Go.ChangeShapes Go.WideShapes Go.ChangeAt Go.RowKit Go.PlainAid
/-- Of a protocol and what a packet carries: why nothing is seen; the ports; the kind; the flags; whether it asks. -/
def oR (pr : Int) (L : ByteArray) : Int := if pr = 6 then (if tOk L = true then 0 else 7) else if pr = 17 then (if uOk L = true then 0 else 7) else if pr = 1 then (if mOk L = true then (if (qIs (bt L 0) (bt L 1) || erM (bt L 0)) = true then 0 else 6) else 7) else 6
def oM (pr : Int) (L : ByteArray) : Int := if pr = 1 then (if qAsk (bt L 0) (bt L 1) = true then idM (mR L) else 0) else g16 L 0
def oN (pr : Int) (L : ByteArray) : Int := if pr = 1 then (if (qIs (bt L 0) (bt L 1) && !qAsk (bt L 0) (bt L 1)) = true then idM (mR L) else 0) else g16 L 2
def oK (pr : Int) (L : ByteArray) : Int := if pr = 1 then (if qIs (bt L 0) (bt L 1) = true then 2 else 3) else if pr = 6 ∧ bits .and .u8 (bt L 13) 23 = 2 then 1 else 2
def oF (pr : Int) (L : ByteArray) : Int := if pr = 6 then bt L 13 else 0
def oA (pr : Int) (L : ByteArray) : Bool := decide (pr = 1) && qAsk (bt L 0) (bt L 1)
def seenR (s : ByteArray) : Int := if pR s = 0 then oR (bt s 9) (pP s) else pR s
def sI (s : ByteArray) (v : Int) : Int := if seenR s = 0 then v else 0
def sB (s : ByteArray) (v : Bool) : Bool := if seenR s = 0 then v else false
theorem s_no {s : ByteArray} (h : ¬ seenR s = 0) : (∀ v, sI s v = 0) ∧ (∀ v, sB s v = false) := ⟨fun v => by unfold sI; rw [if_neg h], fun v => by unfold sB; rw [if_neg h]⟩
theorem s_yes {s : ByteArray} (h : seenR s = 0) : (∀ v, sI s v = v) ∧ (∀ v, sB s v = v) := ⟨fun v => by unfold sI; rw [if_pos h], fun v => by unfold sB; rw [if_pos h]⟩
theorem q_sub {ty co : Int} (h : qAsk ty co = true) : qIs ty co = true := by
  unfold qAsk at h
  unfold qIs
  simp only [Bool.and_eq_true, Bool.or_eq_true, decide_eq_true_eq] at h ⊢
  omega
end Go.Proofs.YtidkgnanfhdhdaaDoor

namespace Go.Proofs.YtidkgnanfhdhdaaDoor
set_option linter.unusedVariables false
set_option linter.unusedSimpArgs false
open Go.ChangeShapes Go.WideShapes Go.ChangeAt Go.RowKit Go.PlainAid
/-- A protocol's word; a tuple that may be (its protocol, its ports); which is less (protocol, addresses and ports). -/
def tword (pr : Int) : ByteArray := if pr = 1 then ⟨#[105, 99, 109, 112]⟩ else if pr = 6 then ⟨#[116, 99, 112]⟩ else if pr = 17 then ⟨#[117, 100, 112]⟩ else ⟨#[]⟩
def tmay (pr m n : Int) : Bool := decide (pr = 6) || decide (pr = 17) || (decide (pr = 1) && (decide (m = 0) || decide (n = 0)))
def tless (p q : Int) (a m b n c k d l : Nat) : Bool := if p = q then (if a = c ∧ m = k then lessV b n d l else lessV a m c k) else decide (p < q)
theorem tword_cases (pr : Int) : (pr = 1 ∧ tword pr = ⟨#[105, 99, 109, 112]⟩) ∨ (pr = 6 ∧ tword pr = ⟨#[116, 99, 112]⟩) ∨ (pr = 17 ∧ tword pr = ⟨#[117, 100, 112]⟩) ∨ (¬ pr = 1 ∧ ¬ pr = 6 ∧ ¬ pr = 17 ∧ tword pr = ⟨#[]⟩) := by
  unfold tword
  by_cases h1 : pr = 1
  · left; exact ⟨h1, if_pos h1⟩
  · by_cases h2 : pr = 6
    · right; left; exact ⟨h2, by rw [if_neg h1, if_pos h2]⟩
    · by_cases h3 : pr = 17
      · right; right; left; exact ⟨h3, by rw [if_neg h1, if_neg h2, if_pos h3]⟩
      · right; right; right; exact ⟨h1, h2, h3, by rw [if_neg h1, if_neg h2, if_neg h3]⟩
end Go.Proofs.YtidkgnanfhdhdaaDoor

namespace Go.Proofs.YtidkgnanfhdhdaaDoor
set_option linter.unusedVariables false
set_option linter.unusedSimpArgs false
open Go.ChangeShapes Go.WideShapes Go.ChangeAt Go.RowKit Go.PlainAid
/-- A protocol's word; the protocol of a word. -/
def twL (p : Nat) : List UInt8 := if p = 1 then [105, 99, 109, 112] else if p = 6 then [116, 99, 112] else if p = 17 then [117, 100, 112] else []
def tprot (l : List UInt8) : Option Nat := if l = [105, 99, 109, 112] then some 1 else if l = [116, 99, 112] then some 6 else if l = [117, 100, 112] then some 17 else none
theorem tword_str (p : Nat) : tword (p : Int) = str (twL p) := by
  unfold tword twL
  by_cases h1 : p = 1
  · subst h1; rfl
  · by_cases h2 : p = 6
    · subst h2; rfl
    · by_cases h3 : p = 17
      · subst h3; rfl
      · rw [if_neg (by omega), if_neg (by omega), if_neg (by omega), if_neg h1, if_neg h2, if_neg h3]; rfl
theorem tprot_iff (l : List UInt8) (p : Nat) : tprot l = some p ↔ (p = 1 ∨ p = 6 ∨ p = 17) ∧ l = twL p := by
  unfold tprot
  constructor
  · intro h
    split at h
    · injection h with h; subst h; rename_i e; exact ⟨.inl rfl, e⟩
    · split at h
      · injection h with h; subst h; rename_i e; exact ⟨.inr (.inl rfl), e⟩
      · split at h
        · injection h with h; subst h; rename_i e; exact ⟨.inr (.inr rfl), e⟩
        · cases h
  · rintro ⟨rfl | rfl | rfl, rfl⟩ <;> rfl
theorem tmay_three {p m n : Nat} (h : tmay p m n = true) : p = 1 ∨ p = 6 ∨ p = 17 := by
  unfold tmay at h
  simp only [Bool.or_eq_true, Bool.and_eq_true, decide_eq_true_eq] at h
  omega
/-- A tuple's text. -/
def ttextL (p a m b n : Nat) : List UInt8 := if tmay p m n then twL p ++ 32 :: (pointL a m ++ 32 :: pointL b n) else []
/-- The tuple that may be of a word and two endpoints' texts. -/
def tupMid (name src dst : List UInt8) : Option (Nat × Nat × Nat × Nat × Nat) := match tprot name, pointV src, pointV dst with
  | some p, some (a, m), some (b, n) => if tmay p m n then some (p, a, m, b, n) else none
  | _, _, _ => none
theorem pointV_iff (s : List UInt8) (a n : Nat) : pointV s = some (a, n) ↔ a < 4294967296 ∧ n ≤ 65535 ∧ pointL a n = s := pairV_iff 65535 58 s a n (by decide) (by decide)
theorem tupMid_iff (x s d : List UInt8) (p a m b n : Nat) : tupMid x s d = some (p, a, m, b, n) ↔ tmay p m n = true ∧ x = twL p ∧ (a < 4294967296 ∧ m ≤ 65535 ∧ pointL a m = s) ∧ (b < 4294967296 ∧ n ≤ 65535 ∧ pointL b n = d) := by
  unfold tupMid
  rw [← pointV_iff, ← pointV_iff]
  constructor
  · intro h
    split at h
    · rename_i p' a' m' b' n' h1 h2 h3
      split at h
      · rename_i hm
        injection h with h
        injection h with h4 h
        injection h with h5 h
        injection h with h6 h
        injection h with h7 h8
        subst h4; subst h5; subst h6; subst h7; subst h8
        exact ⟨hm, ((tprot_iff _ _).1 h1).2, h2, h3⟩
      · cases h
    · cases h
  · rintro ⟨hm, hx, h2, h3⟩
    rw [(tprot_iff x p).2 ⟨tmay_three hm, hx⟩, h2, h3]
    simp only
    rw [if_pos hm]
/-- As the document reads them: the last blank first. -/
def tupR (l : List UInt8) : Option (Nat × Nat × Nat × Nat × Nat) :=
  if (cutZ 32 l).2.2 = false then none else if (cutZ 32 (cutZ 32 l).1).2.2 = false then none else tupMid (cutZ 32 (cutZ 32 l).1).1 (cutZ 32 (cutZ 32 l).1).2.1 (cutZ 32 l).2.1
/-- The first blank first. -/
def tupC (l : List UInt8) : Option (Nat × Nat × Nat × Nat × Nat) := tupMid (cut1 32 l).1 (cut1 32 (cut1 32 l).2.1).1 (cut1 32 (cut1 32 l).2.1).2.1
theorem point_no (a n : Nat) (c : UInt8) (h1 : isDig c = false) (h2 : c ≠ 46) (h3 : c ≠ 58) : c ∉ pointL a n := by
  unfold pointL
  intro h
  rcases List.mem_append.1 h with h | h
  · exact text_no a c h1 h2 h
  · rcases List.mem_cons.1 h with h | h
    · exact h3 h
    · exact dec_no n c h1 h
theorem tw_no (p : Nat) : (32 : UInt8) ∉ twL p := by
  unfold twL
  split
  · decide
  · split
    · decide
    · split <;> decide
theorem pointV_nil : pointV [] = none := by rfl
theorem tupMid_nil (x s : List UInt8) : tupMid x s [] = none := by
  unfold tupMid
  rw [pointV_nil]
  split
  · rename_i h; cases h
  · rfl
theorem tupR_iff (l : List UInt8) (p a m b n : Nat) : tupR l = some (p, a, m, b, n) ↔ (a < 4294967296 ∧ m ≤ 65535 ∧ b < 4294967296 ∧ n ≤ 65535) ∧ tmay p m n = true ∧ ttextL p a m b n = l := by
  unfold tupR
  constructor
  · intro h
    rcases cutZ_cases 32 l with ⟨x, y, hs, hx, he⟩ | ⟨hx, he⟩
    · rw [he] at h
      simp only at h
      rw [if_neg (by decide)] at h
      rcases cutZ_cases 32 x with ⟨u, v, hs2, hu, he2⟩ | ⟨hu, he2⟩
      · rw [he2] at h
        simp only at h
        rw [if_neg (by decide)] at h
        obtain ⟨hm, rfl, ⟨g1, g2, g3⟩, ⟨g4, g5, g6⟩⟩ := (tupMid_iff _ _ _ _ _ _ _ _).1 h
        refine ⟨⟨g1, g2, g4, g5⟩, hm, ?_⟩
        unfold ttextL
        rw [if_pos hm, g3, g6, hs, hs2, List.append_assoc]
        rfl
      · rw [he2] at h
        simp at h
    · rw [he] at h
      simp at h
  · rintro ⟨⟨g1, g2, g3, g4⟩, hm, rfl⟩
    unfold ttextL
    rw [if_pos hm]
    have e : twL p ++ 32 :: (pointL a m ++ 32 :: pointL b n) = (twL p ++ 32 :: pointL a m) ++ 32 :: pointL b n := by simp
    rw [e, cutZ_app 32 _ _ (point_no b n 32 (by decide) (by decide) (by decide))]
    simp only
    rw [if_neg (by decide), cutZ_app 32 _ _ (point_no a m 32 (by decide) (by decide) (by decide))]
    simp only
    rw [if_neg (by decide)]
    exact (tupMid_iff _ _ _ _ _ _ _ _).2 ⟨hm, rfl, ⟨g1, g2, rfl⟩, ⟨g3, g4, rfl⟩⟩
theorem tupC_iff (l : List UInt8) (p a m b n : Nat) : tupC l = some (p, a, m, b, n) ↔ (a < 4294967296 ∧ m ≤ 65535 ∧ b < 4294967296 ∧ n ≤ 65535) ∧ tmay p m n = true ∧ ttextL p a m b n = l := by
  unfold tupC
  constructor
  · intro h
    rcases cut1_cases 32 l with ⟨x, y, hs, hx, he⟩ | ⟨hx, he⟩
    · rw [he] at h
      simp only at h
      rcases cut1_cases 32 y with ⟨u, v, hs2, hu, he2⟩ | ⟨hu, he2⟩
      · rw [he2] at h
        obtain ⟨hm, rfl, ⟨g1, g2, g3⟩, ⟨g4, g5, g6⟩⟩ := (tupMid_iff _ _ _ _ _ _ _ _).1 h
        refine ⟨⟨g1, g2, g4, g5⟩, hm, ?_⟩
        unfold ttextL
        rw [if_pos hm, g3, g6, hs, hs2]
      · rw [he2] at h
        simp only at h
        rw [tupMid_nil] at h
        cases h
    · rw [he] at h
      simp only at h
      rw [show cut1 32 [] = (([] : List UInt8), [], false) from rfl] at h
      simp only at h
      rw [tupMid_nil] at h
      cases h
  · rintro ⟨⟨g1, g2, g3, g4⟩, hm, rfl⟩
    unfold ttextL
    rw [if_pos hm, cut1_app 32 _ _ (tw_no p)]
    simp only
    rw [cut1_app 32 _ _ (point_no a m 32 (by decide) (by decide) (by decide))]
    exact (tupMid_iff _ _ _ _ _ _ _ _).2 ⟨hm, rfl, ⟨g1, g2, rfl⟩, ⟨g3, g4, rfl⟩⟩
theorem tupC_eq (l : List UInt8) : tupC l = tupR l := by
  apply Option.ext
  rintro ⟨p, a, m, b, n⟩
  rw [tupC_iff, tupR_iff]
/-- What Parse tells. -/
def tupP (l : List UInt8) : Nat := ((tupR l).getD (0, 0, 0, 0, 0)).1
def tupA (l : List UInt8) : Nat := ((tupR l).getD (0, 0, 0, 0, 0)).2.1
def tupM (l : List UInt8) : Nat := ((tupR l).getD (0, 0, 0, 0, 0)).2.2.1
def tupB (l : List UInt8) : Nat := ((tupR l).getD (0, 0, 0, 0, 0)).2.2.2.1
def tupN (l : List UInt8) : Nat := ((tupR l).getD (0, 0, 0, 0, 0)).2.2.2.2
def tupE (l : List UInt8) : Int := if (tupR l).isSome then 0 else 3
theorem tup_some {l : List UInt8} {p a m b n : Nat} (h : tupR l = some (p, a, m, b, n)) : tupP l = p ∧ tupA l = a ∧ tupM l = m ∧ tupB l = b ∧ tupN l = n ∧ tupE l = 0 := by
  unfold tupP tupA tupM tupB tupN tupE
  rw [h]
  exact ⟨rfl, rfl, rfl, rfl, rfl, rfl⟩
theorem tup_none {l : List UInt8} (h : tupR l = none) : tupP l = 0 ∧ tupA l = 0 ∧ tupM l = 0 ∧ tupB l = 0 ∧ tupN l = 0 ∧ tupE l = 3 := by
  unfold tupP tupA tupM tupB tupN tupE
  rw [h]
  exact ⟨rfl, rfl, rfl, rfl, rfl, rfl⟩
theorem tup_cases (l : List UInt8) : (∃ p a m b n, tupR l = some (p, a, m, b, n) ∧ (a < 4294967296 ∧ m ≤ 65535 ∧ b < 4294967296 ∧ n ≤ 65535) ∧ tmay p m n = true ∧ ttextL p a m b n = l) ∨ tupR l = none := by
  cases h : tupR l with
  | none => exact .inr rfl
  | some t =>
    obtain ⟨p, a, m, b, n⟩ := t
    exact .inl ⟨p, a, m, b, n, rfl, (tupR_iff _ _ _ _ _ _).1 h⟩
/-- What is told is read. -/
theorem tup_back {p a m b n : Nat} (ha : a < 4294967296) (hm : m ≤ 65535) (hb : b < 4294967296) (hn : n ≤ 65535) (h : tmay p m n = true) : tupR (ttextL p a m b n) = some (p, a, m, b, n) := (tupR_iff _ _ _ _ _ _).2 ⟨⟨ha, hm, hb, hn⟩, h, rfl⟩
theorem tup_nil : tupR [] = none := by rfl
theorem ttext_inj {p a m b n p' a' m' b' n' : Nat} (ha : a < 4294967296) (hm : m ≤ 65535) (hb : b < 4294967296) (hn : n ≤ 65535) (h : tmay p m n = true) (ha' : a' < 4294967296) (hm' : m' ≤ 65535) (hb' : b' < 4294967296) (hn' : n' ≤ 65535) (h' : tmay p' m' n' = true) (e : ttextL p a m b n = ttextL p' a' m' b' n') : p = p' ∧ a = a' ∧ m = m' ∧ b = b' ∧ n = n' := by
  have h1 := tup_back ha hm hb hn h
  rw [e, tup_back ha' hm' hb' hn' h'] at h1
  injection h1 with h1
  injection h1 with h2 h1
  injection h1 with h3 h1
  injection h1 with h4 h1
  injection h1 with h5 h6
  exact ⟨h2.symm, h3.symm, h4.symm, h5.symm, h6.symm⟩
theorem ttext_len (p a m b n : Nat) (ha : a < 4294967296) (hb : b < 4294967296) (hm : m ≤ 65535) (hn : n ≤ 65535) : (ttextL p a m b n).length ≤ 1000000 := by
  have h1 := textL_len a ha
  have h2 := textL_len b hb
  have h3 := dec_len m
  have h4 := dec_len n
  have h5 : (twL p).length ≤ 4 := by
    unfold twL
    split
    · decide
    · split
      · decide
      · split <;> decide
  unfold ttextL pointL
  split
  · simp; omega
  · simp
end Go.Proofs.YtidkgnanfhdhdaaDoor

namespace Go.Proofs.YtidkgnanfhdhdaaDoor
set_option linter.unusedVariables false
set_option linter.unusedSimpArgs false
open Go.ChangeShapes Go.WideShapes Go.ChangeAt Go.RowKit Go.PlainAid
theorem pR_range (s : ByteArray) : 0 ≤ pR s ∧ pR s ≤ 5 := by
  unfold pR
  split
  · omega
  · split
    · omega
    · split
      · omega
      · split
        · omega
        · split <;> omega
theorem oR_range (pr : Int) (L : ByteArray) : oR pr L = 0 ∨ oR pr L = 6 ∨ oR pr L = 7 := by
  unfold oR
  repeat' split
  all_goals simp
theorem seenR_range (s : ByteArray) : 0 ≤ seenR s ∧ seenR s ≤ 7 := by
  have h := pR_range s
  have k := oR_range (bt s 9) (pP s)
  unfold seenR
  split <;> omega
theorem seen_ip {s : ByteArray} (h : seenR s = 0) : pR s = 0 ∧ oR (bt s 9) (pP s) = 0 := by
  unfold seenR at h
  split at h
  · rename_i e; exact ⟨e, h⟩
  · rename_i e; exact absurd h e
/-- What is seen may be. -/
theorem o_may {pr : Int} {L : ByteArray} (h : oR pr L = 0) : tmay pr (oM pr L) (oN pr L) = true ∧ 1 ≤ oK pr L ∧ oK pr L ≤ 3 := by
  unfold oR at h
  unfold tmay oM oN oK
  by_cases h6 : pr = 6
  · subst h6
    refine ⟨by simp, ?_⟩
    split
    · omega
    · split <;> omega
  · by_cases h17 : pr = 17
    · subst h17
      refine ⟨by simp, ?_⟩
      split
      · omega
      · split <;> omega
    · by_cases h1 : pr = 1
      · subst h1
        refine ⟨?_, ?_⟩
        · cases qAsk (bt L 0) (bt L 1) <;> simp
        · rw [if_pos rfl]; split <;> omega
      · rw [if_neg h6, if_neg h17, if_neg h1] at h
        omega
theorem ip_facts {s : ByteArray} (h : pR s = 0) : 20 ≤ s.size ∧ bt s 0 / 16 = 4 ∧ 20 ≤ ownN s ∧ ownN s ≤ s.size ∧ (ownN s : Int) ≤ g16 s 2 ∧ g16 s 2 ≤ (s.size : Int) ∧ g16 s 2 ≤ 2048 ∧ holdsV [s.extract 0 (ownN s)] = true ∧ (g16 s 6 = 0 ∨ g16 s 6 = 16384) := by
  unfold pR at h
  split at h
  · omega
  · split at h
    · omega
    · split at h
      · omega
      · split at h
        · omega
        · rename_i h1 h2 h3 h4
          split at h
          · omega
          · rename_i h5
            refine ⟨by omega, by omega, by omega, by omega, by omega, by omega, by omega, ?_, by omega⟩
            cases hh : holdsV [s.extract 0 (ownN s)] with
            | true => rfl
            | false => exact absurd hh h4
theorem ip_zero {s : ByteArray} (h1 : 20 ≤ s.size) (h2 : bt s 0 / 16 = 4) (h3 : 20 ≤ ownN s) (h4 : ownN s ≤ s.size) (h5 : (ownN s : Int) ≤ g16 s 2) (h6 : g16 s 2 ≤ (s.size : Int)) (h7 : g16 s 2 ≤ 2048) (h8 : holdsV [s.extract 0 (ownN s)] = true) (h9 : g16 s 6 = 0 ∨ g16 s 6 = 16384) : pR s = 0 := by
  unfold pR
  rw [if_neg (by omega), if_neg (by omega), if_neg (by omega), if_neg (by rw [h8]; decide), if_neg (by omega)]
/-- Nothing hangs on what stands behind a packet. -/
theorem ip_all {s : ByteArray} (h : pR s = 0) (m : Nat) (hm : g16 s 2 = (m : Int)) :
    m ≤ s.size ∧ 20 ≤ m ∧ pR (s.extract 0 m) = 0 ∧ bt (s.extract 0 m) 9 = bt s 9 ∧ bt (s.extract 0 m) 8 = bt s 8 ∧ g32 (s.extract 0 m) 12 = g32 s 12 ∧ g32 (s.extract 0 m) 16 = g32 s 16 ∧ pP (s.extract 0 m) = pP s := by
  obtain ⟨f1, f2, f3, f4, f5, f6, f7, f8, f9⟩ := ip_facts h
  have zm : m ≤ s.size := by omega
  have m20 : 20 ≤ m := by omega
  have zt : (s.extract 0 m).size = m := by rw [size_extract' s 0 m (Nat.zero_le _) zm]; omega
  have b0 : bt (s.extract 0 m) 0 = bt s 0 := bt_ext0 s m 0 (by omega) zm
  have on : ownN (s.extract 0 m) = ownN s := by unfold ownN; rw [b0]
  have g2 : g16 (s.extract 0 m) 2 = g16 s 2 := g16_ext0 s m 2 (by omega) zm
  have g6 : g16 (s.extract 0 m) 6 = g16 s 6 := g16_ext0 s m 6 (by omega) zm
  have hx : (s.extract 0 m).extract 0 (ownN s) = s.extract 0 (ownN s) := by
    rw [ByteArray.extract_extract, Nat.zero_add, Nat.zero_add, Nat.min_eq_left (by omega)]
  have hp : pR (s.extract 0 m) = 0 := by
    refine ip_zero (by omega) (by rw [b0]; exact f2) (by rw [on]; exact f3) (by rw [on, zt]; omega) (by rw [on, g2]; exact f5) (by rw [g2, zt]; omega) (by rw [g2]; exact f7) (by rw [on, hx]; exact f8) (by rw [g6]; exact f9)
  refine ⟨zm, m20, hp, bt_ext0 s m 9 (by omega) zm, bt_ext0 s m 8 (by omega) zm, ?_, ?_, ?_⟩
  · rw [g32_two, g32_two, g16_ext0 s m 12 (by omega) zm, g16_ext0 s m 14 (by omega) zm]
  · rw [g32_two, g32_two, g16_ext0 s m 16 (by omega) zm, g16_ext0 s m 18 (by omega) zm]
  · rw [(p_yes hp).2.2.2, (p_yes h).2.2.2, on, g2, hm, Int.toNat_natCast, ByteArray.extract_extract, Nat.zero_add, Nat.zero_add, Nat.min_eq_left (Nat.le_refl _)]
/-- What is cut off is no packet. -/
theorem ip_cut {s : ByteArray} (h : pR s = 0) (m k : Nat) (hm : g16 s 2 = (m : Int)) (hk : k < m) : ¬ pR (s.extract 0 k) = 0 := by
  obtain ⟨f1, f2, f3, f4, f5, f6, f7, f8, f9⟩ := ip_facts h
  intro hp
  obtain ⟨p1, p2, p3, p4, p5, p6, p7, p8, p9⟩ := ip_facts hp
  have zm : k ≤ s.size := by omega
  have zt : (s.extract 0 k).size = k := by rw [size_extract' s 0 k (Nat.zero_le _) zm]; omega
  have g2 : g16 (s.extract 0 k) 2 = g16 s 2 := g16_ext0 s k 2 (by omega) zm
  rw [g2, zt] at p6
  omega
theorem seen_of {s : ByteArray} (h : pR s = 0) (h2 : oR (bt s 9) (pP s) = 0) : seenR s = 0 := by unfold seenR; rw [if_pos h]; exact h2
end Go.Proofs.YtidkgnanfhdhdaaDoor
