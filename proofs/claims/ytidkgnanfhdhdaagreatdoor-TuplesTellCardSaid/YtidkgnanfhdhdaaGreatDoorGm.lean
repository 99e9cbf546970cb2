/- Texts of this proof, together: TupQ, TupP, TupT, TupS, TupZ. -/
import Derived.Test.YtidkgnanfhdhdaaGreatDoorGj
import Derived.Test.YtidkgnanfhdhdaaGreatDoorGk
import Derived.Test.YtidkgnanfhdhdaaGreatDoorGc
import Derived.Test.YtidkgnanfhdhdaaGreatDoorTcpQ
import Derived.Test.YtidkgnanfhdhdaaGreatDoorGd
import Derived.Test.YtidkgnanfhdhdaaGreatDoorGh
namespace Go.Proofs.YtidkgnanfhdhdaaGreatDoor
set_option linter.unusedVariables false
set_option linter.unusedSimpArgs false
open Go.ChangeShapes Go.WideShapes Go.ChangeAt Go.RowKit Go.PlainAid
/-- Of a protocol and what a packet carries: why nothing is seen; the ports; the kind; the flags; whether it asks. -/
def oR (pr : Int) (L : ByteArray) : Int := if pr = 6 then (if tOk L = true then 0 else 7) else if pr = 17 then (if uOk L = true then 0 else 7) else if pr = 1 then (if mOk L = true then (if (qIs (bt L 0) (bt L 1) || erM (bt L 0)) = true then 0 else 6) else 7) else 6
def oM (pr : Int) (L : ByteArray) : Int := if pr = 1 then (if qAsk (bt L 0) (bt L 1) = true then idM (mR L) else 0) else g16 L 0
def oN (pr : Int) (L : ByteArray) : Int := if pr = 1 then (if (qIs (bt L 0) (bt L 1) && !qAsk (bt L 0) (bt L 1)) = true then idM (mR L) else 0) else g16 L 2
def oK (pr : Int) (L : ByteArray) : Int := if pr = 1 then (if qIs (bt L 0) (bt L 1) = true then 2 else 3) else if pr = 6 ∧ bits .and .u8 (bt L 13) 23 = 2 then 1 else 2
def oF (pr : Int) (L : ByteArray) : Int := if pr = 6 then bt L 13 else 0
def oA (pr : Int) (L : ByteArray) : Bool := decide (pr = 1) && qAsk (bt L 0) (bt L 1)
def seenR (s : ByteArray) : Int := if pR s = 0 then oR (bt s 9) (pP s) else pR s
def sI (s : ByteArray) (v : Int) : Int := if seenR s = 0 then v else 0
def sB (s : ByteArray) (v : Bool) : Bool := if seenR s = 0 then v else false
theorem s_no {s : ByteArray} (h : ¬ seenR s = 0) : (∀ v, sI s v = 0) ∧ (∀ v, sB s v = false) := ⟨fun v => by unfold sI; rw [if_neg h], fun v => by unfold sB; rw [if_neg h]⟩
theorem s_yes {s : ByteArray} (h : seenR s = 0) : (∀ v, sI s v = v) ∧ (∀ v, sB s v = v) := ⟨fun v => by unfold sI; rw [if_pos h], fun v => by unfold sB; rw [if_pos h]⟩
theorem q_sub {ty co : Int} (h : qAsk ty co = true) : qIs ty co = true := by
  unfold qAsk at h
  unfold qIs
  simp only [Bool.and_eq_true, Bool.or_eq_true, decide_eq_true_eq] at h ⊢
  omega
end Go.Proofs.YtidkgnanfhdhdaaGreatDoor

namespace Go.Proofs.YtidkgnanfhdhdaaGreatDoor
set_option linter.unusedVariables false
set_option linter.unusedSimpArgs false
open Go.ChangeShapes Go.WideShapes Go.ChangeAt Go.RowKit Go.PlainAid
/-- A protocol's word; a tuple that may be (its protocol, its ports); which is less (protocol, addresses and ports). -/
def tword (pr : Int) : ByteArray := if pr = 1 then ⟨#[105, 99, 109, 112]⟩ else if pr = 6 then ⟨#[116, 99, 112]⟩ else if pr = 17 then ⟨#[117, 100, 112]⟩ else ⟨#[]⟩
def tmay (pr m n : Int) : Bool := decide (pr = 6) || decide (pr = 17) || (decide (pr = 1) && (decide (m = 0) || decide (n = 0)))
def tless (p q : Int) (a m b n c k d l : Nat) : Bool := if p = q then (if a = c ∧ m = k then lessV b n d l else lessV a m c k) else decide (p < q)
theorem tword_cases (pr : Int) : (pr = 1 ∧ tword pr = ⟨#[105, 99, 109, 112]⟩) ∨ (pr = 6 ∧ tword pr = ⟨#[116, 99, 112]⟩) ∨ (pr = 17 ∧ tword pr = ⟨#[117, 100, 112]⟩) ∨ (¬ pr = 1 ∧ ¬ pr = 6 ∧ ¬ pr = 17 ∧ tword pr = ⟨#[]⟩) := by
  unfold tword
  by_cases h1 : pr = 1
  · left; exact ⟨h1, if_pos h1⟩
  · by_cases h2 : pr = 6
    · right; left; exact ⟨h2, by rw [if_neg h1, if_pos h2]⟩
    · by_cases h3 : pr = 17
      · right; right; left; exact ⟨h3, by rw [if_neg h1, if_neg h2, if_pos h3]⟩
      · right; right; right; exact ⟨h1, h2, h3, by rw [if_neg h1, if_neg h2, if_neg h3]⟩
end Go.Proofs.YtidkgnanfhdhdaaGreatDoor

namespace Go.Proofs.YtidkgnanfhdhdaaGreatDoor
set_option linter.unusedVariables false
set_option linter.unusedSimpArgs false
open Go.ChangeShapes Go.WideShapes Go.ChangeAt Go.RowKit Go.PlainAid
/-- A protocol's word; the protocol of a word. -/
def twL (p : Nat) : List UInt8 := if p = 1 then [105, 99, 109, 112] else if p = 6 then [116, 99, 112] else if p = 17 then [117, 100, 112] else []
def tprot (l : List UInt8) : Option Nat := if l = [105, 99, 109, 112] then some 1 else if l = [116, 99, 112] then some 6 else if l = [117, 100, 112] then some 17 else none
theorem tword_str (p : Nat) : tword (p : Int) = str (twL p) := by
  unfold tword twL
  by_cases h1 : p = 1
  · subst h1; rfl
  · by_cases h2 : p = 6
    · subst h2; rfl
    · by_cases h3 : p = 17
      · subst h3; rfl
      · rw [if_neg (by omega), if_neg (by omega), if_neg (by omega), if_neg h1, if_neg h2, if_neg h3]; rfl
theorem tprot_iff (l : List UInt8) (p : Nat) : tprot l = some p ↔ (p = 1 ∨ p = 6 ∨ p = 17) ∧ l = twL p := by
  unfold tprot
  constructor
  · intro h
    split at h
    · injection h with h; subst h; rename_i e; exact ⟨.inl rfl, e⟩
    · split at h
      · injection h with h; subst h; rename_i e; exact ⟨.inr (.inl rfl), e⟩
      · split at h
        · injection h with h; subst h; rename_i e; exact ⟨.inr (.inr rfl), e⟩
        · cases h
  · rintro ⟨rfl | rfl | rfl, rfl⟩ <;> rfl
theorem tmay_three {p m n : Nat} (h : tmay p m n = true) : p = 1 ∨ p = 6 ∨ p = 17 := by
  unfold tmay at h
  simp only [Bool.or_eq_true, Bool.and_eq_true, decide_eq_true_eq] at h
  omega
/-- A tuple's text. -/
def ttextL (p a m b n : Nat) : List UInt8 := if tmay p m n then twL p ++ 32 :: (pointL a m ++ 32 :: pointL b n) else []
/-- The tuple that may be of a word and two endpoints' texts. -/
def tupMid (name src dst : List UInt8) : Option (Nat × Nat × Nat × Nat × Nat) := match tprot name, pointV src, pointV dst with
  | some p, some (a, m), some (b, n) => if tmay p m n then some (p, a, m, b, n) else none
  | _, _, _ => none
theorem pointV_iff (s : List UInt8) (a n : Nat) : pointV s = some (a, n) ↔ a < 4294967296 ∧ n ≤ 65535 ∧ pointL a n = s := pairV_iff 65535 58 s a n (by decide) (by decide)
theorem tupMid_iff (x s d : List UInt8) (p a m b n : Nat) : tupMid x s d = some (p, a, m, b, n) ↔ tmay p m n = true ∧ x = twL p ∧ (a < 4294967296 ∧ m ≤ 65535 ∧ pointL a m = s) ∧ (b < 4294967296 ∧ n ≤ 65535 ∧ pointL b n = d) := by
  unfold tupMid
  rw [← pointV_iff, ← pointV_iff]
  constructor
  · intro h
    split at h
    · rename_i p' a' m' b' n' h1 h2 h3
      split at h
      · rename_i hm
        injection h with h
        injection h with h4 h
        injection h with h5 h
        injection h with h6 h
        injection h with h7 h8
        subst h4; subst h5; subst h6; subst h7; subst h8
        exact ⟨hm, ((tprot_iff _ _).1 h1).2, h2, h3⟩
      · cases h
    · cases h
  · rintro ⟨hm, hx, h2, h3⟩
    rw [(tprot_iff x p).2 ⟨tmay_three hm, hx⟩, h2, h3]
    simp only
    rw [if_pos hm]
/-- As the document reads them: the last blank first. -/
def tupR (l : List UInt8) : Option (Nat × Nat × Nat × Nat × Nat) :=
  if (cutZ 32 l).2.2 = false then none else if (cutZ 32 (cutZ 32 l).1).2.2 = false then none else tupMid (cutZ 32 (cutZ 32 l).1).1 (cutZ 32 (cutZ 32 l).1).2.1 (cutZ 32 l).2.1
/-- The first blank first. -/
def tupC (l : List UInt8) : Option (Nat × Nat × Nat × Nat × Nat) := tupMid (cut1 32 l).1 (cut1 32 (cut1 32 l).2.1).1 (cut1 32 (cut1 32 l).2.1).2.1
theorem point_no (a n : Nat) (c : UInt8) (h1 : isDig c = false) (h2 : c ≠ 46) (h3 : c ≠ 58) : c ∉ pointL a n := by
  unfold pointL
  intro h
  rcases List.mem_append.1 h with h | h
  · exact text_no a c h1 h2 h
  · rcases List.mem_cons.1 h with h | h
    · exact h3 h
    · exact dec_no n c h1 h
theorem tw_no (p : Nat) : (32 : UInt8) ∉ twL p := by
  unfold twL
  split
  · decide
  · split
    · decide
    · split <;> decide
theorem pointV_nil : pointV [] = none := by rfl
theorem tupMid_nil (x s : List UInt8) : tupMid x s [] = none := by
  unfold tupMid
  rw [pointV_nil]
  split
  · rename_i h; cases h
  · rfl
theorem tupR_iff (l : List UInt8) (p a m b n : Nat) : tupR l = some (p, a, m, b, n) ↔ (a < 4294967296 ∧ m ≤ 65535 ∧ b < 4294967296 ∧ n ≤ 65535) ∧ tmay p m n = true ∧ ttextL p a m b n = l := by
  unfold tupR
  constructor
  · intro h
    rcases cutZ_cases 32 l with ⟨x, y, hs, hx, he⟩ | ⟨hx, he⟩
    · rw [he] at h
      simp only at h
      rw [if_neg (by decide)] at h
      rcases cutZ_cases 32 x with ⟨u, v, hs2, hu, he2⟩ | ⟨hu, he2⟩
      · rw [he2] at h
        simp only at h
        rw [if_neg (by decide)] at h
        obtain ⟨hm, rfl, ⟨g1, g2, g3⟩, ⟨g4, g5, g6⟩⟩ := (tupMid_iff _ _ _ _ _ _ _ _).1 h
        refine ⟨⟨g1, g2, g4, g5⟩, hm, ?_⟩
        unfold ttextL
        rw [if_pos hm, g3, g6, hs, hs2, List.append_assoc]
        rfl
      · rw [he2] at h
        simp at h
    · rw [he] at h
      simp at h
  · rintro ⟨⟨g1, g2, g3, g4⟩, hm, rfl⟩
    unfold ttextL
    rw [if_pos hm]
    have e : twL p ++ 32 :: (pointL a m ++ 32 :: pointL b n) = (twL p ++ 32 :: pointL a m) ++ 32 :: pointL b n := by simp
    rw [e, cutZ_app 32 _ _ (point_no b n 32 (by decide) (by decide) (by decide))]
    simp only
    rw [if_neg (by decide), cutZ_app 32 _ _ (point_no a m 32 (by decide) (by decide) (by decide))]
    simp only
    rw [if_neg (by decide)]
    exact (tupMid_iff _ _ _ _ _ _ _ _).2 ⟨hm, rfl, ⟨g1, g2, rfl⟩, ⟨g3, g4, rfl⟩⟩
theorem tupC_iff (l : List UInt8) (p a m b n : Nat) : tupC l = some (p, a, m, b, n) ↔ (a < 4294967296 ∧ m ≤ 65535 ∧ b < 4294967296 ∧ n ≤ 65535) ∧ tmay p m n = true ∧ ttextL p a m b n = l := by
  unfold tupC
  constructor
  · intro h
    rcases cut1_cases 32 l with ⟨x, y, hs, hx, he⟩ | ⟨hx, he⟩
    · rw [he] at h
      simp only at h
      rcases cut1_cases 32 y with ⟨u, v, hs2, hu, he2⟩ | ⟨hu, he2⟩
      · rw [he2] at h
        obtain ⟨hm, rfl, ⟨g1, g2, g3⟩, ⟨g4, g5, g6⟩⟩ := (tupMid_iff _ _ _ _ _ _ _ _).1 h
        refine ⟨⟨g1, g2, g4, g5⟩, hm, ?_⟩
        unfold ttextL
        rw [if_pos hm, g3, g6, hs, hs2]
      · rw [he2] at h
        simp only at h
        rw [tupMid_nil] at h
        cases h
    · rw [he] at h
      simp only at h
      rw [show cut1 32 [] = (([] : List UInt8), [], false) from rfl] at h
      simp only at h
      rw [tupMid_nil] at h
      cases h
  · rintro ⟨⟨g1, g2, g3, g4⟩, hm, rfl⟩
    unfold ttextL
    rw [if_pos hm, cut1_app 32 _ _ (tw_no p)]
    simp only
    rw [cut1_app 32 _ _ (point_no a m 32 (by decide) (by decide) (by decide))]
    exact (tupMid_iff _ _ _ _ _ _ _ _).2 ⟨hm, rfl, ⟨g1, g2, rfl⟩, ⟨g3, g4, rfl⟩⟩
theorem tupC_eq (l : List UInt8) : tupC l = tupR l := by
  apply Option.ext
  rintro ⟨p, a, m, b, n⟩
  rw [tupC_iff, tupR_iff]
/-- What Parse tells. -/
def tupP (l : List UInt8) : Nat := ((tupR l).getD (0, 0, 0, 0, 0)).1
def tupA (l : List UInt8) : Nat := ((tupR l).getD (0, 0, 0, 0, 0)).2.1
def tupM (l : List UInt8) : Nat := ((tupR l).getD (0, 0, 0, 0, 0)).2.2.1
def tupB (l : List UInt8) : Nat := ((tupR l).getD (0, 0, 0, 0, 0)).2.2.2.1
def tupN (l : List UInt8) : Nat := ((tupR l).getD (0, 0, 0, 0, 0)).2.2.2.2
def tupE (l : List UInt8) : Int := if (tupR l).isSome then 0 else 3
theorem tup_some {l : List UInt8} {p a m b n : Nat} (h : tupR l = some (p, a, m, b, n)) : tupP l = p ∧ tupA l = a ∧ tupM l = m ∧ tupB l = b ∧ tupN l = n ∧ tupE l = 0 := by
  unfold tupP tupA tupM tupB tupN tupE
  rw [h]
  exact ⟨rfl, rfl, rfl, rfl, rfl, rfl⟩
theorem tup_none {l : List UInt8} (h : tupR l = none) : tupP l = 0 ∧ tupA l = 0 ∧ tupM l = 0 ∧ tupB l = 0 ∧ tupN l = 0 ∧ tupE l = 3 := by
  unfold tupP tupA tupM tupB tupN tupE
  rw [h]
  exact ⟨rfl, rfl, rfl, rfl, rfl, rfl⟩
end Go.Proofs.YtidkgnanfhdhdaaGreatDoor

namespace Go.Proofs.YtidkgnanfhdhdaaGreatDoor
set_option linter.unusedVariables false
set_option linter.unusedSimpArgs false
open Go.ChangeShapes Go.WideShapes Go.ChangeAt Go.RowKit Go.PlainAid
/-- What was put is parsed, whatever stands behind it. -/
theorem ip_put (a id : Int) (fl : Bool) (tt pr sr ds : Int) (o p q : ByteArray) (a0 : 0 ≤ a) (a1 : a ≤ 255) (i0 : 0 ≤ id) (i1 : id ≤ 65535) (t0 : 0 ≤ tt) (t1 : tt ≤ 255) (p0 : 0 ≤ pr) (p1 : pr ≤ 255)
    (s0 : 0 ≤ sr) (s1 : sr ≤ 4294967295) (d0 : 0 ≤ ds) (d1 : ds ≤ 4294967295) (hE : putE o.size p.size = 0) :
    pR (putB a id fl tt pr sr ds o p ++ q) = 0 ∧ bt (putB a id fl tt pr sr ds o p ++ q) 8 = tt ∧ bt (putB a id fl tt pr sr ds o p ++ q) 9 = pr ∧ g32 (putB a id fl tt pr sr ds o p ++ q) 12 = sr ∧ g32 (putB a id fl tt pr sr ds o p ++ q) 16 = ds ∧ pP (putB a id fl tt pr sr ds o p ++ q) = p := by
  have hh : o.size ≤ 40 ∧ o.size % 4 = 0 ∧ o.size + p.size ≤ 2028 := by
    unfold putE at hE
    split at hE
    · omega
    · split at hE
      · omega
      · omega
  have e : putB a id fl tt pr sr ds o p ++ q = hdrS a id fl tt pr sr ds o (20 + (o.size : Int) + (p.size : Int)) ++ (p ++ q) := by unfold putB; rw [if_pos hE, ByteArray.append_assoc]
  rw [e]
  have k := parse_put a id fl tt pr sr ds o p q a0 a1 i0 i1 t0 t1 p0 p1 s0 s1 d0 d1 hh.1 hh.2.1 hh.2.2
  simp only at k
  generalize hdrS a id fl tt pr sr ds o (20 + (o.size : Int) + (p.size : Int)) ++ (p ++ q) = t at k ⊢
  obtain ⟨k1, k2, k3, k4, k5, k6, k7, k8, k9, k10, k11, k12⟩ := k
  refine ⟨k3, k7, k8, k9, k10, ?_⟩
  rw [(p_yes k3).2.2.2, k2, Int.toNat_natCast]
  exact k12
theorem seen_of {s : ByteArray} (h : pR s = 0) (h2 : oR (bt s 9) (pP s) = 0) : seenR s = 0 := by unfold seenR; rw [if_pos h]; exact h2
/-- What is carried, as it was put: of TCP, of UDP, of ICMP. -/
theorem o_tcp (sp dp sq ak lo fl wi su ur : Int) (o p : ByteArray) (a0 : 0 ≤ sp) (a1 : sp ≤ 65535) (b0 : 0 ≤ dp) (b1 : dp ≤ 65535) (c0 : 0 ≤ sq) (c1 : sq ≤ 4294967295) (d0 : 0 ≤ ak) (d1 : ak ≤ 4294967295) (e0 : 0 ≤ lo) (f0 : 0 ≤ fl) (f1 : fl ≤ 255)
    (g0 : 0 ≤ wi) (g1 : wi ≤ 65535) (h0 : 0 ≤ su) (h1 : su ≤ 65535) (i0 : 0 ≤ ur) (i1 : ur ≤ 65535) (hE : tE o.size lo = 0) :
    let L := tcpB sp dp sq ak lo fl wi su ur o p
    oR 6 L = 0 ∧ oM 6 L = sp ∧ oN 6 L = dp ∧ oK 6 L = (if bits .and .u8 fl 23 = 2 then 1 else 2) ∧ oF 6 L = fl ∧ oA 6 L = false := by
  intro L
  have hh : o.size ≤ 40 ∧ o.size % 4 = 0 ∧ lo ≤ 15 := by
    unfold tE at hE
    split at hE
    · omega
    · omega
  have k := parse_put6 sp dp sq ak lo fl wi su ur o p a0 a1 b0 b1 c0 c1 d0 d1 e0 hh.2.2 f0 f1 g0 g1 h0 h1 i0 i1 hh.1 hh.2.1
  simp only at k
  obtain ⟨_, k1, k2, k3, _, _, _, k4, _⟩ := k
  unfold oR oM oN oK oF oA
  refine ⟨by simp [L, k1], by simp [L, k2], by simp [L, k3], ?_, by simp [L, k4], by simp⟩
  rw [if_neg (by decide)]
  show (if 6 = 6 ∧ bits .and .u8 (bt (tcpB sp dp sq ak lo fl wi su ur o p) 13) 23 = 2 then (1 : Int) else 2) = _
  rw [k4]
  simp
theorem udp_parts (a b c : Int) (p : ByteArray) (a0 : 0 ≤ a) (a1 : a ≤ 65535) (b0 : 0 ≤ b) (b1 : b ≤ 65535) (c0 : 0 ≤ c) (c1 : c ≤ 65535) (hp : p.size ≤ 60000) :
    (udpB a b c p).size = 8 + p.size ∧ uOk (udpB a b c p) = true ∧ g16 (udpB a b c p) 0 = a ∧ g16 (udpB a b c p) 2 = b := by
  have hw : ∀ n ∈ [a, b, (8 + (p.size : Int)) % 65536, c], 0 ≤ n ∧ n ≤ 65535 := by intro n hn; simp at hn; omega
  have g0 := g16_W _ hw 0
  have g1 := g16_W _ hw 1
  have g2 := g16_W _ hw 2
  have zH : (strOfNums (wordL [a, b, (8 + (p.size : Int)) % 65536, c])).size = 8 := by rw [size_W]; rfl
  have zz : (udpB a b c p).size = 8 + p.size := by unfold udpB; rw [ByteArray.size_append, zH]
  have k : ∀ i, i < 4 → g16 (udpB a b c p) (2 * i) = g16 (strOfNums (wordL [a, b, (8 + (p.size : Int)) % 65536, c])) (2 * i) := fun i hi => by
    unfold udpB; exact g16_app_l _ _ _ (by rw [zH]; omega)
  have k0 := k 0 (by omega)
  have k1 := k 1 (by omega)
  have k2 := k 2 (by omega)
  rw [g0] at k0
  rw [g1] at k1
  rw [g2] at k2
  have e0 : g16 (udpB a b c p) 0 = a := k0
  have e1 : g16 (udpB a b c p) 2 = b := k1
  have e2 : g16 (udpB a b c p) 4 = (8 + (p.size : Int)) % 65536 := k2
  refine ⟨zz, ?_, e0, e1⟩
  unfold uOk
  rw [e2, zz]
  simp
  omega
theorem o_udp (a b c : Int) (p : ByteArray) (a0 : 0 ≤ a) (a1 : a ≤ 65535) (b0 : 0 ≤ b) (b1 : b ≤ 65535) (c0 : 0 ≤ c) (c1 : c ≤ 65535) (hp : p.size ≤ 60000) :
    oR 17 (udpB a b c p) = 0 ∧ oM 17 (udpB a b c p) = a ∧ oN 17 (udpB a b c p) = b ∧ oK 17 (udpB a b c p) = 2 ∧ oF 17 (udpB a b c p) = 0 ∧ oA 17 (udpB a b c p) = false := by
  obtain ⟨_, k1, k2, k3⟩ := udp_parts a b c p a0 a1 b0 b1 c0 c1 hp
  unfold oR oM oN oK oF oA
  exact ⟨by simp [k1], by simp [k2], by simp [k3], by simp, by simp, by simp⟩
theorem o_icmp (ty su : Int) (r d : ByteArray) (h : ty = 0 ∨ ty = 8 ∨ ty = 13 ∨ ty = 14) (s0 : 0 ≤ su) (s1 : su ≤ 65535) (hr : r.size = 4) :
    let L := icP ty 0 su r d
    let told := decide (ty = 0 ∨ ty = 14)
    oR 1 L = 0 ∧ oM 1 L = (if told then 0 else idM r) ∧ oN 1 L = (if told then idM r else 0) ∧ oK 1 L = 2 ∧ oF 1 L = 0 ∧ oA 1 L = !told := by
  intro L told
  have hL : L = icB ty 0 su r d := icP_yes ty 0 su r d hr
  obtain ⟨z, k0, k1, _, k2, _⟩ := icB_parts ty 0 su r d (by omega) (by omega) (by omega) (by omega) s0 s1 hr
  rw [← hL] at z k0 k1 k2
  have hk : mOk L = true := by unfold mOk; simp; omega
  have hR : mR L = r := by rw [(mOk_yes hk).2.2.1]; exact k2
  have ha : qAsk ty 0 = !told := by
    simp only [told]
    unfold qAsk
    rcases h with rfl | rfl | rfl | rfl <;> decide
  have hi : qIs ty 0 = true := by
    unfold qIs
    rcases h with rfl | rfl | rfl | rfl <;> decide
  unfold oR oM oN oK oF oA
  rw [hk, k0, k1, hR, ha, hi]
  cases told <;> simp
end Go.Proofs.YtidkgnanfhdhdaaGreatDoor

namespace Go.Proofs.YtidkgnanfhdhdaaGreatDoor
set_option linter.unusedVariables false
set_option linter.unusedSimpArgs false
open Go.ChangeShapes Go.WideShapes Go.ChangeAt Go.RowKit Go.PlainAid
theorem seen_put (h0 h1 : Int) (h2 : Bool) (h3 p a b : Int) (h7 L q : ByteArray) (a0 : 0 ≤ h0) (a1 : h0 ≤ 255) (i0 : 0 ≤ h1) (i1 : h1 ≤ 65535) (t0 : 0 ≤ h3) (t1 : h3 ≤ 255) (p0 : 0 ≤ p) (p1 : p ≤ 255)
    (s0 : 0 ≤ a) (s1 : a ≤ 4294967295) (d0 : 0 ≤ b) (d1 : b ≤ 4294967295) (hE : putE h7.size L.size = 0) (hO : oR p L = 0) :
    let s := putB h0 h1 h2 h3 p a b h7 L ++ q
    seenR s = 0 ∧ sI s (bt s 9) = p ∧ sI s (g32 s 12) = a ∧ sI s (oM (bt s 9) (pP s)) = oM p L ∧ sI s (g32 s 16) = b ∧ sI s (oN (bt s 9) (pP s)) = oN p L ∧ sI s (oK (bt s 9) (pP s)) = oK p L ∧ sI s (oF (bt s 9) (pP s)) = oF p L ∧ sB s (oA (bt s 9) (pP s)) = oA p L ∧ sI s (bt s 8) = h3 := by
  intro s
  obtain ⟨k1, k2, k3, k4, k5, k6⟩ := ip_put h0 h1 h2 h3 p a b h7 L q a0 a1 i0 i1 t0 t1 p0 p1 s0 s1 d0 d1 hE
  have hR : seenR s = 0 := seen_of k1 (by show oR (bt (putB h0 h1 h2 h3 p a b h7 L ++ q) 9) (pP (putB h0 h1 h2 h3 p a b h7 L ++ q)) = 0; rw [k3, k6]; exact hO)
  obtain ⟨y1, y2⟩ := s_yes hR
  refine ⟨hR, ?_⟩
  rw [y1, y1, y1, y1, y1, y1, y1, y1, y2]
  show bt (putB h0 h1 h2 h3 p a b h7 L ++ q) 9 = p ∧ g32 (putB h0 h1 h2 h3 p a b h7 L ++ q) 12 = a ∧ oM (bt (putB h0 h1 h2 h3 p a b h7 L ++ q) 9) (pP (putB h0 h1 h2 h3 p a b h7 L ++ q)) = oM p L ∧ g32 (putB h0 h1 h2 h3 p a b h7 L ++ q) 16 = b ∧ oN (bt (putB h0 h1 h2 h3 p a b h7 L ++ q) 9) (pP (putB h0 h1 h2 h3 p a b h7 L ++ q)) = oN p L ∧ oK (bt (putB h0 h1 h2 h3 p a b h7 L ++ q) 9) (pP (putB h0 h1 h2 h3 p a b h7 L ++ q)) = oK p L ∧ oF (bt (putB h0 h1 h2 h3 p a b h7 L ++ q) 9) (pP (putB h0 h1 h2 h3 p a b h7 L ++ q)) = oF p L ∧ oA (bt (putB h0 h1 h2 h3 p a b h7 L ++ q) 9) (pP (putB h0 h1 h2 h3 p a b h7 L ++ q)) = oA p L ∧ bt (putB h0 h1 h2 h3 p a b h7 L ++ q) 8 = h3
  rw [k2, k3, k4, k5, k6]
  exact ⟨rfl, rfl, rfl, rfl, rfl, rfl, rfl, rfl, rfl⟩
theorem flags_nat : ∀ x, x < 256 → (decide (0 < x &&& 2) && decide (x &&& 21 = 0)) = decide (x &&& 23 = 2) := by decide +kernel
theorem flags_ (fl : Int) (f0 : 0 ≤ fl) (f1 : fl ≤ 255) : (decide (0 < bits .and .u8 fl 2) && (bits .and .u8 fl 21 == 0)) = decide (bits .and .u8 fl 23 = 2) := by
  obtain ⟨x, rfl⟩ : ∃ x : Nat, fl = (x : Int) := ⟨fl.toNat, by omega⟩
  have h := flags_nat x (by omega)
  rw [u8_and _ _ (by omega) (by omega) (by omega) (by omega), u8_and _ _ (by omega) (by omega) (by omega) (by omega), u8_and _ _ (by omega) (by omega) (by omega) (by omega)]
  simp only [Int.toNat_natCast]
  rw [show ((2 : Int)).toNat = 2 from rfl, show ((21 : Int)).toNat = 21 from rfl, show ((23 : Int)).toNat = 23 from rfl]
  have e1 : decide (0 < ((x &&& 2 : Nat) : Int)) = decide (0 < x &&& 2) := by simp
  have e2 : (((x &&& 21 : Nat) : Int) == 0) = decide (x &&& 21 = 0) := by
    by_cases g : x &&& 21 = 0
    · rw [g]; rfl
    · rw [decide_eq_false g]
      have : ¬ ((x &&& 21 : Nat) : Int) = 0 := by omega
      simpa using this
  have e3 : decide (((x &&& 23 : Nat) : Int) = 2) = decide (x &&& 23 = 2) := by
    by_cases g : x &&& 23 = 2
    · rw [g]; rfl
    · rw [decide_eq_false g, decide_eq_false (by omega)]
  rw [e1, e2, e3, h]
theorem or_l (n : Int) (h0 : 0 ≤ n) (h1 : n ≤ 65535) : bits .or .u16 0 n = n := by
  rw [u16_or _ _ (by omega) (by omega) h0 (by omega)]
  simp; omega
theorem or_r (n : Int) (h0 : 0 ≤ n) (h1 : n ≤ 65535) : bits .or .u16 n 0 = n := by
  rw [u16_or _ _ h0 (by omega) (by omega) (by omega)]
  simp; omega
/-- Types of queries, by a number. -/
def tyV (r : Int) : Int := if r = 0 then 0 else if r = 1 then 8 else if r = 2 then 13 else 14
theorem tyV_in (r : Int) : tyV r = 0 ∨ tyV r = 8 ∨ tyV r = 13 ∨ tyV r = 14 := by
  unfold tyV
  split
  · simp
  · split
    · simp
    · split <;> simp
end Go.Proofs.YtidkgnanfhdhdaaGreatDoor
