/- Texts of this proof, together: RulP, RulW, RulX. -/
import Derived.Test.YtoogegpkgohffaaTe
import Derived.IntWalk
namespace Go.Proofs.Ytoogegpkgohffaa
set_option linter.unusedVariables false
set_option linter.unusedSimpArgs false
/-- A rule: Kind, Proto, Src (IP, Bits), Dst (IP, Bits), Ext, From, To, In (IP, Port). -/
structure Ru where
  k : Int
  pr : Int
  si : Nat
  sb : Int
  di : Nat
  db : Int
  ex : Nat
  fr : Int
  to : Int
  ii : Nat
  ip : Int
structure Ru.Ok (r : Ru) : Prop where
  k0 : -9223372036854775808 ≤ r.k
  k1 : r.k ≤ 9223372036854775807
  p0 : 0 ≤ r.pr
  p1 : r.pr ≤ 255
  si1 : r.si < 4294967296
  sb0 : -9223372036854775808 ≤ r.sb
  sb1 : r.sb ≤ 9223372036854775807
  di1 : r.di < 4294967296
  db0 : -9223372036854775808 ≤ r.db
  db1 : r.db ≤ 9223372036854775807
  ex1 : r.ex < 4294967296
  f0 : 0 ≤ r.fr
  f1 : r.fr ≤ 65535
  t0 : 0 ≤ r.to
  t1 : r.to ≤ 65535
  ii1 : r.ii < 4294967296
  ip0 : 0 ≤ r.ip
  ip1 : r.ip ≤ 65535
def Ru.zero : Ru := ⟨0, 0, 0, 0, 0, 0, 0, 0, 0, 0, 0⟩
/-- A table: its own outer address, the inner prefix, its rules. -/
structure Tm where
  own : Nat
  ip : Nat
  bits : Int
  rs : List Ru
structure Tm.Ok (t : Tm) : Prop where
  own1 : t.own < 4294967296
  ip1 : t.ip < 4294967296
  b0 : -9223372036854775808 ≤ t.bits
  b1 : t.bits ≤ 9223372036854775807
  few : t.rs.length ≤ 32
  all : ∀ r ∈ t.rs, r.Ok
def innerB (t : Tm) (a : Nat) : Bool := hasV t.ip t.bits a
def mayRu (t : Tm) (r : Ru) : Bool :=
  if r.k = 3 then (decide (r.pr = 6) || decide (r.pr = 17)) && (decide (r.si = 0) && decide (r.sb = 0)) && (decide (r.di = 0) && decide (r.db = 0)) && !innerB t r.ex && !decide (r.fr = 0) && decide (r.fr = r.to) && innerB t r.ii && !decide (r.ip = 0)
  else if r.k = 1 ∨ r.k = 2 then (decide (r.pr = 0) || decide (r.pr = 1) || decide (r.pr = 6) || decide (r.pr = 17)) && (if r.k = 1 then !innerB t r.ex else decide (r.ex = 0)) && mayV r.si r.sb && mayV r.di r.db && decide (1 ≤ r.fr) && decide (r.fr ≤ r.to) && (decide (r.ii = 0) && decide (r.ip = 0))
  else false
def extRu (t : Tm) (r : Ru) : Nat := if r.k = 2 then t.own else r.ex
/-- A static rule, and one that is none. -/
def clash1 (t : Tm) (a b : Ru) : Bool := (decide (b.pr = 0) || decide (b.pr = a.pr)) && decide (extRu t b = a.ex) && decide (b.fr ≤ a.fr) && decide (a.fr ≤ b.to)
def clashRu (t : Tm) (a b : Ru) : Bool :=
  if a.k = 3 then (if b.k = 3 then decide (a.pr = b.pr) && ((decide (a.ex = b.ex) && decide (a.fr = b.fr)) || (decide (a.ii = b.ii) && decide (a.ip = b.ip))) else clash1 t a b)
  else if b.k = 3 then clash1 t b a else false
def ruCheckE (t : Tm) (r : Ru) : Int := if mayRu t r = true then 0 else 2
def ruAddE (t : Tm) (i : Int) (r : Ru) : Int :=
  if mayRu t r = false ∨ i < 0 ∨ (t.rs.length : Int) < i then 2 else if 31 < t.rs.length then 5 else if t.rs.any (fun o => clashRu t o r) = true then 11 else 0
def ruAddT (t : Tm) (i : Int) (r : Ru) : Tm := if ruAddE t i r = 0 then { t with rs := t.rs.take i.toNat ++ r :: t.rs.drop i.toNat } else t
def ruDelE (t : Tm) (i : Int) : Int := if i < 0 ∨ (t.rs.length : Int) ≤ i then 2 else 0
def ruDelT (t : Tm) (i : Int) : Tm := if ruDelE t i = 0 then { t with rs := t.rs.take i.toNat ++ t.rs.drop (i.toNat + 1) } else t
/-- The first rule that fits; a zero one. -/
def findRu (l : List Ru) (f : Ru → Bool) : Ru := (l.find? f).getD Ru.zero
def hitRu (l : List Ru) (f : Ru → Bool) : Bool := l.any f
def fitS (pr : Int) (a : Nat) (p : Int) (r : Ru) : Bool := decide (r.k = 3) && decide (r.pr = pr) && decide (r.ex = a) && decide (r.fr = p)
def fitO (pr : Int) (a : Nat) (p : Int) (r : Ru) : Bool := decide (r.k = 3) && decide (r.pr = pr) && (decide (r.ii = a) && decide (r.ip = p))
def fitF (pr : Int) (a b : Nat) (r : Ru) : Bool := !decide (r.k = 3) && (decide (r.pr = 0) || decide (r.pr = pr)) && hasV r.si r.sb a && hasV r.di r.db b
def srcRu (t : Tm) (pr : Int) (a b : Nat) : Ru := if hitRu t.rs (fitF pr a b) = true then { findRu t.rs (fitF pr a b) with ex := extRu t (findRu t.rs (fitF pr a b)) } else Ru.zero
def outerB (t : Tm) (a : Nat) : Bool := decide (t.own = a) || t.rs.any (fun r => decide (extRu t r = a))
def ruNewE (a ip : Nat) (bits : Int) : Int := if mayV ip bits = false ∨ hasV ip bits a = true then 2 else 0
theorem clash_symm (t : Tm) (a b : Ru) : clashRu t a b = clashRu t b a := by
  unfold clashRu
  by_cases ha : a.k = 3 <;> by_cases hb : b.k = 3
  · rw [if_pos ha, if_pos hb, if_pos hb, if_pos ha]
    rw [decide_eq_decide.2 (eq_comm (a := a.pr) (b := b.pr)), decide_eq_decide.2 (eq_comm (a := a.ex) (b := b.ex)), decide_eq_decide.2 (eq_comm (a := a.fr) (b := b.fr)), decide_eq_decide.2 (eq_comm (a := a.ii) (b := b.ii)), decide_eq_decide.2 (eq_comm (a := a.ip) (b := b.ip))]
  · rw [if_pos ha, if_neg hb, if_neg hb, if_pos ha]
  · rw [if_neg ha, if_pos hb, if_pos hb, if_neg ha]
  · rw [if_neg ha, if_neg hb, if_neg hb, if_neg ha]
theorem may_rs (t : Tm) (l : List Ru) (r : Ru) : mayRu { t with rs := l } r = mayRu t r := rfl
/-- All rules may be, and no two clash. -/
structure Tm.Sound (t : Tm) : Prop where
  may : ∀ r ∈ t.rs, mayRu t r = true
  apart : t.rs.Pairwise (fun a b => clashRu t a b = false)
theorem Tm.Sound.none (o ip : Nat) (b : Int) : Tm.Sound ⟨o, ip, b, []⟩ := ⟨by simp, List.Pairwise.nil⟩
theorem Tm.Sound.add {t : Tm} (h : t.Sound) (i : Int) (r : Ru) : (ruAddT t i r).Sound := by
  unfold ruAddT
  split
  · rename_i e
    have hm : mayRu t r = true := by
      unfold ruAddE at e
      split at e
      · omega
      · rename_i k
        cases hm : mayRu t r with
        | true => rfl
        | false => exact absurd (.inl hm) k
    have hc : ∀ o ∈ t.rs, clashRu t o r = false := by
      unfold ruAddE at e
      split at e
      · omega
      · split at e
        · omega
        · split at e
          · omega
          · rename_i _ _ k
            intro o ho
            cases hx : clashRu t o r with
            | false => rfl
            | true => exact absurd (List.any_eq_true.2 ⟨o, ho, hx⟩) k
    refine ⟨fun x hx => ?_, ?_⟩
    · simp only [List.mem_append, List.mem_cons] at hx
      rw [may_rs]
      rcases hx with hx | rfl | hx
      · exact h.may x (List.mem_of_mem_take hx)
      · exact hm
      · exact h.may x (List.mem_of_mem_drop hx)
    · show List.Pairwise (fun a b => clashRu t a b = false) (t.rs.take i.toNat ++ r :: t.rs.drop i.toNat)
      rw [List.pairwise_append, List.pairwise_cons]
      have hp := h.apart
      rw [← List.take_append_drop i.toNat t.rs, List.pairwise_append] at hp
      refine ⟨hp.1, ⟨fun a ha => ?_, hp.2.1⟩, fun a ha b hb => ?_⟩
      · rw [clash_symm]; exact hc a (List.mem_of_mem_drop ha)
      · rcases List.mem_cons.1 hb with rfl | hb
        · exact hc a (List.mem_of_mem_take ha)
        · exact hp.2.2 a ha b hb
  · exact h
theorem Tm.Sound.del {t : Tm} (h : t.Sound) (i : Int) : (ruDelT t i).Sound := by
  unfold ruDelT
  split
  · refine ⟨fun x hx => ?_, ?_⟩
    · simp only [List.mem_append] at hx
      rw [may_rs]
      rcases hx with hx | hx
      · exact h.may x (List.mem_of_mem_take hx)
      · exact h.may x (List.mem_of_mem_drop hx)
    · show List.Pairwise (fun a b => clashRu t a b = false) (t.rs.take i.toNat ++ t.rs.drop (i.toNat + 1))
      rw [List.pairwise_append]
      have hp := h.apart
      rw [← List.take_append_drop i.toNat t.rs, List.pairwise_append] at hp
      have sub : List.Sublist (t.rs.drop (i.toNat + 1)) (t.rs.drop i.toNat) := by
        rw [← List.drop_drop]
        exact List.drop_sublist _ _
      exact ⟨hp.1, hp.2.1.sublist sub, fun a ha b hb => hp.2.2 a ha b (sub.subset hb)⟩
  · exact h
/-- A table of the laws: its own address, its inner prefix. -/
structure Tm.Law (t : Tm) : Prop where
  own : t.own = 151587081
  ip : t.ip = 167772160
  bits : t.bits = 8
theorem Tm.Law.add {t : Tm} (h : t.Law) (i : Int) (r : Ru) : (ruAddT t i r).Law := by
  unfold ruAddT; split
  · exact ⟨h.own, h.ip, h.bits⟩
  · exact h
theorem Tm.Law.del {t : Tm} (h : t.Law) (i : Int) : (ruDelT t i).Law := by
  unfold ruDelT; split
  · exact ⟨h.own, h.ip, h.bits⟩
  · exact h
/-- A draft: six bytes. -/
structure Dr where
  d0 : Int
  d1 : Int
  d2 : Int
  d3 : Int
  d4 : Int
  d5 : Int
structure Dr.Ok (d : Dr) : Prop where
  a0 : 0 ≤ d.d0 ∧ d.d0 ≤ 255
  a1 : 0 ≤ d.d1 ∧ d.d1 ≤ 255
  a2 : 0 ≤ d.d2 ∧ d.d2 ≤ 255
  a3 : 0 ≤ d.d3 ∧ d.d3 ≤ 255
  a4 : 0 ≤ d.d4 ∧ d.d4 ≤ 255
  a5 : 0 ≤ d.d5 ∧ d.d5 ≤ 255
def Dr.zero : Dr := ⟨0, 0, 0, 0, 0, 0⟩
/-- The flow of a draft: its protocol, its ends. -/
def flP (d : Dr) : Int := if d.d1 % 3 = 0 then 1 else if d.d1 % 3 = 1 then 6 else 17
def flA (d : Dr) : Nat := 167772160 + (d.d4 % 4).toNat
def flM (d : Dr) : Int := 1 + d.d5 % 3
def flB (d : Dr) : Nat := 16909060 + (d.d2 % 3).toNat
def flN (d : Dr) : Int := 1 + d.d3 % 8
/-- The rule of a draft. -/
def drX (d : Dr) : Nat := 151587081 + (d.d2 % 3).toNat
def drP2 (d : Dr) : Int := if d.d1 % 2 = 0 then 6 else 17
def drP4 (d : Dr) : Int := if d.d1 % 4 = 0 then 0 else if d.d1 % 4 = 1 then 1 else if d.d1 % 4 = 2 then 6 else 17
def drSI (d : Dr) : Nat := if d.d4 % 4 = 0 then 0 else if d.d4 % 4 = 1 then 167772160 else if d.d4 % 4 = 2 then 167772160 else 167772162
def drSB (d : Dr) : Int := if d.d4 % 4 = 0 then 0 else if d.d4 % 4 = 1 then 8 else if d.d4 % 4 = 2 then 31 else 32
def drDI (d : Dr) : Nat := if d.d5 % 3 = 0 then 0 else if d.d5 % 3 = 1 then 16909056 else 16909060
def drDB (d : Dr) : Int := if d.d5 % 3 = 0 then 0 else if d.d5 % 3 = 1 then 24 else 32
def ruleS (d : Dr) : Ru := ⟨3, drP2 d, 0, 0, 0, 0, drX d, 1 + d.d3 % 8, 1 + d.d3 % 8, 167772160 + (d.d4 % 4).toNat, 1 + d.d5 % 3⟩
def ruleN (d : Dr) : Ru := ⟨1, drP4 d, drSI d, drSB d, drDI d, drDB d, drX d, 4 + d.d3 % 8, 4 + d.d3 % 8 + d.d3 / 8 % 4, 0, 0⟩
def ruleD (d : Dr) : Ru := if d.d0 % 3 = 0 then ruleS d else if d.d0 % 3 = 1 then { ruleN d with k := 2, ex := 0 } else ruleN d
theorem mod_nat (d m : Int) (h : 0 ≤ d ∧ d ≤ 255) (hm : 0 < m) (hm2 : m ≤ 255) : ∃ x : Nat, d % m = (x : Int) ∧ (d % m).toNat = x ∧ (x : Int) < m ∧ x ≤ 255 ∧ d.tmod m = (x : Int) ∧ IntKind.u8.wrap (x : Int) = (x : Int) ∧ IntKind.u16.wrap (x : Int) = (x : Int) ∧ IntKind.u32.wrap (x : Int) = (x : Int) := by
  have h1 := Int.emod_nonneg d (show m ≠ 0 by omega)
  have h2 := Int.emod_lt_of_pos d hm
  refine ⟨(d % m).toNat, ?_, rfl, ?_, ?_, ?_, ?_, ?_, ?_⟩
  · omega
  · omega
  · omega
  · rw [Int.tmod_eq_emod_of_nonneg h.1]; omega
  · exact IntWalk.u8_in _ (by omega)
  · exact IntWalk.u16_in _ (by omega)
  · exact IntWalk.u32_in _ (by omega)
theorem three (d : Int) : d % 3 = 0 ∨ d % 3 = 1 ∨ d % 3 = 2 := by omega
theorem four (d : Int) : d % 4 = 0 ∨ d % 4 = 1 ∨ d % 4 = 2 ∨ d % 4 = 3 := by omega
theorem drSI_le (d : Dr) : drSI d < 4294967296 := by unfold drSI; split <;> (try split) <;> (try split) <;> omega
theorem drDI_le (d : Dr) : drDI d < 4294967296 := by unfold drDI; split <;> (try split) <;> omega
theorem drSB_in (d : Dr) : 0 ≤ drSB d ∧ drSB d ≤ 32 := by unfold drSB; split <;> (try split) <;> (try split) <;> omega
theorem drDB_in (d : Dr) : 0 ≤ drDB d ∧ drDB d ≤ 32 := by unfold drDB; split <;> (try split) <;> omega
theorem drP2_in (d : Dr) : 0 ≤ drP2 d ∧ drP2 d ≤ 255 := by unfold drP2; split <;> omega
theorem drP4_in (d : Dr) : 0 ≤ drP4 d ∧ drP4 d ≤ 255 := by unfold drP4; split <;> (try split) <;> (try split) <;> omega
theorem ruleS_ok (d : Dr) : (ruleS d).Ok := by
  have := drP2_in d
  constructor <;> simp only [ruleS, drX] <;> omega
theorem ruleN_ok (d : Dr) (h : d.Ok) : (ruleN d).Ok := by
  have h1 := drP4_in d
  have h2 := drSB_in d
  have h3 := drDB_in d
  have h4 := drSI_le d
  have h5 := drDI_le d
  have h6 := h.a3
  constructor <;> simp only [ruleN, drX] <;> omega
theorem ruleD_ok (d : Dr) (h : d.Ok) : (ruleD d).Ok := by
  have k := ruleN_ok d h
  unfold ruleD
  split
  · exact ruleS_ok d
  · split
    · exact ⟨by show (-9223372036854775808 : Int) ≤ 2; omega, by show (2 : Int) ≤ 9223372036854775807; omega, k.p0, k.p1, k.si1, k.sb0, k.sb1, k.di1, k.db0, k.db1, by show 0 < 4294967296; omega, k.f0, k.f1, k.t0, k.t1, k.ii1, k.ip0, k.ip1⟩
    · exact k
theorem flow_in (d : Dr) : flA d < 4294967296 ∧ flB d < 4294967296 := by unfold flA flB; omega
end Go.Proofs.Ytoogegpkgohffaa
