/- Texts of this proof, together: SumsP, SumsA, SumsB, SumsC, Region, SumsLaid. -/
import Derived.Test.YtoogegpkgohffaaTa
import Derived.Lib.Strings
namespace Go.Proofs.Ytoogegpkgohffaa
set_option linter.unusedVariables false
open Go.PlainAid
/-- Both, added. -/
def addW (a b : Int) : Int := if 65535 < a + b then a + b - 65535 else a + b
theorem addW_bd {a b : Int} (h0 : 0 ≤ a) (h1 : a ≤ 65535) (h2 : 0 ≤ b) (h3 : b ≤ 65535) : 0 ≤ addW a b ∧ addW a b ≤ 65535 := by
  unfold addW; split <;> omega
/-- The first words of a text, added to a number. -/
def addWs (s : ByteArray) (n : Int) : Nat → Int
  | 0 => n
  | i + 1 => addW (addWs s n i) (g16 s (2 * i))
theorem addWs_bd (s : ByteArray) {n : Int} (h0 : 0 ≤ n) (h1 : n ≤ 65535) : ∀ i, 0 ≤ addWs s n i ∧ addWs s n i ≤ 65535
  | 0 => ⟨h0, h1⟩
  | i + 1 => by
    have h := addWs_bd s h0 h1 i
    exact addW_bd h.1 h.2 (g16_nonneg _ _) (g16_le _ _)
def half (s : ByteArray) : Nat := (s.size + 1) / 2
def addT (n : Int) (s : ByteArray) : Int := addWs s n (half s)
theorem addT_bd (s : ByteArray) {n : Int} (h0 : 0 ≤ n) (h1 : n ≤ 65535) : 0 ≤ addT n s ∧ addT n s ≤ 65535 := addWs_bd s h0 h1 _
def addTs (n : Int) (ss : List ByteArray) : Int := ss.foldl addT n
theorem addTs_bd : ∀ (ss : List ByteArray) {n : Int} (_ : 0 ≤ n) (_ : n ≤ 65535), 0 ≤ addTs n ss ∧ addTs n ss ≤ 65535
  | [], _, h0, h1 => ⟨h0, h1⟩
  | s :: r, _, h0, h1 => by
    have h := addT_bd s h0 h1
    exact addTs_bd r h.1 h.2
theorem addTs_snoc (n : Int) (ss : List ByteArray) (s : ByteArray) : addTs n (ss ++ [s]) = addT (addTs n ss) s := by simp [addTs]
def sumV (ss : List ByteArray) : Int := 65535 - addTs 0 ss
theorem sumV_bd (ss : List ByteArray) : 0 ≤ sumV ss ∧ sumV ss ≤ 65535 := by
  have := addTs_bd ss (n := 0) (by omega) (by omega)
  unfold sumV; omega
def holdsV (ss : List ByteArray) : Bool := decide (sumV ss = 0)
def updW (n f t : Int) : Int := 65535 - addW (addW (65535 - n) (65535 - f)) t
/-- A number that is 0 as 0, any other one as one of 1 to 65535. -/
def cl (t : Int) : Int := if t = 0 then 0 else (t - 1) % 65535 + 1
/-- A text's number at a place where it ends, with one byte 0 more. -/
theorem bt_zero_tail (s : ByteArray) (k : Nat) : bt (s ++ ⟨#[0]⟩) k = bt s k := by
  by_cases h : k < s.size
  · rw [bt_append_left _ _ _ h]
  · obtain ⟨j, rfl⟩ : ∃ j, k = s.size + j := ⟨k - s.size, by omega⟩
    rw [bt_append_right]
    have e : bt s (s.size + j) = 0 := by unfold bt; rw [dif_neg (by omega)]
    rw [e]
    unfold bt
    split
    · rename_i hj
      have hj' : j < 1 := hj
      obtain rfl : j = 0 := by omega
      rfl
    · rfl
theorem g16_zero_tail (s : ByteArray) (k : Nat) : g16 (s ++ ⟨#[0]⟩) k = g16 s k := by unfold g16; rw [bt_zero_tail, bt_zero_tail]
theorem bt_extract_end (s : ByteArray) (e j : Nat) (he : e ≤ s.size) : bt (s.extract e s.size) j = bt s (e + j) := by
  rw [bt_eq, bt_eq]
  have : (s.extract e s.size).data.toList = s.data.toList.drop e := by
    rw [Lib.extract_data]
    rw [List.take_of_length_le]
    rw [List.length_drop, len_data]
    exact Nat.le_refl _
  rw [this]
  simp [List.getD, List.getElem?_drop]
theorem g16_extract_end (s : ByteArray) (e : Nat) (he : e ≤ s.size) : g16 (s.extract e s.size ++ ⟨#[0]⟩) 0 = g16 s e := by
  rw [g16_zero_tail]; unfold g16; rw [bt_extract_end s e 0 he, bt_extract_end s e (0 + 1) he, Nat.add_zero, Nat.zero_add]
end Go.Proofs.Ytoogegpkgohffaa
namespace Go.Proofs.Ytoogegpkgohffaa
open Go.ChangeShapes Go.WideShapes Go.ChangeAt Go.RowKit Go.PlainAid
/-- What a callee wants of a slice of strings: its elements. -/
def RowS (w : World) (a : Option Addr) (len : Nat) (ss : List ByteArray) : Prop :=
  ss.length = len ∧ (∀ s ∈ ss, s.size ≤ maxLen) ∧ len ≤ maxLen ∧
  (len = 0 ∨ ∃ b off, a = some ⟨b, off, none⟩ ∧ b < w.heap.size ∧ ∀ t, t < len → w.cell? ⟨b, off + t, none⟩ = some (.string (ss.getD t ByteArray.empty)))
theorem RowS.kept {w w' : World} {a : Option Addr} {len : Nat} {ss : List ByteArray} (h : RowS w a len ss) (hb : Below w.heap.size w w') : RowS w' a len ss := by
  obtain ⟨h1, h2, h3, h4⟩ := h
  refine ⟨h1, h2, h3, h4.imp id ?_⟩
  rintro ⟨b, off, rfl, hlt, hc⟩
  exact ⟨b, off, rfl, Nat.lt_of_lt_of_le hlt hb.size, fun t ht => (hb.cell (by exact hlt)).trans (hc t ht)⟩
theorem RowS.mem {w : World} {a : Option Addr} {len : Nat} {ss : List ByteArray} (h : RowS w a len ss) {t : Nat} (ht : t < len) : (ss.getD t ByteArray.empty).size ≤ maxLen := by
  have hl : t < ss.length := by rw [h.1]; exact ht
  rw [getD_lt _ _ _ hl]
  exact h.2.1 _ (List.getElem_mem hl)

theorem take_snoc_getB (ss : List ByteArray) (k : Nat) (h : k < ss.length) : ss.take (k + 1) = ss.take k ++ [ss.getD k ByteArray.empty] := by
  rw [List.take_succ_eq_append_getElem h]; simp [List.getD, h]
end Go.Proofs.Ytoogegpkgohffaa
namespace Go.Proofs.Ytoogegpkgohffaa
open Go.ChangeShapes Go.WideShapes Go.ChangeAt Go.RowKit
/-- A world that is as 'w' is below block 'B'. -/
structure Later (B : Nat) (w : World) where
  u : World
  h : Below B w u
instance laterAny {B : Nat} {w : World} : Nonempty (Later B w) := ⟨⟨w, Below.refl B w⟩⟩
theorem Later.block {B : Nat} {w : World} (x : Later B w) {a : Addr} {v : Value} (ha : a.block < B) (h : w.cell? a = some v) : x.u.cell? a = some v := (x.h.cell ha).trans h
theorem region_later {P : Program} {id B : Nat} {Q : Exit → Act → World → Prop} {a : Act} {w : World} {l : List Oper} (hm : P.follows .mixedOrders = true) (hB : Region.lexB .any l.toArray = true)
    (h : wpQuiet P l.toArray (fun w' => ∃ x : Later B w, w' = x.u) (fun a' => ∀ w', (∃ x : Later B w, w' = x.u) → Q .normal a' w') l a) : (Code.region id l.toArray true).wp P Q a w :=
  wp_region_quiet (C := fun w' => ∃ x : Later B w, w' = x.u) hm hB ⟨⟨w.drew, (Below.refl B w).drew⟩, rfl⟩ (by simpa using h)
theorem later_end {P : Program} {ops : Array Oper} {C : World → Prop} {B : Nat} {Q : Exit → Act → World → Prop} {a : Act} {w : World} (h : ∀ w', Below B w w' → Q .normal a w') :
    wpQuiet P ops C (fun a' => ∀ w', (∃ x : Later B w, w' = x.u) → Q .normal a' w') [] a := wpQuiet_nil fun w' ⟨x, e⟩ => by subst e; exact h _ x.h
/-- A callee's contract, met in such a world. -/
theorem later_of {P : Program} {f : FuncId} {args : Array Value} {B : Nat} {w : World} {v : Value} (x : Later B w) (hB : B ≤ w.heap.size)
    (h : Calls P f args x.u fun e w' => e = .returned v ∧ Below x.u.heap.size x.u w') : Calls P f args x.u fun e w'' => e = .returned v ∧ ∃ y : Later B w, w'' = y.u :=
  h.mono fun _ w' ⟨he, hb⟩ => ⟨he, ⟨w', x.h.trans (hb.mono (Nat.le_trans hB x.h.size))⟩, rfl⟩
theorem later_same {P : Program} {f : FuncId} {args : Array Value} {B : Nat} {w : World} {v : Value} (x : Later B w)
    (h : Calls P f args x.u fun e w' => e = .returned v ∧ x.u = w') : Calls P f args x.u fun e w'' => e = .returned v ∧ ∃ y : Later B w, w'' = y.u :=
  h.mono fun _ _ ⟨he, hb⟩ => ⟨he, x, hb.symm⟩
end Go.Proofs.Ytoogegpkgohffaa
namespace Go.Proofs.Ytoogegpkgohffaa
open Go.ChangeShapes Go.WideShapes Go.ChangeAt Go.RowKit Go.PlainAid
theorem rowS1 {w : World} {b : Nat} {s : ByteArray} (hb : b < w.heap.size) (h0 : w.cell? ⟨b, 0, none⟩ = some (.string s)) (hs : s.size ≤ maxLen) : RowS w (some ⟨b, 0, none⟩) 1 [s] :=
  ⟨rfl, by intro x hx; simp at hx; rw [hx]; exact hs, by unfold maxLen; omega, .inr ⟨b, 0, rfl, hb, by
    intro t ht
    match t, ht with
    | 0, _ => simpa using h0⟩⟩
theorem rowS2 {w : World} {b : Nat} {s t : ByteArray} (hb : b < w.heap.size) (h0 : w.cell? ⟨b, 0, none⟩ = some (.string s)) (h1 : w.cell? ⟨b, 1, none⟩ = some (.string t)) (hs : s.size ≤ maxLen) (ht : t.size ≤ maxLen) : RowS w (some ⟨b, 0, none⟩) 2 [s, t] :=
  ⟨rfl, by intro x hx; simp at hx; rcases hx with rfl | rfl <;> assumption, by unfold maxLen; omega, .inr ⟨b, 0, rfl, hb, by
    intro t ht
    match t, ht with
    | 0, _ => simpa using h0
    | 1, _ => simpa using h1⟩⟩
theorem rowS0 {w : World} : RowS w none 0 [] := ⟨rfl, by simp, Nat.zero_le _, .inl rfl⟩
namespace SumsLaid
end SumsLaid
end Go.Proofs.Ytoogegpkgohffaa
