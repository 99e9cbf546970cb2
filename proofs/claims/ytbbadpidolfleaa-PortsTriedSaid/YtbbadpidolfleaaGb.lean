/- Texts of this proof, together: SumsP, SumsA, SumsB, SumsC, Region, SumsLaid. -/
import Derived.Test.YtbbadpidolfleaaGa
import Derived.Lib.Strings
namespace Go.Proofs.Ytbbadpidolfleaa
set_option linter.unusedVariables false
open Go.PlainAid
/-- Both, added. -/
def addW (a b : Int) : Int := if 65535 < a + b then a + b - 65535 else a + b
theorem addW_bd {a b : Int} (h0 : 0 ≤ a) (h1 : a ≤ 65535) (h2 : 0 ≤ b) (h3 : b ≤ 65535) : 0 ≤ addW a b ∧ addW a b ≤ 65535 := by
  unfold addW; split <;> omega
/-- The first words of a text, added to a number. -/
def addWs (s : ByteArray) (n : Int) : Nat → Int
  | 0 => n
  | i + 1 => addW (addWs s n i) (g16 s (2 * i))
theorem addWs_bd (s : ByteArray) {n : Int} (h0 : 0 ≤ n) (h1 : n ≤ 65535) : ∀ i, 0 ≤ addWs s n i ∧ addWs s n i ≤ 65535
  | 0 => ⟨h0, h1⟩
  | i + 1 => by
    have h := addWs_bd s h0 h1 i
    exact addW_bd h.1 h.2 (g16_nonneg _ _) (g16_le _ _)
def half (s : ByteArray) : Nat := (s.size + 1) / 2
def addT (n : Int) (s : ByteArray) : Int := addWs s n (half s)
theorem addT_bd (s : ByteArray) {n : Int} (h0 : 0 ≤ n) (h1 : n ≤ 65535) : 0 ≤ addT n s ∧ addT n s ≤ 65535 := addWs_bd s h0 h1 _
def addTs (n : Int) (ss : List ByteArray) : Int := ss.foldl addT n
theorem addTs_bd : ∀ (ss : List ByteArray) {n : Int} (_ : 0 ≤ n) (_ : n ≤ 65535), 0 ≤ addTs n ss ∧ addTs n ss ≤ 65535
  | [], _, h0, h1 => ⟨h0, h1⟩
  | s :: r, _, h0, h1 => by
    have h := addT_bd s h0 h1
    exact addTs_bd r h.1 h.2
theorem addTs_snoc (n : Int) (ss : List ByteArray) (s : ByteArray) : addTs n (ss ++ [s]) = addT (addTs n ss) s := by simp [addTs]
def sumV (ss : List ByteArray) : Int := 65535 - addTs 0 ss
theorem sumV_bd (ss : List ByteArray) : 0 ≤ sumV ss ∧ sumV ss ≤ 65535 := by
  have := addTs_bd ss (n := 0) (by omega) (by omega)
  unfold sumV; omega
def holdsV (ss : List ByteArray) : Bool := decide (sumV ss = 0)
def updW (n f t : Int) : Int := 65535 - addW (addW (65535 - n) (65535 - f)) t
theorem updW_bd {n f t : Int} (h0 : 0 ≤ n) (h1 : n ≤ 65535) (h2 : 0 ≤ f) (h3 : f ≤ 65535) (h4 : 0 ≤ t) (h5 : t ≤ 65535) : 0 ≤ updW n f t ∧ updW n f t ≤ 65535 := by
  have a := addW_bd (a := 65535 - n) (b := 65535 - f) (by omega) (by omega) (by omega) (by omega)
  have b := addW_bd a.1 a.2 h4 h5
  unfold updW; omega
def updWs (n : Int) (f t : ByteArray) : Nat → Int
  | 0 => n
  | i + 1 => updW (updWs n f t i) (g16 f (2 * i)) (g16 t (2 * i))
theorem updWs_bd (f t : ByteArray) {n : Int} (h0 : 0 ≤ n) (h1 : n ≤ 65535) : ∀ i, 0 ≤ updWs n f t i ∧ updWs n f t i ≤ 65535
  | 0 => ⟨h0, h1⟩
  | i + 1 => by
    have h := updWs_bd f t h0 h1 i
    exact updW_bd h.1 h.2 (g16_nonneg _ _) (g16_le _ _) (g16_nonneg _ _) (g16_le _ _)
def updV (n : Int) (f t : ByteArray) : Int := if f.size ≠ t.size ∨ f.size % 2 = 1 then n else updWs n f t (f.size / 2)
theorem updV_bd (f t : ByteArray) {n : Int} (h0 : 0 ≤ n) (h1 : n ≤ 65535) : 0 ≤ updV n f t ∧ updV n f t ≤ 65535 := by
  unfold updV; split
  · exact ⟨h0, h1⟩
  · exact updWs_bd f t h0 h1 _

/-- A number that is 0 as 0, any other one as one of 1 to 65535. -/
def cl (t : Int) : Int := if t = 0 then 0 else (t - 1) % 65535 + 1
theorem addW_cl {t w : Int} (h : 0 ≤ t) (h0 : 0 ≤ w) (h1 : w ≤ 65535) : addW (cl t) w = cl (t + w) := by
  unfold addW cl
  split <;> split <;> split <;> omega
theorem cl_bd {t : Int} (h : 0 ≤ t) : 0 ≤ cl t ∧ cl t ≤ 65535 := by unfold cl; split <;> omega
theorem cl_mod {t : Int} (h : 0 ≤ t) : cl t % 65535 = t % 65535 := by unfold cl; split <;> omega
theorem cl_zero {t : Int} (h : 0 ≤ t) : cl t = 0 ↔ t = 0 := by unfold cl; split <;> omega
/-- What the first words of a text come to. -/
def tot (s : ByteArray) : Nat → Int
  | 0 => 0
  | i + 1 => tot s i + g16 s (2 * i)
theorem tot_nonneg (s : ByteArray) : ∀ i, 0 ≤ tot s i
  | 0 => by simp [tot]
  | i + 1 => by have := tot_nonneg s i; have := g16_nonneg s (2 * i); simp only [tot]; omega
theorem addWs_cl (s : ByteArray) {t : Int} (h : 0 ≤ t) : ∀ i, addWs s (cl t) i = cl (t + tot s i)
  | 0 => by simp [addWs, tot]
  | i + 1 => by
    have := tot_nonneg s i
    rw [addWs, addWs_cl s h i, addW_cl (by omega) (g16_nonneg _ _) (g16_le _ _), tot, Int.add_assoc]
def totT (s : ByteArray) : Int := tot s (half s)
theorem totT_nonneg (s : ByteArray) : 0 ≤ totT s := tot_nonneg _ _
def totTs (ss : List ByteArray) : Int := (ss.map totT).sum
theorem totTs_nonneg : ∀ ss, 0 ≤ totTs ss
  | [] => by simp [totTs]
  | s :: r => by have := totTs_nonneg r; have := totT_nonneg s; simp [totTs] at *; omega
theorem addTs_cl : ∀ (ss : List ByteArray) {t : Int} (_ : 0 ≤ t), addTs (cl t) ss = cl (t + totTs ss)
  | [], t, _ => by simp [addTs, totTs]
  | s :: r, t, h => by
    have h1 := totT_nonneg s
    have e : addTs (cl t) (s :: r) = addTs (addT (cl t) s) r := rfl
    rw [e, addT, addWs_cl s h]
    have := addTs_cl r (t := t + tot s (half s)) (by unfold totT at h1; omega)
    rw [this]
    simp only [totTs, List.map_cons, List.sum_cons, totT, Int.add_assoc]
theorem sumV_cl (ss : List ByteArray) : sumV ss = 65535 - cl (totTs ss) := by
  have := addTs_cl ss (t := 0) (by omega)
  rw [show cl 0 = 0 from rfl, Int.zero_add] at this
  rw [sumV, this]
theorem g16_W (zs : List Int) (h : ∀ n ∈ zs, 0 ≤ n ∧ n ≤ 65535) (i : Nat) : g16 (strOfNums (wordL zs)) (2 * i) = zs.getD i 0 := by
  unfold g16
  rw [bt_nums _ _ (wordL_wf zs h), bt_nums _ _ (wordL_wf zs h), wordL_even, wordL_odd]
  omega
theorem tot_W (zs : List Int) (h : ∀ n ∈ zs, 0 ≤ n ∧ n ≤ 65535) : ∀ i, i ≤ zs.length → tot (strOfNums (wordL zs)) i = (zs.take i).sum
  | 0, _ => by simp [tot]
  | i + 1, hi => by
    rw [tot, tot_W zs h i (by omega), g16_W zs h, take_snoc_getD zs i (by omega)]
    simp
theorem size_W (zs : List Int) : (strOfNums (wordL zs)).size = 2 * zs.length := by rw [strOfNums_size, wordL_length]
theorem totT_W (zs : List Int) (h : ∀ n ∈ zs, 0 ≤ n ∧ n ≤ 65535) : totT (strOfNums (wordL zs)) = zs.sum := by
  unfold totT half
  rw [size_W, show (2 * zs.length + 1) / 2 = zs.length by omega, tot_W zs h _ (Nat.le_refl _)]
  simp
/-- A text's number at a place where it ends, with one byte 0 more. -/
theorem bt_zero_tail (s : ByteArray) (k : Nat) : bt (s ++ ⟨#[0]⟩) k = bt s k := by
  by_cases h : k < s.size
  · rw [bt_append_left _ _ _ h]
  · obtain ⟨j, rfl⟩ : ∃ j, k = s.size + j := ⟨k - s.size, by omega⟩
    rw [bt_append_right]
    have e : bt s (s.size + j) = 0 := by unfold bt; rw [dif_neg (by omega)]
    rw [e]
    unfold bt
    split
    · rename_i hj
      have hj' : j < 1 := hj
      obtain rfl : j = 0 := by omega
      rfl
    · rfl
theorem g16_zero_tail (s : ByteArray) (k : Nat) : g16 (s ++ ⟨#[0]⟩) k = g16 s k := by unfold g16; rw [bt_zero_tail, bt_zero_tail]
theorem bt_extract_end (s : ByteArray) (e j : Nat) (he : e ≤ s.size) : bt (s.extract e s.size) j = bt s (e + j) := by
  rw [bt_eq, bt_eq]
  have : (s.extract e s.size).data.toList = s.data.toList.drop e := by
    rw [Lib.extract_data]
    rw [List.take_of_length_le]
    rw [List.length_drop, len_data]
    exact Nat.le_refl _
  rw [this]
  simp [List.getD, List.getElem?_drop]
theorem g16_extract_end (s : ByteArray) (e : Nat) (he : e ≤ s.size) : g16 (s.extract e s.size ++ ⟨#[0]⟩) 0 = g16 s e := by
  rw [g16_zero_tail]; unfold g16; rw [bt_extract_end s e 0 he, bt_extract_end s e (0 + 1) he, Nat.add_zero, Nat.zero_add]
end Go.Proofs.Ytbbadpidolfleaa

namespace Go.Proofs.Ytbbadpidolfleaa
open Go.ChangeShapes Go.WideShapes Go.ChangeAt Go.RowKit Go.PlainAid
/-- What a callee wants of a slice of strings: its elements. -/
def RowS (w : World) (a : Option Addr) (len : Nat) (ss : List ByteArray) : Prop :=
  ss.length = len ∧ (∀ s ∈ ss, s.size ≤ maxLen) ∧ len ≤ maxLen ∧
  (len = 0 ∨ ∃ b off, a = some ⟨b, off, none⟩ ∧ b < w.heap.size ∧ ∀ t, t < len → w.cell? ⟨b, off + t, none⟩ = some (.string (ss.getD t ByteArray.empty)))
theorem RowS.kept {w w' : World} {a : Option Addr} {len : Nat} {ss : List ByteArray} (h : RowS w a len ss) (hb : Below w.heap.size w w') : RowS w' a len ss := by
  obtain ⟨h1, h2, h3, h4⟩ := h
  refine ⟨h1, h2, h3, h4.imp id ?_⟩
  rintro ⟨b, off, rfl, hlt, hc⟩
  exact ⟨b, off, rfl, Nat.lt_of_lt_of_le hlt hb.size, fun t ht => (hb.cell (by exact hlt)).trans (hc t ht)⟩
theorem RowS.mem {w : World} {a : Option Addr} {len : Nat} {ss : List ByteArray} (h : RowS w a len ss) {t : Nat} (ht : t < len) : (ss.getD t ByteArray.empty).size ≤ maxLen := by
  have hl : t < ss.length := by rw [h.1]; exact ht
  rw [getD_lt _ _ _ hl]
  exact h.2.1 _ (List.getElem_mem hl)

end Go.Proofs.Ytbbadpidolfleaa

namespace Go.Proofs.Ytbbadpidolfleaa
open Go.ChangeShapes Go.WideShapes Go.ChangeAt Go.RowKit Go.PlainAid
theorem take_snoc_getB (ss : List ByteArray) (k : Nat) (h : k < ss.length) : ss.take (k + 1) = ss.take k ++ [ss.getD k ByteArray.empty] := by
  rw [List.take_succ_eq_append_getElem h]; simp [List.getD, h]
end Go.Proofs.Ytbbadpidolfleaa

namespace Go.Proofs.Ytbbadpidolfleaa
open Go.ChangeShapes Go.WideShapes Go.ChangeAt Go.RowKit Go.PlainAid
end Go.Proofs.Ytbbadpidolfleaa

namespace Go.Proofs.Ytbbadpidolfleaa
open Go.ChangeShapes Go.WideShapes Go.ChangeAt Go.RowKit
/-- A world that is as 'w' is below block 'B'. -/
structure Later (B : Nat) (w : World) where
  u : World
  h : Below B w u
instance laterAny {B : Nat} {w : World} : Nonempty (Later B w) := ⟨⟨w, Below.refl B w⟩⟩
theorem Later.block {B : Nat} {w : World} (x : Later B w) {a : Addr} {v : Value} (ha : a.block < B) (h : w.cell? a = some v) : x.u.cell? a = some v := (x.h.cell ha).trans h
theorem region_later {P : Program} {id B : Nat} {Q : Exit → Act → World → Prop} {a : Act} {w : World} {l : List Oper} (hm : P.follows .mixedOrders = true) (hB : Region.lexB .any l.toArray = true)
    (h : wpQuiet P l.toArray (fun w' => ∃ x : Later B w, w' = x.u) (fun a' => ∀ w', (∃ x : Later B w, w' = x.u) → Q .normal a' w') l a) : (Code.region id l.toArray true).wp P Q a w :=
  wp_region_quiet (C := fun w' => ∃ x : Later B w, w' = x.u) hm hB ⟨⟨w.drew, (Below.refl B w).drew⟩, rfl⟩ (by simpa using h)
theorem later_end {P : Program} {ops : Array Oper} {C : World → Prop} {B : Nat} {Q : Exit → Act → World → Prop} {a : Act} {w : World} (h : ∀ w', Below B w w' → Q .normal a w') :
    wpQuiet P ops C (fun a' => ∀ w', (∃ x : Later B w, w' = x.u) → Q .normal a' w') [] a := wpQuiet_nil fun w' ⟨x, e⟩ => by subst e; exact h _ x.h
/-- A callee's contract, met in such a world. -/
theorem later_of {P : Program} {f : FuncId} {args : Array Value} {B : Nat} {w : World} {v : Value} (x : Later B w) (hB : B ≤ w.heap.size)
    (h : Calls P f args x.u fun e w' => e = .returned v ∧ Below x.u.heap.size x.u w') : Calls P f args x.u fun e w'' => e = .returned v ∧ ∃ y : Later B w, w'' = y.u :=
  h.mono fun _ w' ⟨he, hb⟩ => ⟨he, ⟨w', x.h.trans (hb.mono (Nat.le_trans hB x.h.size))⟩, rfl⟩
theorem later_same {P : Program} {f : FuncId} {args : Array Value} {B : Nat} {w : World} {v : Value} (x : Later B w)
    (h : Calls P f args x.u fun e w' => e = .returned v ∧ x.u = w') : Calls P f args x.u fun e w'' => e = .returned v ∧ ∃ y : Later B w, w'' = y.u :=
  h.mono fun _ _ ⟨he, hb⟩ => ⟨he, x, hb.symm⟩
end Go.Proofs.Ytbbadpidolfleaa

namespace Go.Proofs.Ytbbadpidolfleaa
open Go.ChangeShapes Go.WideShapes Go.ChangeAt Go.RowKit Go.PlainAid
theorem rowS1 {w : World} {b : Nat} {s : ByteArray} (hb : b < w.heap.size) (h0 : w.cell? ⟨b, 0, none⟩ = some (.string s)) (hs : s.size ≤ maxLen) : RowS w (some ⟨b, 0, none⟩) 1 [s] :=
  ⟨rfl, by intro x hx; simp at hx; rw [hx]; exact hs, by unfold maxLen; omega, .inr ⟨b, 0, rfl, hb, by
    intro t ht
    match t, ht with
    | 0, _ => simpa using h0⟩⟩
theorem rowS2 {w : World} {b : Nat} {s t : ByteArray} (hb : b < w.heap.size) (h0 : w.cell? ⟨b, 0, none⟩ = some (.string s)) (h1 : w.cell? ⟨b, 1, none⟩ = some (.string t)) (hs : s.size ≤ maxLen) (ht : t.size ≤ maxLen) : RowS w (some ⟨b, 0, none⟩) 2 [s, t] :=
  ⟨rfl, by intro x hx; simp at hx; rcases hx with rfl | rfl <;> assumption, by unfold maxLen; omega, .inr ⟨b, 0, rfl, hb, by
    intro t ht
    match t, ht with
    | 0, _ => simpa using h0
    | 1, _ => simpa using h1⟩⟩
theorem rowS0 {w : World} : RowS w none 0 [] := ⟨rfl, by simp, Nat.zero_le _, .inl rfl⟩
namespace SumsLaid
end SumsLaid
/-- Are texts more than is gone through: 8, of 400 bytes? -/
def greatV (ss : List ByteArray) : Bool := (ss.take 9).any (fun s => decide (400 < s.size)) || decide (8 < ss.length)
theorem greatV_no {ss : List ByteArray} (h : greatV ss = false) : ss.length ≤ 8 ∧ ∀ s ∈ ss, s.size ≤ 400 := by
  unfold greatV at h
  simp at h
  obtain ⟨h1, h2⟩ := h
  rw [List.take_of_length_le (by omega)] at h1
  exact ⟨h2, h1⟩
end Go.Proofs.Ytbbadpidolfleaa
