/- Texts of this proof, together: Plain, FieldsA, FieldsB, FieldsC, FieldsD, FieldsLaid, FieldsE, FieldsP, FieldsQ. -/
import Derived.PlainAid
import Derived.Laws.BitsAllLaws
import Derived.Lib.Hide
import Derived.Test.YtbbadpidolfleaaRows
import Derived.WalkKit
import Derived.ProofKit
import Derived.OpenShut
import Derived.ShutString
import Derived.Below
import Derived.Outline
import Derived.WalkSpells
import Derived.WalkLawsBesides
import Derived.IntWalk
import Derived.Deep.QuietTactic
import Derived.BigQuiet
import Derived.OwnWalk
import Derived.Laws.BytesArg
namespace Go.Proofs.Ytbbadpidolfleaa
open Go.PlainAid Go.RowKit

theorem u16_hl (a b : Int) (ha : 0 ≤ a) (ha' : a ≤ 255) (hb : 0 ≤ b) (hb' : b ≤ 255) : bits .or .u16 (a * 256) b = a * 256 + b := by
  rw [u16_or _ _ (by omega) (by omega) hb (by omega)]
  have h := Nat.two_pow_add_eq_or_of_lt (i := 8) (b := b.toNat) (by omega) a.toNat
  have e : (a * 256).toNat = 2 ^ 8 * a.toNat := by omega
  rw [e, ← h]
  omega
theorem u32_hl8 (a b : Int) (ha : 0 ≤ a) (ha' : a ≤ 255) (hb : 0 ≤ b) (hb' : b ≤ 255) : bits .or .u32 (a * 256) b = a * 256 + b := by
  rw [u32_or _ _ (by omega) (by omega) hb (by omega)]
  have h := Nat.two_pow_add_eq_or_of_lt (i := 8) (b := b.toNat) (by omega) a.toNat
  have e : (a * 256).toNat = 2 ^ 8 * a.toNat := by omega
  rw [e, ← h]
  omega
theorem u32_hl24 (a b : Int) (ha : 0 ≤ a) (ha' : a ≤ 255) (hb : 0 ≤ b) (hb' : b ≤ 255) : bits .or .u32 (a * 16777216) (b * 65536) = a * 16777216 + b * 65536 := by
  rw [u32_or _ _ (by omega) (by omega) (by omega) (by omega)]
  have h := Nat.two_pow_add_eq_or_of_lt (i := 24) (b := b.toNat * 65536) (by omega) a.toNat
  have e : (a * 16777216).toNat = 2 ^ 24 * a.toNat := by omega
  have e' : (b * 65536).toNat = b.toNat * 65536 := by omega
  rw [e, e', ← h]
  omega
theorem u32_hl16 (a b c : Int) (ha : 0 ≤ a) (ha' : a ≤ 255) (hb : 0 ≤ b) (hb' : b ≤ 255) (hc : 0 ≤ c) (hc' : c ≤ 65535) : bits .or .u32 (a * 16777216 + b * 65536) c = a * 16777216 + b * 65536 + c := by
  rw [u32_or _ _ (by omega) (by omega) (by omega) (by omega)]
  have h := Nat.two_pow_add_eq_or_of_lt (i := 16) (b := c.toNat) (by omega) (a.toNat * 256 + b.toNat)
  have e : (a * 16777216 + b * 65536).toNat = 2 ^ 16 * (a.toNat * 256 + b.toNat) := by omega
  rw [e, ← h]
  omega
/-- The number of two bytes, of four, at a place. -/
def g16 (s : ByteArray) (k : Nat) : Int := bt s k * 256 + bt s (k + 1)
def g32 (s : ByteArray) (k : Nat) : Int := bt s k * 16777216 + bt s (k + 1) * 65536 + bt s (k + 2) * 256 + bt s (k + 3)
end Go.Proofs.Ytbbadpidolfleaa

namespace Go.Proofs.Ytbbadpidolfleaa
open Go.ChangeShapes Go.WideShapes Go.ChangeAt Go.RowKit Go.PlainAid

theorem below_drewN {B : Nat} {a w : World} (h : Below B a w) (n : Nat) : Below B a (w.drewN n) := ⟨h.os, h.tape, h.output, h.size, h.block⟩

end Go.Proofs.Ytbbadpidolfleaa

namespace Go.Proofs.Ytbbadpidolfleaa
open Go.ChangeShapes Go.WideShapes Go.ChangeAt Go.RowKit Go.PlainAid
/-- A text with a part in the place of as many bytes. -/
def withB (s : ByteArray) (k : Nat) (p : ByteArray) : ByteArray := s.extract 0 k ++ p ++ s.extract (k + p.size) s.size
/-- The bytes of numbers. -/
def wordL (zs : List Int) : List Int := zs.flatMap fun n => [n / 256, n % 256]
theorem wordL_snoc (zs : List Int) (n : Int) : wordL (zs ++ [n]) = wordL zs ++ [n / 256, n % 256] := by simp [wordL]
theorem wordL_length (zs : List Int) : (wordL zs).length = 2 * zs.length := by
  induction zs with
  | nil => rfl
  | cons z r ih => simp [wordL] at ih ⊢; omega
theorem take_snoc_getD (zs : List Int) (k : Nat) (h : k < zs.length) : zs.take (k + 1) = zs.take k ++ [zs.getD k 0] := by
  rw [List.take_succ_eq_append_getElem h]; simp [List.getD, h]
theorem Try.info5 : (Try.prog.info? 5).map (fun i => (i.zero, i.size, i.bytes)) = some (some (.int .u8 0), 1, 1) := by kernel_rfl

theorem addr_add0 (b j : Nat) : (⟨b, 0, none⟩ : Addr).add j = ⟨b, 0 + j, none⟩ := by unfold Addr.add; split <;> simp_all

end Go.Proofs.Ytbbadpidolfleaa

namespace Go.Proofs.Ytbbadpidolfleaa
open Go.ChangeShapes Go.WideShapes Go.ChangeAt Go.RowKit Go.PlainAid

/-- The number of the first bytes from a place on. -/
def numB (s : ByteArray) (k : Nat) : Nat → Int
  | 0 => 0
  | i + 1 => numB s k i * 256 + bt s (k + i)
theorem numB_nonneg (s : ByteArray) (k : Nat) : ∀ i, 0 ≤ numB s k i
  | 0 => by simp [numB]
  | i + 1 => by have := numB_nonneg s k i; have := bt_nonneg s (k + i); simp only [numB]; omega
theorem numB_le3 (s : ByteArray) (k i : Nat) (h : i ≤ 3) : numB s k i ≤ 16777215 := by
  have a0 := bt_nonneg s (k + 0)
  have a1 := bt_nonneg s (k + 1)
  have a2 := bt_nonneg s (k + 2)
  have b0 := bt_le s (k + 0)
  have b1 := bt_le s (k + 1)
  have b2 := bt_le s (k + 2)
  match i, h with
  | 0, _ => simp [numB]
  | 1, _ => simp only [numB]; omega
  | 2, _ => simp only [numB]; omega
  | 3, _ => simp only [numB]; omega
theorem numB_2 (s : ByteArray) (k : Nat) : numB s k 2 = g16 s k := by simp [numB, g16]
theorem numB_4 (s : ByteArray) (k : Nat) : numB s k 4 = g32 s k := by simp only [numB, g32, Nat.add_zero]; omega
theorem g16_nonneg (s : ByteArray) (k : Nat) : 0 ≤ g16 s k := by have := bt_nonneg s k; have := bt_nonneg s (k + 1); unfold g16; omega
theorem g16_le (s : ByteArray) (k : Nat) : g16 s k ≤ 65535 := by have := bt_le s k; have := bt_le s (k + 1); unfold g16; omega

end Go.Proofs.Ytbbadpidolfleaa

namespace Go.Proofs.Ytbbadpidolfleaa
open Go.ChangeShapes Go.WideShapes Go.ChangeAt Go.RowKit Go.PlainAid

theorem strOfNums_append (a b : List Int) : strOfNums a ++ strOfNums b = strOfNums (a ++ b) := by
  apply ByteArray.ext
  simp [strOfNums]
theorem wordL_append (a b : List Int) : wordL (a ++ b) = wordL a ++ wordL b := by simp [wordL]

end Go.Proofs.Ytbbadpidolfleaa

namespace Go.Proofs.Ytbbadpidolfleaa
open Go.ChangeShapes Go.WideShapes Go.ChangeAt Go.RowKit Go.PlainAid
namespace FieldsLaid
end FieldsLaid
end Go.Proofs.Ytbbadpidolfleaa

namespace Go.Proofs.Ytbbadpidolfleaa
open Go.ChangeShapes Go.WideShapes Go.ChangeAt Go.RowKit Go.PlainAid
/-- So many bytes are there. -/
def okAt (s : ByteArray) (i m : Int) : Bool := decide (0 ≤ i ∧ i ≤ (s.size : Int) - m)
def v16 (s : ByteArray) (i : Int) : Int := if okAt s i 2 then g16 s i.toNat else 0
def v32 (s : ByteArray) (i : Int) : Int := if okAt s i 4 then g32 s i.toNat else 0
def vWith (s : ByteArray) (i : Int) (p : ByteArray) : ByteArray := if okAt s i p.size then withB s i.toNat p else ⟨#[]⟩
theorem okAt_yes {s : ByteArray} {k m : Nat} (h : k + m ≤ s.size) : okAt s k m = true := by unfold okAt; simp; omega
theorem okAt_no {s : ByteArray} {i m : Int} (h : i < 0 ∨ (s.size : Int) - m < i) : okAt s i m = false := by unfold okAt; simp; omega
theorem okAt_cases (s : ByteArray) (i m : Int) (_ : 0 ≤ m) : (∃ k : Nat, i = k ∧ (k : Int) + m ≤ s.size) ∨ (i < 0 ∨ (s.size : Int) - m < i) := by
  by_cases h : 0 ≤ i ∧ i ≤ (s.size : Int) - m
  · exact .inl ⟨i.toNat, by omega, by omega⟩
  · exact .inr (by omega)
/-- A slice of integers that came in: nil; or a row of 'cap' cells, the numbers 'zs' (the first 'len' are its elements), each fitting its kind. -/
def IsRow (k : IntKind) (w : World) (a : Option Addr) (len cap : Nat) (zs : List Int) : Prop :=
  (a = none ∧ len = 0 ∧ cap = 0 ∧ zs = []) ∨
  ∃ x, a = some x ∧ len ≤ cap ∧ cap ≤ maxLen ∧ zs.length = cap ∧ (∀ i, i < zs.length → w.cell? (x.add i) = some (.int k (zs.getD i 0))) ∧ ∀ n ∈ zs, (Lit.int k n).wf = true
/-- What a callee wants of a slice of integers: its elements. -/
def Row (k : IntKind) (w : World) (a : Option Addr) (len : Nat) (zs : List Int) : Prop :=
  zs.length = len ∧ (len = 0 ∨ ∃ b off, a = some ⟨b, off, none⟩ ∧ b < w.heap.size ∧ ∀ t, t < len → w.cell? ⟨b, off + t, none⟩ = some (.int k (zs.getD t 0)))
theorem addr_add (b o j : Nat) : (⟨b, o, none⟩ : Addr).add j = ⟨b, o + j, none⟩ := by unfold Addr.add; split <;> simp_all
theorem IsRow.row {k : IntKind} {w : World} {a : Option Addr} {len cap : Nat} {zs : List Int} (h : IsRow k w a len cap zs) : Row k w a len (zs.take len) := by
  rcases h with ⟨rfl, rfl, rfl, rfl⟩ | ⟨x, rfl, hl, hm, hz, hc, hw⟩
  · exact ⟨rfl, .inl rfl⟩
  · refine ⟨by simp; omega, ?_⟩
    by_cases h0 : len = 0
    · exact .inl h0
    · obtain ⟨b, off, spot⟩ := x
      have hc0 := hc 0 (by omega)
      have hspot : spot = none := by simpa [Addr.add] using World.cell?_spot hc0
      subst hspot
      refine .inr ⟨b, off, rfl, ?_, fun t ht => ?_⟩
      · have := World.block_lt_of_cell? w _ hc0
        simpa [addr_add] using this
      · have := hc t (by omega)
        rw [addr_add] at this
        rw [this]
        simp [List.getD, ht]
theorem IsRow.wf {k : IntKind} {w : World} {a : Option Addr} {len cap : Nat} {zs : List Int} (h : IsRow k w a len cap zs) : ∀ n ∈ zs.take len, (Lit.int k n).wf = true := by
  rcases h with ⟨rfl, rfl, rfl, rfl⟩ | ⟨x, rfl, hl, hm, hz, hc, hw⟩
  · intro n hn; simp at hn
  · intro n hn; exact hw n (List.mem_of_mem_take hn)
theorem IsRow.len_le {k : IntKind} {w : World} {a : Option Addr} {len cap : Nat} {zs : List Int} (h : IsRow k w a len cap zs) : len ≤ maxLen := by
  rcases h with ⟨rfl, rfl, rfl, rfl⟩ | ⟨x, rfl, hl, hm, hz, hc, hw⟩
  · exact Nat.zero_le _
  · omega
theorem Row.kept {k : IntKind} {w w' : World} {a : Option Addr} {len : Nat} {zs : List Int} (h : Row k w a len zs) (hb : Below w.heap.size w w') : Row k w' a len zs := by
  obtain ⟨h1, h2⟩ := h
  refine ⟨h1, h2.imp id ?_⟩
  rintro ⟨b, off, rfl, hlt, hc⟩
  exact ⟨b, off, rfl, Nat.lt_of_lt_of_le hlt hb.size, fun t ht => (hb.cell (by exact hlt)).trans (hc t ht)⟩
end Go.Proofs.Ytbbadpidolfleaa

namespace Go.Proofs.Ytbbadpidolfleaa
open Go.PlainAid
theorem getD_lt {α : Type} (l : List α) (i : Nat) (d : α) (h : i < l.length) : l.getD i d = l[i] := by simp [List.getD, h]
theorem getD_ge {α : Type} (l : List α) (i : Nat) (d : α) (h : l.length ≤ i) : l.getD i d = d := by simp [List.getD, h]
theorem getD_app_r {α : Type} (a b : List α) (i : Nat) (d : α) (h : a.length ≤ i) : (a ++ b).getD i d = b.getD (i - a.length) d := by simp [List.getD, List.getElem?_append_right h]
theorem getD_app_l {α : Type} (a b : List α) (i : Nat) (d : α) (h : i < a.length) : (a ++ b).getD i d = a.getD i d := by simp [List.getD, List.getElem?_append_left h]
theorem len_data (s : ByteArray) : s.data.toList.length = s.size := Array.length_toList
theorem bt_eq (s : ByteArray) (k : Nat) : bt s k = ((s.data.toList.getD k 0).toNat : Int) := by
  unfold bt
  by_cases h : k < s.size
  · have h' : k < s.data.toList.length := by rw [len_data]; exact h
    rw [dif_pos h, getD_lt _ _ _ h']
    rfl
  · rw [dif_neg h, getD_ge _ _ _ (by rw [len_data]; omega)]
    rfl
theorem data_append (a b : ByteArray) : (a ++ b).data.toList = a.data.toList ++ b.data.toList := by simp
theorem bt_append_right (a b : ByteArray) (j : Nat) : bt (a ++ b) (a.size + j) = bt b j := by
  rw [bt_eq, bt_eq, data_append, getD_app_r _ _ _ _ (by rw [len_data]; omega), len_data, Nat.add_sub_cancel_left]
theorem bt_append_left (a b : ByteArray) (j : Nat) (h : j < a.size) : bt (a ++ b) j = bt a j := by
  rw [bt_eq, bt_eq, data_append, getD_app_l _ _ _ _ (by rw [len_data]; omega)]
theorem bt_nums (xs : List Int) (j : Nat) (h : ∀ x ∈ xs, 0 ≤ x ∧ x ≤ 255) : bt (strOfNums xs) j = xs.getD j 0 := by
  rw [bt_eq, strOfNums_data]
  by_cases hj : j < xs.length
  · have hx := h xs[j] (List.getElem_mem hj)
    rw [getD_lt _ _ _ (by simpa using hj), getD_lt _ _ _ hj, List.getElem_map]
    have e : (UInt8.ofNat xs[j].toNat).toNat = xs[j].toNat % 256 := by simp
    rw [e]
    omega
  · rw [getD_ge _ _ _ (by simpa using hj), getD_ge _ _ _ (by omega)]
    rfl
theorem wordL_wf (zs : List Int) (h : ∀ n ∈ zs, 0 ≤ n ∧ n ≤ 65535) : ∀ x ∈ wordL zs, 0 ≤ x ∧ x ≤ 255 := by
  intro x hx
  simp only [wordL, List.mem_flatMap] at hx
  obtain ⟨n, hn, hx⟩ := hx
  have := h n hn
  simp at hx
  omega
theorem wordL_even : ∀ (zs : List Int) (i : Nat), (wordL zs).getD (2 * i) 0 = zs.getD i 0 / 256
  | [], i => by simp [wordL]
  | z :: r, 0 => by simp [wordL]
  | z :: r, i + 1 => by
    have := wordL_even r i
    rw [show 2 * (i + 1) = 2 * i + 2 by omega]
    simp [wordL] at this ⊢
    exact this
theorem wordL_odd : ∀ (zs : List Int) (i : Nat), (wordL zs).getD (2 * i + 1) 0 = zs.getD i 0 % 256
  | [], i => by simp [wordL]
  | z :: r, 0 => by simp [wordL]
  | z :: r, i + 1 => by
    have := wordL_odd r i
    rw [show 2 * (i + 1) + 1 = 2 * i + 1 + 2 by omega]
    simp [wordL] at this ⊢
    exact this
/-- Whatever stands ahead of the numbers' bytes, and behind: each number is there. -/
theorem g16_word (a b : ByteArray) (zs : List Int) (h : ∀ n ∈ zs, 0 ≤ n ∧ n ≤ 65535) (i : Nat) (hi : i < zs.length) : g16 (a ++ strOfNums (wordL zs) ++ b) (a.size + 2 * i) = zs.getD i 0 := by
  unfold g16
  have hs : (strOfNums (wordL zs)).size = 2 * zs.length := by rw [strOfNums_size, wordL_length]
  rw [bt_append_left _ _ (a.size + 2 * i) (by rw [ByteArray.size_append, hs]; omega), bt_append_left _ _ (a.size + 2 * i + 1) (by rw [ByteArray.size_append, hs]; omega), bt_append_right, Nat.add_assoc, bt_append_right, bt_nums _ _ (wordL_wf zs h), bt_nums _ _ (wordL_wf zs h), wordL_even, wordL_odd]
  omega
theorem g32_word (a : ByteArray) (n : Int) (h0 : 0 ≤ n) (h1 : n ≤ 4294967295) : g32 (a ++ strOfNums (wordL [n / 65536, n % 65536])) a.size = n := by
  have hw := wordL_wf [n / 65536, n % 65536] (by intro x hx; simp at hx; omega)
  have e0 := bt_append_right a (strOfNums (wordL [n / 65536, n % 65536])) 0
  rw [Nat.add_zero] at e0
  unfold g32
  rw [e0, bt_append_right, bt_append_right, bt_append_right, bt_nums _ _ hw, bt_nums _ _ hw, bt_nums _ _ hw, bt_nums _ _ hw]
  simp [wordL]
  omega
end Go.Proofs.Ytbbadpidolfleaa

namespace Go.Proofs.Ytbbadpidolfleaa
theorem ba_ext {a b : ByteArray} (h : a.data.toList = b.data.toList) : a = b := ByteArray.ext (Array.toList_inj.1 h)
theorem data_extract (s : ByteArray) (a b : Nat) : (s.extract a b).data.toList = (s.data.toList.take b).drop a := by
  simp [ByteArray.data_extract, List.extract, List.drop_take]
theorem size_extract' (s : ByteArray) (a b : Nat) (h1 : a ≤ b) (h2 : b ≤ s.size) : (s.extract a b).size = b - a := by
  rw [← len_data, data_extract, List.length_drop, List.length_take, len_data]; omega
theorem data_withB (s : ByteArray) (k : Nat) (p : ByteArray) (_ : k + p.size ≤ s.size) : (withB s k p).data.toList = s.data.toList.take k ++ p.data.toList ++ s.data.toList.drop (k + p.size) := by
  unfold withB
  rw [data_append, data_append, data_extract, data_extract, List.drop_zero, ← len_data s, List.take_length]
theorem size_withB (s : ByteArray) (k : Nat) (p : ByteArray) (h : k + p.size ≤ s.size) : (withB s k p).size = s.size := by
  rw [← len_data, data_withB s k p h, List.length_append, List.length_append, List.length_take, List.length_drop, len_data, len_data]; omega
theorem withB_ahead (s : ByteArray) (k : Nat) (p : ByteArray) (h : k + p.size ≤ s.size) : (withB s k p).extract 0 k = s.extract 0 k := by
  apply ba_ext
  have l := len_data s
  rw [data_extract, data_extract, data_withB s k p h, List.append_assoc, List.drop_zero, List.drop_zero, List.take_append_of_le_length (by rw [List.length_take]; omega), List.take_take, Nat.min_self]
theorem withB_there (s : ByteArray) (k : Nat) (p : ByteArray) (h : k + p.size ≤ s.size) : (withB s k p).extract k (k + p.size) = p := by
  apply ba_ext
  have l := len_data s
  have lp := len_data p
  have lt : (s.data.toList.take k).length = k := by rw [List.length_take]; omega
  rw [data_extract, data_withB s k p h, List.take_append_of_le_length (by rw [List.length_append, lt]; omega), List.take_of_length_le (by rw [List.length_append, lt]; omega), List.drop_append_of_le_length (by omega), List.drop_of_length_le (by omega), List.nil_append]
theorem withB_behind (s : ByteArray) (k : Nat) (p : ByteArray) (h : k + p.size ≤ s.size) : (withB s k p).extract (k + p.size) s.size = s.extract (k + p.size) s.size := by
  apply ba_ext
  have l := len_data s
  have lp := len_data p
  have hs := size_withB s k p h
  have lw := len_data (withB s k p)
  have lt : (s.data.toList.take k ++ p.data.toList).length = k + p.size := by rw [List.length_append, List.length_take]; omega
  rw [data_extract, data_extract, List.take_of_length_le (by omega), List.take_of_length_le (by omega), data_withB s k p h, List.drop_append_of_le_length (by omega), List.drop_of_length_le (by omega), List.nil_append]
theorem withB_back (s : ByteArray) (k : Nat) (p : ByteArray) (h : k + p.size ≤ s.size) : withB (withB s k p) k (s.extract k (k + p.size)) = s := by
  apply ba_ext
  have l := len_data s
  have lp := len_data p
  have hs := size_withB s k p h
  have lw := len_data (withB s k p)
  have lq := size_extract' s k (k + p.size) (by omega) h
  have a := congrArg (fun x => x.data.toList) (withB_ahead s k p h)
  have b := congrArg (fun x => x.data.toList) (withB_behind s k p h)
  simp only [data_extract, List.drop_zero] at a b
  rw [List.take_of_length_le (by omega), List.take_of_length_le (by omega)] at b
  rw [data_withB _ _ _ (by rw [hs, lq]; omega), a, lq, Nat.add_sub_cancel_left, b, data_extract]
  have e : s.data.toList.take k = (s.data.toList.take (k + p.size)).take k := by rw [List.take_take, Nat.min_eq_left (by omega)]
  rw [e, List.take_append_drop, List.take_append_drop]
end Go.Proofs.Ytbbadpidolfleaa
