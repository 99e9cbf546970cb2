/- Plain mathematics: the bytes of texts that are put one behind the other. -/
import Derived.Test.YtmephmjlajaopaaFieldsD
namespace Go.Proofs.Ytmephmjlajaopaa
open Go.PlainAid
theorem getD_lt {α : Type} (l : List α) (i : Nat) (d : α) (h : i < l.length) : l.getD i d = l[i] := by simp [List.getD, h]
theorem getD_ge {α : Type} (l : List α) (i : Nat) (d : α) (h : l.length ≤ i) : l.getD i d = d := by simp [List.getD, h]
theorem getD_app_r {α : Type} (a b : List α) (i : Nat) (d : α) (h : a.length ≤ i) : (a ++ b).getD i d = b.getD (i - a.length) d := by simp [List.getD, List.getElem?_append_right h]
theorem getD_app_l {α : Type} (a b : List α) (i : Nat) (d : α) (h : i < a.length) : (a ++ b).getD i d = a.getD i d := by simp [List.getD, List.getElem?_append_left h]
theorem len_data (s : ByteArray) : s.data.toList.length = s.size := Array.length_toList
theorem bt_eq (s : ByteArray) (k : Nat) : bt s k = ((s.data.toList.getD k 0).toNat : Int) := by
  unfold bt
  by_cases h : k < s.size
  · have h' : k < s.data.toList.length := by rw [len_data]; exact h
    rw [dif_pos h, getD_lt _ _ _ h']
    rfl
  · rw [dif_neg h, getD_ge _ _ _ (by rw [len_data]; omega)]
    rfl
theorem data_append (a b : ByteArray) : (a ++ b).data.toList = a.data.toList ++ b.data.toList := by simp
theorem bt_append_right (a b : ByteArray) (j : Nat) : bt (a ++ b) (a.size + j) = bt b j := by
  rw [bt_eq, bt_eq, data_append, getD_app_r _ _ _ _ (by rw [len_data]; omega), len_data, Nat.add_sub_cancel_left]
theorem bt_append_left (a b : ByteArray) (j : Nat) (h : j < a.size) : bt (a ++ b) j = bt a j := by
  rw [bt_eq, bt_eq, data_append, getD_app_l _ _ _ _ (by rw [len_data]; omega)]
theorem bt_nums (xs : List Int) (j : Nat) (h : ∀ x ∈ xs, 0 ≤ x ∧ x ≤ 255) : bt (strOfNums xs) j = xs.getD j 0 := by
  rw [bt_eq, strOfNums_data]
  by_cases hj : j < xs.length
  · have hx := h xs[j] (List.getElem_mem hj)
    rw [getD_lt _ _ _ (by simpa using hj), getD_lt _ _ _ hj, List.getElem_map]
    have e : (UInt8.ofNat xs[j].toNat).toNat = xs[j].toNat % 256 := by simp
    rw [e]
    omega
  · rw [getD_ge _ _ _ (by simpa using hj), getD_ge _ _ _ (by omega)]
    rfl
theorem wordL_wf (zs : List Int) (h : ∀ n ∈ zs, 0 ≤ n ∧ n ≤ 65535) : ∀ x ∈ wordL zs, 0 ≤ x ∧ x ≤ 255 := by
  intro x hx
  simp only [wordL, List.mem_flatMap] at hx
  obtain ⟨n, hn, hx⟩ := hx
  have := h n hn
  simp at hx
  omega
theorem wordL_even : ∀ (zs : List Int) (i : Nat), (wordL zs).getD (2 * i) 0 = zs.getD i 0 / 256
  | [], i => by simp [wordL]
  | z :: r, 0 => by simp [wordL]
  | z :: r, i + 1 => by
    have := wordL_even r i
    rw [show 2 * (i + 1) = 2 * i + 2 by omega]
    simp [wordL] at this ⊢
    exact this
theorem wordL_odd : ∀ (zs : List Int) (i : Nat), (wordL zs).getD (2 * i + 1) 0 = zs.getD i 0 % 256
  | [], i => by simp [wordL]
  | z :: r, 0 => by simp [wordL]
  | z :: r, i + 1 => by
    have := wordL_odd r i
    rw [show 2 * (i + 1) + 1 = 2 * i + 1 + 2 by omega]
    simp [wordL] at this ⊢
    exact this
/-- Whatever stands ahead of the numbers' bytes, and behind: each number is there. -/
theorem g16_word (a b : ByteArray) (zs : List Int) (h : ∀ n ∈ zs, 0 ≤ n ∧ n ≤ 65535) (i : Nat) (hi : i < zs.length) : g16 (a ++ strOfNums (wordL zs) ++ b) (a.size + 2 * i) = zs.getD i 0 := by
  unfold g16
  have hs : (strOfNums (wordL zs)).size = 2 * zs.length := by rw [strOfNums_size, wordL_length]
  rw [bt_append_left _ _ (a.size + 2 * i) (by rw [ByteArray.size_append, hs]; omega), bt_append_left _ _ (a.size + 2 * i + 1) (by rw [ByteArray.size_append, hs]; omega), bt_append_right, Nat.add_assoc, bt_append_right, bt_nums _ _ (wordL_wf zs h), bt_nums _ _ (wordL_wf zs h), wordL_even, wordL_odd]
  omega
theorem g32_word (a : ByteArray) (n : Int) (h0 : 0 ≤ n) (h1 : n ≤ 4294967295) : g32 (a ++ strOfNums (wordL [n / 65536, n % 65536])) a.size = n := by
  have hw := wordL_wf [n / 65536, n % 65536] (by intro x hx; simp at hx; omega)
  have e0 := bt_append_right a (strOfNums (wordL [n / 65536, n % 65536])) 0
  rw [Nat.add_zero] at e0
  unfold g32
  rw [e0, bt_append_right, bt_append_right, bt_append_right, bt_nums _ _ hw, bt_nums _ _ hw, bt_nums _ _ hw, bt_nums _ _ hw]
  simp [wordL]
  omega
end Go.Proofs.Ytmephmjlajaopaa
