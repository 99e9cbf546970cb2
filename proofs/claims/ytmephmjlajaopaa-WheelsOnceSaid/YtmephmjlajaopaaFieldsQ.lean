/- Plain mathematics: a text with a part in the place of as many bytes. -/
import Derived.Test.YtmephmjlajaopaaFieldsP
namespace Go.Proofs.Ytmephmjlajaopaa
theorem ba_ext {a b : ByteArray} (h : a.data.toList = b.data.toList) : a = b := ByteArray.ext (Array.toList_inj.1 h)
theorem data_extract (s : ByteArray) (a b : Nat) : (s.extract a b).data.toList = (s.data.toList.take b).drop a := by
  simp [ByteArray.data_extract, List.extract, List.drop_take]
theorem size_extract' (s : ByteArray) (a b : Nat) (h1 : a ≤ b) (h2 : b ≤ s.size) : (s.extract a b).size = b - a := by
  rw [← len_data, data_extract, List.length_drop, List.length_take, len_data]; omega
theorem data_withB (s : ByteArray) (k : Nat) (p : ByteArray) (_ : k + p.size ≤ s.size) : (withB s k p).data.toList = s.data.toList.take k ++ p.data.toList ++ s.data.toList.drop (k + p.size) := by
  unfold withB
  rw [data_append, data_append, data_extract, data_extract, List.drop_zero, ← len_data s, List.take_length]
theorem size_withB (s : ByteArray) (k : Nat) (p : ByteArray) (h : k + p.size ≤ s.size) : (withB s k p).size = s.size := by
  rw [← len_data, data_withB s k p h, List.length_append, List.length_append, List.length_take, List.length_drop, len_data, len_data]; omega
theorem withB_ahead (s : ByteArray) (k : Nat) (p : ByteArray) (h : k + p.size ≤ s.size) : (withB s k p).extract 0 k = s.extract 0 k := by
  apply ba_ext
  have l := len_data s
  rw [data_extract, data_extract, data_withB s k p h, List.append_assoc, List.drop_zero, List.drop_zero, List.take_append_of_le_length (by rw [List.length_take]; omega), List.take_take, Nat.min_self]
theorem withB_there (s : ByteArray) (k : Nat) (p : ByteArray) (h : k + p.size ≤ s.size) : (withB s k p).extract k (k + p.size) = p := by
  apply ba_ext
  have l := len_data s
  have lp := len_data p
  have lt : (s.data.toList.take k).length = k := by rw [List.length_take]; omega
  rw [data_extract, data_withB s k p h, List.take_append_of_le_length (by rw [List.length_append, lt]; omega), List.take_of_length_le (by rw [List.length_append, lt]; omega), List.drop_append_of_le_length (by omega), List.drop_of_length_le (by omega), List.nil_append]
theorem withB_behind (s : ByteArray) (k : Nat) (p : ByteArray) (h : k + p.size ≤ s.size) : (withB s k p).extract (k + p.size) s.size = s.extract (k + p.size) s.size := by
  apply ba_ext
  have l := len_data s
  have lp := len_data p
  have hs := size_withB s k p h
  have lw := len_data (withB s k p)
  have lt : (s.data.toList.take k ++ p.data.toList).length = k + p.size := by rw [List.length_append, List.length_take]; omega
  rw [data_extract, data_extract, List.take_of_length_le (by omega), List.take_of_length_le (by omega), data_withB s k p h, List.drop_append_of_le_length (by omega), List.drop_of_length_le (by omega), List.nil_append]
theorem withB_back (s : ByteArray) (k : Nat) (p : ByteArray) (h : k + p.size ≤ s.size) : withB (withB s k p) k (s.extract k (k + p.size)) = s := by
  apply ba_ext
  have l := len_data s
  have lp := len_data p
  have hs := size_withB s k p h
  have lw := len_data (withB s k p)
  have lq := size_extract' s k (k + p.size) (by omega) h
  have a := congrArg (fun x => x.data.toList) (withB_ahead s k p h)
  have b := congrArg (fun x => x.data.toList) (withB_behind s k p h)
  simp only [data_extract, List.drop_zero] at a b
  rw [List.take_of_length_le (by omega), List.take_of_length_le (by omega)] at b
  rw [data_withB _ _ _ (by rw [hs, lq]; omega), a, lq, Nat.add_sub_cancel_left, b, data_extract]
  have e : s.data.toList.take k = (s.data.toList.take (k + p.size)).take k := by rw [List.take_take, Nat.min_eq_left (by omega)]
  rw [e, List.take_append_drop, List.take_append_drop]
end Go.Proofs.Ytmephmjlajaopaa
