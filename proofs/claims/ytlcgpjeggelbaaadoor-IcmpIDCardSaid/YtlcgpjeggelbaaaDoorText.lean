/- Texts as lists of bytes. -/
import Derived.PlainAid
import Derived.Lib.Bytealg
import Derived.Lib.Hide
namespace Go.Proofs.YtlcgpjeggelbaaaDoor
open Go.PlainAid
/-- The text of a list of bytes. -/
def str (l : List UInt8) : ByteArray := ⟨l.toArray⟩
theorem str_of (s : ByteArray) : ∃ l, s = str l := ⟨s.data.toList, by cases s; simp [str]⟩
theorem str_data (l : List UInt8) : (str l).data.toList = l := by simp [str]
theorem str_toList (l : List UInt8) : (str l).toList = l := by rw [Lib.toList_data, str_data]
theorem str_size (l : List UInt8) : (str l).size = l.length := by rw [← ByteArray.size_data]; simp [str]
theorem str_inj {a b : List UInt8} (h : str a = str b) : a = b := by rw [← str_data a, h, str_data]
theorem str_ext {a b : ByteArray} (h : a.data.toList = b.data.toList) : a = b := ByteArray.ext (Array.toList_inj.1 h)
theorem str_app (a b : List UInt8) : str a ++ str b = str (a ++ b) := by apply str_ext; simp [str]
theorem str_extract (l : List UInt8) (i j : Nat) : (str l).extract i j = str ((l.take j).drop i) := by
  apply str_ext
  rw [str_data]
  simp [ByteArray.data_extract, List.extract, List.drop_take, str]
theorem str_bt (l : List UInt8) (k : Nat) : bt (str l) k = ((l.getD k 0).toNat : Int) := by
  unfold bt
  by_cases h : k < (str l).size
  · have h' : k < l.length := by rw [← str_size]; exact h
    rw [dif_pos h]
    simp [List.getD, h']
    rfl
  · have h' : l.length ≤ k := by rw [← str_size]; omega
    rw [dif_neg h]
    simp [List.getD, h']
theorem index_app (c : UInt8) : ∀ (a b : List UInt8), c ∉ a → Lib.indexByte (a ++ c :: b) c = (a.length : Int)
  | [], b, _ => by simp [Lib.indexByte]
  | x :: r, b, h => by
    simp at h
    have e := index_app c r b h.2
    have h1 : (x == c) = false := by simpa using Ne.symm h.1
    have h2 : (Lib.indexByte (r ++ c :: b) c == -1) = false := by rw [e]; simp
    simp [Lib.indexByte, h1, h2]
    rw [e]
theorem index_none (c : UInt8) : ∀ (a : List UInt8), c ∉ a → Lib.indexByte a c = -1
  | [], _ => by simp [Lib.indexByte]
  | x :: r, h => by
    simp at h
    have h1 : (x == c) = false := by simpa using Ne.symm h.1
    simp [Lib.indexByte, h1, index_none c r h.2]
end Go.Proofs.YtlcgpjeggelbaaaDoor
