/- The thirteen bytes as a text (layer 12); the contract of the document's Bytes. -/
import Derived.Test.YtijippfcobgidaaHasA
import Derived.Test.YtijippfcobgidaaBox5
import Derived.Test.YtijippfcobgidaaLead
import Derived.Deep.RegionHeld
namespace Go.Proofs.Ytijippfcobgidaa
set_option linter.unusedVariables false
set_option linter.unusedSimpArgs false
open Go.ChangeShapes Go.WideShapes Go.ChangeAt Go.RowKit Go.PlainAid
def haI (l : List Nat) : List Int := l.map (fun n : Nat => (n : Int))
def ptS (a p : Nat) : ByteArray := strOfNums (haI (b4 a ++ b2 p))
def haS (pr sa sp da dp : Nat) : ByteArray := strOfNums (haI (haBytes pr sa sp da dp))
theorem haI_app (a b : List Nat) : haI (a ++ b) = haI a ++ haI b := List.map_append
theorem word4 (n : Nat) (h : n < 4294967296) : wordL [(n : Int) / 65536, (n : Int) % 65536] = haI (b4 n) := by
  show [(n : Int) / 65536 / 256, (n : Int) / 65536 % 256, (n : Int) % 65536 / 256, (n : Int) % 65536 % 256] = [((n / 16777216 % 256 : Nat) : Int), ((n / 65536 % 256 : Nat) : Int), ((n / 256 % 256 : Nat) : Int), ((n % 256 : Nat) : Int)]
  simp only [List.cons.injEq, and_true]
  omega
theorem word2 (n : Nat) (h : n < 65536) : wordL [(n : Int)] = haI (b2 n) := by
  show [(n : Int) / 256, (n : Int) % 256] = [((n / 256 % 256 : Nat) : Int), ((n % 256 : Nat) : Int)]
  simp only [List.cons.injEq, and_true]
  omega
theorem pt_two (a p : Nat) (ha : a < 4294967296) (hp : p < 65536) : strOfNums (wordL [(a : Int) / 65536, (a : Int) % 65536]) ++ strOfNums (wordL [(p : Int)]) = ptS a p := by
  rw [word4 a ha, word2 p hp, strOfNums_append, ← haI_app]; rfl
theorem ha_pts (pr sa sp da dp : Nat) : strOfNums [(pr : Int)] ++ (ptS sa sp ++ ptS da dp) = haS pr sa sp da dp := by
  unfold ptS haS haBytes
  rw [strOfNums_append, strOfNums_append, ← haI_app]
  show strOfNums (haI [pr] ++ haI _) = _
  rw [← haI_app, List.append_assoc]
  rfl
theorem b4_lt {n x : Nat} (h : x ∈ b4 n) : x < 256 := by
  simp only [b4, List.mem_cons, List.not_mem_nil, or_false] at h
  rcases h with rfl | rfl | rfl | rfl <;> exact Nat.mod_lt _ (by omega)
theorem b2_lt {n x : Nat} (h : x ∈ b2 n) : x < 256 := by
  simp only [b2, List.mem_cons, List.not_mem_nil, or_false] at h
  rcases h with rfl | rfl <;> exact Nat.mod_lt _ (by omega)
theorem haBytes_lt {pr sa sp da dp x : Nat} (hp : pr < 256) (h : x ∈ haBytes pr sa sp da dp) : x < 256 := by
  unfold haBytes at h
  simp only [List.mem_cons, List.mem_append] at h
  rcases h with rfl | h | h | h | h
  · exact hp
  · exact b4_lt h
  · exact b2_lt h
  · exact b4_lt h
  · exact b2_lt h
theorem haBytes_len (pr sa sp da dp : Nat) : (haBytes pr sa sp da dp).length = 13 := rfl
theorem haI_bd {l : List Nat} (h : ∀ x ∈ l, x < 256) : ∀ x ∈ haI l, 0 ≤ x ∧ x ≤ 255 := by
  intro x hx
  obtain ⟨n, hn, rfl⟩ := List.mem_map.1 hx
  have := h n hn
  omega
theorem haI_getD (l : List Nat) (k : Nat) : (haI l).getD k 0 = ((l.getD k 0 : Nat) : Int) := by
  unfold haI
  simp only [List.getD_eq_getElem?_getD, List.getElem?_map]
  cases l[k]? <;> rfl
theorem size_nums (l : List Int) : (strOfNums l).size = l.length := by
  rw [← ByteArray.size_data]; simp [strOfNums]
theorem haS_size (pr sa sp da dp : Nat) : (haS pr sa sp da dp).size = 13 := by unfold haS; rw [size_nums]; rfl
theorem ptS_size (a p : Nat) : (ptS a p).size = 6 := by unfold ptS; rw [size_nums]; rfl
theorem haS_bt (pr sa sp da dp k : Nat) (hp : pr < 256) : bt (haS pr sa sp da dp) k = (((haBytes pr sa sp da dp).getD k 0 : Nat) : Int) := by
  unfold haS
  rw [bt_nums _ _ (haI_bd fun x hx => haBytes_lt hp hx), haI_getD]
theorem ptS_bt (sa sp da dp k : Nat) : bt (ptS sa sp ++ ptS da dp) k = (((b4 sa ++ b2 sp ++ (b4 da ++ b2 dp)).getD k 0 : Nat) : Int) := by
  unfold ptS
  rw [strOfNums_append, ← haI_app, bt_nums, haI_getD]
  refine haI_bd fun x hx => ?_
  simp only [List.mem_append] at hx
  rcases hx with (h | h) | (h | h)
  · exact b4_lt h
  · exact b2_lt h
  · exact b4_lt h
  · exact b2_lt h
end Go.Proofs.Ytijippfcobgidaa
