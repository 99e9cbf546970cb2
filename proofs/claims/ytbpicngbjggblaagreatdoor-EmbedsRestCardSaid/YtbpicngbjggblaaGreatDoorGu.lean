/- Texts of this proof, together: RewM, RewZ, RewK. -/
import Derived.Test.YtbpicngbjggblaaGreatDoorGs
import Derived.Test.YtbpicngbjggblaaGreatDoorGr
import Derived.Test.YtbpicngbjggblaaGreatDoorGi
import Derived.Test.YtbpicngbjggblaaGreatDoorGg
import Derived.Test.YtbpicngbjggblaaGreatDoorGl
import Derived.Test.YtbpicngbjggblaaGreatDoorSumsVoid
import Derived.Test.YtbpicngbjggblaaGreatDoorGc
import Derived.Test.YtbpicngbjggblaaGreatDoorGe
import Derived.Test.YtbpicngbjggblaaGreatDoorSumsTurned
import Derived.BigRegion
import Derived.Deep.DeepCutAuto
namespace Go.Proofs.YtbpicngbjggblaaGreatDoor
set_option linter.unusedVariables false
set_option linter.unusedSimpArgs false
open Go.ChangeShapes Go.WideShapes Go.ChangeAt Go.RowKit Go.PlainAid
attribute [local go_sem ↓] Go.wp_at_zero Go.wp_at_succ
end Go.Proofs.YtbpicngbjggblaaGreatDoor

namespace Go.Proofs.YtbpicngbjggblaaGreatDoor
set_option linter.unusedVariables false
set_option linter.unusedSimpArgs false
open Go.ChangeShapes Go.WideShapes Go.ChangeAt Go.RowKit Go.PlainAid
attribute [local go_sem ↓] Go.wp_at_zero Go.wp_at_succ
theorem wrap64_in_ (n : Int) (h0 : n ≤ 9223372036854775807) (h1 : -9223372036854775808 ≤ n) : wrap64 n = n := by unfold wrap64; omega
end Go.Proofs.YtbpicngbjggblaaGreatDoor

namespace Go.Proofs.YtbpicngbjggblaaGreatDoor
set_option linter.unusedVariables false
set_option linter.unusedSimpArgs false
open Go.ChangeShapes Go.WideShapes Go.ChangeAt Go.RowKit Go.PlainAid
attribute [local go_sem ↓] Go.wp_at_zero Go.wp_at_succ
theorem conv_bts {w : World} {g n c : Nat} {T : ByteArray} (h : Bts w g n (bt T)) (hn : T.size = n) : (convert 45 9 (.slice (some ⟨g, 0, none⟩) n c)).run Tryz.prog w = .ok (.string T) w := by
  have xl : ((List.range n).map (bt T)).length = n := by simp
  have xg : ∀ i, i < n → ((List.range n).map (bt T)).getD i 0 = bt T i := by intro i hi; rw [getD_lt _ _ _ (by omega)]; simp
  have k := run_convert_bytes_arg (P := Tryz.prog) w 45 5 Tryz.underlying45 Tryz.underlying5 g 0 n c _ xl (by intro i hi; rw [Nat.zero_add, (h i hi).1, xg i hi]) 9 Tryz.underlying9
  have e : strOfNums ((List.range n).map (bt T)) = T := by
    refine ba_bt (by rw [strOfNums_size, xl, hn]) fun i hi => ?_
    rw [strOfNums_size, xl] at hi
    rw [bt_nums _ _ (by
      intro x hx
      obtain ⟨j, _, rfl⟩ := List.mem_map.1 hx
      exact ⟨bt_nonneg T j, bt_le T j⟩), xg i hi]
  rw [e] at k
  exact k
theorem plB0_bt {s : ByteArray} (h : 20 ≤ s.size) (j : Nat) : bt (plB0 s) j = if j = 11 then 0 else if j = 10 then 0 else if j = 8 then 0 else bt s j := by
  have e1 : (withB s 8 (strOfNums [0])).size = s.size := size_withB s 8 _ (by rw [strOfNums_size]; show 8 + 1 ≤ _; omega)
  have z1 : (strOfNums [0]).size = 1 := rfl
  have z2 : (strOfNums (wordL [0])).size = 2 := rfl
  have w0 : ∀ i, bt (strOfNums (wordL [0])) i = 0 := by
    intro i
    rw [bt_nums _ _ (by decide)]
    match i with
    | 0 => rfl
    | 1 => rfl
    | i + 2 => rfl
  have w1 : ∀ i, bt (strOfNums [0]) i = 0 := by
    intro i
    rw [bt_nums _ _ (by decide)]
    match i with
    | 0 => rfl
    | i + 1 => rfl
  unfold plB0
  rw [bt_with _ _ _ _ (by rw [e1, z2]; omega), bt_with _ _ _ _ (by rw [z1]; omega), z1, z2, w0, w1]
  by_cases c11 : j = 11
  · rw [if_pos (by omega), if_pos c11]
  rw [if_neg c11]
  by_cases c10 : j = 10
  · rw [if_pos (by omega), if_pos c10]
  rw [if_neg (by omega), if_neg c10]
  by_cases c8 : j = 8
  · rw [if_pos (by omega), if_pos c8]
  rw [if_neg (by omega), if_neg c8]
theorem plB1_bt {T : ByteArray} {k : Nat} (h : k + 2 ≤ T.size) (j : Nat) : bt (withB T k (strOfNums (wordL [0]))) j = if j = k + 1 then 0 else if j = k then 0 else bt T j := by
  have z2 : (strOfNums (wordL [0])).size = 2 := rfl
  have w0 : ∀ i, bt (strOfNums (wordL [0])) i = 0 := by
    intro i
    rw [bt_nums _ _ (by decide)]
    match i with
    | 0 => rfl
    | 1 => rfl
    | i + 2 => rfl
  rw [bt_with _ _ _ _ (by rw [z2]; omega), z2, w0]
  by_cases c1 : j = k + 1
  · rw [if_pos (by omega), if_pos c1]
  rw [if_neg c1]
  by_cases c0 : j = k
  · rw [if_pos (by omega), if_pos c0]
  rw [if_neg (by omega), if_neg c0]
end Go.Proofs.YtbpicngbjggblaaGreatDoor
