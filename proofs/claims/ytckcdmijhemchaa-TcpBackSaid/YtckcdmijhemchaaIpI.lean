/- Contracts of package ip: Parse. -/
import Derived.Test.YtckcdmijhemchaaIpH
namespace Go.Proofs.Ytckcdmijhemchaa
set_option linter.unusedVariables false
set_option linter.unusedSimpArgs false
open Go.ChangeShapes Go.WideShapes Go.ChangeAt Go.RowKit Go.PlainAid
attribute [local go_sem ↓] Go.wp_at_zero Go.wp_at_succ
theorem g32_ext0 (s : ByteArray) (n i : Nat) (hi : i + 3 < n) (hn : n ≤ s.size) : g32 (s.extract 0 n) i = g32 s i := by
  rw [g32_two, g32_two, g16_ext0 s n i (by omega) hn, g16_ext0 s n (i + 2) (by omega) hn]
theorem ext_ext0 (s : ByteArray) (n i : Nat) : (s.extract 0 n).extract i n = s.extract i n := by
  apply ba_ext
  rw [data_extract, data_extract, data_extract, List.drop_zero, List.take_take, Nat.min_self]
/-- What a header says that is taken. -/
theorem pR_facts {s : ByteArray} (h : pR s = 0) : 20 ≤ s.size ∧ 20 ≤ ownN s ∧ ownN s ≤ 60 ∧ ownN s ≤ s.size ∧ (ownN s : Int) ≤ g16 s 2 ∧ g16 s 2 ≤ (s.size : Int) ∧ g16 s 2 ≤ 2048 ∧ (g16 s 6 = 0 ∨ g16 s 6 = 16384) := by
  have b0 := bt_nonneg s 0
  have b1 := bt_le s 0
  have h60 : ownN s ≤ 60 := by unfold ownN; omega
  unfold pR at h
  by_cases h1 : s.size < 20
  · rw [if_pos h1] at h; omega
  rw [if_neg h1] at h
  by_cases h2 : bt s 0 / 16 = 4
  rotate_left
  · rw [if_pos h2] at h; omega
  rw [if_neg (not_not_intro h2)] at h
  by_cases h3 : ownN s < 20 ∨ s.size < ownN s ∨ g16 s 2 < (ownN s : Int) ∨ (s.size : Int) < g16 s 2 ∨ 2048 < g16 s 2
  · rw [if_pos h3] at h; omega
  rw [if_neg h3] at h
  by_cases hh : holdsV [s.extract 0 (ownN s)] = false
  · rw [if_pos hh] at h; omega
  rw [if_neg hh] at h
  by_cases h4 : ¬ g16 s 6 = 0 ∧ ¬ g16 s 6 = 16384
  · rw [if_pos h4] at h; omega
  omega
end Go.Proofs.Ytckcdmijhemchaa
