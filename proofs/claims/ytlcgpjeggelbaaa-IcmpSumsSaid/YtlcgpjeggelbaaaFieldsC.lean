/- Contracts of the document's answers for layer 1. -/
import Derived.Test.YtlcgpjeggelbaaaFieldsB
namespace Go.Proofs.Ytlcgpjeggelbaaa
open Go.ChangeShapes Go.WideShapes Go.ChangeAt Go.RowKit Go.PlainAid

/-- The number of the first bytes from a place on. -/
def numB (s : ByteArray) (k : Nat) : Nat → Int
  | 0 => 0
  | i + 1 => numB s k i * 256 + bt s (k + i)
theorem numB_nonneg (s : ByteArray) (k : Nat) : ∀ i, 0 ≤ numB s k i
  | 0 => by simp [numB]
  | i + 1 => by have := numB_nonneg s k i; have := bt_nonneg s (k + i); simp only [numB]; omega
theorem numB_le3 (s : ByteArray) (k i : Nat) (h : i ≤ 3) : numB s k i ≤ 16777215 := by
  have a0 := bt_nonneg s (k + 0)
  have a1 := bt_nonneg s (k + 1)
  have a2 := bt_nonneg s (k + 2)
  have b0 := bt_le s (k + 0)
  have b1 := bt_le s (k + 1)
  have b2 := bt_le s (k + 2)
  match i, h with
  | 0, _ => simp [numB]
  | 1, _ => simp only [numB]; omega
  | 2, _ => simp only [numB]; omega
  | 3, _ => simp only [numB]; omega
theorem numB_2 (s : ByteArray) (k : Nat) : numB s k 2 = g16 s k := by simp [numB, g16]
theorem numB_4 (s : ByteArray) (k : Nat) : numB s k 4 = g32 s k := by simp only [numB, g32, Nat.add_zero]; omega
theorem g16_nonneg (s : ByteArray) (k : Nat) : 0 ≤ g16 s k := by have := bt_nonneg s k; have := bt_nonneg s (k + 1); unfold g16; omega
theorem g16_le (s : ByteArray) (k : Nat) : g16 s k ≤ 65535 := by have := bt_le s k; have := bt_le s (k + 1); unfold g16; omega

set_option maxHeartbeats 400000 in
theorem rthere_yes (s : ByteArray) (i m : Int) (w : World) (hs : s.size ≤ maxLen) (h0 : 0 ≤ i) (h1 : i ≤ (s.size : Int) - m) (hm0 : 0 ≤ m) (hm1 : m ≤ 9223372036854775807) :
    Calls Try.prog 43 #[.string s, .int .i64 i, .int .i64 m] w fun e w' => e = .returned (.bool true) ∧ w = w' := by
  unfold maxLen at hs
  go_enter Try.func43, Try.ntmps43
  go_wp2
  go_ret
  exact ⟨rfl, rfl⟩
set_option maxHeartbeats 400000 in
theorem rthere_no (s : ByteArray) (i m : Int) (w : World) (hs : s.size ≤ maxLen) (h : i < 0 ∨ (s.size : Int) - m < i) (hm0 : 0 ≤ m) (hm1 : m ≤ 9223372036854775807) :
    Calls Try.prog 43 #[.string s, .int .i64 i, .int .i64 m] w fun e w' => e = .returned (.bool false) ∧ w = w' := by
  unfold maxLen at hs
  by_cases h0 : i < 0
  · go_enter Try.func43, Try.ntmps43
    go_wp2
    go_ret
    exact ⟨rfl, rfl⟩
  · have h1 : (s.size : Int) - m < i := by omega
    clear h
    have h2 : decide (i ≤ (s.size : Int) - m) = false := by simp; omega
    go_enter Try.func43, Try.ntmps43
    go_wp2
    go_ret
    exact ⟨rfl, rfl⟩

set_option maxHeartbeats 400000 in
theorem rget_no (s : ByteArray) (i m : Int) (w : World) (hs : s.size ≤ maxLen) (h : i < 0 ∨ (s.size : Int) - m < i) (hm0 : 0 ≤ m) (hm1 : m ≤ 9223372036854775807) :
    Calls Try.prog 38 #[.string s, .int .i64 i, .int .i64 m] w fun e w' => e = .returned (.tuple #[.int .u32 0, .bool false]) ∧ w = w' := by
  go_enter Try.func38, Try.ntmps38
  go_wp2_with (go_at_call 43; refine (rthere_no _ _ _ _ hs h hm0 hm1).mono ?_; rintro e w' ⟨rfl, rfl⟩)
  go_ret2
  exact ⟨rfl, rfl⟩
set_option maxHeartbeats 400000 in
theorem rget_yes (s : ByteArray) (k m : Nat) (w : World) (hs : s.size ≤ maxLen) (h : k + m ≤ s.size) (hm : m ≤ 4) :
    Calls Try.prog 38 #[.string s, .int .i64 k, .int .i64 m] w fun e w' => e = .returned (.tuple #[.int .u32 (numB s k m), .bool true]) ∧ w = w' := by
  have hs' := hs
  unfold maxLen at hs'
  have h1 : (k : Int) ≤ (s.size : Int) - m := by omega
  go_enter Try.func38, Try.ntmps38
  go_wp2_with (go_at_call 43; refine (rthere_yes _ _ _ _ hs (by omega) h1 (by omega) (by omega)).mono ?_; rintro e w' ⟨rfl, rfl⟩)
  go_loop [8, 9] (fun v si => ∃ i : Nat, i ≤ m ∧ si = .int .i64 i ∧ v = .int .u32 (numB s k i)) (fun _ si => m - (intOf si).toNat)
  case atStart => exact ⟨0, Nat.zero_le _, rfl, rfl⟩
  case round =>
    obtain ⟨i, hi, rfl, rfl⟩ := hrel
    by_cases hlt : i < m
    · have hb := get_bt s
      have a0 := numB_nonneg s k i
      have a1 := numB_le3 s k i (by omega)
      have a2 := bt_nonneg s (k + i)
      have a3 := bt_le s (k + i)
      have HN : Hid (numB s k (i + 1) = numB s k i * 256 + bt s (k + i)) := rfl
      go_wp2
      clear hb
      go_round
      case rel => exact ⟨i + 1, by omega, by go_num, by rw [HN.out]⟩
      case measure => simp [intOf]; omega
    · have hie : i = m := by omega
      have HIE := Lib.hid hie
      clear hie
      go_wp2
      go_ret2
      refine ⟨?_, rfl⟩
      rw [← HIE.out]
      rfl
set_option maxHeartbeats 400000 in
theorem rget16_no (s : ByteArray) (i : Int) (w : World) (hs : s.size ≤ maxLen) (h : i < 0 ∨ (s.size : Int) - 2 < i) :
    Calls Try.prog 26 #[.string s, .int .i64 i] w fun e w' => e = .returned (.tuple #[.int .u16 0, .bool false]) ∧ w = w' := by
  go_enter Try.func26, Try.ntmps26
  go_wp2_with (go_at_call 38; refine (rget_no _ _ _ _ hs h (by omega) (by omega)).mono ?_; rintro e w' ⟨rfl, rfl⟩)
  go_ret2
  exact ⟨rfl, rfl⟩
set_option maxHeartbeats 400000 in
theorem rget16_yes (s : ByteArray) (k : Nat) (w : World) (hs : s.size ≤ maxLen) (h : k + 2 ≤ s.size) :
    Calls Try.prog 26 #[.string s, .int .i64 k] w fun e w' => e = .returned (.tuple #[.int .u16 (g16 s k), .bool true]) ∧ w = w' := by
  have a0 := g16_nonneg s k
  have a1 := g16_le s k
  go_enter Try.func26, Try.ntmps26
  go_wp2_with (go_at_call 38; refine (rget_yes _ _ 2 _ hs h (by omega)).mono ?_; rw [numB_2]; rintro e w' ⟨rfl, rfl⟩)
  go_ret2
  exact ⟨rfl, rfl⟩
end Go.Proofs.Ytlcgpjeggelbaaa
