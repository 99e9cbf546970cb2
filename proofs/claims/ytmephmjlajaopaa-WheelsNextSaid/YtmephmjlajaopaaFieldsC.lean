/- Contracts of the document's answers for layer 1. -/
import Derived.Test.YtmephmjlajaopaaFieldsB
namespace Go.Proofs.Ytmephmjlajaopaa
open Go.ChangeShapes Go.WideShapes Go.ChangeAt Go.RowKit Go.PlainAid

/-- The number of the first bytes from a place on. -/
def numB (s : ByteArray) (k : Nat) : Nat → Int
  | 0 => 0
  | i + 1 => numB s k i * 256 + bt s (k + i)
theorem numB_nonneg (s : ByteArray) (k : Nat) : ∀ i, 0 ≤ numB s k i
  | 0 => by simp [numB]
  | i + 1 => by have := numB_nonneg s k i; have := bt_nonneg s (k + i); simp only [numB]; omega
theorem numB_le3 (s : ByteArray) (k i : Nat) (h : i ≤ 3) : numB s k i ≤ 16777215 := by
  have a0 := bt_nonneg s (k + 0)
  have a1 := bt_nonneg s (k + 1)
  have a2 := bt_nonneg s (k + 2)
  have b0 := bt_le s (k + 0)
  have b1 := bt_le s (k + 1)
  have b2 := bt_le s (k + 2)
  match i, h with
  | 0, _ => simp [numB]
  | 1, _ => simp only [numB]; omega
  | 2, _ => simp only [numB]; omega
  | 3, _ => simp only [numB]; omega
theorem numB_2 (s : ByteArray) (k : Nat) : numB s k 2 = g16 s k := by simp [numB, g16]
theorem numB_4 (s : ByteArray) (k : Nat) : numB s k 4 = g32 s k := by simp only [numB, g32, Nat.add_zero]; omega
theorem g16_nonneg (s : ByteArray) (k : Nat) : 0 ≤ g16 s k := by have := bt_nonneg s k; have := bt_nonneg s (k + 1); unfold g16; omega
theorem g16_le (s : ByteArray) (k : Nat) : g16 s k ≤ 65535 := by have := bt_le s k; have := bt_le s (k + 1); unfold g16; omega

end Go.Proofs.Ytmephmjlajaopaa
