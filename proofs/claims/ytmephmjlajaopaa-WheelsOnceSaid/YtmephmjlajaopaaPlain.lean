/- Plain mathematics: bytes of a text as numbers; the numbers of two and four bytes. -/
import Derived.PlainAid
import Derived.Laws.BitsAllLaws
import Derived.Lib.Hide
namespace Go.Proofs.Ytmephmjlajaopaa
open Go.PlainAid Go.RowKit

theorem u16_hl (a b : Int) (ha : 0 ≤ a) (ha' : a ≤ 255) (hb : 0 ≤ b) (hb' : b ≤ 255) : bits .or .u16 (a * 256) b = a * 256 + b := by
  rw [u16_or _ _ (by omega) (by omega) hb (by omega)]
  have h := Nat.two_pow_add_eq_or_of_lt (i := 8) (b := b.toNat) (by omega) a.toNat
  have e : (a * 256).toNat = 2 ^ 8 * a.toNat := by omega
  rw [e, ← h]
  omega
theorem u32_hl8 (a b : Int) (ha : 0 ≤ a) (ha' : a ≤ 255) (hb : 0 ≤ b) (hb' : b ≤ 255) : bits .or .u32 (a * 256) b = a * 256 + b := by
  rw [u32_or _ _ (by omega) (by omega) hb (by omega)]
  have h := Nat.two_pow_add_eq_or_of_lt (i := 8) (b := b.toNat) (by omega) a.toNat
  have e : (a * 256).toNat = 2 ^ 8 * a.toNat := by omega
  rw [e, ← h]
  omega
theorem u32_hl24 (a b : Int) (ha : 0 ≤ a) (ha' : a ≤ 255) (hb : 0 ≤ b) (hb' : b ≤ 255) : bits .or .u32 (a * 16777216) (b * 65536) = a * 16777216 + b * 65536 := by
  rw [u32_or _ _ (by omega) (by omega) (by omega) (by omega)]
  have h := Nat.two_pow_add_eq_or_of_lt (i := 24) (b := b.toNat * 65536) (by omega) a.toNat
  have e : (a * 16777216).toNat = 2 ^ 24 * a.toNat := by omega
  have e' : (b * 65536).toNat = b.toNat * 65536 := by omega
  rw [e, e', ← h]
  omega
theorem u32_hl16 (a b c : Int) (ha : 0 ≤ a) (ha' : a ≤ 255) (hb : 0 ≤ b) (hb' : b ≤ 255) (hc : 0 ≤ c) (hc' : c ≤ 65535) : bits .or .u32 (a * 16777216 + b * 65536) c = a * 16777216 + b * 65536 + c := by
  rw [u32_or _ _ (by omega) (by omega) (by omega) (by omega)]
  have h := Nat.two_pow_add_eq_or_of_lt (i := 16) (b := c.toNat) (by omega) (a.toNat * 256 + b.toNat)
  have e : (a * 16777216 + b * 65536).toNat = 2 ^ 16 * (a.toNat * 256 + b.toNat) := by omega
  rw [e, ← h]
  omega
/-- The number of two bytes, of four, at a place. -/
def g16 (s : ByteArray) (k : Nat) : Int := bt s k * 256 + bt s (k + 1)
def g32 (s : ByteArray) (k : Nat) : Int := bt s k * 16777216 + bt s (k + 1) * 65536 + bt s (k + 2) * 256 + bt s (k + 3)
end Go.Proofs.Ytmephmjlajaopaa
