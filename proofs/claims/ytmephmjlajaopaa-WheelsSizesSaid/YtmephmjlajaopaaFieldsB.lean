/- Contracts of package fields: With, Word, Put16, Put32. -/
import Derived.Test.YtmephmjlajaopaaFieldsA
import Derived.OwnWalk
import Derived.Laws.BytesArg
namespace Go.Proofs.Ytmephmjlajaopaa
open Go.ChangeShapes Go.WideShapes Go.ChangeAt Go.RowKit Go.PlainAid
/-- A text with a part in the place of as many bytes. -/
def withB (s : ByteArray) (k : Nat) (p : ByteArray) : ByteArray := s.extract 0 k ++ p ++ s.extract (k + p.size) s.size
/-- The bytes of numbers. -/
def wordL (zs : List Int) : List Int := zs.flatMap fun n => [n / 256, n % 256]
theorem wordL_snoc (zs : List Int) (n : Int) : wordL (zs ++ [n]) = wordL zs ++ [n / 256, n % 256] := by simp [wordL]
theorem wordL_length (zs : List Int) : (wordL zs).length = 2 * zs.length := by
  induction zs with
  | nil => rfl
  | cons z r ih => simp [wordL] at ih ⊢; omega
theorem take_snoc_getD (zs : List Int) (k : Nat) (h : k < zs.length) : zs.take (k + 1) = zs.take k ++ [zs.getD k 0] := by
  rw [List.take_succ_eq_append_getElem h]; simp [List.getD, h]
theorem Try.info5 : (Try.prog.info? 5).map (fun i => (i.zero, i.size, i.bytes)) = some (some (.int .u8 0), 1, 1) := by kernel_rfl

theorem addr_add0 (b j : Nat) : (⟨b, 0, none⟩ : Addr).add j = ⟨b, 0 + j, none⟩ := by unfold Addr.add; split <;> simp_all

end Go.Proofs.Ytmephmjlajaopaa
