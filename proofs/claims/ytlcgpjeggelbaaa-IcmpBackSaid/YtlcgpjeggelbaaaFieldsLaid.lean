/- The chapter's examples, and the contract of the function that asks them. -/
import Derived.Test.YtlcgpjeggelbaaaFieldsD
namespace Go.Proofs.Ytlcgpjeggelbaaa
open Go.ChangeShapes Go.WideShapes Go.ChangeAt Go.RowKit Go.PlainAid
namespace FieldsLaid
theorem c1 (w : World) : Calls Try.prog 24 #[.string ⟨#[97, 98, 99]⟩, .int .i64 1] w fun e w' => e = .returned (.tuple #[.int .u16 25187, .bool true]) ∧ Below w.heap.size w w' := by
  have h := get16_yes ⟨#[97, 98, 99]⟩ 1 w (by simp [ByteArray.size, maxLen]) (by simp [ByteArray.size])
  rw [show g16 ⟨#[97, 98, 99]⟩ 1 = 25187 from by decide] at h
  exact h
theorem c2 (w : World) : Calls Try.prog 24 #[.string ⟨#[97, 98, 99]⟩, .int .i64 2] w fun e w' => e = .returned (.tuple #[.int .u16 0, .bool false]) ∧ Below w.heap.size w w' :=
  get16_no ⟨#[97, 98, 99]⟩ 2 w (by simp [ByteArray.size, maxLen]) (by simp [ByteArray.size])
theorem c4 (w : World) : Calls Try.prog 30 #[.string ⟨#[97, 98, 99, 100]⟩, .int .i64 1, .string ⟨#[88, 89]⟩] w fun e w' => e = .returned (.tuple #[.string ⟨#[97, 88, 89, 100]⟩, .bool true]) ∧ Below w.heap.size w w' := by
  have h := with_yes ⟨#[97, 98, 99, 100]⟩ ⟨#[88, 89]⟩ 1 w (by simp [ByteArray.size, maxLen]) (by simp [ByteArray.size, maxLen]) (by simp [ByteArray.size])
  rw [show withB ⟨#[97, 98, 99, 100]⟩ 1 ⟨#[88, 89]⟩ = ⟨#[97, 88, 89, 100]⟩ from by decide +kernel] at h
  exact h
theorem c5 (w : World) : Calls Try.prog 30 #[.string ⟨#[97, 98, 99, 100]⟩, .int .i64 3, .string ⟨#[88, 89]⟩] w fun e w' => e = .returned (.tuple #[.string ⟨#[]⟩, .bool false]) ∧ Below w.heap.size w w' :=
  with_no ⟨#[97, 98, 99, 100]⟩ ⟨#[88, 89]⟩ 3 w (by simp [ByteArray.size, maxLen]) (by simp [ByteArray.size, maxLen]) (by simp [ByteArray.size])
theorem c6 (w : World) : Calls Try.prog 30 #[.string ⟨#[97, 98, 99, 100]⟩, .int .i64 4, .string ⟨#[]⟩] w fun e w' => e = .returned (.tuple #[.string ⟨#[97, 98, 99, 100]⟩, .bool true]) ∧ Below w.heap.size w w' := by
  have h := with_yes ⟨#[97, 98, 99, 100]⟩ ⟨#[]⟩ 4 w (by simp [ByteArray.size, maxLen]) (by simp [ByteArray.size, maxLen]) (by simp [ByteArray.size])
  rw [show withB ⟨#[97, 98, 99, 100]⟩ 4 ⟨#[]⟩ = ⟨#[97, 98, 99, 100]⟩ from by decide +kernel] at h
  exact h
theorem c7 (w : World) : Calls Try.prog 31 #[.int .u16 258] w fun e w' => e = .returned (.string ⟨#[1, 2]⟩) ∧ Below w.heap.size w w' := by
  have h := put16 258 w (by omega) (by omega)
  rw [show strOfNums (wordL [258]) = ⟨#[1, 2]⟩ from by decide +kernel] at h
  exact h
theorem c9 (b : Nat) (w : World) (hb : b < w.heap.size) (h0 : w.cell? ⟨b, 0, none⟩ = some (.int .u16 1)) (h1 : w.cell? ⟨b, 1, none⟩ = some (.int .u16 2)) :
    Calls Try.prog 27 #[.slice (some ⟨b, 0, none⟩) 2 2] w fun e w' => e = .returned (.string ⟨#[0, 1, 0, 2]⟩) ∧ Below w.heap.size w w' := by
  have h := word_row b 0 2 2 [1, 2] w rfl (by omega) (by intro x hx; simp at hx; omega) hb (by
    intro t ht
    match t, ht with
    | 0, _ => simpa using h0
    | 1, _ => simpa using h1)
  rw [show strOfNums (wordL [1, 2]) = ⟨#[0, 1, 0, 2]⟩ from by decide +kernel] at h
  exact h
end FieldsLaid
end Go.Proofs.Ytlcgpjeggelbaaa
