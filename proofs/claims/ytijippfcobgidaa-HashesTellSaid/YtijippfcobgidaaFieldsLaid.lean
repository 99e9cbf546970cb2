/- The chapter's examples, and the contract of the function that asks them. -/
import Derived.Test.YtijippfcobgidaaFieldsD
namespace Go.Proofs.Ytijippfcobgidaa
open Go.ChangeShapes Go.WideShapes Go.ChangeAt Go.RowKit Go.PlainAid
namespace FieldsLaid
theorem c7 (w : World) : Calls Try.prog 24 #[.int .u16 258] w fun e w' => e = .returned (.string ⟨#[1, 2]⟩) ∧ Below w.heap.size w w' := by
  have h := put16 258 w (by omega) (by omega)
  rw [show strOfNums (wordL [258]) = ⟨#[1, 2]⟩ from by decide +kernel] at h
  exact h
theorem c8 (w : World) : Calls Try.prog 23 #[.int .u32 1] w fun e w' => e = .returned (.string ⟨#[0, 0, 0, 1]⟩) ∧ Below w.heap.size w w' := by
  have h := put32 1 w (by omega) (by omega)
  rw [show strOfNums (wordL [1 / 65536, 1 % 65536]) = ⟨#[0, 0, 0, 1]⟩ from by decide +kernel] at h
  exact h
theorem c9 (b : Nat) (w : World) (hb : b < w.heap.size) (h0 : w.cell? ⟨b, 0, none⟩ = some (.int .u16 1)) (h1 : w.cell? ⟨b, 1, none⟩ = some (.int .u16 2)) :
    Calls Try.prog 25 #[.slice (some ⟨b, 0, none⟩) 2 2] w fun e w' => e = .returned (.string ⟨#[0, 1, 0, 2]⟩) ∧ Below w.heap.size w w' := by
  have h := word_row b 0 2 2 [1, 2] w rfl (by omega) (by intro x hx; simp at hx; omega) hb (by
    intro t ht
    match t, ht with
    | 0, _ => simpa using h0
    | 1, _ => simpa using h1)
  rw [show strOfNums (wordL [1, 2]) = ⟨#[0, 1, 0, 2]⟩ from by decide +kernel] at h
  exact h
end FieldsLaid
end Go.Proofs.Ytijippfcobgidaa
