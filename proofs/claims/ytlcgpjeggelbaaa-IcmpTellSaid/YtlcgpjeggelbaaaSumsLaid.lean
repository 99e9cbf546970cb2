/- The chapter's examples for layer 2; sums of one and of two texts; what is too great. -/
import Derived.Test.YtlcgpjeggelbaaaSumsB
namespace Go.Proofs.Ytlcgpjeggelbaaa
open Go.ChangeShapes Go.WideShapes Go.ChangeAt Go.RowKit Go.PlainAid
theorem rowS1 {w : World} {b : Nat} {s : ByteArray} (hb : b < w.heap.size) (h0 : w.cell? ⟨b, 0, none⟩ = some (.string s)) (hs : s.size ≤ maxLen) : RowS w (some ⟨b, 0, none⟩) 1 [s] :=
  ⟨rfl, by intro x hx; simp at hx; rw [hx]; exact hs, by unfold maxLen; omega, .inr ⟨b, 0, rfl, hb, by
    intro t ht
    match t, ht with
    | 0, _ => simpa using h0⟩⟩
theorem rowS2 {w : World} {b : Nat} {s t : ByteArray} (hb : b < w.heap.size) (h0 : w.cell? ⟨b, 0, none⟩ = some (.string s)) (h1 : w.cell? ⟨b, 1, none⟩ = some (.string t)) (hs : s.size ≤ maxLen) (ht : t.size ≤ maxLen) : RowS w (some ⟨b, 0, none⟩) 2 [s, t] :=
  ⟨rfl, by intro x hx; simp at hx; rcases hx with rfl | rfl <;> assumption, by unfold maxLen; omega, .inr ⟨b, 0, rfl, hb, by
    intro t ht
    match t, ht with
    | 0, _ => simpa using h0
    | 1, _ => simpa using h1⟩⟩
theorem rowS0 {w : World} : RowS w none 0 [] := ⟨rfl, by simp, Nat.zero_le _, .inl rfl⟩
namespace SumsLaid
theorem a1 (w : World) : Calls Try.prog 44 #[.int .u16 65535, .int .u16 1] w fun e w' => e = .returned (.int .u16 1) ∧ w = w' := add_ 65535 1 w (by omega) (by omega) (by omega) (by omega)
theorem a2 (w : World) : Calls Try.prog 44 #[.int .u16 65535, .int .u16 0] w fun e w' => e = .returned (.int .u16 65535) ∧ w = w' := add_ 65535 0 w (by omega) (by omega) (by omega) (by omega)
theorem s0 (w : World) : Calls Try.prog 34 #[.slice none 0 0] w fun e w' => e = .returned (.int .u16 65535) ∧ Below w.heap.size w w' := by
  have h := sum_ none 0 0 [] w rowS0
  rw [show sumV [] = 65535 from by decide +kernel] at h
  exact h
theorem s1 (b : Nat) (w : World) (hb : b < w.heap.size) (h0 : w.cell? ⟨b, 0, none⟩ = some (.string ⟨#[0, 1, 242, 3, 244, 245, 246, 247]⟩)) :
    Calls Try.prog 34 #[.slice (some ⟨b, 0, none⟩) 1 1] w fun e w' => e = .returned (.int .u16 8717) ∧ Below w.heap.size w w' := by
  have h := sum_ _ 1 1 _ w (rowS1 hb h0 (by simp [ByteArray.size, maxLen]))
  rw [show sumV [⟨#[0, 1, 242, 3, 244, 245, 246, 247]⟩] = 8717 from by decide +kernel] at h
  exact h
theorem s2 (b : Nat) (w : World) (hb : b < w.heap.size) (h0 : w.cell? ⟨b, 0, none⟩ = some (.string ⟨#[1]⟩)) :
    Calls Try.prog 34 #[.slice (some ⟨b, 0, none⟩) 1 1] w fun e w' => e = .returned (.int .u16 65279) ∧ Below w.heap.size w w' := by
  have h := sum_ _ 1 1 _ w (rowS1 hb h0 (by simp [ByteArray.size, maxLen]))
  rw [show sumV [⟨#[1]⟩] = 65279 from by decide +kernel] at h
  exact h
theorem s3 (b : Nat) (w : World) (hb : b < w.heap.size) (h0 : w.cell? ⟨b, 0, none⟩ = some (.string ⟨#[1]⟩)) (h1 : w.cell? ⟨b, 1, none⟩ = some (.string ⟨#[1]⟩)) :
    Calls Try.prog 34 #[.slice (some ⟨b, 0, none⟩) 2 2] w fun e w' => e = .returned (.int .u16 65023) ∧ Below w.heap.size w w' := by
  have h := sum_ _ 2 2 _ w (rowS2 hb h0 h1 (by simp [ByteArray.size, maxLen]) (by simp [ByteArray.size, maxLen]))
  rw [show sumV [⟨#[1]⟩, ⟨#[1]⟩] = 65023 from by decide +kernel] at h
  exact h
theorem t0 (w : World) : Calls Try.prog 32 #[.slice none 0 0] w fun e w' => e = .returned (.bool false) ∧ Below w.heap.size w w' := by
  have h := holds_ none 0 0 [] w rowS0
  rw [show holdsV [] = false from by decide +kernel] at h
  exact h
theorem t1 (b : Nat) (w : World) (hb : b < w.heap.size) (h0 : w.cell? ⟨b, 0, none⟩ = some (.string ⟨#[255, 255]⟩)) :
    Calls Try.prog 32 #[.slice (some ⟨b, 0, none⟩) 1 1] w fun e w' => e = .returned (.bool true) ∧ Below w.heap.size w w' := by
  have h := holds_ _ 1 1 _ w (rowS1 hb h0 (by simp [ByteArray.size, maxLen]))
  rw [show holdsV [⟨#[255, 255]⟩] = true from by decide +kernel] at h
  exact h
end SumsLaid
/-- Are texts more than is gone through: 8, of 400 bytes? -/
def greatV (ss : List ByteArray) : Bool := (ss.take 9).any (fun s => decide (400 < s.size)) || decide (8 < ss.length)
theorem greatV_no {ss : List ByteArray} (h : greatV ss = false) : ss.length ≤ 8 ∧ ∀ s ∈ ss, s.size ≤ 400 := by
  unfold greatV at h
  simp at h
  obtain ⟨h1, h2⟩ := h
  rw [List.take_of_length_le (by omega)] at h1
  exact ⟨h2, h1⟩
end Go.Proofs.Ytlcgpjeggelbaaa
