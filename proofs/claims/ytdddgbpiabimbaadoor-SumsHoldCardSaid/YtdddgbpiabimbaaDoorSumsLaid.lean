/- The chapter's examples for layer 2; sums of one and of two texts; what is too great. -/
import Derived.Test.YtdddgbpiabimbaaDoorSumsB
namespace Go.Proofs.YtdddgbpiabimbaaDoor
open Go.ChangeShapes Go.WideShapes Go.ChangeAt Go.RowKit Go.PlainAid
theorem rowS1 {w : World} {b : Nat} {s : ByteArray} (hb : b < w.heap.size) (h0 : w.cell? ⟨b, 0, none⟩ = some (.string s)) (hs : s.size ≤ maxLen) : RowS w (some ⟨b, 0, none⟩) 1 [s] :=
  ⟨rfl, by intro x hx; simp at hx; rw [hx]; exact hs, by unfold maxLen; omega, .inr ⟨b, 0, rfl, hb, by
    intro t ht
    match t, ht with
    | 0, _ => simpa using h0⟩⟩
theorem rowS2 {w : World} {b : Nat} {s t : ByteArray} (hb : b < w.heap.size) (h0 : w.cell? ⟨b, 0, none⟩ = some (.string s)) (h1 : w.cell? ⟨b, 1, none⟩ = some (.string t)) (hs : s.size ≤ maxLen) (ht : t.size ≤ maxLen) : RowS w (some ⟨b, 0, none⟩) 2 [s, t] :=
  ⟨rfl, by intro x hx; simp at hx; rcases hx with rfl | rfl <;> assumption, by unfold maxLen; omega, .inr ⟨b, 0, rfl, hb, by
    intro t ht
    match t, ht with
    | 0, _ => simpa using h0
    | 1, _ => simpa using h1⟩⟩
theorem rowS0 {w : World} : RowS w none 0 [] := ⟨rfl, by simp, Nat.zero_le _, .inl rfl⟩
namespace SumsLaid
theorem a1 (w : World) : Calls Tryd.prog 11 #[.int .u16 65535, .int .u16 1] w fun e w' => e = .returned (.int .u16 1) ∧ w = w' := add_ 65535 1 w (by omega) (by omega) (by omega) (by omega)
theorem a2 (w : World) : Calls Tryd.prog 11 #[.int .u16 65535, .int .u16 0] w fun e w' => e = .returned (.int .u16 65535) ∧ w = w' := add_ 65535 0 w (by omega) (by omega) (by omega) (by omega)
theorem s0 (w : World) : Calls Tryd.prog 10 #[.slice none 0 0] w fun e w' => e = .returned (.int .u16 65535) ∧ Below w.heap.size w w' := by
  have h := sum_ none 0 0 [] w rowS0
  rw [show sumV [] = 65535 from by decide +kernel] at h
  exact h
theorem s1 (b : Nat) (w : World) (hb : b < w.heap.size) (h0 : w.cell? ⟨b, 0, none⟩ = some (.string ⟨#[0, 1, 242, 3, 244, 245, 246, 247]⟩)) :
    Calls Tryd.prog 10 #[.slice (some ⟨b, 0, none⟩) 1 1] w fun e w' => e = .returned (.int .u16 8717) ∧ Below w.heap.size w w' := by
  have h := sum_ _ 1 1 _ w (rowS1 hb h0 (by simp [ByteArray.size, maxLen]))
  rw [show sumV [⟨#[0, 1, 242, 3, 244, 245, 246, 247]⟩] = 8717 from by decide +kernel] at h
  exact h
theorem s2 (b : Nat) (w : World) (hb : b < w.heap.size) (h0 : w.cell? ⟨b, 0, none⟩ = some (.string ⟨#[1]⟩)) :
    Calls Tryd.prog 10 #[.slice (some ⟨b, 0, none⟩) 1 1] w fun e w' => e = .returned (.int .u16 65279) ∧ Below w.heap.size w w' := by
  have h := sum_ _ 1 1 _ w (rowS1 hb h0 (by simp [ByteArray.size, maxLen]))
  rw [show sumV [⟨#[1]⟩] = 65279 from by decide +kernel] at h
  exact h
theorem s3 (b : Nat) (w : World) (hb : b < w.heap.size) (h0 : w.cell? ⟨b, 0, none⟩ = some (.string ⟨#[1]⟩)) (h1 : w.cell? ⟨b, 1, none⟩ = some (.string ⟨#[1]⟩)) :
    Calls Tryd.prog 10 #[.slice (some ⟨b, 0, none⟩) 2 2] w fun e w' => e = .returned (.int .u16 65023) ∧ Below w.heap.size w w' := by
  have h := sum_ _ 2 2 _ w (rowS2 hb h0 h1 (by simp [ByteArray.size, maxLen]) (by simp [ByteArray.size, maxLen]))
  rw [show sumV [⟨#[1]⟩, ⟨#[1]⟩] = 65023 from by decide +kernel] at h
  exact h
theorem t0 (w : World) : Calls Tryd.prog 9 #[.slice none 0 0] w fun e w' => e = .returned (.bool false) ∧ Below w.heap.size w w' := by
  have h := holds_ none 0 0 [] w rowS0
  rw [show holdsV [] = false from by decide +kernel] at h
  exact h
theorem t1 (b : Nat) (w : World) (hb : b < w.heap.size) (h0 : w.cell? ⟨b, 0, none⟩ = some (.string ⟨#[255, 255]⟩)) :
    Calls Tryd.prog 9 #[.slice (some ⟨b, 0, none⟩) 1 1] w fun e w' => e = .returned (.bool true) ∧ Below w.heap.size w w' := by
  have h := holds_ _ 1 1 _ w (rowS1 hb h0 (by simp [ByteArray.size, maxLen]))
  rw [show holdsV [⟨#[255, 255]⟩] = true from by decide +kernel] at h
  exact h
theorem u1 (w : World) : Calls Tryd.prog 12 #[.int .u16 8717, .int .u16 1, .int .u16 2] w fun e w' => e = .returned (.int .u16 8716) ∧ w = w' := update_ 8717 1 2 w (by omega) (by omega) (by omega) (by omega) (by omega) (by omega)
end SumsLaid
open SumsLaid in
set_option maxRecDepth 100000 in
set_option maxHeartbeats 1000000 in
theorem summed_ (w : World) : Calls Tryd.prog 5 #[] w fun e w' => e = .returned (.bool true) ∧ Below w.heap.size w w' := by
  go_enter Tryd.func5, Tryd.ntmps5
  go_wp2_with fail
  refine (a1 _).mono ?_; rintro e w1 ⟨rfl, rfl⟩
  go_wp2_with fail
  refine (a2 _).mono ?_; rintro e w1 ⟨rfl, rfl⟩
  go_wp2_with fail
  refine (s0 _).mono ?_; rintro e w1 ⟨rfl, B1⟩
  go_wp2_with fail
  refine (s1 _ _ (by simp) (by simp)).mono ?_; rintro e w2 ⟨rfl, b2⟩
  have B2 : Below w.heap.size w w2 := (B1.alloc B1.size _).trans (b2.mono (by simp; have := B1.size; omega))
  clear B1 b2
  go_wp2_with fail
  refine (s2 _ _ (by simp) (by simp)).mono ?_; rintro e w3 ⟨rfl, b3⟩
  have B3 : Below w.heap.size w w3 := (B2.alloc B2.size _).trans (b3.mono (by simp; have := B2.size; omega))
  clear B2 b3
  go_wp2_with fail
  refine (s3 _ _ (by simp) (by simp) (by simp)).mono ?_; rintro e w4 ⟨rfl, b4⟩
  have B4 : Below w.heap.size w w4 := (B3.alloc B3.size _).trans (b4.mono (by simp; have := B3.size; omega))
  clear B3 b4
  go_wp2_with fail
  refine (t0 _).mono ?_; rintro e w5 ⟨rfl, b5⟩
  have B5 := B4.trans (b5.mono B4.size)
  clear B4 b5
  go_wp2_with fail
  refine (t1 _ _ (by simp) (by simp)).mono ?_; rintro e w6 ⟨rfl, b6⟩
  have B6 : Below w.heap.size w w6 := (B5.alloc B5.size _).trans (b6.mono (by simp; have := B5.size; omega))
  clear B5 b6
  go_wp2_with fail
  refine (u1 _).mono ?_; rintro e w7 ⟨rfl, rfl⟩
  go_wp2
  go_ret
  exact ⟨rfl, B6⟩
/-- Are texts more than is gone through: 8, of 400 bytes? -/
def greatV (ss : List ByteArray) : Bool := (ss.take 9).any (fun s => decide (400 < s.size)) || decide (8 < ss.length)
theorem greatV_no {ss : List ByteArray} (h : greatV ss = false) : ss.length ≤ 8 ∧ ∀ s ∈ ss, s.size ≤ 400 := by
  unfold greatV at h
  simp at h
  obtain ⟨h1, h2⟩ := h
  rw [List.take_of_length_le (by omega)] at h1
  exact ⟨h2, h1⟩
end Go.Proofs.YtdddgbpiabimbaaDoor
