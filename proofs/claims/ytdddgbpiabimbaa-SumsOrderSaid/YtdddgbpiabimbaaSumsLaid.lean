/- The chapter's examples for layer 2; sums of one and of two texts; what is too great. -/
import Derived.Test.YtdddgbpiabimbaaSumsB
namespace Go.Proofs.Ytdddgbpiabimbaa
open Go.ChangeShapes Go.WideShapes Go.ChangeAt Go.RowKit Go.PlainAid
theorem rowS1 {w : World} {b : Nat} {s : ByteArray} (hb : b < w.heap.size) (h0 : w.cell? ⟨b, 0, none⟩ = some (.string s)) (hs : s.size ≤ maxLen) : RowS w (some ⟨b, 0, none⟩) 1 [s] :=
  ⟨rfl, by intro x hx; simp at hx; rw [hx]; exact hs, by unfold maxLen; omega, .inr ⟨b, 0, rfl, hb, by
    intro t ht
    match t, ht with
    | 0, _ => simpa using h0⟩⟩
theorem rowS2 {w : World} {b : Nat} {s t : ByteArray} (hb : b < w.heap.size) (h0 : w.cell? ⟨b, 0, none⟩ = some (.string s)) (h1 : w.cell? ⟨b, 1, none⟩ = some (.string t)) (hs : s.size ≤ maxLen) (ht : t.size ≤ maxLen) : RowS w (some ⟨b, 0, none⟩) 2 [s, t] :=
  ⟨rfl, by intro x hx; simp at hx; rcases hx with rfl | rfl <;> assumption, by unfold maxLen; omega, .inr ⟨b, 0, rfl, hb, by
    intro t ht
    match t, ht with
    | 0, _ => simpa using h0
    | 1, _ => simpa using h1⟩⟩
theorem rowS0 {w : World} : RowS w none 0 [] := ⟨rfl, by simp, Nat.zero_le _, .inl rfl⟩
namespace SumsLaid
theorem a1 (w : World) : Calls Try.prog 30 #[.int .u16 65535, .int .u16 1] w fun e w' => e = .returned (.int .u16 1) ∧ w = w' := add_ 65535 1 w (by omega) (by omega) (by omega) (by omega)
theorem a2 (w : World) : Calls Try.prog 30 #[.int .u16 65535, .int .u16 0] w fun e w' => e = .returned (.int .u16 65535) ∧ w = w' := add_ 65535 0 w (by omega) (by omega) (by omega) (by omega)
theorem s0 (w : World) : Calls Try.prog 26 #[.slice none 0 0] w fun e w' => e = .returned (.int .u16 65535) ∧ Below w.heap.size w w' := by
  have h := sum_ none 0 0 [] w rowS0
  rw [show sumV [] = 65535 from by decide +kernel] at h
  exact h
theorem s1 (b : Nat) (w : World) (hb : b < w.heap.size) (h0 : w.cell? ⟨b, 0, none⟩ = some (.string ⟨#[0, 1, 242, 3, 244, 245, 246, 247]⟩)) :
    Calls Try.prog 26 #[.slice (some ⟨b, 0, none⟩) 1 1] w fun e w' => e = .returned (.int .u16 8717) ∧ Below w.heap.size w w' := by
  have h := sum_ _ 1 1 _ w (rowS1 hb h0 (by simp [ByteArray.size, maxLen]))
  rw [show sumV [⟨#[0, 1, 242, 3, 244, 245, 246, 247]⟩] = 8717 from by decide +kernel] at h
  exact h
theorem s2 (b : Nat) (w : World) (hb : b < w.heap.size) (h0 : w.cell? ⟨b, 0, none⟩ = some (.string ⟨#[1]⟩)) :
    Calls Try.prog 26 #[.slice (some ⟨b, 0, none⟩) 1 1] w fun e w' => e = .returned (.int .u16 65279) ∧ Below w.heap.size w w' := by
  have h := sum_ _ 1 1 _ w (rowS1 hb h0 (by simp [ByteArray.size, maxLen]))
  rw [show sumV [⟨#[1]⟩] = 65279 from by decide +kernel] at h
  exact h
theorem s3 (b : Nat) (w : World) (hb : b < w.heap.size) (h0 : w.cell? ⟨b, 0, none⟩ = some (.string ⟨#[1]⟩)) (h1 : w.cell? ⟨b, 1, none⟩ = some (.string ⟨#[1]⟩)) :
    Calls Try.prog 26 #[.slice (some ⟨b, 0, none⟩) 2 2] w fun e w' => e = .returned (.int .u16 65023) ∧ Below w.heap.size w w' := by
  have h := sum_ _ 2 2 _ w (rowS2 hb h0 h1 (by simp [ByteArray.size, maxLen]) (by simp [ByteArray.size, maxLen]))
  rw [show sumV [⟨#[1]⟩, ⟨#[1]⟩] = 65023 from by decide +kernel] at h
  exact h
theorem t0 (w : World) : Calls Try.prog 28 #[.slice none 0 0] w fun e w' => e = .returned (.bool false) ∧ Below w.heap.size w w' := by
  have h := holds_ none 0 0 [] w rowS0
  rw [show holdsV [] = false from by decide +kernel] at h
  exact h
theorem t1 (b : Nat) (w : World) (hb : b < w.heap.size) (h0 : w.cell? ⟨b, 0, none⟩ = some (.string ⟨#[255, 255]⟩)) :
    Calls Try.prog 28 #[.slice (some ⟨b, 0, none⟩) 1 1] w fun e w' => e = .returned (.bool true) ∧ Below w.heap.size w w' := by
  have h := holds_ _ 1 1 _ w (rowS1 hb h0 (by simp [ByteArray.size, maxLen]))
  rw [show holdsV [⟨#[255, 255]⟩] = true from by decide +kernel] at h
  exact h
theorem u1 (w : World) : Calls Try.prog 32 #[.int .u16 8717, .int .u16 1, .int .u16 2] w fun e w' => e = .returned (.int .u16 8716) ∧ w = w' := update_ 8717 1 2 w (by omega) (by omega) (by omega) (by omega) (by omega) (by omega)
end SumsLaid
open SumsLaid in
set_option maxRecDepth 100000 in
set_option maxHeartbeats 1000000 in
theorem summed_ (w : World) : Calls Try.prog 25 #[] w fun e w' => e = .returned (.bool true) ∧ Below w.heap.size w w' := by
  go_enter Try.func25, Try.ntmps25
  go_wp2_with fail
  refine (a1 _).mono ?_; rintro e w1 ⟨rfl, rfl⟩
  go_wp2_with fail
  refine (a2 _).mono ?_; rintro e w1 ⟨rfl, rfl⟩
  go_wp2_with fail
  refine (s0 _).mono ?_; rintro e w1 ⟨rfl, B1⟩
  go_wp2_with fail
  refine (s1 _ _ (by simp) (by simp)).mono ?_; rintro e w2 ⟨rfl, b2⟩
  have B2 : Below w.heap.size w w2 := (B1.alloc B1.size _).trans (b2.mono (by simp; have := B1.size; omega))
  clear B1 b2
  go_wp2_with fail
  refine (s2 _ _ (by simp) (by simp)).mono ?_; rintro e w3 ⟨rfl, b3⟩
  have B3 : Below w.heap.size w w3 := (B2.alloc B2.size _).trans (b3.mono (by simp; have := B2.size; omega))
  clear B2 b3
  go_wp2_with fail
  refine (s3 _ _ (by simp) (by simp) (by simp)).mono ?_; rintro e w4 ⟨rfl, b4⟩
  have B4 : Below w.heap.size w w4 := (B3.alloc B3.size _).trans (b4.mono (by simp; have := B3.size; omega))
  clear B3 b4
  go_wp2_with fail
  refine (t0 _).mono ?_; rintro e w5 ⟨rfl, b5⟩
  have B5 := B4.trans (b5.mono B4.size)
  clear B4 b5
  go_wp2_with fail
  refine (t1 _ _ (by simp) (by simp)).mono ?_; rintro e w6 ⟨rfl, b6⟩
  have B6 : Below w.heap.size w w6 := (B5.alloc B5.size _).trans (b6.mono (by simp; have := B5.size; omega))
  clear B5 b6
  go_wp2_with fail
  refine (u1 _).mono ?_; rintro e w7 ⟨rfl, rfl⟩
  go_wp2
  go_ret
  exact ⟨rfl, B6⟩
/-- Are texts more than is gone through: 8, of 400 bytes? -/
def greatV (ss : List ByteArray) : Bool := (ss.take 9).any (fun s => decide (400 < s.size)) || decide (8 < ss.length)
theorem greatV_no {ss : List ByteArray} (h : greatV ss = false) : ss.length ≤ 8 ∧ ∀ s ∈ ss, s.size ≤ 400 := by
  unfold greatV at h
  simp at h
  obtain ⟨h1, h2⟩ := h
  rw [List.take_of_length_le (by omega)] at h1
  exact ⟨h2, h1⟩
set_option maxRecDepth 100000 in
set_option maxHeartbeats 1000000 in
theorem great_ (a : Option Addr) (len cap : Nat) (ss : List ByteArray) (w : World) (h : RowS w a len ss) :
    Calls Try.prog 24 #[.slice a len cap] w fun e w' => e = .returned (.bool (greatV ss)) ∧ w = w' := by
  have ROW := Lib.hid h
  have hlen := h.2.2.1
  unfold maxLen at hlen
  have HL := Lib.hid h.1
  clear h
  go_enter Try.func24, Try.ntmps24
  go_wp2_with fail
  go_loop [3] (fun si => ∃ i : Nat, i ≤ len ∧ i ≤ 9 ∧ si = .int .i64 i ∧ (ss.take i).any (fun s => decide (400 < s.size)) = false) (fun si => len - (intOf si).toNat)
  case atStart => exact ⟨0, Nat.zero_le _, Nat.zero_le _, rfl, rfl⟩
  case round =>
    obtain ⟨i, hi, hi9, rfl, hA⟩ := hrel
    have HA := Lib.hid hA
    clear hA
    by_cases hlt : i < len ∧ i < 9
    · obtain ⟨hlt, hlt9⟩ := hlt
      obtain ⟨b, off, rfl, hb, hc⟩ : ∃ b off, a = some ⟨b, off, none⟩ ∧ b < w.heap.size ∧ ∀ t, t < len → w.cell? ⟨b, off + t, none⟩ = some (.string (ss.getD t ByteArray.empty)) := by
        rcases ROW.out.2.2.2 with h | h
        · omega
        · exact h
      have hcell := hc i hlt
      have hsz := ROW.out.mem hlt
      have HT := Lib.hid (take_snoc_getB ss i (by rw [HL.out]; exact hlt))
      have hin : ss.getD i ByteArray.empty ∈ ss.take 9 := by
        have hl : i < ss.length := by rw [HL.out]; exact hlt
        rw [getD_lt _ _ _ hl]
        exact List.mem_take_iff_getElem.2 ⟨i, by omega, rfl⟩
      obtain ⟨s, hs⟩ : ∃ s, s = ss.getD i ByteArray.empty := ⟨_, rfl⟩
      rw [← hs] at hcell hsz HT hin
      have HIN := Lib.hid hin
      unfold maxLen at hsz
      clear hc hs hin
      by_cases hg : 400 < s.size
      · have e1 : decide ((400 : Int) < (s.size : Int)) = true := by simp; omega
        have E : Hid (greatV ss = true) := by
          show _ = _
          unfold greatV
          rw [Bool.or_eq_true]
          exact .inl (List.any_eq_true.2 ⟨s, HIN.out, by simpa using hg⟩)
        go_wp2
        go_ret
        rw [E.out]
        exact ⟨rfl, rfl⟩
      · have e1 : decide ((400 : Int) < (s.size : Int)) = false := by simp; omega
        have E : Hid ((ss.take (i + 1)).any (fun s => decide (400 < s.size)) = false) := by
          show _ = _
          rw [HT.out, List.any_append, HA.out]
          simp; omega
        go_wp2
        go_round
        case rel => exact ⟨i + 1, by omega, by omega, by go_num, E.out⟩
        case measure => simp [intOf]; omega
    · have E : Hid (greatV ss = decide (8 < len)) := by
        have := HL.out
        show _ = _
        unfold greatV
        by_cases h9 : i < 9
        · have hil : i = len := by omega
          have : ss.take 9 = ss.take i := by rw [List.take_of_length_le (by omega), List.take_of_length_le (by omega)]
          rw [this, HA.out, HL.out]; rfl
        · obtain rfl : i = 9 := by omega
          rw [HA.out, HL.out]; rfl
      by_cases hil : i < len
      · have h9 : decide ((i : Int) < 9) = false := by simp; omega
        have h8 : decide ((8 : Int) < (len : Int)) = true := by simp; omega
        have F : Hid (greatV ss = true) := by rw [E.out]; show _ = _; simp; omega
        clear hlt E
        go_wp2
        go_ret
        rw [F.out]
        exact ⟨rfl, rfl⟩
      · have h9 : decide ((i : Int) < (len : Int)) = false := by simp; omega
        by_cases hl8 : 8 < len
        · have h8 : decide ((8 : Int) < (len : Int)) = true := by simp; omega
          have F : Hid (greatV ss = true) := by rw [E.out]; show _ = _; simp; omega
          clear hlt E hl8
          go_wp2
          go_ret
          rw [F.out]
          exact ⟨rfl, rfl⟩
        · have h8 : decide ((8 : Int) < (len : Int)) = false := by simp; omega
          have F : Hid (greatV ss = false) := by rw [E.out]; show _ = _; simp; omega
          clear hlt E hl8
          go_wp2
          go_ret
          rw [F.out]
          exact ⟨rfl, rfl⟩
end Go.Proofs.Ytdddgbpiabimbaa
