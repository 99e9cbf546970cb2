/- Contracts of package icmp: Check, Seal. -/
import Derived.Test.YtlcgpjeggelbaaaIcmpM
import Derived.Test.YtlcgpjeggelbaaaUdpB
import Derived.Test.YtlcgpjeggelbaaaSumsLaid
import Derived.Deep.RegionHeld3
namespace Go.Proofs.Ytlcgpjeggelbaaa
set_option linter.unusedVariables false
set_option linter.unusedSimpArgs false
open Go.ChangeShapes Go.WideShapes Go.ChangeAt Go.RowKit Go.PlainAid
attribute [local go_sem ↓] Go.wp_at_zero Go.wp_at_succ
theorem rowS3i {w : World} {b : Nat} {s t u : ByteArray} (hb : b < w.heap.size) (h0 : w.cell? ⟨b, 0, none⟩ = some (.string s)) (h1 : w.cell? ⟨b, 1, none⟩ = some (.string t)) (h2 : w.cell? ⟨b, 2, none⟩ = some (.string u)) (hs : s.size ≤ maxLen) (ht : t.size ≤ maxLen) (hu : u.size ≤ maxLen) : RowS w (some ⟨b, 0, none⟩) 3 [s, t, u] :=
  ⟨rfl, by intro x hx; simp at hx; rcases hx with rfl | rfl | rfl <;> assumption, by unfold maxLen; omega, .inr ⟨b, 0, rfl, hb, by
    intro i hi
    match i, hi with
    | 0, _ => simpa using h0
    | 1, _ => simpa using h1
    | 2, _ => simpa using h2⟩⟩
theorem sumV_three1 (s : ByteArray) (k : Nat) (h : 2 * k + 2 ≤ s.size) : sumV [s.extract 0 (2 * k), ⟨#[0, 0]⟩, s.extract (2 * k + 2) s.size] = sumV [zeroB s (2 * k)] := by
  rw [sumV_cl, sumV_cl, totTs3, totTs1, tot_zeroB s k h]
  rw [show totT ⟨#[0, 0]⟩ = 0 from by kernel_rfl]
  congr 2
  omega
set_option maxHeartbeats 2000000 in
set_option maxRecDepth 100000 in
theorem icmpCheck_ (s : ByteArray) (w : World) (hs : s.size ≤ 1000000) :
    Calls Try.prog 20 #[.string s] w fun e w' => e = .returned (.bool (ckM s)) ∧ Below w.heap.size w w' := by
  have hs2 : s.size ≤ maxLen := by unfold maxLen; omega
  by_cases h8 : s.size < 8
  · have HV : Hid (ckM s = false) := by show _ = _; unfold ckM; simp; omega
    have e1 : decide ((8 : Int) ≤ (s.size : Int)) = false := by simp; omega
    clear h8
    go_enter Try.func20, Try.ntmps20
    go_wp2
    go_ret
    rw [HV.out]
    exact ⟨rfl, Below.refl _ _⟩
  have e1 : decide ((8 : Int) ≤ (s.size : Int)) = true := by simp; omega
  have HV : Hid (ckM s = holdsV [s]) := by show _ = _; unfold ckM; simp; omega
  have ch : ∀ (u : World) (k : Nat), k < u.heap.size → u.cell? ⟨k, 0, none⟩ = some (.string s) → Calls Try.prog 32 #[.slice (some ⟨k, 0, none⟩) 1 1] u fun e w' => e = .returned (.bool (holdsV [s])) ∧ Below u.heap.size u w' :=
    fun u k hk h0 => holds_ _ 1 1 [s] u (rowS1 hk h0 hs2)
  generalize holdsV [s] = H at *
  clear h8
  go_enter Try.func20, Try.ntmps20
  go_wp2_with fail
  refine (ch _ _ (by simp) (by simp [go_sem])).mono ?_; rintro e w3 ⟨rfl, b3⟩
  have B3 := ((Below.refl w.heap.size w).alloc (Nat.le_refl _) (.cells #[.string s] 9)).trans (b3.mono (by simp))
  clear b3 ch
  go_wp2
  go_ret
  rw [HV.out]
  exact ⟨rfl, B3⟩
set_option maxHeartbeats 2000000 in
set_option maxRecDepth 100000 in
theorem icmpSeal_ (s : ByteArray) (w : World) (hs : s.size ≤ 1000000) :
    Calls Try.prog 22 #[.string s] w fun e w' => e = .returned (.string (slI s)) ∧ Below w.heap.size w w' := by
  have hs2 : s.size ≤ maxLen := by unfold maxLen; omega
  by_cases h8 : s.size < 8
  · have HV : Hid (slI s = s) := by show _ = _; unfold slI; rw [if_pos h8]
    have e1 : decide ((s.size : Int) < 8) = true := by simp; omega
    clear h8
    go_enter Try.func22, Try.ntmps22
    go_wp2
    go_ret
    rw [HV.out]
    exact ⟨rfl, Below.refl _ _⟩
  have e1 : decide ((s.size : Int) < 8) = false := by simp; omega
  have i2 : (2 : Int) ≤ (s.size : Int) := by omega
  have i4 : (4 : Int) ≤ (s.size : Int) := by omega
  have zx := size_extract' s 0 2 (by omega) (by omega)
  have zz := size_extract' s 4 s.size (by omega) (Nat.le_refl _)
  have hn : 0 ≤ slC s ∧ slC s ≤ 65535 := sumV_bd _
  have zw : (strOfNums (wordL [slC s])).size = 2 := by rw [size_W]; rfl
  have HV : vWith s 2 (strOfNums (wordL [slC s])) = slI s := by
    unfold slI
    rw [if_neg h8]
    unfold vWith
    rw [show (2 : Int) = ((2 : Nat) : Int) from rfl, okAt_yes (by rw [zw]; omega), if_pos rfl]
    unfold withB
    rw [zw]
    rfl
  have hN : sumV [s.extract 0 (2 * 1), ⟨#[0, 0]⟩, s.extract (2 * 1 + 2) s.size] = slC s := by rw [sumV_three1 s 1 (by omega)]; rfl
  have cs : ∀ (u : World) (k : Nat), k < u.heap.size → u.cell? ⟨k, 0, none⟩ = some (.string (s.extract 0 2)) → u.cell? ⟨k, 1, none⟩ = some (.string ⟨#[0, 0]⟩) → u.cell? ⟨k, 2, none⟩ = some (.string (s.extract 4 s.size)) → Calls Try.prog 34 #[.slice (some ⟨k, 0, none⟩) 3 3] u fun e w' => e = .returned (.int .u16 (slC s)) ∧ Below u.heap.size u w' :=
    fun u k hk h0 h1 h2 => by
      have := sum_ _ 3 3 [s.extract 0 (2 * 1), ⟨#[0, 0]⟩, s.extract (2 * 1 + 2) s.size] u (rowS3i hk h0 h1 h2 (by show (s.extract 0 2).size ≤ maxLen; unfold maxLen; omega) (by decide) (by show (s.extract 4 s.size).size ≤ maxLen; unfold maxLen; omega))
      rw [hN] at this
      exact this
  have c16 := fun u => put16 (slC s) u hn.1 hn.2
  have cv := fun u => with_any s 2 (strOfNums (wordL [slC s])) u hs2 (by rw [zw]; decide)
  rw [HV] at cv
  generalize okAt s 2 ((strOfNums (wordL [slC s])).size : Int) = ok at *
  generalize strOfNums (wordL [slC s]) = W at *
  generalize slI s = R at *
  obtain ⟨v, hv⟩ : ∃ v, v = slC s := ⟨_, rfl⟩
  rw [← hv] at cs c16
  clear hv hn zx zz h8 zw HV hN
  go_enter Try.func22, Try.ntmps22
  go_wp2_with fail
  go_region_held3 (fun w' => True) (trivial)
    ((first
      | (go_at_call 34
         refine (cs _ _ ?_ ?_ ?_ ?_).mono ?_
         · simp
         · simp [go_sem]
         · simp [go_sem]
         · simp [go_sem]
         rintro e w2 ⟨rfl, x2⟩)))
  have B2 : Below w.heap.size w w2 := (((Below.refl w.heap.size w).drew).alloc (Nat.le_refl _) _).trans (x2.mono (by simp))
  clear x2 cs
  go_wp2_with fail
  refine (c16 _).mono ?_; rintro e w3 ⟨rfl, x3⟩
  have B3 := B2.trans (x3.mono B2.size)
  clear B2 x3 c16
  go_wp2_with fail
  refine (cv _).mono ?_; rintro e w4 ⟨rfl, x4⟩
  have B4 := B3.trans (x4.mono B3.size)
  clear B3 x4 cv
  go_wp2
  go_ret
  exact ⟨rfl, B4⟩
end Go.Proofs.Ytlcgpjeggelbaaa
