/- Contracts of the document's answers for layer 6: two, four, Check, Seal. -/
import Derived.Test.YtckcdmijhemchaaTcpP
import Derived.Test.YtckcdmijhemchaaUdpB
namespace Go.Proofs.Ytckcdmijhemchaa
set_option linter.unusedVariables false
set_option linter.unusedSimpArgs false
open Go.ChangeShapes Go.WideShapes Go.ChangeAt Go.RowKit Go.PlainAid
attribute [local go_sem ↓] Go.wp_at_zero Go.wp_at_succ
set_option maxHeartbeats 400000 in
theorem two6_ (s : ByteArray) (k : Nat) (w : World) (hs : s.size ≤ maxLen) (h : k + 2 ≤ s.size) :
    Calls Try.prog 20 #[.string s, .int .i64 (k : Int)] w fun e w' => e = .returned (.int .u16 (g16 s k)) ∧ w = w' := by
  go_enter Try.func20, Try.ntmps20
  go_wp2_with fail
  refine (rget16_yes s k _ hs h).mono ?_; rintro e w' ⟨rfl, rfl⟩
  go_wp2
  go_ret
  exact ⟨rfl, rfl⟩
set_option maxHeartbeats 400000 in
theorem four6_ (s : ByteArray) (k : Nat) (w : World) (hs : s.size ≤ maxLen) (h : k + 4 ≤ s.size) :
    Calls Try.prog 21 #[.string s, .int .i64 (k : Int)] w fun e w' => e = .returned (.int .u32 (g32 s k)) ∧ w = w' := by
  go_enter Try.func21, Try.ntmps21
  go_wp2_with fail
  refine (rget32_yes s k _ hs h).mono ?_; rintro e w' ⟨rfl, rfl⟩
  go_wp2
  go_ret
  exact ⟨rfl, rfl⟩
set_option maxHeartbeats 1000000 in
set_option maxRecDepth 100000 in
theorem rcheck6_ (a b : Int) (s : ByteArray) (w : World) (a0 : 0 ≤ a) (a1 : a ≤ 4294967295) (b0 : 0 ≤ b) (b1 : b ≤ 4294967295) (hs : s.size ≤ 1000000) :
    Calls Try.prog 14 #[.int .u32 a, .int .u32 b, .string s] w fun e w' => e = .returned (.bool (ckT a b s)) ∧ Below w.heap.size w w' := by
  have hs2 : s.size ≤ maxLen := by unfold maxLen; omega
  by_cases h8 : s.size < 20
  · have HV : Hid (ckT a b s = false) := by show _ = _; unfold ckT; simp; omega
    have e1 : decide ((20 : Int) ≤ (s.size : Int)) = false := by simp; omega
    clear h8
    go_enter Try.func14, Try.ntmps14
    go_wp2
    go_ret
    rw [HV.out]
    exact ⟨rfl, Below.refl _ _⟩
  have e1 : decide ((20 : Int) ≤ (s.size : Int)) = true := by simp; omega
  have cp := fun u => pseudo5_ a b 6 (s.size : Int) u a0 a1 b0 b1 (by omega) (by omega) (by omega) (by omega)
  have zp := pseuB_size a b 6 (s.size : Int)
  have HV : Hid (ckT a b s = holdsV [pseuB a b 6 s.size, s]) := by show _ = _; unfold ckT; simp; omega
  generalize pseuB a b 6 (s.size : Int) = P at *
  have ch : ∀ (u : World) (k : Nat), k < u.heap.size → u.cell? ⟨k, 0, none⟩ = some (.string P) → u.cell? ⟨k, 1, none⟩ = some (.string s) → Calls Try.prog 27 #[.slice (some ⟨k, 0, none⟩) 2 2] u fun e w' => e = .returned (.bool (holdsV [P, s])) ∧ u = w' :=
    fun u k hk h0 h1 => rholds_ _ 2 2 [P, s] u (rowS2 hk h0 h1 (by unfold maxLen; omega) hs2) (by intro x hx; simp at hx; rcases hx with rfl | rfl <;> (unfold maxLen; omega))
  generalize holdsV [P, s] = H at *
  clear zp h8
  go_enter Try.func14, Try.ntmps14
  go_wp2_with fail
  refine (cp _).mono ?_; rintro e w2 ⟨rfl, b2⟩
  go_wp2_with fail
  refine (ch _ _ (by simp) (by simp [go_sem]) (by simp [go_sem])).mono ?_; rintro e w3 ⟨rfl, rfl⟩
  have B3 := b2.alloc b2.size (.cells #[.string P, .string s] 9)
  clear b2
  go_wp2
  go_ret
  rw [HV.out]
  exact ⟨rfl, B3⟩
set_option maxHeartbeats 2000000 in
set_option maxRecDepth 100000 in
theorem rseal6_ (a b : Int) (s : ByteArray) (w : World) (a0 : 0 ≤ a) (a1 : a ≤ 4294967295) (b0 : 0 ≤ b) (b1 : b ≤ 4294967295) (hs : s.size ≤ 1000000) :
    Calls Try.prog 16 #[.int .u32 a, .int .u32 b, .string s] w fun e w' => e = .returned (.string (slT a b s)) ∧ Below w.heap.size w w' := by
  have hs2 : s.size ≤ maxLen := by unfold maxLen; omega
  by_cases h8 : s.size < 20
  · have HV : Hid (slT a b s = s) := by show _ = _; unfold slT; rw [if_pos h8]
    have e1 : decide ((s.size : Int) < 20) = true := by simp; omega
    clear h8
    go_enter Try.func16, Try.ntmps16
    go_wp2
    go_ret
    rw [HV.out]
    exact ⟨rfl, Below.refl _ _⟩
  have e1 : decide ((s.size : Int) < 20) = false := by simp; omega
  have cp := fun u => pseudo5_ a b 6 (s.size : Int) u a0 a1 b0 b1 (by omega) (by omega) (by omega) (by omega)
  have zp := pseuB_size a b 6 (s.size : Int)
  have zx := size_extract' s 0 16 (by omega) (by omega)
  have zz := size_extract' s 18 s.size (by omega) (Nat.le_refl _)
  have hn : 0 ≤ slM a b s ∧ slM a b s ≤ 65535 := sumV_bd _
  have HV : Hid (slT a b s = s.extract 0 16 ++ strOfNums (wordL [slM a b s]) ++ s.extract 18 s.size) := by show _ = _; unfold slT; rw [if_neg h8]
  have hN : slM a b s = sumV [pseuB a b 6 s.size, s.extract 0 16 ++ ⟨#[0, 0]⟩ ++ s.extract 18 s.size] := by unfold slM zeroB; rw [show strOfNums [0, 0] = ⟨#[0, 0]⟩ from rfl]
  generalize pseuB a b 6 (s.size : Int) = P at *
  have zZ : (s.extract 0 16 ++ ⟨#[0, 0]⟩ ++ s.extract 18 s.size).size = s.size := by rw [ByteArray.size_append, ByteArray.size_append, zx, zz]; show 16 - 0 + 2 + (s.size - 18) = s.size; omega
  obtain ⟨Z, hZ⟩ : ∃ Z, Z = s.extract 0 16 ++ ⟨#[0, 0]⟩ ++ s.extract 18 s.size := ⟨_, rfl⟩
  rw [← hZ] at hN zZ
  have HZ := Lib.hid hZ
  clear hZ
  have hss : ∀ x ∈ [P, Z], x.size < maxLen := by
    intro x hx
    rcases List.mem_cons.1 hx with h | h
    · rw [h, zp]; unfold maxLen; omega
    · rw [List.mem_singleton.1 h, zZ]; unfold maxLen; omega
  have cs : ∀ (u : World) (k : Nat), k < u.heap.size → u.cell? ⟨k, 0, none⟩ = some (.string P) → u.cell? ⟨k, 1, none⟩ = some (.string Z) → Calls Try.prog 32 #[.slice (some ⟨k, 0, none⟩) 2 2] u fun e w' => e = .returned (.int .u16 (sumV [P, Z])) ∧ u = w' :=
    fun u k hk h0 h1 => rsum_ _ 2 2 [P, Z] u (rowS2 hk h0 h1 (by unfold maxLen; omega) (by omega)) hss
  have sb := sumV_bd [P, Z]
  generalize sumV [P, Z] = g at *
  have i6 : (16 : Int) ≤ (s.size : Int) := by omega
  have i8 : (18 : Int) ≤ (s.size : Int) := by omega
  have k1 : ¬ 9223372036854775807 < min 16 s.size + 2 := by omega
  have k2 : ¬ 9223372036854775807 < min 16 s.size + 2 + (s.size - 18) := by omega
  have c16 := fun u => rput16 (slM a b s) u (by omega) hn.2
  have zw : (strOfNums (wordL [slM a b s])).size = 2 := by rw [size_W]; rfl
  generalize strOfNums (wordL [slM a b s]) = W at *
  have q1 : min 16 s.size + W.size ≤ 9223372036854775807 := by omega
  have q2 : min 16 s.size + W.size + (s.size - 18) ≤ 9223372036854775807 := by omega
  have q3 : ¬ 9223372036854775807 < min 16 s.size + W.size := by omega
  have q4 : ¬ 9223372036854775807 < min 16 s.size + W.size + (s.size - 18) := by omega
  obtain ⟨v, hv⟩ : ∃ v, v = slM a b s := ⟨_, rfl⟩
  rw [← hv] at c16 hN
  clear hv hn hss zZ zx zz h8 zp zw
  subst hN
  go_enter Try.func16, Try.ntmps16
  go_wp2_with fail
  go_region_held3 (fun w' => True) (trivial)
    ((first
      | (go_at_call 28
         refine (cp _).mono ?_
         rintro e w1 ⟨rfl, x1⟩)
      | (go_at_call 32
         refine (cs _ _ ?_ ?_ ?_).mono ?_
         · simp
         · simp [go_sem]
         · simp [go_sem, HZ.out]
         rintro e w2 ⟨rfl, rfl⟩)))
  have B1 : Below w.heap.size w w1 := ((Below.refl w.heap.size w).drew).trans x1
  have B2 := B1.alloc B1.size (.cells #[.string P, .string (s.extract 0 16 ++ ⟨#[0, 0]⟩ ++ s.extract 18 s.size)] 9)
  clear x1 B1 cp cs HZ k1 k2
  obtain ⟨w2, hw2⟩ : ∃ x, x = w1.alloc (.cells #[.string P, .string (s.extract 0 16 ++ ⟨#[0, 0]⟩ ++ s.extract 18 s.size)] 9) := ⟨_, rfl⟩
  rw [← hw2] at B2 ⊢
  clear hw2
  go_wp2_with fail
  refine region_later (B := w2.heap.size) (by kernel_rfl) (by kernel_rfl) ?_
  repeat (go_big_quiet_step (first
    | (go_at_call 33; exact later_of _ (Nat.le_refl _) (c16 _))))
  refine later_end fun w3 b3 => ?_
  have B3 := B2.trans (b3.mono B2.size)
  clear B2 b3 c16
  go_wp2
  go_ret
  rw [HV.out]
  exact ⟨rfl, B3⟩
end Go.Proofs.Ytckcdmijhemchaa
