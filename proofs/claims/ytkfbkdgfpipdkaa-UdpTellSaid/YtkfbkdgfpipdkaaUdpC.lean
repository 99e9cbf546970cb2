/- Contracts of the document's answers for layer 5: Seal. -/
import Derived.Test.YtkfbkdgfpipdkaaUdpB
namespace Go.Proofs.Ytkfbkdgfpipdkaa
set_option linter.unusedVariables false
set_option linter.unusedSimpArgs false
open Go.ChangeShapes Go.WideShapes Go.ChangeAt Go.RowKit Go.PlainAid
attribute [local go_sem ↓] Go.wp_at_zero Go.wp_at_succ
set_option maxHeartbeats 2000000 in
set_option maxRecDepth 100000 in
theorem rseal5_ (a b : Int) (s : ByteArray) (w : World) (a0 : 0 ≤ a) (a1 : a ≤ 4294967295) (b0 : 0 ≤ b) (b1 : b ≤ 4294967295) (hs : s.size ≤ 1000000) :
    Calls Try.prog 16 #[.int .u32 a, .int .u32 b, .string s] w fun e w' => e = .returned (.string (slU a b s)) ∧ Below w.heap.size w w' := by
  have hs2 : s.size ≤ maxLen := by unfold maxLen; omega
  by_cases h8 : s.size < 8
  · have HV : Hid (slU a b s = s) := by show _ = _; unfold slU; rw [if_pos h8]
    have e1 : decide ((s.size : Int) < 8) = true := by simp; omega
    clear h8
    go_enter Try.func16, Try.ntmps16
    go_wp2
    go_ret
    rw [HV.out]
    exact ⟨rfl, Below.refl _ _⟩
  have e1 : decide ((s.size : Int) < 8) = false := by simp; omega
  have cp := fun u => pseudo5_ a b 17 (s.size : Int) u a0 a1 b0 b1 (by omega) (by omega) (by omega) (by omega)
  have zp := pseuB_size a b 17 (s.size : Int)
  have zx := size_extract' s 0 6 (by omega) (by omega)
  have zz := size_extract' s 8 s.size (by omega) (Nat.le_refl _)
  have hn := slN_bd a b s
  have HV : Hid (slU a b s = s.extract 0 6 ++ strOfNums (wordL [slN a b s]) ++ s.extract 8 s.size) := by show _ = _; unfold slU; rw [if_neg h8]
  have hN : slN a b s = if sumV [pseuB a b 17 s.size, s.extract 0 6 ++ ⟨#[0, 0]⟩ ++ s.extract 8 s.size] = 0 then 65535 else sumV [pseuB a b 17 s.size, s.extract 0 6 ++ ⟨#[0, 0]⟩ ++ s.extract 8 s.size] := by unfold slN zeroB; rw [show strOfNums [0, 0] = ⟨#[0, 0]⟩ from rfl]
  generalize pseuB a b 17 (s.size : Int) = P at *
  have zZ : (s.extract 0 6 ++ ⟨#[0, 0]⟩ ++ s.extract 8 s.size).size = s.size := by rw [ByteArray.size_append, ByteArray.size_append, zx, zz]; show 6 - 0 + 2 + (s.size - 8) = s.size; omega
  obtain ⟨Z, hZ⟩ : ∃ Z, Z = s.extract 0 6 ++ ⟨#[0, 0]⟩ ++ s.extract 8 s.size := ⟨_, rfl⟩
  rw [← hZ] at hN zZ
  have HZ := Lib.hid hZ
  clear hZ
  have hss : ∀ x ∈ [P, Z], x.size < maxLen := by
    intro x hx
    rcases List.mem_cons.1 hx with h | h
    · rw [h, zp]; unfold maxLen; omega
    · rw [List.mem_singleton.1 h, zZ]; unfold maxLen; omega
  have cs : ∀ (u : World) (k : Nat), k < u.heap.size → u.cell? ⟨k, 0, none⟩ = some (.string P) → u.cell? ⟨k, 1, none⟩ = some (.string Z) → Calls Try.prog 30 #[.slice (some ⟨k, 0, none⟩) 2 2] u fun e w' => e = .returned (.int .u16 (sumV [P, Z])) ∧ u = w' :=
    fun u k hk h0 h1 => rsum_ _ 2 2 [P, Z] u (rowS2 hk h0 h1 (by unfold maxLen; omega) (by omega)) hss
  have sb := sumV_bd [P, Z]
  generalize sumV [P, Z] = g at *
  have i6 : (6 : Int) ≤ (s.size : Int) := by omega
  have i8 : (8 : Int) ≤ (s.size : Int) := by omega
  have k1 : ¬ 9223372036854775807 < min 6 s.size + 2 := by omega
  have k2 : ¬ 9223372036854775807 < min 6 s.size + 2 + (s.size - 8) := by omega
  have c16 := fun u => rput16 (slN a b s) u (by omega) hn.2
  have zw : (strOfNums (wordL [slN a b s])).size = 2 := by rw [size_W]; rfl
  generalize strOfNums (wordL [slN a b s]) = W at *
  have q1 : min 6 s.size + W.size ≤ 9223372036854775807 := by omega
  have q2 : min 6 s.size + W.size + (s.size - 8) ≤ 9223372036854775807 := by omega
  have q3 : ¬ 9223372036854775807 < min 6 s.size + W.size := by omega
  have q4 : ¬ 9223372036854775807 < min 6 s.size + W.size + (s.size - 8) := by omega
  obtain ⟨v, hv⟩ : ∃ v, v = slN a b s := ⟨_, rfl⟩
  rw [← hv] at c16 hN
  clear hv hn hss zZ zx zz h8 zp zw
  by_cases g0 : g = 0
  · rw [if_pos g0] at hN
    subst g0 hN
    go_enter Try.func16, Try.ntmps16
    go_wp2_with fail
    go_region_held3 (fun w' => True) (trivial)
      ((first
        | (go_at_call 26
           refine (cp _).mono ?_
           rintro e w1 ⟨rfl, x1⟩)
        | (go_at_call 30
           refine (cs _ _ ?_ ?_ ?_).mono ?_
           · simp
           · simp [go_sem]
           · simp [go_sem, HZ.out]
           rintro e w2 ⟨rfl, rfl⟩)))
    have B1 : Below w.heap.size w w1 := ((Below.refl w.heap.size w).drew).trans x1
    have B2 := B1.alloc B1.size (.cells #[.string P, .string (s.extract 0 6 ++ ⟨#[0, 0]⟩ ++ s.extract 8 s.size)] 9)
    clear x1 B1 cp cs HZ k1 k2
    obtain ⟨w2, hw2⟩ : ∃ x, x = w1.alloc (.cells #[.string P, .string (s.extract 0 6 ++ ⟨#[0, 0]⟩ ++ s.extract 8 s.size)] 9) := ⟨_, rfl⟩
    rw [← hw2] at B2 ⊢
    clear hw2
    go_wp2_with fail
    refine region_later (B := w2.heap.size) (by kernel_rfl) (by kernel_rfl) ?_
    repeat (go_big_quiet_step (first
      | (go_at_call 31; exact later_of _ (Nat.le_refl _) (c16 _))))
    refine later_end fun w3 b3 => ?_
    have B3 := B2.trans (b3.mono B2.size)
    clear B2 b3 c16
    go_wp2
    go_ret
    rw [HV.out]
    exact ⟨rfl, B3⟩
  · rw [if_neg g0] at hN
    subst hN
    have e2 : (v == 0) = false := by simpa using g0
    go_enter Try.func16, Try.ntmps16
    go_wp2_with fail
    go_region_held3 (fun w' => True) (trivial)
      ((first
        | (go_at_call 26
           refine (cp _).mono ?_
           rintro e w1 ⟨rfl, x1⟩)
        | (go_at_call 30
           refine (cs _ _ ?_ ?_ ?_).mono ?_
           · simp
           · simp [go_sem]
           · simp [go_sem, HZ.out]
           rintro e w2 ⟨rfl, rfl⟩)))
    have B1 : Below w.heap.size w w1 := ((Below.refl w.heap.size w).drew).trans x1
    have B2 := B1.alloc B1.size (.cells #[.string P, .string (s.extract 0 6 ++ ⟨#[0, 0]⟩ ++ s.extract 8 s.size)] 9)
    clear x1 B1 cp cs HZ k1 k2
    obtain ⟨w2, hw2⟩ : ∃ x, x = w1.alloc (.cells #[.string P, .string (s.extract 0 6 ++ ⟨#[0, 0]⟩ ++ s.extract 8 s.size)] 9) := ⟨_, rfl⟩
    rw [← hw2] at B2 ⊢
    clear hw2
    go_wp2_with fail
    refine region_later (B := w2.heap.size) (by kernel_rfl) (by kernel_rfl) ?_
    repeat (go_big_quiet_step (first
      | (go_at_call 31; exact later_of _ (Nat.le_refl _) (c16 _))))
    refine later_end fun w3 b3 => ?_
    have B3 := B2.trans (b3.mono B2.size)
    clear B2 b3 c16
    go_wp2
    go_ret
    rw [HV.out]
    exact ⟨rfl, B3⟩
end Go.Proofs.Ytkfbkdgfpipdkaa
