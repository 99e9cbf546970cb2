/- The walk of TcpBack. -/
import Derived.Test.YtckcdmijhemchaaTcpM
import Derived.Test.YtckcdmijhemchaaTcpQ
namespace Go.Proofs.Ytckcdmijhemchaa.TcpBack
set_option linter.unusedVariables false
set_option linter.unusedSimpArgs false
open Go.ChangeShapes Go.WideShapes Go.ChangeAt Go.RowKit Go.PlainAid
set_option maxRecDepth 100000 in
set_option maxHeartbeats 4000000 in
theorem walk_ (K : TcpOk) (sp dp sq ak lo fl wi su ur : Int) (o p : ByteArray) (w : World) (hsp : (Lit.int .u16 sp).wf = true) (hdp : (Lit.int .u16 dp).wf = true) (hsq : (Lit.int .u32 sq).wf = true) (hak : (Lit.int .u32 ak).wf = true) (hlo : (Lit.int .u8 lo).wf = true) (hfl : (Lit.int .u8 fl).wf = true) (hwi : (Lit.int .u16 wi).wf = true) (hsu : (Lit.int .u16 su).wf = true) (hur : (Lit.int .u16 ur).wf = true) (ho : o.size ≤ maxLen) (hp : p.size ≤ maxLen) :
    Calls Try.prog 5 #[.agg #[.int .u16 sp, .int .u16 dp, .int .u32 sq, .int .u32 ak, .int .u8 lo, .int .u8 fl, .int .u16 wi, .int .u16 su, .int .u16 ur, .string o], .string p] w fun e w' => e = .returned (.bool true) ∧ Below w.heap.size w w' := by
  obtain ⟨sp0, sp1⟩ := bounds_u16 hsp
  obtain ⟨dp0, dp1⟩ := bounds_u16 hdp
  obtain ⟨sq0, sq1⟩ := bounds_u32 hsq
  obtain ⟨ak0, ak1⟩ := bounds_u32 hak
  obtain ⟨lo0, lo1⟩ := bounds_u8 hlo
  obtain ⟨fl0, fl1⟩ := bounds_u8 hfl
  obtain ⟨wi0, wi1⟩ := bounds_u16 hwi
  obtain ⟨su0, su1⟩ := bounds_u16 hsu
  obtain ⟨ur0, ur1⟩ := bounds_u16 hur
  clear hsp hdp hsq hak hlo hfl hwi hsu hur ho hp
  obtain ⟨n, hn⟩ : ∃ n, o.size = n := ⟨_, rfl⟩
  obtain ⟨m, hm⟩ : ∃ m, p.size = m := ⟨_, rfl⟩
  by_cases h1 : 600 < m
  · have e1 : decide ((600 : Int) < (m : Int)) = true := by simp; omega
    clear h1
    go_enter Try.func5, Try.ntmps5
    go_wp2_with fail
    refine (begun_ K _).mono ?_; rintro e w1 ⟨rfl, x1⟩
    have B1 : Below w.heap.size w w1 := ((Below.refl _ _).alloc (Nat.le_refl _) _).trans (x1.mono (by simp))
    go_wp2
    go_ret
    exact ⟨rfl, B1⟩
  have e1 : decide ((600 : Int) < (m : Int)) = false := by simp; omega
  by_cases h2 : 600 < n
  · have e2 : decide ((600 : Int) < (n : Int)) = true := by simp; omega
    clear h1 h2
    go_enter Try.func5, Try.ntmps5
    go_wp2_with fail
    refine (begun_ K _).mono ?_; rintro e w1 ⟨rfl, x1⟩
    have B1 : Below w.heap.size w w1 := ((Below.refl _ _).alloc (Nat.le_refl _) _).trans (x1.mono (by simp))
    go_wp2
    go_ret
    exact ⟨rfl, B1⟩
  have e2 : decide ((600 : Int) < (n : Int)) = false := by simp; omega
  have k1 := fun u => K.puts sp dp sq ak lo fl wi su ur o p u sp0 sp1 dp0 dp1 sq0 sq1 ak0 ak1 lo0 lo1 fl0 fl1 wi0 wi1 su0 su1 ur0 ur1 (by omega) (by omega)
  have nb : (n : Int) ≤ 600 := by omega
  have mb : (m : Int) ≤ 600 := by omega
  by_cases hE : tE n lo = 0
  rotate_left
  · have hE2 : tE n lo = 2 := by unfold tE at hE ⊢; split <;> simp_all
    rw [show tPutB sp dp sq ak lo fl wi su ur o p = ⟨#[]⟩ by unfold tPutB; rw [hn, if_neg hE], hn, hE2] at k1
    have key : ∃ x y z : Bool, decide (lo < 16) = x ∧ decide ((n : Int) ≤ 40) = y ∧ ((n : Int) % 4 == 0) = z ∧ (x = false ∨ (x = true ∧ y = false) ∨ (x = true ∧ y = true ∧ z = false)) := by
      refine ⟨_, _, _, rfl, rfl, rfl, ?_⟩
      simp only [decide_eq_true_eq, decide_eq_false_iff_not, beq_eq_false_iff_ne, ne_eq]
      unfold tE at hE2
      split at hE2 <;> omega
    obtain ⟨x, y, z, j1, j2, j3, hk⟩ := key
    obtain ⟨q, hq⟩ : ∃ q : Int, (n : Int) % 4 = q := ⟨_, rfl⟩
    rw [hq] at j3
    clear hE hE2 h1 h2
    rcases hk with rfl | ⟨rfl, rfl⟩ | ⟨rfl, rfl, rfl⟩
    all_goals
      go_enter Try.func5, Try.ntmps5
      go_wp2_with fail
      have A1 := Box10.make w (.int .u16 sp) (.int .u16 dp) (.int .u32 sq) (.int .u32 ak) (.int .u8 lo) (.int .u8 fl) (.int .u16 wi) (.int .u16 su) (.int .u16 ur) (.string o) 25
      refine (k1 _).mono ?_; rintro e w1 ⟨rfl, x1⟩
      obtain ⟨_, f0, f1, f2, f3, f4, f5, f6, f7, f8, f9⟩ := A1.on x1
      have B1 : Below w.heap.size w w1 := ((Below.refl _ _).alloc (Nat.le_refl _) _).trans (x1.mono (by simp))
      clear x1 A1
      go_wp2_with fail
      refine (begun_ K _).mono ?_; rintro e w2 ⟨rfl, x2⟩
      have B2 := B1.trans (x2.mono B1.size)
      clear B1 x2 f0 f1 f2 f3 f4 f5 f6 f7 f8 f9
      go_wp2
      go_ret
      exact ⟨rfl, B2⟩
  have hh : n ≤ 40 ∧ n % 4 = 0 ∧ lo ≤ 15 := by
    unfold tE at hE
    split at hE <;> omega
  obtain ⟨j1, j2, j3⟩ := hh
  obtain ⟨z1, r0, r1, r2, r3, r4, r5, r6, r7, r8, r9, r10, r11⟩ := parse_put6 sp dp sq ak lo fl wi su ur o p sp0 sp1 dp0 dp1 sq0 sq1 ak0 ak1 lo0 j3 fl0 fl1 wi0 wi1 su0 su1 ur0 ur1 (by omega) (by omega)
  rw [show tPutB sp dp sq ak lo fl wi su ur o p = tcpB sp dp sq ak lo fl wi su ur o p by unfold tPutB; rw [hn, if_pos hE], hn, hE] at k1
  obtain ⟨T, hT⟩ : ∃ T, T = tcpB sp dp sq ak lo fl wi su ur o p := ⟨_, rfl⟩
  rw [← hT] at k1 z1 r0 r1 r2 r3 r4 r5 r6 r7 r8 r9 r10 r11
  rw [hn, hm] at z1
  have k2 := fun u => K.parses T u (by omega)
  obtain ⟨_, _, _, y1, _, _⟩ := tOk_yes r0
  rw [y1, y1, y1, y1, y1, y1, y1, y1, y1, r0, r1, r2, r3, r4, r5, r6, r7, r8, r9, r10, r11] at k2
  obtain ⟨z, hz⟩ : ∃ z, z = 20 + n + m := ⟨_, rfl⟩
  rw [← hz] at z1
  have v1 : 20 + (n : Int) + (m : Int) = (z : Int) := by omega
  have v2 : decide (lo < 16) = true := by simp; omega
  have v3 : decide ((n : Int) ≤ 40) = true := by simp; omega
  have v4 : (n : Int) % 4 = 0 := by omega
  clear hz hT r0 r1 r2 r3 r4 r5 r6 r7 r8 r9 r10 r11 y1 hE h1 h2 j1 j2 j3
  go_enter Try.func5, Try.ntmps5
  go_wp2_with fail
  have A1 := Box10.make w (.int .u16 sp) (.int .u16 dp) (.int .u32 sq) (.int .u32 ak) (.int .u8 lo) (.int .u8 fl) (.int .u16 wi) (.int .u16 su) (.int .u16 ur) (.string o) 25
  refine (k1 _).mono ?_; rintro e w1 ⟨rfl, x1⟩
  have A2 := A1.on x1
  have B1 : Below w.heap.size w w1 := ((Below.refl _ _).alloc (Nat.le_refl _) _).trans (x1.mono (by simp))
  obtain ⟨_, f0, f1, f2, f3, f4, f5, f6, f7, f8, f9⟩ := id A2
  clear x1 A1 k1
  go_wp2_with fail
  refine (k2 _).mono ?_; rintro e w2 ⟨rfl, x2⟩
  clear f0 f1 f2 f3 f4 f5 f6 f7 f8 f9
  obtain ⟨_, g0, g1, g2, g3, g4, g5, g6, g7, g8, g9⟩ := Box10.make w2 (.int .u16 sp) (.int .u16 dp) (.int .u32 sq) (.int .u32 ak) (.int .u8 lo) (.int .u8 fl) (.int .u16 wi) (.int .u16 su) (.int .u16 ur) (.string o) 25
  obtain ⟨_, f0, f1, f2, f3, f4, f5, f6, f7, f8, f9⟩ := (A2.on x2).past (o := .cells #[.int .u16 sp, .int .u16 dp, .int .u32 sq, .int .u32 ak, .int .u8 lo, .int .u8 fl, .int .u16 wi, .int .u16 su, .int .u16 ur, .string o] 25)
  have B2 := (B1.trans (x2.mono B1.size)).alloc (B1.trans (x2.mono B1.size)).size (.cells #[.int .u16 sp, .int .u16 dp, .int .u32 sq, .int .u32 ak, .int .u8 lo, .int .u8 fl, .int .u16 wi, .int .u16 su, .int .u16 ur, .string o] 25)
  clear x2 A2 B1 k2
  go_wp2_with fail
  refine (begun_ K _).mono ?_; rintro e w3 ⟨rfl, x3⟩
  have B3 := B2.trans (x3.mono B2.size)
  clear B2 x3 f0 f1 f2 f3 f4 f5 f6 f7 f8 f9 g0 g1 g2 g3 g4 g5 g6 g7 g8 g9
  go_wp2
  go_ret
  exact ⟨rfl, B3⟩
end Go.Proofs.Ytckcdmijhemchaa.TcpBack
