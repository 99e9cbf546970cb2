/- Contracts: the document's Has; which endpoint is less. -/
import Derived.Test.YtaaobacmlaaajaaDoorAddrsG
namespace Go.Proofs.YtaaobacmlaaajaaDoor
set_option linter.unusedVariables false
set_option linter.unusedSimpArgs false
open Go.ChangeShapes Go.WideShapes Go.ChangeAt Go.RowKit Go.PlainAid
set_option maxHeartbeats 4000000 in
set_option maxRecDepth 100000 in
theorem rhas_ (a : Nat) (b : Int) (x : Nat) (w : World) (ha : a < 4294967296) (hx : x < 4294967296) (hb : -9223372036854775808 ≤ b ∧ b ≤ 9223372036854775807) :
    Calls Tryd.prog 15 #[.agg #[.int .u32 (a : Int), .int .i64 b], .int .u32 (x : Int)] w fun e w' => e = .returned (.bool (hasV a b x)) ∧ Below w.heap.size w w' := by
  obtain ⟨w1, hw1⟩ : ∃ w1, w1 = w.alloc (.cells #[.int .u32 (a : Int), .int .i64 b] 28) := ⟨_, rfl⟩
  have B1 : Below w.heap.size w w1 := by rw [hw1]; exact (Below.refl _ _).alloc (Nat.le_refl _) _
  have s1 : w.heap.size < w1.heap.size := by rw [hw1]; simp
  have c0 : w1.cell? ⟨w.heap.size, 0, none⟩ = some (.int .u32 (a : Int)) := by rw [hw1]; simp
  have c1 : w1.cell? ⟨w.heap.size, 1, none⟩ = some (.int .i64 b) := by rw [hw1]; simp
  have d0 : ∀ q : Later w1.heap.size w1, q.u.cell? ⟨w.heap.size, 0, none⟩ = some (.int .u32 (a : Int)) := fun q => q.block s1 c0
  have d1 : ∀ q : Later w1.heap.size w1, q.u.cell? ⟨w.heap.size, 1, none⟩ = some (.int .i64 b) := fun q => q.block s1 c1
  have hmay := fun u => rmay_ a b u ha hb
  have HW := Lib.hid hw1
  clear hw1 c0 c1
  by_cases hm : mayV a b = true
  · have hbn : 0 ≤ b ∧ b ≤ 32 := by simp [mayV] at hm; omega
    obtain ⟨n, rfl⟩ : ∃ n : Nat, b = (n : Int) := ⟨b.toNat, by omega⟩
    have hn : n ≤ 32 := by omega
    have hsz := fun u => rsize_ n u hn
    have hfa : a = firstN a n := by rw [mayV_in hn] at hm; simpa using hm
    have HMM : Hid (hasV a (n : Int) x = decide (x / sizeN n = a / sizeN n)) := by
      show _ = _; unfold hasV; rw [hm, Bool.true_and]
      have : (n : Int).toNat = n := by omega
      rw [this, has_quo hfa]
    have hp := sizeN_pos n
    have hp2 := sizeN_le n
    obtain ⟨S, hS⟩ : ∃ S, S = sizeN n := ⟨_, rfl⟩
    rw [← hS] at hsz HMM hp hp2
    rw [hm] at hmay
    obtain ⟨q1, hq1⟩ : ∃ q, q = x / S := ⟨_, rfl⟩
    obtain ⟨q2, hq2⟩ : ∃ q, q = a / S := ⟨_, rfl⟩
    have e1 : (x : Int) / (S : Int) = (q1 : Int) := by rw [hq1]; push_cast; rfl
    have e2 : (a : Int) / (S : Int) = (q2 : Int) := by rw [hq2]; push_cast; rfl
    have l1 : q1 ≤ x := by rw [hq1]; exact Nat.div_le_self _ _
    have l2 : q2 ≤ a := by rw [hq2]; exact Nat.div_le_self _ _
    rw [← hq1, ← hq2] at HMM
    have p0 : (0 : Int) < (S : Int) := by omega
    have p1 : (1 : Int) ≤ (S : Int) := by omega
    have p2 : ¬ (S : Int) = 0 := by omega
    have p2' : ¬ S = 0 := by omega
    have p3 : (S : Int) ≤ 4294967296 := by omega
    have ha2 : (a : Int) ≤ 4294967295 := by omega
    have ha0 : (0 : Int) ≤ (a : Int) := by omega
    have hx2 : (x : Int) ≤ 4294967295 := by omega
    have hx0 : (0 : Int) ≤ (x : Int) := by omega
    have t1 : (x : Int).tdiv (S : Int) = (q1 : Int) := by rw [Int.tdiv_eq_ediv_of_nonneg hx0, e1]
    have t2 : (a : Int).tdiv (S : Int) = (q2 : Int) := by rw [Int.tdiv_eq_ediv_of_nonneg ha0, e2]
    have g1 : IntKind.u64.wrap (q1 : Int) = (q1 : Int) := IntWalk.u64_in _ (by omega)
    have g2 : IntKind.u64.wrap (q2 : Int) = (q2 : Int) := IntWalk.u64_in _ (by omega)
    have g3 : IntKind.u64.wrap (a : Int) = (a : Int) := IntWalk.u64_in _ (by omega)
    have g4 : IntKind.u64.wrap (x : Int) = (x : Int) := IntWalk.u64_in _ (by omega)
    clear hm hb hbn hn hS hq1 hq2 hfa
    by_cases he : q1 = q2
    · have HM : Hid (hasV a (n : Int) x = true) := by show _ = _; rw [HMM.out]; simpa using he
      subst he
      go_enter Tryd.func15, Tryd.ntmps15
      go_wp2_with fail
      rw [← HW.out]
      refine region_later (B := w1.heap.size) (by kernel_rfl) (by kernel_rfl) ?_
      repeat (go_big_quiet_step (first
        | (go_at_call 13; exact later_of _ (Nat.le_refl _) (hmay _))
        | (go_at_call 27; exact later_same _ (hsz _))))
      refine later_end fun w2 b2 => ?_
      have B2 := B1.trans (b2.mono B1.size)
      clear d0 d1 b2
      go_wp2
      go_ret
      rw [HM.out]
      exact ⟨rfl, B2⟩
    · have HM : Hid (hasV a (n : Int) x = false) := by show _ = _; rw [HMM.out]; simpa using he
      have y1 : (q1 == q2) = false := by simpa using he
      have y2 : ((q1 : Int) == (q2 : Int)) = false := by simp; omega
      clear he
      go_enter Tryd.func15, Tryd.ntmps15
      go_wp2_with fail
      rw [← HW.out]
      refine region_later (B := w1.heap.size) (by kernel_rfl) (by kernel_rfl) ?_
      repeat (go_big_quiet_step (first
        | (go_at_call 13; exact later_of _ (Nat.le_refl _) (hmay _))
        | (go_at_call 27; exact later_same _ (hsz _))))
      refine later_end fun w2 b2 => ?_
      have B2 := B1.trans (b2.mono B1.size)
      clear d0 d1 b2
      go_wp2
      go_ret
      rw [HM.out]
      exact ⟨rfl, B2⟩
  · have hm : mayV a b = false := by simpa using hm
    have HM : Hid (hasV a b x = false) := by show _ = _; unfold hasV; rw [hm]; rfl
    rw [hm] at hmay
    clear hm hb
    go_enter Tryd.func15, Tryd.ntmps15
    go_wp2_with fail
    rw [← HW.out]
    refine region_later (B := w1.heap.size) (by kernel_rfl) (by kernel_rfl) ?_
    repeat (go_big_quiet_step (first | (go_at_call 13; exact later_of _ (Nat.le_refl _) (hmay _))))
    refine later_end fun w2 b2 => ?_
    have B2 := B1.trans (b2.mono B1.size)
    clear d0 d1 b2
    go_wp2
    go_ret
    rw [HM.out]
    exact ⟨rfl, B2⟩
/-- Which endpoint is less. -/
def lessV (a m b n : Nat) : Bool := decide (a < b) || (decide (a = b) && decide (m < n))
set_option maxHeartbeats 2000000 in
set_option maxRecDepth 100000 in
theorem less_ (a m b n : Nat) (w : World) (ha : a < 4294967296) (hb : b < 4294967296) (hm : m ≤ 65535) (hn : n ≤ 65535) :
    Calls Tryd.prog 16 #[.agg #[.int .u32 (a : Int), .int .u16 (m : Int)], .agg #[.int .u32 (b : Int), .int .u16 (n : Int)]] w fun e w' => e = .returned (.bool (lessV a m b n)) ∧ Below w.heap.size w w' := by
  by_cases he : a = b
  · subst he
    have HV : Hid (lessV a m a n = decide (m < n)) := by show _ = _; simp [lessV]
    go_enter Tryd.func16, Tryd.ntmps16
    go_wp2
    go_ret
    rw [HV.out]
    exact ⟨by simp, ((Below.refl _ _).alloc (Nat.le_refl _) _).alloc (by simp) _⟩
  · have HV : Hid (lessV a m b n = decide (a < b)) := by show _ = _; simp [lessV, he]
    have e2 : (a == b) = false := by simpa using he
    have e3 : ((a : Int) == (b : Int)) = false := by simp; omega
    clear he
    go_enter Tryd.func16, Tryd.ntmps16
    go_wp2
    go_ret
    rw [HV.out]
    exact ⟨by simp, ((Below.refl _ _).alloc (Nat.le_refl _) _).alloc (by simp) _⟩
set_option maxHeartbeats 2000000 in
set_option maxRecDepth 100000 in
theorem rless_ (a m b n : Nat) (w : World) (ha : a < 4294967296) (hb : b < 4294967296) (hm : m ≤ 65535) (hn : n ≤ 65535) :
    Calls Tryd.prog 17 #[.agg #[.int .u32 (a : Int), .int .u16 (m : Int)], .agg #[.int .u32 (b : Int), .int .u16 (n : Int)]] w fun e w' => e = .returned (.bool (lessV a m b n)) ∧ Below w.heap.size w w' := by
  by_cases hl : a < b
  · have HV : Hid (lessV a m b n = true) := by show _ = _; simp [lessV, hl]
    have e1 : decide (a < b) = true := by simpa using hl
    clear hl
    go_enter Tryd.func17, Tryd.ntmps17
    go_wp2
    go_ret
    rw [HV.out]
    exact ⟨rfl, ((Below.refl _ _).alloc (Nat.le_refl _) _).alloc (by simp) _⟩
  · have e1 : decide (a < b) = false := by simpa using hl
    by_cases he : a = b
    · subst he
      have HV : Hid (lessV a m a n = decide (m < n)) := by show _ = _; simp [lessV]
      clear hl
      go_enter Tryd.func17, Tryd.ntmps17
      go_wp2
      go_ret
      rw [HV.out]
      exact ⟨by simp, ((Below.refl _ _).alloc (Nat.le_refl _) _).alloc (by simp) _⟩
    · have HV : Hid (lessV a m b n = false) := by show _ = _; simp [lessV, he]; omega
      have e2 : (a == b) = false := by simpa using he
      have e3 : ((a : Int) == (b : Int)) = false := by simp; omega
      clear hl he
      go_enter Tryd.func17, Tryd.ntmps17
      go_wp2
      go_ret
      rw [HV.out]
      exact ⟨rfl, ((Below.refl _ _).alloc (Nat.le_refl _) _).alloc (by simp) _⟩
end Go.Proofs.YtaaobacmlaaajaaDoor
