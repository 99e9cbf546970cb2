/- Texts of this proof, together: AddrsP, AddrsA, AddrsB, AddrsC, AddrsD, AddrsF, AddrsG, AddrsR. -/
import Derived.Test.YtoogegpkgohffaaGc
import Derived.Test.YtoogegpkgohffaaGb
import Derived.PlainAid
import Derived.Lib.ItoaNum
import Derived.Lib.IndexLaws
import Derived.Lib.Bytealg
import Derived.Test.YtoogegpkgohffaaRows
import Derived.WalkKit
import Derived.ProofKit
import Derived.OpenShut
import Derived.ShutString
import Derived.Below
import Derived.Outline
import Derived.WalkSpells
import Derived.WalkLawsBesides
import Derived.IntWalk
import Derived.Deep.QuietTactic
import Derived.BigQuiet
import Derived.Lib.Hide
namespace Go.Proofs.Ytoogegpkgohffaa
set_option linter.unusedVariables false
set_option linter.unusedSimpArgs false
open Go.Lib
/-- How many addresses have the same first bits. -/
def sizeN (b : Nat) : Nat := 2 ^ (32 - b)
def firstN (a b : Nat) : Nat := a / sizeN b * sizeN b
/-- Whether a prefix may be. -/
def mayV (a : Nat) (b : Int) : Bool := decide (0 ≤ b) && decide (b ≤ 32) && decide (a = firstN a b.toNat)
def hasV (a : Nat) (b : Int) (x : Nat) : Bool := mayV a b && decide (firstN x b.toNat = a)
end Go.Proofs.Ytoogegpkgohffaa
namespace Go.Proofs.Ytoogegpkgohffaa
set_option linter.unusedVariables false
set_option linter.unusedSimpArgs false
open Go.ChangeShapes Go.WideShapes Go.ChangeAt Go.RowKit Go.PlainAid
theorem firstN_le (a b : Nat) : firstN a b ≤ a := Nat.div_mul_le_self _ _
theorem first_int (a b : Nat) (ha : a < 4294967296) : (a : Int) / 2 ^ (32 - b) * 2 ^ (32 - b) % 4294967296 = ((firstN a b : Nat) : Int) := by
  have e : (a : Int) / 2 ^ (32 - b) * 2 ^ (32 - b) = ((firstN a b : Nat) : Int) := by unfold firstN sizeN; push_cast; rfl
  have := firstN_le a b
  rw [e]; omega
set_option maxHeartbeats 1000000 in
theorem first_ (a b : Nat) (w : World) (ha : a < 4294967296) (hb : b ≤ 32) :
    Calls Try.prog 60 #[.int .u32 (a : Int), .int .i64 (b : Int)] w fun e w' => e = .returned (.int .u32 (firstN a b : Nat)) ∧ w = w' := by
  have e1 : IntKind.i64.wrap (32 - (b : Int)) = 32 - (b : Int) := IntWalk.i64_in _ (by omega)
  go_enter Try.func60, Try.ntmps60
  go_wp2
  go_ret
  have h := first_int a b ha
  exact ⟨by rw [h]; rfl, rfl⟩
theorem mayV_low {a : Nat} {b : Int} (h : b < 0) : mayV a b = false := by
  have : ¬ 0 ≤ b := by omega
  simp [mayV, this]
theorem mayV_high {a : Nat} {b : Int} (h : 32 < b) : mayV a b = false := by
  have : ¬ b ≤ 32 := by omega
  simp [mayV, this]
theorem mayV_in {a n : Nat} (h : n ≤ 32) : mayV a (n : Int) = decide (a = firstN a n) := by
  have h1 : (0 : Int) ≤ (n : Int) := by omega
  have h2 : (n : Int) ≤ 32 := by omega
  simp [mayV]
  omega
set_option maxHeartbeats 2000000 in
set_option maxRecDepth 100000 in
theorem may_ (a : Nat) (b : Int) (w : World) (ha : a < 4294967296) (hb : -9223372036854775808 ≤ b ∧ b ≤ 9223372036854775807) :
    Calls Try.prog 34 #[.agg #[.int .u32 (a : Int), .int .i64 b]] w fun e w' => e = .returned (.bool (mayV a b)) ∧ Below w.heap.size w w' := by
  obtain ⟨w1, hw1⟩ : ∃ w1, w1 = w.alloc (.cells #[.int .u32 (a : Int), .int .i64 b] 31) := ⟨_, rfl⟩
  have B1 : Below w.heap.size w w1 := by rw [hw1]; exact (Below.refl _ _).alloc (Nat.le_refl _) _
  have s1 : w.heap.size < w1.heap.size := by rw [hw1]; simp
  have c0 : w1.cell? ⟨w.heap.size, 0, none⟩ = some (.int .u32 (a : Int)) := by rw [hw1]; simp
  have c1 : w1.cell? ⟨w.heap.size, 1, none⟩ = some (.int .i64 b) := by rw [hw1]; simp
  have HW := Lib.hid hw1
  clear hw1
  by_cases h0 : b < 0
  · have HM : Hid (mayV a b = false) := mayV_low h0
    have d0 : ∀ q : Later w1.heap.size w1, q.u.cell? ⟨w.heap.size, 0, none⟩ = some (.int .u32 (a : Int)) := fun q => q.block s1 c0
    have d1 : ∀ q : Later w1.heap.size w1, q.u.cell? ⟨w.heap.size, 1, none⟩ = some (.int .i64 b) := fun q => q.block s1 c1
    have e1 : decide (0 ≤ b) = false := by simpa using h0
    clear c0 c1 h0 hb
    go_enter Try.func34, Try.ntmps34
    go_wp2_with fail
    rw [← HW.out]
    refine region_later (B := w1.heap.size) (by kernel_rfl) (by kernel_rfl) ?_
    repeat (go_big_quiet_step (fail))
    refine later_end fun w2 b2 => ?_
    have B2 := B1.trans (b2.mono B1.size)
    clear d0 d1 b2
    go_wp2
    go_ret
    rw [HM.out]
    exact ⟨rfl, B2⟩
  obtain ⟨n, rfl⟩ : ∃ n : Nat, b = (n : Int) := ⟨b.toNat, by omega⟩
  clear h0
  by_cases h32 : 32 < n
  · have HM : Hid (mayV a (n : Int) = false) := mayV_high (by omega)
    have d0 : ∀ q : Later w1.heap.size w1, q.u.cell? ⟨w.heap.size, 0, none⟩ = some (.int .u32 (a : Int)) := fun q => q.block s1 c0
    have d1 : ∀ q : Later w1.heap.size w1, q.u.cell? ⟨w.heap.size, 1, none⟩ = some (.int .i64 (n : Int)) := fun q => q.block s1 c1
    have e1 : decide (n ≤ 32) = false := by simpa using h32
    have e1' : decide ((n : Int) ≤ 32) = false := by simp; omega
    have e0 : decide ((0 : Int) ≤ (n : Int)) = true := by simp
    clear c0 c1 h32 hb
    go_enter Try.func34, Try.ntmps34
    go_wp2_with fail
    rw [← HW.out]
    refine region_later (B := w1.heap.size) (by kernel_rfl) (by kernel_rfl) ?_
    repeat (go_big_quiet_step (fail))
    refine later_end fun w2 b2 => ?_
    have B2 := B1.trans (b2.mono B1.size)
    clear d0 d1 b2
    go_wp2
    go_ret
    rw [HM.out]
    exact ⟨rfl, B2⟩
  · have hn : n ≤ 32 := by omega
    have e1 : decide (n ≤ 32) = true := by simpa using hn
    have e1' : decide ((n : Int) ≤ 32) = true := by simp; omega
    have e0 : decide ((0 : Int) ≤ (n : Int)) = true := by simp
    have d0 : ∀ q : Later w1.heap.size w1, q.u.cell? ⟨w.heap.size, 0, none⟩ = some (.int .u32 (a : Int)) := fun q => q.block s1 c0
    have d1 : ∀ q : Later w1.heap.size w1, q.u.cell? ⟨w.heap.size, 1, none⟩ = some (.int .i64 (n : Int)) := fun q => q.block s1 c1
    have hfi := fun u => first_ a n u ha hn
    have HMM : Hid (mayV a (n : Int) = decide (a = firstN a n)) := mayV_in hn
    obtain ⟨f, hf⟩ : ∃ f, f = firstN a n := ⟨_, rfl⟩
    rw [← hf] at hfi HMM
    clear c0 c1 h32 hb hn hf
    by_cases he : a = f
    · have HM : Hid (mayV a (n : Int) = true) := by show _ = _; rw [HMM.out]; simpa using he
      subst he
      go_enter Try.func34, Try.ntmps34
      go_wp2_with fail
      rw [← HW.out]
      refine region_later (B := w1.heap.size) (by kernel_rfl) (by kernel_rfl) ?_
      repeat (go_big_quiet_step (first | (go_at_call 60; exact later_same _ (hfi _))))
      refine later_end fun w2 b2 => ?_
      have B2 := B1.trans (b2.mono B1.size)
      clear d0 d1 b2
      go_wp2
      go_ret
      rw [HM.out]
      exact ⟨rfl, B2⟩
    · have HM : Hid (mayV a (n : Int) = false) := by show _ = _; rw [HMM.out]; simpa using he
      have e2 : (a == f) = false := by simpa using he
      have e3 : ((a : Int) == (f : Int)) = false := by simp; omega
      go_enter Try.func34, Try.ntmps34
      go_wp2_with fail
      rw [← HW.out]
      refine region_later (B := w1.heap.size) (by kernel_rfl) (by kernel_rfl) ?_
      repeat (go_big_quiet_step (first | (go_at_call 60; exact later_same _ (hfi _))))
      refine later_end fun w2 b2 => ?_
      have B2 := B1.trans (b2.mono B1.size)
      clear d0 d1 b2
      go_wp2
      go_ret
      rw [HM.out]
      exact ⟨rfl, B2⟩
set_option maxHeartbeats 2000000 in
set_option maxRecDepth 100000 in
theorem has_ (a : Nat) (b : Int) (x : Nat) (w : World) (ha : a < 4294967296) (hx : x < 4294967296) (hb : -9223372036854775808 ≤ b ∧ b ≤ 9223372036854775807) :
    Calls Try.prog 35 #[.agg #[.int .u32 (a : Int), .int .i64 b], .int .u32 (x : Int)] w fun e w' => e = .returned (.bool (hasV a b x)) ∧ Below w.heap.size w w' := by
  obtain ⟨w1, hw1⟩ : ∃ w1, w1 = w.alloc (.cells #[.int .u32 (a : Int), .int .i64 b] 31) := ⟨_, rfl⟩
  have B1 : Below w.heap.size w w1 := by rw [hw1]; exact (Below.refl _ _).alloc (Nat.le_refl _) _
  have s1 : w.heap.size < w1.heap.size := by rw [hw1]; simp
  have c0 : w1.cell? ⟨w.heap.size, 0, none⟩ = some (.int .u32 (a : Int)) := by rw [hw1]; simp
  have c1 : w1.cell? ⟨w.heap.size, 1, none⟩ = some (.int .i64 b) := by rw [hw1]; simp
  have d0 : ∀ q : Later w1.heap.size w1, q.u.cell? ⟨w.heap.size, 0, none⟩ = some (.int .u32 (a : Int)) := fun q => q.block s1 c0
  have d1 : ∀ q : Later w1.heap.size w1, q.u.cell? ⟨w.heap.size, 1, none⟩ = some (.int .i64 b) := fun q => q.block s1 c1
  have hmay := fun u => may_ a b u ha hb
  have HW := Lib.hid hw1
  clear hw1 c0 c1
  by_cases hm : mayV a b = true
  · have hbn : 0 ≤ b ∧ b ≤ 32 := by simp [mayV] at hm; omega
    obtain ⟨n, rfl⟩ : ∃ n : Nat, b = (n : Int) := ⟨b.toNat, by omega⟩
    have hn : n ≤ 32 := by omega
    have hfi := fun u => first_ x n u hx hn
    have HMM : Hid (hasV a (n : Int) x = decide (firstN x n = a)) := by show _ = _; unfold hasV; rw [hm]; simp
    obtain ⟨f, hf⟩ : ∃ f, f = firstN x n := ⟨_, rfl⟩
    rw [← hf] at hfi HMM
    rw [hm] at hmay
    clear hf hbn hm hb hn
    by_cases he : f = a
    · have HM : Hid (hasV a (n : Int) x = true) := by show _ = _; rw [HMM.out]; simpa using he
      subst he
      go_enter Try.func35, Try.ntmps35
      go_wp2_with fail
      rw [← HW.out]
      refine region_later (B := w1.heap.size) (by kernel_rfl) (by kernel_rfl) ?_
      repeat (go_big_quiet_step (first
        | (go_at_call 34; exact later_of _ (Nat.le_refl _) (hmay _))
        | (go_at_call 60; exact later_same _ (hfi _))))
      refine later_end fun w2 b2 => ?_
      have B2 := B1.trans (b2.mono B1.size)
      clear d0 d1 b2
      go_wp2
      go_ret
      rw [HM.out]
      exact ⟨rfl, B2⟩
    · have HM : Hid (hasV a (n : Int) x = false) := by show _ = _; rw [HMM.out]; simpa using he
      have e2 : (f == a) = false := by simpa using he
      have e3 : ((f : Int) == (a : Int)) = false := by simp; omega
      go_enter Try.func35, Try.ntmps35
      go_wp2_with fail
      rw [← HW.out]
      refine region_later (B := w1.heap.size) (by kernel_rfl) (by kernel_rfl) ?_
      repeat (go_big_quiet_step (first
        | (go_at_call 34; exact later_of _ (Nat.le_refl _) (hmay _))
        | (go_at_call 60; exact later_same _ (hfi _))))
      refine later_end fun w2 b2 => ?_
      have B2 := B1.trans (b2.mono B1.size)
      clear d0 d1 b2
      go_wp2
      go_ret
      rw [HM.out]
      exact ⟨rfl, B2⟩
  · have hm : mayV a b = false := by simpa using hm
    have HM : Hid (hasV a b x = false) := by show _ = _; unfold hasV; rw [hm]; rfl
    rw [hm] at hmay
    clear hm hb
    go_enter Try.func35, Try.ntmps35
    go_wp2_with fail
    rw [← HW.out]
    refine region_later (B := w1.heap.size) (by kernel_rfl) (by kernel_rfl) ?_
    repeat (go_big_quiet_step (first | (go_at_call 34; exact later_of _ (Nat.le_refl _) (hmay _))))
    refine later_end fun w2 b2 => ?_
    have B2 := B1.trans (b2.mono B1.size)
    clear d0 d1 b2
    go_wp2
    go_ret
    rw [HM.out]
    exact ⟨rfl, B2⟩
end Go.Proofs.Ytoogegpkgohffaa
