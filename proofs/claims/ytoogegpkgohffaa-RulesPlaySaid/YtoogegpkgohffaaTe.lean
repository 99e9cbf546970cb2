/- Texts of this proof, together: AddrsP, AddrsA, AddrsB, AddrsC, AddrsD, AddrsF, AddrsG, AddrsR. -/
import Derived.Test.YtoogegpkgohffaaTc
import Derived.Test.YtoogegpkgohffaaTb
import Derived.PlainAid
import Derived.Lib.ItoaNum
import Derived.Lib.IndexLaws
import Derived.Lib.Bytealg
import Derived.Test.YtoogegpkgohffaaRows
import Derived.WalkKit
import Derived.ProofKit
import Derived.OpenShut
import Derived.ShutString
import Derived.Below
import Derived.Outline
import Derived.WalkSpells
import Derived.WalkLawsBesides
import Derived.IntWalk
import Derived.Deep.QuietTactic
import Derived.BigQuiet
import Derived.Lib.Hide
namespace Go.Proofs.Ytoogegpkgohffaa
set_option linter.unusedVariables false
set_option linter.unusedSimpArgs false
open Go.Lib
/-- How many addresses have the same first bits. -/
def sizeN (b : Nat) : Nat := 2 ^ (32 - b)
def firstN (a b : Nat) : Nat := a / sizeN b * sizeN b
/-- Whether a prefix may be. -/
def mayV (a : Nat) (b : Int) : Bool := decide (0 ≤ b) && decide (b ≤ 32) && decide (a = firstN a b.toNat)
def hasV (a : Nat) (b : Int) (x : Nat) : Bool := mayV a b && decide (firstN x b.toNat = a)
theorem sizeN_pos (b : Nat) : 1 ≤ sizeN b := Nat.one_le_two_pow
end Go.Proofs.Ytoogegpkgohffaa
namespace Go.Proofs.Ytoogegpkgohffaa
set_option linter.unusedVariables false
set_option linter.unusedSimpArgs false
open Go.ChangeShapes Go.WideShapes Go.ChangeAt Go.RowKit Go.PlainAid
theorem firstN_le (a b : Nat) : firstN a b ≤ a := Nat.div_mul_le_self _ _
theorem first_int (a b : Nat) (ha : a < 4294967296) : (a : Int) / 2 ^ (32 - b) * 2 ^ (32 - b) % 4294967296 = ((firstN a b : Nat) : Int) := by
  have e : (a : Int) / 2 ^ (32 - b) * 2 ^ (32 - b) = ((firstN a b : Nat) : Int) := by unfold firstN sizeN; push_cast; rfl
  have := firstN_le a b
  rw [e]; omega
set_option maxHeartbeats 1000000 in
theorem first_ (a b : Nat) (w : World) (ha : a < 4294967296) (hb : b ≤ 32) :
    Calls Try.prog 60 #[.int .u32 (a : Int), .int .i64 (b : Int)] w fun e w' => e = .returned (.int .u32 (firstN a b : Nat)) ∧ w = w' := by
  have e1 : IntKind.i64.wrap (32 - (b : Int)) = 32 - (b : Int) := IntWalk.i64_in _ (by omega)
  go_enter Try.func60, Try.ntmps60
  go_wp2
  go_ret
  have h := first_int a b ha
  exact ⟨by rw [h]; rfl, rfl⟩
set_option maxHeartbeats 1000000 in
theorem rsize_ (b : Nat) (w : World) (hb : b ≤ 32) :
    Calls Try.prog 61 #[.int .i64 (b : Int)] w fun e w' => e = .returned (.int .u64 (sizeN b : Nat)) ∧ w = w' := by
  go_enter Try.func61, Try.ntmps61
  go_wp2_with fail
  go_loop [3, 4] (fun v si => ∃ i : Nat, b ≤ i ∧ i ≤ 32 ∧ si = .int .i64 (i : Int) ∧ v = .int .u64 ((2 ^ (i - b) : Nat) : Int)) (fun _ si => 32 - (intOf si).toNat)
  case atStart => exact ⟨b, by omega, hb, rfl, by simp⟩
  case round =>
    obtain ⟨i, hi, hi2, rfl, rfl⟩ := hrel
    by_cases h : i = 32
    · subst h
      have HN : Hid (sizeN b = 2 ^ (32 - b)) := rfl
      go_wp2
      go_ret
      rw [HN.out]
      exact ⟨rfl, rfl⟩
    · have e1 : decide (i < 32) = true := by simp; omega
      have hp : 2 ^ (i - b) ≤ 2 ^ 31 := Nat.pow_le_pow_right (by omega) (by omega)
      have HP : Hid (2 ^ (i + 1 - b) = 2 * 2 ^ (i - b)) := by show _ = _; rw [show i + 1 - b = (i - b) + 1 by omega, Nat.pow_succ]; omega
      obtain ⟨m, hm⟩ : ∃ m, m = 2 ^ (i - b) := ⟨_, rfl⟩
      rw [← hm] at hp HP ⊢
      clear hm
      have e2 : IntKind.u64.wrap (2 * (m : Int)) = 2 * (m : Int) := IntWalk.u64_in _ (by omega)
      go_wp2
      go_round
      case rel => exact ⟨i + 1, by omega, by omega, by go_num, by rw [HP.out]; go_num⟩
      case measure => simp [intOf]; omega
theorem mayV_low {a : Nat} {b : Int} (h : b < 0) : mayV a b = false := by
  have : ¬ 0 ≤ b := by omega
  simp [mayV, this]
theorem mayV_high {a : Nat} {b : Int} (h : 32 < b) : mayV a b = false := by
  have : ¬ b ≤ 32 := by omega
  simp [mayV, this]
theorem mayV_in {a n : Nat} (h : n ≤ 32) : mayV a (n : Int) = decide (a = firstN a n) := by
  have h1 : (0 : Int) ≤ (n : Int) := by omega
  have h2 : (n : Int) ≤ 32 := by omega
  simp [mayV]
  omega
set_option maxHeartbeats 2000000 in
set_option maxRecDepth 100000 in
theorem may_ (a : Nat) (b : Int) (w : World) (ha : a < 4294967296) (hb : -9223372036854775808 ≤ b ∧ b ≤ 9223372036854775807) :
    Calls Try.prog 34 #[.agg #[.int .u32 (a : Int), .int .i64 b]] w fun e w' => e = .returned (.bool (mayV a b)) ∧ Below w.heap.size w w' := by
  obtain ⟨w1, hw1⟩ : ∃ w1, w1 = w.alloc (.cells #[.int .u32 (a : Int), .int .i64 b] 31) := ⟨_, rfl⟩
  have B1 : Below w.heap.size w w1 := by rw [hw1]; exact (Below.refl _ _).alloc (Nat.le_refl _) _
  have s1 : w.heap.size < w1.heap.size := by rw [hw1]; simp
  have c0 : w1.cell? ⟨w.heap.size, 0, none⟩ = some (.int .u32 (a : Int)) := by rw [hw1]; simp
  have c1 : w1.cell? ⟨w.heap.size, 1, none⟩ = some (.int .i64 b) := by rw [hw1]; simp
  have HW := Lib.hid hw1
  clear hw1
  by_cases h0 : b < 0
  · have HM : Hid (mayV a b = false) := mayV_low h0
    have d0 : ∀ q : Later w1.heap.size w1, q.u.cell? ⟨w.heap.size, 0, none⟩ = some (.int .u32 (a : Int)) := fun q => q.block s1 c0
    have d1 : ∀ q : Later w1.heap.size w1, q.u.cell? ⟨w.heap.size, 1, none⟩ = some (.int .i64 b) := fun q => q.block s1 c1
    have e1 : decide (0 ≤ b) = false := by simpa using h0
    clear c0 c1 h0 hb
    go_enter Try.func34, Try.ntmps34
    go_wp2_with fail
    rw [← HW.out]
    refine region_later (B := w1.heap.size) (by kernel_rfl) (by kernel_rfl) ?_
    repeat (go_big_quiet_step (fail))
    refine later_end fun w2 b2 => ?_
    have B2 := B1.trans (b2.mono B1.size)
    clear d0 d1 b2
    go_wp2
    go_ret
    rw [HM.out]
    exact ⟨rfl, B2⟩
  obtain ⟨n, rfl⟩ : ∃ n : Nat, b = (n : Int) := ⟨b.toNat, by omega⟩
  clear h0
  by_cases h32 : 32 < n
  · have HM : Hid (mayV a (n : Int) = false) := mayV_high (by omega)
    have d0 : ∀ q : Later w1.heap.size w1, q.u.cell? ⟨w.heap.size, 0, none⟩ = some (.int .u32 (a : Int)) := fun q => q.block s1 c0
    have d1 : ∀ q : Later w1.heap.size w1, q.u.cell? ⟨w.heap.size, 1, none⟩ = some (.int .i64 (n : Int)) := fun q => q.block s1 c1
    have e1 : decide (n ≤ 32) = false := by simpa using h32
    have e1' : decide ((n : Int) ≤ 32) = false := by simp; omega
    have e0 : decide ((0 : Int) ≤ (n : Int)) = true := by simp
    clear c0 c1 h32 hb
    go_enter Try.func34, Try.ntmps34
    go_wp2_with fail
    rw [← HW.out]
    refine region_later (B := w1.heap.size) (by kernel_rfl) (by kernel_rfl) ?_
    repeat (go_big_quiet_step (fail))
    refine later_end fun w2 b2 => ?_
    have B2 := B1.trans (b2.mono B1.size)
    clear d0 d1 b2
    go_wp2
    go_ret
    rw [HM.out]
    exact ⟨rfl, B2⟩
  · have hn : n ≤ 32 := by omega
    have e1 : decide (n ≤ 32) = true := by simpa using hn
    have e1' : decide ((n : Int) ≤ 32) = true := by simp; omega
    have e0 : decide ((0 : Int) ≤ (n : Int)) = true := by simp
    have d0 : ∀ q : Later w1.heap.size w1, q.u.cell? ⟨w.heap.size, 0, none⟩ = some (.int .u32 (a : Int)) := fun q => q.block s1 c0
    have d1 : ∀ q : Later w1.heap.size w1, q.u.cell? ⟨w.heap.size, 1, none⟩ = some (.int .i64 (n : Int)) := fun q => q.block s1 c1
    have hfi := fun u => first_ a n u ha hn
    have HMM : Hid (mayV a (n : Int) = decide (a = firstN a n)) := mayV_in hn
    obtain ⟨f, hf⟩ : ∃ f, f = firstN a n := ⟨_, rfl⟩
    rw [← hf] at hfi HMM
    clear c0 c1 h32 hb hn hf
    by_cases he : a = f
    · have HM : Hid (mayV a (n : Int) = true) := by show _ = _; rw [HMM.out]; simpa using he
      subst he
      go_enter Try.func34, Try.ntmps34
      go_wp2_with fail
      rw [← HW.out]
      refine region_later (B := w1.heap.size) (by kernel_rfl) (by kernel_rfl) ?_
      repeat (go_big_quiet_step (first | (go_at_call 60; exact later_same _ (hfi _))))
      refine later_end fun w2 b2 => ?_
      have B2 := B1.trans (b2.mono B1.size)
      clear d0 d1 b2
      go_wp2
      go_ret
      rw [HM.out]
      exact ⟨rfl, B2⟩
    · have HM : Hid (mayV a (n : Int) = false) := by show _ = _; rw [HMM.out]; simpa using he
      have e2 : (a == f) = false := by simpa using he
      have e3 : ((a : Int) == (f : Int)) = false := by simp; omega
      go_enter Try.func34, Try.ntmps34
      go_wp2_with fail
      rw [← HW.out]
      refine region_later (B := w1.heap.size) (by kernel_rfl) (by kernel_rfl) ?_
      repeat (go_big_quiet_step (first | (go_at_call 60; exact later_same _ (hfi _))))
      refine later_end fun w2 b2 => ?_
      have B2 := B1.trans (b2.mono B1.size)
      clear d0 d1 b2
      go_wp2
      go_ret
      rw [HM.out]
      exact ⟨rfl, B2⟩
set_option maxHeartbeats 2000000 in
set_option maxRecDepth 100000 in
theorem has_ (a : Nat) (b : Int) (x : Nat) (w : World) (ha : a < 4294967296) (hx : x < 4294967296) (hb : -9223372036854775808 ≤ b ∧ b ≤ 9223372036854775807) :
    Calls Try.prog 35 #[.agg #[.int .u32 (a : Int), .int .i64 b], .int .u32 (x : Int)] w fun e w' => e = .returned (.bool (hasV a b x)) ∧ Below w.heap.size w w' := by
  obtain ⟨w1, hw1⟩ : ∃ w1, w1 = w.alloc (.cells #[.int .u32 (a : Int), .int .i64 b] 31) := ⟨_, rfl⟩
  have B1 : Below w.heap.size w w1 := by rw [hw1]; exact (Below.refl _ _).alloc (Nat.le_refl _) _
  have s1 : w.heap.size < w1.heap.size := by rw [hw1]; simp
  have c0 : w1.cell? ⟨w.heap.size, 0, none⟩ = some (.int .u32 (a : Int)) := by rw [hw1]; simp
  have c1 : w1.cell? ⟨w.heap.size, 1, none⟩ = some (.int .i64 b) := by rw [hw1]; simp
  have d0 : ∀ q : Later w1.heap.size w1, q.u.cell? ⟨w.heap.size, 0, none⟩ = some (.int .u32 (a : Int)) := fun q => q.block s1 c0
  have d1 : ∀ q : Later w1.heap.size w1, q.u.cell? ⟨w.heap.size, 1, none⟩ = some (.int .i64 b) := fun q => q.block s1 c1
  have hmay := fun u => may_ a b u ha hb
  have HW := Lib.hid hw1
  clear hw1 c0 c1
  by_cases hm : mayV a b = true
  · have hbn : 0 ≤ b ∧ b ≤ 32 := by simp [mayV] at hm; omega
    obtain ⟨n, rfl⟩ : ∃ n : Nat, b = (n : Int) := ⟨b.toNat, by omega⟩
    have hn : n ≤ 32 := by omega
    have hfi := fun u => first_ x n u hx hn
    have HMM : Hid (hasV a (n : Int) x = decide (firstN x n = a)) := by show _ = _; unfold hasV; rw [hm]; simp
    obtain ⟨f, hf⟩ : ∃ f, f = firstN x n := ⟨_, rfl⟩
    rw [← hf] at hfi HMM
    rw [hm] at hmay
    clear hf hbn hm hb hn
    by_cases he : f = a
    · have HM : Hid (hasV a (n : Int) x = true) := by show _ = _; rw [HMM.out]; simpa using he
      subst he
      go_enter Try.func35, Try.ntmps35
      go_wp2_with fail
      rw [← HW.out]
      refine region_later (B := w1.heap.size) (by kernel_rfl) (by kernel_rfl) ?_
      repeat (go_big_quiet_step (first
        | (go_at_call 34; exact later_of _ (Nat.le_refl _) (hmay _))
        | (go_at_call 60; exact later_same _ (hfi _))))
      refine later_end fun w2 b2 => ?_
      have B2 := B1.trans (b2.mono B1.size)
      clear d0 d1 b2
      go_wp2
      go_ret
      rw [HM.out]
      exact ⟨rfl, B2⟩
    · have HM : Hid (hasV a (n : Int) x = false) := by show _ = _; rw [HMM.out]; simpa using he
      have e2 : (f == a) = false := by simpa using he
      have e3 : ((f : Int) == (a : Int)) = false := by simp; omega
      go_enter Try.func35, Try.ntmps35
      go_wp2_with fail
      rw [← HW.out]
      refine region_later (B := w1.heap.size) (by kernel_rfl) (by kernel_rfl) ?_
      repeat (go_big_quiet_step (first
        | (go_at_call 34; exact later_of _ (Nat.le_refl _) (hmay _))
        | (go_at_call 60; exact later_same _ (hfi _))))
      refine later_end fun w2 b2 => ?_
      have B2 := B1.trans (b2.mono B1.size)
      clear d0 d1 b2
      go_wp2
      go_ret
      rw [HM.out]
      exact ⟨rfl, B2⟩
  · have hm : mayV a b = false := by simpa using hm
    have HM : Hid (hasV a b x = false) := by show _ = _; unfold hasV; rw [hm]; rfl
    rw [hm] at hmay
    clear hm hb
    go_enter Try.func35, Try.ntmps35
    go_wp2_with fail
    rw [← HW.out]
    refine region_later (B := w1.heap.size) (by kernel_rfl) (by kernel_rfl) ?_
    repeat (go_big_quiet_step (first | (go_at_call 34; exact later_of _ (Nat.le_refl _) (hmay _))))
    refine later_end fun w2 b2 => ?_
    have B2 := B1.trans (b2.mono B1.size)
    clear d0 d1 b2
    go_wp2
    go_ret
    rw [HM.out]
    exact ⟨rfl, B2⟩
theorem may_rem (a n : Nat) : decide (a = firstN a n) = decide (a % sizeN n = 0) := by
  have h1 := Nat.div_add_mod a (sizeN n)
  have h2 : sizeN n * (a / sizeN n) = a / sizeN n * sizeN n := Nat.mul_comm _ _
  unfold firstN
  by_cases h : a % sizeN n = 0
  · have : a = a / sizeN n * sizeN n := by omega
    rw [decide_eq_true h, decide_eq_true this]
  · have : ¬ a = a / sizeN n * sizeN n := by omega
    rw [decide_eq_false h, decide_eq_false this]
theorem has_quo {a n x : Nat} (h : a = firstN a n) : decide (firstN x n = a) = decide (x / sizeN n = a / sizeN n) := by
  have hp := sizeN_pos n
  by_cases hq : x / sizeN n = a / sizeN n
  · have : firstN x n = a := by unfold firstN at *; rw [hq]; exact h.symm
    rw [decide_eq_true hq, decide_eq_true this]
  · have : ¬ firstN x n = a := by
      intro hf
      apply hq
      have : firstN x n / sizeN n = x / sizeN n := by unfold firstN; exact Nat.mul_div_cancel _ (by omega)
      rw [← this, hf]
    rw [decide_eq_false hq, decide_eq_false this]
theorem sizeN_le (n : Nat) : sizeN n ≤ 4294967296 := by
  have : sizeN n ≤ 2 ^ 32 := Nat.pow_le_pow_right (by omega) (by omega)
  omega
set_option maxHeartbeats 2000000 in
set_option maxRecDepth 100000 in
theorem rmay_ (a : Nat) (b : Int) (w : World) (ha : a < 4294967296) (hb : -9223372036854775808 ≤ b ∧ b ≤ 9223372036854775807) :
    Calls Try.prog 36 #[.agg #[.int .u32 (a : Int), .int .i64 b]] w fun e w' => e = .returned (.bool (mayV a b)) ∧ Below w.heap.size w w' := by
  obtain ⟨w1, hw1⟩ : ∃ w1, w1 = w.alloc (.cells #[.int .u32 (a : Int), .int .i64 b] 31) := ⟨_, rfl⟩
  have B1 : Below w.heap.size w w1 := by rw [hw1]; exact (Below.refl _ _).alloc (Nat.le_refl _) _
  have s1 : w.heap.size < w1.heap.size := by rw [hw1]; simp
  have c0 : w1.cell? ⟨w.heap.size, 0, none⟩ = some (.int .u32 (a : Int)) := by rw [hw1]; simp
  have c1 : w1.cell? ⟨w.heap.size, 1, none⟩ = some (.int .i64 b) := by rw [hw1]; simp
  have d0 : ∀ q : Later w1.heap.size w1, q.u.cell? ⟨w.heap.size, 0, none⟩ = some (.int .u32 (a : Int)) := fun q => q.block s1 c0
  have d1 : ∀ q : Later w1.heap.size w1, q.u.cell? ⟨w.heap.size, 1, none⟩ = some (.int .i64 b) := fun q => q.block s1 c1
  have HW := Lib.hid hw1
  clear hw1 c0 c1
  by_cases h0 : b < 0
  · have HM : Hid (mayV a b = false) := mayV_low h0
    have e1 : decide (0 ≤ b) = false := by simpa using h0
    clear h0 hb
    go_enter Try.func36, Try.ntmps36
    go_wp2_with fail
    rw [← HW.out]
    refine region_later (B := w1.heap.size) (by kernel_rfl) (by kernel_rfl) ?_
    repeat (go_big_quiet_step (fail))
    refine later_end fun w2 b2 => ?_
    have B2 := B1.trans (b2.mono B1.size)
    clear d0 d1 b2
    go_wp2
    go_ret
    rw [HM.out]
    exact ⟨rfl, B2⟩
  obtain ⟨n, rfl⟩ : ∃ n : Nat, b = (n : Int) := ⟨b.toNat, by omega⟩
  have e0 : decide ((0 : Int) ≤ (n : Int)) = true := by simp
  clear h0
  by_cases h32 : 32 < n
  · have HM : Hid (mayV a (n : Int) = false) := mayV_high (by omega)
    have e1 : decide (n ≤ 32) = false := by simpa using h32
    have e1' : decide ((n : Int) ≤ 32) = false := by simp; omega
    clear h32 hb
    go_enter Try.func36, Try.ntmps36
    go_wp2_with fail
    rw [← HW.out]
    refine region_later (B := w1.heap.size) (by kernel_rfl) (by kernel_rfl) ?_
    repeat (go_big_quiet_step (fail))
    refine later_end fun w2 b2 => ?_
    have B2 := B1.trans (b2.mono B1.size)
    clear d0 d1 b2
    go_wp2
    go_ret
    rw [HM.out]
    exact ⟨rfl, B2⟩
  · have hn : n ≤ 32 := by omega
    have e1 : decide (n ≤ 32) = true := by simpa using hn
    have e1' : decide ((n : Int) ≤ 32) = true := by simp; omega
    have hsz := fun u => rsize_ n u hn
    have HMM : Hid (mayV a (n : Int) = decide (a % sizeN n = 0)) := by show _ = _; rw [mayV_in hn, may_rem]
    have hp := sizeN_pos n
    have hp2 := sizeN_le n
    obtain ⟨S, hS⟩ : ∃ S, S = sizeN n := ⟨_, rfl⟩
    rw [← hS] at hsz HMM hp hp2
    obtain ⟨m, hm⟩ : ∃ m, m = a % S := ⟨_, rfl⟩
    have em : (a : Int) % (S : Int) = (m : Int) := by rw [hm]; push_cast; rfl
    have hm2 : m < S := by rw [hm]; exact Nat.mod_lt _ (by omega)
    rw [← hm] at HMM
    have p0 : (0 : Int) < (S : Int) := by omega
    have p1 : (1 : Int) ≤ (S : Int) := by omega
    have p2 : ¬ (S : Int) = 0 := by omega
    have p2' : ¬ S = 0 := by omega
    have p3 : (S : Int) ≤ 4294967296 := by omega
    have ha2 : (a : Int) ≤ 4294967295 := by omega
    have ha0 : (0 : Int) ≤ (a : Int) := by omega
    have et : (a : Int).tmod (S : Int) = (m : Int) := by rw [Int.tmod_eq_emod_of_nonneg ha0, em]
    have ew : IntKind.u64.wrap (m : Int) = (m : Int) := IntWalk.u64_in _ (by omega)
    have ewa : IntKind.u64.wrap (a : Int) = (a : Int) := IntWalk.u64_in _ (by omega)
    clear h32 hb hn hS hm
    by_cases he : m = 0
    · have HM : Hid (mayV a (n : Int) = true) := by show _ = _; rw [HMM.out]; simpa using he
      subst he
      go_enter Try.func36, Try.ntmps36
      go_wp2_with fail
      rw [← HW.out]
      refine region_later (B := w1.heap.size) (by kernel_rfl) (by kernel_rfl) ?_
      repeat (go_big_quiet_step (first | (go_at_call 61; exact later_same _ (hsz _))))
      refine later_end fun w2 b2 => ?_
      have B2 := B1.trans (b2.mono B1.size)
      clear d0 d1 b2
      go_wp2
      go_ret
      rw [HM.out]
      exact ⟨rfl, B2⟩
    · have HM : Hid (mayV a (n : Int) = false) := by show _ = _; rw [HMM.out]; simpa using he
      have e2 : (m == 0) = false := by simpa using he
      have e3 : ((m : Int) == 0) = false := by simp; omega
      go_enter Try.func36, Try.ntmps36
      go_wp2_with fail
      rw [← HW.out]
      refine region_later (B := w1.heap.size) (by kernel_rfl) (by kernel_rfl) ?_
      repeat (go_big_quiet_step (first | (go_at_call 61; exact later_same _ (hsz _))))
      refine later_end fun w2 b2 => ?_
      have B2 := B1.trans (b2.mono B1.size)
      clear d0 d1 b2
      go_wp2
      go_ret
      rw [HM.out]
      exact ⟨rfl, B2⟩
set_option maxHeartbeats 4000000 in
set_option maxRecDepth 100000 in
theorem rhas_ (a : Nat) (b : Int) (x : Nat) (w : World) (ha : a < 4294967296) (hx : x < 4294967296) (hb : -9223372036854775808 ≤ b ∧ b ≤ 9223372036854775807) :
    Calls Try.prog 37 #[.agg #[.int .u32 (a : Int), .int .i64 b], .int .u32 (x : Int)] w fun e w' => e = .returned (.bool (hasV a b x)) ∧ Below w.heap.size w w' := by
  obtain ⟨w1, hw1⟩ : ∃ w1, w1 = w.alloc (.cells #[.int .u32 (a : Int), .int .i64 b] 31) := ⟨_, rfl⟩
  have B1 : Below w.heap.size w w1 := by rw [hw1]; exact (Below.refl _ _).alloc (Nat.le_refl _) _
  have s1 : w.heap.size < w1.heap.size := by rw [hw1]; simp
  have c0 : w1.cell? ⟨w.heap.size, 0, none⟩ = some (.int .u32 (a : Int)) := by rw [hw1]; simp
  have c1 : w1.cell? ⟨w.heap.size, 1, none⟩ = some (.int .i64 b) := by rw [hw1]; simp
  have d0 : ∀ q : Later w1.heap.size w1, q.u.cell? ⟨w.heap.size, 0, none⟩ = some (.int .u32 (a : Int)) := fun q => q.block s1 c0
  have d1 : ∀ q : Later w1.heap.size w1, q.u.cell? ⟨w.heap.size, 1, none⟩ = some (.int .i64 b) := fun q => q.block s1 c1
  have hmay := fun u => rmay_ a b u ha hb
  have HW := Lib.hid hw1
  clear hw1 c0 c1
  by_cases hm : mayV a b = true
  · have hbn : 0 ≤ b ∧ b ≤ 32 := by simp [mayV] at hm; omega
    obtain ⟨n, rfl⟩ : ∃ n : Nat, b = (n : Int) := ⟨b.toNat, by omega⟩
    have hn : n ≤ 32 := by omega
    have hsz := fun u => rsize_ n u hn
    have hfa : a = firstN a n := by rw [mayV_in hn] at hm; simpa using hm
    have HMM : Hid (hasV a (n : Int) x = decide (x / sizeN n = a / sizeN n)) := by
      show _ = _; unfold hasV; rw [hm, Bool.true_and]
      have : (n : Int).toNat = n := by omega
      rw [this, has_quo hfa]
    have hp := sizeN_pos n
    have hp2 := sizeN_le n
    obtain ⟨S, hS⟩ : ∃ S, S = sizeN n := ⟨_, rfl⟩
    rw [← hS] at hsz HMM hp hp2
    rw [hm] at hmay
    obtain ⟨q1, hq1⟩ : ∃ q, q = x / S := ⟨_, rfl⟩
    obtain ⟨q2, hq2⟩ : ∃ q, q = a / S := ⟨_, rfl⟩
    have e1 : (x : Int) / (S : Int) = (q1 : Int) := by rw [hq1]; push_cast; rfl
    have e2 : (a : Int) / (S : Int) = (q2 : Int) := by rw [hq2]; push_cast; rfl
    have l1 : q1 ≤ x := by rw [hq1]; exact Nat.div_le_self _ _
    have l2 : q2 ≤ a := by rw [hq2]; exact Nat.div_le_self _ _
    rw [← hq1, ← hq2] at HMM
    have p0 : (0 : Int) < (S : Int) := by omega
    have p1 : (1 : Int) ≤ (S : Int) := by omega
    have p2 : ¬ (S : Int) = 0 := by omega
    have p2' : ¬ S = 0 := by omega
    have p3 : (S : Int) ≤ 4294967296 := by omega
    have ha2 : (a : Int) ≤ 4294967295 := by omega
    have ha0 : (0 : Int) ≤ (a : Int) := by omega
    have hx2 : (x : Int) ≤ 4294967295 := by omega
    have hx0 : (0 : Int) ≤ (x : Int) := by omega
    have t1 : (x : Int).tdiv (S : Int) = (q1 : Int) := by rw [Int.tdiv_eq_ediv_of_nonneg hx0, e1]
    have t2 : (a : Int).tdiv (S : Int) = (q2 : Int) := by rw [Int.tdiv_eq_ediv_of_nonneg ha0, e2]
    have g1 : IntKind.u64.wrap (q1 : Int) = (q1 : Int) := IntWalk.u64_in _ (by omega)
    have g2 : IntKind.u64.wrap (q2 : Int) = (q2 : Int) := IntWalk.u64_in _ (by omega)
    have g3 : IntKind.u64.wrap (a : Int) = (a : Int) := IntWalk.u64_in _ (by omega)
    have g4 : IntKind.u64.wrap (x : Int) = (x : Int) := IntWalk.u64_in _ (by omega)
    clear hm hb hbn hn hS hq1 hq2 hfa
    by_cases he : q1 = q2
    · have HM : Hid (hasV a (n : Int) x = true) := by show _ = _; rw [HMM.out]; simpa using he
      subst he
      go_enter Try.func37, Try.ntmps37
      go_wp2_with fail
      rw [← HW.out]
      refine region_later (B := w1.heap.size) (by kernel_rfl) (by kernel_rfl) ?_
      repeat (go_big_quiet_step (first
        | (go_at_call 36; exact later_of _ (Nat.le_refl _) (hmay _))
        | (go_at_call 61; exact later_same _ (hsz _))))
      refine later_end fun w2 b2 => ?_
      have B2 := B1.trans (b2.mono B1.size)
      clear d0 d1 b2
      go_wp2
      go_ret
      rw [HM.out]
      exact ⟨rfl, B2⟩
    · have HM : Hid (hasV a (n : Int) x = false) := by show _ = _; rw [HMM.out]; simpa using he
      have y1 : (q1 == q2) = false := by simpa using he
      have y2 : ((q1 : Int) == (q2 : Int)) = false := by simp; omega
      clear he
      go_enter Try.func37, Try.ntmps37
      go_wp2_with fail
      rw [← HW.out]
      refine region_later (B := w1.heap.size) (by kernel_rfl) (by kernel_rfl) ?_
      repeat (go_big_quiet_step (first
        | (go_at_call 36; exact later_of _ (Nat.le_refl _) (hmay _))
        | (go_at_call 61; exact later_same _ (hsz _))))
      refine later_end fun w2 b2 => ?_
      have B2 := B1.trans (b2.mono B1.size)
      clear d0 d1 b2
      go_wp2
      go_ret
      rw [HM.out]
      exact ⟨rfl, B2⟩
  · have hm : mayV a b = false := by simpa using hm
    have HM : Hid (hasV a b x = false) := by show _ = _; unfold hasV; rw [hm]; rfl
    rw [hm] at hmay
    clear hm hb
    go_enter Try.func37, Try.ntmps37
    go_wp2_with fail
    rw [← HW.out]
    refine region_later (B := w1.heap.size) (by kernel_rfl) (by kernel_rfl) ?_
    repeat (go_big_quiet_step (first | (go_at_call 36; exact later_of _ (Nat.le_refl _) (hmay _))))
    refine later_end fun w2 b2 => ?_
    have B2 := B1.trans (b2.mono B1.size)
    clear d0 d1 b2
    go_wp2
    go_ret
    rw [HM.out]
    exact ⟨rfl, B2⟩
end Go.Proofs.Ytoogegpkgohffaa
