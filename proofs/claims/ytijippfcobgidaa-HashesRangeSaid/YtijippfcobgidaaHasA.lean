/- Contracts of the document's answers for layer 12: shifted, right, add, Number (over the bytes), Of, Both. -/
import Derived.Test.YtijippfcobgidaaHasQ
import Derived.Test.YtijippfcobgidaaFieldsE
import Derived.Test.YtijippfcobgidaaFieldsP
import Derived.Test.YtijippfcobgidaaRegion
namespace Go.Proofs.Ytijippfcobgidaa
set_option linter.unusedVariables false
set_option linter.unusedSimpArgs false
open Go.ChangeShapes Go.WideShapes Go.ChangeAt Go.RowKit Go.PlainAid
theorem u64_cast (n : Nat) (h : n < 4294967296) : IntKind.u64.wrap (n : Int) = n := IntWalk.u64_in _ (by omega)
theorem sh_step (n i : Nat) : 2 * (n * 2 ^ i % 4294967296) % 4294967296 = n * 2 ^ (i + 1) % 4294967296 := by
  rw [Nat.pow_succ, ← Nat.mul_assoc, Nat.mul_comm (n * 2 ^ i) 2, Nat.mul_mod 2 (n * 2 ^ i % 4294967296), Nat.mod_mod, ← Nat.mul_mod]
theorem sr_step (n i : Nat) : n / 2 ^ i / 2 = n / 2 ^ (i + 1) := by rw [Nat.pow_succ, Nat.div_div_eq_div_mul]
set_option maxRecDepth 100000 in
set_option maxHeartbeats 1000000 in
theorem rshifted_ (n k : Nat) (w : World) (hn : n < 4294967296) (hk : k ≤ 100) :
    Calls Try.prog 17 #[.int .u64 (n : Int), .int .i64 (k : Int)] w fun e w' => e = .returned (.int .u64 ((n * 2 ^ k % 4294967296 : Nat) : Int)) ∧ w = w' := by
  go_enter Try.func17, Try.ntmps17
  go_wp2
  go_loopw [0, 5] (fun v si wr => ∃ (i : Nat), i ≤ k ∧ si = .int .i64 (i : Int) ∧ v = .int .u64 ((n * 2 ^ i % 4294967296 : Nat) : Int) ∧ w = wr)
    (fun _ si _ => k - (intOf si).toNat)
  case atStart => exact ⟨0, Nat.zero_le _, rfl, by rw [Nat.pow_zero, Nat.mul_one, Nat.mod_eq_of_lt hn], rfl⟩
  case round =>
    obtain ⟨i, hik, rfl, rfl, rfl⟩ := hrel
    by_cases hlt : i < k
    · have hS := Lib.hid (sh_step n i)
      obtain ⟨m, hm⟩ : ∃ m, m = n * 2 ^ i % 4294967296 := ⟨_, rfl⟩
      have m1 : m < 4294967296 := by rw [hm]; exact Nat.mod_lt _ (by omega)
      rw [← hm] at hS ⊢
      have HM := Lib.hid hm
      clear hm
      have t1 : decide ((i : Int) < (k : Int)) = true := by simp; omega
      have e1 : IntKind.u64.wrap (2 * (m : Int)) = 2 * (m : Int) := IntWalk.u64_in _ (by omega)
      have e2 : (2 * (m : Int)).tmod 4294967296 = ((2 * m % 4294967296 : Nat) : Int) := by rw [Int.tmod_eq_emod_of_nonneg (by omega)]; omega
      have e4 : (2 * (m : Int)) % 4294967296 = ((2 * m % 4294967296 : Nat) : Int) := by omega
      obtain ⟨q, hq⟩ : ∃ q, q = 2 * m % 4294967296 := ⟨_, rfl⟩
      have q1 : q < 4294967296 := by rw [hq]; exact Nat.mod_lt _ (by omega)
      rw [← hq] at e2 e4 hS
      have e3 := u64_cast q q1
      clear hq
      go_wp2
      go_roundw
      case rel => exact ⟨i + 1, by omega, by simp, by rw [hS.out], by first | rfl | trivial⟩
      case measure => simp [intOf]; omega
    · obtain rfl : i = k := by omega
      have t1 : decide ((i : Int) < (i : Int)) = false := by simp
      obtain ⟨m, hm⟩ : ∃ m, m = n * 2 ^ i % 4294967296 := ⟨_, rfl⟩
      rw [← hm]
      have HM := Lib.hid hm
      clear hm
      go_wp2
      go_ret
      rw [← HM.out]
      exact ⟨rfl, rfl⟩
set_option maxRecDepth 100000 in
set_option maxHeartbeats 1000000 in
theorem rright_ (n k : Nat) (w : World) (hn : n < 4294967296) (hk : k ≤ 100) :
    Calls Try.prog 18 #[.int .u64 (n : Int), .int .i64 (k : Int)] w fun e w' => e = .returned (.int .u64 ((n / 2 ^ k : Nat) : Int)) ∧ w = w' := by
  go_enter Try.func18, Try.ntmps18
  go_wp2
  go_loopw [0, 5] (fun v si wr => ∃ (i : Nat), i ≤ k ∧ si = .int .i64 (i : Int) ∧ v = .int .u64 ((n / 2 ^ i : Nat) : Int) ∧ w = wr)
    (fun _ si _ => k - (intOf si).toNat)
  case atStart => exact ⟨0, Nat.zero_le _, rfl, by rw [Nat.pow_zero, Nat.div_one], rfl⟩
  case round =>
    obtain ⟨i, hik, rfl, rfl, rfl⟩ := hrel
    by_cases hlt : i < k
    · have hS := Lib.hid (sr_step n i)
      obtain ⟨m, hm⟩ : ∃ m, m = n / 2 ^ i := ⟨_, rfl⟩
      have m1 : m < 4294967296 := by rw [hm]; exact Nat.lt_of_le_of_lt (Nat.div_le_self _ _) hn
      rw [← hm] at hS ⊢
      clear hm
      have t1 : decide ((i : Int) < (k : Int)) = true := by simp; omega
      have e2 : ((m : Int)).tdiv 2 = ((m / 2 : Nat) : Int) := by rw [Int.tdiv_eq_ediv_of_nonneg (by omega)]; omega
      have e4 : (m : Int) / 2 = ((m / 2 : Nat) : Int) := by omega
      obtain ⟨q, hq⟩ : ∃ q, q = m / 2 := ⟨_, rfl⟩
      have q1 : q < 4294967296 := by omega
      rw [← hq] at e2 e4 hS
      have e3 := u64_cast q q1
      clear hq
      go_wp2
      go_roundw
      case rel => exact ⟨i + 1, by omega, by simp, by rw [hS.out], by first | rfl | trivial⟩
      case measure => simp [intOf]; omega
    · obtain rfl : i = k := by omega
      have t1 : decide ((i : Int) < (i : Int)) = false := by simp
      obtain ⟨m, hm⟩ : ∃ m, m = n / 2 ^ i := ⟨_, rfl⟩
      rw [← hm]
      have HM := Lib.hid hm
      clear hm
      go_wp2
      go_ret
      rw [← HM.out]
      exact ⟨rfl, rfl⟩
set_option maxHeartbeats 1000000 in
theorem rplus12_ (a b : Nat) (w : World) (ha : a < 4294967296) (hb : b < 4294967296) :
    Calls Try.prog 16 #[.int .u64 (a : Int), .int .u64 (b : Int)] w fun e w' => e = .returned (.int .u64 (((a + b) % 4294967296 : Nat) : Int)) ∧ w = w' := by
  have e1 : IntKind.u64.wrap ((a : Int) + (b : Int)) = (a : Int) + (b : Int) := IntWalk.u64_in _ (by omega)
  have e2 : ((a : Int) + (b : Int)).tmod 4294967296 = (((a + b) % 4294967296 : Nat) : Int) := by rw [Int.tmod_eq_emod_of_nonneg (by omega)]; omega
  have e4 : ((a : Int) + (b : Int)) % 4294967296 = (((a + b) % 4294967296 : Nat) : Int) := by omega
  obtain ⟨q, hq⟩ : ∃ q, q = (a + b) % 4294967296 := ⟨_, rfl⟩
  have q1 : q < 4294967296 := by rw [hq]; exact Nat.mod_lt _ (by omega)
  rw [← hq] at e2 e4 ⊢
  have e3 := u64_cast q q1
  clear hq
  go_enter Try.func16, Try.ntmps16
  go_wp2
  go_ret
  exact ⟨rfl, rfl⟩
end Go.Proofs.Ytijippfcobgidaa
