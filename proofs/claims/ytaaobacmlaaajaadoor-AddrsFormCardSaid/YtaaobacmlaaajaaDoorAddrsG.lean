/- Contracts: the document's prefixes; which endpoint is less; a prefix of an address's first bits. -/
import Derived.Test.YtaaobacmlaaajaaDoorAddrsF
namespace Go.Proofs.YtaaobacmlaaajaaDoor
set_option linter.unusedVariables false
set_option linter.unusedSimpArgs false
open Go.ChangeShapes Go.WideShapes Go.ChangeAt Go.RowKit Go.PlainAid
theorem may_rem (a n : Nat) : decide (a = firstN a n) = decide (a % sizeN n = 0) := by
  have h1 := Nat.div_add_mod a (sizeN n)
  have h2 : sizeN n * (a / sizeN n) = a / sizeN n * sizeN n := Nat.mul_comm _ _
  unfold firstN
  by_cases h : a % sizeN n = 0
  · have : a = a / sizeN n * sizeN n := by omega
    rw [decide_eq_true h, decide_eq_true this]
  · have : ¬ a = a / sizeN n * sizeN n := by omega
    rw [decide_eq_false h, decide_eq_false this]
theorem has_quo {a n x : Nat} (h : a = firstN a n) : decide (firstN x n = a) = decide (x / sizeN n = a / sizeN n) := by
  have hp := sizeN_pos n
  by_cases hq : x / sizeN n = a / sizeN n
  · have : firstN x n = a := by unfold firstN at *; rw [hq]; exact h.symm
    rw [decide_eq_true hq, decide_eq_true this]
  · have : ¬ firstN x n = a := by
      intro hf
      apply hq
      have : firstN x n / sizeN n = x / sizeN n := by unfold firstN; exact Nat.mul_div_cancel _ (by omega)
      rw [← this, hf]
    rw [decide_eq_false hq, decide_eq_false this]
theorem sizeN_le (n : Nat) : sizeN n ≤ 4294967296 := by
  have : sizeN n ≤ 2 ^ 32 := Nat.pow_le_pow_right (by omega) (by omega)
  omega
set_option maxHeartbeats 2000000 in
set_option maxRecDepth 100000 in
theorem rmay_ (a : Nat) (b : Int) (w : World) (ha : a < 4294967296) (hb : -9223372036854775808 ≤ b ∧ b ≤ 9223372036854775807) :
    Calls Tryd.prog 13 #[.agg #[.int .u32 (a : Int), .int .i64 b]] w fun e w' => e = .returned (.bool (mayV a b)) ∧ Below w.heap.size w w' := by
  obtain ⟨w1, hw1⟩ : ∃ w1, w1 = w.alloc (.cells #[.int .u32 (a : Int), .int .i64 b] 28) := ⟨_, rfl⟩
  have B1 : Below w.heap.size w w1 := by rw [hw1]; exact (Below.refl _ _).alloc (Nat.le_refl _) _
  have s1 : w.heap.size < w1.heap.size := by rw [hw1]; simp
  have c0 : w1.cell? ⟨w.heap.size, 0, none⟩ = some (.int .u32 (a : Int)) := by rw [hw1]; simp
  have c1 : w1.cell? ⟨w.heap.size, 1, none⟩ = some (.int .i64 b) := by rw [hw1]; simp
  have d0 : ∀ q : Later w1.heap.size w1, q.u.cell? ⟨w.heap.size, 0, none⟩ = some (.int .u32 (a : Int)) := fun q => q.block s1 c0
  have d1 : ∀ q : Later w1.heap.size w1, q.u.cell? ⟨w.heap.size, 1, none⟩ = some (.int .i64 b) := fun q => q.block s1 c1
  have HW := Lib.hid hw1
  clear hw1 c0 c1
  by_cases h0 : b < 0
  · have HM : Hid (mayV a b = false) := mayV_low h0
    have e1 : decide (0 ≤ b) = false := by simpa using h0
    clear h0 hb
    go_enter Tryd.func13, Tryd.ntmps13
    go_wp2_with fail
    rw [← HW.out]
    refine region_later (B := w1.heap.size) (by kernel_rfl) (by kernel_rfl) ?_
    repeat (go_big_quiet_step (fail))
    refine later_end fun w2 b2 => ?_
    have B2 := B1.trans (b2.mono B1.size)
    clear d0 d1 b2
    go_wp2
    go_ret
    rw [HM.out]
    exact ⟨rfl, B2⟩
  obtain ⟨n, rfl⟩ : ∃ n : Nat, b = (n : Int) := ⟨b.toNat, by omega⟩
  have e0 : decide ((0 : Int) ≤ (n : Int)) = true := by simp
  clear h0
  by_cases h32 : 32 < n
  · have HM : Hid (mayV a (n : Int) = false) := mayV_high (by omega)
    have e1 : decide (n ≤ 32) = false := by simpa using h32
    have e1' : decide ((n : Int) ≤ 32) = false := by simp; omega
    clear h32 hb
    go_enter Tryd.func13, Tryd.ntmps13
    go_wp2_with fail
    rw [← HW.out]
    refine region_later (B := w1.heap.size) (by kernel_rfl) (by kernel_rfl) ?_
    repeat (go_big_quiet_step (fail))
    refine later_end fun w2 b2 => ?_
    have B2 := B1.trans (b2.mono B1.size)
    clear d0 d1 b2
    go_wp2
    go_ret
    rw [HM.out]
    exact ⟨rfl, B2⟩
  · have hn : n ≤ 32 := by omega
    have e1 : decide (n ≤ 32) = true := by simpa using hn
    have e1' : decide ((n : Int) ≤ 32) = true := by simp; omega
    have hsz := fun u => rsize_ n u hn
    have HMM : Hid (mayV a (n : Int) = decide (a % sizeN n = 0)) := by show _ = _; rw [mayV_in hn, may_rem]
    have hp := sizeN_pos n
    have hp2 := sizeN_le n
    obtain ⟨S, hS⟩ : ∃ S, S = sizeN n := ⟨_, rfl⟩
    rw [← hS] at hsz HMM hp hp2
    obtain ⟨m, hm⟩ : ∃ m, m = a % S := ⟨_, rfl⟩
    have em : (a : Int) % (S : Int) = (m : Int) := by rw [hm]; push_cast; rfl
    have hm2 : m < S := by rw [hm]; exact Nat.mod_lt _ (by omega)
    rw [← hm] at HMM
    have p0 : (0 : Int) < (S : Int) := by omega
    have p1 : (1 : Int) ≤ (S : Int) := by omega
    have p2 : ¬ (S : Int) = 0 := by omega
    have p2' : ¬ S = 0 := by omega
    have p3 : (S : Int) ≤ 4294967296 := by omega
    have ha2 : (a : Int) ≤ 4294967295 := by omega
    have ha0 : (0 : Int) ≤ (a : Int) := by omega
    have et : (a : Int).tmod (S : Int) = (m : Int) := by rw [Int.tmod_eq_emod_of_nonneg ha0, em]
    have ew : IntKind.u64.wrap (m : Int) = (m : Int) := IntWalk.u64_in _ (by omega)
    have ewa : IntKind.u64.wrap (a : Int) = (a : Int) := IntWalk.u64_in _ (by omega)
    clear h32 hb hn hS hm
    by_cases he : m = 0
    · have HM : Hid (mayV a (n : Int) = true) := by show _ = _; rw [HMM.out]; simpa using he
      subst he
      go_enter Tryd.func13, Tryd.ntmps13
      go_wp2_with fail
      rw [← HW.out]
      refine region_later (B := w1.heap.size) (by kernel_rfl) (by kernel_rfl) ?_
      repeat (go_big_quiet_step (first | (go_at_call 27; exact later_same _ (hsz _))))
      refine later_end fun w2 b2 => ?_
      have B2 := B1.trans (b2.mono B1.size)
      clear d0 d1 b2
      go_wp2
      go_ret
      rw [HM.out]
      exact ⟨rfl, B2⟩
    · have HM : Hid (mayV a (n : Int) = false) := by show _ = _; rw [HMM.out]; simpa using he
      have e2 : (m == 0) = false := by simpa using he
      have e3 : ((m : Int) == 0) = false := by simp; omega
      go_enter Tryd.func13, Tryd.ntmps13
      go_wp2_with fail
      rw [← HW.out]
      refine region_later (B := w1.heap.size) (by kernel_rfl) (by kernel_rfl) ?_
      repeat (go_big_quiet_step (first | (go_at_call 27; exact later_same _ (hsz _))))
      refine later_end fun w2 b2 => ?_
      have B2 := B1.trans (b2.mono B1.size)
      clear d0 d1 b2
      go_wp2
      go_ret
      rw [HM.out]
      exact ⟨rfl, B2⟩
/-- The number of bits of 'whole'. -/
def wbits (b : Nat) : Nat := b % 33
set_option maxHeartbeats 2000000 in
set_option maxRecDepth 100000 in
theorem whole_ (a b : Nat) (w : World) (ha : a < 4294967296) (hb : b ≤ 255) :
    Calls Tryd.prog 19 #[.int .u32 (a : Int), .int .u8 (b : Int)] w fun e w' => e = .returned (.agg #[.int .u32 (firstN a (wbits b) : Nat), .int .i64 (wbits b : Nat)]) ∧ Below w.heap.size w w' := by
  obtain ⟨n, hn⟩ : ∃ n, n = wbits b := ⟨_, rfl⟩
  have en : (b : Int) % 33 = (n : Int) := by rw [hn]; unfold wbits; omega
  have hn2 : n ≤ 32 := by rw [hn]; unfold wbits; omega
  rw [← hn]
  clear hn
  have h := first_int a n ha
  have e1 : IntKind.i64.wrap (32 - (n : Int)) = 32 - (n : Int) := IntWalk.i64_in _ (by omega)
  have ha0 : (0 : Int) ≤ (a : Int) := by omega
  have ha2 : (a : Int) ≤ 4294967295 := by omega
  have hf := firstN_le a n
  have ef : (a : Int) / 2 ^ (32 - n) * 2 ^ (32 - n) = ((firstN a n : Nat) : Int) := by unfold firstN sizeN; push_cast; rfl
  go_enter Tryd.func19, Tryd.ntmps19
  go_wp2
  exact bodyPost_ret (v := .agg #[.int .u32 (firstN a n : Nat), .int .i64 (n : Nat)]) (by simp [results, Tryd.results19, go_sem]) rfl ⟨rfl, (Below.refl _ _).alloc (Nat.le_refl _) _⟩
end Go.Proofs.YtaaobacmlaaajaaDoor
