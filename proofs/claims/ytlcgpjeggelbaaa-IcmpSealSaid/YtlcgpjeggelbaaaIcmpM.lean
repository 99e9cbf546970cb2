/- What the laws of layer 7 ask of package icmp (IcmpOk: proved of the code elsewhere); the chapter's examples from it. -/
import Derived.Test.YtlcgpjeggelbaaaIcmpP
import Derived.Test.YtlcgpjeggelbaaaBox5
namespace Go.Proofs.Ytlcgpjeggelbaaa
set_option linter.unusedVariables false
set_option linter.unusedSimpArgs false
open Go.ChangeShapes Go.WideShapes Go.ChangeAt Go.RowKit Go.PlainAid
attribute [local go_sem ↓] Go.wp_at_zero Go.wp_at_succ
structure IcmpOk : Prop where
  parses : ∀ (s : ByteArray) (w : World), s.size ≤ 1000000 → Calls Try.prog 8 #[.string s] w fun e w' => e = .returned (.tuple #[.agg #[.int .u8 (mI s (bt s 0)), .int .u8 (mI s (bt s 1)), .int .u16 (mI s (g16 s 2)), .string (mR s), .string (mD s)], .bool (mOk s)]) ∧ Below w.heap.size w w'
  puts : ∀ (ty co su : Int) (r d : ByteArray) (w : World), 0 ≤ ty → ty ≤ 255 → 0 ≤ co → co ≤ 255 → 0 ≤ su → su ≤ 65535 → r.size ≤ 1000000 → d.size ≤ 1000000 → Calls Try.prog 10 #[.agg #[.int .u8 ty, .int .u8 co, .int .u16 su, .string r, .string d]] w fun e w' => e = .returned (.tuple #[.string (icP ty co su r d), .int .i64 (icE r.size)]) ∧ Below w.heap.size w w'
  checks : ∀ (s : ByteArray) (w : World), s.size ≤ 1000000 → Calls Try.prog 20 #[.string s] w fun e w' => e = .returned (.bool (ckM s)) ∧ Below w.heap.size w w'
  seals : ∀ (s : ByteArray) (w : World), s.size ≤ 1000000 → Calls Try.prog 22 #[.string s] w fun e w' => e = .returned (.string (slI s)) ∧ Below w.heap.size w w'
  queries : ∀ (ty co su : Int) (r d : ByteArray) (w : World), 0 ≤ ty → ty ≤ 255 → 0 ≤ co → co ≤ 255 → 0 ≤ su → su ≤ 65535 → r.size ≤ 1000000 → d.size ≤ 1000000 → Calls Try.prog 12 #[.agg #[.int .u8 ty, .int .u8 co, .int .u16 su, .string r, .string d]] w fun e w' => e = .returned (.tuple #[.bool (qAsk ty co), .bool (qIs ty co)]) ∧ Below w.heap.size w w'
  errors : ∀ (ty co su : Int) (r d : ByteArray) (w : World), 0 ≤ ty → ty ≤ 255 → 0 ≤ co → co ≤ 255 → 0 ≤ su → su ≤ 65535 → r.size ≤ 1000000 → d.size ≤ 1000000 → Calls Try.prog 14 #[.agg #[.int .u8 ty, .int .u8 co, .int .u16 su, .string r, .string d]] w fun e w' => e = .returned (.bool (erM ty)) ∧ Below w.heap.size w w'
  ids : ∀ (ty co su : Int) (r d : ByteArray) (w : World), 0 ≤ ty → ty ≤ 255 → 0 ≤ co → co ≤ 255 → 0 ≤ su → su ≤ 65535 → r.size ≤ 1000000 → d.size ≤ 1000000 → Calls Try.prog 16 #[.agg #[.int .u8 ty, .int .u8 co, .int .u16 su, .string r, .string d]] w fun e w' => e = .returned (.int .u16 (idM r)) ∧ Below w.heap.size w w'
  withs : ∀ (ty co su : Int) (r d : ByteArray) (k : Int) (w : World), 0 ≤ ty → ty ≤ 255 → 0 ≤ co → co ≤ 255 → 0 ≤ su → su ≤ 65535 → r.size ≤ 1000000 → d.size ≤ 1000000 → 0 ≤ k → k ≤ 65535 → Calls Try.prog 18 #[.agg #[.int .u8 ty, .int .u8 co, .int .u16 su, .string r, .string d], .int .u16 k] w fun e w' => e = .returned (.agg #[.int .u8 ty, .int .u8 co, .int .u16 su, .string (wiM r k), .string d]) ∧ Below w.heap.size w w'
namespace IcmpLaid
def A0 : ByteArray := ⟨#[8, 0, 0, 0, 0, 7, 0, 1, 97, 98]⟩
def B0 : ByteArray := ⟨#[8, 0, 150, 149, 0, 7, 0, 1, 97, 98]⟩
theorem v1 : icP 8 0 0 ⟨#[0, 7, 0, 1]⟩ ⟨#[97, 98]⟩ = A0 := by kernel_rfl
theorem v1e : icE (⟨#[0, 7, 0, 1]⟩ : ByteArray).size = 0 := by kernel_rfl
theorem v2 : slI A0 = B0 := by kernel_rfl
theorem v6 : idM ⟨#[0, 7, 0, 1]⟩ = 7 := by kernel_rfl
theorem v7 : idM ⟨#[97]⟩ = 0 := by kernel_rfl
end IcmpLaid
set_option maxHeartbeats 4000000 in
set_option maxRecDepth 100000 in
theorem echoed_ (K : IcmpOk) (w : World) :
    Calls Try.prog 7 #[] w fun e w' => e = .returned (.bool true) ∧ Below w.heap.size w w' := by
  have c1 := fun u => K.puts 8 0 0 ⟨#[0, 7, 0, 1]⟩ ⟨#[97, 98]⟩ u (by omega) (by omega) (by omega) (by omega) (by omega) (by omega) (by decide) (by decide)
  have c2 := fun u => K.queries 8 0 0 ⟨#[0, 7, 0, 1]⟩ ⟨#[97, 98]⟩ u (by omega) (by omega) (by omega) (by omega) (by omega) (by omega) (by decide) (by decide)
  have c3 := fun u => K.queries 0 0 0 ⟨#[]⟩ ⟨#[]⟩ u (by omega) (by omega) (by omega) (by omega) (by omega) (by omega) (by decide) (by decide)
  have c4 := fun u => K.queries 8 1 0 ⟨#[]⟩ ⟨#[]⟩ u (by omega) (by omega) (by omega) (by omega) (by omega) (by omega) (by decide) (by decide)
  have c5 := fun u => K.seals IcmpLaid.A0 u (by decide)
  have c6 := fun u => K.ids 8 0 0 ⟨#[0, 7, 0, 1]⟩ ⟨#[97, 98]⟩ u (by omega) (by omega) (by omega) (by omega) (by omega) (by omega) (by decide) (by decide)
  have c7 := fun u => K.ids 0 0 0 ⟨#[97]⟩ ⟨#[]⟩ u (by omega) (by omega) (by omega) (by omega) (by omega) (by omega) (by decide) (by decide)
  have c8 := fun u => K.errors 11 0 0 ⟨#[]⟩ ⟨#[]⟩ u (by omega) (by omega) (by omega) (by omega) (by omega) (by omega) (by decide) (by decide)
  have c9 := fun u => K.errors 5 0 0 ⟨#[]⟩ ⟨#[]⟩ u (by omega) (by omega) (by omega) (by omega) (by omega) (by omega) (by decide) (by decide)
  rw [IcmpLaid.v1, IcmpLaid.v1e] at c1
  rw [show qAsk 8 0 = true from by decide, show qIs 8 0 = true from by decide] at c2
  rw [show qAsk 0 0 = false from by decide, show qIs 0 0 = true from by decide] at c3
  rw [show qAsk 8 1 = false from by decide, show qIs 8 1 = false from by decide] at c4
  rw [IcmpLaid.v2] at c5
  rw [IcmpLaid.v6] at c6
  rw [IcmpLaid.v7] at c7
  rw [show erM 11 = true from by decide] at c8
  rw [show erM 5 = false from by decide] at c9
  obtain ⟨A, hA⟩ : ∃ A, A = IcmpLaid.A0 := ⟨_, rfl⟩
  obtain ⟨B, hB⟩ : ∃ B, B = IcmpLaid.B0 := ⟨_, rfl⟩
  have e1 : (A.toList == [8, 0, 0, 0, 0, 7, 0, 1, 97, 98]) = true := by rw [hA, Lib.toList_data]; rfl
  have e2 : (B.toList == [8, 0, 150, 149, 0, 7, 0, 1, 97, 98]) = true := by rw [hB, Lib.toList_data]; rfl
  rw [← hA] at c1 c5
  rw [← hB] at c5
  clear hA hB
  go_enter Try.func7, Try.ntmps7
  go_wp2_with fail
  have A0 := Box5.make w (.int .u8 8) (.int .u8 0) (.int .u16 0) (.string ⟨#[0, 7, 0, 1]⟩) (.string ⟨#[97, 98]⟩) 24
  have B0 := (Below.refl w.heap.size w).alloc (Nat.le_refl _) (.cells #[.int .u8 8, .int .u8 0, .int .u16 0, .string ⟨#[0, 7, 0, 1]⟩, .string ⟨#[97, 98]⟩] 24)
  refine (c1 _).mono ?_; rintro e w1 ⟨rfl, b1⟩
  have A1 := A0.on b1
  have B1 := B0.trans (b1.mono B0.size)
  obtain ⟨_, f0, f1, f2, f3, f4⟩ := id A1
  clear c1 b1 A0 B0
  go_wp2_with fail
  refine (c2 _).mono ?_; rintro e w2 ⟨rfl, b2⟩
  have A2 := A1.on b2
  have B2 := B1.trans (b2.mono B1.size)
  clear c2 b2 A1 B1 f0 f1 f2 f3 f4
  go_wp2_with fail
  refine (c3 _).mono ?_; rintro e w3 ⟨rfl, b3⟩
  have A3 := A2.on b3
  have B3 := B2.trans (b3.mono B2.size)
  clear c3 b3 A2 B2
  go_wp2_with fail
  refine (c4 _).mono ?_; rintro e w4 ⟨rfl, b4⟩
  have A4 := A3.on b4
  have B4 := B3.trans (b4.mono B3.size)
  clear c4 b4 A3 B3
  go_wp2_with fail
  refine (c5 _).mono ?_; rintro e w5 ⟨rfl, b5⟩
  have A5 := A4.on b5
  have B5 := B4.trans (b5.mono B4.size)
  obtain ⟨_, f0, f1, f2, f3, f4⟩ := id A5
  clear c5 b5 A4 B4 A5
  go_wp2_with fail
  refine (c6 _).mono ?_; rintro e w6 ⟨rfl, b6⟩
  have B6 := B5.trans (b6.mono B5.size)
  clear c6 b6 B5 f0 f1 f2 f3 f4
  go_wp2_with fail
  refine (c7 _).mono ?_; rintro e w7 ⟨rfl, b7⟩
  have B7 := B6.trans (b7.mono B6.size)
  clear c7 b7 B6
  go_wp2_with fail
  refine (c8 _).mono ?_; rintro e w8 ⟨rfl, b8⟩
  have B8 := B7.trans (b8.mono B7.size)
  clear c8 b8 B7
  go_wp2_with fail
  refine (c9 _).mono ?_; rintro e w9 ⟨rfl, b9⟩
  have B9 := B8.trans (b9.mono B8.size)
  clear c9 b9 B8
  go_wp2
  go_ret
  exact ⟨rfl, B9⟩
end Go.Proofs.Ytlcgpjeggelbaaa
