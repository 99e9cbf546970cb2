/- The walk of AddrsParse. -/
import Derived.Test.YtaaobacmlaaajaaAddrsN
namespace Go.Proofs.Ytaaobacmlaaajaa.AddrsParse
set_option linter.unusedVariables false
set_option linter.unusedSimpArgs false
open Go.ChangeShapes Go.WideShapes Go.ChangeAt Go.RowKit Go.PlainAid
set_option maxHeartbeats 4000000 in
set_option maxRecDepth 100000 in
theorem walk (s : ByteArray) (w : World) (hs : s.size ≤ maxLen) :
    Calls Try.prog 3 #[.string s] w fun e w' => e = .returned (.bool true) ∧ Below w.heap.size w w' := by
  unfold maxLen at hs
  have hs2 : (s.size : Int) ≤ 9223372036854775807 := by omega
  by_cases hlong : 100 < s.size
  · have e1 : decide (100 < s.size) = true := by simpa using hlong
    have e2 : decide ((100 : Int) < (s.size : Int)) = true := by simp; omega
    go_enter Try.func3, Try.ntmps3
    go_wp2_with fail
    refine (named_ _).mono ?_; rintro e w1 ⟨rfl, b1⟩
    go_wp2
    go_ret
    exact ⟨rfl, b1⟩
  · have e1 : decide (100 < s.size) = false := by simpa using hlong
    have e2 : decide ((100 : Int) < (s.size : Int)) = false := by simp; omega
    obtain ⟨l, hl⟩ := str_of s
    have hll : l.length ≤ maxLen := by rw [hl, str_size] at hs; unfold maxLen; omega
    have c1 := fun w => parse_ l w hll
    have c2 := fun w => rparse_ l w hll
    have c3 := fun w => prefix_ l w hll
    have c4 := fun w => rprefix_ l w hll
    have c5 := fun w => point_ l w hll
    have c6 := fun w => rpoint_ l w hll
    rw [← hl] at c1 c2 c3 c4 c5 c6
    generalize parseA l = A1 at *
    generalize parseE l = E1 at *
    generalize (prefR l).1 = A2 at *
    generalize (prefR l).2.1 = N2 at *
    generalize (prefR l).2.2 = E2 at *
    generalize pointA l = A3 at *
    generalize pointN l = N3 at *
    generalize pointE l = E3 at *
    clear hl hll hlong
    go_enter Try.func3, Try.ntmps3
    go_wp2_with fail
    refine (c1 _).mono ?_; rintro e w1 ⟨rfl, b1⟩
    go_wp2_with fail
    refine (c2 _).mono ?_; rintro e w2 ⟨rfl, b2⟩
    have B2 := b1.trans (b2.mono b1.size)
    clear b1 b2
    go_wp2_with fail
    refine (c3 _).mono ?_; rintro e w3 ⟨rfl, b3⟩
    have B3 := B2.trans (b3.mono B2.size)
    clear B2 b3
    go_wp2_with fail
    refine (c4 _).mono ?_; rintro e w4 ⟨rfl, b4⟩
    have p0 : w4.cell? ⟨w3.heap.size, 0, none⟩ = some (.int .u32 A2) := kept_ b4 (by simp [go_sem]) (by simp)
    have p1 : w4.cell? ⟨w3.heap.size, 1, none⟩ = some (.int .i64 N2) := kept_ b4 (by simp [go_sem]) (by simp)
    obtain ⟨B4, s4⟩ := step_ B3 b4
    clear B3 b4
    go_wp2_with fail
    refine (c5 _).mono ?_; rintro e w5 ⟨rfl, b5⟩
    have q0 : w5.cell? ⟨w4.heap.size, 0, none⟩ = some (.int .u32 A2) := kept_ b5 (by simp [go_sem]) (by simp)
    have q1 : w5.cell? ⟨w4.heap.size, 1, none⟩ = some (.int .i64 N2) := kept_ b5 (by simp [go_sem]) (by simp)
    have p0 := kept2_ b5 p0 s4
    have p1 := kept2_ b5 p1 s4
    obtain ⟨B5, s5⟩ := step_ B4 b5
    have s4 := Nat.lt_trans s4 s5
    clear B4 b5
    go_wp2_with fail
    refine (c6 _).mono ?_; rintro e w6 ⟨rfl, b6⟩
    have x0 : w6.cell? ⟨w5.heap.size, 0, none⟩ = some (.int .u32 A3) := kept_ b6 (by simp [go_sem]) (by simp)
    have x1 : w6.cell? ⟨w5.heap.size, 1, none⟩ = some (.int .u16 N3) := kept_ b6 (by simp [go_sem]) (by simp)
    have p0 := kept2_ b6 p0 s4
    have p1 := kept2_ b6 p1 s4
    have q0 := kept2_ b6 q0 s5
    have q1 := kept2_ b6 q1 s5
    obtain ⟨B6, s6⟩ := step_ B5 b6
    have s4 := Nat.lt_trans s4 s6
    have s5 := Nat.lt_trans s5 s6
    clear B5 b6
    go_wp2_with fail
    refine (named_ _).mono ?_; rintro e w7 ⟨rfl, b7⟩
    obtain ⟨B7, s7⟩ := step_ B6 b7
    clear B6 b7 p0 p1 q0 q1 x0 x1
    go_wp2
    go_ret
    exact ⟨rfl, B7⟩
end Go.Proofs.Ytaaobacmlaaajaa.AddrsParse
