/- The walk of IpParse. -/
import Derived.Test.YtfiokjenfmpmlaaIpM
namespace Go.Proofs.Ytfiokjenfmpmlaa.IpParse
set_option linter.unusedVariables false
set_option linter.unusedSimpArgs false
open Go.ChangeShapes Go.WideShapes Go.ChangeAt Go.RowKit Go.PlainAid
set_option maxRecDepth 100000 in
set_option maxHeartbeats 2000000 in
theorem walk (s : ByteArray) (w : World) (hs : s.size ≤ maxLen) :
    Calls Try.prog 3 #[.string s] w fun e w' => e = .returned (.bool true) ∧ Below w.heap.size w w' := by
  by_cases h : 2500 < s.size
  · have e1 : decide ((2500 : Int) < (s.size : Int)) = true := by simp; omega
    clear h
    go_enter Try.func3, Try.ntmps3
    go_wp2_with fail
    refine (headed_ _).mono ?_; rintro e w1 ⟨rfl, b1⟩
    go_wp2
    go_ret
    exact ⟨rfl, b1⟩
  have e1 : decide ((2500 : Int) < (s.size : Int)) = false := by simp; omega
  have hs2 : s.size < maxLen := by unfold maxLen; omega
  have c1 := fun u => parse_ s u hs2
  have c2 := fun u => rparse4_ s u hs2
  generalize pI s (bt s 1) = v0 at *
  generalize pI s (g16 s 4) = v1 at *
  generalize pF s = v2 at *
  generalize pI s (bt s 8) = v3 at *
  generalize pI s (bt s 9) = v4 at *
  generalize pI s (g32 s 12) = v5 at *
  generalize pI s (g32 s 16) = v6 at *
  generalize pO s = v7 at *
  generalize pP s = p at *
  generalize pR s = r at *
  clear h hs hs2
  go_enter Try.func3, Try.ntmps3
  go_wp2_with fail
  refine (c1 _).mono ?_; rintro e w1 ⟨rfl, b1⟩
  have A1 := Box8.make w1 (.int .u8 v0) (.int .u16 v1) (.bool v2) (.int .u8 v3) (.int .u8 v4) (.int .u32 v5) (.int .u32 v6) (.string v7) 27
  have B1 := b1.alloc b1.size (.cells #[.int .u8 v0, .int .u16 v1, .bool v2, .int .u8 v3, .int .u8 v4, .int .u32 v5, .int .u32 v6, .string v7] 27)
  clear b1 c1
  go_wp2_with fail
  refine (c2 _).mono ?_; rintro e w2 ⟨rfl, b2⟩
  have A2 := A1.on b2
  have B2 := B1.trans (b2.mono B1.size)
  have B3 := B2.alloc B2.size (.cells #[.int .u8 v0, .int .u16 v1, .bool v2, .int .u8 v3, .int .u8 v4, .int .u32 v5, .int .u32 v6, .string v7] 30)
  obtain ⟨_, f0, f1, f2, f3, f4, f5, f6, f7⟩ := A2.past (o := .cells #[.int .u8 v0, .int .u16 v1, .bool v2, .int .u8 v3, .int .u8 v4, .int .u32 v5, .int .u32 v6, .string v7] 30)
  clear A1 B1 A2 B2 b2 c2
  go_wp2_with fail
  refine (headed_ _).mono ?_; rintro e w3 ⟨rfl, b3⟩
  have B4 := B3.trans (b3.mono B3.size)
  clear B3 b3 f0 f1 f2 f3 f4 f5 f6 f7
  go_wp2
  go_ret
  exact ⟨rfl, B4⟩
end Go.Proofs.Ytfiokjenfmpmlaa.IpParse
