/- The walk of TcpSums. -/
import Derived.Test.YtckcdmijhemchaaTcpM
namespace Go.Proofs.Ytckcdmijhemchaa.TcpSums
set_option linter.unusedVariables false
set_option linter.unusedSimpArgs false
open Go.ChangeShapes Go.WideShapes Go.ChangeAt Go.RowKit Go.PlainAid
set_option maxRecDepth 100000 in
set_option maxHeartbeats 2000000 in
theorem walk_ (K : TcpOk) (a b : Int) (s : ByteArray) (w : World) (ha : (Lit.int .u32 a).wf = true) (hb : (Lit.int .u32 b).wf = true) (hs : s.size ≤ maxLen) :
    Calls Try.prog 4 #[.int .u32 a, .int .u32 b, .string s] w fun e w' => e = .returned (.bool true) ∧ Below w.heap.size w w' := by
  obtain ⟨a0, a1⟩ := bounds_u32 ha
  obtain ⟨b0, b1⟩ := bounds_u32 hb
  clear ha hb hs
  by_cases h1 : 600 < s.size
  · have e1 : decide ((600 : Int) < (s.size : Int)) = true := by simp; omega
    clear h1
    go_enter Try.func4, Try.ntmps4
    go_wp2_with fail
    refine (begun_ K _).mono ?_; rintro e w1 ⟨rfl, x1⟩
    go_wp2
    go_ret
    exact ⟨rfl, x1⟩
  have e1 : decide ((600 : Int) < (s.size : Int)) = false := by simp; omega
  have k1 := fun u => K.checks a b s u a0 a1 b0 b1 (by omega)
  have k2 := fun u => rcheck6_ a b s u a0 a1 b0 b1 (by omega)
  have k3 := fun u => K.seals a b s u a0 a1 b0 b1 (by omega)
  have k4 := fun u => rseal6_ a b s u a0 a1 b0 b1 (by omega)
  generalize ckT a b s = c at *
  generalize slT a b s = t at *
  clear h1
  go_enter Try.func4, Try.ntmps4
  go_wp2_with fail
  refine (k1 _).mono ?_; rintro e w1 ⟨rfl, x1⟩
  clear k1
  go_wp2_with fail
  refine (k2 _).mono ?_; rintro e w2 ⟨rfl, x2⟩
  have B2 := x1.trans (x2.mono x1.size)
  clear k2 x1 x2
  go_wp2_with fail
  refine (k3 _).mono ?_; rintro e w3 ⟨rfl, x3⟩
  have B3 := B2.trans (x3.mono B2.size)
  clear k3 x3 B2
  go_wp2_with fail
  refine (k4 _).mono ?_; rintro e w4 ⟨rfl, x4⟩
  have B4 := B3.trans (x4.mono B3.size)
  clear k4 x4 B3
  go_wp2_with fail
  refine (begun_ K _).mono ?_; rintro e w5 ⟨rfl, x5⟩
  have B5 := B4.trans (x5.mono B4.size)
  clear x5 B4
  go_wp2
  go_ret
  exact ⟨rfl, B5⟩
end Go.Proofs.Ytckcdmijhemchaa.TcpSums
