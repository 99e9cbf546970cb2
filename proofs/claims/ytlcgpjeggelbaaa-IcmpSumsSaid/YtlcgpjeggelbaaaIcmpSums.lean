/- The walk of IcmpSums. -/
import Derived.Test.YtlcgpjeggelbaaaIcmpM
import Derived.Test.YtlcgpjeggelbaaaIcmpA
namespace Go.Proofs.Ytlcgpjeggelbaaa.IcmpSums
set_option linter.unusedVariables false
set_option linter.unusedSimpArgs false
open Go.ChangeShapes Go.WideShapes Go.ChangeAt Go.RowKit Go.PlainAid
set_option maxRecDepth 100000 in
set_option maxHeartbeats 2000000 in
theorem walk_ (K : IcmpOk) (s : ByteArray) (w : World) (hs : s.size ≤ maxLen) :
    Calls Try.prog 4 #[.string s] w fun e w' => e = .returned (.bool true) ∧ Below w.heap.size w w' := by
  clear hs
  by_cases h1 : 600 < s.size
  · have e1 : decide ((600 : Int) < (s.size : Int)) = true := by simp; omega
    clear h1
    go_enter Try.func4, Try.ntmps4
    go_wp2_with fail
    refine (echoed_ K _).mono ?_; rintro e w1 ⟨rfl, x1⟩
    go_wp2
    go_ret
    exact ⟨rfl, x1⟩
  have e1 : decide ((600 : Int) < (s.size : Int)) = false := by simp; omega
  have k1 := fun u => K.checks s u (by omega)
  have k2 := fun u => rcheck7_ s u (by omega)
  have k3 := fun u => K.seals s u (by omega)
  have k4 := fun u => rseal7_ s u (by omega)
  generalize ckM s = c at *
  generalize slI s = t at *
  clear h1
  go_enter Try.func4, Try.ntmps4
  go_wp2_with fail
  refine (k1 _).mono ?_; rintro e w1 ⟨rfl, x1⟩
  clear k1
  go_wp2_with fail
  refine (k2 _).mono ?_; rintro e w2 ⟨rfl, x2⟩
  have B2 := x1.trans (x2.mono x1.size)
  clear k2 x1 x2
  go_wp2_with fail
  refine (k3 _).mono ?_; rintro e w3 ⟨rfl, x3⟩
  have B3 := B2.trans (x3.mono B2.size)
  clear k3 x3 B2
  go_wp2_with fail
  refine (k4 _).mono ?_; rintro e w4 ⟨rfl, x4⟩
  have B4 := B3.trans (x4.mono B3.size)
  clear k4 x4 B3
  go_wp2_with fail
  refine (echoed_ K _).mono ?_; rintro e w5 ⟨rfl, x5⟩
  have B5 := B4.trans (x5.mono B4.size)
  clear x5 B4
  go_wp2
  go_ret
  exact ⟨rfl, B5⟩
end Go.Proofs.Ytlcgpjeggelbaaa.IcmpSums
