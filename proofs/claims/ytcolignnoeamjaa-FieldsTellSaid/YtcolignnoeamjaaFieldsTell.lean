/- The walk of FieldsTell. -/
import Derived.Test.YtcolignnoeamjaaFieldsE
namespace Go.Proofs.Ytcolignnoeamjaa.FieldsTell
open Go.ChangeShapes Go.WideShapes Go.ChangeAt Go.RowKit Go.PlainAid
set_option maxRecDepth 100000 in
set_option maxHeartbeats 1000000 in
theorem walk (s : ByteArray) (i : Int) (p : ByteArray) (w : World) (hs : s.size ≤ maxLen) (_ : (Lit.int .i64 i).wf = true) (hp : p.size ≤ maxLen) :
    Calls Try.prog 3 #[.string s, .int .i64 i, .string p] w fun e w' => e = .returned (.bool true) ∧ Below w.heap.size w w' := by
  have hs' := hs
  have hp' := hp
  unfold maxLen at hs' hp'
  by_cases h1 : 400 < s.size
  · have e1 : decide ((400 : Int) < s.size) = true := by simp; omega
    go_enter Try.func3, Try.ntmps3
    go_wp2_with fail
    refine (fields_laid _).mono ?_; rintro e w1 ⟨rfl, b1⟩
    go_wp2
    go_ret
    exact ⟨rfl, b1⟩
  have e1 : decide ((400 : Int) < s.size) = false := by simp; omega
  by_cases h2 : 400 < p.size
  · have e2 : decide ((400 : Int) < p.size) = true := by simp; omega
    go_enter Try.func3, Try.ntmps3
    go_wp2_with fail
    refine (fields_laid _).mono ?_; rintro e w1 ⟨rfl, b1⟩
    go_wp2
    go_ret
    exact ⟨rfl, b1⟩
  have e2 : decide ((400 : Int) < p.size) = false := by simp; omega
  go_enter Try.func3, Try.ntmps3
  go_wp2_with fail
  refine (get16_any _ _ _ hs).mono ?_; rintro e w1 ⟨rfl, b1⟩
  go_wp2_with fail
  refine (rget16_any _ _ _ hs).mono ?_; rintro e w2 ⟨rfl, rfl⟩
  go_wp2_with fail
  refine (get32_any _ _ _ hs).mono ?_; rintro e w3 ⟨rfl, b3⟩
  go_wp2_with fail
  refine (rget32_any _ _ _ hs).mono ?_; rintro e w4 ⟨rfl, rfl⟩
  go_wp2_with fail
  refine (with_any _ _ _ _ hs hp).mono ?_; rintro e w5 ⟨rfl, b5⟩
  go_wp2_with fail
  refine (rwith_any _ _ _ _ hs hp).mono ?_; rintro e w6 ⟨rfl, b6⟩
  go_wp2_with fail
  refine (fields_laid _).mono ?_; rintro e w7 ⟨rfl, b7⟩
  have B : Below w.heap.size w w7 := by
    refine (((b1.trans (b3.mono b1.size)).trans (b5.mono ?_)).trans (b6.mono ?_)).trans (b7.mono ?_)
    all_goals (have := b1.size; have := b3.size; have := b5.size; have := b6.size; omega)
  clear b1 b3 b5 b6 b7
  go_wp2
  go_ret
  exact ⟨rfl, B⟩
end Go.Proofs.Ytcolignnoeamjaa.FieldsTell
