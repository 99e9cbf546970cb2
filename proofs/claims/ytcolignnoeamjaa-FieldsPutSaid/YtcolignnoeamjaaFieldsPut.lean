/- The walk of FieldsPut. -/
import Derived.Test.YtcolignnoeamjaaFieldsE
namespace Go.Proofs.Ytcolignnoeamjaa.FieldsPut
open Go.ChangeShapes Go.WideShapes Go.ChangeAt Go.RowKit Go.PlainAid
set_option maxRecDepth 100000 in
set_option maxHeartbeats 1000000 in
theorem walk (n : Int) (m : Int) (a : Option Addr) (len cap : Nat) (zs : List Int) (w : World) (hn : (Lit.int .u16 n).wf = true) (hm : (Lit.int .u32 m).wf = true) (hr : IsRow .u16 w a len cap zs) :
    Calls Try.prog 4 #[.int .u16 n, .int .u32 m, .slice a len cap] w fun e w' => e = .returned (.bool true) ∧ Below w.heap.size w w' := by
  obtain ⟨n0, n1⟩ := bounds_u16 hn
  obtain ⟨m0, m1⟩ := bounds_u32 hm
  have hlen := hr.len_le
  unfold maxLen at hlen
  have ROW := Lib.hid hr.row
  have WF := Lib.hid (fun x hx => bounds_u16 (hr.wf x hx))
  clear hr hn hm
  by_cases h1 : 200 < len
  · have e1 : decide ((200 : Int) < len) = true := by simp; omega
    go_enter Try.func4, Try.ntmps4
    go_wp2_with fail
    refine (fields_laid _).mono ?_; rintro e w1 ⟨rfl, b1⟩
    go_wp2
    go_ret
    exact ⟨rfl, b1⟩
  have e1 : decide ((200 : Int) < len) = false := by simp; omega
  go_enter Try.func4, Try.ntmps4
  go_wp2_with fail
  refine (put16 _ _ n0 n1).mono ?_; rintro e w1 ⟨rfl, b1⟩
  go_wp2_with fail
  refine (rput16 _ _ n0 n1).mono ?_; rintro e w2 ⟨rfl, b2⟩
  go_wp2_with fail
  refine (put32 _ _ m0 m1).mono ?_; rintro e w3 ⟨rfl, b3⟩
  go_wp2_with fail
  refine (rput32 _ _ m0 m1).mono ?_; rintro e w4 ⟨rfl, b4⟩
  have B4 : Below w.heap.size w w4 := by
    refine ((b1.trans (b2.mono b1.size)).trans (b3.mono ?_)).trans (b4.mono ?_)
    all_goals (have := b1.size; have := b2.size; have := b3.size; omega)
  clear b1 b2 b3 b4
  go_wp2_with fail
  refine (word_any _ _ _ _ _ (ROW.out.kept B4) (by omega) WF.out).mono ?_; rintro e w5 ⟨rfl, b5⟩
  have B5 := B4.trans (b5.mono B4.size)
  clear b5
  go_wp2_with fail
  refine (rword_any _ _ _ _ _ (ROW.out.kept B5) (by omega) WF.out).mono ?_; rintro e w6 ⟨rfl, b6⟩
  have B6 := B5.trans (b6.mono B5.size)
  clear b6 B4 B5
  go_wp2_with fail
  refine (fields_laid _).mono ?_; rintro e w7 ⟨rfl, b7⟩
  have B7 := B6.trans (b7.mono B6.size)
  clear b7 B6
  go_wp2
  go_ret
  exact ⟨rfl, B7⟩
end Go.Proofs.Ytcolignnoeamjaa.FieldsPut
