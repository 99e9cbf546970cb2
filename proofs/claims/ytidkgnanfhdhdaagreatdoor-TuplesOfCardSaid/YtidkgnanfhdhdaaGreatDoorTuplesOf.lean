/- The walk of TuplesOf. -/
import Derived.Test.YtidkgnanfhdhdaaGreatDoorGo
import Derived.Test.YtidkgnanfhdhdaaGreatDoorGn
namespace Go.Proofs.YtidkgnanfhdhdaaGreatDoor.TuplesOf
set_option linter.unusedVariables false
set_option linter.unusedSimpArgs false
open Go.ChangeShapes Go.WideShapes Go.ChangeAt Go.RowKit Go.PlainAid
set_option maxRecDepth 100000 in
set_option maxHeartbeats 4000000 in
theorem walk_ (K : TupOk) (s : ByteArray) (w : World) (ht : Tab w) (hs : s.size ≤ maxLen) :
    Calls Tryz.prog 3 #[.string s] w fun e w' => e = .returned (.bool true) ∧ Below w.heap.size w w' := by
  clear hs
  by_cases h1 : 2500 < s.size
  · have e1 : decide (2500 < s.size) = true := by simpa using h1
    have e2 : decide ((2500 : Int) < (s.size : Int)) = true := by simp; omega
    go_enter Tryz.func3, Tryz.ntmps3
    go_wp2_with fail
    refine (watched_ K _ ht).mono ?_; rintro e w1 ⟨rfl, b1⟩
    go_wp2
    go_ret
    exact ⟨rfl, b1⟩
  have e1 : decide (2500 < s.size) = false := by simpa using h1
  have e2 : decide ((2500 : Int) < (s.size : Int)) = false := by simp; omega
  have c1 := fun u hu => K.ofs s u (by omega) hu
  have c2 := fun u => rof8_ s u (by omega)
  generalize sI s (bt s 9) = v0 at *
  generalize sI s (g32 s 12) = v1 at *
  generalize sI s (oM (bt s 9) (pP s)) = v2 at *
  generalize sI s (g32 s 16) = v3 at *
  generalize sI s (oN (bt s 9) (pP s)) = v4 at *
  generalize sI s (oK (bt s 9) (pP s)) = v5 at *
  generalize sI s (oF (bt s 9) (pP s)) = v6 at *
  generalize sB s (oA (bt s 9) (pP s)) = v7 at *
  generalize sI s (bt s 8) = v8 at *
  generalize seenR s = q at *
  clear h1
  go_enter Tryz.func3, Tryz.ntmps3
  have B1 := Below.refl w.heap.size w
  go_wp2_with fail
  refine (c1 _ ht).mono ?_; rintro e w1 ⟨rfl, x1⟩
  have B2 := B1.trans (x1.mono B1.size)
  clear B1 x1
  have X_3 := Box9.make w1 (.int .u8 v0) (.int .u32 v1) (.int .u16 v2) (.int .u32 v3) (.int .u16 v4) (.int .i64 v5) (.int .u8 v6) (.bool v7) (.int .u8 v8) 31
  have B4 := B2.alloc B2.size (.cells #[.int .u8 v0, .int .u32 v1, .int .u16 v2, .int .u32 v3, .int .u16 v4, .int .i64 v5, .int .u8 v6, .bool v7, .int .u8 v8] 31)
  clear B2
  clear c1
  go_wp2_with fail
  refine (c2 _).mono ?_; rintro e w2 ⟨rfl, x2⟩
  have X_5 := X_3.on x2
  have B6 := B4.trans (x2.mono B4.size)
  clear X_3 B4 x2
  clear c2
  have X_7 := X_5.past (o := (.cells #[.int .u8 v0, .int .u32 v1, .int .u16 v2, .int .u32 v3, .int .u16 v4, .int .i64 v5, .int .u8 v6, .bool v7, .int .u8 v8] 34))
  have Y_8 := Box9.make w2 (.int .u8 v0) (.int .u32 v1) (.int .u16 v2) (.int .u32 v3) (.int .u16 v4) (.int .i64 v5) (.int .u8 v6) (.bool v7) (.int .u8 v8) 34
  have B9 := B6.alloc B6.size (.cells #[.int .u8 v0, .int .u32 v1, .int .u16 v2, .int .u32 v3, .int .u16 v4, .int .i64 v5, .int .u8 v6, .bool v7, .int .u8 v8] 34)
  clear X_5 B6
  obtain ⟨_, x1_0, x1_1, x1_2, x1_3, x1_4, x1_5, x1_6, x1_7, x1_8⟩ := id X_7
  obtain ⟨_, y2_0, y2_1, y2_2, y2_3, y2_4, y2_5, y2_6, y2_7, y2_8⟩ := id Y_8
  go_wp2_with fail
  refine (watched_ K _ (ht.on B9)).mono ?_; rintro e w3 ⟨rfl, x3⟩
  have X_10 := X_7.on x3
  have Y_11 := Y_8.on x3
  have B12 := B9.trans (x3.mono B9.size)
  clear x1_0 x1_1 x1_2 x1_3 x1_4 x1_5 x1_6 x1_7 x1_8 y2_0 y2_1 y2_2 y2_3 y2_4 y2_5 y2_6 y2_7 y2_8 X_7 Y_8 B9 x3
  go_wp2
  go_ret
  exact ⟨rfl, B12⟩
end Go.Proofs.YtidkgnanfhdhdaaGreatDoor.TuplesOf
