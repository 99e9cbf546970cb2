/- The walk of TcpSame. -/
import Derived.Test.YtckcdmijhemchaaTcpM
import Derived.Test.YtckcdmijhemchaaTcpQ
namespace Go.Proofs.Ytckcdmijhemchaa.TcpSame
set_option linter.unusedVariables false
set_option linter.unusedSimpArgs false
open Go.ChangeShapes Go.WideShapes Go.ChangeAt Go.RowKit Go.PlainAid
theorem g32_bd6 (s : ByteArray) (k : Nat) : 0 ≤ g32 s k ∧ g32 s k ≤ 4294967295 := by
  rw [g32_two]
  have := g16_nonneg s k; have := g16_nonneg s (k + 2); have := g16_le s k; have := g16_le s (k + 2)
  omega
set_option maxRecDepth 100000 in
set_option maxHeartbeats 4000000 in
theorem walk_ (K : TcpOk) (s : ByteArray) (w : World) (hs : s.size ≤ maxLen) :
    Calls Try.prog 6 #[.string s] w fun e w' => e = .returned (.bool true) ∧ Below w.heap.size w w' := by
  by_cases h1 : 600 < s.size
  · have e1 : decide ((600 : Int) < (s.size : Int)) = true := by simp; omega
    clear h1
    go_enter Try.func6, Try.ntmps6
    go_wp2_with fail
    refine (begun_ K _).mono ?_; rintro e w1 ⟨rfl, x1⟩
    go_wp2
    go_ret
    exact ⟨rfl, x1⟩
  have e1 : decide ((600 : Int) < (s.size : Int)) = false := by simp; omega
  cases hok : tOk s
  · have k1 := fun u => K.none_ hok (by omega) u
    clear h1 hs
    go_enter Try.func6, Try.ntmps6
    go_wp2_with fail
    refine (k1 _).mono ?_; rintro e w1 ⟨rfl, x1⟩
    obtain ⟨_, f0, f1, f2, f3, f4, f5, f6, f7, f8, f9⟩ := Box10.make w1 (.int .u16 0) (.int .u16 0) (.int .u32 0) (.int .u32 0) (.int .u8 0) (.int .u8 0) (.int .u16 0) (.int .u16 0) (.int .u16 0) (.string ⟨#[]⟩) 25
    have B1 := x1.alloc x1.size (.cells #[.int .u16 0, .int .u16 0, .int .u32 0, .int .u32 0, .int .u8 0, .int .u8 0, .int .u16 0, .int .u16 0, .int .u16 0, .string ⟨#[]⟩] 25)
    clear x1 k1
    go_wp2_with fail
    refine (begun_ K _).mono ?_; rintro e w2 ⟨rfl, x2⟩
    have B2 := B1.trans (x2.mono B1.size)
    clear B1 x2 f0 f1 f2 f3 f4 f5 f6 f7 f8 f9
    go_wp2
    go_ret
    exact ⟨rfl, B2⟩
  have k1 := fun u => K.parses s u (by omega)
  obtain ⟨a1, a2, a3, y1, y2, y3⟩ := tOk_yes hok
  obtain ⟨q1, q2⟩ := put_parse6 s hok
  have zo : (tO s).size ≤ 1000000 := by rw [y2, size_extract' s 20 (tOwn s) a2 a3]; omega
  have zp : (tP s).size ≤ 1000000 := by rw [y3, size_extract' s (tOwn s) s.size a3 (Nat.le_refl _)]; omega
  have b0 := bt_nonneg s 12
  have k2 := fun u => K.puts (g16 s 0) (g16 s 2) (g32 s 4) (g32 s 8) (bt s 12 % 16) (bt s 13) (g16 s 14) (g16 s 16) (g16 s 18) (tO s) (tP s) u (g16_nonneg s 0) (g16_le s 0) (g16_nonneg s 2) (g16_le s 2) (g32_bd6 s 4).1 (g32_bd6 s 4).2 (g32_bd6 s 8).1 (g32_bd6 s 8).2 (by omega) (by omega) (bt_nonneg s 13) (bt_le s 13) (g16_nonneg s 14) (g16_le s 14) (g16_nonneg s 16) (g16_le s 16) (g16_nonneg s 18) (g16_le s 18) zo zp
  rw [show tPutB (g16 s 0) (g16 s 2) (g32 s 4) (g32 s 8) (bt s 12 % 16) (bt s 13) (g16 s 14) (g16 s 16) (g16 s 18) (tO s) (tP s) = s by unfold tPutB; rw [if_pos q1]; exact q2, q1] at k2
  rw [y1, y1, y1, y1, y1, y1, y1, y1, y1, hok] at k1
  clear q1 q2 y1 y2 y3 zo zp b0 a1 a2 a3 hok h1 hs
  generalize g16 s 0 = v0 at *
  generalize g16 s 2 = v1 at *
  generalize g32 s 4 = v2 at *
  generalize g32 s 8 = v3 at *
  generalize bt s 12 % 16 = v4 at *
  generalize bt s 13 = v5 at *
  generalize g16 s 14 = v6 at *
  generalize g16 s 16 = v7 at *
  generalize g16 s 18 = v8 at *
  generalize tO s = v9 at *
  generalize tP s = p at *
  go_enter Try.func6, Try.ntmps6
  go_wp2_with fail
  refine (k1 _).mono ?_; rintro e w1 ⟨rfl, x1⟩
  obtain ⟨_, f0, f1, f2, f3, f4, f5, f6, f7, f8, f9⟩ := Box10.make w1 (.int .u16 v0) (.int .u16 v1) (.int .u32 v2) (.int .u32 v3) (.int .u8 v4) (.int .u8 v5) (.int .u16 v6) (.int .u16 v7) (.int .u16 v8) (.string v9) 25
  have B1 := x1.alloc x1.size (.cells #[.int .u16 v0, .int .u16 v1, .int .u32 v2, .int .u32 v3, .int .u8 v4, .int .u8 v5, .int .u16 v6, .int .u16 v7, .int .u16 v8, .string v9] 25)
  clear x1 k1
  go_wp2_with fail
  refine (k2 _).mono ?_; rintro e w2 ⟨rfl, x2⟩
  have B2 := B1.trans (x2.mono B1.size)
  clear B1 x2 f0 f1 f2 f3 f4 f5 f6 f7 f8 f9 k2
  go_wp2_with fail
  refine (begun_ K _).mono ?_; rintro e w3 ⟨rfl, x3⟩
  have B3 := B2.trans (x3.mono B2.size)
  clear B2 x3
  go_wp2
  go_ret
  exact ⟨rfl, B3⟩
end Go.Proofs.Ytckcdmijhemchaa.TcpSame
