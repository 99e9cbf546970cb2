/- The walk of TcpTell. -/
import Derived.Test.YtckcdmijhemchaaTcpM
namespace Go.Proofs.Ytckcdmijhemchaa.TcpTell
set_option linter.unusedVariables false
set_option linter.unusedSimpArgs false
open Go.ChangeShapes Go.WideShapes Go.ChangeAt Go.RowKit Go.PlainAid
set_option maxRecDepth 100000 in
set_option maxHeartbeats 4000000 in
theorem walk_ (K : TcpOk) (s : ByteArray) (sp dp sq ak lo fl wi su ur : Int) (o p : ByteArray) (w : World) (hs : s.size ≤ maxLen) (hsp : (Lit.int .u16 sp).wf = true) (hdp : (Lit.int .u16 dp).wf = true) (hsq : (Lit.int .u32 sq).wf = true) (hak : (Lit.int .u32 ak).wf = true) (hlo : (Lit.int .u8 lo).wf = true) (hfl : (Lit.int .u8 fl).wf = true) (hwi : (Lit.int .u16 wi).wf = true) (hsu : (Lit.int .u16 su).wf = true) (hur : (Lit.int .u16 ur).wf = true) (ho : o.size ≤ maxLen) (hp : p.size ≤ maxLen) :
    Calls Try.prog 3 #[.string s, .agg #[.int .u16 sp, .int .u16 dp, .int .u32 sq, .int .u32 ak, .int .u8 lo, .int .u8 fl, .int .u16 wi, .int .u16 su, .int .u16 ur, .string o], .string p] w fun e w' => e = .returned (.bool true) ∧ Below w.heap.size w w' := by
  obtain ⟨sp0, sp1⟩ := bounds_u16 hsp
  obtain ⟨dp0, dp1⟩ := bounds_u16 hdp
  obtain ⟨sq0, sq1⟩ := bounds_u32 hsq
  obtain ⟨ak0, ak1⟩ := bounds_u32 hak
  obtain ⟨lo0, lo1⟩ := bounds_u8 hlo
  obtain ⟨fl0, fl1⟩ := bounds_u8 hfl
  obtain ⟨wi0, wi1⟩ := bounds_u16 hwi
  obtain ⟨su0, su1⟩ := bounds_u16 hsu
  obtain ⟨ur0, ur1⟩ := bounds_u16 hur
  clear hsp hdp hsq hak hlo hfl hwi hsu hur ho hs hp
  by_cases h1 : 600 < s.size
  · have e1 : decide ((600 : Int) < (s.size : Int)) = true := by simp; omega
    clear h1
    go_enter Try.func3, Try.ntmps3
    go_wp2_with fail
    refine (begun_ K _).mono ?_; rintro e w1 ⟨rfl, x1⟩
    have B1 : Below w.heap.size w w1 := ((Below.refl _ _).alloc (Nat.le_refl _) _).trans (x1.mono (by simp))
    go_wp2
    go_ret
    exact ⟨rfl, B1⟩
  have e1 : decide ((600 : Int) < (s.size : Int)) = false := by simp; omega
  by_cases h2 : 600 < p.size
  · have e2 : decide ((600 : Int) < (p.size : Int)) = true := by simp; omega
    clear h1 h2
    go_enter Try.func3, Try.ntmps3
    go_wp2_with fail
    refine (begun_ K _).mono ?_; rintro e w1 ⟨rfl, x1⟩
    have B1 : Below w.heap.size w w1 := ((Below.refl _ _).alloc (Nat.le_refl _) _).trans (x1.mono (by simp))
    go_wp2
    go_ret
    exact ⟨rfl, B1⟩
  have e2 : decide ((600 : Int) < (p.size : Int)) = false := by simp; omega
  by_cases h3 : 600 < o.size
  · have e3 : decide ((600 : Int) < (o.size : Int)) = true := by simp; omega
    clear h1 h2 h3
    go_enter Try.func3, Try.ntmps3
    go_wp2_with fail
    refine (begun_ K _).mono ?_; rintro e w1 ⟨rfl, x1⟩
    have B1 : Below w.heap.size w w1 := ((Below.refl _ _).alloc (Nat.le_refl _) _).trans (x1.mono (by simp))
    go_wp2
    go_ret
    exact ⟨rfl, B1⟩
  have e3 : decide ((600 : Int) < (o.size : Int)) = false := by simp; omega
  have k1 := fun u => K.parses s u (by omega)
  have k2 := fun u => rparse6_ s u (by omega)
  have k3 := fun u => K.puts sp dp sq ak lo fl wi su ur o p u sp0 sp1 dp0 dp1 sq0 sq1 ak0 ak1 lo0 lo1 fl0 fl1 wi0 wi1 su0 su1 ur0 ur1 (by omega) (by omega)
  have k4 := fun u => rput6_ sp dp sq ak lo fl wi su ur o p u sp0 sp1 dp0 dp1 sq0 sq1 ak0 ak1 lo0 lo1 fl0 fl1 wi0 wi1 su0 su1 ur0 ur1 (by omega) (by omega)
  generalize tI s (g16 s 0) = v0 at *
  generalize tI s (g16 s 2) = v1 at *
  generalize tI s (g32 s 4) = v2 at *
  generalize tI s (g32 s 8) = v3 at *
  generalize tI s (bt s 12 % 16) = v4 at *
  generalize tI s (bt s 13) = v5 at *
  generalize tI s (g16 s 14) = v6 at *
  generalize tI s (g16 s 16) = v7 at *
  generalize tI s (g16 s 18) = v8 at *
  generalize tO s = v9 at *
  generalize tP s = q at *
  generalize tOk s = ok at *
  generalize tPutB sp dp sq ak lo fl wi su ur o p = t at *
  generalize tE o.size lo = r at *
  clear h1 h2 h3
  go_enter Try.func3, Try.ntmps3
  go_wp2_with fail
  have A1 := Box10.make w (.int .u16 sp) (.int .u16 dp) (.int .u32 sq) (.int .u32 ak) (.int .u8 lo) (.int .u8 fl) (.int .u16 wi) (.int .u16 su) (.int .u16 ur) (.string o) 25
  refine (k1 _).mono ?_; rintro e w1 ⟨rfl, x1⟩
  have B1 : Below w.heap.size w w1 := ((Below.refl _ _).alloc (Nat.le_refl _) _).trans (x1.mono (by simp))
  have X1 := Box10.make w1 (.int .u16 v0) (.int .u16 v1) (.int .u32 v2) (.int .u32 v3) (.int .u8 v4) (.int .u8 v5) (.int .u16 v6) (.int .u16 v7) (.int .u16 v8) (.string v9) 25
  have A2 := (A1.on x1).past (o := .cells #[.int .u16 v0, .int .u16 v1, .int .u32 v2, .int .u32 v3, .int .u8 v4, .int .u8 v5, .int .u16 v6, .int .u16 v7, .int .u16 v8, .string v9] 25)
  have B2 := B1.alloc B1.size (.cells #[.int .u16 v0, .int .u16 v1, .int .u32 v2, .int .u32 v3, .int .u8 v4, .int .u8 v5, .int .u16 v6, .int .u16 v7, .int .u16 v8, .string v9] 25)
  clear A1 B1 x1 k1
  go_wp2_with fail
  refine (k2 _).mono ?_; rintro e w2 ⟨rfl, x2⟩
  have Y3 := Box10.make w2 (.int .u16 v0) (.int .u16 v1) (.int .u32 v2) (.int .u32 v3) (.int .u8 v4) (.int .u8 v5) (.int .u16 v6) (.int .u16 v7) (.int .u16 v8) (.string v9) 29
  have A3 := (A2.on x2).past (o := .cells #[.int .u16 v0, .int .u16 v1, .int .u32 v2, .int .u32 v3, .int .u8 v4, .int .u8 v5, .int .u16 v6, .int .u16 v7, .int .u16 v8, .string v9] 29)
  have X3 := (X1.on x2).past (o := .cells #[.int .u16 v0, .int .u16 v1, .int .u32 v2, .int .u32 v3, .int .u8 v4, .int .u8 v5, .int .u16 v6, .int .u16 v7, .int .u16 v8, .string v9] 29)
  have B3 := (B2.trans (x2.mono B2.size)).alloc (B2.trans (x2.mono B2.size)).size (.cells #[.int .u16 v0, .int .u16 v1, .int .u32 v2, .int .u32 v3, .int .u8 v4, .int .u8 v5, .int .u16 v6, .int .u16 v7, .int .u16 v8, .string v9] 29)
  obtain ⟨_, f0, f1, f2, f3, f4, f5, f6, f7, f8, f9⟩ := id A3
  clear A2 X1 B2 x2 k2
  go_wp2_with fail
  refine (k3 _).mono ?_; rintro e w3 ⟨rfl, x3⟩
  clear f0 f1 f2 f3 f4 f5 f6 f7 f8 f9
  have A4 := A3.on x3
  have X4 := X3.on x3
  have Y4 := Y3.on x3
  have B4 := B3.trans (x3.mono B3.size)
  obtain ⟨_, f0, f1, f2, f3, f4, f5, f6, f7, f8, f9⟩ := id A4
  clear A3 X3 Y3 B3 x3 k3
  go_wp2_with fail
  refine (k4 _).mono ?_; rintro e w4 ⟨rfl, x4⟩
  clear f0 f1 f2 f3 f4 f5 f6 f7 f8 f9
  obtain ⟨_, f0, f1, f2, f3, f4, f5, f6, f7, f8, f9⟩ := X4.on x4
  obtain ⟨_, g0, g1, g2, g3, g4, g5, g6, g7, g8, g9⟩ := Y4.on x4
  have B5 := B4.trans (x4.mono B4.size)
  clear A4 X4 Y4 B4 x4 k4
  go_wp2_with fail
  refine (begun_ K _).mono ?_; rintro e w5 ⟨rfl, x5⟩
  have B6 := B5.trans (x5.mono B5.size)
  clear f0 f1 f2 f3 f4 f5 f6 f7 f8 f9 g0 g1 g2 g3 g4 g5 g6 g7 g8 g9 B5 x5
  go_wp2
  go_ret
  exact ⟨rfl, B6⟩
end Go.Proofs.Ytckcdmijhemchaa.TcpTell
