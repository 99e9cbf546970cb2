/- The walk of SumsTell. -/
import Derived.Test.YtdddgbpiabimbaaSumsC
import Derived.Test.YtdddgbpiabimbaaSumsLaid
import Derived.Test.YtdddgbpiabimbaaSumsRows
namespace Go.Proofs.Ytdddgbpiabimbaa.SumsTell
open Go.ChangeShapes Go.WideShapes Go.ChangeAt Go.RowKit Go.PlainAid
set_option maxRecDepth 100000 in
set_option maxHeartbeats 1000000 in
theorem walk (a : Option Addr) (len cap : Nat) (zs : List ByteArray) (x y : Int) (w : World) (hr : IsRowS w a len cap zs) (hx : (Lit.int .u16 x).wf = true) (hy : (Lit.int .u16 y).wf = true) :
    Calls Try.prog 7 #[.slice a len cap, .int .u16 x, .int .u16 y] w fun e w' => e = .returned (.bool true) ∧ Below w.heap.size w w' := by
  obtain ⟨x0, x1⟩ := bounds_u16 hx
  obtain ⟨y0, y1⟩ := bounds_u16 hy
  have ROW := Lib.hid hr.row
  clear hr hx hy
  obtain ⟨ss, hss⟩ : ∃ ss, ss = zs.take len := ⟨_, rfl⟩
  rw [← hss] at ROW
  clear hss
  by_cases hg : greatV ss = true
  · go_enter Try.func7, Try.ntmps7
    go_wp2_with fail
    refine (great_ _ _ _ _ _ ROW.out).mono ?_; rintro e w1 ⟨rfl, rfl⟩
    go_wp2_with fail
    refine (summed_ _).mono ?_; rintro e w2 ⟨rfl, b2⟩
    go_wp2
    go_ret
    exact ⟨rfl, b2⟩
  · have hg : greatV ss = false := by simpa using hg
    have SM := Lib.hid (fun s hs => show s.size < maxLen from Nat.lt_of_le_of_lt ((greatV_no hg).2 s hs) (by unfold maxLen; omega))
    go_enter Try.func7, Try.ntmps7
    go_wp2_with fail
    refine (great_ _ _ _ _ _ ROW.out).mono ?_; rintro e w1 ⟨rfl, rfl⟩
    go_wp2_with fail
    refine (sum_ _ _ _ _ _ ROW.out).mono ?_; rintro e w1 ⟨rfl, B1⟩
    go_wp2_with fail
    refine (rsum_ _ _ _ _ _ (ROW.out.kept B1) SM.out).mono ?_; rintro e w2 ⟨rfl, rfl⟩
    go_wp2_with fail
    refine (holds_ _ _ _ _ _ (ROW.out.kept B1)).mono ?_; rintro e w2 ⟨rfl, b2⟩
    have B2 := B1.trans (b2.mono B1.size)
    clear B1 b2
    go_wp2_with fail
    refine (rholds_ _ _ _ _ _ (ROW.out.kept B2) SM.out).mono ?_; rintro e w2 ⟨rfl, rfl⟩
    go_wp2_with fail
    refine (add_ _ _ _ x0 x1 y0 y1).mono ?_; rintro e w2 ⟨rfl, rfl⟩
    go_wp2_with fail
    refine (radd_ _ _ _ x0 x1 y0 y1).mono ?_; rintro e w2 ⟨rfl, rfl⟩
    go_wp2_with fail
    refine (summed_ _).mono ?_; rintro e w3 ⟨rfl, b3⟩
    have B3 := B2.trans (b3.mono B2.size)
    clear B2 b3
    go_wp2
    go_ret
    exact ⟨rfl, B3⟩
end Go.Proofs.Ytdddgbpiabimbaa.SumsTell
