/- The walk of TuplesForm. -/
import Derived.Test.YtidkgnanfhdhdaaDoorGo
namespace Go.Proofs.YtidkgnanfhdhdaaDoor.TuplesForm
set_option linter.unusedVariables false
set_option linter.unusedSimpArgs false
open Go.ChangeShapes Go.WideShapes Go.ChangeAt Go.RowKit Go.PlainAid
set_option maxRecDepth 100000 in
set_option maxHeartbeats 4000000 in
theorem walk_ (K : TupOk) (s : ByteArray) (w : World) (ht : Tab w) (hs : s.size ≤ maxLen) :
    Calls Tryd.prog 5 #[.string s] w fun e w' => e = .returned (.bool true) ∧ Below w.heap.size w w' := by
  clear hs
  by_cases h1 : 200 < s.size
  · have e1 : decide (200 < s.size) = true := by simpa using h1
    have e2 : decide ((200 : Int) < (s.size : Int)) = true := by simp; omega
    go_enter Tryd.func5, Tryd.ntmps5
    go_wp2_with fail
    refine (watched_ K _ ht).mono ?_; rintro e w1 ⟨rfl, b1⟩
    go_wp2
    go_ret
    exact ⟨rfl, b1⟩
  have e1 : decide (200 < s.size) = false := by simpa using h1
  have e2 : decide ((200 : Int) < (s.size : Int)) = false := by simp; omega
  obtain ⟨l, hl⟩ := str_of s
  have hll : l.length ≤ 1000000 := by rw [hl, str_size] at h1; omega
  have c1 := fun u hu => K.parses l u hll hu
  rw [← hl] at c1
  clear h1 hll
  rcases tup_cases l with ⟨p, a, m, b, n, hR, ⟨ha, hm, hb, hn⟩, hmay, htx⟩ | hR
  rotate_left
  · obtain ⟨y1, y2, y3, y4, y5, y6⟩ := tup_none hR
    rw [y1, y2, y3, y4, y5, y6] at c1
    clear y1 y2 y3 y4 y5 y6 hR hl
    go_enter Tryd.func5, Tryd.ntmps5
    have B1 := Below.refl w.heap.size w
    go_wp2_with fail
    refine (c1 _ ht).mono ?_; rintro e w1 ⟨rfl, x1⟩
    have B2 := B1.trans (x1.mono B1.size)
    clear B1 x1
    clear c1
    have X_3 := Box5.make w1 (.int .u8 0) (.int .u32 0) (.int .u16 0) (.int .u32 0) (.int .u16 0) 29
    have B4 := B2.alloc B2.size (.cells #[.int .u8 0, .int .u32 0, .int .u16 0, .int .u32 0, .int .u16 0] 29)
    clear B2
    obtain ⟨_, x1_0, x1_1, x1_2, x1_3, x1_4⟩ := id X_3
    go_wp2_with fail
    refine (watched_ K _ (ht.on B4)).mono ?_; rintro e w2 ⟨rfl, x2⟩
    have X_5 := X_3.on x2
    have B6 := B4.trans (x2.mono B4.size)
    clear x1_0 x1_1 x1_2 x1_3 x1_4 X_3 B4 x2
    go_wp2
    go_ret
    exact ⟨rfl, B6⟩
  obtain ⟨y1, y2, y3, y4, y5, y6⟩ := tup_some hR
  rw [y1, y2, y3, y4, y5, y6] at c1
  have hp : p ≤ 255 := by rcases tmay_three hmay with rfl | rfl | rfl <;> omega
  have c2 := fun u hu => K.mays p a m b n u (by omega) (by omega) (by omega) (by omega) (by omega) (by omega) (by omega) (by omega) (by omega) (by omega) hu
  have c3 := fun u hu => K.texts p a m b n u hp ha hm hb hn hu
  rw [hmay] at c2
  rw [htx, ← hl] at c3
  have e3 : (s.toList == s.toList) = true := by simp
  clear y1 y2 y3 y4 y5 y6 hR hl hmay htx ha hm hb hn hp
  go_enter Tryd.func5, Tryd.ntmps5
  have B1 := Below.refl w.heap.size w
  go_wp2_with fail
  refine (c1 _ ht).mono ?_; rintro e w1 ⟨rfl, x1⟩
  have B2 := B1.trans (x1.mono B1.size)
  clear B1 x1
  clear c1
  have X_3 := Box5.make w1 (.int .u8 (p : Int)) (.int .u32 (a : Int)) (.int .u16 (m : Int)) (.int .u32 (b : Int)) (.int .u16 (n : Int)) 29
  have B4 := B2.alloc B2.size (.cells #[.int .u8 (p : Int), .int .u32 (a : Int), .int .u16 (m : Int), .int .u32 (b : Int), .int .u16 (n : Int)] 29)
  clear B2
  obtain ⟨_, x1_0, x1_1, x1_2, x1_3, x1_4⟩ := id X_3
  go_wp2_with fail
  refine (c2 _ (ht.on B4)).mono ?_; rintro e w2 ⟨rfl, x2⟩
  have X_5 := X_3.on x2
  have B6 := B4.trans (x2.mono B4.size)
  clear x1_0 x1_1 x1_2 x1_3 x1_4 X_3 B4 x2
  obtain ⟨_, x2_0, x2_1, x2_2, x2_3, x2_4⟩ := id X_5
  go_wp2_with fail
  refine (c3 _ (ht.on B6)).mono ?_; rintro e w3 ⟨rfl, x3⟩
  have X_7 := X_5.on x3
  have B8 := B6.trans (x3.mono B6.size)
  clear x2_0 x2_1 x2_2 x2_3 x2_4 X_5 B6 x3
  go_wp2_with fail
  refine (watched_ K _ (ht.on B8)).mono ?_; rintro e w4 ⟨rfl, x4⟩
  have X_9 := X_7.on x4
  have B10 := B8.trans (x4.mono B8.size)
  clear X_7 B8 x4
  go_wp2
  go_ret
  exact ⟨rfl, B10⟩
end Go.Proofs.YtidkgnanfhdhdaaDoor.TuplesForm
