/- Texts of this proof, together: TupB, TupE, TupQA, TupU, TupC, TupO. -/
import Derived.Test.YtbpicngbjggblaaGreatDoorGm
import Derived.Test.YtbpicngbjggblaaGreatDoorGc
import Derived.Test.YtbpicngbjggblaaGreatDoorGf
import Derived.Test.YtbpicngbjggblaaGreatDoorGh
import Derived.Test.YtbpicngbjggblaaGreatDoorGj
import Derived.BigRegion
namespace Go.Proofs.YtbpicngbjggblaaGreatDoor
set_option maxHeartbeats 4000000
set_option maxRecDepth 100000
set_option linter.unusedVariables false
set_option linter.unusedSimpArgs false
open Go.ChangeShapes Go.WideShapes Go.ChangeAt Go.RowKit Go.PlainAid
attribute [local go_sem ↓] Go.wp_at_zero Go.wp_at_succ
theorem rof8_refused (s L : ByteArray) (h0 h1 h3 h5 h6 : Int) (h2 : Bool) (h7 : ByteArray) (q : Int) (e1 : (q != 0) = true) (cp : Cb_ 69 #[.string s] (.tuple #[.agg #[.int .u8 0, .int .u16 0, .bool false, .int .u8 0, .int .u8 0, .int .u32 0, .int .u32 0, .string ⟨#[]⟩], .string ⟨#[]⟩, .int .i64 q])) (w : World) :
    Cw_ 68 #[.string s] (.tuple #[.agg #[.int .u8 0, .int .u32 0, .int .u16 0, .int .u32 0, .int .u16 0, .int .i64 0, .int .u8 0, .bool false, .int .u8 0], .int .i64 q]) w := by
  go_enter Tryz.func68, Tryz.ntmps68
  have B1 := Below.refl w.heap.size w
  go_wp2_with fail
  have R_2 := Box9.make w (.int .u8 0) (.int .u32 0) (.int .u16 0) (.int .u32 0) (.int .u16 0) (.int .i64 0) (.int .u8 0) (.bool false) (.int .u8 0) 120
  have B3 := B1.alloc B1.size (.cells #[.int .u8 0, .int .u32 0, .int .u16 0, .int .u32 0, .int .u16 0, .int .i64 0, .int .u8 0, .bool false, .int .u8 0] 120)
  clear B1
  have fzR_4 : ∀ i, (w.alloc (.cells #[.int .u8 0, .int .u32 0, .int .u16 0, .int .u32 0, .int .u16 0, .int .i64 0, .int .u8 0, .bool false, .int .u8 0] 120)).frozen? ⟨w.heap.size, i, none⟩ = false := by intro i; simp [go_sem]
  refine (cp _).mono ?_; rintro e w1 ⟨rfl, x1⟩
  have fzR_5 := fzB_ x1 R_2.1 fzR_4
  clear fzR_4
  have R_6 := R_2.on x1
  have B7 := B3.trans (x1.mono B3.size)
  clear R_2 B3 x1
  clear cp
  have al := alO_ B7 (.cells #[.int .u8 0, .int .u16 0, .bool false, .int .u8 0, .int .u8 0, .int .u32 0, .int .u32 0, .string ⟨#[]⟩] 50)
  have fzR_8 := fzB_ al R_6.1 fzR_5
  clear fzR_5
  have R_9 := R_6.on al
  have H_10 := Box8.make w1 (.int .u8 0) (.int .u16 0) (.bool false) (.int .u8 0) (.int .u8 0) (.int .u32 0) (.int .u32 0) (.string ⟨#[]⟩) 50
  have B11 := B7.trans (al.mono B7.size)
  clear al
  clear R_6 B7
  obtain ⟨_, r1_0, r1_1, r1_2, r1_3, r1_4, r1_5, r1_6, r1_7, r1_8⟩ := id R_9
  go_wp2
  refine box9_ (b := w.heap.size) R_9.some B11 (Nat.le_refl _) fun Z y0 y1 y2 y3 y4 y5 y6 y7 y8 BZ _ _ => ?_
  refine bodyPost_ret (v := .tuple #[.agg #[.int .u8 0, .int .u32 0, .int .u16 0, .int .u32 0, .int .u16 0, .int .i64 0, .int .u8 0, .bool false, .int .u8 0], .int .i64 q]) (by simp [results, Tryz.results68, go_sem, y0, y1, y2, y3, y4, y5, y6, y7, y8]) rfl ?_
  exact ⟨rfl, BZ⟩
theorem rof8_none (s L : ByteArray) (h0 h1 h3 h5 h6 : Int) (h2 : Bool) (h7 : ByteArray) (pr : Int) (e6 : (pr == 6) = false) (e17 : (pr == 17) = false) (e1 : (pr == 1) = false) (cp : Cb_ 69 #[.string s] (.tuple #[.agg #[.int .u8 h0, .int .u16 h1, .bool h2, .int .u8 h3, .int .u8 pr, .int .u32 h5, .int .u32 h6, .string h7], .string L, .int .i64 0])) (w : World) :
    Cw_ 68 #[.string s] (.tuple #[.agg #[.int .u8 0, .int .u32 0, .int .u16 0, .int .u32 0, .int .u16 0, .int .i64 0, .int .u8 0, .bool false, .int .u8 0], .int .i64 6]) w := by
  go_enter Tryz.func68, Tryz.ntmps68
  have B1 := Below.refl w.heap.size w
  go_wp2_with fail
  have R_2 := Box9.make w (.int .u8 0) (.int .u32 0) (.int .u16 0) (.int .u32 0) (.int .u16 0) (.int .i64 0) (.int .u8 0) (.bool false) (.int .u8 0) 120
  have B3 := B1.alloc B1.size (.cells #[.int .u8 0, .int .u32 0, .int .u16 0, .int .u32 0, .int .u16 0, .int .i64 0, .int .u8 0, .bool false, .int .u8 0] 120)
  clear B1
  have fzR_4 : ∀ i, (w.alloc (.cells #[.int .u8 0, .int .u32 0, .int .u16 0, .int .u32 0, .int .u16 0, .int .i64 0, .int .u8 0, .bool false, .int .u8 0] 120)).frozen? ⟨w.heap.size, i, none⟩ = false := by intro i; simp [go_sem]
  refine (cp _).mono ?_; rintro e w1 ⟨rfl, x1⟩
  have fzR_5 := fzB_ x1 R_2.1 fzR_4
  clear fzR_4
  have R_6 := R_2.on x1
  have B7 := B3.trans (x1.mono B3.size)
  clear R_2 B3 x1
  clear cp
  have al := alO_ B7 (.cells #[.int .u8 h0, .int .u16 h1, .bool h2, .int .u8 h3, .int .u8 pr, .int .u32 h5, .int .u32 h6, .string h7] 50)
  have fzR_8 := fzB_ al R_6.1 fzR_5
  clear fzR_5
  have R_9 := R_6.on al
  have H_10 := Box8.make w1 (.int .u8 h0) (.int .u16 h1) (.bool h2) (.int .u8 h3) (.int .u8 pr) (.int .u32 h5) (.int .u32 h6) (.string h7) 50
  have B11 := B7.trans (al.mono B7.size)
  clear al
  clear R_6 B7
  obtain ⟨_, h1_0, h1_1, h1_2, h1_3, h1_4, h1_5, h1_6, h1_7⟩ := id H_10
  have al := alO_ B11 (.cells #[.int .u8 pr, .int .u32 h5, .int .u16 0, .int .u32 h6, .int .u16 0, .int .i64 2, .int .u8 0, .bool false, .int .u8 h3] 120)
  have fzR_12 := fzB_ al R_9.1 fzR_8
  clear fzR_8
  have R_13 := R_9.on al
  have H_14 := H_10.on al
  have hs_ : (w1.alloc (.cells #[.int .u8 h0, .int .u16 h1, .bool h2, .int .u8 h3, .int .u8 pr, .int .u32 h5, .int .u32 h6, .string h7] 50)).heap.size = w1.heap.size + 1 := by simp
  have X_15 := Box9.make (w1.alloc (.cells #[.int .u8 h0, .int .u16 h1, .bool h2, .int .u8 h3, .int .u8 pr, .int .u32 h5, .int .u32 h6, .string h7] 50)) (.int .u8 pr) (.int .u32 h5) (.int .u16 0) (.int .u32 h6) (.int .u16 0) (.int .i64 2) (.int .u8 0) (.bool false) (.int .u8 h3) 120
  rw [hs_] at X_15
  clear hs_
  have B16 := B11.trans (al.mono B11.size)
  clear al
  clear R_9 H_10 B11
  have fzX_17 : ∀ i, ((w1.alloc (.cells #[.int .u8 h0, .int .u16 h1, .bool h2, .int .u8 h3, .int .u8 pr, .int .u32 h5, .int .u32 h6, .string h7] 50)).alloc (.cells #[.int .u8 pr, .int .u32 h5, .int .u16 0, .int .u32 h6, .int .u16 0, .int .i64 2, .int .u8 0, .bool false, .int .u8 h3] 120)).frozen? ⟨(w1.heap.size + 1), i, none⟩ = false := by intro i; simp [go_sem]
  obtain ⟨_, h2_0, h2_1, h2_2, h2_3, h2_4, h2_5, h2_6, h2_7⟩ := id H_14
  obtain ⟨_, r3_0, r3_1, r3_2, r3_3, r3_4, r3_5, r3_6, r3_7, r3_8⟩ := id R_13
  go_wp2
  refine box9_ (b := w.heap.size) R_13.some B16 (Nat.le_refl _) fun Z y0 y1 y2 y3 y4 y5 y6 y7 y8 BZ _ _ => ?_
  refine bodyPost_ret (v := .tuple #[.agg #[.int .u8 0, .int .u32 0, .int .u16 0, .int .u32 0, .int .u16 0, .int .i64 0, .int .u8 0, .bool false, .int .u8 0], .int .i64 6]) (by simp [results, Tryz.results68, go_sem, y0, y1, y2, y3, y4, y5, y6, y7, y8]) rfl ?_
  exact ⟨rfl, BZ⟩
theorem rof8_bad6 (s L : ByteArray) (h0 h1 h3 h5 h6 : Int) (h2 : Bool) (h7 : ByteArray) (cp : Cb_ 69 #[.string s] (.tuple #[.agg #[.int .u8 h0, .int .u16 h1, .bool h2, .int .u8 h3, .int .u8 6, .int .u32 h5, .int .u32 h6, .string h7], .string L, .int .i64 0])) (cm : Cb_ 116 #[.string L] (.tuple #[.agg #[.int .u16 0, .int .u16 0, .int .u32 0, .int .u32 0, .int .u8 0, .int .u8 0, .int .u16 0, .int .u16 0, .int .u16 0, .string ⟨#[]⟩], .string ⟨#[]⟩, .bool false])) (w : World) :
    Cw_ 68 #[.string s] (.tuple #[.agg #[.int .u8 0, .int .u32 0, .int .u16 0, .int .u32 0, .int .u16 0, .int .i64 0, .int .u8 0, .bool false, .int .u8 0], .int .i64 7]) w := by
  go_enter Tryz.func68, Tryz.ntmps68
  have B1 := Below.refl w.heap.size w
  go_wp2_with fail
  have R_2 := Box9.make w (.int .u8 0) (.int .u32 0) (.int .u16 0) (.int .u32 0) (.int .u16 0) (.int .i64 0) (.int .u8 0) (.bool false) (.int .u8 0) 120
  have B3 := B1.alloc B1.size (.cells #[.int .u8 0, .int .u32 0, .int .u16 0, .int .u32 0, .int .u16 0, .int .i64 0, .int .u8 0, .bool false, .int .u8 0] 120)
  clear B1
  have fzR_4 : ∀ i, (w.alloc (.cells #[.int .u8 0, .int .u32 0, .int .u16 0, .int .u32 0, .int .u16 0, .int .i64 0, .int .u8 0, .bool false, .int .u8 0] 120)).frozen? ⟨w.heap.size, i, none⟩ = false := by intro i; simp [go_sem]
  refine (cp _).mono ?_; rintro e w1 ⟨rfl, x1⟩
  have fzR_5 := fzB_ x1 R_2.1 fzR_4
  clear fzR_4
  have R_6 := R_2.on x1
  have B7 := B3.trans (x1.mono B3.size)
  clear R_2 B3 x1
  clear cp
  have al := alO_ B7 (.cells #[.int .u8 h0, .int .u16 h1, .bool h2, .int .u8 h3, .int .u8 6, .int .u32 h5, .int .u32 h6, .string h7] 50)
  have fzR_8 := fzB_ al R_6.1 fzR_5
  clear fzR_5
  have R_9 := R_6.on al
  have H_10 := Box8.make w1 (.int .u8 h0) (.int .u16 h1) (.bool h2) (.int .u8 h3) (.int .u8 6) (.int .u32 h5) (.int .u32 h6) (.string h7) 50
  have B11 := B7.trans (al.mono B7.size)
  clear al
  clear R_6 B7
  obtain ⟨_, h1_0, h1_1, h1_2, h1_3, h1_4, h1_5, h1_6, h1_7⟩ := id H_10
  have al := alO_ B11 (.cells #[.int .u8 6, .int .u32 h5, .int .u16 0, .int .u32 h6, .int .u16 0, .int .i64 2, .int .u8 0, .bool false, .int .u8 h3] 120)
  have fzR_12 := fzB_ al R_9.1 fzR_8
  clear fzR_8
  have R_13 := R_9.on al
  have H_14 := H_10.on al
  have hs_ : (w1.alloc (.cells #[.int .u8 h0, .int .u16 h1, .bool h2, .int .u8 h3, .int .u8 6, .int .u32 h5, .int .u32 h6, .string h7] 50)).heap.size = w1.heap.size + 1 := by simp
  have X_15 := Box9.make (w1.alloc (.cells #[.int .u8 h0, .int .u16 h1, .bool h2, .int .u8 h3, .int .u8 6, .int .u32 h5, .int .u32 h6, .string h7] 50)) (.int .u8 6) (.int .u32 h5) (.int .u16 0) (.int .u32 h6) (.int .u16 0) (.int .i64 2) (.int .u8 0) (.bool false) (.int .u8 h3) 120
  rw [hs_] at X_15
  clear hs_
  have B16 := B11.trans (al.mono B11.size)
  clear al
  clear R_9 H_10 B11
  have fzX_17 : ∀ i, ((w1.alloc (.cells #[.int .u8 h0, .int .u16 h1, .bool h2, .int .u8 h3, .int .u8 6, .int .u32 h5, .int .u32 h6, .string h7] 50)).alloc (.cells #[.int .u8 6, .int .u32 h5, .int .u16 0, .int .u32 h6, .int .u16 0, .int .i64 2, .int .u8 0, .bool false, .int .u8 h3] 120)).frozen? ⟨(w1.heap.size + 1), i, none⟩ = false := by intro i; simp [go_sem]
  obtain ⟨_, h2_0, h2_1, h2_2, h2_3, h2_4, h2_5, h2_6, h2_7⟩ := id H_14
  go_wp2_with fail
  refine (cm _).mono ?_; rintro e w2 ⟨rfl, x2⟩
  have fzR_18 := fzB_ x2 R_13.1 fzR_12
  have fzX_19 := fzB_ x2 X_15.1 fzX_17
  clear fzR_12 fzX_17
  have R_20 := R_13.on x2
  have H_21 := H_14.on x2
  have X_22 := X_15.on x2
  have B23 := B16.trans (x2.mono B16.size)
  clear h1_0 h1_1 h1_2 h1_3 h1_4 h1_5 h1_6 h1_7 h2_0 h2_1 h2_2 h2_3 h2_4 h2_5 h2_6 h2_7 R_13 H_14 X_15 B16 x2
  clear cm
  have al := alO_ B23 (.cells #[.int .u16 0, .int .u16 0, .int .u32 0, .int .u32 0, .int .u8 0, .int .u8 0, .int .u16 0, .int .u16 0, .int .u16 0, .string ⟨#[]⟩] 166)
  have fzR_24 := fzB_ al R_20.1 fzR_18
  have fzX_25 := fzB_ al X_22.1 fzX_19
  clear fzR_18 fzX_19
  have R_26 := R_20.on al
  have H_27 := H_21.on al
  have X_28 := X_22.on al
  have M_29 := Box10.make w2 (.int .u16 0) (.int .u16 0) (.int .u32 0) (.int .u32 0) (.int .u8 0) (.int .u8 0) (.int .u16 0) (.int .u16 0) (.int .u16 0) (.string ⟨#[]⟩) 166
  have B30 := B23.trans (al.mono B23.size)
  clear al
  clear R_20 H_21 X_22 B23
  obtain ⟨_, r3_0, r3_1, r3_2, r3_3, r3_4, r3_5, r3_6, r3_7, r3_8⟩ := id R_26
  go_wp2
  refine box9_ (b := w.heap.size) R_26.some B30 (Nat.le_refl _) fun Z y0 y1 y2 y3 y4 y5 y6 y7 y8 BZ _ _ => ?_
  refine bodyPost_ret (v := .tuple #[.agg #[.int .u8 0, .int .u32 0, .int .u16 0, .int .u32 0, .int .u16 0, .int .i64 0, .int .u8 0, .bool false, .int .u8 0], .int .i64 7]) (by simp [results, Tryz.results68, go_sem, y0, y1, y2, y3, y4, y5, y6, y7, y8]) rfl ?_
  exact ⟨rfl, BZ⟩
theorem rof8_bad17 (s L : ByteArray) (h0 h1 h3 h5 h6 : Int) (h2 : Bool) (h7 : ByteArray) (cp : Cb_ 69 #[.string s] (.tuple #[.agg #[.int .u8 h0, .int .u16 h1, .bool h2, .int .u8 h3, .int .u8 17, .int .u32 h5, .int .u32 h6, .string h7], .string L, .int .i64 0])) (cm : Cb_ 117 #[.string L] (.tuple #[.agg #[.int .u16 0, .int .u16 0, .int .u16 0, .int .u16 0], .string ⟨#[]⟩, .bool false])) (w : World) :
    Cw_ 68 #[.string s] (.tuple #[.agg #[.int .u8 0, .int .u32 0, .int .u16 0, .int .u32 0, .int .u16 0, .int .i64 0, .int .u8 0, .bool false, .int .u8 0], .int .i64 7]) w := by
  go_enter Tryz.func68, Tryz.ntmps68
  have B1 := Below.refl w.heap.size w
  go_wp2_with fail
  have R_2 := Box9.make w (.int .u8 0) (.int .u32 0) (.int .u16 0) (.int .u32 0) (.int .u16 0) (.int .i64 0) (.int .u8 0) (.bool false) (.int .u8 0) 120
  have B3 := B1.alloc B1.size (.cells #[.int .u8 0, .int .u32 0, .int .u16 0, .int .u32 0, .int .u16 0, .int .i64 0, .int .u8 0, .bool false, .int .u8 0] 120)
  clear B1
  have fzR_4 : ∀ i, (w.alloc (.cells #[.int .u8 0, .int .u32 0, .int .u16 0, .int .u32 0, .int .u16 0, .int .i64 0, .int .u8 0, .bool false, .int .u8 0] 120)).frozen? ⟨w.heap.size, i, none⟩ = false := by intro i; simp [go_sem]
  refine (cp _).mono ?_; rintro e w1 ⟨rfl, x1⟩
  have fzR_5 := fzB_ x1 R_2.1 fzR_4
  clear fzR_4
  have R_6 := R_2.on x1
  have B7 := B3.trans (x1.mono B3.size)
  clear R_2 B3 x1
  clear cp
  have al := alO_ B7 (.cells #[.int .u8 h0, .int .u16 h1, .bool h2, .int .u8 h3, .int .u8 17, .int .u32 h5, .int .u32 h6, .string h7] 50)
  have fzR_8 := fzB_ al R_6.1 fzR_5
  clear fzR_5
  have R_9 := R_6.on al
  have H_10 := Box8.make w1 (.int .u8 h0) (.int .u16 h1) (.bool h2) (.int .u8 h3) (.int .u8 17) (.int .u32 h5) (.int .u32 h6) (.string h7) 50
  have B11 := B7.trans (al.mono B7.size)
  clear al
  clear R_6 B7
  obtain ⟨_, h1_0, h1_1, h1_2, h1_3, h1_4, h1_5, h1_6, h1_7⟩ := id H_10
  have al := alO_ B11 (.cells #[.int .u8 17, .int .u32 h5, .int .u16 0, .int .u32 h6, .int .u16 0, .int .i64 2, .int .u8 0, .bool false, .int .u8 h3] 120)
  have fzR_12 := fzB_ al R_9.1 fzR_8
  clear fzR_8
  have R_13 := R_9.on al
  have H_14 := H_10.on al
  have hs_ : (w1.alloc (.cells #[.int .u8 h0, .int .u16 h1, .bool h2, .int .u8 h3, .int .u8 17, .int .u32 h5, .int .u32 h6, .string h7] 50)).heap.size = w1.heap.size + 1 := by simp
  have X_15 := Box9.make (w1.alloc (.cells #[.int .u8 h0, .int .u16 h1, .bool h2, .int .u8 h3, .int .u8 17, .int .u32 h5, .int .u32 h6, .string h7] 50)) (.int .u8 17) (.int .u32 h5) (.int .u16 0) (.int .u32 h6) (.int .u16 0) (.int .i64 2) (.int .u8 0) (.bool false) (.int .u8 h3) 120
  rw [hs_] at X_15
  clear hs_
  have B16 := B11.trans (al.mono B11.size)
  clear al
  clear R_9 H_10 B11
  have fzX_17 : ∀ i, ((w1.alloc (.cells #[.int .u8 h0, .int .u16 h1, .bool h2, .int .u8 h3, .int .u8 17, .int .u32 h5, .int .u32 h6, .string h7] 50)).alloc (.cells #[.int .u8 17, .int .u32 h5, .int .u16 0, .int .u32 h6, .int .u16 0, .int .i64 2, .int .u8 0, .bool false, .int .u8 h3] 120)).frozen? ⟨(w1.heap.size + 1), i, none⟩ = false := by intro i; simp [go_sem]
  obtain ⟨_, h2_0, h2_1, h2_2, h2_3, h2_4, h2_5, h2_6, h2_7⟩ := id H_14
  go_wp2_with fail
  refine (cm _).mono ?_; rintro e w2 ⟨rfl, x2⟩
  have fzR_18 := fzB_ x2 R_13.1 fzR_12
  have fzX_19 := fzB_ x2 X_15.1 fzX_17
  clear fzR_12 fzX_17
  have R_20 := R_13.on x2
  have H_21 := H_14.on x2
  have X_22 := X_15.on x2
  have B23 := B16.trans (x2.mono B16.size)
  clear h1_0 h1_1 h1_2 h1_3 h1_4 h1_5 h1_6 h1_7 h2_0 h2_1 h2_2 h2_3 h2_4 h2_5 h2_6 h2_7 R_13 H_14 X_15 B16 x2
  clear cm
  have al := alO_ B23 (.cells #[.int .u16 0, .int .u16 0, .int .u16 0, .int .u16 0] 169)
  have fzR_24 := fzB_ al R_20.1 fzR_18
  have fzX_25 := fzB_ al X_22.1 fzX_19
  clear fzR_18 fzX_19
  have R_26 := R_20.on al
  have H_27 := H_21.on al
  have X_28 := X_22.on al
  have M_29 := Box4.make w2 (.int .u16 0) (.int .u16 0) (.int .u16 0) (.int .u16 0) 169
  have B30 := B23.trans (al.mono B23.size)
  clear al
  clear R_20 H_21 X_22 B23
  obtain ⟨_, r3_0, r3_1, r3_2, r3_3, r3_4, r3_5, r3_6, r3_7, r3_8⟩ := id R_26
  go_wp2
  refine box9_ (b := w.heap.size) R_26.some B30 (Nat.le_refl _) fun Z y0 y1 y2 y3 y4 y5 y6 y7 y8 BZ _ _ => ?_
  refine bodyPost_ret (v := .tuple #[.agg #[.int .u8 0, .int .u32 0, .int .u16 0, .int .u32 0, .int .u16 0, .int .i64 0, .int .u8 0, .bool false, .int .u8 0], .int .i64 7]) (by simp [results, Tryz.results68, go_sem, y0, y1, y2, y3, y4, y5, y6, y7, y8]) rfl ?_
  exact ⟨rfl, BZ⟩
theorem rof8_bad1 (s L : ByteArray) (h0 h1 h3 h5 h6 : Int) (h2 : Bool) (h7 : ByteArray) (cp : Cb_ 69 #[.string s] (.tuple #[.agg #[.int .u8 h0, .int .u16 h1, .bool h2, .int .u8 h3, .int .u8 1, .int .u32 h5, .int .u32 h6, .string h7], .string L, .int .i64 0])) (cm : Cb_ 70 #[.string L] (.tuple #[.agg #[.int .u8 0, .int .u8 0, .int .u16 0, .string ⟨#[]⟩, .string ⟨#[]⟩], .bool false])) (w : World) :
    Cw_ 68 #[.string s] (.tuple #[.agg #[.int .u8 0, .int .u32 0, .int .u16 0, .int .u32 0, .int .u16 0, .int .i64 0, .int .u8 0, .bool false, .int .u8 0], .int .i64 7]) w := by
  go_enter Tryz.func68, Tryz.ntmps68
  have B1 := Below.refl w.heap.size w
  go_wp2_with fail
  have R_2 := Box9.make w (.int .u8 0) (.int .u32 0) (.int .u16 0) (.int .u32 0) (.int .u16 0) (.int .i64 0) (.int .u8 0) (.bool false) (.int .u8 0) 120
  have B3 := B1.alloc B1.size (.cells #[.int .u8 0, .int .u32 0, .int .u16 0, .int .u32 0, .int .u16 0, .int .i64 0, .int .u8 0, .bool false, .int .u8 0] 120)
  clear B1
  have fzR_4 : ∀ i, (w.alloc (.cells #[.int .u8 0, .int .u32 0, .int .u16 0, .int .u32 0, .int .u16 0, .int .i64 0, .int .u8 0, .bool false, .int .u8 0] 120)).frozen? ⟨w.heap.size, i, none⟩ = false := by intro i; simp [go_sem]
  refine (cp _).mono ?_; rintro e w1 ⟨rfl, x1⟩
  have fzR_5 := fzB_ x1 R_2.1 fzR_4
  clear fzR_4
  have R_6 := R_2.on x1
  have B7 := B3.trans (x1.mono B3.size)
  clear R_2 B3 x1
  clear cp
  have al := alO_ B7 (.cells #[.int .u8 h0, .int .u16 h1, .bool h2, .int .u8 h3, .int .u8 1, .int .u32 h5, .int .u32 h6, .string h7] 50)
  have fzR_8 := fzB_ al R_6.1 fzR_5
  clear fzR_5
  have R_9 := R_6.on al
  have H_10 := Box8.make w1 (.int .u8 h0) (.int .u16 h1) (.bool h2) (.int .u8 h3) (.int .u8 1) (.int .u32 h5) (.int .u32 h6) (.string h7) 50
  have B11 := B7.trans (al.mono B7.size)
  clear al
  clear R_6 B7
  obtain ⟨_, h1_0, h1_1, h1_2, h1_3, h1_4, h1_5, h1_6, h1_7⟩ := id H_10
  have al := alO_ B11 (.cells #[.int .u8 1, .int .u32 h5, .int .u16 0, .int .u32 h6, .int .u16 0, .int .i64 2, .int .u8 0, .bool false, .int .u8 h3] 120)
  have fzR_12 := fzB_ al R_9.1 fzR_8
  clear fzR_8
  have R_13 := R_9.on al
  have H_14 := H_10.on al
  have hs_ : (w1.alloc (.cells #[.int .u8 h0, .int .u16 h1, .bool h2, .int .u8 h3, .int .u8 1, .int .u32 h5, .int .u32 h6, .string h7] 50)).heap.size = w1.heap.size + 1 := by simp
  have X_15 := Box9.make (w1.alloc (.cells #[.int .u8 h0, .int .u16 h1, .bool h2, .int .u8 h3, .int .u8 1, .int .u32 h5, .int .u32 h6, .string h7] 50)) (.int .u8 1) (.int .u32 h5) (.int .u16 0) (.int .u32 h6) (.int .u16 0) (.int .i64 2) (.int .u8 0) (.bool false) (.int .u8 h3) 120
  rw [hs_] at X_15
  clear hs_
  have B16 := B11.trans (al.mono B11.size)
  clear al
  clear R_9 H_10 B11
  have fzX_17 : ∀ i, ((w1.alloc (.cells #[.int .u8 h0, .int .u16 h1, .bool h2, .int .u8 h3, .int .u8 1, .int .u32 h5, .int .u32 h6, .string h7] 50)).alloc (.cells #[.int .u8 1, .int .u32 h5, .int .u16 0, .int .u32 h6, .int .u16 0, .int .i64 2, .int .u8 0, .bool false, .int .u8 h3] 120)).frozen? ⟨(w1.heap.size + 1), i, none⟩ = false := by intro i; simp [go_sem]
  obtain ⟨_, h2_0, h2_1, h2_2, h2_3, h2_4, h2_5, h2_6, h2_7⟩ := id H_14
  go_wp2_with fail
  refine (cm _).mono ?_; rintro e w2 ⟨rfl, x2⟩
  have fzR_18 := fzB_ x2 R_13.1 fzR_12
  have fzX_19 := fzB_ x2 X_15.1 fzX_17
  clear fzR_12 fzX_17
  have R_20 := R_13.on x2
  have H_21 := H_14.on x2
  have X_22 := X_15.on x2
  have B23 := B16.trans (x2.mono B16.size)
  clear h1_0 h1_1 h1_2 h1_3 h1_4 h1_5 h1_6 h1_7 h2_0 h2_1 h2_2 h2_3 h2_4 h2_5 h2_6 h2_7 R_13 H_14 X_15 B16 x2
  clear cm
  have al := alO_ B23 (.cells #[.int .u8 0, .int .u8 0, .int .u16 0, .string ⟨#[]⟩, .string ⟨#[]⟩] 81)
  have fzR_24 := fzB_ al R_20.1 fzR_18
  have fzX_25 := fzB_ al X_22.1 fzX_19
  clear fzR_18 fzX_19
  have R_26 := R_20.on al
  have H_27 := H_21.on al
  have X_28 := X_22.on al
  have M_29 := Box5.make w2 (.int .u8 0) (.int .u8 0) (.int .u16 0) (.string ⟨#[]⟩) (.string ⟨#[]⟩) 81
  have B30 := B23.trans (al.mono B23.size)
  clear al
  clear R_20 H_21 X_22 B23
  obtain ⟨_, r3_0, r3_1, r3_2, r3_3, r3_4, r3_5, r3_6, r3_7, r3_8⟩ := id R_26
  go_wp2
  refine box9_ (b := w.heap.size) R_26.some B30 (Nat.le_refl _) fun Z y0 y1 y2 y3 y4 y5 y6 y7 y8 BZ _ _ => ?_
  refine bodyPost_ret (v := .tuple #[.agg #[.int .u8 0, .int .u32 0, .int .u16 0, .int .u32 0, .int .u16 0, .int .i64 0, .int .u8 0, .bool false, .int .u8 0], .int .i64 7]) (by simp [results, Tryz.results68, go_sem, y0, y1, y2, y3, y4, y5, y6, y7, y8]) rfl ?_
  exact ⟨rfl, BZ⟩
theorem rof8_odd (s L : ByteArray) (h0 h1 h3 h5 h6 : Int) (h2 : Bool) (h7 : ByteArray) (m0 m1 m2 : Int) (m3 m4 : ByteArray) (cp : Cb_ 69 #[.string s] (.tuple #[.agg #[.int .u8 h0, .int .u16 h1, .bool h2, .int .u8 h3, .int .u8 1, .int .u32 h5, .int .u32 h6, .string h7], .string L, .int .i64 0])) (cm : Cb_ 70 #[.string L] (.tuple #[.agg #[.int .u8 m0, .int .u8 m1, .int .u16 m2, .string m3, .string m4], .bool true])) (cq : Cb_ 73 #[.agg #[.int .u8 m0, .int .u8 m1, .int .u16 m2, .string m3, .string m4]] (.tuple #[.bool false, .bool false])) (ce : Cb_ 118 #[.agg #[.int .u8 m0, .int .u8 m1, .int .u16 m2, .string m3, .string m4]] (.bool false)) (w : World) :
    Cw_ 68 #[.string s] (.tuple #[.agg #[.int .u8 0, .int .u32 0, .int .u16 0, .int .u32 0, .int .u16 0, .int .i64 0, .int .u8 0, .bool false, .int .u8 0], .int .i64 6]) w := by
  go_enter Tryz.func68, Tryz.ntmps68
  have B1 := Below.refl w.heap.size w
  go_wp2_with fail
  have R_2 := Box9.make w (.int .u8 0) (.int .u32 0) (.int .u16 0) (.int .u32 0) (.int .u16 0) (.int .i64 0) (.int .u8 0) (.bool false) (.int .u8 0) 120
  have B3 := B1.alloc B1.size (.cells #[.int .u8 0, .int .u32 0, .int .u16 0, .int .u32 0, .int .u16 0, .int .i64 0, .int .u8 0, .bool false, .int .u8 0] 120)
  clear B1
  have fzR_4 : ∀ i, (w.alloc (.cells #[.int .u8 0, .int .u32 0, .int .u16 0, .int .u32 0, .int .u16 0, .int .i64 0, .int .u8 0, .bool false, .int .u8 0] 120)).frozen? ⟨w.heap.size, i, none⟩ = false := by intro i; simp [go_sem]
  refine (cp _).mono ?_; rintro e w1 ⟨rfl, x1⟩
  have fzR_5 := fzB_ x1 R_2.1 fzR_4
  clear fzR_4
  have R_6 := R_2.on x1
  have B7 := B3.trans (x1.mono B3.size)
  clear R_2 B3 x1
  clear cp
  have al := alO_ B7 (.cells #[.int .u8 h0, .int .u16 h1, .bool h2, .int .u8 h3, .int .u8 1, .int .u32 h5, .int .u32 h6, .string h7] 50)
  have fzR_8 := fzB_ al R_6.1 fzR_5
  clear fzR_5
  have R_9 := R_6.on al
  have H_10 := Box8.make w1 (.int .u8 h0) (.int .u16 h1) (.bool h2) (.int .u8 h3) (.int .u8 1) (.int .u32 h5) (.int .u32 h6) (.string h7) 50
  have B11 := B7.trans (al.mono B7.size)
  clear al
  clear R_6 B7
  obtain ⟨_, h1_0, h1_1, h1_2, h1_3, h1_4, h1_5, h1_6, h1_7⟩ := id H_10
  have al := alO_ B11 (.cells #[.int .u8 1, .int .u32 h5, .int .u16 0, .int .u32 h6, .int .u16 0, .int .i64 2, .int .u8 0, .bool false, .int .u8 h3] 120)
  have fzR_12 := fzB_ al R_9.1 fzR_8
  clear fzR_8
  have R_13 := R_9.on al
  have H_14 := H_10.on al
  have hs_ : (w1.alloc (.cells #[.int .u8 h0, .int .u16 h1, .bool h2, .int .u8 h3, .int .u8 1, .int .u32 h5, .int .u32 h6, .string h7] 50)).heap.size = w1.heap.size + 1 := by simp
  have X_15 := Box9.make (w1.alloc (.cells #[.int .u8 h0, .int .u16 h1, .bool h2, .int .u8 h3, .int .u8 1, .int .u32 h5, .int .u32 h6, .string h7] 50)) (.int .u8 1) (.int .u32 h5) (.int .u16 0) (.int .u32 h6) (.int .u16 0) (.int .i64 2) (.int .u8 0) (.bool false) (.int .u8 h3) 120
  rw [hs_] at X_15
  clear hs_
  have B16 := B11.trans (al.mono B11.size)
  clear al
  clear R_9 H_10 B11
  have fzX_17 : ∀ i, ((w1.alloc (.cells #[.int .u8 h0, .int .u16 h1, .bool h2, .int .u8 h3, .int .u8 1, .int .u32 h5, .int .u32 h6, .string h7] 50)).alloc (.cells #[.int .u8 1, .int .u32 h5, .int .u16 0, .int .u32 h6, .int .u16 0, .int .i64 2, .int .u8 0, .bool false, .int .u8 h3] 120)).frozen? ⟨(w1.heap.size + 1), i, none⟩ = false := by intro i; simp [go_sem]
  obtain ⟨_, h2_0, h2_1, h2_2, h2_3, h2_4, h2_5, h2_6, h2_7⟩ := id H_14
  go_wp2_with fail
  refine (cm _).mono ?_; rintro e w2 ⟨rfl, x2⟩
  have fzR_18 := fzB_ x2 R_13.1 fzR_12
  have fzX_19 := fzB_ x2 X_15.1 fzX_17
  clear fzR_12 fzX_17
  have R_20 := R_13.on x2
  have H_21 := H_14.on x2
  have X_22 := X_15.on x2
  have B23 := B16.trans (x2.mono B16.size)
  clear h1_0 h1_1 h1_2 h1_3 h1_4 h1_5 h1_6 h1_7 h2_0 h2_1 h2_2 h2_3 h2_4 h2_5 h2_6 h2_7 R_13 H_14 X_15 B16 x2
  clear cm
  have al := alO_ B23 (.cells #[.int .u8 m0, .int .u8 m1, .int .u16 m2, .string m3, .string m4] 81)
  have fzR_24 := fzB_ al R_20.1 fzR_18
  have fzX_25 := fzB_ al X_22.1 fzX_19
  clear fzR_18 fzX_19
  have R_26 := R_20.on al
  have H_27 := H_21.on al
  have X_28 := X_22.on al
  have M_29 := Box5.make w2 (.int .u8 m0) (.int .u8 m1) (.int .u16 m2) (.string m3) (.string m4) 81
  have B30 := B23.trans (al.mono B23.size)
  clear al
  clear R_20 H_21 X_22 B23
  obtain ⟨_, m3_0, m3_1, m3_2, m3_3, m3_4⟩ := id M_29
  go_wp2_with fail
  refine (cq _).mono ?_; rintro e w3 ⟨rfl, x3⟩
  have fzR_31 := fzB_ x3 R_26.1 fzR_24
  have fzX_32 := fzB_ x3 X_28.1 fzX_25
  clear fzR_24 fzX_25
  have R_33 := R_26.on x3
  have H_34 := H_27.on x3
  have X_35 := X_28.on x3
  have M_36 := M_29.on x3
  have B37 := B30.trans (x3.mono B30.size)
  clear m3_0 m3_1 m3_2 m3_3 m3_4 R_26 H_27 X_28 M_29 B30 x3
  clear cq
  obtain ⟨_, m4_0, m4_1, m4_2, m4_3, m4_4⟩ := id M_36
  go_wp2_with fail
  refine (ce _).mono ?_; rintro e w4 ⟨rfl, x4⟩
  have fzR_38 := fzB_ x4 R_33.1 fzR_31
  have fzX_39 := fzB_ x4 X_35.1 fzX_32
  clear fzR_31 fzX_32
  have R_40 := R_33.on x4
  have H_41 := H_34.on x4
  have X_42 := X_35.on x4
  have M_43 := M_36.on x4
  have B44 := B37.trans (x4.mono B37.size)
  clear m4_0 m4_1 m4_2 m4_3 m4_4 R_33 H_34 X_35 M_36 B37 x4
  clear ce
  obtain ⟨_, r5_0, r5_1, r5_2, r5_3, r5_4, r5_5, r5_6, r5_7, r5_8⟩ := id R_40
  go_wp2
  refine box9_ (b := w.heap.size) R_40.some B44 (Nat.le_refl _) fun Z y0 y1 y2 y3 y4 y5 y6 y7 y8 BZ _ _ => ?_
  refine bodyPost_ret (v := .tuple #[.agg #[.int .u8 0, .int .u32 0, .int .u16 0, .int .u32 0, .int .u16 0, .int .i64 0, .int .u8 0, .bool false, .int .u8 0], .int .i64 6]) (by simp [results, Tryz.results68, go_sem, y0, y1, y2, y3, y4, y5, y6, y7, y8]) rfl ?_
  exact ⟨rfl, BZ⟩
theorem rof8_err (s L : ByteArray) (h0 h1 h3 h5 h6 : Int) (h2 : Bool) (h7 : ByteArray) (m0 m1 m2 : Int) (m3 m4 : ByteArray) (cp : Cb_ 69 #[.string s] (.tuple #[.agg #[.int .u8 h0, .int .u16 h1, .bool h2, .int .u8 h3, .int .u8 1, .int .u32 h5, .int .u32 h6, .string h7], .string L, .int .i64 0])) (cm : Cb_ 70 #[.string L] (.tuple #[.agg #[.int .u8 m0, .int .u8 m1, .int .u16 m2, .string m3, .string m4], .bool true])) (cq : Cb_ 73 #[.agg #[.int .u8 m0, .int .u8 m1, .int .u16 m2, .string m3, .string m4]] (.tuple #[.bool false, .bool false])) (ce : Cb_ 118 #[.agg #[.int .u8 m0, .int .u8 m1, .int .u16 m2, .string m3, .string m4]] (.bool true)) (w : World) :
    Cw_ 68 #[.string s] (.tuple #[.agg #[.int .u8 1, .int .u32 h5, .int .u16 0, .int .u32 h6, .int .u16 0, .int .i64 3, .int .u8 0, .bool false, .int .u8 h3], .int .i64 0]) w := by
  go_enter Tryz.func68, Tryz.ntmps68
  have B1 := Below.refl w.heap.size w
  go_wp2_with fail
  have R_2 := Box9.make w (.int .u8 0) (.int .u32 0) (.int .u16 0) (.int .u32 0) (.int .u16 0) (.int .i64 0) (.int .u8 0) (.bool false) (.int .u8 0) 120
  have B3 := B1.alloc B1.size (.cells #[.int .u8 0, .int .u32 0, .int .u16 0, .int .u32 0, .int .u16 0, .int .i64 0, .int .u8 0, .bool false, .int .u8 0] 120)
  clear B1
  have fzR_4 : ∀ i, (w.alloc (.cells #[.int .u8 0, .int .u32 0, .int .u16 0, .int .u32 0, .int .u16 0, .int .i64 0, .int .u8 0, .bool false, .int .u8 0] 120)).frozen? ⟨w.heap.size, i, none⟩ = false := by intro i; simp [go_sem]
  refine (cp _).mono ?_; rintro e w1 ⟨rfl, x1⟩
  have fzR_5 := fzB_ x1 R_2.1 fzR_4
  clear fzR_4
  have R_6 := R_2.on x1
  have B7 := B3.trans (x1.mono B3.size)
  clear R_2 B3 x1
  clear cp
  have Le := Lib.hid (show w.heap.size ≤ w1.heap.size from B7.size)
  have al := alO_ B7 (.cells #[.int .u8 h0, .int .u16 h1, .bool h2, .int .u8 h3, .int .u8 1, .int .u32 h5, .int .u32 h6, .string h7] 50)
  have fzR_8 := fzB_ al R_6.1 fzR_5
  clear fzR_5
  have R_9 := R_6.on al
  have H_10 := Box8.make w1 (.int .u8 h0) (.int .u16 h1) (.bool h2) (.int .u8 h3) (.int .u8 1) (.int .u32 h5) (.int .u32 h6) (.string h7) 50
  have B11 := B7.trans (al.mono B7.size)
  clear al
  clear R_6 B7
  obtain ⟨_, h1_0, h1_1, h1_2, h1_3, h1_4, h1_5, h1_6, h1_7⟩ := id H_10
  have al := alO_ B11 (.cells #[.int .u8 1, .int .u32 h5, .int .u16 0, .int .u32 h6, .int .u16 0, .int .i64 2, .int .u8 0, .bool false, .int .u8 h3] 120)
  have fzR_12 := fzB_ al R_9.1 fzR_8
  clear fzR_8
  have R_13 := R_9.on al
  have H_14 := H_10.on al
  have hs_ : (w1.alloc (.cells #[.int .u8 h0, .int .u16 h1, .bool h2, .int .u8 h3, .int .u8 1, .int .u32 h5, .int .u32 h6, .string h7] 50)).heap.size = w1.heap.size + 1 := by simp
  have X_15 := Box9.make (w1.alloc (.cells #[.int .u8 h0, .int .u16 h1, .bool h2, .int .u8 h3, .int .u8 1, .int .u32 h5, .int .u32 h6, .string h7] 50)) (.int .u8 1) (.int .u32 h5) (.int .u16 0) (.int .u32 h6) (.int .u16 0) (.int .i64 2) (.int .u8 0) (.bool false) (.int .u8 h3) 120
  rw [hs_] at X_15
  clear hs_
  have B16 := B11.trans (al.mono B11.size)
  clear al
  clear R_9 H_10 B11
  have fzX_17 : ∀ i, ((w1.alloc (.cells #[.int .u8 h0, .int .u16 h1, .bool h2, .int .u8 h3, .int .u8 1, .int .u32 h5, .int .u32 h6, .string h7] 50)).alloc (.cells #[.int .u8 1, .int .u32 h5, .int .u16 0, .int .u32 h6, .int .u16 0, .int .i64 2, .int .u8 0, .bool false, .int .u8 h3] 120)).frozen? ⟨(w1.heap.size + 1), i, none⟩ = false := by intro i; simp [go_sem]
  obtain ⟨_, h2_0, h2_1, h2_2, h2_3, h2_4, h2_5, h2_6, h2_7⟩ := id H_14
  go_wp2_with fail
  refine (cm _).mono ?_; rintro e w2 ⟨rfl, x2⟩
  have fzR_18 := fzB_ x2 R_13.1 fzR_12
  have fzX_19 := fzB_ x2 X_15.1 fzX_17
  clear fzR_12 fzX_17
  have R_20 := R_13.on x2
  have H_21 := H_14.on x2
  have X_22 := X_15.on x2
  have B23 := B16.trans (x2.mono B16.size)
  clear h1_0 h1_1 h1_2 h1_3 h1_4 h1_5 h1_6 h1_7 h2_0 h2_1 h2_2 h2_3 h2_4 h2_5 h2_6 h2_7 R_13 H_14 X_15 B16 x2
  clear cm
  have al := alO_ B23 (.cells #[.int .u8 m0, .int .u8 m1, .int .u16 m2, .string m3, .string m4] 81)
  have fzR_24 := fzB_ al R_20.1 fzR_18
  have fzX_25 := fzB_ al X_22.1 fzX_19
  clear fzR_18 fzX_19
  have R_26 := R_20.on al
  have H_27 := H_21.on al
  have X_28 := X_22.on al
  have M_29 := Box5.make w2 (.int .u8 m0) (.int .u8 m1) (.int .u16 m2) (.string m3) (.string m4) 81
  have B30 := B23.trans (al.mono B23.size)
  clear al
  clear R_20 H_21 X_22 B23
  obtain ⟨_, m3_0, m3_1, m3_2, m3_3, m3_4⟩ := id M_29
  go_wp2_with fail
  refine (cq _).mono ?_; rintro e w3 ⟨rfl, x3⟩
  have fzR_31 := fzB_ x3 R_26.1 fzR_24
  have fzX_32 := fzB_ x3 X_28.1 fzX_25
  clear fzR_24 fzX_25
  have R_33 := R_26.on x3
  have H_34 := H_27.on x3
  have X_35 := X_28.on x3
  have M_36 := M_29.on x3
  have B37 := B30.trans (x3.mono B30.size)
  clear m3_0 m3_1 m3_2 m3_3 m3_4 R_26 H_27 X_28 M_29 B30 x3
  clear cq
  obtain ⟨_, m4_0, m4_1, m4_2, m4_3, m4_4⟩ := id M_36
  go_wp2_with fail
  refine (ce _).mono ?_; rintro e w4 ⟨rfl, x4⟩
  have fzR_38 := fzB_ x4 R_33.1 fzR_31
  have fzX_39 := fzB_ x4 X_35.1 fzX_32
  clear fzR_31 fzX_32
  have R_40 := R_33.on x4
  have H_41 := H_34.on x4
  have X_42 := X_35.on x4
  have M_43 := M_36.on x4
  have B44 := B37.trans (x4.mono B37.size)
  clear m4_0 m4_1 m4_2 m4_3 m4_4 R_33 H_34 X_35 M_36 B37 x4
  clear ce
  have ne1_ : ¬ w1.heap.size + 1 = w.heap.size := by have := Le.out; omega
  have ne2_ : ¬ w.heap.size = w1.heap.size + 1 := by omega
  obtain ⟨_, x5_0, x5_1, x5_2, x5_3, x5_4, x5_5, x5_6, x5_7, x5_8⟩ := id X_42
  obtain ⟨_, r6_0, r6_1, r6_2, r6_3, r6_4, r6_5, r6_6, r6_7, r6_8⟩ := id R_40
  go_wp2
  refine box9_ (b := w.heap.size) (W := ((w4.setCell ⟨w1.heap.size + 1, 7, none⟩ (.bool false)).setCell ⟨w1.heap.size + 1, 5, none⟩ (.int .i64 3))) (fun j hj => ?_) ((B44.setCell (p := ⟨w1.heap.size + 1, 7, none⟩) (by have := Le.out; show w.heap.size ≤ w1.heap.size + 1; omega) (.bool false)).setCell (p := ⟨w1.heap.size + 1, 5, none⟩) (by have := Le.out; show w.heap.size ≤ w1.heap.size + 1; omega) (.int .i64 3)) (Nat.le_refl _) fun Z y0 y1 y2 y3 y4 y5 y6 y7 y8 BZ _ _ => ?_
  · match j, hj with
    | 0, _ => simp [go_sem, r6_0]
    | 1, _ => simp [go_sem, r6_1]
    | 2, _ => simp [go_sem, r6_2]
    | 3, _ => simp [go_sem, r6_3]
    | 4, _ => simp [go_sem, r6_4]
    | 5, _ => simp [go_sem, r6_5]
    | 6, _ => simp [go_sem, r6_6]
    | 7, _ => simp [go_sem, r6_7]
    | 8, _ => simp [go_sem, r6_8]
  refine bodyPost_ret (v := .tuple #[.agg #[.int .u8 1, .int .u32 h5, .int .u16 0, .int .u32 h6, .int .u16 0, .int .i64 3, .int .u8 0, .bool false, .int .u8 h3], .int .i64 0]) (by simp [results, Tryz.results68, go_sem, y0, y1, y2, y3, y4, y5, y6, y7, y8]) rfl ?_
  exact ⟨rfl, BZ⟩
theorem rof8_ask (s L : ByteArray) (h0 h1 h3 h5 h6 : Int) (h2 : Bool) (h7 : ByteArray) (m0 m1 m2 : Int) (m3 m4 : ByteArray) (cp : Cb_ 69 #[.string s] (.tuple #[.agg #[.int .u8 h0, .int .u16 h1, .bool h2, .int .u8 h3, .int .u8 1, .int .u32 h5, .int .u32 h6, .string h7], .string L, .int .i64 0])) (cm : Cb_ 70 #[.string L] (.tuple #[.agg #[.int .u8 m0, .int .u8 m1, .int .u16 m2, .string m3, .string m4], .bool true])) (cq : Cb_ 73 #[.agg #[.int .u8 m0, .int .u8 m1, .int .u16 m2, .string m3, .string m4]] (.tuple #[.bool true, .bool true])) (j : Int) (ci : Cb_ 119 #[.agg #[.int .u8 m0, .int .u8 m1, .int .u16 m2, .string m3, .string m4]] (.int .u16 j)) (w : World) :
    Cw_ 68 #[.string s] (.tuple #[.agg #[.int .u8 1, .int .u32 h5, .int .u16 j, .int .u32 h6, .int .u16 0, .int .i64 2, .int .u8 0, .bool true, .int .u8 h3], .int .i64 0]) w := by
  go_enter Tryz.func68, Tryz.ntmps68
  have B1 := Below.refl w.heap.size w
  go_wp2_with fail
  have R_2 := Box9.make w (.int .u8 0) (.int .u32 0) (.int .u16 0) (.int .u32 0) (.int .u16 0) (.int .i64 0) (.int .u8 0) (.bool false) (.int .u8 0) 120
  have B3 := B1.alloc B1.size (.cells #[.int .u8 0, .int .u32 0, .int .u16 0, .int .u32 0, .int .u16 0, .int .i64 0, .int .u8 0, .bool false, .int .u8 0] 120)
  clear B1
  have fzR_4 : ∀ i, (w.alloc (.cells #[.int .u8 0, .int .u32 0, .int .u16 0, .int .u32 0, .int .u16 0, .int .i64 0, .int .u8 0, .bool false, .int .u8 0] 120)).frozen? ⟨w.heap.size, i, none⟩ = false := by intro i; simp [go_sem]
  refine (cp _).mono ?_; rintro e w1 ⟨rfl, x1⟩
  have fzR_5 := fzB_ x1 R_2.1 fzR_4
  clear fzR_4
  have R_6 := R_2.on x1
  have B7 := B3.trans (x1.mono B3.size)
  clear R_2 B3 x1
  clear cp
  have Le := Lib.hid (show w.heap.size ≤ w1.heap.size from B7.size)
  have al := alO_ B7 (.cells #[.int .u8 h0, .int .u16 h1, .bool h2, .int .u8 h3, .int .u8 1, .int .u32 h5, .int .u32 h6, .string h7] 50)
  have fzR_8 := fzB_ al R_6.1 fzR_5
  clear fzR_5
  have R_9 := R_6.on al
  have H_10 := Box8.make w1 (.int .u8 h0) (.int .u16 h1) (.bool h2) (.int .u8 h3) (.int .u8 1) (.int .u32 h5) (.int .u32 h6) (.string h7) 50
  have B11 := B7.trans (al.mono B7.size)
  clear al
  clear R_6 B7
  obtain ⟨_, h1_0, h1_1, h1_2, h1_3, h1_4, h1_5, h1_6, h1_7⟩ := id H_10
  have al := alO_ B11 (.cells #[.int .u8 1, .int .u32 h5, .int .u16 0, .int .u32 h6, .int .u16 0, .int .i64 2, .int .u8 0, .bool false, .int .u8 h3] 120)
  have fzR_12 := fzB_ al R_9.1 fzR_8
  clear fzR_8
  have R_13 := R_9.on al
  have H_14 := H_10.on al
  have hs_ : (w1.alloc (.cells #[.int .u8 h0, .int .u16 h1, .bool h2, .int .u8 h3, .int .u8 1, .int .u32 h5, .int .u32 h6, .string h7] 50)).heap.size = w1.heap.size + 1 := by simp
  have X_15 := Box9.make (w1.alloc (.cells #[.int .u8 h0, .int .u16 h1, .bool h2, .int .u8 h3, .int .u8 1, .int .u32 h5, .int .u32 h6, .string h7] 50)) (.int .u8 1) (.int .u32 h5) (.int .u16 0) (.int .u32 h6) (.int .u16 0) (.int .i64 2) (.int .u8 0) (.bool false) (.int .u8 h3) 120
  rw [hs_] at X_15
  clear hs_
  have B16 := B11.trans (al.mono B11.size)
  clear al
  clear R_9 H_10 B11
  have fzX_17 : ∀ i, ((w1.alloc (.cells #[.int .u8 h0, .int .u16 h1, .bool h2, .int .u8 h3, .int .u8 1, .int .u32 h5, .int .u32 h6, .string h7] 50)).alloc (.cells #[.int .u8 1, .int .u32 h5, .int .u16 0, .int .u32 h6, .int .u16 0, .int .i64 2, .int .u8 0, .bool false, .int .u8 h3] 120)).frozen? ⟨(w1.heap.size + 1), i, none⟩ = false := by intro i; simp [go_sem]
  obtain ⟨_, h2_0, h2_1, h2_2, h2_3, h2_4, h2_5, h2_6, h2_7⟩ := id H_14
  go_wp2_with fail
  refine (cm _).mono ?_; rintro e w2 ⟨rfl, x2⟩
  have fzR_18 := fzB_ x2 R_13.1 fzR_12
  have fzX_19 := fzB_ x2 X_15.1 fzX_17
  clear fzR_12 fzX_17
  have R_20 := R_13.on x2
  have H_21 := H_14.on x2
  have X_22 := X_15.on x2
  have B23 := B16.trans (x2.mono B16.size)
  clear h1_0 h1_1 h1_2 h1_3 h1_4 h1_5 h1_6 h1_7 h2_0 h2_1 h2_2 h2_3 h2_4 h2_5 h2_6 h2_7 R_13 H_14 X_15 B16 x2
  clear cm
  clear H_21
  have Lt := Lib.hid (show w1.heap.size + 1 < w2.heap.size from X_22.1)
  have al := alO_ B23 (.cells #[.int .u8 m0, .int .u8 m1, .int .u16 m2, .string m3, .string m4] 81)
  have fzR_24 := fzB_ al R_20.1 fzR_18
  have fzX_25 := fzB_ al X_22.1 fzX_19
  clear fzR_18 fzX_19
  have R_26 := R_20.on al
  have X_27 := X_22.on al
  have M_28 := Box5.make w2 (.int .u8 m0) (.int .u8 m1) (.int .u16 m2) (.string m3) (.string m4) 81
  have B29 := B23.trans (al.mono B23.size)
  clear al
  clear R_20 X_22 B23
  obtain ⟨_, m3_0, m3_1, m3_2, m3_3, m3_4⟩ := id M_28
  go_wp2_with fail
  refine (cq _).mono ?_; rintro e w3 ⟨rfl, x3⟩
  have fzR_30 := fzB_ x3 R_26.1 fzR_24
  have fzX_31 := fzB_ x3 X_27.1 fzX_25
  clear fzR_24 fzX_25
  have R_32 := R_26.on x3
  have X_33 := X_27.on x3
  have M_34 := M_28.on x3
  have B35 := B29.trans (x3.mono B29.size)
  clear m3_0 m3_1 m3_2 m3_3 m3_4 R_26 X_27 M_28 B29 x3
  clear cq
  have ne1_ : ¬ w1.heap.size + 1 = w.heap.size := by have := Le.out; omega
  have ne2_ : ¬ w.heap.size = w1.heap.size + 1 := by omega
  have ne3_ : ¬ w1.heap.size + 1 = w2.heap.size := by have := Lt.out; omega
  have ne4_ : ¬ w2.heap.size = w1.heap.size + 1 := by omega
  obtain ⟨_, x4_0, x4_1, x4_2, x4_3, x4_4, x4_5, x4_6, x4_7, x4_8⟩ := id X_33
  obtain ⟨_, m5_0, m5_1, m5_2, m5_3, m5_4⟩ := id M_34
  go_wp2_with fail
  clear x4_0 x4_1 x4_2 x4_3 x4_4 x4_5 x4_6 x4_7 x4_8 m5_0 m5_1 m5_2 m5_3 m5_4
  obtain ⟨_, r6_0, r6_1, r6_2, r6_3, r6_4, r6_5, r6_6, r6_7, r6_8⟩ := id R_32
  obtain ⟨_, x7_0, x7_1, x7_2, x7_3, x7_4, x7_5, x7_6, x7_7, x7_8⟩ := id X_33
  obtain ⟨_, m8_0, m8_1, m8_2, m8_3, m8_4⟩ := id M_34
  have B36 := (B35.setCell (p := ⟨(w1.heap.size + 1), 7, none⟩) (by have := Le.out; show w.heap.size ≤ w1.heap.size + 1; omega) (.bool true))
  have R_37 : Box9 (w3.setCell ⟨(w1.heap.size + 1), 7, none⟩ (.bool true)) w.heap.size (.int .u8 0) (.int .u32 0) (.int .u16 0) (.int .u32 0) (.int .u16 0) (.int .i64 0) (.int .u8 0) (.bool false) (.int .u8 0) := ⟨by have := R_32.1; simpa using this, by simp [go_sem, r6_0, r6_1, r6_2, r6_3, r6_4, r6_5, r6_6, r6_7, r6_8, x7_0, x7_1, x7_2, x7_3, x7_4, x7_5, x7_6, x7_7, x7_8, m8_0, m8_1, m8_2, m8_3, m8_4]⟩
  have X_38 : Box9 (w3.setCell ⟨(w1.heap.size + 1), 7, none⟩ (.bool true)) (w1.heap.size + 1) (.int .u8 1) (.int .u32 h5) (.int .u16 0) (.int .u32 h6) (.int .u16 0) (.int .i64 2) (.int .u8 0) (.bool true) (.int .u8 h3) := ⟨by have := X_33.1; simpa using this, by simp [go_sem, r6_0, r6_1, r6_2, r6_3, r6_4, r6_5, r6_6, r6_7, r6_8, x7_0, x7_1, x7_2, x7_3, x7_4, x7_5, x7_6, x7_7, x7_8, m8_0, m8_1, m8_2, m8_3, m8_4]⟩
  have M_39 : Box5 (w3.setCell ⟨(w1.heap.size + 1), 7, none⟩ (.bool true)) w2.heap.size (.int .u8 m0) (.int .u8 m1) (.int .u16 m2) (.string m3) (.string m4) := ⟨by have := M_34.1; simpa using this, by simp [go_sem, r6_0, r6_1, r6_2, r6_3, r6_4, r6_5, r6_6, r6_7, r6_8, x7_0, x7_1, x7_2, x7_3, x7_4, x7_5, x7_6, x7_7, x7_8, m8_0, m8_1, m8_2, m8_3, m8_4]⟩
  have fzR_40 : ∀ i, (w3.setCell ⟨(w1.heap.size + 1), 7, none⟩ (.bool true)).frozen? ⟨w.heap.size, i, none⟩ = false := by intro i; simp [fzR_30]
  have fzX_41 : ∀ i, (w3.setCell ⟨(w1.heap.size + 1), 7, none⟩ (.bool true)).frozen? ⟨(w1.heap.size + 1), i, none⟩ = false := by intro i; simp [fzX_31]
  clear r6_0 r6_1 r6_2 r6_3 r6_4 r6_5 r6_6 r6_7 r6_8 x7_0 x7_1 x7_2 x7_3 x7_4 x7_5 x7_6 x7_7 x7_8 m8_0 m8_1 m8_2 m8_3 m8_4 R_32 X_33 M_34 fzR_30 fzX_31 B35
  obtain ⟨u4, hu4⟩ : ∃ x, x = (w3.setCell ⟨(w1.heap.size + 1), 7, none⟩ (.bool true)) := ⟨_, rfl⟩
  rw [← hu4] at R_37 X_38 M_39 fzR_40 fzX_41 B36 ⊢
  clear hu4
  refine (ci _).mono ?_; rintro e w5 ⟨rfl, x5⟩
  have fzR_42 := fzB_ x5 R_37.1 fzR_40
  have fzX_43 := fzB_ x5 X_38.1 fzX_41
  clear fzR_40 fzX_41
  have R_44 := R_37.on x5
  have X_45 := X_38.on x5
  have M_46 := M_39.on x5
  have B47 := B36.trans (x5.mono B36.size)
  clear R_37 X_38 M_39 B36 x5
  clear ci ne1_ ne2_
  have ne1_ : ¬ w1.heap.size + 1 = w.heap.size := by have := Le.out; omega
  have ne2_ : ¬ w.heap.size = w1.heap.size + 1 := by omega
  obtain ⟨_, x9_0, x9_1, x9_2, x9_3, x9_4, x9_5, x9_6, x9_7, x9_8⟩ := id X_45
  obtain ⟨_, r10_0, r10_1, r10_2, r10_3, r10_4, r10_5, r10_6, r10_7, r10_8⟩ := id R_44
  go_wp2
  refine box9_ (b := w.heap.size) (W := (w5.setCell ⟨w1.heap.size + 1, 2, none⟩ (.int .u16 j))) (fun j hj => ?_) (B47.setCell (p := ⟨w1.heap.size + 1, 2, none⟩) (by have := Le.out; show w.heap.size ≤ w1.heap.size + 1; omega) (.int .u16 j)) (Nat.le_refl _) fun Z y0 y1 y2 y3 y4 y5 y6 y7 y8 BZ _ _ => ?_
  · match j, hj with
    | 0, _ => simp [go_sem, r10_0]
    | 1, _ => simp [go_sem, r10_1]
    | 2, _ => simp [go_sem, r10_2]
    | 3, _ => simp [go_sem, r10_3]
    | 4, _ => simp [go_sem, r10_4]
    | 5, _ => simp [go_sem, r10_5]
    | 6, _ => simp [go_sem, r10_6]
    | 7, _ => simp [go_sem, r10_7]
    | 8, _ => simp [go_sem, r10_8]
  refine bodyPost_ret (v := .tuple #[.agg #[.int .u8 1, .int .u32 h5, .int .u16 j, .int .u32 h6, .int .u16 0, .int .i64 2, .int .u8 0, .bool true, .int .u8 h3], .int .i64 0]) (by simp [results, Tryz.results68, go_sem, y0, y1, y2, y3, y4, y5, y6, y7, y8]) rfl ?_
  exact ⟨rfl, BZ⟩
theorem rof8_told (s L : ByteArray) (h0 h1 h3 h5 h6 : Int) (h2 : Bool) (h7 : ByteArray) (m0 m1 m2 : Int) (m3 m4 : ByteArray) (cp : Cb_ 69 #[.string s] (.tuple #[.agg #[.int .u8 h0, .int .u16 h1, .bool h2, .int .u8 h3, .int .u8 1, .int .u32 h5, .int .u32 h6, .string h7], .string L, .int .i64 0])) (cm : Cb_ 70 #[.string L] (.tuple #[.agg #[.int .u8 m0, .int .u8 m1, .int .u16 m2, .string m3, .string m4], .bool true])) (cq : Cb_ 73 #[.agg #[.int .u8 m0, .int .u8 m1, .int .u16 m2, .string m3, .string m4]] (.tuple #[.bool false, .bool true])) (j : Int) (ci : Cb_ 119 #[.agg #[.int .u8 m0, .int .u8 m1, .int .u16 m2, .string m3, .string m4]] (.int .u16 j)) (w : World) :
    Cw_ 68 #[.string s] (.tuple #[.agg #[.int .u8 1, .int .u32 h5, .int .u16 0, .int .u32 h6, .int .u16 j, .int .i64 2, .int .u8 0, .bool false, .int .u8 h3], .int .i64 0]) w := by
  go_enter Tryz.func68, Tryz.ntmps68
  have B1 := Below.refl w.heap.size w
  go_wp2_with fail
  have R_2 := Box9.make w (.int .u8 0) (.int .u32 0) (.int .u16 0) (.int .u32 0) (.int .u16 0) (.int .i64 0) (.int .u8 0) (.bool false) (.int .u8 0) 120
  have B3 := B1.alloc B1.size (.cells #[.int .u8 0, .int .u32 0, .int .u16 0, .int .u32 0, .int .u16 0, .int .i64 0, .int .u8 0, .bool false, .int .u8 0] 120)
  clear B1
  have fzR_4 : ∀ i, (w.alloc (.cells #[.int .u8 0, .int .u32 0, .int .u16 0, .int .u32 0, .int .u16 0, .int .i64 0, .int .u8 0, .bool false, .int .u8 0] 120)).frozen? ⟨w.heap.size, i, none⟩ = false := by intro i; simp [go_sem]
  refine (cp _).mono ?_; rintro e w1 ⟨rfl, x1⟩
  have fzR_5 := fzB_ x1 R_2.1 fzR_4
  clear fzR_4
  have R_6 := R_2.on x1
  have B7 := B3.trans (x1.mono B3.size)
  clear R_2 B3 x1
  clear cp
  have Le := Lib.hid (show w.heap.size ≤ w1.heap.size from B7.size)
  have al := alO_ B7 (.cells #[.int .u8 h0, .int .u16 h1, .bool h2, .int .u8 h3, .int .u8 1, .int .u32 h5, .int .u32 h6, .string h7] 50)
  have fzR_8 := fzB_ al R_6.1 fzR_5
  clear fzR_5
  have R_9 := R_6.on al
  have H_10 := Box8.make w1 (.int .u8 h0) (.int .u16 h1) (.bool h2) (.int .u8 h3) (.int .u8 1) (.int .u32 h5) (.int .u32 h6) (.string h7) 50
  have B11 := B7.trans (al.mono B7.size)
  clear al
  clear R_6 B7
  obtain ⟨_, h1_0, h1_1, h1_2, h1_3, h1_4, h1_5, h1_6, h1_7⟩ := id H_10
  have al := alO_ B11 (.cells #[.int .u8 1, .int .u32 h5, .int .u16 0, .int .u32 h6, .int .u16 0, .int .i64 2, .int .u8 0, .bool false, .int .u8 h3] 120)
  have fzR_12 := fzB_ al R_9.1 fzR_8
  clear fzR_8
  have R_13 := R_9.on al
  have H_14 := H_10.on al
  have hs_ : (w1.alloc (.cells #[.int .u8 h0, .int .u16 h1, .bool h2, .int .u8 h3, .int .u8 1, .int .u32 h5, .int .u32 h6, .string h7] 50)).heap.size = w1.heap.size + 1 := by simp
  have X_15 := Box9.make (w1.alloc (.cells #[.int .u8 h0, .int .u16 h1, .bool h2, .int .u8 h3, .int .u8 1, .int .u32 h5, .int .u32 h6, .string h7] 50)) (.int .u8 1) (.int .u32 h5) (.int .u16 0) (.int .u32 h6) (.int .u16 0) (.int .i64 2) (.int .u8 0) (.bool false) (.int .u8 h3) 120
  rw [hs_] at X_15
  clear hs_
  have B16 := B11.trans (al.mono B11.size)
  clear al
  clear R_9 H_10 B11
  have fzX_17 : ∀ i, ((w1.alloc (.cells #[.int .u8 h0, .int .u16 h1, .bool h2, .int .u8 h3, .int .u8 1, .int .u32 h5, .int .u32 h6, .string h7] 50)).alloc (.cells #[.int .u8 1, .int .u32 h5, .int .u16 0, .int .u32 h6, .int .u16 0, .int .i64 2, .int .u8 0, .bool false, .int .u8 h3] 120)).frozen? ⟨(w1.heap.size + 1), i, none⟩ = false := by intro i; simp [go_sem]
  obtain ⟨_, h2_0, h2_1, h2_2, h2_3, h2_4, h2_5, h2_6, h2_7⟩ := id H_14
  go_wp2_with fail
  refine (cm _).mono ?_; rintro e w2 ⟨rfl, x2⟩
  have fzR_18 := fzB_ x2 R_13.1 fzR_12
  have fzX_19 := fzB_ x2 X_15.1 fzX_17
  clear fzR_12 fzX_17
  have R_20 := R_13.on x2
  have H_21 := H_14.on x2
  have X_22 := X_15.on x2
  have B23 := B16.trans (x2.mono B16.size)
  clear h1_0 h1_1 h1_2 h1_3 h1_4 h1_5 h1_6 h1_7 h2_0 h2_1 h2_2 h2_3 h2_4 h2_5 h2_6 h2_7 R_13 H_14 X_15 B16 x2
  clear cm
  clear H_21
  have Lt := Lib.hid (show w1.heap.size + 1 < w2.heap.size from X_22.1)
  have al := alO_ B23 (.cells #[.int .u8 m0, .int .u8 m1, .int .u16 m2, .string m3, .string m4] 81)
  have fzR_24 := fzB_ al R_20.1 fzR_18
  have fzX_25 := fzB_ al X_22.1 fzX_19
  clear fzR_18 fzX_19
  have R_26 := R_20.on al
  have X_27 := X_22.on al
  have M_28 := Box5.make w2 (.int .u8 m0) (.int .u8 m1) (.int .u16 m2) (.string m3) (.string m4) 81
  have B29 := B23.trans (al.mono B23.size)
  clear al
  clear R_20 X_22 B23
  obtain ⟨_, m3_0, m3_1, m3_2, m3_3, m3_4⟩ := id M_28
  go_wp2_with fail
  refine (cq _).mono ?_; rintro e w3 ⟨rfl, x3⟩
  have fzR_30 := fzB_ x3 R_26.1 fzR_24
  have fzX_31 := fzB_ x3 X_27.1 fzX_25
  clear fzR_24 fzX_25
  have R_32 := R_26.on x3
  have X_33 := X_27.on x3
  have M_34 := M_28.on x3
  have B35 := B29.trans (x3.mono B29.size)
  clear m3_0 m3_1 m3_2 m3_3 m3_4 R_26 X_27 M_28 B29 x3
  clear cq
  have ne1_ : ¬ w1.heap.size + 1 = w.heap.size := by have := Le.out; omega
  have ne2_ : ¬ w.heap.size = w1.heap.size + 1 := by omega
  have ne3_ : ¬ w1.heap.size + 1 = w2.heap.size := by have := Lt.out; omega
  have ne4_ : ¬ w2.heap.size = w1.heap.size + 1 := by omega
  obtain ⟨_, x4_0, x4_1, x4_2, x4_3, x4_4, x4_5, x4_6, x4_7, x4_8⟩ := id X_33
  obtain ⟨_, m5_0, m5_1, m5_2, m5_3, m5_4⟩ := id M_34
  go_wp2_with fail
  clear x4_0 x4_1 x4_2 x4_3 x4_4 x4_5 x4_6 x4_7 x4_8 m5_0 m5_1 m5_2 m5_3 m5_4
  obtain ⟨_, r6_0, r6_1, r6_2, r6_3, r6_4, r6_5, r6_6, r6_7, r6_8⟩ := id R_32
  obtain ⟨_, x7_0, x7_1, x7_2, x7_3, x7_4, x7_5, x7_6, x7_7, x7_8⟩ := id X_33
  obtain ⟨_, m8_0, m8_1, m8_2, m8_3, m8_4⟩ := id M_34
  have B36 := (B35.setCell (p := ⟨(w1.heap.size + 1), 7, none⟩) (by have := Le.out; show w.heap.size ≤ w1.heap.size + 1; omega) (.bool false))
  have R_37 : Box9 (w3.setCell ⟨(w1.heap.size + 1), 7, none⟩ (.bool false)) w.heap.size (.int .u8 0) (.int .u32 0) (.int .u16 0) (.int .u32 0) (.int .u16 0) (.int .i64 0) (.int .u8 0) (.bool false) (.int .u8 0) := ⟨by have := R_32.1; simpa using this, by simp [go_sem, r6_0, r6_1, r6_2, r6_3, r6_4, r6_5, r6_6, r6_7, r6_8, x7_0, x7_1, x7_2, x7_3, x7_4, x7_5, x7_6, x7_7, x7_8, m8_0, m8_1, m8_2, m8_3, m8_4]⟩
  have X_38 : Box9 (w3.setCell ⟨(w1.heap.size + 1), 7, none⟩ (.bool false)) (w1.heap.size + 1) (.int .u8 1) (.int .u32 h5) (.int .u16 0) (.int .u32 h6) (.int .u16 0) (.int .i64 2) (.int .u8 0) (.bool false) (.int .u8 h3) := ⟨by have := X_33.1; simpa using this, by simp [go_sem, r6_0, r6_1, r6_2, r6_3, r6_4, r6_5, r6_6, r6_7, r6_8, x7_0, x7_1, x7_2, x7_3, x7_4, x7_5, x7_6, x7_7, x7_8, m8_0, m8_1, m8_2, m8_3, m8_4]⟩
  have M_39 : Box5 (w3.setCell ⟨(w1.heap.size + 1), 7, none⟩ (.bool false)) w2.heap.size (.int .u8 m0) (.int .u8 m1) (.int .u16 m2) (.string m3) (.string m4) := ⟨by have := M_34.1; simpa using this, by simp [go_sem, r6_0, r6_1, r6_2, r6_3, r6_4, r6_5, r6_6, r6_7, r6_8, x7_0, x7_1, x7_2, x7_3, x7_4, x7_5, x7_6, x7_7, x7_8, m8_0, m8_1, m8_2, m8_3, m8_4]⟩
  have fzR_40 : ∀ i, (w3.setCell ⟨(w1.heap.size + 1), 7, none⟩ (.bool false)).frozen? ⟨w.heap.size, i, none⟩ = false := by intro i; simp [fzR_30]
  have fzX_41 : ∀ i, (w3.setCell ⟨(w1.heap.size + 1), 7, none⟩ (.bool false)).frozen? ⟨(w1.heap.size + 1), i, none⟩ = false := by intro i; simp [fzX_31]
  clear r6_0 r6_1 r6_2 r6_3 r6_4 r6_5 r6_6 r6_7 r6_8 x7_0 x7_1 x7_2 x7_3 x7_4 x7_5 x7_6 x7_7 x7_8 m8_0 m8_1 m8_2 m8_3 m8_4 R_32 X_33 M_34 fzR_30 fzX_31 B35
  obtain ⟨u4, hu4⟩ : ∃ x, x = (w3.setCell ⟨(w1.heap.size + 1), 7, none⟩ (.bool false)) := ⟨_, rfl⟩
  rw [← hu4] at R_37 X_38 M_39 fzR_40 fzX_41 B36 ⊢
  clear hu4
  refine (ci _).mono ?_; rintro e w5 ⟨rfl, x5⟩
  have fzR_42 := fzB_ x5 R_37.1 fzR_40
  have fzX_43 := fzB_ x5 X_38.1 fzX_41
  clear fzR_40 fzX_41
  have R_44 := R_37.on x5
  have X_45 := X_38.on x5
  have M_46 := M_39.on x5
  have B47 := B36.trans (x5.mono B36.size)
  clear R_37 X_38 M_39 B36 x5
  clear ci ne1_ ne2_
  have ne1_ : ¬ w1.heap.size + 1 = w.heap.size := by have := Le.out; omega
  have ne2_ : ¬ w.heap.size = w1.heap.size + 1 := by omega
  obtain ⟨_, x9_0, x9_1, x9_2, x9_3, x9_4, x9_5, x9_6, x9_7, x9_8⟩ := id X_45
  obtain ⟨_, r10_0, r10_1, r10_2, r10_3, r10_4, r10_5, r10_6, r10_7, r10_8⟩ := id R_44
  go_wp2
  refine box9_ (b := w.heap.size) (W := (w5.setCell ⟨w1.heap.size + 1, 4, none⟩ (.int .u16 j))) (fun j hj => ?_) (B47.setCell (p := ⟨w1.heap.size + 1, 4, none⟩) (by have := Le.out; show w.heap.size ≤ w1.heap.size + 1; omega) (.int .u16 j)) (Nat.le_refl _) fun Z y0 y1 y2 y3 y4 y5 y6 y7 y8 BZ _ _ => ?_
  · match j, hj with
    | 0, _ => simp [go_sem, r10_0]
    | 1, _ => simp [go_sem, r10_1]
    | 2, _ => simp [go_sem, r10_2]
    | 3, _ => simp [go_sem, r10_3]
    | 4, _ => simp [go_sem, r10_4]
    | 5, _ => simp [go_sem, r10_5]
    | 6, _ => simp [go_sem, r10_6]
    | 7, _ => simp [go_sem, r10_7]
    | 8, _ => simp [go_sem, r10_8]
  refine bodyPost_ret (v := .tuple #[.agg #[.int .u8 1, .int .u32 h5, .int .u16 0, .int .u32 h6, .int .u16 j, .int .i64 2, .int .u8 0, .bool false, .int .u8 h3], .int .i64 0]) (by simp [results, Tryz.results68, go_sem, y0, y1, y2, y3, y4, y5, y6, y7, y8]) rfl ?_
  exact ⟨rfl, BZ⟩
theorem rof8_udp (s L : ByteArray) (h0 h1 h3 h5 h6 : Int) (h2 : Bool) (h7 : ByteArray) (g0 g1 g2 g3 : Int) (P : ByteArray) (cp : Cb_ 69 #[.string s] (.tuple #[.agg #[.int .u8 h0, .int .u16 h1, .bool h2, .int .u8 h3, .int .u8 17, .int .u32 h5, .int .u32 h6, .string h7], .string L, .int .i64 0])) (cm : Cb_ 117 #[.string L] (.tuple #[.agg #[.int .u16 g0, .int .u16 g1, .int .u16 g2, .int .u16 g3], .string P, .bool true])) (w : World) :
    Cw_ 68 #[.string s] (.tuple #[.agg #[.int .u8 17, .int .u32 h5, .int .u16 g0, .int .u32 h6, .int .u16 g1, .int .i64 2, .int .u8 0, .bool false, .int .u8 h3], .int .i64 0]) w := by
  go_enter Tryz.func68, Tryz.ntmps68
  have B1 := Below.refl w.heap.size w
  go_wp2_with fail
  have R_2 := Box9.make w (.int .u8 0) (.int .u32 0) (.int .u16 0) (.int .u32 0) (.int .u16 0) (.int .i64 0) (.int .u8 0) (.bool false) (.int .u8 0) 120
  have B3 := B1.alloc B1.size (.cells #[.int .u8 0, .int .u32 0, .int .u16 0, .int .u32 0, .int .u16 0, .int .i64 0, .int .u8 0, .bool false, .int .u8 0] 120)
  clear B1
  have fzR_4 : ∀ i, (w.alloc (.cells #[.int .u8 0, .int .u32 0, .int .u16 0, .int .u32 0, .int .u16 0, .int .i64 0, .int .u8 0, .bool false, .int .u8 0] 120)).frozen? ⟨w.heap.size, i, none⟩ = false := by intro i; simp [go_sem]
  refine (cp _).mono ?_; rintro e w1 ⟨rfl, x1⟩
  have fzR_5 := fzB_ x1 R_2.1 fzR_4
  clear fzR_4
  have R_6 := R_2.on x1
  have B7 := B3.trans (x1.mono B3.size)
  clear R_2 B3 x1
  clear cp
  have Le := Lib.hid (show w.heap.size ≤ w1.heap.size from B7.size)
  have al := alO_ B7 (.cells #[.int .u8 h0, .int .u16 h1, .bool h2, .int .u8 h3, .int .u8 17, .int .u32 h5, .int .u32 h6, .string h7] 50)
  have fzR_8 := fzB_ al R_6.1 fzR_5
  clear fzR_5
  have R_9 := R_6.on al
  have H_10 := Box8.make w1 (.int .u8 h0) (.int .u16 h1) (.bool h2) (.int .u8 h3) (.int .u8 17) (.int .u32 h5) (.int .u32 h6) (.string h7) 50
  have B11 := B7.trans (al.mono B7.size)
  clear al
  clear R_6 B7
  obtain ⟨_, h1_0, h1_1, h1_2, h1_3, h1_4, h1_5, h1_6, h1_7⟩ := id H_10
  have al := alO_ B11 (.cells #[.int .u8 17, .int .u32 h5, .int .u16 0, .int .u32 h6, .int .u16 0, .int .i64 2, .int .u8 0, .bool false, .int .u8 h3] 120)
  have fzR_12 := fzB_ al R_9.1 fzR_8
  clear fzR_8
  have R_13 := R_9.on al
  have H_14 := H_10.on al
  have hs_ : (w1.alloc (.cells #[.int .u8 h0, .int .u16 h1, .bool h2, .int .u8 h3, .int .u8 17, .int .u32 h5, .int .u32 h6, .string h7] 50)).heap.size = w1.heap.size + 1 := by simp
  have X_15 := Box9.make (w1.alloc (.cells #[.int .u8 h0, .int .u16 h1, .bool h2, .int .u8 h3, .int .u8 17, .int .u32 h5, .int .u32 h6, .string h7] 50)) (.int .u8 17) (.int .u32 h5) (.int .u16 0) (.int .u32 h6) (.int .u16 0) (.int .i64 2) (.int .u8 0) (.bool false) (.int .u8 h3) 120
  rw [hs_] at X_15
  clear hs_
  have B16 := B11.trans (al.mono B11.size)
  clear al
  clear R_9 H_10 B11
  have fzX_17 : ∀ i, ((w1.alloc (.cells #[.int .u8 h0, .int .u16 h1, .bool h2, .int .u8 h3, .int .u8 17, .int .u32 h5, .int .u32 h6, .string h7] 50)).alloc (.cells #[.int .u8 17, .int .u32 h5, .int .u16 0, .int .u32 h6, .int .u16 0, .int .i64 2, .int .u8 0, .bool false, .int .u8 h3] 120)).frozen? ⟨(w1.heap.size + 1), i, none⟩ = false := by intro i; simp [go_sem]
  obtain ⟨_, h2_0, h2_1, h2_2, h2_3, h2_4, h2_5, h2_6, h2_7⟩ := id H_14
  go_wp2_with fail
  refine (cm _).mono ?_; rintro e w2 ⟨rfl, x2⟩
  have fzR_18 := fzB_ x2 R_13.1 fzR_12
  have fzX_19 := fzB_ x2 X_15.1 fzX_17
  clear fzR_12 fzX_17
  have R_20 := R_13.on x2
  have H_21 := H_14.on x2
  have X_22 := X_15.on x2
  have B23 := B16.trans (x2.mono B16.size)
  clear h1_0 h1_1 h1_2 h1_3 h1_4 h1_5 h1_6 h1_7 h2_0 h2_1 h2_2 h2_3 h2_4 h2_5 h2_6 h2_7 R_13 H_14 X_15 B16 x2
  clear cm
  clear H_21
  have Lt := Lib.hid (show w1.heap.size + 1 < w2.heap.size from X_22.1)
  have al := alO_ B23 (.cells #[.int .u16 g0, .int .u16 g1, .int .u16 g2, .int .u16 g3] 169)
  have fzR_24 := fzB_ al R_20.1 fzR_18
  have fzX_25 := fzB_ al X_22.1 fzX_19
  clear fzR_18 fzX_19
  have R_26 := R_20.on al
  have X_27 := X_22.on al
  have G_28 := Box4.make w2 (.int .u16 g0) (.int .u16 g1) (.int .u16 g2) (.int .u16 g3) 169
  have B29 := B23.trans (al.mono B23.size)
  clear al
  clear R_20 X_22 B23
  obtain ⟨_, x3_0, x3_1, x3_2, x3_3, x3_4, x3_5, x3_6, x3_7, x3_8⟩ := id X_27
  obtain ⟨_, g4_0, g4_1, g4_2, g4_3⟩ := id G_28
  go_wp2_with fail
  clear x3_0 x3_1 x3_2 x3_3 x3_4 x3_5 x3_6 x3_7 x3_8 g4_0 g4_1 g4_2 g4_3
  obtain ⟨u3, hu3⟩ : ∃ x, x = w2.alloc (.cells #[.int .u16 g0, .int .u16 g1, .int .u16 g2, .int .u16 g3] 169) := ⟨_, rfl⟩
  rw [← hu3] at R_26 X_27 G_28 fzR_24 fzX_25 B29 ⊢
  clear hu3
  have ne1_ : ¬ w1.heap.size + 1 = w.heap.size := by have := Le.out; omega
  have ne2_ : ¬ w.heap.size = w1.heap.size + 1 := by omega
  have ne3_ : ¬ w1.heap.size + 1 = w2.heap.size := by have := Lt.out; omega
  have ne4_ : ¬ w2.heap.size = w1.heap.size + 1 := by omega
  obtain ⟨_, x5_0, x5_1, x5_2, x5_3, x5_4, x5_5, x5_6, x5_7, x5_8⟩ := id X_27
  obtain ⟨_, g6_0, g6_1, g6_2, g6_3⟩ := id G_28
  go_region
  clear x5_0 x5_1 x5_2 x5_3 x5_4 x5_5 x5_6 x5_7 x5_8 g6_0 g6_1 g6_2 g6_3
  obtain ⟨_, r7_0, r7_1, r7_2, r7_3, r7_4, r7_5, r7_6, r7_7, r7_8⟩ := id R_26
  obtain ⟨_, x8_0, x8_1, x8_2, x8_3, x8_4, x8_5, x8_6, x8_7, x8_8⟩ := id X_27
  obtain ⟨_, g9_0, g9_1, g9_2, g9_3⟩ := id G_28
  have B30 := ((B29.setCell (p := ⟨(w1.heap.size + 1), 2, none⟩) (by have := Le.out; show w.heap.size ≤ w1.heap.size + 1; omega) (.int .u16 g0)).setCell (p := ⟨(w1.heap.size + 1), 4, none⟩) (by have := Le.out; show w.heap.size ≤ w1.heap.size + 1; omega) (.int .u16 g1)).drew
  have R_31 : Box9 ((u3.setCell ⟨(w1.heap.size + 1), 2, none⟩ (.int .u16 g0)).setCell ⟨(w1.heap.size + 1), 4, none⟩ (.int .u16 g1)).drew w.heap.size (.int .u8 0) (.int .u32 0) (.int .u16 0) (.int .u32 0) (.int .u16 0) (.int .i64 0) (.int .u8 0) (.bool false) (.int .u8 0) := ⟨by have := R_26.1; simpa using this, by simp [go_sem, r7_0, r7_1, r7_2, r7_3, r7_4, r7_5, r7_6, r7_7, r7_8, x8_0, x8_1, x8_2, x8_3, x8_4, x8_5, x8_6, x8_7, x8_8, g9_0, g9_1, g9_2, g9_3]⟩
  have X_32 : Box9 ((u3.setCell ⟨(w1.heap.size + 1), 2, none⟩ (.int .u16 g0)).setCell ⟨(w1.heap.size + 1), 4, none⟩ (.int .u16 g1)).drew (w1.heap.size + 1) (.int .u8 17) (.int .u32 h5) (.int .u16 g0) (.int .u32 h6) (.int .u16 g1) (.int .i64 2) (.int .u8 0) (.bool false) (.int .u8 h3) := ⟨by have := X_27.1; simpa using this, by simp [go_sem, r7_0, r7_1, r7_2, r7_3, r7_4, r7_5, r7_6, r7_7, r7_8, x8_0, x8_1, x8_2, x8_3, x8_4, x8_5, x8_6, x8_7, x8_8, g9_0, g9_1, g9_2, g9_3]⟩
  have G_33 : Box4 ((u3.setCell ⟨(w1.heap.size + 1), 2, none⟩ (.int .u16 g0)).setCell ⟨(w1.heap.size + 1), 4, none⟩ (.int .u16 g1)).drew w2.heap.size (.int .u16 g0) (.int .u16 g1) (.int .u16 g2) (.int .u16 g3) := ⟨by have := G_28.1; simpa using this, by simp [go_sem, r7_0, r7_1, r7_2, r7_3, r7_4, r7_5, r7_6, r7_7, r7_8, x8_0, x8_1, x8_2, x8_3, x8_4, x8_5, x8_6, x8_7, x8_8, g9_0, g9_1, g9_2, g9_3]⟩
  have fzR_34 : ∀ i, ((u3.setCell ⟨(w1.heap.size + 1), 2, none⟩ (.int .u16 g0)).setCell ⟨(w1.heap.size + 1), 4, none⟩ (.int .u16 g1)).drew.frozen? ⟨w.heap.size, i, none⟩ = false := by intro i; simp [fzR_24]
  have fzX_35 : ∀ i, ((u3.setCell ⟨(w1.heap.size + 1), 2, none⟩ (.int .u16 g0)).setCell ⟨(w1.heap.size + 1), 4, none⟩ (.int .u16 g1)).drew.frozen? ⟨(w1.heap.size + 1), i, none⟩ = false := by intro i; simp [fzX_25]
  clear r7_0 r7_1 r7_2 r7_3 r7_4 r7_5 r7_6 r7_7 r7_8 x8_0 x8_1 x8_2 x8_3 x8_4 x8_5 x8_6 x8_7 x8_8 g9_0 g9_1 g9_2 g9_3 R_26 X_27 G_28 fzR_24 fzX_25 B29
  obtain ⟨u4, hu4⟩ : ∃ x, x = ((u3.setCell ⟨(w1.heap.size + 1), 2, none⟩ (.int .u16 g0)).setCell ⟨(w1.heap.size + 1), 4, none⟩ (.int .u16 g1)).drew := ⟨_, rfl⟩
  rw [← hu4] at R_31 X_32 G_33 fzR_34 fzX_35 B30 ⊢
  clear hu4
  obtain ⟨_, x10_0, x10_1, x10_2, x10_3, x10_4, x10_5, x10_6, x10_7, x10_8⟩ := id X_32
  obtain ⟨_, r11_0, r11_1, r11_2, r11_3, r11_4, r11_5, r11_6, r11_7, r11_8⟩ := id R_31
  go_wp2
  refine box9_ (b := w.heap.size) R_31.some B30 (Nat.le_refl _) fun Z y0 y1 y2 y3 y4 y5 y6 y7 y8 BZ _ _ => ?_
  refine bodyPost_ret (v := .tuple #[.agg #[.int .u8 17, .int .u32 h5, .int .u16 g0, .int .u32 h6, .int .u16 g1, .int .i64 2, .int .u8 0, .bool false, .int .u8 h3], .int .i64 0]) (by simp [results, Tryz.results68, go_sem, y0, y1, y2, y3, y4, y5, y6, y7, y8]) rfl ?_
  exact ⟨rfl, BZ⟩
theorem rof8_tcp2 (s L : ByteArray) (h0 h1 h3 h5 h6 : Int) (h2 : Bool) (h7 : ByteArray) (g0 g1 g2 g3 g4 g5 g6 g7 g8 : Int) (g9 P : ByteArray) (cp : Cb_ 69 #[.string s] (.tuple #[.agg #[.int .u8 h0, .int .u16 h1, .bool h2, .int .u8 h3, .int .u8 6, .int .u32 h5, .int .u32 h6, .string h7], .string L, .int .i64 0])) (cm : Cb_ 116 #[.string L] (.tuple #[.agg #[.int .u16 g0, .int .u16 g1, .int .u32 g2, .int .u32 g3, .int .u8 g4, .int .u8 g5, .int .u16 g6, .int .u16 g7, .int .u16 g8, .string g9], .string P, .bool true])) (e2 : (bits .and .u8 g5 23 == 2) = false) (w : World) :
    Cw_ 68 #[.string s] (.tuple #[.agg #[.int .u8 6, .int .u32 h5, .int .u16 g0, .int .u32 h6, .int .u16 g1, .int .i64 2, .int .u8 g5, .bool false, .int .u8 h3], .int .i64 0]) w := by
  go_enter Tryz.func68, Tryz.ntmps68
  have B1 := Below.refl w.heap.size w
  go_wp2_with fail
  have R_2 := Box9.make w (.int .u8 0) (.int .u32 0) (.int .u16 0) (.int .u32 0) (.int .u16 0) (.int .i64 0) (.int .u8 0) (.bool false) (.int .u8 0) 120
  have B3 := B1.alloc B1.size (.cells #[.int .u8 0, .int .u32 0, .int .u16 0, .int .u32 0, .int .u16 0, .int .i64 0, .int .u8 0, .bool false, .int .u8 0] 120)
  clear B1
  have fzR_4 : ∀ i, (w.alloc (.cells #[.int .u8 0, .int .u32 0, .int .u16 0, .int .u32 0, .int .u16 0, .int .i64 0, .int .u8 0, .bool false, .int .u8 0] 120)).frozen? ⟨w.heap.size, i, none⟩ = false := by intro i; simp [go_sem]
  refine (cp _).mono ?_; rintro e w1 ⟨rfl, x1⟩
  have fzR_5 := fzB_ x1 R_2.1 fzR_4
  clear fzR_4
  have R_6 := R_2.on x1
  have B7 := B3.trans (x1.mono B3.size)
  clear R_2 B3 x1
  clear cp
  have Le := Lib.hid (show w.heap.size ≤ w1.heap.size from B7.size)
  have al := alO_ B7 (.cells #[.int .u8 h0, .int .u16 h1, .bool h2, .int .u8 h3, .int .u8 6, .int .u32 h5, .int .u32 h6, .string h7] 50)
  have fzR_8 := fzB_ al R_6.1 fzR_5
  clear fzR_5
  have R_9 := R_6.on al
  have H_10 := Box8.make w1 (.int .u8 h0) (.int .u16 h1) (.bool h2) (.int .u8 h3) (.int .u8 6) (.int .u32 h5) (.int .u32 h6) (.string h7) 50
  have B11 := B7.trans (al.mono B7.size)
  clear al
  clear R_6 B7
  obtain ⟨_, h1_0, h1_1, h1_2, h1_3, h1_4, h1_5, h1_6, h1_7⟩ := id H_10
  have al := alO_ B11 (.cells #[.int .u8 6, .int .u32 h5, .int .u16 0, .int .u32 h6, .int .u16 0, .int .i64 2, .int .u8 0, .bool false, .int .u8 h3] 120)
  have fzR_12 := fzB_ al R_9.1 fzR_8
  clear fzR_8
  have R_13 := R_9.on al
  have H_14 := H_10.on al
  have hs_ : (w1.alloc (.cells #[.int .u8 h0, .int .u16 h1, .bool h2, .int .u8 h3, .int .u8 6, .int .u32 h5, .int .u32 h6, .string h7] 50)).heap.size = w1.heap.size + 1 := by simp
  have X_15 := Box9.make (w1.alloc (.cells #[.int .u8 h0, .int .u16 h1, .bool h2, .int .u8 h3, .int .u8 6, .int .u32 h5, .int .u32 h6, .string h7] 50)) (.int .u8 6) (.int .u32 h5) (.int .u16 0) (.int .u32 h6) (.int .u16 0) (.int .i64 2) (.int .u8 0) (.bool false) (.int .u8 h3) 120
  rw [hs_] at X_15
  clear hs_
  have B16 := B11.trans (al.mono B11.size)
  clear al
  clear R_9 H_10 B11
  have fzX_17 : ∀ i, ((w1.alloc (.cells #[.int .u8 h0, .int .u16 h1, .bool h2, .int .u8 h3, .int .u8 6, .int .u32 h5, .int .u32 h6, .string h7] 50)).alloc (.cells #[.int .u8 6, .int .u32 h5, .int .u16 0, .int .u32 h6, .int .u16 0, .int .i64 2, .int .u8 0, .bool false, .int .u8 h3] 120)).frozen? ⟨(w1.heap.size + 1), i, none⟩ = false := by intro i; simp [go_sem]
  obtain ⟨_, h2_0, h2_1, h2_2, h2_3, h2_4, h2_5, h2_6, h2_7⟩ := id H_14
  go_wp2_with fail
  refine (cm _).mono ?_; rintro e w2 ⟨rfl, x2⟩
  have fzR_18 := fzB_ x2 R_13.1 fzR_12
  have fzX_19 := fzB_ x2 X_15.1 fzX_17
  clear fzR_12 fzX_17
  have R_20 := R_13.on x2
  have H_21 := H_14.on x2
  have X_22 := X_15.on x2
  have B23 := B16.trans (x2.mono B16.size)
  clear h1_0 h1_1 h1_2 h1_3 h1_4 h1_5 h1_6 h1_7 h2_0 h2_1 h2_2 h2_3 h2_4 h2_5 h2_6 h2_7 R_13 H_14 X_15 B16 x2
  clear cm
  clear H_21
  have Lt := Lib.hid (show w1.heap.size + 1 < w2.heap.size from X_22.1)
  have al := alO_ B23 (.cells #[.int .u16 g0, .int .u16 g1, .int .u32 g2, .int .u32 g3, .int .u8 g4, .int .u8 g5, .int .u16 g6, .int .u16 g7, .int .u16 g8, .string g9] 166)
  have fzR_24 := fzB_ al R_20.1 fzR_18
  have fzX_25 := fzB_ al X_22.1 fzX_19
  clear fzR_18 fzX_19
  have R_26 := R_20.on al
  have X_27 := X_22.on al
  have G_28 := Box10.make w2 (.int .u16 g0) (.int .u16 g1) (.int .u32 g2) (.int .u32 g3) (.int .u8 g4) (.int .u8 g5) (.int .u16 g6) (.int .u16 g7) (.int .u16 g8) (.string g9) 166
  have B29 := B23.trans (al.mono B23.size)
  clear al
  clear R_20 X_22 B23
  obtain ⟨_, x3_0, x3_1, x3_2, x3_3, x3_4, x3_5, x3_6, x3_7, x3_8⟩ := id X_27
  obtain ⟨_, g4_0, g4_1, g4_2, g4_3, g4_4, g4_5, g4_6, g4_7, g4_8, g4_9⟩ := id G_28
  go_wp2_with fail
  clear x3_0 x3_1 x3_2 x3_3 x3_4 x3_5 x3_6 x3_7 x3_8 g4_0 g4_1 g4_2 g4_3 g4_4 g4_5 g4_6 g4_7 g4_8 g4_9
  obtain ⟨u3, hu3⟩ : ∃ x, x = w2.alloc (.cells #[.int .u16 g0, .int .u16 g1, .int .u32 g2, .int .u32 g3, .int .u8 g4, .int .u8 g5, .int .u16 g6, .int .u16 g7, .int .u16 g8, .string g9] 166) := ⟨_, rfl⟩
  rw [← hu3] at R_26 X_27 G_28 fzR_24 fzX_25 B29 ⊢
  clear hu3
  have ne1_ : ¬ w1.heap.size + 1 = w.heap.size := by have := Le.out; omega
  have ne2_ : ¬ w.heap.size = w1.heap.size + 1 := by omega
  have ne3_ : ¬ w1.heap.size + 1 = w2.heap.size := by have := Lt.out; omega
  have ne4_ : ¬ w2.heap.size = w1.heap.size + 1 := by omega
  obtain ⟨_, x5_0, x5_1, x5_2, x5_3, x5_4, x5_5, x5_6, x5_7, x5_8⟩ := id X_27
  obtain ⟨_, g6_0, g6_1, g6_2, g6_3, g6_4, g6_5, g6_6, g6_7, g6_8, g6_9⟩ := id G_28
  go_region
  clear x5_0 x5_1 x5_2 x5_3 x5_4 x5_5 x5_6 x5_7 x5_8 g6_0 g6_1 g6_2 g6_3 g6_4 g6_5 g6_6 g6_7 g6_8 g6_9
  obtain ⟨_, r7_0, r7_1, r7_2, r7_3, r7_4, r7_5, r7_6, r7_7, r7_8⟩ := id R_26
  obtain ⟨_, x8_0, x8_1, x8_2, x8_3, x8_4, x8_5, x8_6, x8_7, x8_8⟩ := id X_27
  obtain ⟨_, g9_0, g9_1, g9_2, g9_3, g9_4, g9_5, g9_6, g9_7, g9_8, g9_9⟩ := id G_28
  have B30 := (((B29.setCell (p := ⟨(w1.heap.size + 1), 2, none⟩) (by have := Le.out; show w.heap.size ≤ w1.heap.size + 1; omega) (.int .u16 g0)).setCell (p := ⟨(w1.heap.size + 1), 4, none⟩) (by have := Le.out; show w.heap.size ≤ w1.heap.size + 1; omega) (.int .u16 g1)).setCell (p := ⟨(w1.heap.size + 1), 6, none⟩) (by have := Le.out; show w.heap.size ≤ w1.heap.size + 1; omega) (.int .u8 g5)).drew
  have R_31 : Box9 (((u3.setCell ⟨(w1.heap.size + 1), 2, none⟩ (.int .u16 g0)).setCell ⟨(w1.heap.size + 1), 4, none⟩ (.int .u16 g1)).setCell ⟨(w1.heap.size + 1), 6, none⟩ (.int .u8 g5)).drew w.heap.size (.int .u8 0) (.int .u32 0) (.int .u16 0) (.int .u32 0) (.int .u16 0) (.int .i64 0) (.int .u8 0) (.bool false) (.int .u8 0) := ⟨by have := R_26.1; simpa using this, by simp [go_sem, r7_0, r7_1, r7_2, r7_3, r7_4, r7_5, r7_6, r7_7, r7_8, x8_0, x8_1, x8_2, x8_3, x8_4, x8_5, x8_6, x8_7, x8_8, g9_0, g9_1, g9_2, g9_3, g9_4, g9_5, g9_6, g9_7, g9_8, g9_9]⟩
  have X_32 : Box9 (((u3.setCell ⟨(w1.heap.size + 1), 2, none⟩ (.int .u16 g0)).setCell ⟨(w1.heap.size + 1), 4, none⟩ (.int .u16 g1)).setCell ⟨(w1.heap.size + 1), 6, none⟩ (.int .u8 g5)).drew (w1.heap.size + 1) (.int .u8 6) (.int .u32 h5) (.int .u16 g0) (.int .u32 h6) (.int .u16 g1) (.int .i64 2) (.int .u8 g5) (.bool false) (.int .u8 h3) := ⟨by have := X_27.1; simpa using this, by simp [go_sem, r7_0, r7_1, r7_2, r7_3, r7_4, r7_5, r7_6, r7_7, r7_8, x8_0, x8_1, x8_2, x8_3, x8_4, x8_5, x8_6, x8_7, x8_8, g9_0, g9_1, g9_2, g9_3, g9_4, g9_5, g9_6, g9_7, g9_8, g9_9]⟩
  have G_33 : Box10 (((u3.setCell ⟨(w1.heap.size + 1), 2, none⟩ (.int .u16 g0)).setCell ⟨(w1.heap.size + 1), 4, none⟩ (.int .u16 g1)).setCell ⟨(w1.heap.size + 1), 6, none⟩ (.int .u8 g5)).drew w2.heap.size (.int .u16 g0) (.int .u16 g1) (.int .u32 g2) (.int .u32 g3) (.int .u8 g4) (.int .u8 g5) (.int .u16 g6) (.int .u16 g7) (.int .u16 g8) (.string g9) := ⟨by have := G_28.1; simpa using this, by simp [go_sem, r7_0, r7_1, r7_2, r7_3, r7_4, r7_5, r7_6, r7_7, r7_8, x8_0, x8_1, x8_2, x8_3, x8_4, x8_5, x8_6, x8_7, x8_8, g9_0, g9_1, g9_2, g9_3, g9_4, g9_5, g9_6, g9_7, g9_8, g9_9]⟩
  have fzR_34 : ∀ i, (((u3.setCell ⟨(w1.heap.size + 1), 2, none⟩ (.int .u16 g0)).setCell ⟨(w1.heap.size + 1), 4, none⟩ (.int .u16 g1)).setCell ⟨(w1.heap.size + 1), 6, none⟩ (.int .u8 g5)).drew.frozen? ⟨w.heap.size, i, none⟩ = false := by intro i; simp [fzR_24]
  have fzX_35 : ∀ i, (((u3.setCell ⟨(w1.heap.size + 1), 2, none⟩ (.int .u16 g0)).setCell ⟨(w1.heap.size + 1), 4, none⟩ (.int .u16 g1)).setCell ⟨(w1.heap.size + 1), 6, none⟩ (.int .u8 g5)).drew.frozen? ⟨(w1.heap.size + 1), i, none⟩ = false := by intro i; simp [fzX_25]
  clear r7_0 r7_1 r7_2 r7_3 r7_4 r7_5 r7_6 r7_7 r7_8 x8_0 x8_1 x8_2 x8_3 x8_4 x8_5 x8_6 x8_7 x8_8 g9_0 g9_1 g9_2 g9_3 g9_4 g9_5 g9_6 g9_7 g9_8 g9_9 R_26 X_27 G_28 fzR_24 fzX_25 B29
  obtain ⟨u4, hu4⟩ : ∃ x, x = (((u3.setCell ⟨(w1.heap.size + 1), 2, none⟩ (.int .u16 g0)).setCell ⟨(w1.heap.size + 1), 4, none⟩ (.int .u16 g1)).setCell ⟨(w1.heap.size + 1), 6, none⟩ (.int .u8 g5)).drew := ⟨_, rfl⟩
  rw [← hu4] at R_31 X_32 G_33 fzR_34 fzX_35 B30 ⊢
  clear hu4
  obtain ⟨_, g10_0, g10_1, g10_2, g10_3, g10_4, g10_5, g10_6, g10_7, g10_8, g10_9⟩ := id G_33
  obtain ⟨_, x11_0, x11_1, x11_2, x11_3, x11_4, x11_5, x11_6, x11_7, x11_8⟩ := id X_32
  obtain ⟨_, r12_0, r12_1, r12_2, r12_3, r12_4, r12_5, r12_6, r12_7, r12_8⟩ := id R_31
  go_wp2
  refine box9_ (b := w.heap.size) R_31.some B30 (Nat.le_refl _) fun Z y0 y1 y2 y3 y4 y5 y6 y7 y8 BZ _ _ => ?_
  refine bodyPost_ret (v := .tuple #[.agg #[.int .u8 6, .int .u32 h5, .int .u16 g0, .int .u32 h6, .int .u16 g1, .int .i64 2, .int .u8 g5, .bool false, .int .u8 h3], .int .i64 0]) (by simp [results, Tryz.results68, go_sem, y0, y1, y2, y3, y4, y5, y6, y7, y8]) rfl ?_
  exact ⟨rfl, BZ⟩
theorem rof8_tcp1 (s L : ByteArray) (h0 h1 h3 h5 h6 : Int) (h2 : Bool) (h7 : ByteArray) (g0 g1 g2 g3 g4 g5 g6 g7 g8 : Int) (g9 P : ByteArray) (cp : Cb_ 69 #[.string s] (.tuple #[.agg #[.int .u8 h0, .int .u16 h1, .bool h2, .int .u8 h3, .int .u8 6, .int .u32 h5, .int .u32 h6, .string h7], .string L, .int .i64 0])) (cm : Cb_ 116 #[.string L] (.tuple #[.agg #[.int .u16 g0, .int .u16 g1, .int .u32 g2, .int .u32 g3, .int .u8 g4, .int .u8 g5, .int .u16 g6, .int .u16 g7, .int .u16 g8, .string g9], .string P, .bool true])) (e2 : (bits .and .u8 g5 23 == 2) = true) (w : World) :
    Cw_ 68 #[.string s] (.tuple #[.agg #[.int .u8 6, .int .u32 h5, .int .u16 g0, .int .u32 h6, .int .u16 g1, .int .i64 1, .int .u8 g5, .bool false, .int .u8 h3], .int .i64 0]) w := by
  go_enter Tryz.func68, Tryz.ntmps68
  have B1 := Below.refl w.heap.size w
  go_wp2_with fail
  have R_2 := Box9.make w (.int .u8 0) (.int .u32 0) (.int .u16 0) (.int .u32 0) (.int .u16 0) (.int .i64 0) (.int .u8 0) (.bool false) (.int .u8 0) 120
  have B3 := B1.alloc B1.size (.cells #[.int .u8 0, .int .u32 0, .int .u16 0, .int .u32 0, .int .u16 0, .int .i64 0, .int .u8 0, .bool false, .int .u8 0] 120)
  clear B1
  have fzR_4 : ∀ i, (w.alloc (.cells #[.int .u8 0, .int .u32 0, .int .u16 0, .int .u32 0, .int .u16 0, .int .i64 0, .int .u8 0, .bool false, .int .u8 0] 120)).frozen? ⟨w.heap.size, i, none⟩ = false := by intro i; simp [go_sem]
  refine (cp _).mono ?_; rintro e w1 ⟨rfl, x1⟩
  have fzR_5 := fzB_ x1 R_2.1 fzR_4
  clear fzR_4
  have R_6 := R_2.on x1
  have B7 := B3.trans (x1.mono B3.size)
  clear R_2 B3 x1
  clear cp
  have Le := Lib.hid (show w.heap.size ≤ w1.heap.size from B7.size)
  have al := alO_ B7 (.cells #[.int .u8 h0, .int .u16 h1, .bool h2, .int .u8 h3, .int .u8 6, .int .u32 h5, .int .u32 h6, .string h7] 50)
  have fzR_8 := fzB_ al R_6.1 fzR_5
  clear fzR_5
  have R_9 := R_6.on al
  have H_10 := Box8.make w1 (.int .u8 h0) (.int .u16 h1) (.bool h2) (.int .u8 h3) (.int .u8 6) (.int .u32 h5) (.int .u32 h6) (.string h7) 50
  have B11 := B7.trans (al.mono B7.size)
  clear al
  clear R_6 B7
  obtain ⟨_, h1_0, h1_1, h1_2, h1_3, h1_4, h1_5, h1_6, h1_7⟩ := id H_10
  have al := alO_ B11 (.cells #[.int .u8 6, .int .u32 h5, .int .u16 0, .int .u32 h6, .int .u16 0, .int .i64 2, .int .u8 0, .bool false, .int .u8 h3] 120)
  have fzR_12 := fzB_ al R_9.1 fzR_8
  clear fzR_8
  have R_13 := R_9.on al
  have H_14 := H_10.on al
  have hs_ : (w1.alloc (.cells #[.int .u8 h0, .int .u16 h1, .bool h2, .int .u8 h3, .int .u8 6, .int .u32 h5, .int .u32 h6, .string h7] 50)).heap.size = w1.heap.size + 1 := by simp
  have X_15 := Box9.make (w1.alloc (.cells #[.int .u8 h0, .int .u16 h1, .bool h2, .int .u8 h3, .int .u8 6, .int .u32 h5, .int .u32 h6, .string h7] 50)) (.int .u8 6) (.int .u32 h5) (.int .u16 0) (.int .u32 h6) (.int .u16 0) (.int .i64 2) (.int .u8 0) (.bool false) (.int .u8 h3) 120
  rw [hs_] at X_15
  clear hs_
  have B16 := B11.trans (al.mono B11.size)
  clear al
  clear R_9 H_10 B11
  have fzX_17 : ∀ i, ((w1.alloc (.cells #[.int .u8 h0, .int .u16 h1, .bool h2, .int .u8 h3, .int .u8 6, .int .u32 h5, .int .u32 h6, .string h7] 50)).alloc (.cells #[.int .u8 6, .int .u32 h5, .int .u16 0, .int .u32 h6, .int .u16 0, .int .i64 2, .int .u8 0, .bool false, .int .u8 h3] 120)).frozen? ⟨(w1.heap.size + 1), i, none⟩ = false := by intro i; simp [go_sem]
  obtain ⟨_, h2_0, h2_1, h2_2, h2_3, h2_4, h2_5, h2_6, h2_7⟩ := id H_14
  go_wp2_with fail
  refine (cm _).mono ?_; rintro e w2 ⟨rfl, x2⟩
  have fzR_18 := fzB_ x2 R_13.1 fzR_12
  have fzX_19 := fzB_ x2 X_15.1 fzX_17
  clear fzR_12 fzX_17
  have R_20 := R_13.on x2
  have H_21 := H_14.on x2
  have X_22 := X_15.on x2
  have B23 := B16.trans (x2.mono B16.size)
  clear h1_0 h1_1 h1_2 h1_3 h1_4 h1_5 h1_6 h1_7 h2_0 h2_1 h2_2 h2_3 h2_4 h2_5 h2_6 h2_7 R_13 H_14 X_15 B16 x2
  clear cm
  clear H_21
  have Lt := Lib.hid (show w1.heap.size + 1 < w2.heap.size from X_22.1)
  have al := alO_ B23 (.cells #[.int .u16 g0, .int .u16 g1, .int .u32 g2, .int .u32 g3, .int .u8 g4, .int .u8 g5, .int .u16 g6, .int .u16 g7, .int .u16 g8, .string g9] 166)
  have fzR_24 := fzB_ al R_20.1 fzR_18
  have fzX_25 := fzB_ al X_22.1 fzX_19
  clear fzR_18 fzX_19
  have R_26 := R_20.on al
  have X_27 := X_22.on al
  have G_28 := Box10.make w2 (.int .u16 g0) (.int .u16 g1) (.int .u32 g2) (.int .u32 g3) (.int .u8 g4) (.int .u8 g5) (.int .u16 g6) (.int .u16 g7) (.int .u16 g8) (.string g9) 166
  have B29 := B23.trans (al.mono B23.size)
  clear al
  clear R_20 X_22 B23
  obtain ⟨_, x3_0, x3_1, x3_2, x3_3, x3_4, x3_5, x3_6, x3_7, x3_8⟩ := id X_27
  obtain ⟨_, g4_0, g4_1, g4_2, g4_3, g4_4, g4_5, g4_6, g4_7, g4_8, g4_9⟩ := id G_28
  go_wp2_with fail
  clear x3_0 x3_1 x3_2 x3_3 x3_4 x3_5 x3_6 x3_7 x3_8 g4_0 g4_1 g4_2 g4_3 g4_4 g4_5 g4_6 g4_7 g4_8 g4_9
  obtain ⟨u3, hu3⟩ : ∃ x, x = w2.alloc (.cells #[.int .u16 g0, .int .u16 g1, .int .u32 g2, .int .u32 g3, .int .u8 g4, .int .u8 g5, .int .u16 g6, .int .u16 g7, .int .u16 g8, .string g9] 166) := ⟨_, rfl⟩
  rw [← hu3] at R_26 X_27 G_28 fzR_24 fzX_25 B29 ⊢
  clear hu3
  have ne1_ : ¬ w1.heap.size + 1 = w.heap.size := by have := Le.out; omega
  have ne2_ : ¬ w.heap.size = w1.heap.size + 1 := by omega
  have ne3_ : ¬ w1.heap.size + 1 = w2.heap.size := by have := Lt.out; omega
  have ne4_ : ¬ w2.heap.size = w1.heap.size + 1 := by omega
  obtain ⟨_, x5_0, x5_1, x5_2, x5_3, x5_4, x5_5, x5_6, x5_7, x5_8⟩ := id X_27
  obtain ⟨_, g6_0, g6_1, g6_2, g6_3, g6_4, g6_5, g6_6, g6_7, g6_8, g6_9⟩ := id G_28
  go_region
  clear x5_0 x5_1 x5_2 x5_3 x5_4 x5_5 x5_6 x5_7 x5_8 g6_0 g6_1 g6_2 g6_3 g6_4 g6_5 g6_6 g6_7 g6_8 g6_9
  obtain ⟨_, r7_0, r7_1, r7_2, r7_3, r7_4, r7_5, r7_6, r7_7, r7_8⟩ := id R_26
  obtain ⟨_, x8_0, x8_1, x8_2, x8_3, x8_4, x8_5, x8_6, x8_7, x8_8⟩ := id X_27
  obtain ⟨_, g9_0, g9_1, g9_2, g9_3, g9_4, g9_5, g9_6, g9_7, g9_8, g9_9⟩ := id G_28
  have B30 := (((B29.setCell (p := ⟨(w1.heap.size + 1), 2, none⟩) (by have := Le.out; show w.heap.size ≤ w1.heap.size + 1; omega) (.int .u16 g0)).setCell (p := ⟨(w1.heap.size + 1), 4, none⟩) (by have := Le.out; show w.heap.size ≤ w1.heap.size + 1; omega) (.int .u16 g1)).setCell (p := ⟨(w1.heap.size + 1), 6, none⟩) (by have := Le.out; show w.heap.size ≤ w1.heap.size + 1; omega) (.int .u8 g5)).drew
  have R_31 : Box9 (((u3.setCell ⟨(w1.heap.size + 1), 2, none⟩ (.int .u16 g0)).setCell ⟨(w1.heap.size + 1), 4, none⟩ (.int .u16 g1)).setCell ⟨(w1.heap.size + 1), 6, none⟩ (.int .u8 g5)).drew w.heap.size (.int .u8 0) (.int .u32 0) (.int .u16 0) (.int .u32 0) (.int .u16 0) (.int .i64 0) (.int .u8 0) (.bool false) (.int .u8 0) := ⟨by have := R_26.1; simpa using this, by simp [go_sem, r7_0, r7_1, r7_2, r7_3, r7_4, r7_5, r7_6, r7_7, r7_8, x8_0, x8_1, x8_2, x8_3, x8_4, x8_5, x8_6, x8_7, x8_8, g9_0, g9_1, g9_2, g9_3, g9_4, g9_5, g9_6, g9_7, g9_8, g9_9]⟩
  have X_32 : Box9 (((u3.setCell ⟨(w1.heap.size + 1), 2, none⟩ (.int .u16 g0)).setCell ⟨(w1.heap.size + 1), 4, none⟩ (.int .u16 g1)).setCell ⟨(w1.heap.size + 1), 6, none⟩ (.int .u8 g5)).drew (w1.heap.size + 1) (.int .u8 6) (.int .u32 h5) (.int .u16 g0) (.int .u32 h6) (.int .u16 g1) (.int .i64 2) (.int .u8 g5) (.bool false) (.int .u8 h3) := ⟨by have := X_27.1; simpa using this, by simp [go_sem, r7_0, r7_1, r7_2, r7_3, r7_4, r7_5, r7_6, r7_7, r7_8, x8_0, x8_1, x8_2, x8_3, x8_4, x8_5, x8_6, x8_7, x8_8, g9_0, g9_1, g9_2, g9_3, g9_4, g9_5, g9_6, g9_7, g9_8, g9_9]⟩
  have G_33 : Box10 (((u3.setCell ⟨(w1.heap.size + 1), 2, none⟩ (.int .u16 g0)).setCell ⟨(w1.heap.size + 1), 4, none⟩ (.int .u16 g1)).setCell ⟨(w1.heap.size + 1), 6, none⟩ (.int .u8 g5)).drew w2.heap.size (.int .u16 g0) (.int .u16 g1) (.int .u32 g2) (.int .u32 g3) (.int .u8 g4) (.int .u8 g5) (.int .u16 g6) (.int .u16 g7) (.int .u16 g8) (.string g9) := ⟨by have := G_28.1; simpa using this, by simp [go_sem, r7_0, r7_1, r7_2, r7_3, r7_4, r7_5, r7_6, r7_7, r7_8, x8_0, x8_1, x8_2, x8_3, x8_4, x8_5, x8_6, x8_7, x8_8, g9_0, g9_1, g9_2, g9_3, g9_4, g9_5, g9_6, g9_7, g9_8, g9_9]⟩
  have fzR_34 : ∀ i, (((u3.setCell ⟨(w1.heap.size + 1), 2, none⟩ (.int .u16 g0)).setCell ⟨(w1.heap.size + 1), 4, none⟩ (.int .u16 g1)).setCell ⟨(w1.heap.size + 1), 6, none⟩ (.int .u8 g5)).drew.frozen? ⟨w.heap.size, i, none⟩ = false := by intro i; simp [fzR_24]
  have fzX_35 : ∀ i, (((u3.setCell ⟨(w1.heap.size + 1), 2, none⟩ (.int .u16 g0)).setCell ⟨(w1.heap.size + 1), 4, none⟩ (.int .u16 g1)).setCell ⟨(w1.heap.size + 1), 6, none⟩ (.int .u8 g5)).drew.frozen? ⟨(w1.heap.size + 1), i, none⟩ = false := by intro i; simp [fzX_25]
  clear r7_0 r7_1 r7_2 r7_3 r7_4 r7_5 r7_6 r7_7 r7_8 x8_0 x8_1 x8_2 x8_3 x8_4 x8_5 x8_6 x8_7 x8_8 g9_0 g9_1 g9_2 g9_3 g9_4 g9_5 g9_6 g9_7 g9_8 g9_9 R_26 X_27 G_28 fzR_24 fzX_25 B29
  obtain ⟨u4, hu4⟩ : ∃ x, x = (((u3.setCell ⟨(w1.heap.size + 1), 2, none⟩ (.int .u16 g0)).setCell ⟨(w1.heap.size + 1), 4, none⟩ (.int .u16 g1)).setCell ⟨(w1.heap.size + 1), 6, none⟩ (.int .u8 g5)).drew := ⟨_, rfl⟩
  rw [← hu4] at R_31 X_32 G_33 fzR_34 fzX_35 B30 ⊢
  clear hu4
  obtain ⟨_, g10_0, g10_1, g10_2, g10_3, g10_4, g10_5, g10_6, g10_7, g10_8, g10_9⟩ := id G_33
  obtain ⟨_, x11_0, x11_1, x11_2, x11_3, x11_4, x11_5, x11_6, x11_7, x11_8⟩ := id X_32
  obtain ⟨_, r12_0, r12_1, r12_2, r12_3, r12_4, r12_5, r12_6, r12_7, r12_8⟩ := id R_31
  go_wp2
  refine box9_ (b := w.heap.size) (W := (u4.setCell ⟨w1.heap.size + 1, 5, none⟩ (.int .i64 1))) (fun j hj => ?_) (B30.setCell (p := ⟨w1.heap.size + 1, 5, none⟩) (by have := Le.out; show w.heap.size ≤ w1.heap.size + 1; omega) (.int .i64 1)) (Nat.le_refl _) fun Z y0 y1 y2 y3 y4 y5 y6 y7 y8 BZ _ _ => ?_
  · match j, hj with
    | 0, _ => simp [go_sem, r12_0]
    | 1, _ => simp [go_sem, r12_1]
    | 2, _ => simp [go_sem, r12_2]
    | 3, _ => simp [go_sem, r12_3]
    | 4, _ => simp [go_sem, r12_4]
    | 5, _ => simp [go_sem, r12_5]
    | 6, _ => simp [go_sem, r12_6]
    | 7, _ => simp [go_sem, r12_7]
    | 8, _ => simp [go_sem, r12_8]
  refine bodyPost_ret (v := .tuple #[.agg #[.int .u8 6, .int .u32 h5, .int .u16 g0, .int .u32 h6, .int .u16 g1, .int .i64 1, .int .u8 g5, .bool false, .int .u8 h3], .int .i64 0]) (by simp [results, Tryz.results68, go_sem, y0, y1, y2, y3, y4, y5, y6, y7, y8]) rfl ?_
  exact ⟨rfl, BZ⟩
end Go.Proofs.YtbpicngbjggblaaGreatDoor
namespace Go.Proofs.YtbpicngbjggblaaGreatDoor
set_option maxHeartbeats 4000000
set_option maxRecDepth 100000
set_option linter.unusedVariables false
set_option linter.unusedSimpArgs false
open Go.ChangeShapes Go.WideShapes Go.ChangeAt Go.RowKit Go.PlainAid
theorem rof8_ (s : ByteArray) (w : World) (hs : s.size ≤ 1000000) :
    Cw_ 68 #[.string s] (.tuple #[.agg #[.int .u8 (sI s (bt s 9)), .int .u32 (sI s (g32 s 12)), .int .u16 (sI s (oM (bt s 9) (pP s))), .int .u32 (sI s (g32 s 16)), .int .u16 (sI s (oN (bt s 9) (pP s))), .int .i64 (sI s (oK (bt s 9) (pP s))), .int .u8 (sI s (oF (bt s 9) (pP s))), .bool (sB s (oA (bt s 9) (pP s))), .int .u8 (sI s (bt s 8))], .int .i64 (seenR s)]) w := by
  have cp := fun u => rparse4_ s u (by unfold maxLen; omega)
  by_cases hr : pR s = 0
  rotate_left
  · have hR : seenR s = pR s := by unfold seenR; rw [if_neg hr]
    obtain ⟨n1, n2⟩ := s_no (s := s) (by rw [hR]; exact hr)
    rw [n1, n1, n1, n1, n1, n1, n1, n1, n2, hR]
    obtain ⟨y1, y2, y3, y4⟩ := p_no hr
    rw [y1, y1, y1, y1, y1, y1, y2, y3, y4] at cp
    have e1 : (pR s != 0) = true := by simpa using hr
    exact rof8_refused s ⟨#[]⟩ 0 0 0 0 0 false ⟨#[]⟩ (pR s) e1 cp w
  have hR : seenR s = oR (bt s 9) (pP s) := by unfold seenR; rw [if_pos hr]
  have y4 := p_yes hr
  obtain ⟨y1, y2, y3, y4⟩ := y4
  rw [y1, y1, y1, y1, y1, y1, hr] at cp
  have hL : (pP s).size ≤ 1000000 := by rw [y4, ByteArray.size_extract]; omega
  have z : (∀ v, sI s v = if oR (bt s 9) (pP s) = 0 then v else 0) ∧ (∀ v, sB s v = if oR (bt s 9) (pP s) = 0 then v else false) := ⟨fun v => by unfold sI; rw [hR], fun v => by unfold sB; rw [hR]⟩
  obtain ⟨z1, z2⟩ := z
  rw [z1, z1, z1, z1, z1, z1, z1, z1, z2, hR]
  generalize bt s 1 = h0 at *
  generalize g16 s 4 = h1 at *
  generalize pF s = h2 at *
  generalize bt s 8 = h3 at *
  generalize bt s 9 = pr at *
  generalize g32 s 12 = h5 at *
  generalize g32 s 16 = h6 at *
  generalize pO s = h7 at *
  generalize pP s = L at *
  clear z1 z2 hR hr y1 y2 y3 y4
  by_cases h_6 : pr = 6
  · subst h_6
    have cm := fun u => rparse6_ L u hL
    by_cases hk : tOk L = true
    · have o1 : oR 6 L = 0 := by unfold oR; rw [if_pos rfl, if_pos hk]
      have o2 : oM 6 L = g16 L 0 := by unfold oM; rw [if_neg (by decide)]
      have o3 : oN 6 L = g16 L 2 := by unfold oN; rw [if_neg (by decide)]
      have o5 : oF 6 L = bt L 13 := by unfold oF; rw [if_pos rfl]
      have o6 : oA 6 L = false := by unfold oA; simp
      obtain ⟨_, _, _, y1, y2, y3⟩ := tOk_yes hk
      rw [y1, y1, y1, y1, y1, y1, y1, y1, y1, hk] at cm
      by_cases hb : bits .and .u8 (bt L 13) 23 = 2
      · have o4 : oK 6 L = 1 := by unfold oK; rw [if_neg (by decide), if_pos ⟨rfl, hb⟩]
        rw [o1, o2, o3, o4, o5, o6]
        simp only [if_true]
        exact rof8_tcp1 s L h0 h1 h3 h5 h6 h2 h7 _ _ _ _ _ _ _ _ _ _ _ cp cm (by rw [hb]; rfl) w
      · have o4 : oK 6 L = 2 := by unfold oK; rw [if_neg (by decide), if_neg (fun h => hb h.2)]
        rw [o1, o2, o3, o4, o5, o6]
        simp only [if_true]
        exact rof8_tcp2 s L h0 h1 h3 h5 h6 h2 h7 _ _ _ _ _ _ _ _ _ _ _ cp cm (by simpa using hb) w
    · have hk2 : tOk L = false := by simpa using hk
      rw [show oR 6 L = 7 by unfold oR; rw [if_pos rfl, if_neg hk]]
      simp only [show ¬ (7 : Int) = 0 by omega, if_false]
      obtain ⟨y1, y2, y3⟩ := tOk_no hk2
      rw [y1, y1, y1, y1, y1, y1, y1, y1, y1, y2, y3, hk2] at cm
      exact rof8_bad6 s L h0 h1 h3 h5 h6 h2 h7 cp cm w
  by_cases h_17 : pr = 17
  · subst h_17
    have cm := fun u => rparse5_ L u hL
    by_cases hk : uOk L = true
    · have o1 : oR 17 L = 0 := by unfold oR; rw [if_neg (by decide), if_pos rfl, if_pos hk]
      have o2 : oM 17 L = g16 L 0 := by unfold oM; rw [if_neg (by decide)]
      have o3 : oN 17 L = g16 L 2 := by unfold oN; rw [if_neg (by decide)]
      have o4 : oK 17 L = 2 := by unfold oK; rw [if_neg (by decide), if_neg (fun h => absurd h.1 (by decide))]
      have o5 : oF 17 L = 0 := by unfold oF; rw [if_neg (by decide)]
      have o6 : oA 17 L = false := by unfold oA; simp
      obtain ⟨_, _, y1, y2⟩ := uOk_yes hk
      rw [y1, y1, y1, y1, hk] at cm
      rw [o1, o2, o3, o4, o5, o6]
      simp only [if_true]
      exact rof8_udp s L h0 h1 h3 h5 h6 h2 h7 _ _ _ _ _ cp cm w
    · have hk2 : uOk L = false := by simpa using hk
      rw [show oR 17 L = 7 by unfold oR; rw [if_neg (by decide), if_pos rfl, if_neg hk]]
      simp only [show ¬ (7 : Int) = 0 by omega, if_false]
      obtain ⟨y1, y2⟩ := uOk_no hk2
      rw [y1, y1, y1, y1, y2, hk2] at cm
      exact rof8_bad17 s L h0 h1 h3 h5 h6 h2 h7 cp cm w
  by_cases h_1 : pr = 1
  rotate_left
  · have e6 : (pr == 6) = false := by simpa using h_6
    have e17 : (pr == 17) = false := by simpa using h_17
    have e1 : (pr == 1) = false := by simpa using h_1
    rw [show oR pr L = 6 by unfold oR; rw [if_neg h_6, if_neg h_17, if_neg h_1]]
    simp only [show ¬ (6 : Int) = 0 by omega, if_false]
    exact rof8_none s L h0 h1 h3 h5 h6 h2 h7 pr e6 e17 e1 cp w
  subst h_1
  have cm := fun u => rparse7_ L u hL
  by_cases hk : mOk L = true
  rotate_left
  · have hk2 : mOk L = false := by simpa using hk
    rw [show oR 1 L = 7 by unfold oR; rw [if_neg (by omega), if_neg (by omega), if_pos rfl, if_neg hk]]
    simp only [show ¬ (7 : Int) = 0 by omega, if_false]
    obtain ⟨y1, y2, y3⟩ := mOk_no hk2
    rw [y1, y1, y1, y2, y3, hk2] at cm
    exact rof8_bad1 s L h0 h1 h3 h5 h6 h2 h7 cp cm w
  obtain ⟨_, y1, y2, y3⟩ := mOk_yes hk
  have cq := fun u => rquery7_ (bt L 0) (bt L 1) (g16 L 2) (mR L) (mD L) u (bt_nonneg L 0) (bt_le L 0) (bt_nonneg L 1) (bt_le L 1)
  have ce := fun u => rerror7_ (bt L 0) (bt L 1) (g16 L 2) (mR L) (mD L) u (bt_nonneg L 0) (bt_le L 0)
  have hz : (mR L).size ≤ 1000000 := by rw [y2, ByteArray.size_extract]; omega
  have ci := fun u => rid7_ (bt L 0) (bt L 1) (g16 L 2) (mR L) (mD L) u hz
  have hsub := @q_sub (bt L 0) (bt L 1)
  rw [y1, y1, y1, hk] at cm
  have o1 : oR 1 L = if (qIs (bt L 0) (bt L 1) || erM (bt L 0)) = true then 0 else 6 := by unfold oR; rw [if_neg (by omega), if_neg (by omega), if_pos rfl, if_pos hk]
  have o2 : oM 1 L = if qAsk (bt L 0) (bt L 1) = true then idM (mR L) else 0 := by unfold oM; rw [if_pos rfl]
  have o3 : oN 1 L = if (qIs (bt L 0) (bt L 1) && !qAsk (bt L 0) (bt L 1)) = true then idM (mR L) else 0 := by unfold oN; rw [if_pos rfl]
  have o4 : oK 1 L = if qIs (bt L 0) (bt L 1) = true then 2 else 3 := by unfold oK; rw [if_pos rfl]
  have o5 : oF 1 L = 0 := by unfold oF; rw [if_neg (by omega)]
  have o6 : oA 1 L = qAsk (bt L 0) (bt L 1) := by unfold oA; simp
  rw [o1, o2, o3, o4, o5, o6]
  clear o1 o2 o3 o4 o5 o6
  generalize qAsk (bt L 0) (bt L 1) = qa at *
  generalize qIs (bt L 0) (bt L 1) = qi at *
  generalize erM (bt L 0) = em at *
  generalize idM (mR L) = j at *
  cases qi
  · have hqa : qa = false := by cases qa; rfl; exact absurd (hsub rfl) (by decide)
    subst hqa
    cases em
    · simp only [Bool.or_false, Bool.false_eq_true, if_false, show ¬ (6 : Int) = 0 by omega]
      exact rof8_odd s L h0 h1 h3 h5 h6 h2 h7 _ _ _ _ _ cp cm cq ce w
    · simp only [Bool.or_true, Bool.false_and, Bool.false_eq_true, if_true, if_false]
      exact rof8_err s L h0 h1 h3 h5 h6 h2 h7 _ _ _ _ _ cp cm cq ce w
  · cases qa
    · simp only [Bool.true_or, Bool.not_false, Bool.and_self, Bool.false_eq_true, if_true, if_false]
      exact rof8_told s L h0 h1 h3 h5 h6 h2 h7 _ _ _ _ _ cp cm cq j ci w
    · simp only [Bool.true_or, Bool.not_true, Bool.and_false, Bool.false_eq_true, if_true, if_false]
      exact rof8_ask s L h0 h1 h3 h5 h6 h2 h7 _ _ _ _ _ cp cm cq j ci w
end Go.Proofs.YtbpicngbjggblaaGreatDoor
