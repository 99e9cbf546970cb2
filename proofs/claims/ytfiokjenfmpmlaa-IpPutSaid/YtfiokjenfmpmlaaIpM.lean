/- Contract of porterlaw04.headed: the chapter's examples. -/
import Derived.Test.YtfiokjenfmpmlaaIpL
import Derived.Deep.RegionHeld3
namespace Go.Proofs.Ytfiokjenfmpmlaa
set_option linter.unusedVariables false
set_option linter.unusedSimpArgs false
open Go.ChangeShapes Go.WideShapes Go.ChangeAt Go.RowKit Go.PlainAid
attribute [local go_sem ↓] Go.wp_at_zero Go.wp_at_succ
set_option maxHeartbeats 4000000 in
set_option maxRecDepth 100000 in
theorem headed_ (w : World) :
    Calls Try.prog 8 #[] w fun e w' => e = .returned (.bool true) ∧ Below w.heap.size w w' := by
  obtain ⟨R, zR, hR⟩ := IpLaid.cr
  obtain ⟨s, hs⟩ : ∃ s, s = IpLaid.S0 := ⟨_, rfl⟩
  have zs : s.size = 20 := by rw [hs]; rfl
  have q1 : ∀ u, _ := fun u => IpLaid.c1 u
  have q2 := fun u => IpLaid.c2 u
  have q3 := fun u => IpLaid.none_ (r := 1) (by omega) IpLaid.c3 (by decide) u
  have q4 := fun u => IpLaid.none_ (r := 2) (by omega) IpLaid.c4 (by decide) u
  have q5 := fun u => IpLaid.none_ (r := 3) (by omega) IpLaid.c5 (by decide) u
  have q6 := fun u => IpLaid.none_ (r := 4) (by omega) IpLaid.c6 (by decide) u
  have e1 : (s.toList == [69, 0, 0, 20, 0, 0, 0, 0, 64, 17, 108, 211, 10, 0, 0, 1, 1, 2, 3, 4]) = true := by rw [hs, Lib.toList_data]; rfl
  rw [← hs] at q1 q2 q3 q4 q5 q6
  clear hs
  go_enter Try.func8, Try.ntmps8
  go_wp2_with fail
  have A0 := Box8.make w (.int .u8 0) (.int .u16 0) (.bool false) (.int .u8 64) (.int .u8 17) (.int .u32 167772161) (.int .u32 16909060) (.string ⟨#[]⟩) 27
  refine (q1 _).mono ?_; rintro e w1 ⟨rfl, b1⟩
  have A1 := A0.on b1
  have B1 : Below w.heap.size w w1 := ((Below.refl _ _).alloc (Nat.le_refl _) _).trans (b1.mono (by simp))
  clear A0 b1 q1
  go_wp2_with fail
  refine (q2 _).mono ?_; rintro e w2 ⟨rfl, b2⟩
  have A2 := A1.on b2
  have B2 := B1.trans (b2.mono B1.size)
  clear A1 B1 b2 q2
  go_wp2_with fail
  have X3 := Box8.make w2 (.int .u8 0) (.int .u16 0) (.bool false) (.int .u8 64) (.int .u8 17) (.int .u32 167772161) (.int .u32 16909060) (.string ⟨#[]⟩) 27
  have A3 := A2.past (o := .cells #[.int .u8 0, .int .u16 0, .bool false, .int .u8 64, .int .u8 17, .int .u32 167772161, .int .u32 16909060, .string ⟨#[]⟩] 27)
  have B3 := B2.alloc B2.size (.cells #[.int .u8 0, .int .u16 0, .bool false, .int .u8 64, .int .u8 17, .int .u32 167772161, .int .u32 16909060, .string ⟨#[]⟩] 27)
  clear A2 B2
  refine (q3 _).mono ?_; rintro e w3 ⟨rfl, b3⟩
  have A4 := A3.on b3
  have X4 := X3.on b3
  have B4 := B3.trans (b3.mono B3.size)
  clear A3 X3 B3 b3 q3
  go_wp2_with fail
  have A5 := A4.past (o := .cells #[.int .u8 0, .int .u16 0, .bool false, .int .u8 0, .int .u8 0, .int .u32 0, .int .u32 0, .string ⟨#[]⟩] 27)
  have X5 := X4.past (o := .cells #[.int .u8 0, .int .u16 0, .bool false, .int .u8 0, .int .u8 0, .int .u32 0, .int .u32 0, .string ⟨#[]⟩] 27)
  have B5 := B4.alloc B4.size (.cells #[.int .u8 0, .int .u16 0, .bool false, .int .u8 0, .int .u8 0, .int .u32 0, .int .u32 0, .string ⟨#[]⟩] 27)
  clear A4 X4 B4
  refine (q4 _).mono ?_; rintro e w4 ⟨rfl, b4⟩
  have A6 := A5.on b4
  have X6 := X5.on b4
  have B6 := B5.trans (b4.mono B5.size)
  clear A5 X5 B5 b4 q4
  go_wp2_with fail
  have A7 := A6.past (o := .cells #[.int .u8 0, .int .u16 0, .bool false, .int .u8 0, .int .u8 0, .int .u32 0, .int .u32 0, .string ⟨#[]⟩] 27)
  have X7 := X6.past (o := .cells #[.int .u8 0, .int .u16 0, .bool false, .int .u8 0, .int .u8 0, .int .u32 0, .int .u32 0, .string ⟨#[]⟩] 27)
  have B7 := B6.alloc B6.size (.cells #[.int .u8 0, .int .u16 0, .bool false, .int .u8 0, .int .u8 0, .int .u32 0, .int .u32 0, .string ⟨#[]⟩] 27)
  clear A6 X6 B6
  refine (q5 _).mono ?_; rintro e w5 ⟨rfl, b5⟩
  have A8 := A7.on b5
  have X8 := X7.on b5
  have B8 := B7.trans (b5.mono B7.size)
  clear A7 X7 B7 b5 q5
  go_wp2_with fail
  have A9 := A8.past (o := (.cells #[.int .u8 0, .int .u16 0, .bool false, .int .u8 0, .int .u8 0, .int .u32 0, .int .u32 0, .string ⟨#[]⟩] 27))
  have X9 := X8.past (o := (.cells #[.int .u8 0, .int .u16 0, .bool false, .int .u8 0, .int .u8 0, .int .u32 0, .int .u32 0, .string ⟨#[]⟩] 27))
  have B9 := B8.alloc B8.size (.cells #[.int .u8 0, .int .u16 0, .bool false, .int .u8 0, .int .u8 0, .int .u32 0, .int .u32 0, .string ⟨#[]⟩] 27)
  clear A8 X8 B8
  obtain ⟨v5, hv5⟩ : ∃ v, v = w5.alloc (.cells #[.int .u8 0, .int .u16 0, .bool false, .int .u8 0, .int .u8 0, .int .u32 0, .int .u32 0, .string ⟨#[]⟩] 27) := ⟨_, rfl⟩
  rw [← hv5] at A9 X9 B9 ⊢
  clear hv5
  have k1 : ¬ 9223372036854775807 < (s.extract 0 8).size + 1 := by rw [size_extract' s 0 8 (by omega) (by omega)]; omega
  have k2 : ¬ 9223372036854775807 < (s.extract 0 8).size + 1 + (s.extract 9 20).size := by rw [size_extract' s 0 8 (by omega) (by omega), size_extract' s 9 20 (by omega) (by omega)]; omega
  go_region_held3 (fun w' => True) (trivial)
    ((first
      | (go_at_call 9
         refine (q6 _).mono ?_
         rintro e w6 ⟨rfl, b6⟩
         first
           | (have z : Box8 w6 v5.heap.size (.int .u8 0) (.int .u16 0) (.bool false) (.int .u8 0) (.int .u8 0) (.int .u32 0) (.int .u32 0) (.string ⟨#[]⟩) := (Box8.make v5.drew (.int .u8 0) (.int .u16 0) (.bool false) (.int .u8 0) (.int .u8 0) (.int .u32 0) (.int .u32 0) (.string ⟨#[]⟩) 27).on b6
              obtain ⟨c, c0, c1, c2, c3, c4, c5, c6, c7⟩ := z
              have fz : ∀ j, w6.frozen? ⟨v5.heap.size, j, none⟩ = false := fun j => by
                rw [b6.frozen (p := ⟨_, j, none⟩) (by simp)]
                simp [go_sem])
           | skip)))
  · have b := ((Below.refl v5.heap.size v5).drew).trans b6
    have A10 := (A9.on b).past (o := (.cells #[.int .u8 0, .int .u16 0, .bool false, .int .u8 0, .int .u8 0, .int .u32 0, .int .u32 0, .string ⟨#[]⟩] 27))
    have X10 := (X9.on b).past (o := (.cells #[.int .u8 0, .int .u16 0, .bool false, .int .u8 0, .int .u8 0, .int .u32 0, .int .u32 0, .string ⟨#[]⟩] 27))
    have B10 := (B9.trans (b.mono B9.size)).alloc (B9.trans (b.mono B9.size)).size (.cells #[.int .u8 0, .int .u16 0, .bool false, .int .u8 0, .int .u8 0, .int .u32 0, .int .u32 0, .string ⟨#[]⟩] 27)
    clear b b6 A9 X9 B9
    obtain ⟨v7, hv7⟩ : ∃ v, v = w6.alloc (.cells #[.int .u8 0, .int .u16 0, .bool false, .int .u8 0, .int .u8 0, .int .u32 0, .int .u32 0, .string ⟨#[]⟩] 27) := ⟨_, rfl⟩
    rw [← hv7] at A10 X10 B10 ⊢
    clear hv7 k1 k2 zs e1
    go_wp2_with fail
    refine (IpLaid.c7 _).mono ?_; rintro e w7 ⟨rfl, b7⟩
    have A11 := A10.on b7
    have X11 := X10.on b7
    have B11 := B10.trans (b7.mono B10.size)
    clear A10 X10 B10 b7
    go_wp2_with fail
    obtain ⟨_, f0, f1, f2, f3, f4, f5, f6, f7⟩ := id A11
    have a11 := A11.1
    have d0 : ∀ q : Later w7.heap.size w7, q.u.cell? ⟨w.heap.size, 0, none⟩ = some (.int .u8 0) := fun q => q.block a11 f0
    have d1 : ∀ q : Later w7.heap.size w7, q.u.cell? ⟨w.heap.size, 1, none⟩ = some (.int .u16 0) := fun q => q.block a11 f1
    have d2 : ∀ q : Later w7.heap.size w7, q.u.cell? ⟨w.heap.size, 2, none⟩ = some (.bool false) := fun q => q.block a11 f2
    have d3 : ∀ q : Later w7.heap.size w7, q.u.cell? ⟨w.heap.size, 3, none⟩ = some (.int .u8 64) := fun q => q.block a11 f3
    have d4 : ∀ q : Later w7.heap.size w7, q.u.cell? ⟨w.heap.size, 4, none⟩ = some (.int .u8 17) := fun q => q.block a11 f4
    have d5 : ∀ q : Later w7.heap.size w7, q.u.cell? ⟨w.heap.size, 5, none⟩ = some (.int .u32 167772161) := fun q => q.block a11 f5
    have d6 : ∀ q : Later w7.heap.size w7, q.u.cell? ⟨w.heap.size, 6, none⟩ = some (.int .u32 16909060) := fun q => q.block a11 f6
    have d7 : ∀ q : Later w7.heap.size w7, q.u.cell? ⟨w.heap.size, 7, none⟩ = some (.string ⟨#[]⟩) := fun q => q.block a11 f7
    clear f0 f1 f2 f3 f4 f5 f6 f7
    refine region_later (B := w7.heap.size) (by kernel_rfl) (by kernel_rfl) ?_
    repeat (go_big_quiet_step (first
      | (go_at_call 14; exact later_of _ (Nat.le_refl _) (hR _))
      | (go_at_call 11; exact later_of _ (Nat.le_refl _) (IpLaid.c8 R zR _))))
    refine later_end fun w8 b8 => ?_
    clear d0 d1 d2 d3 d4 d5 d6 d7
    have B12 := B11.trans (b8.mono B11.size)
    obtain ⟨_, f0, f1, f2, f3, f4, f5, f6, f7⟩ := A11.on b8
    obtain ⟨_, g0, g1, g2, g3, g4, g5, g6, g7⟩ := X11.on b8
    clear A11 X11 B11 b8 hR zR
    go_wp2
    go_ret
    exact ⟨rfl, B12⟩
  · have b := (((Below.refl v5.heap.size v5).drew).alloc (Nat.le_refl _) (.cells #[.int .u8 0, .int .u16 0, .bool false, .int .u8 0, .int .u8 0, .int .u32 0, .int .u32 0, .string ⟨#[]⟩] 27)).trans (b6.mono (by simp))
    have A := A9.on b
    have X := X9.on b
    have B := B9.trans (b.mono B9.size)
    have s5 := B9.size
    have a5 := A9.1
    have x5 := X9.1
    refine box8_ (b := v5.heap.size) (Box8.some ⟨c, c0, c1, c2, c3, c4, c5, c6, c7⟩) B s5 fun v7 _ _ _ _ _ _ _ _ B10 far => ?_
    have A10 := A.far far (by omega)
    have X10 := X.far far (by omega)
    clear far A X B A9 X9 B9 b b6 c c0 c1 c2 c3 c4 c5 c6 c7 fz k1 k2 zs e1
    go_wp2_with fail
    refine (IpLaid.c7 _).mono ?_; rintro e w7 ⟨rfl, b7⟩
    have A11 := A10.on b7
    have X11 := X10.on b7
    have B11 := B10.trans (b7.mono B10.size)
    clear A10 X10 B10 b7
    go_wp2_with fail
    obtain ⟨_, f0, f1, f2, f3, f4, f5, f6, f7⟩ := id A11
    have a11 := A11.1
    have d0 : ∀ q : Later w7.heap.size w7, q.u.cell? ⟨w.heap.size, 0, none⟩ = some (.int .u8 0) := fun q => q.block a11 f0
    have d1 : ∀ q : Later w7.heap.size w7, q.u.cell? ⟨w.heap.size, 1, none⟩ = some (.int .u16 0) := fun q => q.block a11 f1
    have d2 : ∀ q : Later w7.heap.size w7, q.u.cell? ⟨w.heap.size, 2, none⟩ = some (.bool false) := fun q => q.block a11 f2
    have d3 : ∀ q : Later w7.heap.size w7, q.u.cell? ⟨w.heap.size, 3, none⟩ = some (.int .u8 64) := fun q => q.block a11 f3
    have d4 : ∀ q : Later w7.heap.size w7, q.u.cell? ⟨w.heap.size, 4, none⟩ = some (.int .u8 17) := fun q => q.block a11 f4
    have d5 : ∀ q : Later w7.heap.size w7, q.u.cell? ⟨w.heap.size, 5, none⟩ = some (.int .u32 167772161) := fun q => q.block a11 f5
    have d6 : ∀ q : Later w7.heap.size w7, q.u.cell? ⟨w.heap.size, 6, none⟩ = some (.int .u32 16909060) := fun q => q.block a11 f6
    have d7 : ∀ q : Later w7.heap.size w7, q.u.cell? ⟨w.heap.size, 7, none⟩ = some (.string ⟨#[]⟩) := fun q => q.block a11 f7
    clear f0 f1 f2 f3 f4 f5 f6 f7
    refine region_later (B := w7.heap.size) (by kernel_rfl) (by kernel_rfl) ?_
    repeat (go_big_quiet_step (first
      | (go_at_call 14; exact later_of _ (Nat.le_refl _) (hR _))
      | (go_at_call 11; exact later_of _ (Nat.le_refl _) (IpLaid.c8 R zR _))))
    refine later_end fun w8 b8 => ?_
    clear d0 d1 d2 d3 d4 d5 d6 d7
    have B12 := B11.trans (b8.mono B11.size)
    obtain ⟨_, f0, f1, f2, f3, f4, f5, f6, f7⟩ := A11.on b8
    obtain ⟨_, g0, g1, g2, g3, g4, g5, g6, g7⟩ := X11.on b8
    clear A11 X11 B11 b8 hR zR
    go_wp2
    go_ret
    exact ⟨rfl, B12⟩
end Go.Proofs.Ytfiokjenfmpmlaa
