/- The chapter's examples of layer 13 (the law's 'slotted'), over what is asked of the slab. Written by gen_slotted.py. -/
import Derived.Test.YtlnbjpabcldmnaaSlaK
import Derived.Test.YtlnbjpabcldmnaaRegion
import Derived.BigRegion
namespace Go.Proofs.Ytlnbjpabcldmnaa
set_option linter.unusedVariables false
set_option linter.unusedSimpArgs false
open Go.ChangeShapes Go.WideShapes Go.ChangeAt Go.RowKit Go.PlainAid
attribute [local go_sem ↓] Go.wp_at_zero Go.wp_at_succ
theorem SlabOk.ex1 (K : SlabOk) (q : Nat) (u : World) (h : K.Rep u q [(0, 1), (0, 1)]) : Calls Try.prog 10 #[.pointer (some ⟨q, 0, none⟩)] u fun e w' => e = .returned (.tuple #[.agg #[.int .i64 0, .int .u32 1], .int .i64 0]) ∧ K.Rep w' q [(1, 1), (0, 1)] ∧ Beside (fun k => k = q) u w' := K.takes q [(0, 1), (0, 1)] u h
theorem SlabOk.ex2 (K : SlabOk) (q : Nat) (u : World) (h : K.Rep u q [(1, 1), (0, 1)]) : Calls Try.prog 10 #[.pointer (some ⟨q, 0, none⟩)] u fun e w' => e = .returned (.tuple #[.agg #[.int .i64 1, .int .u32 1], .int .i64 0]) ∧ K.Rep w' q [(1, 1), (1, 1)] ∧ Beside (fun k => k = q) u w' := K.takes q [(1, 1), (0, 1)] u h
theorem SlabOk.ex3 (K : SlabOk) (q : Nat) (u : World) (h : K.Rep u q [(1, 1), (1, 1)]) : Calls Try.prog 10 #[.pointer (some ⟨q, 0, none⟩)] u fun e w' => e = .returned (.tuple #[.agg #[.int .i64 0, .int .u32 0], .int .i64 8]) ∧ K.Rep w' q [(1, 1), (1, 1)] ∧ Beside (fun k => k = q) u w' := K.takes q [(1, 1), (1, 1)] u h
theorem SlabOk.ex4 (K : SlabOk) (q : Nat) (u : World) (h : K.Rep u q [(1, 1), (1, 1)]) : Calls Try.prog 14 #[.pointer (some ⟨q, 0, none⟩), .agg #[.int .i64 0, .int .u32 1]] u fun e w' => e = .returned (.int .i64 0) ∧ K.Rep w' q [(2, 2), (1, 1)] ∧ Beside (fun k => k = q) u w' := K.retires q [(1, 1), (1, 1)] 0 1 u h (by omega)
theorem SlabOk.ex5 (K : SlabOk) (q : Nat) (u : World) (h : K.Rep u q [(2, 2), (1, 1)]) : Calls Try.prog 22 #[.pointer (some ⟨q, 0, none⟩), .agg #[.int .i64 0, .int .u32 1]] u fun e w' => e = .returned (.bool false) ∧ Below u.heap.size u w' := K.lives q [(2, 2), (1, 1)] 0 1 u h (by omega)
theorem SlabOk.ex6 (K : SlabOk) (q : Nat) (u : World) (h : K.Rep u q [(2, 2), (1, 1)]) : Calls Try.prog 10 #[.pointer (some ⟨q, 0, none⟩)] u fun e w' => e = .returned (.tuple #[.agg #[.int .i64 0, .int .u32 0], .int .i64 8]) ∧ K.Rep w' q [(2, 2), (1, 1)] ∧ Beside (fun k => k = q) u w' := K.takes q [(2, 2), (1, 1)] u h
theorem SlabOk.ex7 (K : SlabOk) (q : Nat) (u : World) (h : K.Rep u q [(2, 2), (1, 1)]) : Calls Try.prog 16 #[.pointer (some ⟨q, 0, none⟩), .int .i64 0] u fun e w' => e = .returned (.int .i64 0) ∧ K.Rep w' q [(0, 2), (1, 1)] ∧ Beside (fun k => k = q) u w' := K.frees q [(2, 2), (1, 1)] 0 u h
theorem SlabOk.ex8 (K : SlabOk) (q : Nat) (u : World) (h : K.Rep u q [(0, 2), (1, 1)]) : Calls Try.prog 10 #[.pointer (some ⟨q, 0, none⟩)] u fun e w' => e = .returned (.tuple #[.agg #[.int .i64 0, .int .u32 2], .int .i64 0]) ∧ K.Rep w' q [(1, 2), (1, 1)] ∧ Beside (fun k => k = q) u w' := K.takes q [(0, 2), (1, 1)] u h
theorem SlabOk.ex9 (K : SlabOk) (q : Nat) (u : World) (h : K.Rep u q [(1, 2), (1, 1)]) : Calls Try.prog 12 #[.pointer (some ⟨q, 0, none⟩), .agg #[.int .i64 1, .int .u32 1]] u fun e w' => e = .returned (.int .i64 0) ∧ K.Rep w' q [(1, 2), (0, 2)] ∧ Beside (fun k => k = q) u w' := K.gives q [(1, 2), (1, 1)] 1 1 u h (by omega)
theorem SlabOk.ex10 (K : SlabOk) (q : Nat) (u : World) (h : K.Rep u q [(1, 2), (0, 2)]) : Calls Try.prog 12 #[.pointer (some ⟨q, 0, none⟩), .agg #[.int .i64 1, .int .u32 1]] u fun e w' => e = .returned (.int .i64 9) ∧ K.Rep w' q [(1, 2), (0, 2)] ∧ Beside (fun k => k = q) u w' := K.gives q [(1, 2), (0, 2)] 1 1 u h (by omega)
theorem SlabOk.ex11 (K : SlabOk) (q : Nat) (u : World) (h : K.Rep u q [(1, 2), (0, 2)]) : Calls Try.prog 16 #[.pointer (some ⟨q, 0, none⟩), .int .i64 1] u fun e w' => e = .returned (.int .i64 6) ∧ K.Rep w' q [(1, 2), (0, 2)] ∧ Beside (fun k => k = q) u w' := K.frees q [(1, 2), (0, 2)] 1 u h
theorem SlabOk.ex0 (K : SlabOk) (u : World) : Calls Try.prog 8 #[.int .i64 2] u fun e w' => ∃ q, e = .returned (.tuple #[.pointer (some ⟨q, 0, none⟩), .int .i64 0]) ∧ Below u.heap.size u w' ∧ u.heap.size ≤ q ∧ K.Rep w' q [(0, 1), (0, 1)] := K.news 2 u (by omega) (by omega)
set_option maxHeartbeats 4000000 in
set_option maxRecDepth 100000 in
theorem slotted_ (K : SlabOk) (w : World) : Calls Try.prog 7 #[] w fun e w' => e = .returned (.bool true) ∧ Below w.heap.size w w' := by
  go_enter Try.func7, Try.ntmps7
  have B1 := Below.refl w.heap.size w
  go_wp2_with fail
  refine (K.ex0 _).mono ?_; rintro e w1 ⟨q, rfl, x1, hq0, R2⟩
  have hq : w.heap.size ≤ q := Nat.le_trans B1.size hq0
  clear hq0
  have B3 := B1.trans (x1.mono B1.size)
  clear B1
  clear x1
  go_wp2_with fail
  refine (K.ex1 q _ R2).mono ?_; rintro e w2 ⟨rfl, R4, x2⟩
  have B5 := below_own B3 hq x2
  clear R2 B3 x2
  go_wp2_with fail
  have neA : ¬ w2.heap.size = q := fun e => absurd (K.lt R4) (by omega)
  have A_6 := Two.make w2 (.int .i64 0) (.int .u32 1) 34
  have R7 := K.on R4 ((Below.refl w2.heap.size w2).alloc (Nat.le_refl _) (.cells #[.int .i64 0, .int .u32 1] 34))
  have B8 := B5.trans ((((Below.refl w2.heap.size w2).alloc (Nat.le_refl _) (.cells #[.int .i64 0, .int .u32 1] 34))).mono B5.size)
  clear R4 B5
  obtain ⟨u3, hu3⟩ : ∃ x_ : World, x_ = w2.alloc (.cells #[.int .i64 0, .int .u32 1] 34) := ⟨_, rfl⟩
  rw [← hu3] at A_6 R7 B8 ⊢
  clear hu3
  refine (K.ex2 q _ R7).mono ?_; rintro e w4 ⟨rfl, R9, x4⟩
  have A_10 := A_6.by x4 neA
  have B11 := below_own B8 hq x4
  clear A_6 R7 B8 x4
  go_wp2_with fail
  have neC : ¬ w4.heap.size = q := fun e => absurd (K.lt R9) (by omega)
  have C_12 := Two.make w4 (.int .i64 1) (.int .u32 1) 34
  have A_13 := A_10.on ((Below.refl w4.heap.size w4).alloc (Nat.le_refl _) (.cells #[.int .i64 1, .int .u32 1] 34))
  have R14 := K.on R9 ((Below.refl w4.heap.size w4).alloc (Nat.le_refl _) (.cells #[.int .i64 1, .int .u32 1] 34))
  have B15 := B11.trans ((((Below.refl w4.heap.size w4).alloc (Nat.le_refl _) (.cells #[.int .i64 1, .int .u32 1] 34))).mono B11.size)
  clear A_10 R9 B11
  obtain ⟨u5, hu5⟩ : ∃ x_ : World, x_ = w4.alloc (.cells #[.int .i64 1, .int .u32 1] 34) := ⟨_, rfl⟩
  rw [← hu5] at A_13 C_12 R14 B15 ⊢
  clear hu5
  refine (K.ex3 q _ R14).mono ?_; rintro e w6 ⟨rfl, R16, x6⟩
  have A_17 := A_13.by x6 neA
  have C_18 := C_12.by x6 neC
  have B19 := below_own B15 hq x6
  clear A_13 C_12 R14 B15 x6
  obtain ⟨_, a20_0, a20_1⟩ := id A_17
  obtain ⟨_, c21_0, c21_1⟩ := id C_18
  go_wp2_with fail
  have neD : ¬ w6.heap.size = q := fun e => absurd (K.lt R16) (by omega)
  have D_22 := Two.make w6 (.int .i64 0) (.int .u32 0) 34
  have A_23 := A_17.on ((Below.refl w6.heap.size w6).alloc (Nat.le_refl _) (.cells #[.int .i64 0, .int .u32 0] 34))
  have C_24 := C_18.on ((Below.refl w6.heap.size w6).alloc (Nat.le_refl _) (.cells #[.int .i64 0, .int .u32 0] 34))
  have R25 := K.on R16 ((Below.refl w6.heap.size w6).alloc (Nat.le_refl _) (.cells #[.int .i64 0, .int .u32 0] 34))
  have B26 := B19.trans ((((Below.refl w6.heap.size w6).alloc (Nat.le_refl _) (.cells #[.int .i64 0, .int .u32 0] 34))).mono B19.size)
  clear a20_0 a20_1 c21_0 c21_1 A_17 C_18 R16 B19
  obtain ⟨u7, hu7⟩ : ∃ x_ : World, x_ = w6.alloc (.cells #[.int .i64 0, .int .u32 0] 34) := ⟨_, rfl⟩
  rw [← hu7] at A_23 C_24 D_22 R25 B26 ⊢
  clear hu7
  refine wp_region_noPanic ?_
  refine wp_region_held_drew (S := (fun w' => w'.cell? ⟨w2.heap.size, 0, none⟩ = some (.int .i64 0) ∧ w'.cell? ⟨w2.heap.size, 1, none⟩ = some (.int .u32 1))) (by kernel_rfl) ?_ (fun hHeld => ?_)
  · exact ⟨A_23.c0, A_23.c1⟩
  have A_27 := A_23.on ((Below.refl u7.heap.size u7).drew)
  have C_28 := C_24.on ((Below.refl u7.heap.size u7).drew)
  have D_29 := D_22.on ((Below.refl u7.heap.size u7).drew)
  have R30 := K.on R25 ((Below.refl u7.heap.size u7).drew)
  have B31 := B26.trans ((((Below.refl u7.heap.size u7).drew)).mono B26.size)
  clear A_23 C_24 D_22 R25 B26
  obtain ⟨u8, hu8⟩ : ∃ x_ : World, x_ = u7.drew := ⟨_, rfl⟩
  rw [← hu8] at A_27 C_28 D_29 R30 B31 hHeld ⊢
  clear hu8
  refine wpAnyH_take (i := 0) (oi := _) (v := ?_) rfl (by kernel_rfl) (by kernel_rfl) (by kernel_rfl) (fun _ _ _ h => h) (Or.inl ⟨by rfl, ?_⟩) (by assumption) ?_
  rotate_left
  · intro w hSw
    clear hSw
    go_simp
    with_reducible rfl
  try simp only [List.getElem_toArray, List.getElem_cons_succ, List.getElem_cons_zero, Act.put, List.setIfInBounds_toArray, List.set_cons_zero, List.set_cons_succ]
  refine wpAnyH_take (i := 1) (oi := _) (v := ?_) rfl (by kernel_rfl) (by kernel_rfl) (by kernel_rfl) (fun _ _ _ h => h) (Or.inl ⟨by rfl, ?_⟩) (by assumption) ?_
  rotate_left
  · intro w hSw
    (try dsimp only at hSw)
    obtain ⟨hq0, hq1⟩ := hSw
    go_simp
    with_reducible rfl
  try simp only [List.getElem_toArray, List.getElem_cons_succ, List.getElem_cons_zero, Act.put, List.setIfInBounds_toArray, List.set_cons_zero, List.set_cons_succ]
  refine wpAnyH_take (i := 3) (oi := _) (v := ?_) rfl (by kernel_rfl) (by kernel_rfl) (by kernel_rfl) (fun _ _ _ h => h) (Or.inl ⟨by rfl, ?_⟩) (by assumption) ?_
  rotate_left
  · intro w hSw
    clear hSw
    go_simp
    with_reducible rfl
  try simp only [List.getElem_toArray, List.getElem_cons_succ, List.getElem_cons_zero, Act.put, List.setIfInBounds_toArray, List.set_cons_zero, List.set_cons_succ]
  refine wpAnyH_take (i := 4) (oi := _) (v := ?_) rfl (by kernel_rfl) (by kernel_rfl) (by kernel_rfl) (fun _ _ _ h => h) (Or.inl ⟨by rfl, ?_⟩) (by assumption) ?_
  rotate_left
  · intro w hSw
    (try dsimp only at hSw)
    obtain ⟨hq0, hq1⟩ := hSw
    go_simp
    with_reducible rfl
  try simp only [List.getElem_toArray, List.getElem_cons_succ, List.getElem_cons_zero, Act.put, List.setIfInBounds_toArray, List.set_cons_zero, List.set_cons_succ]
  refine wpAnyH_ready (rs := [2]) (by kernel_rfl) (by simp) ?_
  refine AllReadyH.cons (o := _) rfl (fun K_ hK => ?_) AllReadyH.nil
  go_simp
  refine (K.ex4 q _ R30).mono ?_; rintro e w9 ⟨rfl, R32, x9⟩
  have A_33 := A_27.by x9 neA
  have C_34 := C_28.by x9 neC
  have D_35 := D_29.by x9 neD
  have B36 := below_own B31 hq x9
  clear A_27 C_28 D_29 R30 B31 x9
  show K_ _ _
  refine hK.out _ _ ⟨A_33.c0, A_33.c1⟩ (fun hH1 => ?_)
  clear hK K_ hHeld
  have hHeld := hH1
  clear hH1
  try simp only [List.getElem_toArray, List.getElem_cons_succ, List.getElem_cons_zero, Act.put, List.setIfInBounds_toArray, List.set_cons_zero, List.set_cons_succ]
  refine wpAnyH_ready (rs := [5]) (by kernel_rfl) (by simp) ?_
  refine AllReadyH.cons (o := _) rfl (fun K_ hK => ?_) AllReadyH.nil
  go_simp
  refine (K.ex5 q _ R32).mono ?_; rintro e w10 ⟨rfl, x10⟩
  have A_37 := A_33.on x10
  have C_38 := C_34.on x10
  have D_39 := D_35.on x10
  have R40 := K.on R32 x10
  have B41 := B36.trans (x10.mono B36.size)
  clear A_33 C_34 D_35 R32 B36
  clear x10
  show K_ _ _
  refine hK.out _ _ ⟨A_37.c0, A_37.c1⟩ (fun hH2 => ?_)
  clear hK K_ hHeld
  have hHeld := hH2
  clear hH2
  try simp only [List.getElem_toArray, List.getElem_cons_succ, List.getElem_cons_zero, Act.put, List.setIfInBounds_toArray, List.set_cons_zero, List.set_cons_succ]
  refine wpAnyH_take (i := 6) (oi := _) (v := ?_) rfl (by kernel_rfl) (by kernel_rfl) (by kernel_rfl) (fun _ _ _ h => h) (Or.inl ⟨by rfl, ?_⟩) (by assumption) ?_
  rotate_left
  · intro w hSw
    clear hSw
    go_simp
    with_reducible rfl
  try simp only [List.getElem_toArray, List.getElem_cons_succ, List.getElem_cons_zero, Act.put, List.setIfInBounds_toArray, List.set_cons_zero, List.set_cons_succ]
  refine wpAnyH_take (i := 7) (oi := _) (v := ?_) rfl (by kernel_rfl) (by kernel_rfl) (by kernel_rfl) (fun _ _ _ h => h) (Or.inl ⟨by rfl, ?_⟩) (by assumption) ?_
  rotate_left
  · intro w hSw
    clear hSw
    go_simp
    with_reducible rfl
  try simp only [List.getElem_toArray, List.getElem_cons_succ, List.getElem_cons_zero, Act.put, List.setIfInBounds_toArray, List.set_cons_zero, List.set_cons_succ]
  refine wpAnyH_done (by kernel_rfl) (NoPanic.normal ?_) _
  clear hHeld
  clear A_37
  go_wp2_with fail
  refine (K.ex6 q _ R40).mono ?_; rintro e w11 ⟨rfl, R42, x11⟩
  have C_43 := C_38.by x11 neC
  have D_44 := D_39.by x11 neD
  have B45 := below_own B41 hq x11
  clear C_38 D_39 R40 B41 x11
  go_wp2_with fail
  have neE : ¬ w11.heap.size = q := fun e => absurd (K.lt R42) (by omega)
  have E_46 := Two.make w11 (.int .i64 0) (.int .u32 0) 34
  have C_47 := C_43.on ((Below.refl w11.heap.size w11).alloc (Nat.le_refl _) (.cells #[.int .i64 0, .int .u32 0] 34))
  have D_48 := D_44.on ((Below.refl w11.heap.size w11).alloc (Nat.le_refl _) (.cells #[.int .i64 0, .int .u32 0] 34))
  have R49 := K.on R42 ((Below.refl w11.heap.size w11).alloc (Nat.le_refl _) (.cells #[.int .i64 0, .int .u32 0] 34))
  have B50 := B45.trans ((((Below.refl w11.heap.size w11).alloc (Nat.le_refl _) (.cells #[.int .i64 0, .int .u32 0] 34))).mono B45.size)
  clear C_43 D_44 R42 B45
  obtain ⟨u12, hu12⟩ : ∃ x_ : World, x_ = w11.alloc (.cells #[.int .i64 0, .int .u32 0] 34) := ⟨_, rfl⟩
  rw [← hu12] at C_47 D_48 E_46 R49 B50 ⊢
  clear hu12
  refine (K.ex7 q _ R49).mono ?_; rintro e w13 ⟨rfl, R51, x13⟩
  have C_52 := C_47.by x13 neC
  have D_53 := D_48.by x13 neD
  have E_54 := E_46.by x13 neE
  have B55 := below_own B50 hq x13
  clear C_47 D_48 E_46 R49 B50 x13
  go_wp2_with fail
  refine (K.ex8 q _ R51).mono ?_; rintro e w14 ⟨rfl, R56, x14⟩
  have C_57 := C_52.by x14 neC
  have D_58 := D_53.by x14 neD
  have E_59 := E_54.by x14 neE
  have B60 := below_own B55 hq x14
  clear C_52 D_53 E_54 R51 B55 x14
  obtain ⟨_, c61_0, c61_1⟩ := id C_57
  go_wp2_with fail
  have neF : ¬ w14.heap.size = q := fun e => absurd (K.lt R56) (by omega)
  have F_62 := Two.make w14 (.int .i64 0) (.int .u32 2) 34
  have C_63 := C_57.on ((Below.refl w14.heap.size w14).alloc (Nat.le_refl _) (.cells #[.int .i64 0, .int .u32 2] 34))
  have D_64 := D_58.on ((Below.refl w14.heap.size w14).alloc (Nat.le_refl _) (.cells #[.int .i64 0, .int .u32 2] 34))
  have E_65 := E_59.on ((Below.refl w14.heap.size w14).alloc (Nat.le_refl _) (.cells #[.int .i64 0, .int .u32 2] 34))
  have R66 := K.on R56 ((Below.refl w14.heap.size w14).alloc (Nat.le_refl _) (.cells #[.int .i64 0, .int .u32 2] 34))
  have B67 := B60.trans ((((Below.refl w14.heap.size w14).alloc (Nat.le_refl _) (.cells #[.int .i64 0, .int .u32 2] 34))).mono B60.size)
  clear c61_0 c61_1 C_57 D_58 E_59 R56 B60
  obtain ⟨u15, hu15⟩ : ∃ x_ : World, x_ = w14.alloc (.cells #[.int .i64 0, .int .u32 2] 34) := ⟨_, rfl⟩
  rw [← hu15] at C_63 D_64 E_65 F_62 R66 B67 ⊢
  clear hu15
  obtain ⟨_, c68_0, c68_1⟩ := id C_63
  obtain ⟨_, f69_0, f69_1⟩ := id F_62
  go_wp2_with fail
  refine (K.ex9 q _ R66).mono ?_; rintro e w16 ⟨rfl, R70, x16⟩
  have C_71 := C_63.by x16 neC
  have D_72 := D_64.by x16 neD
  have E_73 := E_65.by x16 neE
  have F_74 := F_62.by x16 neF
  have B75 := below_own B67 hq x16
  clear c68_0 c68_1 f69_0 f69_1 C_63 D_64 E_65 F_62 R66 B67 x16
  obtain ⟨_, c76_0, c76_1⟩ := id C_71
  obtain ⟨_, f77_0, f77_1⟩ := id F_74
  go_wp2_with fail
  refine (K.ex10 q _ R70).mono ?_; rintro e w17 ⟨rfl, R78, x17⟩
  have C_79 := C_71.by x17 neC
  have D_80 := D_72.by x17 neD
  have E_81 := E_73.by x17 neE
  have F_82 := F_74.by x17 neF
  have B83 := below_own B75 hq x17
  clear c76_0 c76_1 f77_0 f77_1 C_71 D_72 E_73 F_74 R70 B75 x17
  obtain ⟨_, c84_0, c84_1⟩ := id C_79
  obtain ⟨_, f85_0, f85_1⟩ := id F_82
  go_wp2_with fail
  refine (K.ex11 q _ R78).mono ?_; rintro e w18 ⟨rfl, R86, x18⟩
  have C_87 := C_79.by x18 neC
  have D_88 := D_80.by x18 neD
  have E_89 := E_81.by x18 neE
  have F_90 := F_82.by x18 neF
  have B91 := below_own B83 hq x18
  clear c84_0 c84_1 f85_0 f85_1 C_79 D_80 E_81 F_82 R78 B83 x18
  go_wp2
  go_ret
  exact ⟨rfl, B91⟩
end Go.Proofs.Ytlnbjpabcldmnaa
