/- Texts of this proof, together: TupJP, TupJA, TupJB, TuplesBack. -/
import Derived.Test.YtidkgnanfhdhdaaDoorGo
namespace Go.Proofs.YtidkgnanfhdhdaaDoor.TuplesBack
set_option linter.unusedVariables false
set_option linter.unusedSimpArgs false
open Go.ChangeShapes Go.WideShapes Go.ChangeAt Go.RowKit Go.PlainAid

theorem may_back (p m n : Int) : tmay p n m = tmay p m n := by
  unfold tmay
  congr 2
  exact Bool.or_comm _ _
theorem lessV_iff (a m b n : Nat) : lessV a m b n = true ↔ a < b ∨ (a = b ∧ m < n) := by unfold lessV; simp
theorem tless_iff (p q a m b n c k d j : Nat) : tless p q a m b n c k d j = true ↔ p < q ∨ (p = q ∧ ((a < c ∨ (a = c ∧ m < k)) ∨ (a = c ∧ m = k ∧ (b < d ∨ (b = d ∧ n < j))))) := by
  unfold tless
  split
  · split
    · rw [lessV_iff]; omega
    · rw [lessV_iff]; omega
  · rw [decide_eq_true_eq]; omega
/-- One of two that are not the same is less, the other one is not. -/
theorem less_one (p q a m b n c k d j : Nat) (h : ¬ (p = q ∧ a = c ∧ m = k ∧ b = d ∧ n = j)) : tless q p c k d j a m b n = !tless p q a m b n c k d j := by
  have i1 := tless_iff p q a m b n c k d j
  have i2 := tless_iff q p c k d j a m b n
  cases h1 : tless p q a m b n c k d j <;> cases h2 : tless q p c k d j a m b n
  all_goals
    rw [h1] at i1
    rw [h2] at i2
    first
      | rfl
      | (exfalso
         simp only [Bool.false_eq_true, false_iff, true_iff] at i1 i2
         omega)
theorem less_same (p a m b n : Nat) : tless p p a m b n a m b n = false := by
  unfold tless lessV; simp
theorem toList_inj_ {s t : ByteArray} (h : s.toList = t.toList) : s = t := by
  rw [Lib.toList_data, Lib.toList_data] at h
  exact ByteArray.ext (Array.toList_inj.1 h)
end Go.Proofs.YtidkgnanfhdhdaaDoor.TuplesBack

namespace Go.Proofs.YtidkgnanfhdhdaaDoor.TuplesBack
set_option linter.unusedVariables false
set_option linter.unusedSimpArgs false
open Go.ChangeShapes Go.WideShapes Go.ChangeAt Go.RowKit Go.PlainAid

set_option maxRecDepth 100000 in
set_option maxHeartbeats 8000000 in
theorem back_0 (p a m b n q c k d j : Nat) (S1 S2 : ByteArray) (mv nv lv : Bool) (K : TupOk) (w : World) (ht : Tab w) (cB1 : ∀ u : World, Tab u → Calls Tryd.prog 9 #[.agg #[.int .u8 (p : Int), .int .u32 (a : Int), .int .u16 (m : Int), .int .u32 (b : Int), .int .u16 (n : Int)]] u fun e w' => e = .returned (.agg #[.int .u8 (p : Int), .int .u32 (b : Int), .int .u16 (n : Int), .int .u32 (a : Int), .int .u16 (m : Int)]) ∧ Below u.heap.size u w')
    (cB2 : ∀ u : World, Tab u → Calls Tryd.prog 9 #[.agg #[.int .u8 (p : Int), .int .u32 (b : Int), .int .u16 (n : Int), .int .u32 (a : Int), .int .u16 (m : Int)]] u fun e w' => e = .returned (.agg #[.int .u8 (p : Int), .int .u32 (a : Int), .int .u16 (m : Int), .int .u32 (b : Int), .int .u16 (n : Int)]) ∧ Below u.heap.size u w')
    (cM1 : ∀ u : World, Tab u → Calls Tryd.prog 8 #[.agg #[.int .u8 (p : Int), .int .u32 (a : Int), .int .u16 (m : Int), .int .u32 (b : Int), .int .u16 (n : Int)]] u fun e w' => e = .returned (.bool mv) ∧ Below u.heap.size u w')
    (cM2 : ∀ u : World, Tab u → Calls Tryd.prog 8 #[.agg #[.int .u8 (p : Int), .int .u32 (b : Int), .int .u16 (n : Int), .int .u32 (a : Int), .int .u16 (m : Int)]] u fun e w' => e = .returned (.bool mv) ∧ Below u.heap.size u w')
    (cT1 : ∀ u : World, Tab u → Calls Tryd.prog 12 #[.agg #[.int .u8 (p : Int), .int .u32 (a : Int), .int .u16 (m : Int), .int .u32 (b : Int), .int .u16 (n : Int)]] u fun e w' => e = .returned (.string S1) ∧ Below u.heap.size u w')
    (cM3 : ∀ u : World, Tab u → Calls Tryd.prog 8 #[.agg #[.int .u8 (q : Int), .int .u32 (c : Int), .int .u16 (k : Int), .int .u32 (d : Int), .int .u16 (j : Int)]] u fun e w' => e = .returned (.bool nv) ∧ Below u.heap.size u w')
    (cL1 : ∀ u : World, Tab u → Calls Tryd.prog 10 #[.agg #[.int .u8 (p : Int), .int .u32 (a : Int), .int .u16 (m : Int), .int .u32 (b : Int), .int .u16 (n : Int)], .agg #[.int .u8 (q : Int), .int .u32 (c : Int), .int .u16 (k : Int), .int .u32 (d : Int), .int .u16 (j : Int)]] u fun e w' => e = .returned (.bool lv) ∧ Below u.heap.size u w')
    (cL2 : ∀ u : World, Tab u → Calls Tryd.prog 10 #[.agg #[.int .u8 (q : Int), .int .u32 (c : Int), .int .u16 (k : Int), .int .u32 (d : Int), .int .u16 (j : Int)], .agg #[.int .u8 (p : Int), .int .u32 (a : Int), .int .u16 (m : Int), .int .u32 (b : Int), .int .u16 (n : Int)]] u fun e w' => e = .returned (.bool (!lv)) ∧ Below u.heap.size u w')
    (cT2 : ∀ u : World, Tab u → Calls Tryd.prog 12 #[.agg #[.int .u8 (q : Int), .int .u32 (c : Int), .int .u16 (k : Int), .int .u32 (d : Int), .int .u16 (j : Int)]] u fun e w' => e = .returned (.string S2) ∧ Below u.heap.size u w')
    (cP1 : mv = true → ∀ u : World, Tab u → Calls Tryd.prog 11 #[.string S1] u fun e w' => e = .returned (.tuple #[.agg #[.int .u8 (p : Int), .int .u32 (a : Int), .int .u16 (m : Int), .int .u32 (b : Int), .int .u16 (n : Int)], .int .i64 0]) ∧ Below u.heap.size u w')
    (cP0 : mv = false → S1 = ⟨#[]⟩ ∧ ∀ u : World, Tab u → Calls Tryd.prog 11 #[.string S1] u fun e w' => e = .returned (.tuple #[.agg #[.int .u8 0, .int .u32 0, .int .u16 0, .int .u32 0, .int .u16 0], .int .i64 3]) ∧ Below u.heap.size u w')
    (hne : ¬ p = q)
    (hS : mv = true → nv = true → ¬ S1 = S2) :
    Calls Tryd.prog 4 #[.agg #[.int .u8 (p : Int), .int .u32 (a : Int), .int .u16 (m : Int), .int .u32 (b : Int), .int .u16 (n : Int)], .agg #[.int .u8 (q : Int), .int .u32 (c : Int), .int .u16 (k : Int), .int .u32 (d : Int), .int .u16 (j : Int)]] w fun e w' => e = .returned (.bool true) ∧ Below w.heap.size w w' := by
  have ne1 : ((p : Int) == (q : Int)) = false := by simp; omega
  have ne2 : ((p : Nat) == (q : Nat)) = false := by simpa using hne
  clear hne
  have hSS : (S1.toList == S1.toList) = true := by simp
  have key : mv = false ∨ (mv = true ∧ nv = false) ∨ (mv = true ∧ nv = true) := by cases mv <;> cases nv <;> simp
  rcases key with rfl | ⟨rfl, rfl⟩ | ⟨rfl, rfl⟩
  · have cP := (cP0 rfl).2
    have e0 := (cP0 rfl).1
    subst e0
    clear cP0 cP1 hS
    cases lv
    all_goals
      go_enter Tryd.func4, Tryd.ntmps4
      have B1 := Below.refl w.heap.size w
      go_wp2_with fail
      have A_2 := Box5.make w (.int .u8 (p : Int)) (.int .u32 (a : Int)) (.int .u16 (m : Int)) (.int .u32 (b : Int)) (.int .u16 (n : Int)) 29
      have B3 := B1.alloc B1.size (.cells #[.int .u8 (p : Int), .int .u32 (a : Int), .int .u16 (m : Int), .int .u32 (b : Int), .int .u16 (n : Int)] 29)
      clear B1
      have A_4 := A_2.past (o := (.cells #[.int .u8 (q : Int), .int .u32 (c : Int), .int .u16 (k : Int), .int .u32 (d : Int), .int .u16 (j : Int)] 29))
      have hs_ : (w.alloc (.cells #[.int .u8 (p : Int), .int .u32 (a : Int), .int .u16 (m : Int), .int .u32 (b : Int), .int .u16 (n : Int)] 29)).heap.size = w.heap.size + 1 := by simp
      have C_5 := Box5.make (w.alloc (.cells #[.int .u8 (p : Int), .int .u32 (a : Int), .int .u16 (m : Int), .int .u32 (b : Int), .int .u16 (n : Int)] 29)) (.int .u8 (q : Int)) (.int .u32 (c : Int)) (.int .u16 (k : Int)) (.int .u32 (d : Int)) (.int .u16 (j : Int)) 29
      rw [hs_] at C_5
      clear hs_
      have B6 := B3.alloc B3.size (.cells #[.int .u8 (q : Int), .int .u32 (c : Int), .int .u16 (k : Int), .int .u32 (d : Int), .int .u16 (j : Int)] 29)
      clear A_2 B3
      obtain ⟨u1, hu1⟩ : ∃ x, x = (w.alloc (.cells #[.int .u8 (p : Int), .int .u32 (a : Int), .int .u16 (m : Int), .int .u32 (b : Int), .int .u16 (n : Int)] 29)).alloc (.cells #[.int .u8 (q : Int), .int .u32 (c : Int), .int .u16 (k : Int), .int .u32 (d : Int), .int .u16 (j : Int)] 29) := ⟨_, rfl⟩
      rw [← hu1] at A_4 C_5 B6 ⊢
      clear hu1
      have HT := ht.on B6
      obtain ⟨za, ga0, ga1, ga2, ga3, ga4⟩ := id A_4
      have Fa0 : ∀ x : Later u1.heap.size u1, x.u.cell? ⟨w.heap.size, 0, none⟩ = some (.int .u8 (p : Int)) := fun x => x.block za ga0
      have Fa1 : ∀ x : Later u1.heap.size u1, x.u.cell? ⟨w.heap.size, 1, none⟩ = some (.int .u32 (a : Int)) := fun x => x.block za ga1
      have Fa2 : ∀ x : Later u1.heap.size u1, x.u.cell? ⟨w.heap.size, 2, none⟩ = some (.int .u16 (m : Int)) := fun x => x.block za ga2
      have Fa3 : ∀ x : Later u1.heap.size u1, x.u.cell? ⟨w.heap.size, 3, none⟩ = some (.int .u32 (b : Int)) := fun x => x.block za ga3
      have Fa4 : ∀ x : Later u1.heap.size u1, x.u.cell? ⟨w.heap.size, 4, none⟩ = some (.int .u16 (n : Int)) := fun x => x.block za ga4
      clear ga0 ga1 ga2 ga3 ga4
      refine region_later (B := u1.heap.size) (by kernel_rfl) (by kernel_rfl) ?_
      repeat (go_big_quiet_step (first
        | (go_at_call_of 9 (#[Value.agg #[.int .u8 (p : Int), .int .u32 (a : Int), .int .u16 (m : Int), .int .u32 (b : Int), .int .u16 (n : Int)]]); exact later_of _ (Nat.le_refl _) (cB1 _ (HT.on (Later.h _))))
        | (go_at_call_of 9 (#[Value.agg #[.int .u8 (p : Int), .int .u32 (b : Int), .int .u16 (n : Int), .int .u32 (a : Int), .int .u16 (m : Int)]]); exact later_of _ (Nat.le_refl _) (cB2 _ (HT.on (Later.h _))))
        | (go_at_call_of 8 (#[Value.agg #[.int .u8 (p : Int), .int .u32 (a : Int), .int .u16 (m : Int), .int .u32 (b : Int), .int .u16 (n : Int)]]); exact later_of _ (Nat.le_refl _) (cM1 _ (HT.on (Later.h _))))
        | (go_at_call_of 8 (#[Value.agg #[.int .u8 (p : Int), .int .u32 (b : Int), .int .u16 (n : Int), .int .u32 (a : Int), .int .u16 (m : Int)]]); exact later_of _ (Nat.le_refl _) (cM2 _ (HT.on (Later.h _))))))
      refine later_end fun w2 x2 => ?_
      have A_7 := A_4.on x2
      have C_8 := C_5.on x2
      have B9 := B6.trans (x2.mono B6.size)
      clear Fa0 Fa1 Fa2 Fa3 Fa4 za A_4 C_5 B6 x2
      clear HT
      have HT := ht.on B9
      go_wp2_with fail
      obtain ⟨za, ga0, ga1, ga2, ga3, ga4⟩ := id A_7
      have Fa0 : ∀ x : Later w2.heap.size w2, x.u.cell? ⟨w.heap.size, 0, none⟩ = some (.int .u8 (p : Int)) := fun x => x.block za ga0
      have Fa1 : ∀ x : Later w2.heap.size w2, x.u.cell? ⟨w.heap.size, 1, none⟩ = some (.int .u32 (a : Int)) := fun x => x.block za ga1
      have Fa2 : ∀ x : Later w2.heap.size w2, x.u.cell? ⟨w.heap.size, 2, none⟩ = some (.int .u16 (m : Int)) := fun x => x.block za ga2
      have Fa3 : ∀ x : Later w2.heap.size w2, x.u.cell? ⟨w.heap.size, 3, none⟩ = some (.int .u32 (b : Int)) := fun x => x.block za ga3
      have Fa4 : ∀ x : Later w2.heap.size w2, x.u.cell? ⟨w.heap.size, 4, none⟩ = some (.int .u16 (n : Int)) := fun x => x.block za ga4
      clear ga0 ga1 ga2 ga3 ga4
      obtain ⟨zc, gc0, gc1, gc2, gc3, gc4⟩ := id C_8
      have Fc0 : ∀ x : Later w2.heap.size w2, x.u.cell? ⟨(w.heap.size + 1), 0, none⟩ = some (.int .u8 (q : Int)) := fun x => x.block zc gc0
      have Fc1 : ∀ x : Later w2.heap.size w2, x.u.cell? ⟨(w.heap.size + 1), 1, none⟩ = some (.int .u32 (c : Int)) := fun x => x.block zc gc1
      have Fc2 : ∀ x : Later w2.heap.size w2, x.u.cell? ⟨(w.heap.size + 1), 2, none⟩ = some (.int .u16 (k : Int)) := fun x => x.block zc gc2
      have Fc3 : ∀ x : Later w2.heap.size w2, x.u.cell? ⟨(w.heap.size + 1), 3, none⟩ = some (.int .u32 (d : Int)) := fun x => x.block zc gc3
      have Fc4 : ∀ x : Later w2.heap.size w2, x.u.cell? ⟨(w.heap.size + 1), 4, none⟩ = some (.int .u16 (j : Int)) := fun x => x.block zc gc4
      clear gc0 gc1 gc2 gc3 gc4
      refine region_later (B := w2.heap.size) (by kernel_rfl) (by kernel_rfl) ?_
      repeat (go_big_quiet_step (first
        | (go_at_call_of 10 (#[Value.agg #[.int .u8 (p : Int), .int .u32 (a : Int), .int .u16 (m : Int), .int .u32 (b : Int), .int .u16 (n : Int)], Value.agg #[.int .u8 (q : Int), .int .u32 (c : Int), .int .u16 (k : Int), .int .u32 (d : Int), .int .u16 (j : Int)]]); exact later_of _ (Nat.le_refl _) (cL1 _ (HT.on (Later.h _))))
        | (go_at_call_of 10 (#[Value.agg #[.int .u8 (q : Int), .int .u32 (c : Int), .int .u16 (k : Int), .int .u32 (d : Int), .int .u16 (j : Int)], Value.agg #[.int .u8 (p : Int), .int .u32 (a : Int), .int .u16 (m : Int), .int .u32 (b : Int), .int .u16 (n : Int)]]); exact later_of _ (Nat.le_refl _) (cL2 _ (HT.on (Later.h _))))))
      refine later_end fun w3 x3 => ?_
      have A_10 := A_7.on x3
      have C_11 := C_8.on x3
      have B12 := B9.trans (x3.mono B9.size)
      clear Fa0 Fa1 Fa2 Fa3 Fa4 za Fc0 Fc1 Fc2 Fc3 Fc4 zc A_7 C_8 B9 x3
      clear HT
      obtain ⟨_, a1_0, a1_1, a1_2, a1_3, a1_4⟩ := id A_10
      obtain ⟨_, c2_0, c2_1, c2_2, c2_3, c2_4⟩ := id C_11
      go_wp2_with fail
      refine (cT1 _ (ht.on B12)).mono ?_; rintro e w4 ⟨rfl, x4⟩
      have A_13 := A_10.on x4
      have C_14 := C_11.on x4
      have B15 := B12.trans (x4.mono B12.size)
      clear a1_0 a1_1 a1_2 a1_3 a1_4 c2_0 c2_1 c2_2 c2_3 c2_4 A_10 C_11 B12 x4
      go_wp2_with fail
      refine (cP _ (ht.on B15)).mono ?_; rintro e w5 ⟨rfl, x5⟩
      have A_16 := A_13.on x5
      have C_17 := C_14.on x5
      have B18 := B15.trans (x5.mono B15.size)
      clear A_13 C_14 B15 x5
      clear cP
      have A_19 := A_16.past (o := (.cells #[.int .u8 0, .int .u32 0, .int .u16 0, .int .u32 0, .int .u16 0] 29))
      have C_20 := C_17.past (o := (.cells #[.int .u8 0, .int .u32 0, .int .u16 0, .int .u32 0, .int .u16 0] 29))
      have U_21 := Box5.make w5 (.int .u8 0) (.int .u32 0) (.int .u16 0) (.int .u32 0) (.int .u16 0) 29
      have B22 := B18.alloc B18.size (.cells #[.int .u8 0, .int .u32 0, .int .u16 0, .int .u32 0, .int .u16 0] 29)
      clear A_16 C_17 B18
      obtain ⟨_, a3_0, a3_1, a3_2, a3_3, a3_4⟩ := id A_19
      go_wp2_with fail
      refine (cM1 _ (ht.on B22)).mono ?_; rintro e w6 ⟨rfl, x6⟩
      have A_23 := A_19.on x6
      have C_24 := C_20.on x6
      have U_25 := U_21.on x6
      have B26 := B22.trans (x6.mono B22.size)
      clear a3_0 a3_1 a3_2 a3_3 a3_4 A_19 C_20 U_21 B22 x6
      obtain ⟨_, a4_0, a4_1, a4_2, a4_3, a4_4⟩ := id A_23
      go_wp2_with fail
      refine (cT1 _ (ht.on B26)).mono ?_; rintro e w7 ⟨rfl, x7⟩
      have A_27 := A_23.on x7
      have C_28 := C_24.on x7
      have U_29 := U_25.on x7
      have B30 := B26.trans (x7.mono B26.size)
      clear a4_0 a4_1 a4_2 a4_3 a4_4 A_23 C_24 U_25 B26 x7
      go_wp2_with fail
      refine (watched_ K _ (ht.on B30)).mono ?_; rintro e w8 ⟨rfl, x8⟩
      have A_31 := A_27.on x8
      have C_32 := C_28.on x8
      have U_33 := U_29.on x8
      have B34 := B30.trans (x8.mono B30.size)
      clear A_27 C_28 U_29 B30 x8
      go_wp2
      go_ret
      exact ⟨rfl, B34⟩
  · have cP := cP1 rfl
    clear cP0 cP1 hS
    cases lv
    all_goals
      go_enter Tryd.func4, Tryd.ntmps4
      have B1 := Below.refl w.heap.size w
      go_wp2_with fail
      have A_2 := Box5.make w (.int .u8 (p : Int)) (.int .u32 (a : Int)) (.int .u16 (m : Int)) (.int .u32 (b : Int)) (.int .u16 (n : Int)) 29
      have B3 := B1.alloc B1.size (.cells #[.int .u8 (p : Int), .int .u32 (a : Int), .int .u16 (m : Int), .int .u32 (b : Int), .int .u16 (n : Int)] 29)
      clear B1
      have A_4 := A_2.past (o := (.cells #[.int .u8 (q : Int), .int .u32 (c : Int), .int .u16 (k : Int), .int .u32 (d : Int), .int .u16 (j : Int)] 29))
      have hs_ : (w.alloc (.cells #[.int .u8 (p : Int), .int .u32 (a : Int), .int .u16 (m : Int), .int .u32 (b : Int), .int .u16 (n : Int)] 29)).heap.size = w.heap.size + 1 := by simp
      have C_5 := Box5.make (w.alloc (.cells #[.int .u8 (p : Int), .int .u32 (a : Int), .int .u16 (m : Int), .int .u32 (b : Int), .int .u16 (n : Int)] 29)) (.int .u8 (q : Int)) (.int .u32 (c : Int)) (.int .u16 (k : Int)) (.int .u32 (d : Int)) (.int .u16 (j : Int)) 29
      rw [hs_] at C_5
      clear hs_
      have B6 := B3.alloc B3.size (.cells #[.int .u8 (q : Int), .int .u32 (c : Int), .int .u16 (k : Int), .int .u32 (d : Int), .int .u16 (j : Int)] 29)
      clear A_2 B3
      obtain ⟨u1, hu1⟩ : ∃ x, x = (w.alloc (.cells #[.int .u8 (p : Int), .int .u32 (a : Int), .int .u16 (m : Int), .int .u32 (b : Int), .int .u16 (n : Int)] 29)).alloc (.cells #[.int .u8 (q : Int), .int .u32 (c : Int), .int .u16 (k : Int), .int .u32 (d : Int), .int .u16 (j : Int)] 29) := ⟨_, rfl⟩
      rw [← hu1] at A_4 C_5 B6 ⊢
      clear hu1
      have HT := ht.on B6
      obtain ⟨za, ga0, ga1, ga2, ga3, ga4⟩ := id A_4
      have Fa0 : ∀ x : Later u1.heap.size u1, x.u.cell? ⟨w.heap.size, 0, none⟩ = some (.int .u8 (p : Int)) := fun x => x.block za ga0
      have Fa1 : ∀ x : Later u1.heap.size u1, x.u.cell? ⟨w.heap.size, 1, none⟩ = some (.int .u32 (a : Int)) := fun x => x.block za ga1
      have Fa2 : ∀ x : Later u1.heap.size u1, x.u.cell? ⟨w.heap.size, 2, none⟩ = some (.int .u16 (m : Int)) := fun x => x.block za ga2
      have Fa3 : ∀ x : Later u1.heap.size u1, x.u.cell? ⟨w.heap.size, 3, none⟩ = some (.int .u32 (b : Int)) := fun x => x.block za ga3
      have Fa4 : ∀ x : Later u1.heap.size u1, x.u.cell? ⟨w.heap.size, 4, none⟩ = some (.int .u16 (n : Int)) := fun x => x.block za ga4
      clear ga0 ga1 ga2 ga3 ga4
      refine region_later (B := u1.heap.size) (by kernel_rfl) (by kernel_rfl) ?_
      repeat (go_big_quiet_step (first
        | (go_at_call_of 9 (#[Value.agg #[.int .u8 (p : Int), .int .u32 (a : Int), .int .u16 (m : Int), .int .u32 (b : Int), .int .u16 (n : Int)]]); exact later_of _ (Nat.le_refl _) (cB1 _ (HT.on (Later.h _))))
        | (go_at_call_of 9 (#[Value.agg #[.int .u8 (p : Int), .int .u32 (b : Int), .int .u16 (n : Int), .int .u32 (a : Int), .int .u16 (m : Int)]]); exact later_of _ (Nat.le_refl _) (cB2 _ (HT.on (Later.h _))))
        | (go_at_call_of 8 (#[Value.agg #[.int .u8 (p : Int), .int .u32 (a : Int), .int .u16 (m : Int), .int .u32 (b : Int), .int .u16 (n : Int)]]); exact later_of _ (Nat.le_refl _) (cM1 _ (HT.on (Later.h _))))
        | (go_at_call_of 8 (#[Value.agg #[.int .u8 (p : Int), .int .u32 (b : Int), .int .u16 (n : Int), .int .u32 (a : Int), .int .u16 (m : Int)]]); exact later_of _ (Nat.le_refl _) (cM2 _ (HT.on (Later.h _))))))
      refine later_end fun w2 x2 => ?_
      have A_7 := A_4.on x2
      have C_8 := C_5.on x2
      have B9 := B6.trans (x2.mono B6.size)
      clear Fa0 Fa1 Fa2 Fa3 Fa4 za A_4 C_5 B6 x2
      clear HT
      have HT := ht.on B9
      go_wp2_with fail
      obtain ⟨za, ga0, ga1, ga2, ga3, ga4⟩ := id A_7
      have Fa0 : ∀ x : Later w2.heap.size w2, x.u.cell? ⟨w.heap.size, 0, none⟩ = some (.int .u8 (p : Int)) := fun x => x.block za ga0
      have Fa1 : ∀ x : Later w2.heap.size w2, x.u.cell? ⟨w.heap.size, 1, none⟩ = some (.int .u32 (a : Int)) := fun x => x.block za ga1
      have Fa2 : ∀ x : Later w2.heap.size w2, x.u.cell? ⟨w.heap.size, 2, none⟩ = some (.int .u16 (m : Int)) := fun x => x.block za ga2
      have Fa3 : ∀ x : Later w2.heap.size w2, x.u.cell? ⟨w.heap.size, 3, none⟩ = some (.int .u32 (b : Int)) := fun x => x.block za ga3
      have Fa4 : ∀ x : Later w2.heap.size w2, x.u.cell? ⟨w.heap.size, 4, none⟩ = some (.int .u16 (n : Int)) := fun x => x.block za ga4
      clear ga0 ga1 ga2 ga3 ga4
      obtain ⟨zc, gc0, gc1, gc2, gc3, gc4⟩ := id C_8
      have Fc0 : ∀ x : Later w2.heap.size w2, x.u.cell? ⟨(w.heap.size + 1), 0, none⟩ = some (.int .u8 (q : Int)) := fun x => x.block zc gc0
      have Fc1 : ∀ x : Later w2.heap.size w2, x.u.cell? ⟨(w.heap.size + 1), 1, none⟩ = some (.int .u32 (c : Int)) := fun x => x.block zc gc1
      have Fc2 : ∀ x : Later w2.heap.size w2, x.u.cell? ⟨(w.heap.size + 1), 2, none⟩ = some (.int .u16 (k : Int)) := fun x => x.block zc gc2
      have Fc3 : ∀ x : Later w2.heap.size w2, x.u.cell? ⟨(w.heap.size + 1), 3, none⟩ = some (.int .u32 (d : Int)) := fun x => x.block zc gc3
      have Fc4 : ∀ x : Later w2.heap.size w2, x.u.cell? ⟨(w.heap.size + 1), 4, none⟩ = some (.int .u16 (j : Int)) := fun x => x.block zc gc4
      clear gc0 gc1 gc2 gc3 gc4
      refine region_later (B := w2.heap.size) (by kernel_rfl) (by kernel_rfl) ?_
      repeat (go_big_quiet_step (first
        | (go_at_call_of 10 (#[Value.agg #[.int .u8 (p : Int), .int .u32 (a : Int), .int .u16 (m : Int), .int .u32 (b : Int), .int .u16 (n : Int)], Value.agg #[.int .u8 (q : Int), .int .u32 (c : Int), .int .u16 (k : Int), .int .u32 (d : Int), .int .u16 (j : Int)]]); exact later_of _ (Nat.le_refl _) (cL1 _ (HT.on (Later.h _))))
        | (go_at_call_of 10 (#[Value.agg #[.int .u8 (q : Int), .int .u32 (c : Int), .int .u16 (k : Int), .int .u32 (d : Int), .int .u16 (j : Int)], Value.agg #[.int .u8 (p : Int), .int .u32 (a : Int), .int .u16 (m : Int), .int .u32 (b : Int), .int .u16 (n : Int)]]); exact later_of _ (Nat.le_refl _) (cL2 _ (HT.on (Later.h _))))))
      refine later_end fun w3 x3 => ?_
      have A_10 := A_7.on x3
      have C_11 := C_8.on x3
      have B12 := B9.trans (x3.mono B9.size)
      clear Fa0 Fa1 Fa2 Fa3 Fa4 za Fc0 Fc1 Fc2 Fc3 Fc4 zc A_7 C_8 B9 x3
      clear HT
      obtain ⟨_, a1_0, a1_1, a1_2, a1_3, a1_4⟩ := id A_10
      obtain ⟨_, c2_0, c2_1, c2_2, c2_3, c2_4⟩ := id C_11
      go_wp2_with fail
      refine (cT1 _ (ht.on B12)).mono ?_; rintro e w4 ⟨rfl, x4⟩
      have A_13 := A_10.on x4
      have C_14 := C_11.on x4
      have B15 := B12.trans (x4.mono B12.size)
      clear a1_0 a1_1 a1_2 a1_3 a1_4 c2_0 c2_1 c2_2 c2_3 c2_4 A_10 C_11 B12 x4
      go_wp2_with fail
      refine (cP _ (ht.on B15)).mono ?_; rintro e w5 ⟨rfl, x5⟩
      have A_16 := A_13.on x5
      have C_17 := C_14.on x5
      have B18 := B15.trans (x5.mono B15.size)
      clear A_13 C_14 B15 x5
      clear cP
      have A_19 := A_16.past (o := (.cells #[.int .u8 (p : Int), .int .u32 (a : Int), .int .u16 (m : Int), .int .u32 (b : Int), .int .u16 (n : Int)] 29))
      have C_20 := C_17.past (o := (.cells #[.int .u8 (p : Int), .int .u32 (a : Int), .int .u16 (m : Int), .int .u32 (b : Int), .int .u16 (n : Int)] 29))
      have U_21 := Box5.make w5 (.int .u8 (p : Int)) (.int .u32 (a : Int)) (.int .u16 (m : Int)) (.int .u32 (b : Int)) (.int .u16 (n : Int)) 29
      have B22 := B18.alloc B18.size (.cells #[.int .u8 (p : Int), .int .u32 (a : Int), .int .u16 (m : Int), .int .u32 (b : Int), .int .u16 (n : Int)] 29)
      clear A_16 C_17 B18
      obtain ⟨_, a3_0, a3_1, a3_2, a3_3, a3_4⟩ := id A_19
      go_wp2_with fail
      refine (cM1 _ (ht.on B22)).mono ?_; rintro e w6 ⟨rfl, x6⟩
      have A_23 := A_19.on x6
      have C_24 := C_20.on x6
      have U_25 := U_21.on x6
      have B26 := B22.trans (x6.mono B22.size)
      clear a3_0 a3_1 a3_2 a3_3 a3_4 A_19 C_20 U_21 B22 x6
      have HT := ht.on B26
      go_wp2_with fail
      obtain ⟨za, ga0, ga1, ga2, ga3, ga4⟩ := id A_23
      have Fa0 : ∀ x : Later w6.heap.size w6, x.u.cell? ⟨w.heap.size, 0, none⟩ = some (.int .u8 (p : Int)) := fun x => x.block za ga0
      have Fa1 : ∀ x : Later w6.heap.size w6, x.u.cell? ⟨w.heap.size, 1, none⟩ = some (.int .u32 (a : Int)) := fun x => x.block za ga1
      have Fa2 : ∀ x : Later w6.heap.size w6, x.u.cell? ⟨w.heap.size, 2, none⟩ = some (.int .u16 (m : Int)) := fun x => x.block za ga2
      have Fa3 : ∀ x : Later w6.heap.size w6, x.u.cell? ⟨w.heap.size, 3, none⟩ = some (.int .u32 (b : Int)) := fun x => x.block za ga3
      have Fa4 : ∀ x : Later w6.heap.size w6, x.u.cell? ⟨w.heap.size, 4, none⟩ = some (.int .u16 (n : Int)) := fun x => x.block za ga4
      clear ga0 ga1 ga2 ga3 ga4
      obtain ⟨zc, gc0, gc1, gc2, gc3, gc4⟩ := id C_24
      have Fc0 : ∀ x : Later w6.heap.size w6, x.u.cell? ⟨(w.heap.size + 1), 0, none⟩ = some (.int .u8 (q : Int)) := fun x => x.block zc gc0
      have Fc1 : ∀ x : Later w6.heap.size w6, x.u.cell? ⟨(w.heap.size + 1), 1, none⟩ = some (.int .u32 (c : Int)) := fun x => x.block zc gc1
      have Fc2 : ∀ x : Later w6.heap.size w6, x.u.cell? ⟨(w.heap.size + 1), 2, none⟩ = some (.int .u16 (k : Int)) := fun x => x.block zc gc2
      have Fc3 : ∀ x : Later w6.heap.size w6, x.u.cell? ⟨(w.heap.size + 1), 3, none⟩ = some (.int .u32 (d : Int)) := fun x => x.block zc gc3
      have Fc4 : ∀ x : Later w6.heap.size w6, x.u.cell? ⟨(w.heap.size + 1), 4, none⟩ = some (.int .u16 (j : Int)) := fun x => x.block zc gc4
      clear gc0 gc1 gc2 gc3 gc4
      obtain ⟨zu, gu0, gu1, gu2, gu3, gu4⟩ := id U_25
      have Fu0 : ∀ x : Later w6.heap.size w6, x.u.cell? ⟨w5.heap.size, 0, none⟩ = some (.int .u8 (p : Int)) := fun x => x.block zu gu0
      have Fu1 : ∀ x : Later w6.heap.size w6, x.u.cell? ⟨w5.heap.size, 1, none⟩ = some (.int .u32 (a : Int)) := fun x => x.block zu gu1
      have Fu2 : ∀ x : Later w6.heap.size w6, x.u.cell? ⟨w5.heap.size, 2, none⟩ = some (.int .u16 (m : Int)) := fun x => x.block zu gu2
      have Fu3 : ∀ x : Later w6.heap.size w6, x.u.cell? ⟨w5.heap.size, 3, none⟩ = some (.int .u32 (b : Int)) := fun x => x.block zu gu3
      have Fu4 : ∀ x : Later w6.heap.size w6, x.u.cell? ⟨w5.heap.size, 4, none⟩ = some (.int .u16 (n : Int)) := fun x => x.block zu gu4
      clear gu0 gu1 gu2 gu3 gu4
      refine region_later (B := w6.heap.size) (by kernel_rfl) (by kernel_rfl) ?_
      repeat (go_big_quiet_step (first
        | (go_at_call_of 8 (#[Value.agg #[.int .u8 (q : Int), .int .u32 (c : Int), .int .u16 (k : Int), .int .u32 (d : Int), .int .u16 (j : Int)]]); exact later_of _ (Nat.le_refl _) (cM3 _ (HT.on (Later.h _))))
        | (go_at_call_of 12 (#[Value.agg #[.int .u8 (p : Int), .int .u32 (a : Int), .int .u16 (m : Int), .int .u32 (b : Int), .int .u16 (n : Int)]]); exact later_of _ (Nat.le_refl _) (cT1 _ (HT.on (Later.h _))))
        | (go_at_call_of 12 (#[Value.agg #[.int .u8 (q : Int), .int .u32 (c : Int), .int .u16 (k : Int), .int .u32 (d : Int), .int .u16 (j : Int)]]); exact later_of _ (Nat.le_refl _) (cT2 _ (HT.on (Later.h _))))
        | (go_at_call 6; exact later_of _ (Nat.le_refl _) (watched_ K _ (HT.on (Later.h _))))))
      refine later_end fun w7 x7 => ?_
      have A_27 := A_23.on x7
      have C_28 := C_24.on x7
      have U_29 := U_25.on x7
      have B30 := B26.trans (x7.mono B26.size)
      clear Fa0 Fa1 Fa2 Fa3 Fa4 za Fc0 Fc1 Fc2 Fc3 Fc4 zc Fu0 Fu1 Fu2 Fu3 Fu4 zu A_23 C_24 U_25 B26 x7
      go_wp2
      go_ret
      exact ⟨rfl, B30⟩
  · have cP := cP1 rfl
    have hn : (S1.toList == S2.toList) = false := by
      have := hS rfl rfl
      simp only [beq_eq_false_iff_ne, ne_eq]
      intro h
      exact this (toList_inj_ h)
    clear cP0 cP1 hS
    cases lv
    all_goals
      go_enter Tryd.func4, Tryd.ntmps4
      have B1 := Below.refl w.heap.size w
      go_wp2_with fail
      have A_2 := Box5.make w (.int .u8 (p : Int)) (.int .u32 (a : Int)) (.int .u16 (m : Int)) (.int .u32 (b : Int)) (.int .u16 (n : Int)) 29
      have B3 := B1.alloc B1.size (.cells #[.int .u8 (p : Int), .int .u32 (a : Int), .int .u16 (m : Int), .int .u32 (b : Int), .int .u16 (n : Int)] 29)
      clear B1
      have A_4 := A_2.past (o := (.cells #[.int .u8 (q : Int), .int .u32 (c : Int), .int .u16 (k : Int), .int .u32 (d : Int), .int .u16 (j : Int)] 29))
      have hs_ : (w.alloc (.cells #[.int .u8 (p : Int), .int .u32 (a : Int), .int .u16 (m : Int), .int .u32 (b : Int), .int .u16 (n : Int)] 29)).heap.size = w.heap.size + 1 := by simp
      have C_5 := Box5.make (w.alloc (.cells #[.int .u8 (p : Int), .int .u32 (a : Int), .int .u16 (m : Int), .int .u32 (b : Int), .int .u16 (n : Int)] 29)) (.int .u8 (q : Int)) (.int .u32 (c : Int)) (.int .u16 (k : Int)) (.int .u32 (d : Int)) (.int .u16 (j : Int)) 29
      rw [hs_] at C_5
      clear hs_
      have B6 := B3.alloc B3.size (.cells #[.int .u8 (q : Int), .int .u32 (c : Int), .int .u16 (k : Int), .int .u32 (d : Int), .int .u16 (j : Int)] 29)
      clear A_2 B3
      obtain ⟨u1, hu1⟩ : ∃ x, x = (w.alloc (.cells #[.int .u8 (p : Int), .int .u32 (a : Int), .int .u16 (m : Int), .int .u32 (b : Int), .int .u16 (n : Int)] 29)).alloc (.cells #[.int .u8 (q : Int), .int .u32 (c : Int), .int .u16 (k : Int), .int .u32 (d : Int), .int .u16 (j : Int)] 29) := ⟨_, rfl⟩
      rw [← hu1] at A_4 C_5 B6 ⊢
      clear hu1
      have HT := ht.on B6
      obtain ⟨za, ga0, ga1, ga2, ga3, ga4⟩ := id A_4
      have Fa0 : ∀ x : Later u1.heap.size u1, x.u.cell? ⟨w.heap.size, 0, none⟩ = some (.int .u8 (p : Int)) := fun x => x.block za ga0
      have Fa1 : ∀ x : Later u1.heap.size u1, x.u.cell? ⟨w.heap.size, 1, none⟩ = some (.int .u32 (a : Int)) := fun x => x.block za ga1
      have Fa2 : ∀ x : Later u1.heap.size u1, x.u.cell? ⟨w.heap.size, 2, none⟩ = some (.int .u16 (m : Int)) := fun x => x.block za ga2
      have Fa3 : ∀ x : Later u1.heap.size u1, x.u.cell? ⟨w.heap.size, 3, none⟩ = some (.int .u32 (b : Int)) := fun x => x.block za ga3
      have Fa4 : ∀ x : Later u1.heap.size u1, x.u.cell? ⟨w.heap.size, 4, none⟩ = some (.int .u16 (n : Int)) := fun x => x.block za ga4
      clear ga0 ga1 ga2 ga3 ga4
      refine region_later (B := u1.heap.size) (by kernel_rfl) (by kernel_rfl) ?_
      repeat (go_big_quiet_step (first
        | (go_at_call_of 9 (#[Value.agg #[.int .u8 (p : Int), .int .u32 (a : Int), .int .u16 (m : Int), .int .u32 (b : Int), .int .u16 (n : Int)]]); exact later_of _ (Nat.le_refl _) (cB1 _ (HT.on (Later.h _))))
        | (go_at_call_of 9 (#[Value.agg #[.int .u8 (p : Int), .int .u32 (b : Int), .int .u16 (n : Int), .int .u32 (a : Int), .int .u16 (m : Int)]]); exact later_of _ (Nat.le_refl _) (cB2 _ (HT.on (Later.h _))))
        | (go_at_call_of 8 (#[Value.agg #[.int .u8 (p : Int), .int .u32 (a : Int), .int .u16 (m : Int), .int .u32 (b : Int), .int .u16 (n : Int)]]); exact later_of _ (Nat.le_refl _) (cM1 _ (HT.on (Later.h _))))
        | (go_at_call_of 8 (#[Value.agg #[.int .u8 (p : Int), .int .u32 (b : Int), .int .u16 (n : Int), .int .u32 (a : Int), .int .u16 (m : Int)]]); exact later_of _ (Nat.le_refl _) (cM2 _ (HT.on (Later.h _))))))
      refine later_end fun w2 x2 => ?_
      have A_7 := A_4.on x2
      have C_8 := C_5.on x2
      have B9 := B6.trans (x2.mono B6.size)
      clear Fa0 Fa1 Fa2 Fa3 Fa4 za A_4 C_5 B6 x2
      clear HT
      have HT := ht.on B9
      go_wp2_with fail
      obtain ⟨za, ga0, ga1, ga2, ga3, ga4⟩ := id A_7
      have Fa0 : ∀ x : Later w2.heap.size w2, x.u.cell? ⟨w.heap.size, 0, none⟩ = some (.int .u8 (p : Int)) := fun x => x.block za ga0
      have Fa1 : ∀ x : Later w2.heap.size w2, x.u.cell? ⟨w.heap.size, 1, none⟩ = some (.int .u32 (a : Int)) := fun x => x.block za ga1
      have Fa2 : ∀ x : Later w2.heap.size w2, x.u.cell? ⟨w.heap.size, 2, none⟩ = some (.int .u16 (m : Int)) := fun x => x.block za ga2
      have Fa3 : ∀ x : Later w2.heap.size w2, x.u.cell? ⟨w.heap.size, 3, none⟩ = some (.int .u32 (b : Int)) := fun x => x.block za ga3
      have Fa4 : ∀ x : Later w2.heap.size w2, x.u.cell? ⟨w.heap.size, 4, none⟩ = some (.int .u16 (n : Int)) := fun x => x.block za ga4
      clear ga0 ga1 ga2 ga3 ga4
      obtain ⟨zc, gc0, gc1, gc2, gc3, gc4⟩ := id C_8
      have Fc0 : ∀ x : Later w2.heap.size w2, x.u.cell? ⟨(w.heap.size + 1), 0, none⟩ = some (.int .u8 (q : Int)) := fun x => x.block zc gc0
      have Fc1 : ∀ x : Later w2.heap.size w2, x.u.cell? ⟨(w.heap.size + 1), 1, none⟩ = some (.int .u32 (c : Int)) := fun x => x.block zc gc1
      have Fc2 : ∀ x : Later w2.heap.size w2, x.u.cell? ⟨(w.heap.size + 1), 2, none⟩ = some (.int .u16 (k : Int)) := fun x => x.block zc gc2
      have Fc3 : ∀ x : Later w2.heap.size w2, x.u.cell? ⟨(w.heap.size + 1), 3, none⟩ = some (.int .u32 (d : Int)) := fun x => x.block zc gc3
      have Fc4 : ∀ x : Later w2.heap.size w2, x.u.cell? ⟨(w.heap.size + 1), 4, none⟩ = some (.int .u16 (j : Int)) := fun x => x.block zc gc4
      clear gc0 gc1 gc2 gc3 gc4
      refine region_later (B := w2.heap.size) (by kernel_rfl) (by kernel_rfl) ?_
      repeat (go_big_quiet_step (first
        | (go_at_call_of 10 (#[Value.agg #[.int .u8 (p : Int), .int .u32 (a : Int), .int .u16 (m : Int), .int .u32 (b : Int), .int .u16 (n : Int)], Value.agg #[.int .u8 (q : Int), .int .u32 (c : Int), .int .u16 (k : Int), .int .u32 (d : Int), .int .u16 (j : Int)]]); exact later_of _ (Nat.le_refl _) (cL1 _ (HT.on (Later.h _))))
        | (go_at_call_of 10 (#[Value.agg #[.int .u8 (q : Int), .int .u32 (c : Int), .int .u16 (k : Int), .int .u32 (d : Int), .int .u16 (j : Int)], Value.agg #[.int .u8 (p : Int), .int .u32 (a : Int), .int .u16 (m : Int), .int .u32 (b : Int), .int .u16 (n : Int)]]); exact later_of _ (Nat.le_refl _) (cL2 _ (HT.on (Later.h _))))))
      refine later_end fun w3 x3 => ?_
      have A_10 := A_7.on x3
      have C_11 := C_8.on x3
      have B12 := B9.trans (x3.mono B9.size)
      clear Fa0 Fa1 Fa2 Fa3 Fa4 za Fc0 Fc1 Fc2 Fc3 Fc4 zc A_7 C_8 B9 x3
      clear HT
      obtain ⟨_, a1_0, a1_1, a1_2, a1_3, a1_4⟩ := id A_10
      obtain ⟨_, c2_0, c2_1, c2_2, c2_3, c2_4⟩ := id C_11
      go_wp2_with fail
      refine (cT1 _ (ht.on B12)).mono ?_; rintro e w4 ⟨rfl, x4⟩
      have A_13 := A_10.on x4
      have C_14 := C_11.on x4
      have B15 := B12.trans (x4.mono B12.size)
      clear a1_0 a1_1 a1_2 a1_3 a1_4 c2_0 c2_1 c2_2 c2_3 c2_4 A_10 C_11 B12 x4
      go_wp2_with fail
      refine (cP _ (ht.on B15)).mono ?_; rintro e w5 ⟨rfl, x5⟩
      have A_16 := A_13.on x5
      have C_17 := C_14.on x5
      have B18 := B15.trans (x5.mono B15.size)
      clear A_13 C_14 B15 x5
      clear cP
      have A_19 := A_16.past (o := (.cells #[.int .u8 (p : Int), .int .u32 (a : Int), .int .u16 (m : Int), .int .u32 (b : Int), .int .u16 (n : Int)] 29))
      have C_20 := C_17.past (o := (.cells #[.int .u8 (p : Int), .int .u32 (a : Int), .int .u16 (m : Int), .int .u32 (b : Int), .int .u16 (n : Int)] 29))
      have U_21 := Box5.make w5 (.int .u8 (p : Int)) (.int .u32 (a : Int)) (.int .u16 (m : Int)) (.int .u32 (b : Int)) (.int .u16 (n : Int)) 29
      have B22 := B18.alloc B18.size (.cells #[.int .u8 (p : Int), .int .u32 (a : Int), .int .u16 (m : Int), .int .u32 (b : Int), .int .u16 (n : Int)] 29)
      clear A_16 C_17 B18
      obtain ⟨_, a3_0, a3_1, a3_2, a3_3, a3_4⟩ := id A_19
      go_wp2_with fail
      refine (cM1 _ (ht.on B22)).mono ?_; rintro e w6 ⟨rfl, x6⟩
      have A_23 := A_19.on x6
      have C_24 := C_20.on x6
      have U_25 := U_21.on x6
      have B26 := B22.trans (x6.mono B22.size)
      clear a3_0 a3_1 a3_2 a3_3 a3_4 A_19 C_20 U_21 B22 x6
      have HT := ht.on B26
      go_wp2_with fail
      obtain ⟨za, ga0, ga1, ga2, ga3, ga4⟩ := id A_23
      have Fa0 : ∀ x : Later w6.heap.size w6, x.u.cell? ⟨w.heap.size, 0, none⟩ = some (.int .u8 (p : Int)) := fun x => x.block za ga0
      have Fa1 : ∀ x : Later w6.heap.size w6, x.u.cell? ⟨w.heap.size, 1, none⟩ = some (.int .u32 (a : Int)) := fun x => x.block za ga1
      have Fa2 : ∀ x : Later w6.heap.size w6, x.u.cell? ⟨w.heap.size, 2, none⟩ = some (.int .u16 (m : Int)) := fun x => x.block za ga2
      have Fa3 : ∀ x : Later w6.heap.size w6, x.u.cell? ⟨w.heap.size, 3, none⟩ = some (.int .u32 (b : Int)) := fun x => x.block za ga3
      have Fa4 : ∀ x : Later w6.heap.size w6, x.u.cell? ⟨w.heap.size, 4, none⟩ = some (.int .u16 (n : Int)) := fun x => x.block za ga4
      clear ga0 ga1 ga2 ga3 ga4
      obtain ⟨zc, gc0, gc1, gc2, gc3, gc4⟩ := id C_24
      have Fc0 : ∀ x : Later w6.heap.size w6, x.u.cell? ⟨(w.heap.size + 1), 0, none⟩ = some (.int .u8 (q : Int)) := fun x => x.block zc gc0
      have Fc1 : ∀ x : Later w6.heap.size w6, x.u.cell? ⟨(w.heap.size + 1), 1, none⟩ = some (.int .u32 (c : Int)) := fun x => x.block zc gc1
      have Fc2 : ∀ x : Later w6.heap.size w6, x.u.cell? ⟨(w.heap.size + 1), 2, none⟩ = some (.int .u16 (k : Int)) := fun x => x.block zc gc2
      have Fc3 : ∀ x : Later w6.heap.size w6, x.u.cell? ⟨(w.heap.size + 1), 3, none⟩ = some (.int .u32 (d : Int)) := fun x => x.block zc gc3
      have Fc4 : ∀ x : Later w6.heap.size w6, x.u.cell? ⟨(w.heap.size + 1), 4, none⟩ = some (.int .u16 (j : Int)) := fun x => x.block zc gc4
      clear gc0 gc1 gc2 gc3 gc4
      obtain ⟨zu, gu0, gu1, gu2, gu3, gu4⟩ := id U_25
      have Fu0 : ∀ x : Later w6.heap.size w6, x.u.cell? ⟨w5.heap.size, 0, none⟩ = some (.int .u8 (p : Int)) := fun x => x.block zu gu0
      have Fu1 : ∀ x : Later w6.heap.size w6, x.u.cell? ⟨w5.heap.size, 1, none⟩ = some (.int .u32 (a : Int)) := fun x => x.block zu gu1
      have Fu2 : ∀ x : Later w6.heap.size w6, x.u.cell? ⟨w5.heap.size, 2, none⟩ = some (.int .u16 (m : Int)) := fun x => x.block zu gu2
      have Fu3 : ∀ x : Later w6.heap.size w6, x.u.cell? ⟨w5.heap.size, 3, none⟩ = some (.int .u32 (b : Int)) := fun x => x.block zu gu3
      have Fu4 : ∀ x : Later w6.heap.size w6, x.u.cell? ⟨w5.heap.size, 4, none⟩ = some (.int .u16 (n : Int)) := fun x => x.block zu gu4
      clear gu0 gu1 gu2 gu3 gu4
      refine region_later (B := w6.heap.size) (by kernel_rfl) (by kernel_rfl) ?_
      repeat (go_big_quiet_step (first
        | (go_at_call_of 8 (#[Value.agg #[.int .u8 (q : Int), .int .u32 (c : Int), .int .u16 (k : Int), .int .u32 (d : Int), .int .u16 (j : Int)]]); exact later_of _ (Nat.le_refl _) (cM3 _ (HT.on (Later.h _))))
        | (go_at_call_of 12 (#[Value.agg #[.int .u8 (p : Int), .int .u32 (a : Int), .int .u16 (m : Int), .int .u32 (b : Int), .int .u16 (n : Int)]]); exact later_of _ (Nat.le_refl _) (cT1 _ (HT.on (Later.h _))))
        | (go_at_call_of 12 (#[Value.agg #[.int .u8 (q : Int), .int .u32 (c : Int), .int .u16 (k : Int), .int .u32 (d : Int), .int .u16 (j : Int)]]); exact later_of _ (Nat.le_refl _) (cT2 _ (HT.on (Later.h _))))
        | (go_at_call 6; exact later_of _ (Nat.le_refl _) (watched_ K _ (HT.on (Later.h _))))))
      refine later_end fun w7 x7 => ?_
      have A_27 := A_23.on x7
      have C_28 := C_24.on x7
      have U_29 := U_25.on x7
      have B30 := B26.trans (x7.mono B26.size)
      clear Fa0 Fa1 Fa2 Fa3 Fa4 za Fc0 Fc1 Fc2 Fc3 Fc4 zc Fu0 Fu1 Fu2 Fu3 Fu4 zu A_23 C_24 U_25 B26 x7
      go_wp2
      go_ret
      exact ⟨rfl, B30⟩
set_option maxRecDepth 100000 in
set_option maxHeartbeats 8000000 in
theorem back_1 (p a m b n q c k d j : Nat) (S1 S2 : ByteArray) (mv nv lv : Bool) (K : TupOk) (w : World) (ht : Tab w) (cB1 : ∀ u : World, Tab u → Calls Tryd.prog 9 #[.agg #[.int .u8 (p : Int), .int .u32 (a : Int), .int .u16 (m : Int), .int .u32 (b : Int), .int .u16 (n : Int)]] u fun e w' => e = .returned (.agg #[.int .u8 (p : Int), .int .u32 (b : Int), .int .u16 (n : Int), .int .u32 (a : Int), .int .u16 (m : Int)]) ∧ Below u.heap.size u w')
    (cB2 : ∀ u : World, Tab u → Calls Tryd.prog 9 #[.agg #[.int .u8 (p : Int), .int .u32 (b : Int), .int .u16 (n : Int), .int .u32 (a : Int), .int .u16 (m : Int)]] u fun e w' => e = .returned (.agg #[.int .u8 (p : Int), .int .u32 (a : Int), .int .u16 (m : Int), .int .u32 (b : Int), .int .u16 (n : Int)]) ∧ Below u.heap.size u w')
    (cM1 : ∀ u : World, Tab u → Calls Tryd.prog 8 #[.agg #[.int .u8 (p : Int), .int .u32 (a : Int), .int .u16 (m : Int), .int .u32 (b : Int), .int .u16 (n : Int)]] u fun e w' => e = .returned (.bool mv) ∧ Below u.heap.size u w')
    (cM2 : ∀ u : World, Tab u → Calls Tryd.prog 8 #[.agg #[.int .u8 (p : Int), .int .u32 (b : Int), .int .u16 (n : Int), .int .u32 (a : Int), .int .u16 (m : Int)]] u fun e w' => e = .returned (.bool mv) ∧ Below u.heap.size u w')
    (cT1 : ∀ u : World, Tab u → Calls Tryd.prog 12 #[.agg #[.int .u8 (p : Int), .int .u32 (a : Int), .int .u16 (m : Int), .int .u32 (b : Int), .int .u16 (n : Int)]] u fun e w' => e = .returned (.string S1) ∧ Below u.heap.size u w')
    (cM3 : ∀ u : World, Tab u → Calls Tryd.prog 8 #[.agg #[.int .u8 (p : Int), .int .u32 (c : Int), .int .u16 (k : Int), .int .u32 (d : Int), .int .u16 (j : Int)]] u fun e w' => e = .returned (.bool nv) ∧ Below u.heap.size u w')
    (cL1 : ∀ u : World, Tab u → Calls Tryd.prog 10 #[.agg #[.int .u8 (p : Int), .int .u32 (a : Int), .int .u16 (m : Int), .int .u32 (b : Int), .int .u16 (n : Int)], .agg #[.int .u8 (p : Int), .int .u32 (c : Int), .int .u16 (k : Int), .int .u32 (d : Int), .int .u16 (j : Int)]] u fun e w' => e = .returned (.bool lv) ∧ Below u.heap.size u w')
    (cL2 : ∀ u : World, Tab u → Calls Tryd.prog 10 #[.agg #[.int .u8 (p : Int), .int .u32 (c : Int), .int .u16 (k : Int), .int .u32 (d : Int), .int .u16 (j : Int)], .agg #[.int .u8 (p : Int), .int .u32 (a : Int), .int .u16 (m : Int), .int .u32 (b : Int), .int .u16 (n : Int)]] u fun e w' => e = .returned (.bool (!lv)) ∧ Below u.heap.size u w')
    (cT2 : ∀ u : World, Tab u → Calls Tryd.prog 12 #[.agg #[.int .u8 (p : Int), .int .u32 (c : Int), .int .u16 (k : Int), .int .u32 (d : Int), .int .u16 (j : Int)]] u fun e w' => e = .returned (.string S2) ∧ Below u.heap.size u w')
    (cP1 : mv = true → ∀ u : World, Tab u → Calls Tryd.prog 11 #[.string S1] u fun e w' => e = .returned (.tuple #[.agg #[.int .u8 (p : Int), .int .u32 (a : Int), .int .u16 (m : Int), .int .u32 (b : Int), .int .u16 (n : Int)], .int .i64 0]) ∧ Below u.heap.size u w')
    (cP0 : mv = false → S1 = ⟨#[]⟩ ∧ ∀ u : World, Tab u → Calls Tryd.prog 11 #[.string S1] u fun e w' => e = .returned (.tuple #[.agg #[.int .u8 0, .int .u32 0, .int .u16 0, .int .u32 0, .int .u16 0], .int .i64 3]) ∧ Below u.heap.size u w')
    (hne : ¬ a = c)
    (hS : mv = true → nv = true → ¬ S1 = S2) :
    Calls Tryd.prog 4 #[.agg #[.int .u8 (p : Int), .int .u32 (a : Int), .int .u16 (m : Int), .int .u32 (b : Int), .int .u16 (n : Int)], .agg #[.int .u8 (p : Int), .int .u32 (c : Int), .int .u16 (k : Int), .int .u32 (d : Int), .int .u16 (j : Int)]] w fun e w' => e = .returned (.bool true) ∧ Below w.heap.size w w' := by
  have ne1 : ((a : Int) == (c : Int)) = false := by simp; omega
  have ne2 : ((a : Nat) == (c : Nat)) = false := by simpa using hne
  clear hne
  have hSS : (S1.toList == S1.toList) = true := by simp
  have key : mv = false ∨ (mv = true ∧ nv = false) ∨ (mv = true ∧ nv = true) := by cases mv <;> cases nv <;> simp
  rcases key with rfl | ⟨rfl, rfl⟩ | ⟨rfl, rfl⟩
  · have cP := (cP0 rfl).2
    have e0 := (cP0 rfl).1
    subst e0
    clear cP0 cP1 hS
    cases lv
    all_goals
      go_enter Tryd.func4, Tryd.ntmps4
      have B1 := Below.refl w.heap.size w
      go_wp2_with fail
      have A_2 := Box5.make w (.int .u8 (p : Int)) (.int .u32 (a : Int)) (.int .u16 (m : Int)) (.int .u32 (b : Int)) (.int .u16 (n : Int)) 29
      have B3 := B1.alloc B1.size (.cells #[.int .u8 (p : Int), .int .u32 (a : Int), .int .u16 (m : Int), .int .u32 (b : Int), .int .u16 (n : Int)] 29)
      clear B1
      have A_4 := A_2.past (o := (.cells #[.int .u8 (p : Int), .int .u32 (c : Int), .int .u16 (k : Int), .int .u32 (d : Int), .int .u16 (j : Int)] 29))
      have hs_ : (w.alloc (.cells #[.int .u8 (p : Int), .int .u32 (a : Int), .int .u16 (m : Int), .int .u32 (b : Int), .int .u16 (n : Int)] 29)).heap.size = w.heap.size + 1 := by simp
      have C_5 := Box5.make (w.alloc (.cells #[.int .u8 (p : Int), .int .u32 (a : Int), .int .u16 (m : Int), .int .u32 (b : Int), .int .u16 (n : Int)] 29)) (.int .u8 (p : Int)) (.int .u32 (c : Int)) (.int .u16 (k : Int)) (.int .u32 (d : Int)) (.int .u16 (j : Int)) 29
      rw [hs_] at C_5
      clear hs_
      have B6 := B3.alloc B3.size (.cells #[.int .u8 (p : Int), .int .u32 (c : Int), .int .u16 (k : Int), .int .u32 (d : Int), .int .u16 (j : Int)] 29)
      clear A_2 B3
      obtain ⟨u1, hu1⟩ : ∃ x, x = (w.alloc (.cells #[.int .u8 (p : Int), .int .u32 (a : Int), .int .u16 (m : Int), .int .u32 (b : Int), .int .u16 (n : Int)] 29)).alloc (.cells #[.int .u8 (p : Int), .int .u32 (c : Int), .int .u16 (k : Int), .int .u32 (d : Int), .int .u16 (j : Int)] 29) := ⟨_, rfl⟩
      rw [← hu1] at A_4 C_5 B6 ⊢
      clear hu1
      have HT := ht.on B6
      obtain ⟨za, ga0, ga1, ga2, ga3, ga4⟩ := id A_4
      have Fa0 : ∀ x : Later u1.heap.size u1, x.u.cell? ⟨w.heap.size, 0, none⟩ = some (.int .u8 (p : Int)) := fun x => x.block za ga0
      have Fa1 : ∀ x : Later u1.heap.size u1, x.u.cell? ⟨w.heap.size, 1, none⟩ = some (.int .u32 (a : Int)) := fun x => x.block za ga1
      have Fa2 : ∀ x : Later u1.heap.size u1, x.u.cell? ⟨w.heap.size, 2, none⟩ = some (.int .u16 (m : Int)) := fun x => x.block za ga2
      have Fa3 : ∀ x : Later u1.heap.size u1, x.u.cell? ⟨w.heap.size, 3, none⟩ = some (.int .u32 (b : Int)) := fun x => x.block za ga3
      have Fa4 : ∀ x : Later u1.heap.size u1, x.u.cell? ⟨w.heap.size, 4, none⟩ = some (.int .u16 (n : Int)) := fun x => x.block za ga4
      clear ga0 ga1 ga2 ga3 ga4
      refine region_later (B := u1.heap.size) (by kernel_rfl) (by kernel_rfl) ?_
      repeat (go_big_quiet_step (first
        | (go_at_call_of 9 (#[Value.agg #[.int .u8 (p : Int), .int .u32 (a : Int), .int .u16 (m : Int), .int .u32 (b : Int), .int .u16 (n : Int)]]); exact later_of _ (Nat.le_refl _) (cB1 _ (HT.on (Later.h _))))
        | (go_at_call_of 9 (#[Value.agg #[.int .u8 (p : Int), .int .u32 (b : Int), .int .u16 (n : Int), .int .u32 (a : Int), .int .u16 (m : Int)]]); exact later_of _ (Nat.le_refl _) (cB2 _ (HT.on (Later.h _))))
        | (go_at_call_of 8 (#[Value.agg #[.int .u8 (p : Int), .int .u32 (a : Int), .int .u16 (m : Int), .int .u32 (b : Int), .int .u16 (n : Int)]]); exact later_of _ (Nat.le_refl _) (cM1 _ (HT.on (Later.h _))))
        | (go_at_call_of 8 (#[Value.agg #[.int .u8 (p : Int), .int .u32 (b : Int), .int .u16 (n : Int), .int .u32 (a : Int), .int .u16 (m : Int)]]); exact later_of _ (Nat.le_refl _) (cM2 _ (HT.on (Later.h _))))))
      refine later_end fun w2 x2 => ?_
      have A_7 := A_4.on x2
      have C_8 := C_5.on x2
      have B9 := B6.trans (x2.mono B6.size)
      clear Fa0 Fa1 Fa2 Fa3 Fa4 za A_4 C_5 B6 x2
      clear HT
      have HT := ht.on B9
      go_wp2_with fail
      obtain ⟨za, ga0, ga1, ga2, ga3, ga4⟩ := id A_7
      have Fa0 : ∀ x : Later w2.heap.size w2, x.u.cell? ⟨w.heap.size, 0, none⟩ = some (.int .u8 (p : Int)) := fun x => x.block za ga0
      have Fa1 : ∀ x : Later w2.heap.size w2, x.u.cell? ⟨w.heap.size, 1, none⟩ = some (.int .u32 (a : Int)) := fun x => x.block za ga1
      have Fa2 : ∀ x : Later w2.heap.size w2, x.u.cell? ⟨w.heap.size, 2, none⟩ = some (.int .u16 (m : Int)) := fun x => x.block za ga2
      have Fa3 : ∀ x : Later w2.heap.size w2, x.u.cell? ⟨w.heap.size, 3, none⟩ = some (.int .u32 (b : Int)) := fun x => x.block za ga3
      have Fa4 : ∀ x : Later w2.heap.size w2, x.u.cell? ⟨w.heap.size, 4, none⟩ = some (.int .u16 (n : Int)) := fun x => x.block za ga4
      clear ga0 ga1 ga2 ga3 ga4
      obtain ⟨zc, gc0, gc1, gc2, gc3, gc4⟩ := id C_8
      have Fc0 : ∀ x : Later w2.heap.size w2, x.u.cell? ⟨(w.heap.size + 1), 0, none⟩ = some (.int .u8 (p : Int)) := fun x => x.block zc gc0
      have Fc1 : ∀ x : Later w2.heap.size w2, x.u.cell? ⟨(w.heap.size + 1), 1, none⟩ = some (.int .u32 (c : Int)) := fun x => x.block zc gc1
      have Fc2 : ∀ x : Later w2.heap.size w2, x.u.cell? ⟨(w.heap.size + 1), 2, none⟩ = some (.int .u16 (k : Int)) := fun x => x.block zc gc2
      have Fc3 : ∀ x : Later w2.heap.size w2, x.u.cell? ⟨(w.heap.size + 1), 3, none⟩ = some (.int .u32 (d : Int)) := fun x => x.block zc gc3
      have Fc4 : ∀ x : Later w2.heap.size w2, x.u.cell? ⟨(w.heap.size + 1), 4, none⟩ = some (.int .u16 (j : Int)) := fun x => x.block zc gc4
      clear gc0 gc1 gc2 gc3 gc4
      refine region_later (B := w2.heap.size) (by kernel_rfl) (by kernel_rfl) ?_
      repeat (go_big_quiet_step (first
        | (go_at_call_of 10 (#[Value.agg #[.int .u8 (p : Int), .int .u32 (a : Int), .int .u16 (m : Int), .int .u32 (b : Int), .int .u16 (n : Int)], Value.agg #[.int .u8 (p : Int), .int .u32 (c : Int), .int .u16 (k : Int), .int .u32 (d : Int), .int .u16 (j : Int)]]); exact later_of _ (Nat.le_refl _) (cL1 _ (HT.on (Later.h _))))
        | (go_at_call_of 10 (#[Value.agg #[.int .u8 (p : Int), .int .u32 (c : Int), .int .u16 (k : Int), .int .u32 (d : Int), .int .u16 (j : Int)], Value.agg #[.int .u8 (p : Int), .int .u32 (a : Int), .int .u16 (m : Int), .int .u32 (b : Int), .int .u16 (n : Int)]]); exact later_of _ (Nat.le_refl _) (cL2 _ (HT.on (Later.h _))))))
      refine later_end fun w3 x3 => ?_
      have A_10 := A_7.on x3
      have C_11 := C_8.on x3
      have B12 := B9.trans (x3.mono B9.size)
      clear Fa0 Fa1 Fa2 Fa3 Fa4 za Fc0 Fc1 Fc2 Fc3 Fc4 zc A_7 C_8 B9 x3
      clear HT
      obtain ⟨_, a1_0, a1_1, a1_2, a1_3, a1_4⟩ := id A_10
      obtain ⟨_, c2_0, c2_1, c2_2, c2_3, c2_4⟩ := id C_11
      go_wp2_with fail
      refine (cT1 _ (ht.on B12)).mono ?_; rintro e w4 ⟨rfl, x4⟩
      have A_13 := A_10.on x4
      have C_14 := C_11.on x4
      have B15 := B12.trans (x4.mono B12.size)
      clear a1_0 a1_1 a1_2 a1_3 a1_4 c2_0 c2_1 c2_2 c2_3 c2_4 A_10 C_11 B12 x4
      go_wp2_with fail
      refine (cP _ (ht.on B15)).mono ?_; rintro e w5 ⟨rfl, x5⟩
      have A_16 := A_13.on x5
      have C_17 := C_14.on x5
      have B18 := B15.trans (x5.mono B15.size)
      clear A_13 C_14 B15 x5
      clear cP
      have A_19 := A_16.past (o := (.cells #[.int .u8 0, .int .u32 0, .int .u16 0, .int .u32 0, .int .u16 0] 29))
      have C_20 := C_17.past (o := (.cells #[.int .u8 0, .int .u32 0, .int .u16 0, .int .u32 0, .int .u16 0] 29))
      have U_21 := Box5.make w5 (.int .u8 0) (.int .u32 0) (.int .u16 0) (.int .u32 0) (.int .u16 0) 29
      have B22 := B18.alloc B18.size (.cells #[.int .u8 0, .int .u32 0, .int .u16 0, .int .u32 0, .int .u16 0] 29)
      clear A_16 C_17 B18
      obtain ⟨_, a3_0, a3_1, a3_2, a3_3, a3_4⟩ := id A_19
      go_wp2_with fail
      refine (cM1 _ (ht.on B22)).mono ?_; rintro e w6 ⟨rfl, x6⟩
      have A_23 := A_19.on x6
      have C_24 := C_20.on x6
      have U_25 := U_21.on x6
      have B26 := B22.trans (x6.mono B22.size)
      clear a3_0 a3_1 a3_2 a3_3 a3_4 A_19 C_20 U_21 B22 x6
      obtain ⟨_, a4_0, a4_1, a4_2, a4_3, a4_4⟩ := id A_23
      go_wp2_with fail
      refine (cT1 _ (ht.on B26)).mono ?_; rintro e w7 ⟨rfl, x7⟩
      have A_27 := A_23.on x7
      have C_28 := C_24.on x7
      have U_29 := U_25.on x7
      have B30 := B26.trans (x7.mono B26.size)
      clear a4_0 a4_1 a4_2 a4_3 a4_4 A_23 C_24 U_25 B26 x7
      go_wp2_with fail
      refine (watched_ K _ (ht.on B30)).mono ?_; rintro e w8 ⟨rfl, x8⟩
      have A_31 := A_27.on x8
      have C_32 := C_28.on x8
      have U_33 := U_29.on x8
      have B34 := B30.trans (x8.mono B30.size)
      clear A_27 C_28 U_29 B30 x8
      go_wp2
      go_ret
      exact ⟨rfl, B34⟩
  · have cP := cP1 rfl
    clear cP0 cP1 hS
    cases lv
    all_goals
      go_enter Tryd.func4, Tryd.ntmps4
      have B1 := Below.refl w.heap.size w
      go_wp2_with fail
      have A_2 := Box5.make w (.int .u8 (p : Int)) (.int .u32 (a : Int)) (.int .u16 (m : Int)) (.int .u32 (b : Int)) (.int .u16 (n : Int)) 29
      have B3 := B1.alloc B1.size (.cells #[.int .u8 (p : Int), .int .u32 (a : Int), .int .u16 (m : Int), .int .u32 (b : Int), .int .u16 (n : Int)] 29)
      clear B1
      have A_4 := A_2.past (o := (.cells #[.int .u8 (p : Int), .int .u32 (c : Int), .int .u16 (k : Int), .int .u32 (d : Int), .int .u16 (j : Int)] 29))
      have hs_ : (w.alloc (.cells #[.int .u8 (p : Int), .int .u32 (a : Int), .int .u16 (m : Int), .int .u32 (b : Int), .int .u16 (n : Int)] 29)).heap.size = w.heap.size + 1 := by simp
      have C_5 := Box5.make (w.alloc (.cells #[.int .u8 (p : Int), .int .u32 (a : Int), .int .u16 (m : Int), .int .u32 (b : Int), .int .u16 (n : Int)] 29)) (.int .u8 (p : Int)) (.int .u32 (c : Int)) (.int .u16 (k : Int)) (.int .u32 (d : Int)) (.int .u16 (j : Int)) 29
      rw [hs_] at C_5
      clear hs_
      have B6 := B3.alloc B3.size (.cells #[.int .u8 (p : Int), .int .u32 (c : Int), .int .u16 (k : Int), .int .u32 (d : Int), .int .u16 (j : Int)] 29)
      clear A_2 B3
      obtain ⟨u1, hu1⟩ : ∃ x, x = (w.alloc (.cells #[.int .u8 (p : Int), .int .u32 (a : Int), .int .u16 (m : Int), .int .u32 (b : Int), .int .u16 (n : Int)] 29)).alloc (.cells #[.int .u8 (p : Int), .int .u32 (c : Int), .int .u16 (k : Int), .int .u32 (d : Int), .int .u16 (j : Int)] 29) := ⟨_, rfl⟩
      rw [← hu1] at A_4 C_5 B6 ⊢
      clear hu1
      have HT := ht.on B6
      obtain ⟨za, ga0, ga1, ga2, ga3, ga4⟩ := id A_4
      have Fa0 : ∀ x : Later u1.heap.size u1, x.u.cell? ⟨w.heap.size, 0, none⟩ = some (.int .u8 (p : Int)) := fun x => x.block za ga0
      have Fa1 : ∀ x : Later u1.heap.size u1, x.u.cell? ⟨w.heap.size, 1, none⟩ = some (.int .u32 (a : Int)) := fun x => x.block za ga1
      have Fa2 : ∀ x : Later u1.heap.size u1, x.u.cell? ⟨w.heap.size, 2, none⟩ = some (.int .u16 (m : Int)) := fun x => x.block za ga2
      have Fa3 : ∀ x : Later u1.heap.size u1, x.u.cell? ⟨w.heap.size, 3, none⟩ = some (.int .u32 (b : Int)) := fun x => x.block za ga3
      have Fa4 : ∀ x : Later u1.heap.size u1, x.u.cell? ⟨w.heap.size, 4, none⟩ = some (.int .u16 (n : Int)) := fun x => x.block za ga4
      clear ga0 ga1 ga2 ga3 ga4
      refine region_later (B := u1.heap.size) (by kernel_rfl) (by kernel_rfl) ?_
      repeat (go_big_quiet_step (first
        | (go_at_call_of 9 (#[Value.agg #[.int .u8 (p : Int), .int .u32 (a : Int), .int .u16 (m : Int), .int .u32 (b : Int), .int .u16 (n : Int)]]); exact later_of _ (Nat.le_refl _) (cB1 _ (HT.on (Later.h _))))
        | (go_at_call_of 9 (#[Value.agg #[.int .u8 (p : Int), .int .u32 (b : Int), .int .u16 (n : Int), .int .u32 (a : Int), .int .u16 (m : Int)]]); exact later_of _ (Nat.le_refl _) (cB2 _ (HT.on (Later.h _))))
        | (go_at_call_of 8 (#[Value.agg #[.int .u8 (p : Int), .int .u32 (a : Int), .int .u16 (m : Int), .int .u32 (b : Int), .int .u16 (n : Int)]]); exact later_of _ (Nat.le_refl _) (cM1 _ (HT.on (Later.h _))))
        | (go_at_call_of 8 (#[Value.agg #[.int .u8 (p : Int), .int .u32 (b : Int), .int .u16 (n : Int), .int .u32 (a : Int), .int .u16 (m : Int)]]); exact later_of _ (Nat.le_refl _) (cM2 _ (HT.on (Later.h _))))))
      refine later_end fun w2 x2 => ?_
      have A_7 := A_4.on x2
      have C_8 := C_5.on x2
      have B9 := B6.trans (x2.mono B6.size)
      clear Fa0 Fa1 Fa2 Fa3 Fa4 za A_4 C_5 B6 x2
      clear HT
      have HT := ht.on B9
      go_wp2_with fail
      obtain ⟨za, ga0, ga1, ga2, ga3, ga4⟩ := id A_7
      have Fa0 : ∀ x : Later w2.heap.size w2, x.u.cell? ⟨w.heap.size, 0, none⟩ = some (.int .u8 (p : Int)) := fun x => x.block za ga0
      have Fa1 : ∀ x : Later w2.heap.size w2, x.u.cell? ⟨w.heap.size, 1, none⟩ = some (.int .u32 (a : Int)) := fun x => x.block za ga1
      have Fa2 : ∀ x : Later w2.heap.size w2, x.u.cell? ⟨w.heap.size, 2, none⟩ = some (.int .u16 (m : Int)) := fun x => x.block za ga2
      have Fa3 : ∀ x : Later w2.heap.size w2, x.u.cell? ⟨w.heap.size, 3, none⟩ = some (.int .u32 (b : Int)) := fun x => x.block za ga3
      have Fa4 : ∀ x : Later w2.heap.size w2, x.u.cell? ⟨w.heap.size, 4, none⟩ = some (.int .u16 (n : Int)) := fun x => x.block za ga4
      clear ga0 ga1 ga2 ga3 ga4
      obtain ⟨zc, gc0, gc1, gc2, gc3, gc4⟩ := id C_8
      have Fc0 : ∀ x : Later w2.heap.size w2, x.u.cell? ⟨(w.heap.size + 1), 0, none⟩ = some (.int .u8 (p : Int)) := fun x => x.block zc gc0
      have Fc1 : ∀ x : Later w2.heap.size w2, x.u.cell? ⟨(w.heap.size + 1), 1, none⟩ = some (.int .u32 (c : Int)) := fun x => x.block zc gc1
      have Fc2 : ∀ x : Later w2.heap.size w2, x.u.cell? ⟨(w.heap.size + 1), 2, none⟩ = some (.int .u16 (k : Int)) := fun x => x.block zc gc2
      have Fc3 : ∀ x : Later w2.heap.size w2, x.u.cell? ⟨(w.heap.size + 1), 3, none⟩ = some (.int .u32 (d : Int)) := fun x => x.block zc gc3
      have Fc4 : ∀ x : Later w2.heap.size w2, x.u.cell? ⟨(w.heap.size + 1), 4, none⟩ = some (.int .u16 (j : Int)) := fun x => x.block zc gc4
      clear gc0 gc1 gc2 gc3 gc4
      refine region_later (B := w2.heap.size) (by kernel_rfl) (by kernel_rfl) ?_
      repeat (go_big_quiet_step (first
        | (go_at_call_of 10 (#[Value.agg #[.int .u8 (p : Int), .int .u32 (a : Int), .int .u16 (m : Int), .int .u32 (b : Int), .int .u16 (n : Int)], Value.agg #[.int .u8 (p : Int), .int .u32 (c : Int), .int .u16 (k : Int), .int .u32 (d : Int), .int .u16 (j : Int)]]); exact later_of _ (Nat.le_refl _) (cL1 _ (HT.on (Later.h _))))
        | (go_at_call_of 10 (#[Value.agg #[.int .u8 (p : Int), .int .u32 (c : Int), .int .u16 (k : Int), .int .u32 (d : Int), .int .u16 (j : Int)], Value.agg #[.int .u8 (p : Int), .int .u32 (a : Int), .int .u16 (m : Int), .int .u32 (b : Int), .int .u16 (n : Int)]]); exact later_of _ (Nat.le_refl _) (cL2 _ (HT.on (Later.h _))))))
      refine later_end fun w3 x3 => ?_
      have A_10 := A_7.on x3
      have C_11 := C_8.on x3
      have B12 := B9.trans (x3.mono B9.size)
      clear Fa0 Fa1 Fa2 Fa3 Fa4 za Fc0 Fc1 Fc2 Fc3 Fc4 zc A_7 C_8 B9 x3
      clear HT
      obtain ⟨_, a1_0, a1_1, a1_2, a1_3, a1_4⟩ := id A_10
      obtain ⟨_, c2_0, c2_1, c2_2, c2_3, c2_4⟩ := id C_11
      go_wp2_with fail
      refine (cT1 _ (ht.on B12)).mono ?_; rintro e w4 ⟨rfl, x4⟩
      have A_13 := A_10.on x4
      have C_14 := C_11.on x4
      have B15 := B12.trans (x4.mono B12.size)
      clear a1_0 a1_1 a1_2 a1_3 a1_4 c2_0 c2_1 c2_2 c2_3 c2_4 A_10 C_11 B12 x4
      go_wp2_with fail
      refine (cP _ (ht.on B15)).mono ?_; rintro e w5 ⟨rfl, x5⟩
      have A_16 := A_13.on x5
      have C_17 := C_14.on x5
      have B18 := B15.trans (x5.mono B15.size)
      clear A_13 C_14 B15 x5
      clear cP
      have A_19 := A_16.past (o := (.cells #[.int .u8 (p : Int), .int .u32 (a : Int), .int .u16 (m : Int), .int .u32 (b : Int), .int .u16 (n : Int)] 29))
      have C_20 := C_17.past (o := (.cells #[.int .u8 (p : Int), .int .u32 (a : Int), .int .u16 (m : Int), .int .u32 (b : Int), .int .u16 (n : Int)] 29))
      have U_21 := Box5.make w5 (.int .u8 (p : Int)) (.int .u32 (a : Int)) (.int .u16 (m : Int)) (.int .u32 (b : Int)) (.int .u16 (n : Int)) 29
      have B22 := B18.alloc B18.size (.cells #[.int .u8 (p : Int), .int .u32 (a : Int), .int .u16 (m : Int), .int .u32 (b : Int), .int .u16 (n : Int)] 29)
      clear A_16 C_17 B18
      obtain ⟨_, a3_0, a3_1, a3_2, a3_3, a3_4⟩ := id A_19
      go_wp2_with fail
      refine (cM1 _ (ht.on B22)).mono ?_; rintro e w6 ⟨rfl, x6⟩
      have A_23 := A_19.on x6
      have C_24 := C_20.on x6
      have U_25 := U_21.on x6
      have B26 := B22.trans (x6.mono B22.size)
      clear a3_0 a3_1 a3_2 a3_3 a3_4 A_19 C_20 U_21 B22 x6
      have HT := ht.on B26
      go_wp2_with fail
      obtain ⟨za, ga0, ga1, ga2, ga3, ga4⟩ := id A_23
      have Fa0 : ∀ x : Later w6.heap.size w6, x.u.cell? ⟨w.heap.size, 0, none⟩ = some (.int .u8 (p : Int)) := fun x => x.block za ga0
      have Fa1 : ∀ x : Later w6.heap.size w6, x.u.cell? ⟨w.heap.size, 1, none⟩ = some (.int .u32 (a : Int)) := fun x => x.block za ga1
      have Fa2 : ∀ x : Later w6.heap.size w6, x.u.cell? ⟨w.heap.size, 2, none⟩ = some (.int .u16 (m : Int)) := fun x => x.block za ga2
      have Fa3 : ∀ x : Later w6.heap.size w6, x.u.cell? ⟨w.heap.size, 3, none⟩ = some (.int .u32 (b : Int)) := fun x => x.block za ga3
      have Fa4 : ∀ x : Later w6.heap.size w6, x.u.cell? ⟨w.heap.size, 4, none⟩ = some (.int .u16 (n : Int)) := fun x => x.block za ga4
      clear ga0 ga1 ga2 ga3 ga4
      obtain ⟨zc, gc0, gc1, gc2, gc3, gc4⟩ := id C_24
      have Fc0 : ∀ x : Later w6.heap.size w6, x.u.cell? ⟨(w.heap.size + 1), 0, none⟩ = some (.int .u8 (p : Int)) := fun x => x.block zc gc0
      have Fc1 : ∀ x : Later w6.heap.size w6, x.u.cell? ⟨(w.heap.size + 1), 1, none⟩ = some (.int .u32 (c : Int)) := fun x => x.block zc gc1
      have Fc2 : ∀ x : Later w6.heap.size w6, x.u.cell? ⟨(w.heap.size + 1), 2, none⟩ = some (.int .u16 (k : Int)) := fun x => x.block zc gc2
      have Fc3 : ∀ x : Later w6.heap.size w6, x.u.cell? ⟨(w.heap.size + 1), 3, none⟩ = some (.int .u32 (d : Int)) := fun x => x.block zc gc3
      have Fc4 : ∀ x : Later w6.heap.size w6, x.u.cell? ⟨(w.heap.size + 1), 4, none⟩ = some (.int .u16 (j : Int)) := fun x => x.block zc gc4
      clear gc0 gc1 gc2 gc3 gc4
      obtain ⟨zu, gu0, gu1, gu2, gu3, gu4⟩ := id U_25
      have Fu0 : ∀ x : Later w6.heap.size w6, x.u.cell? ⟨w5.heap.size, 0, none⟩ = some (.int .u8 (p : Int)) := fun x => x.block zu gu0
      have Fu1 : ∀ x : Later w6.heap.size w6, x.u.cell? ⟨w5.heap.size, 1, none⟩ = some (.int .u32 (a : Int)) := fun x => x.block zu gu1
      have Fu2 : ∀ x : Later w6.heap.size w6, x.u.cell? ⟨w5.heap.size, 2, none⟩ = some (.int .u16 (m : Int)) := fun x => x.block zu gu2
      have Fu3 : ∀ x : Later w6.heap.size w6, x.u.cell? ⟨w5.heap.size, 3, none⟩ = some (.int .u32 (b : Int)) := fun x => x.block zu gu3
      have Fu4 : ∀ x : Later w6.heap.size w6, x.u.cell? ⟨w5.heap.size, 4, none⟩ = some (.int .u16 (n : Int)) := fun x => x.block zu gu4
      clear gu0 gu1 gu2 gu3 gu4
      refine region_later (B := w6.heap.size) (by kernel_rfl) (by kernel_rfl) ?_
      repeat (go_big_quiet_step (first
        | (go_at_call_of 8 (#[Value.agg #[.int .u8 (p : Int), .int .u32 (c : Int), .int .u16 (k : Int), .int .u32 (d : Int), .int .u16 (j : Int)]]); exact later_of _ (Nat.le_refl _) (cM3 _ (HT.on (Later.h _))))
        | (go_at_call_of 12 (#[Value.agg #[.int .u8 (p : Int), .int .u32 (a : Int), .int .u16 (m : Int), .int .u32 (b : Int), .int .u16 (n : Int)]]); exact later_of _ (Nat.le_refl _) (cT1 _ (HT.on (Later.h _))))
        | (go_at_call_of 12 (#[Value.agg #[.int .u8 (p : Int), .int .u32 (c : Int), .int .u16 (k : Int), .int .u32 (d : Int), .int .u16 (j : Int)]]); exact later_of _ (Nat.le_refl _) (cT2 _ (HT.on (Later.h _))))
        | (go_at_call 6; exact later_of _ (Nat.le_refl _) (watched_ K _ (HT.on (Later.h _))))))
      refine later_end fun w7 x7 => ?_
      have A_27 := A_23.on x7
      have C_28 := C_24.on x7
      have U_29 := U_25.on x7
      have B30 := B26.trans (x7.mono B26.size)
      clear Fa0 Fa1 Fa2 Fa3 Fa4 za Fc0 Fc1 Fc2 Fc3 Fc4 zc Fu0 Fu1 Fu2 Fu3 Fu4 zu A_23 C_24 U_25 B26 x7
      go_wp2
      go_ret
      exact ⟨rfl, B30⟩
  · have cP := cP1 rfl
    have hn : (S1.toList == S2.toList) = false := by
      have := hS rfl rfl
      simp only [beq_eq_false_iff_ne, ne_eq]
      intro h
      exact this (toList_inj_ h)
    clear cP0 cP1 hS
    cases lv
    all_goals
      go_enter Tryd.func4, Tryd.ntmps4
      have B1 := Below.refl w.heap.size w
      go_wp2_with fail
      have A_2 := Box5.make w (.int .u8 (p : Int)) (.int .u32 (a : Int)) (.int .u16 (m : Int)) (.int .u32 (b : Int)) (.int .u16 (n : Int)) 29
      have B3 := B1.alloc B1.size (.cells #[.int .u8 (p : Int), .int .u32 (a : Int), .int .u16 (m : Int), .int .u32 (b : Int), .int .u16 (n : Int)] 29)
      clear B1
      have A_4 := A_2.past (o := (.cells #[.int .u8 (p : Int), .int .u32 (c : Int), .int .u16 (k : Int), .int .u32 (d : Int), .int .u16 (j : Int)] 29))
      have hs_ : (w.alloc (.cells #[.int .u8 (p : Int), .int .u32 (a : Int), .int .u16 (m : Int), .int .u32 (b : Int), .int .u16 (n : Int)] 29)).heap.size = w.heap.size + 1 := by simp
      have C_5 := Box5.make (w.alloc (.cells #[.int .u8 (p : Int), .int .u32 (a : Int), .int .u16 (m : Int), .int .u32 (b : Int), .int .u16 (n : Int)] 29)) (.int .u8 (p : Int)) (.int .u32 (c : Int)) (.int .u16 (k : Int)) (.int .u32 (d : Int)) (.int .u16 (j : Int)) 29
      rw [hs_] at C_5
      clear hs_
      have B6 := B3.alloc B3.size (.cells #[.int .u8 (p : Int), .int .u32 (c : Int), .int .u16 (k : Int), .int .u32 (d : Int), .int .u16 (j : Int)] 29)
      clear A_2 B3
      obtain ⟨u1, hu1⟩ : ∃ x, x = (w.alloc (.cells #[.int .u8 (p : Int), .int .u32 (a : Int), .int .u16 (m : Int), .int .u32 (b : Int), .int .u16 (n : Int)] 29)).alloc (.cells #[.int .u8 (p : Int), .int .u32 (c : Int), .int .u16 (k : Int), .int .u32 (d : Int), .int .u16 (j : Int)] 29) := ⟨_, rfl⟩
      rw [← hu1] at A_4 C_5 B6 ⊢
      clear hu1
      have HT := ht.on B6
      obtain ⟨za, ga0, ga1, ga2, ga3, ga4⟩ := id A_4
      have Fa0 : ∀ x : Later u1.heap.size u1, x.u.cell? ⟨w.heap.size, 0, none⟩ = some (.int .u8 (p : Int)) := fun x => x.block za ga0
      have Fa1 : ∀ x : Later u1.heap.size u1, x.u.cell? ⟨w.heap.size, 1, none⟩ = some (.int .u32 (a : Int)) := fun x => x.block za ga1
      have Fa2 : ∀ x : Later u1.heap.size u1, x.u.cell? ⟨w.heap.size, 2, none⟩ = some (.int .u16 (m : Int)) := fun x => x.block za ga2
      have Fa3 : ∀ x : Later u1.heap.size u1, x.u.cell? ⟨w.heap.size, 3, none⟩ = some (.int .u32 (b : Int)) := fun x => x.block za ga3
      have Fa4 : ∀ x : Later u1.heap.size u1, x.u.cell? ⟨w.heap.size, 4, none⟩ = some (.int .u16 (n : Int)) := fun x => x.block za ga4
      clear ga0 ga1 ga2 ga3 ga4
      refine region_later (B := u1.heap.size) (by kernel_rfl) (by kernel_rfl) ?_
      repeat (go_big_quiet_step (first
        | (go_at_call_of 9 (#[Value.agg #[.int .u8 (p : Int), .int .u32 (a : Int), .int .u16 (m : Int), .int .u32 (b : Int), .int .u16 (n : Int)]]); exact later_of _ (Nat.le_refl _) (cB1 _ (HT.on (Later.h _))))
        | (go_at_call_of 9 (#[Value.agg #[.int .u8 (p : Int), .int .u32 (b : Int), .int .u16 (n : Int), .int .u32 (a : Int), .int .u16 (m : Int)]]); exact later_of _ (Nat.le_refl _) (cB2 _ (HT.on (Later.h _))))
        | (go_at_call_of 8 (#[Value.agg #[.int .u8 (p : Int), .int .u32 (a : Int), .int .u16 (m : Int), .int .u32 (b : Int), .int .u16 (n : Int)]]); exact later_of _ (Nat.le_refl _) (cM1 _ (HT.on (Later.h _))))
        | (go_at_call_of 8 (#[Value.agg #[.int .u8 (p : Int), .int .u32 (b : Int), .int .u16 (n : Int), .int .u32 (a : Int), .int .u16 (m : Int)]]); exact later_of _ (Nat.le_refl _) (cM2 _ (HT.on (Later.h _))))))
      refine later_end fun w2 x2 => ?_
      have A_7 := A_4.on x2
      have C_8 := C_5.on x2
      have B9 := B6.trans (x2.mono B6.size)
      clear Fa0 Fa1 Fa2 Fa3 Fa4 za A_4 C_5 B6 x2
      clear HT
      have HT := ht.on B9
      go_wp2_with fail
      obtain ⟨za, ga0, ga1, ga2, ga3, ga4⟩ := id A_7
      have Fa0 : ∀ x : Later w2.heap.size w2, x.u.cell? ⟨w.heap.size, 0, none⟩ = some (.int .u8 (p : Int)) := fun x => x.block za ga0
      have Fa1 : ∀ x : Later w2.heap.size w2, x.u.cell? ⟨w.heap.size, 1, none⟩ = some (.int .u32 (a : Int)) := fun x => x.block za ga1
      have Fa2 : ∀ x : Later w2.heap.size w2, x.u.cell? ⟨w.heap.size, 2, none⟩ = some (.int .u16 (m : Int)) := fun x => x.block za ga2
      have Fa3 : ∀ x : Later w2.heap.size w2, x.u.cell? ⟨w.heap.size, 3, none⟩ = some (.int .u32 (b : Int)) := fun x => x.block za ga3
      have Fa4 : ∀ x : Later w2.heap.size w2, x.u.cell? ⟨w.heap.size, 4, none⟩ = some (.int .u16 (n : Int)) := fun x => x.block za ga4
      clear ga0 ga1 ga2 ga3 ga4
      obtain ⟨zc, gc0, gc1, gc2, gc3, gc4⟩ := id C_8
      have Fc0 : ∀ x : Later w2.heap.size w2, x.u.cell? ⟨(w.heap.size + 1), 0, none⟩ = some (.int .u8 (p : Int)) := fun x => x.block zc gc0
      have Fc1 : ∀ x : Later w2.heap.size w2, x.u.cell? ⟨(w.heap.size + 1), 1, none⟩ = some (.int .u32 (c : Int)) := fun x => x.block zc gc1
      have Fc2 : ∀ x : Later w2.heap.size w2, x.u.cell? ⟨(w.heap.size + 1), 2, none⟩ = some (.int .u16 (k : Int)) := fun x => x.block zc gc2
      have Fc3 : ∀ x : Later w2.heap.size w2, x.u.cell? ⟨(w.heap.size + 1), 3, none⟩ = some (.int .u32 (d : Int)) := fun x => x.block zc gc3
      have Fc4 : ∀ x : Later w2.heap.size w2, x.u.cell? ⟨(w.heap.size + 1), 4, none⟩ = some (.int .u16 (j : Int)) := fun x => x.block zc gc4
      clear gc0 gc1 gc2 gc3 gc4
      refine region_later (B := w2.heap.size) (by kernel_rfl) (by kernel_rfl) ?_
      repeat (go_big_quiet_step (first
        | (go_at_call_of 10 (#[Value.agg #[.int .u8 (p : Int), .int .u32 (a : Int), .int .u16 (m : Int), .int .u32 (b : Int), .int .u16 (n : Int)], Value.agg #[.int .u8 (p : Int), .int .u32 (c : Int), .int .u16 (k : Int), .int .u32 (d : Int), .int .u16 (j : Int)]]); exact later_of _ (Nat.le_refl _) (cL1 _ (HT.on (Later.h _))))
        | (go_at_call_of 10 (#[Value.agg #[.int .u8 (p : Int), .int .u32 (c : Int), .int .u16 (k : Int), .int .u32 (d : Int), .int .u16 (j : Int)], Value.agg #[.int .u8 (p : Int), .int .u32 (a : Int), .int .u16 (m : Int), .int .u32 (b : Int), .int .u16 (n : Int)]]); exact later_of _ (Nat.le_refl _) (cL2 _ (HT.on (Later.h _))))))
      refine later_end fun w3 x3 => ?_
      have A_10 := A_7.on x3
      have C_11 := C_8.on x3
      have B12 := B9.trans (x3.mono B9.size)
      clear Fa0 Fa1 Fa2 Fa3 Fa4 za Fc0 Fc1 Fc2 Fc3 Fc4 zc A_7 C_8 B9 x3
      clear HT
      obtain ⟨_, a1_0, a1_1, a1_2, a1_3, a1_4⟩ := id A_10
      obtain ⟨_, c2_0, c2_1, c2_2, c2_3, c2_4⟩ := id C_11
      go_wp2_with fail
      refine (cT1 _ (ht.on B12)).mono ?_; rintro e w4 ⟨rfl, x4⟩
      have A_13 := A_10.on x4
      have C_14 := C_11.on x4
      have B15 := B12.trans (x4.mono B12.size)
      clear a1_0 a1_1 a1_2 a1_3 a1_4 c2_0 c2_1 c2_2 c2_3 c2_4 A_10 C_11 B12 x4
      go_wp2_with fail
      refine (cP _ (ht.on B15)).mono ?_; rintro e w5 ⟨rfl, x5⟩
      have A_16 := A_13.on x5
      have C_17 := C_14.on x5
      have B18 := B15.trans (x5.mono B15.size)
      clear A_13 C_14 B15 x5
      clear cP
      have A_19 := A_16.past (o := (.cells #[.int .u8 (p : Int), .int .u32 (a : Int), .int .u16 (m : Int), .int .u32 (b : Int), .int .u16 (n : Int)] 29))
      have C_20 := C_17.past (o := (.cells #[.int .u8 (p : Int), .int .u32 (a : Int), .int .u16 (m : Int), .int .u32 (b : Int), .int .u16 (n : Int)] 29))
      have U_21 := Box5.make w5 (.int .u8 (p : Int)) (.int .u32 (a : Int)) (.int .u16 (m : Int)) (.int .u32 (b : Int)) (.int .u16 (n : Int)) 29
      have B22 := B18.alloc B18.size (.cells #[.int .u8 (p : Int), .int .u32 (a : Int), .int .u16 (m : Int), .int .u32 (b : Int), .int .u16 (n : Int)] 29)
      clear A_16 C_17 B18
      obtain ⟨_, a3_0, a3_1, a3_2, a3_3, a3_4⟩ := id A_19
      go_wp2_with fail
      refine (cM1 _ (ht.on B22)).mono ?_; rintro e w6 ⟨rfl, x6⟩
      have A_23 := A_19.on x6
      have C_24 := C_20.on x6
      have U_25 := U_21.on x6
      have B26 := B22.trans (x6.mono B22.size)
      clear a3_0 a3_1 a3_2 a3_3 a3_4 A_19 C_20 U_21 B22 x6
      have HT := ht.on B26
      go_wp2_with fail
      obtain ⟨za, ga0, ga1, ga2, ga3, ga4⟩ := id A_23
      have Fa0 : ∀ x : Later w6.heap.size w6, x.u.cell? ⟨w.heap.size, 0, none⟩ = some (.int .u8 (p : Int)) := fun x => x.block za ga0
      have Fa1 : ∀ x : Later w6.heap.size w6, x.u.cell? ⟨w.heap.size, 1, none⟩ = some (.int .u32 (a : Int)) := fun x => x.block za ga1
      have Fa2 : ∀ x : Later w6.heap.size w6, x.u.cell? ⟨w.heap.size, 2, none⟩ = some (.int .u16 (m : Int)) := fun x => x.block za ga2
      have Fa3 : ∀ x : Later w6.heap.size w6, x.u.cell? ⟨w.heap.size, 3, none⟩ = some (.int .u32 (b : Int)) := fun x => x.block za ga3
      have Fa4 : ∀ x : Later w6.heap.size w6, x.u.cell? ⟨w.heap.size, 4, none⟩ = some (.int .u16 (n : Int)) := fun x => x.block za ga4
      clear ga0 ga1 ga2 ga3 ga4
      obtain ⟨zc, gc0, gc1, gc2, gc3, gc4⟩ := id C_24
      have Fc0 : ∀ x : Later w6.heap.size w6, x.u.cell? ⟨(w.heap.size + 1), 0, none⟩ = some (.int .u8 (p : Int)) := fun x => x.block zc gc0
      have Fc1 : ∀ x : Later w6.heap.size w6, x.u.cell? ⟨(w.heap.size + 1), 1, none⟩ = some (.int .u32 (c : Int)) := fun x => x.block zc gc1
      have Fc2 : ∀ x : Later w6.heap.size w6, x.u.cell? ⟨(w.heap.size + 1), 2, none⟩ = some (.int .u16 (k : Int)) := fun x => x.block zc gc2
      have Fc3 : ∀ x : Later w6.heap.size w6, x.u.cell? ⟨(w.heap.size + 1), 3, none⟩ = some (.int .u32 (d : Int)) := fun x => x.block zc gc3
      have Fc4 : ∀ x : Later w6.heap.size w6, x.u.cell? ⟨(w.heap.size + 1), 4, none⟩ = some (.int .u16 (j : Int)) := fun x => x.block zc gc4
      clear gc0 gc1 gc2 gc3 gc4
      obtain ⟨zu, gu0, gu1, gu2, gu3, gu4⟩ := id U_25
      have Fu0 : ∀ x : Later w6.heap.size w6, x.u.cell? ⟨w5.heap.size, 0, none⟩ = some (.int .u8 (p : Int)) := fun x => x.block zu gu0
      have Fu1 : ∀ x : Later w6.heap.size w6, x.u.cell? ⟨w5.heap.size, 1, none⟩ = some (.int .u32 (a : Int)) := fun x => x.block zu gu1
      have Fu2 : ∀ x : Later w6.heap.size w6, x.u.cell? ⟨w5.heap.size, 2, none⟩ = some (.int .u16 (m : Int)) := fun x => x.block zu gu2
      have Fu3 : ∀ x : Later w6.heap.size w6, x.u.cell? ⟨w5.heap.size, 3, none⟩ = some (.int .u32 (b : Int)) := fun x => x.block zu gu3
      have Fu4 : ∀ x : Later w6.heap.size w6, x.u.cell? ⟨w5.heap.size, 4, none⟩ = some (.int .u16 (n : Int)) := fun x => x.block zu gu4
      clear gu0 gu1 gu2 gu3 gu4
      refine region_later (B := w6.heap.size) (by kernel_rfl) (by kernel_rfl) ?_
      repeat (go_big_quiet_step (first
        | (go_at_call_of 8 (#[Value.agg #[.int .u8 (p : Int), .int .u32 (c : Int), .int .u16 (k : Int), .int .u32 (d : Int), .int .u16 (j : Int)]]); exact later_of _ (Nat.le_refl _) (cM3 _ (HT.on (Later.h _))))
        | (go_at_call_of 12 (#[Value.agg #[.int .u8 (p : Int), .int .u32 (a : Int), .int .u16 (m : Int), .int .u32 (b : Int), .int .u16 (n : Int)]]); exact later_of _ (Nat.le_refl _) (cT1 _ (HT.on (Later.h _))))
        | (go_at_call_of 12 (#[Value.agg #[.int .u8 (p : Int), .int .u32 (c : Int), .int .u16 (k : Int), .int .u32 (d : Int), .int .u16 (j : Int)]]); exact later_of _ (Nat.le_refl _) (cT2 _ (HT.on (Later.h _))))
        | (go_at_call 6; exact later_of _ (Nat.le_refl _) (watched_ K _ (HT.on (Later.h _))))))
      refine later_end fun w7 x7 => ?_
      have A_27 := A_23.on x7
      have C_28 := C_24.on x7
      have U_29 := U_25.on x7
      have B30 := B26.trans (x7.mono B26.size)
      clear Fa0 Fa1 Fa2 Fa3 Fa4 za Fc0 Fc1 Fc2 Fc3 Fc4 zc Fu0 Fu1 Fu2 Fu3 Fu4 zu A_23 C_24 U_25 B26 x7
      go_wp2
      go_ret
      exact ⟨rfl, B30⟩
set_option maxRecDepth 100000 in
set_option maxHeartbeats 8000000 in
theorem back_2 (p a m b n q c k d j : Nat) (S1 S2 : ByteArray) (mv nv lv : Bool) (K : TupOk) (w : World) (ht : Tab w) (cB1 : ∀ u : World, Tab u → Calls Tryd.prog 9 #[.agg #[.int .u8 (p : Int), .int .u32 (a : Int), .int .u16 (m : Int), .int .u32 (b : Int), .int .u16 (n : Int)]] u fun e w' => e = .returned (.agg #[.int .u8 (p : Int), .int .u32 (b : Int), .int .u16 (n : Int), .int .u32 (a : Int), .int .u16 (m : Int)]) ∧ Below u.heap.size u w')
    (cB2 : ∀ u : World, Tab u → Calls Tryd.prog 9 #[.agg #[.int .u8 (p : Int), .int .u32 (b : Int), .int .u16 (n : Int), .int .u32 (a : Int), .int .u16 (m : Int)]] u fun e w' => e = .returned (.agg #[.int .u8 (p : Int), .int .u32 (a : Int), .int .u16 (m : Int), .int .u32 (b : Int), .int .u16 (n : Int)]) ∧ Below u.heap.size u w')
    (cM1 : ∀ u : World, Tab u → Calls Tryd.prog 8 #[.agg #[.int .u8 (p : Int), .int .u32 (a : Int), .int .u16 (m : Int), .int .u32 (b : Int), .int .u16 (n : Int)]] u fun e w' => e = .returned (.bool mv) ∧ Below u.heap.size u w')
    (cM2 : ∀ u : World, Tab u → Calls Tryd.prog 8 #[.agg #[.int .u8 (p : Int), .int .u32 (b : Int), .int .u16 (n : Int), .int .u32 (a : Int), .int .u16 (m : Int)]] u fun e w' => e = .returned (.bool mv) ∧ Below u.heap.size u w')
    (cT1 : ∀ u : World, Tab u → Calls Tryd.prog 12 #[.agg #[.int .u8 (p : Int), .int .u32 (a : Int), .int .u16 (m : Int), .int .u32 (b : Int), .int .u16 (n : Int)]] u fun e w' => e = .returned (.string S1) ∧ Below u.heap.size u w')
    (cM3 : ∀ u : World, Tab u → Calls Tryd.prog 8 #[.agg #[.int .u8 (p : Int), .int .u32 (a : Int), .int .u16 (k : Int), .int .u32 (d : Int), .int .u16 (j : Int)]] u fun e w' => e = .returned (.bool nv) ∧ Below u.heap.size u w')
    (cL1 : ∀ u : World, Tab u → Calls Tryd.prog 10 #[.agg #[.int .u8 (p : Int), .int .u32 (a : Int), .int .u16 (m : Int), .int .u32 (b : Int), .int .u16 (n : Int)], .agg #[.int .u8 (p : Int), .int .u32 (a : Int), .int .u16 (k : Int), .int .u32 (d : Int), .int .u16 (j : Int)]] u fun e w' => e = .returned (.bool lv) ∧ Below u.heap.size u w')
    (cL2 : ∀ u : World, Tab u → Calls Tryd.prog 10 #[.agg #[.int .u8 (p : Int), .int .u32 (a : Int), .int .u16 (k : Int), .int .u32 (d : Int), .int .u16 (j : Int)], .agg #[.int .u8 (p : Int), .int .u32 (a : Int), .int .u16 (m : Int), .int .u32 (b : Int), .int .u16 (n : Int)]] u fun e w' => e = .returned (.bool (!lv)) ∧ Below u.heap.size u w')
    (cT2 : ∀ u : World, Tab u → Calls Tryd.prog 12 #[.agg #[.int .u8 (p : Int), .int .u32 (a : Int), .int .u16 (k : Int), .int .u32 (d : Int), .int .u16 (j : Int)]] u fun e w' => e = .returned (.string S2) ∧ Below u.heap.size u w')
    (cP1 : mv = true → ∀ u : World, Tab u → Calls Tryd.prog 11 #[.string S1] u fun e w' => e = .returned (.tuple #[.agg #[.int .u8 (p : Int), .int .u32 (a : Int), .int .u16 (m : Int), .int .u32 (b : Int), .int .u16 (n : Int)], .int .i64 0]) ∧ Below u.heap.size u w')
    (cP0 : mv = false → S1 = ⟨#[]⟩ ∧ ∀ u : World, Tab u → Calls Tryd.prog 11 #[.string S1] u fun e w' => e = .returned (.tuple #[.agg #[.int .u8 0, .int .u32 0, .int .u16 0, .int .u32 0, .int .u16 0], .int .i64 3]) ∧ Below u.heap.size u w')
    (hne : ¬ m = k)
    (hS : mv = true → nv = true → ¬ S1 = S2) :
    Calls Tryd.prog 4 #[.agg #[.int .u8 (p : Int), .int .u32 (a : Int), .int .u16 (m : Int), .int .u32 (b : Int), .int .u16 (n : Int)], .agg #[.int .u8 (p : Int), .int .u32 (a : Int), .int .u16 (k : Int), .int .u32 (d : Int), .int .u16 (j : Int)]] w fun e w' => e = .returned (.bool true) ∧ Below w.heap.size w w' := by
  have ne1 : ((m : Int) == (k : Int)) = false := by simp; omega
  have ne2 : ((m : Nat) == (k : Nat)) = false := by simpa using hne
  clear hne
  have hSS : (S1.toList == S1.toList) = true := by simp
  have key : mv = false ∨ (mv = true ∧ nv = false) ∨ (mv = true ∧ nv = true) := by cases mv <;> cases nv <;> simp
  rcases key with rfl | ⟨rfl, rfl⟩ | ⟨rfl, rfl⟩
  · have cP := (cP0 rfl).2
    have e0 := (cP0 rfl).1
    subst e0
    clear cP0 cP1 hS
    cases lv
    all_goals
      go_enter Tryd.func4, Tryd.ntmps4
      have B1 := Below.refl w.heap.size w
      go_wp2_with fail
      have A_2 := Box5.make w (.int .u8 (p : Int)) (.int .u32 (a : Int)) (.int .u16 (m : Int)) (.int .u32 (b : Int)) (.int .u16 (n : Int)) 29
      have B3 := B1.alloc B1.size (.cells #[.int .u8 (p : Int), .int .u32 (a : Int), .int .u16 (m : Int), .int .u32 (b : Int), .int .u16 (n : Int)] 29)
      clear B1
      have A_4 := A_2.past (o := (.cells #[.int .u8 (p : Int), .int .u32 (a : Int), .int .u16 (k : Int), .int .u32 (d : Int), .int .u16 (j : Int)] 29))
      have hs_ : (w.alloc (.cells #[.int .u8 (p : Int), .int .u32 (a : Int), .int .u16 (m : Int), .int .u32 (b : Int), .int .u16 (n : Int)] 29)).heap.size = w.heap.size + 1 := by simp
      have C_5 := Box5.make (w.alloc (.cells #[.int .u8 (p : Int), .int .u32 (a : Int), .int .u16 (m : Int), .int .u32 (b : Int), .int .u16 (n : Int)] 29)) (.int .u8 (p : Int)) (.int .u32 (a : Int)) (.int .u16 (k : Int)) (.int .u32 (d : Int)) (.int .u16 (j : Int)) 29
      rw [hs_] at C_5
      clear hs_
      have B6 := B3.alloc B3.size (.cells #[.int .u8 (p : Int), .int .u32 (a : Int), .int .u16 (k : Int), .int .u32 (d : Int), .int .u16 (j : Int)] 29)
      clear A_2 B3
      obtain ⟨u1, hu1⟩ : ∃ x, x = (w.alloc (.cells #[.int .u8 (p : Int), .int .u32 (a : Int), .int .u16 (m : Int), .int .u32 (b : Int), .int .u16 (n : Int)] 29)).alloc (.cells #[.int .u8 (p : Int), .int .u32 (a : Int), .int .u16 (k : Int), .int .u32 (d : Int), .int .u16 (j : Int)] 29) := ⟨_, rfl⟩
      rw [← hu1] at A_4 C_5 B6 ⊢
      clear hu1
      have HT := ht.on B6
      obtain ⟨za, ga0, ga1, ga2, ga3, ga4⟩ := id A_4
      have Fa0 : ∀ x : Later u1.heap.size u1, x.u.cell? ⟨w.heap.size, 0, none⟩ = some (.int .u8 (p : Int)) := fun x => x.block za ga0
      have Fa1 : ∀ x : Later u1.heap.size u1, x.u.cell? ⟨w.heap.size, 1, none⟩ = some (.int .u32 (a : Int)) := fun x => x.block za ga1
      have Fa2 : ∀ x : Later u1.heap.size u1, x.u.cell? ⟨w.heap.size, 2, none⟩ = some (.int .u16 (m : Int)) := fun x => x.block za ga2
      have Fa3 : ∀ x : Later u1.heap.size u1, x.u.cell? ⟨w.heap.size, 3, none⟩ = some (.int .u32 (b : Int)) := fun x => x.block za ga3
      have Fa4 : ∀ x : Later u1.heap.size u1, x.u.cell? ⟨w.heap.size, 4, none⟩ = some (.int .u16 (n : Int)) := fun x => x.block za ga4
      clear ga0 ga1 ga2 ga3 ga4
      refine region_later (B := u1.heap.size) (by kernel_rfl) (by kernel_rfl) ?_
      repeat (go_big_quiet_step (first
        | (go_at_call_of 9 (#[Value.agg #[.int .u8 (p : Int), .int .u32 (a : Int), .int .u16 (m : Int), .int .u32 (b : Int), .int .u16 (n : Int)]]); exact later_of _ (Nat.le_refl _) (cB1 _ (HT.on (Later.h _))))
        | (go_at_call_of 9 (#[Value.agg #[.int .u8 (p : Int), .int .u32 (b : Int), .int .u16 (n : Int), .int .u32 (a : Int), .int .u16 (m : Int)]]); exact later_of _ (Nat.le_refl _) (cB2 _ (HT.on (Later.h _))))
        | (go_at_call_of 8 (#[Value.agg #[.int .u8 (p : Int), .int .u32 (a : Int), .int .u16 (m : Int), .int .u32 (b : Int), .int .u16 (n : Int)]]); exact later_of _ (Nat.le_refl _) (cM1 _ (HT.on (Later.h _))))
        | (go_at_call_of 8 (#[Value.agg #[.int .u8 (p : Int), .int .u32 (b : Int), .int .u16 (n : Int), .int .u32 (a : Int), .int .u16 (m : Int)]]); exact later_of _ (Nat.le_refl _) (cM2 _ (HT.on (Later.h _))))))
      refine later_end fun w2 x2 => ?_
      have A_7 := A_4.on x2
      have C_8 := C_5.on x2
      have B9 := B6.trans (x2.mono B6.size)
      clear Fa0 Fa1 Fa2 Fa3 Fa4 za A_4 C_5 B6 x2
      clear HT
      have HT := ht.on B9
      go_wp2_with fail
      obtain ⟨za, ga0, ga1, ga2, ga3, ga4⟩ := id A_7
      have Fa0 : ∀ x : Later w2.heap.size w2, x.u.cell? ⟨w.heap.size, 0, none⟩ = some (.int .u8 (p : Int)) := fun x => x.block za ga0
      have Fa1 : ∀ x : Later w2.heap.size w2, x.u.cell? ⟨w.heap.size, 1, none⟩ = some (.int .u32 (a : Int)) := fun x => x.block za ga1
      have Fa2 : ∀ x : Later w2.heap.size w2, x.u.cell? ⟨w.heap.size, 2, none⟩ = some (.int .u16 (m : Int)) := fun x => x.block za ga2
      have Fa3 : ∀ x : Later w2.heap.size w2, x.u.cell? ⟨w.heap.size, 3, none⟩ = some (.int .u32 (b : Int)) := fun x => x.block za ga3
      have Fa4 : ∀ x : Later w2.heap.size w2, x.u.cell? ⟨w.heap.size, 4, none⟩ = some (.int .u16 (n : Int)) := fun x => x.block za ga4
      clear ga0 ga1 ga2 ga3 ga4
      obtain ⟨zc, gc0, gc1, gc2, gc3, gc4⟩ := id C_8
      have Fc0 : ∀ x : Later w2.heap.size w2, x.u.cell? ⟨(w.heap.size + 1), 0, none⟩ = some (.int .u8 (p : Int)) := fun x => x.block zc gc0
      have Fc1 : ∀ x : Later w2.heap.size w2, x.u.cell? ⟨(w.heap.size + 1), 1, none⟩ = some (.int .u32 (a : Int)) := fun x => x.block zc gc1
      have Fc2 : ∀ x : Later w2.heap.size w2, x.u.cell? ⟨(w.heap.size + 1), 2, none⟩ = some (.int .u16 (k : Int)) := fun x => x.block zc gc2
      have Fc3 : ∀ x : Later w2.heap.size w2, x.u.cell? ⟨(w.heap.size + 1), 3, none⟩ = some (.int .u32 (d : Int)) := fun x => x.block zc gc3
      have Fc4 : ∀ x : Later w2.heap.size w2, x.u.cell? ⟨(w.heap.size + 1), 4, none⟩ = some (.int .u16 (j : Int)) := fun x => x.block zc gc4
      clear gc0 gc1 gc2 gc3 gc4
      refine region_later (B := w2.heap.size) (by kernel_rfl) (by kernel_rfl) ?_
      repeat (go_big_quiet_step (first
        | (go_at_call_of 10 (#[Value.agg #[.int .u8 (p : Int), .int .u32 (a : Int), .int .u16 (m : Int), .int .u32 (b : Int), .int .u16 (n : Int)], Value.agg #[.int .u8 (p : Int), .int .u32 (a : Int), .int .u16 (k : Int), .int .u32 (d : Int), .int .u16 (j : Int)]]); exact later_of _ (Nat.le_refl _) (cL1 _ (HT.on (Later.h _))))
        | (go_at_call_of 10 (#[Value.agg #[.int .u8 (p : Int), .int .u32 (a : Int), .int .u16 (k : Int), .int .u32 (d : Int), .int .u16 (j : Int)], Value.agg #[.int .u8 (p : Int), .int .u32 (a : Int), .int .u16 (m : Int), .int .u32 (b : Int), .int .u16 (n : Int)]]); exact later_of _ (Nat.le_refl _) (cL2 _ (HT.on (Later.h _))))))
      refine later_end fun w3 x3 => ?_
      have A_10 := A_7.on x3
      have C_11 := C_8.on x3
      have B12 := B9.trans (x3.mono B9.size)
      clear Fa0 Fa1 Fa2 Fa3 Fa4 za Fc0 Fc1 Fc2 Fc3 Fc4 zc A_7 C_8 B9 x3
      clear HT
      obtain ⟨_, a1_0, a1_1, a1_2, a1_3, a1_4⟩ := id A_10
      obtain ⟨_, c2_0, c2_1, c2_2, c2_3, c2_4⟩ := id C_11
      go_wp2_with fail
      refine (cT1 _ (ht.on B12)).mono ?_; rintro e w4 ⟨rfl, x4⟩
      have A_13 := A_10.on x4
      have C_14 := C_11.on x4
      have B15 := B12.trans (x4.mono B12.size)
      clear a1_0 a1_1 a1_2 a1_3 a1_4 c2_0 c2_1 c2_2 c2_3 c2_4 A_10 C_11 B12 x4
      go_wp2_with fail
      refine (cP _ (ht.on B15)).mono ?_; rintro e w5 ⟨rfl, x5⟩
      have A_16 := A_13.on x5
      have C_17 := C_14.on x5
      have B18 := B15.trans (x5.mono B15.size)
      clear A_13 C_14 B15 x5
      clear cP
      have A_19 := A_16.past (o := (.cells #[.int .u8 0, .int .u32 0, .int .u16 0, .int .u32 0, .int .u16 0] 29))
      have C_20 := C_17.past (o := (.cells #[.int .u8 0, .int .u32 0, .int .u16 0, .int .u32 0, .int .u16 0] 29))
      have U_21 := Box5.make w5 (.int .u8 0) (.int .u32 0) (.int .u16 0) (.int .u32 0) (.int .u16 0) 29
      have B22 := B18.alloc B18.size (.cells #[.int .u8 0, .int .u32 0, .int .u16 0, .int .u32 0, .int .u16 0] 29)
      clear A_16 C_17 B18
      obtain ⟨_, a3_0, a3_1, a3_2, a3_3, a3_4⟩ := id A_19
      go_wp2_with fail
      refine (cM1 _ (ht.on B22)).mono ?_; rintro e w6 ⟨rfl, x6⟩
      have A_23 := A_19.on x6
      have C_24 := C_20.on x6
      have U_25 := U_21.on x6
      have B26 := B22.trans (x6.mono B22.size)
      clear a3_0 a3_1 a3_2 a3_3 a3_4 A_19 C_20 U_21 B22 x6
      obtain ⟨_, a4_0, a4_1, a4_2, a4_3, a4_4⟩ := id A_23
      go_wp2_with fail
      refine (cT1 _ (ht.on B26)).mono ?_; rintro e w7 ⟨rfl, x7⟩
      have A_27 := A_23.on x7
      have C_28 := C_24.on x7
      have U_29 := U_25.on x7
      have B30 := B26.trans (x7.mono B26.size)
      clear a4_0 a4_1 a4_2 a4_3 a4_4 A_23 C_24 U_25 B26 x7
      go_wp2_with fail
      refine (watched_ K _ (ht.on B30)).mono ?_; rintro e w8 ⟨rfl, x8⟩
      have A_31 := A_27.on x8
      have C_32 := C_28.on x8
      have U_33 := U_29.on x8
      have B34 := B30.trans (x8.mono B30.size)
      clear A_27 C_28 U_29 B30 x8
      go_wp2
      go_ret
      exact ⟨rfl, B34⟩
  · have cP := cP1 rfl
    clear cP0 cP1 hS
    cases lv
    all_goals
      go_enter Tryd.func4, Tryd.ntmps4
      have B1 := Below.refl w.heap.size w
      go_wp2_with fail
      have A_2 := Box5.make w (.int .u8 (p : Int)) (.int .u32 (a : Int)) (.int .u16 (m : Int)) (.int .u32 (b : Int)) (.int .u16 (n : Int)) 29
      have B3 := B1.alloc B1.size (.cells #[.int .u8 (p : Int), .int .u32 (a : Int), .int .u16 (m : Int), .int .u32 (b : Int), .int .u16 (n : Int)] 29)
      clear B1
      have A_4 := A_2.past (o := (.cells #[.int .u8 (p : Int), .int .u32 (a : Int), .int .u16 (k : Int), .int .u32 (d : Int), .int .u16 (j : Int)] 29))
      have hs_ : (w.alloc (.cells #[.int .u8 (p : Int), .int .u32 (a : Int), .int .u16 (m : Int), .int .u32 (b : Int), .int .u16 (n : Int)] 29)).heap.size = w.heap.size + 1 := by simp
      have C_5 := Box5.make (w.alloc (.cells #[.int .u8 (p : Int), .int .u32 (a : Int), .int .u16 (m : Int), .int .u32 (b : Int), .int .u16 (n : Int)] 29)) (.int .u8 (p : Int)) (.int .u32 (a : Int)) (.int .u16 (k : Int)) (.int .u32 (d : Int)) (.int .u16 (j : Int)) 29
      rw [hs_] at C_5
      clear hs_
      have B6 := B3.alloc B3.size (.cells #[.int .u8 (p : Int), .int .u32 (a : Int), .int .u16 (k : Int), .int .u32 (d : Int), .int .u16 (j : Int)] 29)
      clear A_2 B3
      obtain ⟨u1, hu1⟩ : ∃ x, x = (w.alloc (.cells #[.int .u8 (p : Int), .int .u32 (a : Int), .int .u16 (m : Int), .int .u32 (b : Int), .int .u16 (n : Int)] 29)).alloc (.cells #[.int .u8 (p : Int), .int .u32 (a : Int), .int .u16 (k : Int), .int .u32 (d : Int), .int .u16 (j : Int)] 29) := ⟨_, rfl⟩
      rw [← hu1] at A_4 C_5 B6 ⊢
      clear hu1
      have HT := ht.on B6
      obtain ⟨za, ga0, ga1, ga2, ga3, ga4⟩ := id A_4
      have Fa0 : ∀ x : Later u1.heap.size u1, x.u.cell? ⟨w.heap.size, 0, none⟩ = some (.int .u8 (p : Int)) := fun x => x.block za ga0
      have Fa1 : ∀ x : Later u1.heap.size u1, x.u.cell? ⟨w.heap.size, 1, none⟩ = some (.int .u32 (a : Int)) := fun x => x.block za ga1
      have Fa2 : ∀ x : Later u1.heap.size u1, x.u.cell? ⟨w.heap.size, 2, none⟩ = some (.int .u16 (m : Int)) := fun x => x.block za ga2
      have Fa3 : ∀ x : Later u1.heap.size u1, x.u.cell? ⟨w.heap.size, 3, none⟩ = some (.int .u32 (b : Int)) := fun x => x.block za ga3
      have Fa4 : ∀ x : Later u1.heap.size u1, x.u.cell? ⟨w.heap.size, 4, none⟩ = some (.int .u16 (n : Int)) := fun x => x.block za ga4
      clear ga0 ga1 ga2 ga3 ga4
      refine region_later (B := u1.heap.size) (by kernel_rfl) (by kernel_rfl) ?_
      repeat (go_big_quiet_step (first
        | (go_at_call_of 9 (#[Value.agg #[.int .u8 (p : Int), .int .u32 (a : Int), .int .u16 (m : Int), .int .u32 (b : Int), .int .u16 (n : Int)]]); exact later_of _ (Nat.le_refl _) (cB1 _ (HT.on (Later.h _))))
        | (go_at_call_of 9 (#[Value.agg #[.int .u8 (p : Int), .int .u32 (b : Int), .int .u16 (n : Int), .int .u32 (a : Int), .int .u16 (m : Int)]]); exact later_of _ (Nat.le_refl _) (cB2 _ (HT.on (Later.h _))))
        | (go_at_call_of 8 (#[Value.agg #[.int .u8 (p : Int), .int .u32 (a : Int), .int .u16 (m : Int), .int .u32 (b : Int), .int .u16 (n : Int)]]); exact later_of _ (Nat.le_refl _) (cM1 _ (HT.on (Later.h _))))
        | (go_at_call_of 8 (#[Value.agg #[.int .u8 (p : Int), .int .u32 (b : Int), .int .u16 (n : Int), .int .u32 (a : Int), .int .u16 (m : Int)]]); exact later_of _ (Nat.le_refl _) (cM2 _ (HT.on (Later.h _))))))
      refine later_end fun w2 x2 => ?_
      have A_7 := A_4.on x2
      have C_8 := C_5.on x2
      have B9 := B6.trans (x2.mono B6.size)
      clear Fa0 Fa1 Fa2 Fa3 Fa4 za A_4 C_5 B6 x2
      clear HT
      have HT := ht.on B9
      go_wp2_with fail
      obtain ⟨za, ga0, ga1, ga2, ga3, ga4⟩ := id A_7
      have Fa0 : ∀ x : Later w2.heap.size w2, x.u.cell? ⟨w.heap.size, 0, none⟩ = some (.int .u8 (p : Int)) := fun x => x.block za ga0
      have Fa1 : ∀ x : Later w2.heap.size w2, x.u.cell? ⟨w.heap.size, 1, none⟩ = some (.int .u32 (a : Int)) := fun x => x.block za ga1
      have Fa2 : ∀ x : Later w2.heap.size w2, x.u.cell? ⟨w.heap.size, 2, none⟩ = some (.int .u16 (m : Int)) := fun x => x.block za ga2
      have Fa3 : ∀ x : Later w2.heap.size w2, x.u.cell? ⟨w.heap.size, 3, none⟩ = some (.int .u32 (b : Int)) := fun x => x.block za ga3
      have Fa4 : ∀ x : Later w2.heap.size w2, x.u.cell? ⟨w.heap.size, 4, none⟩ = some (.int .u16 (n : Int)) := fun x => x.block za ga4
      clear ga0 ga1 ga2 ga3 ga4
      obtain ⟨zc, gc0, gc1, gc2, gc3, gc4⟩ := id C_8
      have Fc0 : ∀ x : Later w2.heap.size w2, x.u.cell? ⟨(w.heap.size + 1), 0, none⟩ = some (.int .u8 (p : Int)) := fun x => x.block zc gc0
      have Fc1 : ∀ x : Later w2.heap.size w2, x.u.cell? ⟨(w.heap.size + 1), 1, none⟩ = some (.int .u32 (a : Int)) := fun x => x.block zc gc1
      have Fc2 : ∀ x : Later w2.heap.size w2, x.u.cell? ⟨(w.heap.size + 1), 2, none⟩ = some (.int .u16 (k : Int)) := fun x => x.block zc gc2
      have Fc3 : ∀ x : Later w2.heap.size w2, x.u.cell? ⟨(w.heap.size + 1), 3, none⟩ = some (.int .u32 (d : Int)) := fun x => x.block zc gc3
      have Fc4 : ∀ x : Later w2.heap.size w2, x.u.cell? ⟨(w.heap.size + 1), 4, none⟩ = some (.int .u16 (j : Int)) := fun x => x.block zc gc4
      clear gc0 gc1 gc2 gc3 gc4
      refine region_later (B := w2.heap.size) (by kernel_rfl) (by kernel_rfl) ?_
      repeat (go_big_quiet_step (first
        | (go_at_call_of 10 (#[Value.agg #[.int .u8 (p : Int), .int .u32 (a : Int), .int .u16 (m : Int), .int .u32 (b : Int), .int .u16 (n : Int)], Value.agg #[.int .u8 (p : Int), .int .u32 (a : Int), .int .u16 (k : Int), .int .u32 (d : Int), .int .u16 (j : Int)]]); exact later_of _ (Nat.le_refl _) (cL1 _ (HT.on (Later.h _))))
        | (go_at_call_of 10 (#[Value.agg #[.int .u8 (p : Int), .int .u32 (a : Int), .int .u16 (k : Int), .int .u32 (d : Int), .int .u16 (j : Int)], Value.agg #[.int .u8 (p : Int), .int .u32 (a : Int), .int .u16 (m : Int), .int .u32 (b : Int), .int .u16 (n : Int)]]); exact later_of _ (Nat.le_refl _) (cL2 _ (HT.on (Later.h _))))))
      refine later_end fun w3 x3 => ?_
      have A_10 := A_7.on x3
      have C_11 := C_8.on x3
      have B12 := B9.trans (x3.mono B9.size)
      clear Fa0 Fa1 Fa2 Fa3 Fa4 za Fc0 Fc1 Fc2 Fc3 Fc4 zc A_7 C_8 B9 x3
      clear HT
      obtain ⟨_, a1_0, a1_1, a1_2, a1_3, a1_4⟩ := id A_10
      obtain ⟨_, c2_0, c2_1, c2_2, c2_3, c2_4⟩ := id C_11
      go_wp2_with fail
      refine (cT1 _ (ht.on B12)).mono ?_; rintro e w4 ⟨rfl, x4⟩
      have A_13 := A_10.on x4
      have C_14 := C_11.on x4
      have B15 := B12.trans (x4.mono B12.size)
      clear a1_0 a1_1 a1_2 a1_3 a1_4 c2_0 c2_1 c2_2 c2_3 c2_4 A_10 C_11 B12 x4
      go_wp2_with fail
      refine (cP _ (ht.on B15)).mono ?_; rintro e w5 ⟨rfl, x5⟩
      have A_16 := A_13.on x5
      have C_17 := C_14.on x5
      have B18 := B15.trans (x5.mono B15.size)
      clear A_13 C_14 B15 x5
      clear cP
      have A_19 := A_16.past (o := (.cells #[.int .u8 (p : Int), .int .u32 (a : Int), .int .u16 (m : Int), .int .u32 (b : Int), .int .u16 (n : Int)] 29))
      have C_20 := C_17.past (o := (.cells #[.int .u8 (p : Int), .int .u32 (a : Int), .int .u16 (m : Int), .int .u32 (b : Int), .int .u16 (n : Int)] 29))
      have U_21 := Box5.make w5 (.int .u8 (p : Int)) (.int .u32 (a : Int)) (.int .u16 (m : Int)) (.int .u32 (b : Int)) (.int .u16 (n : Int)) 29
      have B22 := B18.alloc B18.size (.cells #[.int .u8 (p : Int), .int .u32 (a : Int), .int .u16 (m : Int), .int .u32 (b : Int), .int .u16 (n : Int)] 29)
      clear A_16 C_17 B18
      obtain ⟨_, a3_0, a3_1, a3_2, a3_3, a3_4⟩ := id A_19
      go_wp2_with fail
      refine (cM1 _ (ht.on B22)).mono ?_; rintro e w6 ⟨rfl, x6⟩
      have A_23 := A_19.on x6
      have C_24 := C_20.on x6
      have U_25 := U_21.on x6
      have B26 := B22.trans (x6.mono B22.size)
      clear a3_0 a3_1 a3_2 a3_3 a3_4 A_19 C_20 U_21 B22 x6
      have HT := ht.on B26
      go_wp2_with fail
      obtain ⟨za, ga0, ga1, ga2, ga3, ga4⟩ := id A_23
      have Fa0 : ∀ x : Later w6.heap.size w6, x.u.cell? ⟨w.heap.size, 0, none⟩ = some (.int .u8 (p : Int)) := fun x => x.block za ga0
      have Fa1 : ∀ x : Later w6.heap.size w6, x.u.cell? ⟨w.heap.size, 1, none⟩ = some (.int .u32 (a : Int)) := fun x => x.block za ga1
      have Fa2 : ∀ x : Later w6.heap.size w6, x.u.cell? ⟨w.heap.size, 2, none⟩ = some (.int .u16 (m : Int)) := fun x => x.block za ga2
      have Fa3 : ∀ x : Later w6.heap.size w6, x.u.cell? ⟨w.heap.size, 3, none⟩ = some (.int .u32 (b : Int)) := fun x => x.block za ga3
      have Fa4 : ∀ x : Later w6.heap.size w6, x.u.cell? ⟨w.heap.size, 4, none⟩ = some (.int .u16 (n : Int)) := fun x => x.block za ga4
      clear ga0 ga1 ga2 ga3 ga4
      obtain ⟨zc, gc0, gc1, gc2, gc3, gc4⟩ := id C_24
      have Fc0 : ∀ x : Later w6.heap.size w6, x.u.cell? ⟨(w.heap.size + 1), 0, none⟩ = some (.int .u8 (p : Int)) := fun x => x.block zc gc0
      have Fc1 : ∀ x : Later w6.heap.size w6, x.u.cell? ⟨(w.heap.size + 1), 1, none⟩ = some (.int .u32 (a : Int)) := fun x => x.block zc gc1
      have Fc2 : ∀ x : Later w6.heap.size w6, x.u.cell? ⟨(w.heap.size + 1), 2, none⟩ = some (.int .u16 (k : Int)) := fun x => x.block zc gc2
      have Fc3 : ∀ x : Later w6.heap.size w6, x.u.cell? ⟨(w.heap.size + 1), 3, none⟩ = some (.int .u32 (d : Int)) := fun x => x.block zc gc3
      have Fc4 : ∀ x : Later w6.heap.size w6, x.u.cell? ⟨(w.heap.size + 1), 4, none⟩ = some (.int .u16 (j : Int)) := fun x => x.block zc gc4
      clear gc0 gc1 gc2 gc3 gc4
      obtain ⟨zu, gu0, gu1, gu2, gu3, gu4⟩ := id U_25
      have Fu0 : ∀ x : Later w6.heap.size w6, x.u.cell? ⟨w5.heap.size, 0, none⟩ = some (.int .u8 (p : Int)) := fun x => x.block zu gu0
      have Fu1 : ∀ x : Later w6.heap.size w6, x.u.cell? ⟨w5.heap.size, 1, none⟩ = some (.int .u32 (a : Int)) := fun x => x.block zu gu1
      have Fu2 : ∀ x : Later w6.heap.size w6, x.u.cell? ⟨w5.heap.size, 2, none⟩ = some (.int .u16 (m : Int)) := fun x => x.block zu gu2
      have Fu3 : ∀ x : Later w6.heap.size w6, x.u.cell? ⟨w5.heap.size, 3, none⟩ = some (.int .u32 (b : Int)) := fun x => x.block zu gu3
      have Fu4 : ∀ x : Later w6.heap.size w6, x.u.cell? ⟨w5.heap.size, 4, none⟩ = some (.int .u16 (n : Int)) := fun x => x.block zu gu4
      clear gu0 gu1 gu2 gu3 gu4
      refine region_later (B := w6.heap.size) (by kernel_rfl) (by kernel_rfl) ?_
      repeat (go_big_quiet_step (first
        | (go_at_call_of 8 (#[Value.agg #[.int .u8 (p : Int), .int .u32 (a : Int), .int .u16 (k : Int), .int .u32 (d : Int), .int .u16 (j : Int)]]); exact later_of _ (Nat.le_refl _) (cM3 _ (HT.on (Later.h _))))
        | (go_at_call_of 12 (#[Value.agg #[.int .u8 (p : Int), .int .u32 (a : Int), .int .u16 (m : Int), .int .u32 (b : Int), .int .u16 (n : Int)]]); exact later_of _ (Nat.le_refl _) (cT1 _ (HT.on (Later.h _))))
        | (go_at_call_of 12 (#[Value.agg #[.int .u8 (p : Int), .int .u32 (a : Int), .int .u16 (k : Int), .int .u32 (d : Int), .int .u16 (j : Int)]]); exact later_of _ (Nat.le_refl _) (cT2 _ (HT.on (Later.h _))))
        | (go_at_call 6; exact later_of _ (Nat.le_refl _) (watched_ K _ (HT.on (Later.h _))))))
      refine later_end fun w7 x7 => ?_
      have A_27 := A_23.on x7
      have C_28 := C_24.on x7
      have U_29 := U_25.on x7
      have B30 := B26.trans (x7.mono B26.size)
      clear Fa0 Fa1 Fa2 Fa3 Fa4 za Fc0 Fc1 Fc2 Fc3 Fc4 zc Fu0 Fu1 Fu2 Fu3 Fu4 zu A_23 C_24 U_25 B26 x7
      go_wp2
      go_ret
      exact ⟨rfl, B30⟩
  · have cP := cP1 rfl
    have hn : (S1.toList == S2.toList) = false := by
      have := hS rfl rfl
      simp only [beq_eq_false_iff_ne, ne_eq]
      intro h
      exact this (toList_inj_ h)
    clear cP0 cP1 hS
    cases lv
    all_goals
      go_enter Tryd.func4, Tryd.ntmps4
      have B1 := Below.refl w.heap.size w
      go_wp2_with fail
      have A_2 := Box5.make w (.int .u8 (p : Int)) (.int .u32 (a : Int)) (.int .u16 (m : Int)) (.int .u32 (b : Int)) (.int .u16 (n : Int)) 29
      have B3 := B1.alloc B1.size (.cells #[.int .u8 (p : Int), .int .u32 (a : Int), .int .u16 (m : Int), .int .u32 (b : Int), .int .u16 (n : Int)] 29)
      clear B1
      have A_4 := A_2.past (o := (.cells #[.int .u8 (p : Int), .int .u32 (a : Int), .int .u16 (k : Int), .int .u32 (d : Int), .int .u16 (j : Int)] 29))
      have hs_ : (w.alloc (.cells #[.int .u8 (p : Int), .int .u32 (a : Int), .int .u16 (m : Int), .int .u32 (b : Int), .int .u16 (n : Int)] 29)).heap.size = w.heap.size + 1 := by simp
      have C_5 := Box5.make (w.alloc (.cells #[.int .u8 (p : Int), .int .u32 (a : Int), .int .u16 (m : Int), .int .u32 (b : Int), .int .u16 (n : Int)] 29)) (.int .u8 (p : Int)) (.int .u32 (a : Int)) (.int .u16 (k : Int)) (.int .u32 (d : Int)) (.int .u16 (j : Int)) 29
      rw [hs_] at C_5
      clear hs_
      have B6 := B3.alloc B3.size (.cells #[.int .u8 (p : Int), .int .u32 (a : Int), .int .u16 (k : Int), .int .u32 (d : Int), .int .u16 (j : Int)] 29)
      clear A_2 B3
      obtain ⟨u1, hu1⟩ : ∃ x, x = (w.alloc (.cells #[.int .u8 (p : Int), .int .u32 (a : Int), .int .u16 (m : Int), .int .u32 (b : Int), .int .u16 (n : Int)] 29)).alloc (.cells #[.int .u8 (p : Int), .int .u32 (a : Int), .int .u16 (k : Int), .int .u32 (d : Int), .int .u16 (j : Int)] 29) := ⟨_, rfl⟩
      rw [← hu1] at A_4 C_5 B6 ⊢
      clear hu1
      have HT := ht.on B6
      obtain ⟨za, ga0, ga1, ga2, ga3, ga4⟩ := id A_4
      have Fa0 : ∀ x : Later u1.heap.size u1, x.u.cell? ⟨w.heap.size, 0, none⟩ = some (.int .u8 (p : Int)) := fun x => x.block za ga0
      have Fa1 : ∀ x : Later u1.heap.size u1, x.u.cell? ⟨w.heap.size, 1, none⟩ = some (.int .u32 (a : Int)) := fun x => x.block za ga1
      have Fa2 : ∀ x : Later u1.heap.size u1, x.u.cell? ⟨w.heap.size, 2, none⟩ = some (.int .u16 (m : Int)) := fun x => x.block za ga2
      have Fa3 : ∀ x : Later u1.heap.size u1, x.u.cell? ⟨w.heap.size, 3, none⟩ = some (.int .u32 (b : Int)) := fun x => x.block za ga3
      have Fa4 : ∀ x : Later u1.heap.size u1, x.u.cell? ⟨w.heap.size, 4, none⟩ = some (.int .u16 (n : Int)) := fun x => x.block za ga4
      clear ga0 ga1 ga2 ga3 ga4
      refine region_later (B := u1.heap.size) (by kernel_rfl) (by kernel_rfl) ?_
      repeat (go_big_quiet_step (first
        | (go_at_call_of 9 (#[Value.agg #[.int .u8 (p : Int), .int .u32 (a : Int), .int .u16 (m : Int), .int .u32 (b : Int), .int .u16 (n : Int)]]); exact later_of _ (Nat.le_refl _) (cB1 _ (HT.on (Later.h _))))
        | (go_at_call_of 9 (#[Value.agg #[.int .u8 (p : Int), .int .u32 (b : Int), .int .u16 (n : Int), .int .u32 (a : Int), .int .u16 (m : Int)]]); exact later_of _ (Nat.le_refl _) (cB2 _ (HT.on (Later.h _))))
        | (go_at_call_of 8 (#[Value.agg #[.int .u8 (p : Int), .int .u32 (a : Int), .int .u16 (m : Int), .int .u32 (b : Int), .int .u16 (n : Int)]]); exact later_of _ (Nat.le_refl _) (cM1 _ (HT.on (Later.h _))))
        | (go_at_call_of 8 (#[Value.agg #[.int .u8 (p : Int), .int .u32 (b : Int), .int .u16 (n : Int), .int .u32 (a : Int), .int .u16 (m : Int)]]); exact later_of _ (Nat.le_refl _) (cM2 _ (HT.on (Later.h _))))))
      refine later_end fun w2 x2 => ?_
      have A_7 := A_4.on x2
      have C_8 := C_5.on x2
      have B9 := B6.trans (x2.mono B6.size)
      clear Fa0 Fa1 Fa2 Fa3 Fa4 za A_4 C_5 B6 x2
      clear HT
      have HT := ht.on B9
      go_wp2_with fail
      obtain ⟨za, ga0, ga1, ga2, ga3, ga4⟩ := id A_7
      have Fa0 : ∀ x : Later w2.heap.size w2, x.u.cell? ⟨w.heap.size, 0, none⟩ = some (.int .u8 (p : Int)) := fun x => x.block za ga0
      have Fa1 : ∀ x : Later w2.heap.size w2, x.u.cell? ⟨w.heap.size, 1, none⟩ = some (.int .u32 (a : Int)) := fun x => x.block za ga1
      have Fa2 : ∀ x : Later w2.heap.size w2, x.u.cell? ⟨w.heap.size, 2, none⟩ = some (.int .u16 (m : Int)) := fun x => x.block za ga2
      have Fa3 : ∀ x : Later w2.heap.size w2, x.u.cell? ⟨w.heap.size, 3, none⟩ = some (.int .u32 (b : Int)) := fun x => x.block za ga3
      have Fa4 : ∀ x : Later w2.heap.size w2, x.u.cell? ⟨w.heap.size, 4, none⟩ = some (.int .u16 (n : Int)) := fun x => x.block za ga4
      clear ga0 ga1 ga2 ga3 ga4
      obtain ⟨zc, gc0, gc1, gc2, gc3, gc4⟩ := id C_8
      have Fc0 : ∀ x : Later w2.heap.size w2, x.u.cell? ⟨(w.heap.size + 1), 0, none⟩ = some (.int .u8 (p : Int)) := fun x => x.block zc gc0
      have Fc1 : ∀ x : Later w2.heap.size w2, x.u.cell? ⟨(w.heap.size + 1), 1, none⟩ = some (.int .u32 (a : Int)) := fun x => x.block zc gc1
      have Fc2 : ∀ x : Later w2.heap.size w2, x.u.cell? ⟨(w.heap.size + 1), 2, none⟩ = some (.int .u16 (k : Int)) := fun x => x.block zc gc2
      have Fc3 : ∀ x : Later w2.heap.size w2, x.u.cell? ⟨(w.heap.size + 1), 3, none⟩ = some (.int .u32 (d : Int)) := fun x => x.block zc gc3
      have Fc4 : ∀ x : Later w2.heap.size w2, x.u.cell? ⟨(w.heap.size + 1), 4, none⟩ = some (.int .u16 (j : Int)) := fun x => x.block zc gc4
      clear gc0 gc1 gc2 gc3 gc4
      refine region_later (B := w2.heap.size) (by kernel_rfl) (by kernel_rfl) ?_
      repeat (go_big_quiet_step (first
        | (go_at_call_of 10 (#[Value.agg #[.int .u8 (p : Int), .int .u32 (a : Int), .int .u16 (m : Int), .int .u32 (b : Int), .int .u16 (n : Int)], Value.agg #[.int .u8 (p : Int), .int .u32 (a : Int), .int .u16 (k : Int), .int .u32 (d : Int), .int .u16 (j : Int)]]); exact later_of _ (Nat.le_refl _) (cL1 _ (HT.on (Later.h _))))
        | (go_at_call_of 10 (#[Value.agg #[.int .u8 (p : Int), .int .u32 (a : Int), .int .u16 (k : Int), .int .u32 (d : Int), .int .u16 (j : Int)], Value.agg #[.int .u8 (p : Int), .int .u32 (a : Int), .int .u16 (m : Int), .int .u32 (b : Int), .int .u16 (n : Int)]]); exact later_of _ (Nat.le_refl _) (cL2 _ (HT.on (Later.h _))))))
      refine later_end fun w3 x3 => ?_
      have A_10 := A_7.on x3
      have C_11 := C_8.on x3
      have B12 := B9.trans (x3.mono B9.size)
      clear Fa0 Fa1 Fa2 Fa3 Fa4 za Fc0 Fc1 Fc2 Fc3 Fc4 zc A_7 C_8 B9 x3
      clear HT
      obtain ⟨_, a1_0, a1_1, a1_2, a1_3, a1_4⟩ := id A_10
      obtain ⟨_, c2_0, c2_1, c2_2, c2_3, c2_4⟩ := id C_11
      go_wp2_with fail
      refine (cT1 _ (ht.on B12)).mono ?_; rintro e w4 ⟨rfl, x4⟩
      have A_13 := A_10.on x4
      have C_14 := C_11.on x4
      have B15 := B12.trans (x4.mono B12.size)
      clear a1_0 a1_1 a1_2 a1_3 a1_4 c2_0 c2_1 c2_2 c2_3 c2_4 A_10 C_11 B12 x4
      go_wp2_with fail
      refine (cP _ (ht.on B15)).mono ?_; rintro e w5 ⟨rfl, x5⟩
      have A_16 := A_13.on x5
      have C_17 := C_14.on x5
      have B18 := B15.trans (x5.mono B15.size)
      clear A_13 C_14 B15 x5
      clear cP
      have A_19 := A_16.past (o := (.cells #[.int .u8 (p : Int), .int .u32 (a : Int), .int .u16 (m : Int), .int .u32 (b : Int), .int .u16 (n : Int)] 29))
      have C_20 := C_17.past (o := (.cells #[.int .u8 (p : Int), .int .u32 (a : Int), .int .u16 (m : Int), .int .u32 (b : Int), .int .u16 (n : Int)] 29))
      have U_21 := Box5.make w5 (.int .u8 (p : Int)) (.int .u32 (a : Int)) (.int .u16 (m : Int)) (.int .u32 (b : Int)) (.int .u16 (n : Int)) 29
      have B22 := B18.alloc B18.size (.cells #[.int .u8 (p : Int), .int .u32 (a : Int), .int .u16 (m : Int), .int .u32 (b : Int), .int .u16 (n : Int)] 29)
      clear A_16 C_17 B18
      obtain ⟨_, a3_0, a3_1, a3_2, a3_3, a3_4⟩ := id A_19
      go_wp2_with fail
      refine (cM1 _ (ht.on B22)).mono ?_; rintro e w6 ⟨rfl, x6⟩
      have A_23 := A_19.on x6
      have C_24 := C_20.on x6
      have U_25 := U_21.on x6
      have B26 := B22.trans (x6.mono B22.size)
      clear a3_0 a3_1 a3_2 a3_3 a3_4 A_19 C_20 U_21 B22 x6
      have HT := ht.on B26
      go_wp2_with fail
      obtain ⟨za, ga0, ga1, ga2, ga3, ga4⟩ := id A_23
      have Fa0 : ∀ x : Later w6.heap.size w6, x.u.cell? ⟨w.heap.size, 0, none⟩ = some (.int .u8 (p : Int)) := fun x => x.block za ga0
      have Fa1 : ∀ x : Later w6.heap.size w6, x.u.cell? ⟨w.heap.size, 1, none⟩ = some (.int .u32 (a : Int)) := fun x => x.block za ga1
      have Fa2 : ∀ x : Later w6.heap.size w6, x.u.cell? ⟨w.heap.size, 2, none⟩ = some (.int .u16 (m : Int)) := fun x => x.block za ga2
      have Fa3 : ∀ x : Later w6.heap.size w6, x.u.cell? ⟨w.heap.size, 3, none⟩ = some (.int .u32 (b : Int)) := fun x => x.block za ga3
      have Fa4 : ∀ x : Later w6.heap.size w6, x.u.cell? ⟨w.heap.size, 4, none⟩ = some (.int .u16 (n : Int)) := fun x => x.block za ga4
      clear ga0 ga1 ga2 ga3 ga4
      obtain ⟨zc, gc0, gc1, gc2, gc3, gc4⟩ := id C_24
      have Fc0 : ∀ x : Later w6.heap.size w6, x.u.cell? ⟨(w.heap.size + 1), 0, none⟩ = some (.int .u8 (p : Int)) := fun x => x.block zc gc0
      have Fc1 : ∀ x : Later w6.heap.size w6, x.u.cell? ⟨(w.heap.size + 1), 1, none⟩ = some (.int .u32 (a : Int)) := fun x => x.block zc gc1
      have Fc2 : ∀ x : Later w6.heap.size w6, x.u.cell? ⟨(w.heap.size + 1), 2, none⟩ = some (.int .u16 (k : Int)) := fun x => x.block zc gc2
      have Fc3 : ∀ x : Later w6.heap.size w6, x.u.cell? ⟨(w.heap.size + 1), 3, none⟩ = some (.int .u32 (d : Int)) := fun x => x.block zc gc3
      have Fc4 : ∀ x : Later w6.heap.size w6, x.u.cell? ⟨(w.heap.size + 1), 4, none⟩ = some (.int .u16 (j : Int)) := fun x => x.block zc gc4
      clear gc0 gc1 gc2 gc3 gc4
      obtain ⟨zu, gu0, gu1, gu2, gu3, gu4⟩ := id U_25
      have Fu0 : ∀ x : Later w6.heap.size w6, x.u.cell? ⟨w5.heap.size, 0, none⟩ = some (.int .u8 (p : Int)) := fun x => x.block zu gu0
      have Fu1 : ∀ x : Later w6.heap.size w6, x.u.cell? ⟨w5.heap.size, 1, none⟩ = some (.int .u32 (a : Int)) := fun x => x.block zu gu1
      have Fu2 : ∀ x : Later w6.heap.size w6, x.u.cell? ⟨w5.heap.size, 2, none⟩ = some (.int .u16 (m : Int)) := fun x => x.block zu gu2
      have Fu3 : ∀ x : Later w6.heap.size w6, x.u.cell? ⟨w5.heap.size, 3, none⟩ = some (.int .u32 (b : Int)) := fun x => x.block zu gu3
      have Fu4 : ∀ x : Later w6.heap.size w6, x.u.cell? ⟨w5.heap.size, 4, none⟩ = some (.int .u16 (n : Int)) := fun x => x.block zu gu4
      clear gu0 gu1 gu2 gu3 gu4
      refine region_later (B := w6.heap.size) (by kernel_rfl) (by kernel_rfl) ?_
      repeat (go_big_quiet_step (first
        | (go_at_call_of 8 (#[Value.agg #[.int .u8 (p : Int), .int .u32 (a : Int), .int .u16 (k : Int), .int .u32 (d : Int), .int .u16 (j : Int)]]); exact later_of _ (Nat.le_refl _) (cM3 _ (HT.on (Later.h _))))
        | (go_at_call_of 12 (#[Value.agg #[.int .u8 (p : Int), .int .u32 (a : Int), .int .u16 (m : Int), .int .u32 (b : Int), .int .u16 (n : Int)]]); exact later_of _ (Nat.le_refl _) (cT1 _ (HT.on (Later.h _))))
        | (go_at_call_of 12 (#[Value.agg #[.int .u8 (p : Int), .int .u32 (a : Int), .int .u16 (k : Int), .int .u32 (d : Int), .int .u16 (j : Int)]]); exact later_of _ (Nat.le_refl _) (cT2 _ (HT.on (Later.h _))))
        | (go_at_call 6; exact later_of _ (Nat.le_refl _) (watched_ K _ (HT.on (Later.h _))))))
      refine later_end fun w7 x7 => ?_
      have A_27 := A_23.on x7
      have C_28 := C_24.on x7
      have U_29 := U_25.on x7
      have B30 := B26.trans (x7.mono B26.size)
      clear Fa0 Fa1 Fa2 Fa3 Fa4 za Fc0 Fc1 Fc2 Fc3 Fc4 zc Fu0 Fu1 Fu2 Fu3 Fu4 zu A_23 C_24 U_25 B26 x7
      go_wp2
      go_ret
      exact ⟨rfl, B30⟩
end Go.Proofs.YtidkgnanfhdhdaaDoor.TuplesBack

namespace Go.Proofs.YtidkgnanfhdhdaaDoor.TuplesBack
set_option linter.unusedVariables false
set_option linter.unusedSimpArgs false
open Go.ChangeShapes Go.WideShapes Go.ChangeAt Go.RowKit Go.PlainAid

set_option maxRecDepth 100000 in
set_option maxHeartbeats 8000000 in
theorem back_3 (p a m b n q c k d j : Nat) (S1 S2 : ByteArray) (mv nv lv : Bool) (K : TupOk) (w : World) (ht : Tab w) (cB1 : ∀ u : World, Tab u → Calls Tryd.prog 9 #[.agg #[.int .u8 (p : Int), .int .u32 (a : Int), .int .u16 (m : Int), .int .u32 (b : Int), .int .u16 (n : Int)]] u fun e w' => e = .returned (.agg #[.int .u8 (p : Int), .int .u32 (b : Int), .int .u16 (n : Int), .int .u32 (a : Int), .int .u16 (m : Int)]) ∧ Below u.heap.size u w')
    (cB2 : ∀ u : World, Tab u → Calls Tryd.prog 9 #[.agg #[.int .u8 (p : Int), .int .u32 (b : Int), .int .u16 (n : Int), .int .u32 (a : Int), .int .u16 (m : Int)]] u fun e w' => e = .returned (.agg #[.int .u8 (p : Int), .int .u32 (a : Int), .int .u16 (m : Int), .int .u32 (b : Int), .int .u16 (n : Int)]) ∧ Below u.heap.size u w')
    (cM1 : ∀ u : World, Tab u → Calls Tryd.prog 8 #[.agg #[.int .u8 (p : Int), .int .u32 (a : Int), .int .u16 (m : Int), .int .u32 (b : Int), .int .u16 (n : Int)]] u fun e w' => e = .returned (.bool mv) ∧ Below u.heap.size u w')
    (cM2 : ∀ u : World, Tab u → Calls Tryd.prog 8 #[.agg #[.int .u8 (p : Int), .int .u32 (b : Int), .int .u16 (n : Int), .int .u32 (a : Int), .int .u16 (m : Int)]] u fun e w' => e = .returned (.bool mv) ∧ Below u.heap.size u w')
    (cT1 : ∀ u : World, Tab u → Calls Tryd.prog 12 #[.agg #[.int .u8 (p : Int), .int .u32 (a : Int), .int .u16 (m : Int), .int .u32 (b : Int), .int .u16 (n : Int)]] u fun e w' => e = .returned (.string S1) ∧ Below u.heap.size u w')
    (cM3 : ∀ u : World, Tab u → Calls Tryd.prog 8 #[.agg #[.int .u8 (p : Int), .int .u32 (a : Int), .int .u16 (m : Int), .int .u32 (d : Int), .int .u16 (j : Int)]] u fun e w' => e = .returned (.bool nv) ∧ Below u.heap.size u w')
    (cL1 : ∀ u : World, Tab u → Calls Tryd.prog 10 #[.agg #[.int .u8 (p : Int), .int .u32 (a : Int), .int .u16 (m : Int), .int .u32 (b : Int), .int .u16 (n : Int)], .agg #[.int .u8 (p : Int), .int .u32 (a : Int), .int .u16 (m : Int), .int .u32 (d : Int), .int .u16 (j : Int)]] u fun e w' => e = .returned (.bool lv) ∧ Below u.heap.size u w')
    (cL2 : ∀ u : World, Tab u → Calls Tryd.prog 10 #[.agg #[.int .u8 (p : Int), .int .u32 (a : Int), .int .u16 (m : Int), .int .u32 (d : Int), .int .u16 (j : Int)], .agg #[.int .u8 (p : Int), .int .u32 (a : Int), .int .u16 (m : Int), .int .u32 (b : Int), .int .u16 (n : Int)]] u fun e w' => e = .returned (.bool (!lv)) ∧ Below u.heap.size u w')
    (cT2 : ∀ u : World, Tab u → Calls Tryd.prog 12 #[.agg #[.int .u8 (p : Int), .int .u32 (a : Int), .int .u16 (m : Int), .int .u32 (d : Int), .int .u16 (j : Int)]] u fun e w' => e = .returned (.string S2) ∧ Below u.heap.size u w')
    (cP1 : mv = true → ∀ u : World, Tab u → Calls Tryd.prog 11 #[.string S1] u fun e w' => e = .returned (.tuple #[.agg #[.int .u8 (p : Int), .int .u32 (a : Int), .int .u16 (m : Int), .int .u32 (b : Int), .int .u16 (n : Int)], .int .i64 0]) ∧ Below u.heap.size u w')
    (cP0 : mv = false → S1 = ⟨#[]⟩ ∧ ∀ u : World, Tab u → Calls Tryd.prog 11 #[.string S1] u fun e w' => e = .returned (.tuple #[.agg #[.int .u8 0, .int .u32 0, .int .u16 0, .int .u32 0, .int .u16 0], .int .i64 3]) ∧ Below u.heap.size u w')
    (hne : ¬ b = d)
    (hS : mv = true → nv = true → ¬ S1 = S2) :
    Calls Tryd.prog 4 #[.agg #[.int .u8 (p : Int), .int .u32 (a : Int), .int .u16 (m : Int), .int .u32 (b : Int), .int .u16 (n : Int)], .agg #[.int .u8 (p : Int), .int .u32 (a : Int), .int .u16 (m : Int), .int .u32 (d : Int), .int .u16 (j : Int)]] w fun e w' => e = .returned (.bool true) ∧ Below w.heap.size w w' := by
  have ne1 : ((b : Int) == (d : Int)) = false := by simp; omega
  have ne2 : ((b : Nat) == (d : Nat)) = false := by simpa using hne
  clear hne
  have hSS : (S1.toList == S1.toList) = true := by simp
  have key : mv = false ∨ (mv = true ∧ nv = false) ∨ (mv = true ∧ nv = true) := by cases mv <;> cases nv <;> simp
  rcases key with rfl | ⟨rfl, rfl⟩ | ⟨rfl, rfl⟩
  · have cP := (cP0 rfl).2
    have e0 := (cP0 rfl).1
    subst e0
    clear cP0 cP1 hS
    cases lv
    all_goals
      go_enter Tryd.func4, Tryd.ntmps4
      have B1 := Below.refl w.heap.size w
      go_wp2_with fail
      have A_2 := Box5.make w (.int .u8 (p : Int)) (.int .u32 (a : Int)) (.int .u16 (m : Int)) (.int .u32 (b : Int)) (.int .u16 (n : Int)) 29
      have B3 := B1.alloc B1.size (.cells #[.int .u8 (p : Int), .int .u32 (a : Int), .int .u16 (m : Int), .int .u32 (b : Int), .int .u16 (n : Int)] 29)
      clear B1
      have A_4 := A_2.past (o := (.cells #[.int .u8 (p : Int), .int .u32 (a : Int), .int .u16 (m : Int), .int .u32 (d : Int), .int .u16 (j : Int)] 29))
      have hs_ : (w.alloc (.cells #[.int .u8 (p : Int), .int .u32 (a : Int), .int .u16 (m : Int), .int .u32 (b : Int), .int .u16 (n : Int)] 29)).heap.size = w.heap.size + 1 := by simp
      have C_5 := Box5.make (w.alloc (.cells #[.int .u8 (p : Int), .int .u32 (a : Int), .int .u16 (m : Int), .int .u32 (b : Int), .int .u16 (n : Int)] 29)) (.int .u8 (p : Int)) (.int .u32 (a : Int)) (.int .u16 (m : Int)) (.int .u32 (d : Int)) (.int .u16 (j : Int)) 29
      rw [hs_] at C_5
      clear hs_
      have B6 := B3.alloc B3.size (.cells #[.int .u8 (p : Int), .int .u32 (a : Int), .int .u16 (m : Int), .int .u32 (d : Int), .int .u16 (j : Int)] 29)
      clear A_2 B3
      obtain ⟨u1, hu1⟩ : ∃ x, x = (w.alloc (.cells #[.int .u8 (p : Int), .int .u32 (a : Int), .int .u16 (m : Int), .int .u32 (b : Int), .int .u16 (n : Int)] 29)).alloc (.cells #[.int .u8 (p : Int), .int .u32 (a : Int), .int .u16 (m : Int), .int .u32 (d : Int), .int .u16 (j : Int)] 29) := ⟨_, rfl⟩
      rw [← hu1] at A_4 C_5 B6 ⊢
      clear hu1
      have HT := ht.on B6
      obtain ⟨za, ga0, ga1, ga2, ga3, ga4⟩ := id A_4
      have Fa0 : ∀ x : Later u1.heap.size u1, x.u.cell? ⟨w.heap.size, 0, none⟩ = some (.int .u8 (p : Int)) := fun x => x.block za ga0
      have Fa1 : ∀ x : Later u1.heap.size u1, x.u.cell? ⟨w.heap.size, 1, none⟩ = some (.int .u32 (a : Int)) := fun x => x.block za ga1
      have Fa2 : ∀ x : Later u1.heap.size u1, x.u.cell? ⟨w.heap.size, 2, none⟩ = some (.int .u16 (m : Int)) := fun x => x.block za ga2
      have Fa3 : ∀ x : Later u1.heap.size u1, x.u.cell? ⟨w.heap.size, 3, none⟩ = some (.int .u32 (b : Int)) := fun x => x.block za ga3
      have Fa4 : ∀ x : Later u1.heap.size u1, x.u.cell? ⟨w.heap.size, 4, none⟩ = some (.int .u16 (n : Int)) := fun x => x.block za ga4
      clear ga0 ga1 ga2 ga3 ga4
      refine region_later (B := u1.heap.size) (by kernel_rfl) (by kernel_rfl) ?_
      repeat (go_big_quiet_step (first
        | (go_at_call_of 9 (#[Value.agg #[.int .u8 (p : Int), .int .u32 (a : Int), .int .u16 (m : Int), .int .u32 (b : Int), .int .u16 (n : Int)]]); exact later_of _ (Nat.le_refl _) (cB1 _ (HT.on (Later.h _))))
        | (go_at_call_of 9 (#[Value.agg #[.int .u8 (p : Int), .int .u32 (b : Int), .int .u16 (n : Int), .int .u32 (a : Int), .int .u16 (m : Int)]]); exact later_of _ (Nat.le_refl _) (cB2 _ (HT.on (Later.h _))))
        | (go_at_call_of 8 (#[Value.agg #[.int .u8 (p : Int), .int .u32 (a : Int), .int .u16 (m : Int), .int .u32 (b : Int), .int .u16 (n : Int)]]); exact later_of _ (Nat.le_refl _) (cM1 _ (HT.on (Later.h _))))
        | (go_at_call_of 8 (#[Value.agg #[.int .u8 (p : Int), .int .u32 (b : Int), .int .u16 (n : Int), .int .u32 (a : Int), .int .u16 (m : Int)]]); exact later_of _ (Nat.le_refl _) (cM2 _ (HT.on (Later.h _))))))
      refine later_end fun w2 x2 => ?_
      have A_7 := A_4.on x2
      have C_8 := C_5.on x2
      have B9 := B6.trans (x2.mono B6.size)
      clear Fa0 Fa1 Fa2 Fa3 Fa4 za A_4 C_5 B6 x2
      clear HT
      have HT := ht.on B9
      go_wp2_with fail
      obtain ⟨za, ga0, ga1, ga2, ga3, ga4⟩ := id A_7
      have Fa0 : ∀ x : Later w2.heap.size w2, x.u.cell? ⟨w.heap.size, 0, none⟩ = some (.int .u8 (p : Int)) := fun x => x.block za ga0
      have Fa1 : ∀ x : Later w2.heap.size w2, x.u.cell? ⟨w.heap.size, 1, none⟩ = some (.int .u32 (a : Int)) := fun x => x.block za ga1
      have Fa2 : ∀ x : Later w2.heap.size w2, x.u.cell? ⟨w.heap.size, 2, none⟩ = some (.int .u16 (m : Int)) := fun x => x.block za ga2
      have Fa3 : ∀ x : Later w2.heap.size w2, x.u.cell? ⟨w.heap.size, 3, none⟩ = some (.int .u32 (b : Int)) := fun x => x.block za ga3
      have Fa4 : ∀ x : Later w2.heap.size w2, x.u.cell? ⟨w.heap.size, 4, none⟩ = some (.int .u16 (n : Int)) := fun x => x.block za ga4
      clear ga0 ga1 ga2 ga3 ga4
      obtain ⟨zc, gc0, gc1, gc2, gc3, gc4⟩ := id C_8
      have Fc0 : ∀ x : Later w2.heap.size w2, x.u.cell? ⟨(w.heap.size + 1), 0, none⟩ = some (.int .u8 (p : Int)) := fun x => x.block zc gc0
      have Fc1 : ∀ x : Later w2.heap.size w2, x.u.cell? ⟨(w.heap.size + 1), 1, none⟩ = some (.int .u32 (a : Int)) := fun x => x.block zc gc1
      have Fc2 : ∀ x : Later w2.heap.size w2, x.u.cell? ⟨(w.heap.size + 1), 2, none⟩ = some (.int .u16 (m : Int)) := fun x => x.block zc gc2
      have Fc3 : ∀ x : Later w2.heap.size w2, x.u.cell? ⟨(w.heap.size + 1), 3, none⟩ = some (.int .u32 (d : Int)) := fun x => x.block zc gc3
      have Fc4 : ∀ x : Later w2.heap.size w2, x.u.cell? ⟨(w.heap.size + 1), 4, none⟩ = some (.int .u16 (j : Int)) := fun x => x.block zc gc4
      clear gc0 gc1 gc2 gc3 gc4
      refine region_later (B := w2.heap.size) (by kernel_rfl) (by kernel_rfl) ?_
      repeat (go_big_quiet_step (first
        | (go_at_call_of 10 (#[Value.agg #[.int .u8 (p : Int), .int .u32 (a : Int), .int .u16 (m : Int), .int .u32 (b : Int), .int .u16 (n : Int)], Value.agg #[.int .u8 (p : Int), .int .u32 (a : Int), .int .u16 (m : Int), .int .u32 (d : Int), .int .u16 (j : Int)]]); exact later_of _ (Nat.le_refl _) (cL1 _ (HT.on (Later.h _))))
        | (go_at_call_of 10 (#[Value.agg #[.int .u8 (p : Int), .int .u32 (a : Int), .int .u16 (m : Int), .int .u32 (d : Int), .int .u16 (j : Int)], Value.agg #[.int .u8 (p : Int), .int .u32 (a : Int), .int .u16 (m : Int), .int .u32 (b : Int), .int .u16 (n : Int)]]); exact later_of _ (Nat.le_refl _) (cL2 _ (HT.on (Later.h _))))))
      refine later_end fun w3 x3 => ?_
      have A_10 := A_7.on x3
      have C_11 := C_8.on x3
      have B12 := B9.trans (x3.mono B9.size)
      clear Fa0 Fa1 Fa2 Fa3 Fa4 za Fc0 Fc1 Fc2 Fc3 Fc4 zc A_7 C_8 B9 x3
      clear HT
      obtain ⟨_, a1_0, a1_1, a1_2, a1_3, a1_4⟩ := id A_10
      obtain ⟨_, c2_0, c2_1, c2_2, c2_3, c2_4⟩ := id C_11
      go_wp2_with fail
      refine (cT1 _ (ht.on B12)).mono ?_; rintro e w4 ⟨rfl, x4⟩
      have A_13 := A_10.on x4
      have C_14 := C_11.on x4
      have B15 := B12.trans (x4.mono B12.size)
      clear a1_0 a1_1 a1_2 a1_3 a1_4 c2_0 c2_1 c2_2 c2_3 c2_4 A_10 C_11 B12 x4
      go_wp2_with fail
      refine (cP _ (ht.on B15)).mono ?_; rintro e w5 ⟨rfl, x5⟩
      have A_16 := A_13.on x5
      have C_17 := C_14.on x5
      have B18 := B15.trans (x5.mono B15.size)
      clear A_13 C_14 B15 x5
      clear cP
      have A_19 := A_16.past (o := (.cells #[.int .u8 0, .int .u32 0, .int .u16 0, .int .u32 0, .int .u16 0] 29))
      have C_20 := C_17.past (o := (.cells #[.int .u8 0, .int .u32 0, .int .u16 0, .int .u32 0, .int .u16 0] 29))
      have U_21 := Box5.make w5 (.int .u8 0) (.int .u32 0) (.int .u16 0) (.int .u32 0) (.int .u16 0) 29
      have B22 := B18.alloc B18.size (.cells #[.int .u8 0, .int .u32 0, .int .u16 0, .int .u32 0, .int .u16 0] 29)
      clear A_16 C_17 B18
      obtain ⟨_, a3_0, a3_1, a3_2, a3_3, a3_4⟩ := id A_19
      go_wp2_with fail
      refine (cM1 _ (ht.on B22)).mono ?_; rintro e w6 ⟨rfl, x6⟩
      have A_23 := A_19.on x6
      have C_24 := C_20.on x6
      have U_25 := U_21.on x6
      have B26 := B22.trans (x6.mono B22.size)
      clear a3_0 a3_1 a3_2 a3_3 a3_4 A_19 C_20 U_21 B22 x6
      obtain ⟨_, a4_0, a4_1, a4_2, a4_3, a4_4⟩ := id A_23
      go_wp2_with fail
      refine (cT1 _ (ht.on B26)).mono ?_; rintro e w7 ⟨rfl, x7⟩
      have A_27 := A_23.on x7
      have C_28 := C_24.on x7
      have U_29 := U_25.on x7
      have B30 := B26.trans (x7.mono B26.size)
      clear a4_0 a4_1 a4_2 a4_3 a4_4 A_23 C_24 U_25 B26 x7
      go_wp2_with fail
      refine (watched_ K _ (ht.on B30)).mono ?_; rintro e w8 ⟨rfl, x8⟩
      have A_31 := A_27.on x8
      have C_32 := C_28.on x8
      have U_33 := U_29.on x8
      have B34 := B30.trans (x8.mono B30.size)
      clear A_27 C_28 U_29 B30 x8
      go_wp2
      go_ret
      exact ⟨rfl, B34⟩
  · have cP := cP1 rfl
    clear cP0 cP1 hS
    cases lv
    all_goals
      go_enter Tryd.func4, Tryd.ntmps4
      have B1 := Below.refl w.heap.size w
      go_wp2_with fail
      have A_2 := Box5.make w (.int .u8 (p : Int)) (.int .u32 (a : Int)) (.int .u16 (m : Int)) (.int .u32 (b : Int)) (.int .u16 (n : Int)) 29
      have B3 := B1.alloc B1.size (.cells #[.int .u8 (p : Int), .int .u32 (a : Int), .int .u16 (m : Int), .int .u32 (b : Int), .int .u16 (n : Int)] 29)
      clear B1
      have A_4 := A_2.past (o := (.cells #[.int .u8 (p : Int), .int .u32 (a : Int), .int .u16 (m : Int), .int .u32 (d : Int), .int .u16 (j : Int)] 29))
      have hs_ : (w.alloc (.cells #[.int .u8 (p : Int), .int .u32 (a : Int), .int .u16 (m : Int), .int .u32 (b : Int), .int .u16 (n : Int)] 29)).heap.size = w.heap.size + 1 := by simp
      have C_5 := Box5.make (w.alloc (.cells #[.int .u8 (p : Int), .int .u32 (a : Int), .int .u16 (m : Int), .int .u32 (b : Int), .int .u16 (n : Int)] 29)) (.int .u8 (p : Int)) (.int .u32 (a : Int)) (.int .u16 (m : Int)) (.int .u32 (d : Int)) (.int .u16 (j : Int)) 29
      rw [hs_] at C_5
      clear hs_
      have B6 := B3.alloc B3.size (.cells #[.int .u8 (p : Int), .int .u32 (a : Int), .int .u16 (m : Int), .int .u32 (d : Int), .int .u16 (j : Int)] 29)
      clear A_2 B3
      obtain ⟨u1, hu1⟩ : ∃ x, x = (w.alloc (.cells #[.int .u8 (p : Int), .int .u32 (a : Int), .int .u16 (m : Int), .int .u32 (b : Int), .int .u16 (n : Int)] 29)).alloc (.cells #[.int .u8 (p : Int), .int .u32 (a : Int), .int .u16 (m : Int), .int .u32 (d : Int), .int .u16 (j : Int)] 29) := ⟨_, rfl⟩
      rw [← hu1] at A_4 C_5 B6 ⊢
      clear hu1
      have HT := ht.on B6
      obtain ⟨za, ga0, ga1, ga2, ga3, ga4⟩ := id A_4
      have Fa0 : ∀ x : Later u1.heap.size u1, x.u.cell? ⟨w.heap.size, 0, none⟩ = some (.int .u8 (p : Int)) := fun x => x.block za ga0
      have Fa1 : ∀ x : Later u1.heap.size u1, x.u.cell? ⟨w.heap.size, 1, none⟩ = some (.int .u32 (a : Int)) := fun x => x.block za ga1
      have Fa2 : ∀ x : Later u1.heap.size u1, x.u.cell? ⟨w.heap.size, 2, none⟩ = some (.int .u16 (m : Int)) := fun x => x.block za ga2
      have Fa3 : ∀ x : Later u1.heap.size u1, x.u.cell? ⟨w.heap.size, 3, none⟩ = some (.int .u32 (b : Int)) := fun x => x.block za ga3
      have Fa4 : ∀ x : Later u1.heap.size u1, x.u.cell? ⟨w.heap.size, 4, none⟩ = some (.int .u16 (n : Int)) := fun x => x.block za ga4
      clear ga0 ga1 ga2 ga3 ga4
      refine region_later (B := u1.heap.size) (by kernel_rfl) (by kernel_rfl) ?_
      repeat (go_big_quiet_step (first
        | (go_at_call_of 9 (#[Value.agg #[.int .u8 (p : Int), .int .u32 (a : Int), .int .u16 (m : Int), .int .u32 (b : Int), .int .u16 (n : Int)]]); exact later_of _ (Nat.le_refl _) (cB1 _ (HT.on (Later.h _))))
        | (go_at_call_of 9 (#[Value.agg #[.int .u8 (p : Int), .int .u32 (b : Int), .int .u16 (n : Int), .int .u32 (a : Int), .int .u16 (m : Int)]]); exact later_of _ (Nat.le_refl _) (cB2 _ (HT.on (Later.h _))))
        | (go_at_call_of 8 (#[Value.agg #[.int .u8 (p : Int), .int .u32 (a : Int), .int .u16 (m : Int), .int .u32 (b : Int), .int .u16 (n : Int)]]); exact later_of _ (Nat.le_refl _) (cM1 _ (HT.on (Later.h _))))
        | (go_at_call_of 8 (#[Value.agg #[.int .u8 (p : Int), .int .u32 (b : Int), .int .u16 (n : Int), .int .u32 (a : Int), .int .u16 (m : Int)]]); exact later_of _ (Nat.le_refl _) (cM2 _ (HT.on (Later.h _))))))
      refine later_end fun w2 x2 => ?_
      have A_7 := A_4.on x2
      have C_8 := C_5.on x2
      have B9 := B6.trans (x2.mono B6.size)
      clear Fa0 Fa1 Fa2 Fa3 Fa4 za A_4 C_5 B6 x2
      clear HT
      have HT := ht.on B9
      go_wp2_with fail
      obtain ⟨za, ga0, ga1, ga2, ga3, ga4⟩ := id A_7
      have Fa0 : ∀ x : Later w2.heap.size w2, x.u.cell? ⟨w.heap.size, 0, none⟩ = some (.int .u8 (p : Int)) := fun x => x.block za ga0
      have Fa1 : ∀ x : Later w2.heap.size w2, x.u.cell? ⟨w.heap.size, 1, none⟩ = some (.int .u32 (a : Int)) := fun x => x.block za ga1
      have Fa2 : ∀ x : Later w2.heap.size w2, x.u.cell? ⟨w.heap.size, 2, none⟩ = some (.int .u16 (m : Int)) := fun x => x.block za ga2
      have Fa3 : ∀ x : Later w2.heap.size w2, x.u.cell? ⟨w.heap.size, 3, none⟩ = some (.int .u32 (b : Int)) := fun x => x.block za ga3
      have Fa4 : ∀ x : Later w2.heap.size w2, x.u.cell? ⟨w.heap.size, 4, none⟩ = some (.int .u16 (n : Int)) := fun x => x.block za ga4
      clear ga0 ga1 ga2 ga3 ga4
      obtain ⟨zc, gc0, gc1, gc2, gc3, gc4⟩ := id C_8
      have Fc0 : ∀ x : Later w2.heap.size w2, x.u.cell? ⟨(w.heap.size + 1), 0, none⟩ = some (.int .u8 (p : Int)) := fun x => x.block zc gc0
      have Fc1 : ∀ x : Later w2.heap.size w2, x.u.cell? ⟨(w.heap.size + 1), 1, none⟩ = some (.int .u32 (a : Int)) := fun x => x.block zc gc1
      have Fc2 : ∀ x : Later w2.heap.size w2, x.u.cell? ⟨(w.heap.size + 1), 2, none⟩ = some (.int .u16 (m : Int)) := fun x => x.block zc gc2
      have Fc3 : ∀ x : Later w2.heap.size w2, x.u.cell? ⟨(w.heap.size + 1), 3, none⟩ = some (.int .u32 (d : Int)) := fun x => x.block zc gc3
      have Fc4 : ∀ x : Later w2.heap.size w2, x.u.cell? ⟨(w.heap.size + 1), 4, none⟩ = some (.int .u16 (j : Int)) := fun x => x.block zc gc4
      clear gc0 gc1 gc2 gc3 gc4
      refine region_later (B := w2.heap.size) (by kernel_rfl) (by kernel_rfl) ?_
      repeat (go_big_quiet_step (first
        | (go_at_call_of 10 (#[Value.agg #[.int .u8 (p : Int), .int .u32 (a : Int), .int .u16 (m : Int), .int .u32 (b : Int), .int .u16 (n : Int)], Value.agg #[.int .u8 (p : Int), .int .u32 (a : Int), .int .u16 (m : Int), .int .u32 (d : Int), .int .u16 (j : Int)]]); exact later_of _ (Nat.le_refl _) (cL1 _ (HT.on (Later.h _))))
        | (go_at_call_of 10 (#[Value.agg #[.int .u8 (p : Int), .int .u32 (a : Int), .int .u16 (m : Int), .int .u32 (d : Int), .int .u16 (j : Int)], Value.agg #[.int .u8 (p : Int), .int .u32 (a : Int), .int .u16 (m : Int), .int .u32 (b : Int), .int .u16 (n : Int)]]); exact later_of _ (Nat.le_refl _) (cL2 _ (HT.on (Later.h _))))))
      refine later_end fun w3 x3 => ?_
      have A_10 := A_7.on x3
      have C_11 := C_8.on x3
      have B12 := B9.trans (x3.mono B9.size)
      clear Fa0 Fa1 Fa2 Fa3 Fa4 za Fc0 Fc1 Fc2 Fc3 Fc4 zc A_7 C_8 B9 x3
      clear HT
      obtain ⟨_, a1_0, a1_1, a1_2, a1_3, a1_4⟩ := id A_10
      obtain ⟨_, c2_0, c2_1, c2_2, c2_3, c2_4⟩ := id C_11
      go_wp2_with fail
      refine (cT1 _ (ht.on B12)).mono ?_; rintro e w4 ⟨rfl, x4⟩
      have A_13 := A_10.on x4
      have C_14 := C_11.on x4
      have B15 := B12.trans (x4.mono B12.size)
      clear a1_0 a1_1 a1_2 a1_3 a1_4 c2_0 c2_1 c2_2 c2_3 c2_4 A_10 C_11 B12 x4
      go_wp2_with fail
      refine (cP _ (ht.on B15)).mono ?_; rintro e w5 ⟨rfl, x5⟩
      have A_16 := A_13.on x5
      have C_17 := C_14.on x5
      have B18 := B15.trans (x5.mono B15.size)
      clear A_13 C_14 B15 x5
      clear cP
      have A_19 := A_16.past (o := (.cells #[.int .u8 (p : Int), .int .u32 (a : Int), .int .u16 (m : Int), .int .u32 (b : Int), .int .u16 (n : Int)] 29))
      have C_20 := C_17.past (o := (.cells #[.int .u8 (p : Int), .int .u32 (a : Int), .int .u16 (m : Int), .int .u32 (b : Int), .int .u16 (n : Int)] 29))
      have U_21 := Box5.make w5 (.int .u8 (p : Int)) (.int .u32 (a : Int)) (.int .u16 (m : Int)) (.int .u32 (b : Int)) (.int .u16 (n : Int)) 29
      have B22 := B18.alloc B18.size (.cells #[.int .u8 (p : Int), .int .u32 (a : Int), .int .u16 (m : Int), .int .u32 (b : Int), .int .u16 (n : Int)] 29)
      clear A_16 C_17 B18
      obtain ⟨_, a3_0, a3_1, a3_2, a3_3, a3_4⟩ := id A_19
      go_wp2_with fail
      refine (cM1 _ (ht.on B22)).mono ?_; rintro e w6 ⟨rfl, x6⟩
      have A_23 := A_19.on x6
      have C_24 := C_20.on x6
      have U_25 := U_21.on x6
      have B26 := B22.trans (x6.mono B22.size)
      clear a3_0 a3_1 a3_2 a3_3 a3_4 A_19 C_20 U_21 B22 x6
      have HT := ht.on B26
      go_wp2_with fail
      obtain ⟨za, ga0, ga1, ga2, ga3, ga4⟩ := id A_23
      have Fa0 : ∀ x : Later w6.heap.size w6, x.u.cell? ⟨w.heap.size, 0, none⟩ = some (.int .u8 (p : Int)) := fun x => x.block za ga0
      have Fa1 : ∀ x : Later w6.heap.size w6, x.u.cell? ⟨w.heap.size, 1, none⟩ = some (.int .u32 (a : Int)) := fun x => x.block za ga1
      have Fa2 : ∀ x : Later w6.heap.size w6, x.u.cell? ⟨w.heap.size, 2, none⟩ = some (.int .u16 (m : Int)) := fun x => x.block za ga2
      have Fa3 : ∀ x : Later w6.heap.size w6, x.u.cell? ⟨w.heap.size, 3, none⟩ = some (.int .u32 (b : Int)) := fun x => x.block za ga3
      have Fa4 : ∀ x : Later w6.heap.size w6, x.u.cell? ⟨w.heap.size, 4, none⟩ = some (.int .u16 (n : Int)) := fun x => x.block za ga4
      clear ga0 ga1 ga2 ga3 ga4
      obtain ⟨zc, gc0, gc1, gc2, gc3, gc4⟩ := id C_24
      have Fc0 : ∀ x : Later w6.heap.size w6, x.u.cell? ⟨(w.heap.size + 1), 0, none⟩ = some (.int .u8 (p : Int)) := fun x => x.block zc gc0
      have Fc1 : ∀ x : Later w6.heap.size w6, x.u.cell? ⟨(w.heap.size + 1), 1, none⟩ = some (.int .u32 (a : Int)) := fun x => x.block zc gc1
      have Fc2 : ∀ x : Later w6.heap.size w6, x.u.cell? ⟨(w.heap.size + 1), 2, none⟩ = some (.int .u16 (m : Int)) := fun x => x.block zc gc2
      have Fc3 : ∀ x : Later w6.heap.size w6, x.u.cell? ⟨(w.heap.size + 1), 3, none⟩ = some (.int .u32 (d : Int)) := fun x => x.block zc gc3
      have Fc4 : ∀ x : Later w6.heap.size w6, x.u.cell? ⟨(w.heap.size + 1), 4, none⟩ = some (.int .u16 (j : Int)) := fun x => x.block zc gc4
      clear gc0 gc1 gc2 gc3 gc4
      obtain ⟨zu, gu0, gu1, gu2, gu3, gu4⟩ := id U_25
      have Fu0 : ∀ x : Later w6.heap.size w6, x.u.cell? ⟨w5.heap.size, 0, none⟩ = some (.int .u8 (p : Int)) := fun x => x.block zu gu0
      have Fu1 : ∀ x : Later w6.heap.size w6, x.u.cell? ⟨w5.heap.size, 1, none⟩ = some (.int .u32 (a : Int)) := fun x => x.block zu gu1
      have Fu2 : ∀ x : Later w6.heap.size w6, x.u.cell? ⟨w5.heap.size, 2, none⟩ = some (.int .u16 (m : Int)) := fun x => x.block zu gu2
      have Fu3 : ∀ x : Later w6.heap.size w6, x.u.cell? ⟨w5.heap.size, 3, none⟩ = some (.int .u32 (b : Int)) := fun x => x.block zu gu3
      have Fu4 : ∀ x : Later w6.heap.size w6, x.u.cell? ⟨w5.heap.size, 4, none⟩ = some (.int .u16 (n : Int)) := fun x => x.block zu gu4
      clear gu0 gu1 gu2 gu3 gu4
      refine region_later (B := w6.heap.size) (by kernel_rfl) (by kernel_rfl) ?_
      repeat (go_big_quiet_step (first
        | (go_at_call_of 8 (#[Value.agg #[.int .u8 (p : Int), .int .u32 (a : Int), .int .u16 (m : Int), .int .u32 (d : Int), .int .u16 (j : Int)]]); exact later_of _ (Nat.le_refl _) (cM3 _ (HT.on (Later.h _))))
        | (go_at_call_of 12 (#[Value.agg #[.int .u8 (p : Int), .int .u32 (a : Int), .int .u16 (m : Int), .int .u32 (b : Int), .int .u16 (n : Int)]]); exact later_of _ (Nat.le_refl _) (cT1 _ (HT.on (Later.h _))))
        | (go_at_call_of 12 (#[Value.agg #[.int .u8 (p : Int), .int .u32 (a : Int), .int .u16 (m : Int), .int .u32 (d : Int), .int .u16 (j : Int)]]); exact later_of _ (Nat.le_refl _) (cT2 _ (HT.on (Later.h _))))
        | (go_at_call 6; exact later_of _ (Nat.le_refl _) (watched_ K _ (HT.on (Later.h _))))))
      refine later_end fun w7 x7 => ?_
      have A_27 := A_23.on x7
      have C_28 := C_24.on x7
      have U_29 := U_25.on x7
      have B30 := B26.trans (x7.mono B26.size)
      clear Fa0 Fa1 Fa2 Fa3 Fa4 za Fc0 Fc1 Fc2 Fc3 Fc4 zc Fu0 Fu1 Fu2 Fu3 Fu4 zu A_23 C_24 U_25 B26 x7
      go_wp2
      go_ret
      exact ⟨rfl, B30⟩
  · have cP := cP1 rfl
    have hn : (S1.toList == S2.toList) = false := by
      have := hS rfl rfl
      simp only [beq_eq_false_iff_ne, ne_eq]
      intro h
      exact this (toList_inj_ h)
    clear cP0 cP1 hS
    cases lv
    all_goals
      go_enter Tryd.func4, Tryd.ntmps4
      have B1 := Below.refl w.heap.size w
      go_wp2_with fail
      have A_2 := Box5.make w (.int .u8 (p : Int)) (.int .u32 (a : Int)) (.int .u16 (m : Int)) (.int .u32 (b : Int)) (.int .u16 (n : Int)) 29
      have B3 := B1.alloc B1.size (.cells #[.int .u8 (p : Int), .int .u32 (a : Int), .int .u16 (m : Int), .int .u32 (b : Int), .int .u16 (n : Int)] 29)
      clear B1
      have A_4 := A_2.past (o := (.cells #[.int .u8 (p : Int), .int .u32 (a : Int), .int .u16 (m : Int), .int .u32 (d : Int), .int .u16 (j : Int)] 29))
      have hs_ : (w.alloc (.cells #[.int .u8 (p : Int), .int .u32 (a : Int), .int .u16 (m : Int), .int .u32 (b : Int), .int .u16 (n : Int)] 29)).heap.size = w.heap.size + 1 := by simp
      have C_5 := Box5.make (w.alloc (.cells #[.int .u8 (p : Int), .int .u32 (a : Int), .int .u16 (m : Int), .int .u32 (b : Int), .int .u16 (n : Int)] 29)) (.int .u8 (p : Int)) (.int .u32 (a : Int)) (.int .u16 (m : Int)) (.int .u32 (d : Int)) (.int .u16 (j : Int)) 29
      rw [hs_] at C_5
      clear hs_
      have B6 := B3.alloc B3.size (.cells #[.int .u8 (p : Int), .int .u32 (a : Int), .int .u16 (m : Int), .int .u32 (d : Int), .int .u16 (j : Int)] 29)
      clear A_2 B3
      obtain ⟨u1, hu1⟩ : ∃ x, x = (w.alloc (.cells #[.int .u8 (p : Int), .int .u32 (a : Int), .int .u16 (m : Int), .int .u32 (b : Int), .int .u16 (n : Int)] 29)).alloc (.cells #[.int .u8 (p : Int), .int .u32 (a : Int), .int .u16 (m : Int), .int .u32 (d : Int), .int .u16 (j : Int)] 29) := ⟨_, rfl⟩
      rw [← hu1] at A_4 C_5 B6 ⊢
      clear hu1
      have HT := ht.on B6
      obtain ⟨za, ga0, ga1, ga2, ga3, ga4⟩ := id A_4
      have Fa0 : ∀ x : Later u1.heap.size u1, x.u.cell? ⟨w.heap.size, 0, none⟩ = some (.int .u8 (p : Int)) := fun x => x.block za ga0
      have Fa1 : ∀ x : Later u1.heap.size u1, x.u.cell? ⟨w.heap.size, 1, none⟩ = some (.int .u32 (a : Int)) := fun x => x.block za ga1
      have Fa2 : ∀ x : Later u1.heap.size u1, x.u.cell? ⟨w.heap.size, 2, none⟩ = some (.int .u16 (m : Int)) := fun x => x.block za ga2
      have Fa3 : ∀ x : Later u1.heap.size u1, x.u.cell? ⟨w.heap.size, 3, none⟩ = some (.int .u32 (b : Int)) := fun x => x.block za ga3
      have Fa4 : ∀ x : Later u1.heap.size u1, x.u.cell? ⟨w.heap.size, 4, none⟩ = some (.int .u16 (n : Int)) := fun x => x.block za ga4
      clear ga0 ga1 ga2 ga3 ga4
      refine region_later (B := u1.heap.size) (by kernel_rfl) (by kernel_rfl) ?_
      repeat (go_big_quiet_step (first
        | (go_at_call_of 9 (#[Value.agg #[.int .u8 (p : Int), .int .u32 (a : Int), .int .u16 (m : Int), .int .u32 (b : Int), .int .u16 (n : Int)]]); exact later_of _ (Nat.le_refl _) (cB1 _ (HT.on (Later.h _))))
        | (go_at_call_of 9 (#[Value.agg #[.int .u8 (p : Int), .int .u32 (b : Int), .int .u16 (n : Int), .int .u32 (a : Int), .int .u16 (m : Int)]]); exact later_of _ (Nat.le_refl _) (cB2 _ (HT.on (Later.h _))))
        | (go_at_call_of 8 (#[Value.agg #[.int .u8 (p : Int), .int .u32 (a : Int), .int .u16 (m : Int), .int .u32 (b : Int), .int .u16 (n : Int)]]); exact later_of _ (Nat.le_refl _) (cM1 _ (HT.on (Later.h _))))
        | (go_at_call_of 8 (#[Value.agg #[.int .u8 (p : Int), .int .u32 (b : Int), .int .u16 (n : Int), .int .u32 (a : Int), .int .u16 (m : Int)]]); exact later_of _ (Nat.le_refl _) (cM2 _ (HT.on (Later.h _))))))
      refine later_end fun w2 x2 => ?_
      have A_7 := A_4.on x2
      have C_8 := C_5.on x2
      have B9 := B6.trans (x2.mono B6.size)
      clear Fa0 Fa1 Fa2 Fa3 Fa4 za A_4 C_5 B6 x2
      clear HT
      have HT := ht.on B9
      go_wp2_with fail
      obtain ⟨za, ga0, ga1, ga2, ga3, ga4⟩ := id A_7
      have Fa0 : ∀ x : Later w2.heap.size w2, x.u.cell? ⟨w.heap.size, 0, none⟩ = some (.int .u8 (p : Int)) := fun x => x.block za ga0
      have Fa1 : ∀ x : Later w2.heap.size w2, x.u.cell? ⟨w.heap.size, 1, none⟩ = some (.int .u32 (a : Int)) := fun x => x.block za ga1
      have Fa2 : ∀ x : Later w2.heap.size w2, x.u.cell? ⟨w.heap.size, 2, none⟩ = some (.int .u16 (m : Int)) := fun x => x.block za ga2
      have Fa3 : ∀ x : Later w2.heap.size w2, x.u.cell? ⟨w.heap.size, 3, none⟩ = some (.int .u32 (b : Int)) := fun x => x.block za ga3
      have Fa4 : ∀ x : Later w2.heap.size w2, x.u.cell? ⟨w.heap.size, 4, none⟩ = some (.int .u16 (n : Int)) := fun x => x.block za ga4
      clear ga0 ga1 ga2 ga3 ga4
      obtain ⟨zc, gc0, gc1, gc2, gc3, gc4⟩ := id C_8
      have Fc0 : ∀ x : Later w2.heap.size w2, x.u.cell? ⟨(w.heap.size + 1), 0, none⟩ = some (.int .u8 (p : Int)) := fun x => x.block zc gc0
      have Fc1 : ∀ x : Later w2.heap.size w2, x.u.cell? ⟨(w.heap.size + 1), 1, none⟩ = some (.int .u32 (a : Int)) := fun x => x.block zc gc1
      have Fc2 : ∀ x : Later w2.heap.size w2, x.u.cell? ⟨(w.heap.size + 1), 2, none⟩ = some (.int .u16 (m : Int)) := fun x => x.block zc gc2
      have Fc3 : ∀ x : Later w2.heap.size w2, x.u.cell? ⟨(w.heap.size + 1), 3, none⟩ = some (.int .u32 (d : Int)) := fun x => x.block zc gc3
      have Fc4 : ∀ x : Later w2.heap.size w2, x.u.cell? ⟨(w.heap.size + 1), 4, none⟩ = some (.int .u16 (j : Int)) := fun x => x.block zc gc4
      clear gc0 gc1 gc2 gc3 gc4
      refine region_later (B := w2.heap.size) (by kernel_rfl) (by kernel_rfl) ?_
      repeat (go_big_quiet_step (first
        | (go_at_call_of 10 (#[Value.agg #[.int .u8 (p : Int), .int .u32 (a : Int), .int .u16 (m : Int), .int .u32 (b : Int), .int .u16 (n : Int)], Value.agg #[.int .u8 (p : Int), .int .u32 (a : Int), .int .u16 (m : Int), .int .u32 (d : Int), .int .u16 (j : Int)]]); exact later_of _ (Nat.le_refl _) (cL1 _ (HT.on (Later.h _))))
        | (go_at_call_of 10 (#[Value.agg #[.int .u8 (p : Int), .int .u32 (a : Int), .int .u16 (m : Int), .int .u32 (d : Int), .int .u16 (j : Int)], Value.agg #[.int .u8 (p : Int), .int .u32 (a : Int), .int .u16 (m : Int), .int .u32 (b : Int), .int .u16 (n : Int)]]); exact later_of _ (Nat.le_refl _) (cL2 _ (HT.on (Later.h _))))))
      refine later_end fun w3 x3 => ?_
      have A_10 := A_7.on x3
      have C_11 := C_8.on x3
      have B12 := B9.trans (x3.mono B9.size)
      clear Fa0 Fa1 Fa2 Fa3 Fa4 za Fc0 Fc1 Fc2 Fc3 Fc4 zc A_7 C_8 B9 x3
      clear HT
      obtain ⟨_, a1_0, a1_1, a1_2, a1_3, a1_4⟩ := id A_10
      obtain ⟨_, c2_0, c2_1, c2_2, c2_3, c2_4⟩ := id C_11
      go_wp2_with fail
      refine (cT1 _ (ht.on B12)).mono ?_; rintro e w4 ⟨rfl, x4⟩
      have A_13 := A_10.on x4
      have C_14 := C_11.on x4
      have B15 := B12.trans (x4.mono B12.size)
      clear a1_0 a1_1 a1_2 a1_3 a1_4 c2_0 c2_1 c2_2 c2_3 c2_4 A_10 C_11 B12 x4
      go_wp2_with fail
      refine (cP _ (ht.on B15)).mono ?_; rintro e w5 ⟨rfl, x5⟩
      have A_16 := A_13.on x5
      have C_17 := C_14.on x5
      have B18 := B15.trans (x5.mono B15.size)
      clear A_13 C_14 B15 x5
      clear cP
      have A_19 := A_16.past (o := (.cells #[.int .u8 (p : Int), .int .u32 (a : Int), .int .u16 (m : Int), .int .u32 (b : Int), .int .u16 (n : Int)] 29))
      have C_20 := C_17.past (o := (.cells #[.int .u8 (p : Int), .int .u32 (a : Int), .int .u16 (m : Int), .int .u32 (b : Int), .int .u16 (n : Int)] 29))
      have U_21 := Box5.make w5 (.int .u8 (p : Int)) (.int .u32 (a : Int)) (.int .u16 (m : Int)) (.int .u32 (b : Int)) (.int .u16 (n : Int)) 29
      have B22 := B18.alloc B18.size (.cells #[.int .u8 (p : Int), .int .u32 (a : Int), .int .u16 (m : Int), .int .u32 (b : Int), .int .u16 (n : Int)] 29)
      clear A_16 C_17 B18
      obtain ⟨_, a3_0, a3_1, a3_2, a3_3, a3_4⟩ := id A_19
      go_wp2_with fail
      refine (cM1 _ (ht.on B22)).mono ?_; rintro e w6 ⟨rfl, x6⟩
      have A_23 := A_19.on x6
      have C_24 := C_20.on x6
      have U_25 := U_21.on x6
      have B26 := B22.trans (x6.mono B22.size)
      clear a3_0 a3_1 a3_2 a3_3 a3_4 A_19 C_20 U_21 B22 x6
      have HT := ht.on B26
      go_wp2_with fail
      obtain ⟨za, ga0, ga1, ga2, ga3, ga4⟩ := id A_23
      have Fa0 : ∀ x : Later w6.heap.size w6, x.u.cell? ⟨w.heap.size, 0, none⟩ = some (.int .u8 (p : Int)) := fun x => x.block za ga0
      have Fa1 : ∀ x : Later w6.heap.size w6, x.u.cell? ⟨w.heap.size, 1, none⟩ = some (.int .u32 (a : Int)) := fun x => x.block za ga1
      have Fa2 : ∀ x : Later w6.heap.size w6, x.u.cell? ⟨w.heap.size, 2, none⟩ = some (.int .u16 (m : Int)) := fun x => x.block za ga2
      have Fa3 : ∀ x : Later w6.heap.size w6, x.u.cell? ⟨w.heap.size, 3, none⟩ = some (.int .u32 (b : Int)) := fun x => x.block za ga3
      have Fa4 : ∀ x : Later w6.heap.size w6, x.u.cell? ⟨w.heap.size, 4, none⟩ = some (.int .u16 (n : Int)) := fun x => x.block za ga4
      clear ga0 ga1 ga2 ga3 ga4
      obtain ⟨zc, gc0, gc1, gc2, gc3, gc4⟩ := id C_24
      have Fc0 : ∀ x : Later w6.heap.size w6, x.u.cell? ⟨(w.heap.size + 1), 0, none⟩ = some (.int .u8 (p : Int)) := fun x => x.block zc gc0
      have Fc1 : ∀ x : Later w6.heap.size w6, x.u.cell? ⟨(w.heap.size + 1), 1, none⟩ = some (.int .u32 (a : Int)) := fun x => x.block zc gc1
      have Fc2 : ∀ x : Later w6.heap.size w6, x.u.cell? ⟨(w.heap.size + 1), 2, none⟩ = some (.int .u16 (m : Int)) := fun x => x.block zc gc2
      have Fc3 : ∀ x : Later w6.heap.size w6, x.u.cell? ⟨(w.heap.size + 1), 3, none⟩ = some (.int .u32 (d : Int)) := fun x => x.block zc gc3
      have Fc4 : ∀ x : Later w6.heap.size w6, x.u.cell? ⟨(w.heap.size + 1), 4, none⟩ = some (.int .u16 (j : Int)) := fun x => x.block zc gc4
      clear gc0 gc1 gc2 gc3 gc4
      obtain ⟨zu, gu0, gu1, gu2, gu3, gu4⟩ := id U_25
      have Fu0 : ∀ x : Later w6.heap.size w6, x.u.cell? ⟨w5.heap.size, 0, none⟩ = some (.int .u8 (p : Int)) := fun x => x.block zu gu0
      have Fu1 : ∀ x : Later w6.heap.size w6, x.u.cell? ⟨w5.heap.size, 1, none⟩ = some (.int .u32 (a : Int)) := fun x => x.block zu gu1
      have Fu2 : ∀ x : Later w6.heap.size w6, x.u.cell? ⟨w5.heap.size, 2, none⟩ = some (.int .u16 (m : Int)) := fun x => x.block zu gu2
      have Fu3 : ∀ x : Later w6.heap.size w6, x.u.cell? ⟨w5.heap.size, 3, none⟩ = some (.int .u32 (b : Int)) := fun x => x.block zu gu3
      have Fu4 : ∀ x : Later w6.heap.size w6, x.u.cell? ⟨w5.heap.size, 4, none⟩ = some (.int .u16 (n : Int)) := fun x => x.block zu gu4
      clear gu0 gu1 gu2 gu3 gu4
      refine region_later (B := w6.heap.size) (by kernel_rfl) (by kernel_rfl) ?_
      repeat (go_big_quiet_step (first
        | (go_at_call_of 8 (#[Value.agg #[.int .u8 (p : Int), .int .u32 (a : Int), .int .u16 (m : Int), .int .u32 (d : Int), .int .u16 (j : Int)]]); exact later_of _ (Nat.le_refl _) (cM3 _ (HT.on (Later.h _))))
        | (go_at_call_of 12 (#[Value.agg #[.int .u8 (p : Int), .int .u32 (a : Int), .int .u16 (m : Int), .int .u32 (b : Int), .int .u16 (n : Int)]]); exact later_of _ (Nat.le_refl _) (cT1 _ (HT.on (Later.h _))))
        | (go_at_call_of 12 (#[Value.agg #[.int .u8 (p : Int), .int .u32 (a : Int), .int .u16 (m : Int), .int .u32 (d : Int), .int .u16 (j : Int)]]); exact later_of _ (Nat.le_refl _) (cT2 _ (HT.on (Later.h _))))
        | (go_at_call 6; exact later_of _ (Nat.le_refl _) (watched_ K _ (HT.on (Later.h _))))))
      refine later_end fun w7 x7 => ?_
      have A_27 := A_23.on x7
      have C_28 := C_24.on x7
      have U_29 := U_25.on x7
      have B30 := B26.trans (x7.mono B26.size)
      clear Fa0 Fa1 Fa2 Fa3 Fa4 za Fc0 Fc1 Fc2 Fc3 Fc4 zc Fu0 Fu1 Fu2 Fu3 Fu4 zu A_23 C_24 U_25 B26 x7
      go_wp2
      go_ret
      exact ⟨rfl, B30⟩
set_option maxRecDepth 100000 in
set_option maxHeartbeats 8000000 in
theorem back_4 (p a m b n q c k d j : Nat) (S1 S2 : ByteArray) (mv nv lv : Bool) (K : TupOk) (w : World) (ht : Tab w) (cB1 : ∀ u : World, Tab u → Calls Tryd.prog 9 #[.agg #[.int .u8 (p : Int), .int .u32 (a : Int), .int .u16 (m : Int), .int .u32 (b : Int), .int .u16 (n : Int)]] u fun e w' => e = .returned (.agg #[.int .u8 (p : Int), .int .u32 (b : Int), .int .u16 (n : Int), .int .u32 (a : Int), .int .u16 (m : Int)]) ∧ Below u.heap.size u w')
    (cB2 : ∀ u : World, Tab u → Calls Tryd.prog 9 #[.agg #[.int .u8 (p : Int), .int .u32 (b : Int), .int .u16 (n : Int), .int .u32 (a : Int), .int .u16 (m : Int)]] u fun e w' => e = .returned (.agg #[.int .u8 (p : Int), .int .u32 (a : Int), .int .u16 (m : Int), .int .u32 (b : Int), .int .u16 (n : Int)]) ∧ Below u.heap.size u w')
    (cM1 : ∀ u : World, Tab u → Calls Tryd.prog 8 #[.agg #[.int .u8 (p : Int), .int .u32 (a : Int), .int .u16 (m : Int), .int .u32 (b : Int), .int .u16 (n : Int)]] u fun e w' => e = .returned (.bool mv) ∧ Below u.heap.size u w')
    (cM2 : ∀ u : World, Tab u → Calls Tryd.prog 8 #[.agg #[.int .u8 (p : Int), .int .u32 (b : Int), .int .u16 (n : Int), .int .u32 (a : Int), .int .u16 (m : Int)]] u fun e w' => e = .returned (.bool mv) ∧ Below u.heap.size u w')
    (cT1 : ∀ u : World, Tab u → Calls Tryd.prog 12 #[.agg #[.int .u8 (p : Int), .int .u32 (a : Int), .int .u16 (m : Int), .int .u32 (b : Int), .int .u16 (n : Int)]] u fun e w' => e = .returned (.string S1) ∧ Below u.heap.size u w')
    (cM3 : ∀ u : World, Tab u → Calls Tryd.prog 8 #[.agg #[.int .u8 (p : Int), .int .u32 (a : Int), .int .u16 (m : Int), .int .u32 (b : Int), .int .u16 (j : Int)]] u fun e w' => e = .returned (.bool nv) ∧ Below u.heap.size u w')
    (cL1 : ∀ u : World, Tab u → Calls Tryd.prog 10 #[.agg #[.int .u8 (p : Int), .int .u32 (a : Int), .int .u16 (m : Int), .int .u32 (b : Int), .int .u16 (n : Int)], .agg #[.int .u8 (p : Int), .int .u32 (a : Int), .int .u16 (m : Int), .int .u32 (b : Int), .int .u16 (j : Int)]] u fun e w' => e = .returned (.bool lv) ∧ Below u.heap.size u w')
    (cL2 : ∀ u : World, Tab u → Calls Tryd.prog 10 #[.agg #[.int .u8 (p : Int), .int .u32 (a : Int), .int .u16 (m : Int), .int .u32 (b : Int), .int .u16 (j : Int)], .agg #[.int .u8 (p : Int), .int .u32 (a : Int), .int .u16 (m : Int), .int .u32 (b : Int), .int .u16 (n : Int)]] u fun e w' => e = .returned (.bool (!lv)) ∧ Below u.heap.size u w')
    (cT2 : ∀ u : World, Tab u → Calls Tryd.prog 12 #[.agg #[.int .u8 (p : Int), .int .u32 (a : Int), .int .u16 (m : Int), .int .u32 (b : Int), .int .u16 (j : Int)]] u fun e w' => e = .returned (.string S2) ∧ Below u.heap.size u w')
    (cP1 : mv = true → ∀ u : World, Tab u → Calls Tryd.prog 11 #[.string S1] u fun e w' => e = .returned (.tuple #[.agg #[.int .u8 (p : Int), .int .u32 (a : Int), .int .u16 (m : Int), .int .u32 (b : Int), .int .u16 (n : Int)], .int .i64 0]) ∧ Below u.heap.size u w')
    (cP0 : mv = false → S1 = ⟨#[]⟩ ∧ ∀ u : World, Tab u → Calls Tryd.prog 11 #[.string S1] u fun e w' => e = .returned (.tuple #[.agg #[.int .u8 0, .int .u32 0, .int .u16 0, .int .u32 0, .int .u16 0], .int .i64 3]) ∧ Below u.heap.size u w')
    (hne : ¬ n = j)
    (hS : mv = true → nv = true → ¬ S1 = S2) :
    Calls Tryd.prog 4 #[.agg #[.int .u8 (p : Int), .int .u32 (a : Int), .int .u16 (m : Int), .int .u32 (b : Int), .int .u16 (n : Int)], .agg #[.int .u8 (p : Int), .int .u32 (a : Int), .int .u16 (m : Int), .int .u32 (b : Int), .int .u16 (j : Int)]] w fun e w' => e = .returned (.bool true) ∧ Below w.heap.size w w' := by
  have ne1 : ((n : Int) == (j : Int)) = false := by simp; omega
  have ne2 : ((n : Nat) == (j : Nat)) = false := by simpa using hne
  clear hne
  have hSS : (S1.toList == S1.toList) = true := by simp
  have key : mv = false ∨ (mv = true ∧ nv = false) ∨ (mv = true ∧ nv = true) := by cases mv <;> cases nv <;> simp
  rcases key with rfl | ⟨rfl, rfl⟩ | ⟨rfl, rfl⟩
  · have cP := (cP0 rfl).2
    have e0 := (cP0 rfl).1
    subst e0
    clear cP0 cP1 hS
    cases lv
    all_goals
      go_enter Tryd.func4, Tryd.ntmps4
      have B1 := Below.refl w.heap.size w
      go_wp2_with fail
      have A_2 := Box5.make w (.int .u8 (p : Int)) (.int .u32 (a : Int)) (.int .u16 (m : Int)) (.int .u32 (b : Int)) (.int .u16 (n : Int)) 29
      have B3 := B1.alloc B1.size (.cells #[.int .u8 (p : Int), .int .u32 (a : Int), .int .u16 (m : Int), .int .u32 (b : Int), .int .u16 (n : Int)] 29)
      clear B1
      have A_4 := A_2.past (o := (.cells #[.int .u8 (p : Int), .int .u32 (a : Int), .int .u16 (m : Int), .int .u32 (b : Int), .int .u16 (j : Int)] 29))
      have hs_ : (w.alloc (.cells #[.int .u8 (p : Int), .int .u32 (a : Int), .int .u16 (m : Int), .int .u32 (b : Int), .int .u16 (n : Int)] 29)).heap.size = w.heap.size + 1 := by simp
      have C_5 := Box5.make (w.alloc (.cells #[.int .u8 (p : Int), .int .u32 (a : Int), .int .u16 (m : Int), .int .u32 (b : Int), .int .u16 (n : Int)] 29)) (.int .u8 (p : Int)) (.int .u32 (a : Int)) (.int .u16 (m : Int)) (.int .u32 (b : Int)) (.int .u16 (j : Int)) 29
      rw [hs_] at C_5
      clear hs_
      have B6 := B3.alloc B3.size (.cells #[.int .u8 (p : Int), .int .u32 (a : Int), .int .u16 (m : Int), .int .u32 (b : Int), .int .u16 (j : Int)] 29)
      clear A_2 B3
      obtain ⟨u1, hu1⟩ : ∃ x, x = (w.alloc (.cells #[.int .u8 (p : Int), .int .u32 (a : Int), .int .u16 (m : Int), .int .u32 (b : Int), .int .u16 (n : Int)] 29)).alloc (.cells #[.int .u8 (p : Int), .int .u32 (a : Int), .int .u16 (m : Int), .int .u32 (b : Int), .int .u16 (j : Int)] 29) := ⟨_, rfl⟩
      rw [← hu1] at A_4 C_5 B6 ⊢
      clear hu1
      have HT := ht.on B6
      obtain ⟨za, ga0, ga1, ga2, ga3, ga4⟩ := id A_4
      have Fa0 : ∀ x : Later u1.heap.size u1, x.u.cell? ⟨w.heap.size, 0, none⟩ = some (.int .u8 (p : Int)) := fun x => x.block za ga0
      have Fa1 : ∀ x : Later u1.heap.size u1, x.u.cell? ⟨w.heap.size, 1, none⟩ = some (.int .u32 (a : Int)) := fun x => x.block za ga1
      have Fa2 : ∀ x : Later u1.heap.size u1, x.u.cell? ⟨w.heap.size, 2, none⟩ = some (.int .u16 (m : Int)) := fun x => x.block za ga2
      have Fa3 : ∀ x : Later u1.heap.size u1, x.u.cell? ⟨w.heap.size, 3, none⟩ = some (.int .u32 (b : Int)) := fun x => x.block za ga3
      have Fa4 : ∀ x : Later u1.heap.size u1, x.u.cell? ⟨w.heap.size, 4, none⟩ = some (.int .u16 (n : Int)) := fun x => x.block za ga4
      clear ga0 ga1 ga2 ga3 ga4
      refine region_later (B := u1.heap.size) (by kernel_rfl) (by kernel_rfl) ?_
      repeat (go_big_quiet_step (first
        | (go_at_call_of 9 (#[Value.agg #[.int .u8 (p : Int), .int .u32 (a : Int), .int .u16 (m : Int), .int .u32 (b : Int), .int .u16 (n : Int)]]); exact later_of _ (Nat.le_refl _) (cB1 _ (HT.on (Later.h _))))
        | (go_at_call_of 9 (#[Value.agg #[.int .u8 (p : Int), .int .u32 (b : Int), .int .u16 (n : Int), .int .u32 (a : Int), .int .u16 (m : Int)]]); exact later_of _ (Nat.le_refl _) (cB2 _ (HT.on (Later.h _))))
        | (go_at_call_of 8 (#[Value.agg #[.int .u8 (p : Int), .int .u32 (a : Int), .int .u16 (m : Int), .int .u32 (b : Int), .int .u16 (n : Int)]]); exact later_of _ (Nat.le_refl _) (cM1 _ (HT.on (Later.h _))))
        | (go_at_call_of 8 (#[Value.agg #[.int .u8 (p : Int), .int .u32 (b : Int), .int .u16 (n : Int), .int .u32 (a : Int), .int .u16 (m : Int)]]); exact later_of _ (Nat.le_refl _) (cM2 _ (HT.on (Later.h _))))))
      refine later_end fun w2 x2 => ?_
      have A_7 := A_4.on x2
      have C_8 := C_5.on x2
      have B9 := B6.trans (x2.mono B6.size)
      clear Fa0 Fa1 Fa2 Fa3 Fa4 za A_4 C_5 B6 x2
      clear HT
      have HT := ht.on B9
      go_wp2_with fail
      obtain ⟨za, ga0, ga1, ga2, ga3, ga4⟩ := id A_7
      have Fa0 : ∀ x : Later w2.heap.size w2, x.u.cell? ⟨w.heap.size, 0, none⟩ = some (.int .u8 (p : Int)) := fun x => x.block za ga0
      have Fa1 : ∀ x : Later w2.heap.size w2, x.u.cell? ⟨w.heap.size, 1, none⟩ = some (.int .u32 (a : Int)) := fun x => x.block za ga1
      have Fa2 : ∀ x : Later w2.heap.size w2, x.u.cell? ⟨w.heap.size, 2, none⟩ = some (.int .u16 (m : Int)) := fun x => x.block za ga2
      have Fa3 : ∀ x : Later w2.heap.size w2, x.u.cell? ⟨w.heap.size, 3, none⟩ = some (.int .u32 (b : Int)) := fun x => x.block za ga3
      have Fa4 : ∀ x : Later w2.heap.size w2, x.u.cell? ⟨w.heap.size, 4, none⟩ = some (.int .u16 (n : Int)) := fun x => x.block za ga4
      clear ga0 ga1 ga2 ga3 ga4
      obtain ⟨zc, gc0, gc1, gc2, gc3, gc4⟩ := id C_8
      have Fc0 : ∀ x : Later w2.heap.size w2, x.u.cell? ⟨(w.heap.size + 1), 0, none⟩ = some (.int .u8 (p : Int)) := fun x => x.block zc gc0
      have Fc1 : ∀ x : Later w2.heap.size w2, x.u.cell? ⟨(w.heap.size + 1), 1, none⟩ = some (.int .u32 (a : Int)) := fun x => x.block zc gc1
      have Fc2 : ∀ x : Later w2.heap.size w2, x.u.cell? ⟨(w.heap.size + 1), 2, none⟩ = some (.int .u16 (m : Int)) := fun x => x.block zc gc2
      have Fc3 : ∀ x : Later w2.heap.size w2, x.u.cell? ⟨(w.heap.size + 1), 3, none⟩ = some (.int .u32 (b : Int)) := fun x => x.block zc gc3
      have Fc4 : ∀ x : Later w2.heap.size w2, x.u.cell? ⟨(w.heap.size + 1), 4, none⟩ = some (.int .u16 (j : Int)) := fun x => x.block zc gc4
      clear gc0 gc1 gc2 gc3 gc4
      refine region_later (B := w2.heap.size) (by kernel_rfl) (by kernel_rfl) ?_
      repeat (go_big_quiet_step (first
        | (go_at_call_of 10 (#[Value.agg #[.int .u8 (p : Int), .int .u32 (a : Int), .int .u16 (m : Int), .int .u32 (b : Int), .int .u16 (n : Int)], Value.agg #[.int .u8 (p : Int), .int .u32 (a : Int), .int .u16 (m : Int), .int .u32 (b : Int), .int .u16 (j : Int)]]); exact later_of _ (Nat.le_refl _) (cL1 _ (HT.on (Later.h _))))
        | (go_at_call_of 10 (#[Value.agg #[.int .u8 (p : Int), .int .u32 (a : Int), .int .u16 (m : Int), .int .u32 (b : Int), .int .u16 (j : Int)], Value.agg #[.int .u8 (p : Int), .int .u32 (a : Int), .int .u16 (m : Int), .int .u32 (b : Int), .int .u16 (n : Int)]]); exact later_of _ (Nat.le_refl _) (cL2 _ (HT.on (Later.h _))))))
      refine later_end fun w3 x3 => ?_
      have A_10 := A_7.on x3
      have C_11 := C_8.on x3
      have B12 := B9.trans (x3.mono B9.size)
      clear Fa0 Fa1 Fa2 Fa3 Fa4 za Fc0 Fc1 Fc2 Fc3 Fc4 zc A_7 C_8 B9 x3
      clear HT
      obtain ⟨_, a1_0, a1_1, a1_2, a1_3, a1_4⟩ := id A_10
      obtain ⟨_, c2_0, c2_1, c2_2, c2_3, c2_4⟩ := id C_11
      go_wp2_with fail
      refine (cT1 _ (ht.on B12)).mono ?_; rintro e w4 ⟨rfl, x4⟩
      have A_13 := A_10.on x4
      have C_14 := C_11.on x4
      have B15 := B12.trans (x4.mono B12.size)
      clear a1_0 a1_1 a1_2 a1_3 a1_4 c2_0 c2_1 c2_2 c2_3 c2_4 A_10 C_11 B12 x4
      go_wp2_with fail
      refine (cP _ (ht.on B15)).mono ?_; rintro e w5 ⟨rfl, x5⟩
      have A_16 := A_13.on x5
      have C_17 := C_14.on x5
      have B18 := B15.trans (x5.mono B15.size)
      clear A_13 C_14 B15 x5
      clear cP
      have A_19 := A_16.past (o := (.cells #[.int .u8 0, .int .u32 0, .int .u16 0, .int .u32 0, .int .u16 0] 29))
      have C_20 := C_17.past (o := (.cells #[.int .u8 0, .int .u32 0, .int .u16 0, .int .u32 0, .int .u16 0] 29))
      have U_21 := Box5.make w5 (.int .u8 0) (.int .u32 0) (.int .u16 0) (.int .u32 0) (.int .u16 0) 29
      have B22 := B18.alloc B18.size (.cells #[.int .u8 0, .int .u32 0, .int .u16 0, .int .u32 0, .int .u16 0] 29)
      clear A_16 C_17 B18
      obtain ⟨_, a3_0, a3_1, a3_2, a3_3, a3_4⟩ := id A_19
      go_wp2_with fail
      refine (cM1 _ (ht.on B22)).mono ?_; rintro e w6 ⟨rfl, x6⟩
      have A_23 := A_19.on x6
      have C_24 := C_20.on x6
      have U_25 := U_21.on x6
      have B26 := B22.trans (x6.mono B22.size)
      clear a3_0 a3_1 a3_2 a3_3 a3_4 A_19 C_20 U_21 B22 x6
      obtain ⟨_, a4_0, a4_1, a4_2, a4_3, a4_4⟩ := id A_23
      go_wp2_with fail
      refine (cT1 _ (ht.on B26)).mono ?_; rintro e w7 ⟨rfl, x7⟩
      have A_27 := A_23.on x7
      have C_28 := C_24.on x7
      have U_29 := U_25.on x7
      have B30 := B26.trans (x7.mono B26.size)
      clear a4_0 a4_1 a4_2 a4_3 a4_4 A_23 C_24 U_25 B26 x7
      go_wp2_with fail
      refine (watched_ K _ (ht.on B30)).mono ?_; rintro e w8 ⟨rfl, x8⟩
      have A_31 := A_27.on x8
      have C_32 := C_28.on x8
      have U_33 := U_29.on x8
      have B34 := B30.trans (x8.mono B30.size)
      clear A_27 C_28 U_29 B30 x8
      go_wp2
      go_ret
      exact ⟨rfl, B34⟩
  · have cP := cP1 rfl
    clear cP0 cP1 hS
    cases lv
    all_goals
      go_enter Tryd.func4, Tryd.ntmps4
      have B1 := Below.refl w.heap.size w
      go_wp2_with fail
      have A_2 := Box5.make w (.int .u8 (p : Int)) (.int .u32 (a : Int)) (.int .u16 (m : Int)) (.int .u32 (b : Int)) (.int .u16 (n : Int)) 29
      have B3 := B1.alloc B1.size (.cells #[.int .u8 (p : Int), .int .u32 (a : Int), .int .u16 (m : Int), .int .u32 (b : Int), .int .u16 (n : Int)] 29)
      clear B1
      have A_4 := A_2.past (o := (.cells #[.int .u8 (p : Int), .int .u32 (a : Int), .int .u16 (m : Int), .int .u32 (b : Int), .int .u16 (j : Int)] 29))
      have hs_ : (w.alloc (.cells #[.int .u8 (p : Int), .int .u32 (a : Int), .int .u16 (m : Int), .int .u32 (b : Int), .int .u16 (n : Int)] 29)).heap.size = w.heap.size + 1 := by simp
      have C_5 := Box5.make (w.alloc (.cells #[.int .u8 (p : Int), .int .u32 (a : Int), .int .u16 (m : Int), .int .u32 (b : Int), .int .u16 (n : Int)] 29)) (.int .u8 (p : Int)) (.int .u32 (a : Int)) (.int .u16 (m : Int)) (.int .u32 (b : Int)) (.int .u16 (j : Int)) 29
      rw [hs_] at C_5
      clear hs_
      have B6 := B3.alloc B3.size (.cells #[.int .u8 (p : Int), .int .u32 (a : Int), .int .u16 (m : Int), .int .u32 (b : Int), .int .u16 (j : Int)] 29)
      clear A_2 B3
      obtain ⟨u1, hu1⟩ : ∃ x, x = (w.alloc (.cells #[.int .u8 (p : Int), .int .u32 (a : Int), .int .u16 (m : Int), .int .u32 (b : Int), .int .u16 (n : Int)] 29)).alloc (.cells #[.int .u8 (p : Int), .int .u32 (a : Int), .int .u16 (m : Int), .int .u32 (b : Int), .int .u16 (j : Int)] 29) := ⟨_, rfl⟩
      rw [← hu1] at A_4 C_5 B6 ⊢
      clear hu1
      have HT := ht.on B6
      obtain ⟨za, ga0, ga1, ga2, ga3, ga4⟩ := id A_4
      have Fa0 : ∀ x : Later u1.heap.size u1, x.u.cell? ⟨w.heap.size, 0, none⟩ = some (.int .u8 (p : Int)) := fun x => x.block za ga0
      have Fa1 : ∀ x : Later u1.heap.size u1, x.u.cell? ⟨w.heap.size, 1, none⟩ = some (.int .u32 (a : Int)) := fun x => x.block za ga1
      have Fa2 : ∀ x : Later u1.heap.size u1, x.u.cell? ⟨w.heap.size, 2, none⟩ = some (.int .u16 (m : Int)) := fun x => x.block za ga2
      have Fa3 : ∀ x : Later u1.heap.size u1, x.u.cell? ⟨w.heap.size, 3, none⟩ = some (.int .u32 (b : Int)) := fun x => x.block za ga3
      have Fa4 : ∀ x : Later u1.heap.size u1, x.u.cell? ⟨w.heap.size, 4, none⟩ = some (.int .u16 (n : Int)) := fun x => x.block za ga4
      clear ga0 ga1 ga2 ga3 ga4
      refine region_later (B := u1.heap.size) (by kernel_rfl) (by kernel_rfl) ?_
      repeat (go_big_quiet_step (first
        | (go_at_call_of 9 (#[Value.agg #[.int .u8 (p : Int), .int .u32 (a : Int), .int .u16 (m : Int), .int .u32 (b : Int), .int .u16 (n : Int)]]); exact later_of _ (Nat.le_refl _) (cB1 _ (HT.on (Later.h _))))
        | (go_at_call_of 9 (#[Value.agg #[.int .u8 (p : Int), .int .u32 (b : Int), .int .u16 (n : Int), .int .u32 (a : Int), .int .u16 (m : Int)]]); exact later_of _ (Nat.le_refl _) (cB2 _ (HT.on (Later.h _))))
        | (go_at_call_of 8 (#[Value.agg #[.int .u8 (p : Int), .int .u32 (a : Int), .int .u16 (m : Int), .int .u32 (b : Int), .int .u16 (n : Int)]]); exact later_of _ (Nat.le_refl _) (cM1 _ (HT.on (Later.h _))))
        | (go_at_call_of 8 (#[Value.agg #[.int .u8 (p : Int), .int .u32 (b : Int), .int .u16 (n : Int), .int .u32 (a : Int), .int .u16 (m : Int)]]); exact later_of _ (Nat.le_refl _) (cM2 _ (HT.on (Later.h _))))))
      refine later_end fun w2 x2 => ?_
      have A_7 := A_4.on x2
      have C_8 := C_5.on x2
      have B9 := B6.trans (x2.mono B6.size)
      clear Fa0 Fa1 Fa2 Fa3 Fa4 za A_4 C_5 B6 x2
      clear HT
      have HT := ht.on B9
      go_wp2_with fail
      obtain ⟨za, ga0, ga1, ga2, ga3, ga4⟩ := id A_7
      have Fa0 : ∀ x : Later w2.heap.size w2, x.u.cell? ⟨w.heap.size, 0, none⟩ = some (.int .u8 (p : Int)) := fun x => x.block za ga0
      have Fa1 : ∀ x : Later w2.heap.size w2, x.u.cell? ⟨w.heap.size, 1, none⟩ = some (.int .u32 (a : Int)) := fun x => x.block za ga1
      have Fa2 : ∀ x : Later w2.heap.size w2, x.u.cell? ⟨w.heap.size, 2, none⟩ = some (.int .u16 (m : Int)) := fun x => x.block za ga2
      have Fa3 : ∀ x : Later w2.heap.size w2, x.u.cell? ⟨w.heap.size, 3, none⟩ = some (.int .u32 (b : Int)) := fun x => x.block za ga3
      have Fa4 : ∀ x : Later w2.heap.size w2, x.u.cell? ⟨w.heap.size, 4, none⟩ = some (.int .u16 (n : Int)) := fun x => x.block za ga4
      clear ga0 ga1 ga2 ga3 ga4
      obtain ⟨zc, gc0, gc1, gc2, gc3, gc4⟩ := id C_8
      have Fc0 : ∀ x : Later w2.heap.size w2, x.u.cell? ⟨(w.heap.size + 1), 0, none⟩ = some (.int .u8 (p : Int)) := fun x => x.block zc gc0
      have Fc1 : ∀ x : Later w2.heap.size w2, x.u.cell? ⟨(w.heap.size + 1), 1, none⟩ = some (.int .u32 (a : Int)) := fun x => x.block zc gc1
      have Fc2 : ∀ x : Later w2.heap.size w2, x.u.cell? ⟨(w.heap.size + 1), 2, none⟩ = some (.int .u16 (m : Int)) := fun x => x.block zc gc2
      have Fc3 : ∀ x : Later w2.heap.size w2, x.u.cell? ⟨(w.heap.size + 1), 3, none⟩ = some (.int .u32 (b : Int)) := fun x => x.block zc gc3
      have Fc4 : ∀ x : Later w2.heap.size w2, x.u.cell? ⟨(w.heap.size + 1), 4, none⟩ = some (.int .u16 (j : Int)) := fun x => x.block zc gc4
      clear gc0 gc1 gc2 gc3 gc4
      refine region_later (B := w2.heap.size) (by kernel_rfl) (by kernel_rfl) ?_
      repeat (go_big_quiet_step (first
        | (go_at_call_of 10 (#[Value.agg #[.int .u8 (p : Int), .int .u32 (a : Int), .int .u16 (m : Int), .int .u32 (b : Int), .int .u16 (n : Int)], Value.agg #[.int .u8 (p : Int), .int .u32 (a : Int), .int .u16 (m : Int), .int .u32 (b : Int), .int .u16 (j : Int)]]); exact later_of _ (Nat.le_refl _) (cL1 _ (HT.on (Later.h _))))
        | (go_at_call_of 10 (#[Value.agg #[.int .u8 (p : Int), .int .u32 (a : Int), .int .u16 (m : Int), .int .u32 (b : Int), .int .u16 (j : Int)], Value.agg #[.int .u8 (p : Int), .int .u32 (a : Int), .int .u16 (m : Int), .int .u32 (b : Int), .int .u16 (n : Int)]]); exact later_of _ (Nat.le_refl _) (cL2 _ (HT.on (Later.h _))))))
      refine later_end fun w3 x3 => ?_
      have A_10 := A_7.on x3
      have C_11 := C_8.on x3
      have B12 := B9.trans (x3.mono B9.size)
      clear Fa0 Fa1 Fa2 Fa3 Fa4 za Fc0 Fc1 Fc2 Fc3 Fc4 zc A_7 C_8 B9 x3
      clear HT
      obtain ⟨_, a1_0, a1_1, a1_2, a1_3, a1_4⟩ := id A_10
      obtain ⟨_, c2_0, c2_1, c2_2, c2_3, c2_4⟩ := id C_11
      go_wp2_with fail
      refine (cT1 _ (ht.on B12)).mono ?_; rintro e w4 ⟨rfl, x4⟩
      have A_13 := A_10.on x4
      have C_14 := C_11.on x4
      have B15 := B12.trans (x4.mono B12.size)
      clear a1_0 a1_1 a1_2 a1_3 a1_4 c2_0 c2_1 c2_2 c2_3 c2_4 A_10 C_11 B12 x4
      go_wp2_with fail
      refine (cP _ (ht.on B15)).mono ?_; rintro e w5 ⟨rfl, x5⟩
      have A_16 := A_13.on x5
      have C_17 := C_14.on x5
      have B18 := B15.trans (x5.mono B15.size)
      clear A_13 C_14 B15 x5
      clear cP
      have A_19 := A_16.past (o := (.cells #[.int .u8 (p : Int), .int .u32 (a : Int), .int .u16 (m : Int), .int .u32 (b : Int), .int .u16 (n : Int)] 29))
      have C_20 := C_17.past (o := (.cells #[.int .u8 (p : Int), .int .u32 (a : Int), .int .u16 (m : Int), .int .u32 (b : Int), .int .u16 (n : Int)] 29))
      have U_21 := Box5.make w5 (.int .u8 (p : Int)) (.int .u32 (a : Int)) (.int .u16 (m : Int)) (.int .u32 (b : Int)) (.int .u16 (n : Int)) 29
      have B22 := B18.alloc B18.size (.cells #[.int .u8 (p : Int), .int .u32 (a : Int), .int .u16 (m : Int), .int .u32 (b : Int), .int .u16 (n : Int)] 29)
      clear A_16 C_17 B18
      obtain ⟨_, a3_0, a3_1, a3_2, a3_3, a3_4⟩ := id A_19
      go_wp2_with fail
      refine (cM1 _ (ht.on B22)).mono ?_; rintro e w6 ⟨rfl, x6⟩
      have A_23 := A_19.on x6
      have C_24 := C_20.on x6
      have U_25 := U_21.on x6
      have B26 := B22.trans (x6.mono B22.size)
      clear a3_0 a3_1 a3_2 a3_3 a3_4 A_19 C_20 U_21 B22 x6
      have HT := ht.on B26
      go_wp2_with fail
      obtain ⟨za, ga0, ga1, ga2, ga3, ga4⟩ := id A_23
      have Fa0 : ∀ x : Later w6.heap.size w6, x.u.cell? ⟨w.heap.size, 0, none⟩ = some (.int .u8 (p : Int)) := fun x => x.block za ga0
      have Fa1 : ∀ x : Later w6.heap.size w6, x.u.cell? ⟨w.heap.size, 1, none⟩ = some (.int .u32 (a : Int)) := fun x => x.block za ga1
      have Fa2 : ∀ x : Later w6.heap.size w6, x.u.cell? ⟨w.heap.size, 2, none⟩ = some (.int .u16 (m : Int)) := fun x => x.block za ga2
      have Fa3 : ∀ x : Later w6.heap.size w6, x.u.cell? ⟨w.heap.size, 3, none⟩ = some (.int .u32 (b : Int)) := fun x => x.block za ga3
      have Fa4 : ∀ x : Later w6.heap.size w6, x.u.cell? ⟨w.heap.size, 4, none⟩ = some (.int .u16 (n : Int)) := fun x => x.block za ga4
      clear ga0 ga1 ga2 ga3 ga4
      obtain ⟨zc, gc0, gc1, gc2, gc3, gc4⟩ := id C_24
      have Fc0 : ∀ x : Later w6.heap.size w6, x.u.cell? ⟨(w.heap.size + 1), 0, none⟩ = some (.int .u8 (p : Int)) := fun x => x.block zc gc0
      have Fc1 : ∀ x : Later w6.heap.size w6, x.u.cell? ⟨(w.heap.size + 1), 1, none⟩ = some (.int .u32 (a : Int)) := fun x => x.block zc gc1
      have Fc2 : ∀ x : Later w6.heap.size w6, x.u.cell? ⟨(w.heap.size + 1), 2, none⟩ = some (.int .u16 (m : Int)) := fun x => x.block zc gc2
      have Fc3 : ∀ x : Later w6.heap.size w6, x.u.cell? ⟨(w.heap.size + 1), 3, none⟩ = some (.int .u32 (b : Int)) := fun x => x.block zc gc3
      have Fc4 : ∀ x : Later w6.heap.size w6, x.u.cell? ⟨(w.heap.size + 1), 4, none⟩ = some (.int .u16 (j : Int)) := fun x => x.block zc gc4
      clear gc0 gc1 gc2 gc3 gc4
      obtain ⟨zu, gu0, gu1, gu2, gu3, gu4⟩ := id U_25
      have Fu0 : ∀ x : Later w6.heap.size w6, x.u.cell? ⟨w5.heap.size, 0, none⟩ = some (.int .u8 (p : Int)) := fun x => x.block zu gu0
      have Fu1 : ∀ x : Later w6.heap.size w6, x.u.cell? ⟨w5.heap.size, 1, none⟩ = some (.int .u32 (a : Int)) := fun x => x.block zu gu1
      have Fu2 : ∀ x : Later w6.heap.size w6, x.u.cell? ⟨w5.heap.size, 2, none⟩ = some (.int .u16 (m : Int)) := fun x => x.block zu gu2
      have Fu3 : ∀ x : Later w6.heap.size w6, x.u.cell? ⟨w5.heap.size, 3, none⟩ = some (.int .u32 (b : Int)) := fun x => x.block zu gu3
      have Fu4 : ∀ x : Later w6.heap.size w6, x.u.cell? ⟨w5.heap.size, 4, none⟩ = some (.int .u16 (n : Int)) := fun x => x.block zu gu4
      clear gu0 gu1 gu2 gu3 gu4
      refine region_later (B := w6.heap.size) (by kernel_rfl) (by kernel_rfl) ?_
      repeat (go_big_quiet_step (first
        | (go_at_call_of 8 (#[Value.agg #[.int .u8 (p : Int), .int .u32 (a : Int), .int .u16 (m : Int), .int .u32 (b : Int), .int .u16 (j : Int)]]); exact later_of _ (Nat.le_refl _) (cM3 _ (HT.on (Later.h _))))
        | (go_at_call_of 12 (#[Value.agg #[.int .u8 (p : Int), .int .u32 (a : Int), .int .u16 (m : Int), .int .u32 (b : Int), .int .u16 (n : Int)]]); exact later_of _ (Nat.le_refl _) (cT1 _ (HT.on (Later.h _))))
        | (go_at_call_of 12 (#[Value.agg #[.int .u8 (p : Int), .int .u32 (a : Int), .int .u16 (m : Int), .int .u32 (b : Int), .int .u16 (j : Int)]]); exact later_of _ (Nat.le_refl _) (cT2 _ (HT.on (Later.h _))))
        | (go_at_call 6; exact later_of _ (Nat.le_refl _) (watched_ K _ (HT.on (Later.h _))))))
      refine later_end fun w7 x7 => ?_
      have A_27 := A_23.on x7
      have C_28 := C_24.on x7
      have U_29 := U_25.on x7
      have B30 := B26.trans (x7.mono B26.size)
      clear Fa0 Fa1 Fa2 Fa3 Fa4 za Fc0 Fc1 Fc2 Fc3 Fc4 zc Fu0 Fu1 Fu2 Fu3 Fu4 zu A_23 C_24 U_25 B26 x7
      go_wp2
      go_ret
      exact ⟨rfl, B30⟩
  · have cP := cP1 rfl
    have hn : (S1.toList == S2.toList) = false := by
      have := hS rfl rfl
      simp only [beq_eq_false_iff_ne, ne_eq]
      intro h
      exact this (toList_inj_ h)
    clear cP0 cP1 hS
    cases lv
    all_goals
      go_enter Tryd.func4, Tryd.ntmps4
      have B1 := Below.refl w.heap.size w
      go_wp2_with fail
      have A_2 := Box5.make w (.int .u8 (p : Int)) (.int .u32 (a : Int)) (.int .u16 (m : Int)) (.int .u32 (b : Int)) (.int .u16 (n : Int)) 29
      have B3 := B1.alloc B1.size (.cells #[.int .u8 (p : Int), .int .u32 (a : Int), .int .u16 (m : Int), .int .u32 (b : Int), .int .u16 (n : Int)] 29)
      clear B1
      have A_4 := A_2.past (o := (.cells #[.int .u8 (p : Int), .int .u32 (a : Int), .int .u16 (m : Int), .int .u32 (b : Int), .int .u16 (j : Int)] 29))
      have hs_ : (w.alloc (.cells #[.int .u8 (p : Int), .int .u32 (a : Int), .int .u16 (m : Int), .int .u32 (b : Int), .int .u16 (n : Int)] 29)).heap.size = w.heap.size + 1 := by simp
      have C_5 := Box5.make (w.alloc (.cells #[.int .u8 (p : Int), .int .u32 (a : Int), .int .u16 (m : Int), .int .u32 (b : Int), .int .u16 (n : Int)] 29)) (.int .u8 (p : Int)) (.int .u32 (a : Int)) (.int .u16 (m : Int)) (.int .u32 (b : Int)) (.int .u16 (j : Int)) 29
      rw [hs_] at C_5
      clear hs_
      have B6 := B3.alloc B3.size (.cells #[.int .u8 (p : Int), .int .u32 (a : Int), .int .u16 (m : Int), .int .u32 (b : Int), .int .u16 (j : Int)] 29)
      clear A_2 B3
      obtain ⟨u1, hu1⟩ : ∃ x, x = (w.alloc (.cells #[.int .u8 (p : Int), .int .u32 (a : Int), .int .u16 (m : Int), .int .u32 (b : Int), .int .u16 (n : Int)] 29)).alloc (.cells #[.int .u8 (p : Int), .int .u32 (a : Int), .int .u16 (m : Int), .int .u32 (b : Int), .int .u16 (j : Int)] 29) := ⟨_, rfl⟩
      rw [← hu1] at A_4 C_5 B6 ⊢
      clear hu1
      have HT := ht.on B6
      obtain ⟨za, ga0, ga1, ga2, ga3, ga4⟩ := id A_4
      have Fa0 : ∀ x : Later u1.heap.size u1, x.u.cell? ⟨w.heap.size, 0, none⟩ = some (.int .u8 (p : Int)) := fun x => x.block za ga0
      have Fa1 : ∀ x : Later u1.heap.size u1, x.u.cell? ⟨w.heap.size, 1, none⟩ = some (.int .u32 (a : Int)) := fun x => x.block za ga1
      have Fa2 : ∀ x : Later u1.heap.size u1, x.u.cell? ⟨w.heap.size, 2, none⟩ = some (.int .u16 (m : Int)) := fun x => x.block za ga2
      have Fa3 : ∀ x : Later u1.heap.size u1, x.u.cell? ⟨w.heap.size, 3, none⟩ = some (.int .u32 (b : Int)) := fun x => x.block za ga3
      have Fa4 : ∀ x : Later u1.heap.size u1, x.u.cell? ⟨w.heap.size, 4, none⟩ = some (.int .u16 (n : Int)) := fun x => x.block za ga4
      clear ga0 ga1 ga2 ga3 ga4
      refine region_later (B := u1.heap.size) (by kernel_rfl) (by kernel_rfl) ?_
      repeat (go_big_quiet_step (first
        | (go_at_call_of 9 (#[Value.agg #[.int .u8 (p : Int), .int .u32 (a : Int), .int .u16 (m : Int), .int .u32 (b : Int), .int .u16 (n : Int)]]); exact later_of _ (Nat.le_refl _) (cB1 _ (HT.on (Later.h _))))
        | (go_at_call_of 9 (#[Value.agg #[.int .u8 (p : Int), .int .u32 (b : Int), .int .u16 (n : Int), .int .u32 (a : Int), .int .u16 (m : Int)]]); exact later_of _ (Nat.le_refl _) (cB2 _ (HT.on (Later.h _))))
        | (go_at_call_of 8 (#[Value.agg #[.int .u8 (p : Int), .int .u32 (a : Int), .int .u16 (m : Int), .int .u32 (b : Int), .int .u16 (n : Int)]]); exact later_of _ (Nat.le_refl _) (cM1 _ (HT.on (Later.h _))))
        | (go_at_call_of 8 (#[Value.agg #[.int .u8 (p : Int), .int .u32 (b : Int), .int .u16 (n : Int), .int .u32 (a : Int), .int .u16 (m : Int)]]); exact later_of _ (Nat.le_refl _) (cM2 _ (HT.on (Later.h _))))))
      refine later_end fun w2 x2 => ?_
      have A_7 := A_4.on x2
      have C_8 := C_5.on x2
      have B9 := B6.trans (x2.mono B6.size)
      clear Fa0 Fa1 Fa2 Fa3 Fa4 za A_4 C_5 B6 x2
      clear HT
      have HT := ht.on B9
      go_wp2_with fail
      obtain ⟨za, ga0, ga1, ga2, ga3, ga4⟩ := id A_7
      have Fa0 : ∀ x : Later w2.heap.size w2, x.u.cell? ⟨w.heap.size, 0, none⟩ = some (.int .u8 (p : Int)) := fun x => x.block za ga0
      have Fa1 : ∀ x : Later w2.heap.size w2, x.u.cell? ⟨w.heap.size, 1, none⟩ = some (.int .u32 (a : Int)) := fun x => x.block za ga1
      have Fa2 : ∀ x : Later w2.heap.size w2, x.u.cell? ⟨w.heap.size, 2, none⟩ = some (.int .u16 (m : Int)) := fun x => x.block za ga2
      have Fa3 : ∀ x : Later w2.heap.size w2, x.u.cell? ⟨w.heap.size, 3, none⟩ = some (.int .u32 (b : Int)) := fun x => x.block za ga3
      have Fa4 : ∀ x : Later w2.heap.size w2, x.u.cell? ⟨w.heap.size, 4, none⟩ = some (.int .u16 (n : Int)) := fun x => x.block za ga4
      clear ga0 ga1 ga2 ga3 ga4
      obtain ⟨zc, gc0, gc1, gc2, gc3, gc4⟩ := id C_8
      have Fc0 : ∀ x : Later w2.heap.size w2, x.u.cell? ⟨(w.heap.size + 1), 0, none⟩ = some (.int .u8 (p : Int)) := fun x => x.block zc gc0
      have Fc1 : ∀ x : Later w2.heap.size w2, x.u.cell? ⟨(w.heap.size + 1), 1, none⟩ = some (.int .u32 (a : Int)) := fun x => x.block zc gc1
      have Fc2 : ∀ x : Later w2.heap.size w2, x.u.cell? ⟨(w.heap.size + 1), 2, none⟩ = some (.int .u16 (m : Int)) := fun x => x.block zc gc2
      have Fc3 : ∀ x : Later w2.heap.size w2, x.u.cell? ⟨(w.heap.size + 1), 3, none⟩ = some (.int .u32 (b : Int)) := fun x => x.block zc gc3
      have Fc4 : ∀ x : Later w2.heap.size w2, x.u.cell? ⟨(w.heap.size + 1), 4, none⟩ = some (.int .u16 (j : Int)) := fun x => x.block zc gc4
      clear gc0 gc1 gc2 gc3 gc4
      refine region_later (B := w2.heap.size) (by kernel_rfl) (by kernel_rfl) ?_
      repeat (go_big_quiet_step (first
        | (go_at_call_of 10 (#[Value.agg #[.int .u8 (p : Int), .int .u32 (a : Int), .int .u16 (m : Int), .int .u32 (b : Int), .int .u16 (n : Int)], Value.agg #[.int .u8 (p : Int), .int .u32 (a : Int), .int .u16 (m : Int), .int .u32 (b : Int), .int .u16 (j : Int)]]); exact later_of _ (Nat.le_refl _) (cL1 _ (HT.on (Later.h _))))
        | (go_at_call_of 10 (#[Value.agg #[.int .u8 (p : Int), .int .u32 (a : Int), .int .u16 (m : Int), .int .u32 (b : Int), .int .u16 (j : Int)], Value.agg #[.int .u8 (p : Int), .int .u32 (a : Int), .int .u16 (m : Int), .int .u32 (b : Int), .int .u16 (n : Int)]]); exact later_of _ (Nat.le_refl _) (cL2 _ (HT.on (Later.h _))))))
      refine later_end fun w3 x3 => ?_
      have A_10 := A_7.on x3
      have C_11 := C_8.on x3
      have B12 := B9.trans (x3.mono B9.size)
      clear Fa0 Fa1 Fa2 Fa3 Fa4 za Fc0 Fc1 Fc2 Fc3 Fc4 zc A_7 C_8 B9 x3
      clear HT
      obtain ⟨_, a1_0, a1_1, a1_2, a1_3, a1_4⟩ := id A_10
      obtain ⟨_, c2_0, c2_1, c2_2, c2_3, c2_4⟩ := id C_11
      go_wp2_with fail
      refine (cT1 _ (ht.on B12)).mono ?_; rintro e w4 ⟨rfl, x4⟩
      have A_13 := A_10.on x4
      have C_14 := C_11.on x4
      have B15 := B12.trans (x4.mono B12.size)
      clear a1_0 a1_1 a1_2 a1_3 a1_4 c2_0 c2_1 c2_2 c2_3 c2_4 A_10 C_11 B12 x4
      go_wp2_with fail
      refine (cP _ (ht.on B15)).mono ?_; rintro e w5 ⟨rfl, x5⟩
      have A_16 := A_13.on x5
      have C_17 := C_14.on x5
      have B18 := B15.trans (x5.mono B15.size)
      clear A_13 C_14 B15 x5
      clear cP
      have A_19 := A_16.past (o := (.cells #[.int .u8 (p : Int), .int .u32 (a : Int), .int .u16 (m : Int), .int .u32 (b : Int), .int .u16 (n : Int)] 29))
      have C_20 := C_17.past (o := (.cells #[.int .u8 (p : Int), .int .u32 (a : Int), .int .u16 (m : Int), .int .u32 (b : Int), .int .u16 (n : Int)] 29))
      have U_21 := Box5.make w5 (.int .u8 (p : Int)) (.int .u32 (a : Int)) (.int .u16 (m : Int)) (.int .u32 (b : Int)) (.int .u16 (n : Int)) 29
      have B22 := B18.alloc B18.size (.cells #[.int .u8 (p : Int), .int .u32 (a : Int), .int .u16 (m : Int), .int .u32 (b : Int), .int .u16 (n : Int)] 29)
      clear A_16 C_17 B18
      obtain ⟨_, a3_0, a3_1, a3_2, a3_3, a3_4⟩ := id A_19
      go_wp2_with fail
      refine (cM1 _ (ht.on B22)).mono ?_; rintro e w6 ⟨rfl, x6⟩
      have A_23 := A_19.on x6
      have C_24 := C_20.on x6
      have U_25 := U_21.on x6
      have B26 := B22.trans (x6.mono B22.size)
      clear a3_0 a3_1 a3_2 a3_3 a3_4 A_19 C_20 U_21 B22 x6
      have HT := ht.on B26
      go_wp2_with fail
      obtain ⟨za, ga0, ga1, ga2, ga3, ga4⟩ := id A_23
      have Fa0 : ∀ x : Later w6.heap.size w6, x.u.cell? ⟨w.heap.size, 0, none⟩ = some (.int .u8 (p : Int)) := fun x => x.block za ga0
      have Fa1 : ∀ x : Later w6.heap.size w6, x.u.cell? ⟨w.heap.size, 1, none⟩ = some (.int .u32 (a : Int)) := fun x => x.block za ga1
      have Fa2 : ∀ x : Later w6.heap.size w6, x.u.cell? ⟨w.heap.size, 2, none⟩ = some (.int .u16 (m : Int)) := fun x => x.block za ga2
      have Fa3 : ∀ x : Later w6.heap.size w6, x.u.cell? ⟨w.heap.size, 3, none⟩ = some (.int .u32 (b : Int)) := fun x => x.block za ga3
      have Fa4 : ∀ x : Later w6.heap.size w6, x.u.cell? ⟨w.heap.size, 4, none⟩ = some (.int .u16 (n : Int)) := fun x => x.block za ga4
      clear ga0 ga1 ga2 ga3 ga4
      obtain ⟨zc, gc0, gc1, gc2, gc3, gc4⟩ := id C_24
      have Fc0 : ∀ x : Later w6.heap.size w6, x.u.cell? ⟨(w.heap.size + 1), 0, none⟩ = some (.int .u8 (p : Int)) := fun x => x.block zc gc0
      have Fc1 : ∀ x : Later w6.heap.size w6, x.u.cell? ⟨(w.heap.size + 1), 1, none⟩ = some (.int .u32 (a : Int)) := fun x => x.block zc gc1
      have Fc2 : ∀ x : Later w6.heap.size w6, x.u.cell? ⟨(w.heap.size + 1), 2, none⟩ = some (.int .u16 (m : Int)) := fun x => x.block zc gc2
      have Fc3 : ∀ x : Later w6.heap.size w6, x.u.cell? ⟨(w.heap.size + 1), 3, none⟩ = some (.int .u32 (b : Int)) := fun x => x.block zc gc3
      have Fc4 : ∀ x : Later w6.heap.size w6, x.u.cell? ⟨(w.heap.size + 1), 4, none⟩ = some (.int .u16 (j : Int)) := fun x => x.block zc gc4
      clear gc0 gc1 gc2 gc3 gc4
      obtain ⟨zu, gu0, gu1, gu2, gu3, gu4⟩ := id U_25
      have Fu0 : ∀ x : Later w6.heap.size w6, x.u.cell? ⟨w5.heap.size, 0, none⟩ = some (.int .u8 (p : Int)) := fun x => x.block zu gu0
      have Fu1 : ∀ x : Later w6.heap.size w6, x.u.cell? ⟨w5.heap.size, 1, none⟩ = some (.int .u32 (a : Int)) := fun x => x.block zu gu1
      have Fu2 : ∀ x : Later w6.heap.size w6, x.u.cell? ⟨w5.heap.size, 2, none⟩ = some (.int .u16 (m : Int)) := fun x => x.block zu gu2
      have Fu3 : ∀ x : Later w6.heap.size w6, x.u.cell? ⟨w5.heap.size, 3, none⟩ = some (.int .u32 (b : Int)) := fun x => x.block zu gu3
      have Fu4 : ∀ x : Later w6.heap.size w6, x.u.cell? ⟨w5.heap.size, 4, none⟩ = some (.int .u16 (n : Int)) := fun x => x.block zu gu4
      clear gu0 gu1 gu2 gu3 gu4
      refine region_later (B := w6.heap.size) (by kernel_rfl) (by kernel_rfl) ?_
      repeat (go_big_quiet_step (first
        | (go_at_call_of 8 (#[Value.agg #[.int .u8 (p : Int), .int .u32 (a : Int), .int .u16 (m : Int), .int .u32 (b : Int), .int .u16 (j : Int)]]); exact later_of _ (Nat.le_refl _) (cM3 _ (HT.on (Later.h _))))
        | (go_at_call_of 12 (#[Value.agg #[.int .u8 (p : Int), .int .u32 (a : Int), .int .u16 (m : Int), .int .u32 (b : Int), .int .u16 (n : Int)]]); exact later_of _ (Nat.le_refl _) (cT1 _ (HT.on (Later.h _))))
        | (go_at_call_of 12 (#[Value.agg #[.int .u8 (p : Int), .int .u32 (a : Int), .int .u16 (m : Int), .int .u32 (b : Int), .int .u16 (j : Int)]]); exact later_of _ (Nat.le_refl _) (cT2 _ (HT.on (Later.h _))))
        | (go_at_call 6; exact later_of _ (Nat.le_refl _) (watched_ K _ (HT.on (Later.h _))))))
      refine later_end fun w7 x7 => ?_
      have A_27 := A_23.on x7
      have C_28 := C_24.on x7
      have U_29 := U_25.on x7
      have B30 := B26.trans (x7.mono B26.size)
      clear Fa0 Fa1 Fa2 Fa3 Fa4 za Fc0 Fc1 Fc2 Fc3 Fc4 zc Fu0 Fu1 Fu2 Fu3 Fu4 zu A_23 C_24 U_25 B26 x7
      go_wp2
      go_ret
      exact ⟨rfl, B30⟩
set_option maxRecDepth 100000 in
set_option maxHeartbeats 8000000 in
theorem back_5 (p a m b n q c k d j : Nat) (S1 S2 : ByteArray) (mv nv lv : Bool) (K : TupOk) (w : World) (ht : Tab w) (cB1 : ∀ u : World, Tab u → Calls Tryd.prog 9 #[.agg #[.int .u8 (p : Int), .int .u32 (a : Int), .int .u16 (m : Int), .int .u32 (b : Int), .int .u16 (n : Int)]] u fun e w' => e = .returned (.agg #[.int .u8 (p : Int), .int .u32 (b : Int), .int .u16 (n : Int), .int .u32 (a : Int), .int .u16 (m : Int)]) ∧ Below u.heap.size u w')
    (cB2 : ∀ u : World, Tab u → Calls Tryd.prog 9 #[.agg #[.int .u8 (p : Int), .int .u32 (b : Int), .int .u16 (n : Int), .int .u32 (a : Int), .int .u16 (m : Int)]] u fun e w' => e = .returned (.agg #[.int .u8 (p : Int), .int .u32 (a : Int), .int .u16 (m : Int), .int .u32 (b : Int), .int .u16 (n : Int)]) ∧ Below u.heap.size u w')
    (cM1 : ∀ u : World, Tab u → Calls Tryd.prog 8 #[.agg #[.int .u8 (p : Int), .int .u32 (a : Int), .int .u16 (m : Int), .int .u32 (b : Int), .int .u16 (n : Int)]] u fun e w' => e = .returned (.bool mv) ∧ Below u.heap.size u w')
    (cM2 : ∀ u : World, Tab u → Calls Tryd.prog 8 #[.agg #[.int .u8 (p : Int), .int .u32 (b : Int), .int .u16 (n : Int), .int .u32 (a : Int), .int .u16 (m : Int)]] u fun e w' => e = .returned (.bool mv) ∧ Below u.heap.size u w')
    (cT1 : ∀ u : World, Tab u → Calls Tryd.prog 12 #[.agg #[.int .u8 (p : Int), .int .u32 (a : Int), .int .u16 (m : Int), .int .u32 (b : Int), .int .u16 (n : Int)]] u fun e w' => e = .returned (.string S1) ∧ Below u.heap.size u w')
    (cL1 : ∀ u : World, Tab u → Calls Tryd.prog 10 #[.agg #[.int .u8 (p : Int), .int .u32 (a : Int), .int .u16 (m : Int), .int .u32 (b : Int), .int .u16 (n : Int)], .agg #[.int .u8 (p : Int), .int .u32 (a : Int), .int .u16 (m : Int), .int .u32 (b : Int), .int .u16 (n : Int)]] u fun e w' => e = .returned (.bool false) ∧ Below u.heap.size u w')
    (cP1 : mv = true → ∀ u : World, Tab u → Calls Tryd.prog 11 #[.string S1] u fun e w' => e = .returned (.tuple #[.agg #[.int .u8 (p : Int), .int .u32 (a : Int), .int .u16 (m : Int), .int .u32 (b : Int), .int .u16 (n : Int)], .int .i64 0]) ∧ Below u.heap.size u w')
    (cP0 : mv = false → S1 = ⟨#[]⟩ ∧ ∀ u : World, Tab u → Calls Tryd.prog 11 #[.string S1] u fun e w' => e = .returned (.tuple #[.agg #[.int .u8 0, .int .u32 0, .int .u16 0, .int .u32 0, .int .u16 0], .int .i64 3]) ∧ Below u.heap.size u w') :
    Calls Tryd.prog 4 #[.agg #[.int .u8 (p : Int), .int .u32 (a : Int), .int .u16 (m : Int), .int .u32 (b : Int), .int .u16 (n : Int)], .agg #[.int .u8 (p : Int), .int .u32 (a : Int), .int .u16 (m : Int), .int .u32 (b : Int), .int .u16 (n : Int)]] w fun e w' => e = .returned (.bool true) ∧ Below w.heap.size w w' := by
  have hSS : (S1.toList == S1.toList) = true := by simp
  cases mv
  · have cP := (cP0 rfl).2
    have e0 := (cP0 rfl).1
    subst e0
    clear cP0 cP1
    go_enter Tryd.func4, Tryd.ntmps4
    have B1 := Below.refl w.heap.size w
    go_wp2_with fail
    have A_2 := Box5.make w (.int .u8 (p : Int)) (.int .u32 (a : Int)) (.int .u16 (m : Int)) (.int .u32 (b : Int)) (.int .u16 (n : Int)) 29
    have B3 := B1.alloc B1.size (.cells #[.int .u8 (p : Int), .int .u32 (a : Int), .int .u16 (m : Int), .int .u32 (b : Int), .int .u16 (n : Int)] 29)
    clear B1
    have A_4 := A_2.past (o := (.cells #[.int .u8 (p : Int), .int .u32 (a : Int), .int .u16 (m : Int), .int .u32 (b : Int), .int .u16 (n : Int)] 29))
    have hs_ : (w.alloc (.cells #[.int .u8 (p : Int), .int .u32 (a : Int), .int .u16 (m : Int), .int .u32 (b : Int), .int .u16 (n : Int)] 29)).heap.size = w.heap.size + 1 := by simp
    have C_5 := Box5.make (w.alloc (.cells #[.int .u8 (p : Int), .int .u32 (a : Int), .int .u16 (m : Int), .int .u32 (b : Int), .int .u16 (n : Int)] 29)) (.int .u8 (p : Int)) (.int .u32 (a : Int)) (.int .u16 (m : Int)) (.int .u32 (b : Int)) (.int .u16 (n : Int)) 29
    rw [hs_] at C_5
    clear hs_
    have B6 := B3.alloc B3.size (.cells #[.int .u8 (p : Int), .int .u32 (a : Int), .int .u16 (m : Int), .int .u32 (b : Int), .int .u16 (n : Int)] 29)
    clear A_2 B3
    obtain ⟨u1, hu1⟩ : ∃ x, x = (w.alloc (.cells #[.int .u8 (p : Int), .int .u32 (a : Int), .int .u16 (m : Int), .int .u32 (b : Int), .int .u16 (n : Int)] 29)).alloc (.cells #[.int .u8 (p : Int), .int .u32 (a : Int), .int .u16 (m : Int), .int .u32 (b : Int), .int .u16 (n : Int)] 29) := ⟨_, rfl⟩
    rw [← hu1] at A_4 C_5 B6 ⊢
    clear hu1
    have HT := ht.on B6
    obtain ⟨za, ga0, ga1, ga2, ga3, ga4⟩ := id A_4
    have Fa0 : ∀ x : Later u1.heap.size u1, x.u.cell? ⟨w.heap.size, 0, none⟩ = some (.int .u8 (p : Int)) := fun x => x.block za ga0
    have Fa1 : ∀ x : Later u1.heap.size u1, x.u.cell? ⟨w.heap.size, 1, none⟩ = some (.int .u32 (a : Int)) := fun x => x.block za ga1
    have Fa2 : ∀ x : Later u1.heap.size u1, x.u.cell? ⟨w.heap.size, 2, none⟩ = some (.int .u16 (m : Int)) := fun x => x.block za ga2
    have Fa3 : ∀ x : Later u1.heap.size u1, x.u.cell? ⟨w.heap.size, 3, none⟩ = some (.int .u32 (b : Int)) := fun x => x.block za ga3
    have Fa4 : ∀ x : Later u1.heap.size u1, x.u.cell? ⟨w.heap.size, 4, none⟩ = some (.int .u16 (n : Int)) := fun x => x.block za ga4
    clear ga0 ga1 ga2 ga3 ga4
    refine region_later (B := u1.heap.size) (by kernel_rfl) (by kernel_rfl) ?_
    repeat (go_big_quiet_step (first
      | (go_at_call_of 9 (#[Value.agg #[.int .u8 (p : Int), .int .u32 (a : Int), .int .u16 (m : Int), .int .u32 (b : Int), .int .u16 (n : Int)]]); exact later_of _ (Nat.le_refl _) (cB1 _ (HT.on (Later.h _))))
      | (go_at_call_of 9 (#[Value.agg #[.int .u8 (p : Int), .int .u32 (b : Int), .int .u16 (n : Int), .int .u32 (a : Int), .int .u16 (m : Int)]]); exact later_of _ (Nat.le_refl _) (cB2 _ (HT.on (Later.h _))))
      | (go_at_call_of 8 (#[Value.agg #[.int .u8 (p : Int), .int .u32 (a : Int), .int .u16 (m : Int), .int .u32 (b : Int), .int .u16 (n : Int)]]); exact later_of _ (Nat.le_refl _) (cM1 _ (HT.on (Later.h _))))
      | (go_at_call_of 8 (#[Value.agg #[.int .u8 (p : Int), .int .u32 (b : Int), .int .u16 (n : Int), .int .u32 (a : Int), .int .u16 (m : Int)]]); exact later_of _ (Nat.le_refl _) (cM2 _ (HT.on (Later.h _))))))
    refine later_end fun w2 x2 => ?_
    have A_7 := A_4.on x2
    have C_8 := C_5.on x2
    have B9 := B6.trans (x2.mono B6.size)
    clear Fa0 Fa1 Fa2 Fa3 Fa4 za A_4 C_5 B6 x2
    clear HT
    have HT := ht.on B9
    go_wp2_with fail
    obtain ⟨za, ga0, ga1, ga2, ga3, ga4⟩ := id A_7
    have Fa0 : ∀ x : Later w2.heap.size w2, x.u.cell? ⟨w.heap.size, 0, none⟩ = some (.int .u8 (p : Int)) := fun x => x.block za ga0
    have Fa1 : ∀ x : Later w2.heap.size w2, x.u.cell? ⟨w.heap.size, 1, none⟩ = some (.int .u32 (a : Int)) := fun x => x.block za ga1
    have Fa2 : ∀ x : Later w2.heap.size w2, x.u.cell? ⟨w.heap.size, 2, none⟩ = some (.int .u16 (m : Int)) := fun x => x.block za ga2
    have Fa3 : ∀ x : Later w2.heap.size w2, x.u.cell? ⟨w.heap.size, 3, none⟩ = some (.int .u32 (b : Int)) := fun x => x.block za ga3
    have Fa4 : ∀ x : Later w2.heap.size w2, x.u.cell? ⟨w.heap.size, 4, none⟩ = some (.int .u16 (n : Int)) := fun x => x.block za ga4
    clear ga0 ga1 ga2 ga3 ga4
    obtain ⟨zc, gc0, gc1, gc2, gc3, gc4⟩ := id C_8
    have Fc0 : ∀ x : Later w2.heap.size w2, x.u.cell? ⟨(w.heap.size + 1), 0, none⟩ = some (.int .u8 (p : Int)) := fun x => x.block zc gc0
    have Fc1 : ∀ x : Later w2.heap.size w2, x.u.cell? ⟨(w.heap.size + 1), 1, none⟩ = some (.int .u32 (a : Int)) := fun x => x.block zc gc1
    have Fc2 : ∀ x : Later w2.heap.size w2, x.u.cell? ⟨(w.heap.size + 1), 2, none⟩ = some (.int .u16 (m : Int)) := fun x => x.block zc gc2
    have Fc3 : ∀ x : Later w2.heap.size w2, x.u.cell? ⟨(w.heap.size + 1), 3, none⟩ = some (.int .u32 (b : Int)) := fun x => x.block zc gc3
    have Fc4 : ∀ x : Later w2.heap.size w2, x.u.cell? ⟨(w.heap.size + 1), 4, none⟩ = some (.int .u16 (n : Int)) := fun x => x.block zc gc4
    clear gc0 gc1 gc2 gc3 gc4
    refine region_later (B := w2.heap.size) (by kernel_rfl) (by kernel_rfl) ?_
    repeat (go_big_quiet_step (first
      | (go_at_call_of 10 (#[Value.agg #[.int .u8 (p : Int), .int .u32 (a : Int), .int .u16 (m : Int), .int .u32 (b : Int), .int .u16 (n : Int)], Value.agg #[.int .u8 (p : Int), .int .u32 (a : Int), .int .u16 (m : Int), .int .u32 (b : Int), .int .u16 (n : Int)]]); exact later_of _ (Nat.le_refl _) (cL1 _ (HT.on (Later.h _))))))
    refine later_end fun w3 x3 => ?_
    have A_10 := A_7.on x3
    have C_11 := C_8.on x3
    have B12 := B9.trans (x3.mono B9.size)
    clear Fa0 Fa1 Fa2 Fa3 Fa4 za Fc0 Fc1 Fc2 Fc3 Fc4 zc A_7 C_8 B9 x3
    clear HT
    obtain ⟨_, a1_0, a1_1, a1_2, a1_3, a1_4⟩ := id A_10
    obtain ⟨_, c2_0, c2_1, c2_2, c2_3, c2_4⟩ := id C_11
    go_wp2_with fail
    refine (cT1 _ (ht.on B12)).mono ?_; rintro e w4 ⟨rfl, x4⟩
    have A_13 := A_10.on x4
    have C_14 := C_11.on x4
    have B15 := B12.trans (x4.mono B12.size)
    clear a1_0 a1_1 a1_2 a1_3 a1_4 c2_0 c2_1 c2_2 c2_3 c2_4 A_10 C_11 B12 x4
    go_wp2_with fail
    refine (cP _ (ht.on B15)).mono ?_; rintro e w5 ⟨rfl, x5⟩
    have A_16 := A_13.on x5
    have C_17 := C_14.on x5
    have B18 := B15.trans (x5.mono B15.size)
    clear A_13 C_14 B15 x5
    clear cP
    have A_19 := A_16.past (o := (.cells #[.int .u8 0, .int .u32 0, .int .u16 0, .int .u32 0, .int .u16 0] 29))
    have C_20 := C_17.past (o := (.cells #[.int .u8 0, .int .u32 0, .int .u16 0, .int .u32 0, .int .u16 0] 29))
    have U_21 := Box5.make w5 (.int .u8 0) (.int .u32 0) (.int .u16 0) (.int .u32 0) (.int .u16 0) 29
    have B22 := B18.alloc B18.size (.cells #[.int .u8 0, .int .u32 0, .int .u16 0, .int .u32 0, .int .u16 0] 29)
    clear A_16 C_17 B18
    obtain ⟨_, a3_0, a3_1, a3_2, a3_3, a3_4⟩ := id A_19
    go_wp2_with fail
    refine (cM1 _ (ht.on B22)).mono ?_; rintro e w6 ⟨rfl, x6⟩
    have A_23 := A_19.on x6
    have C_24 := C_20.on x6
    have U_25 := U_21.on x6
    have B26 := B22.trans (x6.mono B22.size)
    clear a3_0 a3_1 a3_2 a3_3 a3_4 A_19 C_20 U_21 B22 x6
    obtain ⟨_, a4_0, a4_1, a4_2, a4_3, a4_4⟩ := id A_23
    go_wp2_with fail
    refine (cT1 _ (ht.on B26)).mono ?_; rintro e w7 ⟨rfl, x7⟩
    have A_27 := A_23.on x7
    have C_28 := C_24.on x7
    have U_29 := U_25.on x7
    have B30 := B26.trans (x7.mono B26.size)
    clear a4_0 a4_1 a4_2 a4_3 a4_4 A_23 C_24 U_25 B26 x7
    go_wp2_with fail
    refine (watched_ K _ (ht.on B30)).mono ?_; rintro e w8 ⟨rfl, x8⟩
    have A_31 := A_27.on x8
    have C_32 := C_28.on x8
    have U_33 := U_29.on x8
    have B34 := B30.trans (x8.mono B30.size)
    clear A_27 C_28 U_29 B30 x8
    go_wp2
    go_ret
    exact ⟨rfl, B34⟩
  · have cP := cP1 rfl
    clear cP0 cP1
    go_enter Tryd.func4, Tryd.ntmps4
    have B1 := Below.refl w.heap.size w
    go_wp2_with fail
    have A_2 := Box5.make w (.int .u8 (p : Int)) (.int .u32 (a : Int)) (.int .u16 (m : Int)) (.int .u32 (b : Int)) (.int .u16 (n : Int)) 29
    have B3 := B1.alloc B1.size (.cells #[.int .u8 (p : Int), .int .u32 (a : Int), .int .u16 (m : Int), .int .u32 (b : Int), .int .u16 (n : Int)] 29)
    clear B1
    have A_4 := A_2.past (o := (.cells #[.int .u8 (p : Int), .int .u32 (a : Int), .int .u16 (m : Int), .int .u32 (b : Int), .int .u16 (n : Int)] 29))
    have hs_ : (w.alloc (.cells #[.int .u8 (p : Int), .int .u32 (a : Int), .int .u16 (m : Int), .int .u32 (b : Int), .int .u16 (n : Int)] 29)).heap.size = w.heap.size + 1 := by simp
    have C_5 := Box5.make (w.alloc (.cells #[.int .u8 (p : Int), .int .u32 (a : Int), .int .u16 (m : Int), .int .u32 (b : Int), .int .u16 (n : Int)] 29)) (.int .u8 (p : Int)) (.int .u32 (a : Int)) (.int .u16 (m : Int)) (.int .u32 (b : Int)) (.int .u16 (n : Int)) 29
    rw [hs_] at C_5
    clear hs_
    have B6 := B3.alloc B3.size (.cells #[.int .u8 (p : Int), .int .u32 (a : Int), .int .u16 (m : Int), .int .u32 (b : Int), .int .u16 (n : Int)] 29)
    clear A_2 B3
    obtain ⟨u1, hu1⟩ : ∃ x, x = (w.alloc (.cells #[.int .u8 (p : Int), .int .u32 (a : Int), .int .u16 (m : Int), .int .u32 (b : Int), .int .u16 (n : Int)] 29)).alloc (.cells #[.int .u8 (p : Int), .int .u32 (a : Int), .int .u16 (m : Int), .int .u32 (b : Int), .int .u16 (n : Int)] 29) := ⟨_, rfl⟩
    rw [← hu1] at A_4 C_5 B6 ⊢
    clear hu1
    have HT := ht.on B6
    obtain ⟨za, ga0, ga1, ga2, ga3, ga4⟩ := id A_4
    have Fa0 : ∀ x : Later u1.heap.size u1, x.u.cell? ⟨w.heap.size, 0, none⟩ = some (.int .u8 (p : Int)) := fun x => x.block za ga0
    have Fa1 : ∀ x : Later u1.heap.size u1, x.u.cell? ⟨w.heap.size, 1, none⟩ = some (.int .u32 (a : Int)) := fun x => x.block za ga1
    have Fa2 : ∀ x : Later u1.heap.size u1, x.u.cell? ⟨w.heap.size, 2, none⟩ = some (.int .u16 (m : Int)) := fun x => x.block za ga2
    have Fa3 : ∀ x : Later u1.heap.size u1, x.u.cell? ⟨w.heap.size, 3, none⟩ = some (.int .u32 (b : Int)) := fun x => x.block za ga3
    have Fa4 : ∀ x : Later u1.heap.size u1, x.u.cell? ⟨w.heap.size, 4, none⟩ = some (.int .u16 (n : Int)) := fun x => x.block za ga4
    clear ga0 ga1 ga2 ga3 ga4
    refine region_later (B := u1.heap.size) (by kernel_rfl) (by kernel_rfl) ?_
    repeat (go_big_quiet_step (first
      | (go_at_call_of 9 (#[Value.agg #[.int .u8 (p : Int), .int .u32 (a : Int), .int .u16 (m : Int), .int .u32 (b : Int), .int .u16 (n : Int)]]); exact later_of _ (Nat.le_refl _) (cB1 _ (HT.on (Later.h _))))
      | (go_at_call_of 9 (#[Value.agg #[.int .u8 (p : Int), .int .u32 (b : Int), .int .u16 (n : Int), .int .u32 (a : Int), .int .u16 (m : Int)]]); exact later_of _ (Nat.le_refl _) (cB2 _ (HT.on (Later.h _))))
      | (go_at_call_of 8 (#[Value.agg #[.int .u8 (p : Int), .int .u32 (a : Int), .int .u16 (m : Int), .int .u32 (b : Int), .int .u16 (n : Int)]]); exact later_of _ (Nat.le_refl _) (cM1 _ (HT.on (Later.h _))))
      | (go_at_call_of 8 (#[Value.agg #[.int .u8 (p : Int), .int .u32 (b : Int), .int .u16 (n : Int), .int .u32 (a : Int), .int .u16 (m : Int)]]); exact later_of _ (Nat.le_refl _) (cM2 _ (HT.on (Later.h _))))))
    refine later_end fun w2 x2 => ?_
    have A_7 := A_4.on x2
    have C_8 := C_5.on x2
    have B9 := B6.trans (x2.mono B6.size)
    clear Fa0 Fa1 Fa2 Fa3 Fa4 za A_4 C_5 B6 x2
    clear HT
    have HT := ht.on B9
    go_wp2_with fail
    obtain ⟨za, ga0, ga1, ga2, ga3, ga4⟩ := id A_7
    have Fa0 : ∀ x : Later w2.heap.size w2, x.u.cell? ⟨w.heap.size, 0, none⟩ = some (.int .u8 (p : Int)) := fun x => x.block za ga0
    have Fa1 : ∀ x : Later w2.heap.size w2, x.u.cell? ⟨w.heap.size, 1, none⟩ = some (.int .u32 (a : Int)) := fun x => x.block za ga1
    have Fa2 : ∀ x : Later w2.heap.size w2, x.u.cell? ⟨w.heap.size, 2, none⟩ = some (.int .u16 (m : Int)) := fun x => x.block za ga2
    have Fa3 : ∀ x : Later w2.heap.size w2, x.u.cell? ⟨w.heap.size, 3, none⟩ = some (.int .u32 (b : Int)) := fun x => x.block za ga3
    have Fa4 : ∀ x : Later w2.heap.size w2, x.u.cell? ⟨w.heap.size, 4, none⟩ = some (.int .u16 (n : Int)) := fun x => x.block za ga4
    clear ga0 ga1 ga2 ga3 ga4
    obtain ⟨zc, gc0, gc1, gc2, gc3, gc4⟩ := id C_8
    have Fc0 : ∀ x : Later w2.heap.size w2, x.u.cell? ⟨(w.heap.size + 1), 0, none⟩ = some (.int .u8 (p : Int)) := fun x => x.block zc gc0
    have Fc1 : ∀ x : Later w2.heap.size w2, x.u.cell? ⟨(w.heap.size + 1), 1, none⟩ = some (.int .u32 (a : Int)) := fun x => x.block zc gc1
    have Fc2 : ∀ x : Later w2.heap.size w2, x.u.cell? ⟨(w.heap.size + 1), 2, none⟩ = some (.int .u16 (m : Int)) := fun x => x.block zc gc2
    have Fc3 : ∀ x : Later w2.heap.size w2, x.u.cell? ⟨(w.heap.size + 1), 3, none⟩ = some (.int .u32 (b : Int)) := fun x => x.block zc gc3
    have Fc4 : ∀ x : Later w2.heap.size w2, x.u.cell? ⟨(w.heap.size + 1), 4, none⟩ = some (.int .u16 (n : Int)) := fun x => x.block zc gc4
    clear gc0 gc1 gc2 gc3 gc4
    refine region_later (B := w2.heap.size) (by kernel_rfl) (by kernel_rfl) ?_
    repeat (go_big_quiet_step (first
      | (go_at_call_of 10 (#[Value.agg #[.int .u8 (p : Int), .int .u32 (a : Int), .int .u16 (m : Int), .int .u32 (b : Int), .int .u16 (n : Int)], Value.agg #[.int .u8 (p : Int), .int .u32 (a : Int), .int .u16 (m : Int), .int .u32 (b : Int), .int .u16 (n : Int)]]); exact later_of _ (Nat.le_refl _) (cL1 _ (HT.on (Later.h _))))))
    refine later_end fun w3 x3 => ?_
    have A_10 := A_7.on x3
    have C_11 := C_8.on x3
    have B12 := B9.trans (x3.mono B9.size)
    clear Fa0 Fa1 Fa2 Fa3 Fa4 za Fc0 Fc1 Fc2 Fc3 Fc4 zc A_7 C_8 B9 x3
    clear HT
    obtain ⟨_, a1_0, a1_1, a1_2, a1_3, a1_4⟩ := id A_10
    obtain ⟨_, c2_0, c2_1, c2_2, c2_3, c2_4⟩ := id C_11
    go_wp2_with fail
    refine (cT1 _ (ht.on B12)).mono ?_; rintro e w4 ⟨rfl, x4⟩
    have A_13 := A_10.on x4
    have C_14 := C_11.on x4
    have B15 := B12.trans (x4.mono B12.size)
    clear a1_0 a1_1 a1_2 a1_3 a1_4 c2_0 c2_1 c2_2 c2_3 c2_4 A_10 C_11 B12 x4
    go_wp2_with fail
    refine (cP _ (ht.on B15)).mono ?_; rintro e w5 ⟨rfl, x5⟩
    have A_16 := A_13.on x5
    have C_17 := C_14.on x5
    have B18 := B15.trans (x5.mono B15.size)
    clear A_13 C_14 B15 x5
    clear cP
    have A_19 := A_16.past (o := (.cells #[.int .u8 (p : Int), .int .u32 (a : Int), .int .u16 (m : Int), .int .u32 (b : Int), .int .u16 (n : Int)] 29))
    have C_20 := C_17.past (o := (.cells #[.int .u8 (p : Int), .int .u32 (a : Int), .int .u16 (m : Int), .int .u32 (b : Int), .int .u16 (n : Int)] 29))
    have U_21 := Box5.make w5 (.int .u8 (p : Int)) (.int .u32 (a : Int)) (.int .u16 (m : Int)) (.int .u32 (b : Int)) (.int .u16 (n : Int)) 29
    have B22 := B18.alloc B18.size (.cells #[.int .u8 (p : Int), .int .u32 (a : Int), .int .u16 (m : Int), .int .u32 (b : Int), .int .u16 (n : Int)] 29)
    clear A_16 C_17 B18
    obtain ⟨_, a3_0, a3_1, a3_2, a3_3, a3_4⟩ := id A_19
    go_wp2_with fail
    refine (cM1 _ (ht.on B22)).mono ?_; rintro e w6 ⟨rfl, x6⟩
    have A_23 := A_19.on x6
    have C_24 := C_20.on x6
    have U_25 := U_21.on x6
    have B26 := B22.trans (x6.mono B22.size)
    clear a3_0 a3_1 a3_2 a3_3 a3_4 A_19 C_20 U_21 B22 x6
    have HT := ht.on B26
    go_wp2_with fail
    obtain ⟨za, ga0, ga1, ga2, ga3, ga4⟩ := id A_23
    have Fa0 : ∀ x : Later w6.heap.size w6, x.u.cell? ⟨w.heap.size, 0, none⟩ = some (.int .u8 (p : Int)) := fun x => x.block za ga0
    have Fa1 : ∀ x : Later w6.heap.size w6, x.u.cell? ⟨w.heap.size, 1, none⟩ = some (.int .u32 (a : Int)) := fun x => x.block za ga1
    have Fa2 : ∀ x : Later w6.heap.size w6, x.u.cell? ⟨w.heap.size, 2, none⟩ = some (.int .u16 (m : Int)) := fun x => x.block za ga2
    have Fa3 : ∀ x : Later w6.heap.size w6, x.u.cell? ⟨w.heap.size, 3, none⟩ = some (.int .u32 (b : Int)) := fun x => x.block za ga3
    have Fa4 : ∀ x : Later w6.heap.size w6, x.u.cell? ⟨w.heap.size, 4, none⟩ = some (.int .u16 (n : Int)) := fun x => x.block za ga4
    clear ga0 ga1 ga2 ga3 ga4
    obtain ⟨zc, gc0, gc1, gc2, gc3, gc4⟩ := id C_24
    have Fc0 : ∀ x : Later w6.heap.size w6, x.u.cell? ⟨(w.heap.size + 1), 0, none⟩ = some (.int .u8 (p : Int)) := fun x => x.block zc gc0
    have Fc1 : ∀ x : Later w6.heap.size w6, x.u.cell? ⟨(w.heap.size + 1), 1, none⟩ = some (.int .u32 (a : Int)) := fun x => x.block zc gc1
    have Fc2 : ∀ x : Later w6.heap.size w6, x.u.cell? ⟨(w.heap.size + 1), 2, none⟩ = some (.int .u16 (m : Int)) := fun x => x.block zc gc2
    have Fc3 : ∀ x : Later w6.heap.size w6, x.u.cell? ⟨(w.heap.size + 1), 3, none⟩ = some (.int .u32 (b : Int)) := fun x => x.block zc gc3
    have Fc4 : ∀ x : Later w6.heap.size w6, x.u.cell? ⟨(w.heap.size + 1), 4, none⟩ = some (.int .u16 (n : Int)) := fun x => x.block zc gc4
    clear gc0 gc1 gc2 gc3 gc4
    obtain ⟨zu, gu0, gu1, gu2, gu3, gu4⟩ := id U_25
    have Fu0 : ∀ x : Later w6.heap.size w6, x.u.cell? ⟨w5.heap.size, 0, none⟩ = some (.int .u8 (p : Int)) := fun x => x.block zu gu0
    have Fu1 : ∀ x : Later w6.heap.size w6, x.u.cell? ⟨w5.heap.size, 1, none⟩ = some (.int .u32 (a : Int)) := fun x => x.block zu gu1
    have Fu2 : ∀ x : Later w6.heap.size w6, x.u.cell? ⟨w5.heap.size, 2, none⟩ = some (.int .u16 (m : Int)) := fun x => x.block zu gu2
    have Fu3 : ∀ x : Later w6.heap.size w6, x.u.cell? ⟨w5.heap.size, 3, none⟩ = some (.int .u32 (b : Int)) := fun x => x.block zu gu3
    have Fu4 : ∀ x : Later w6.heap.size w6, x.u.cell? ⟨w5.heap.size, 4, none⟩ = some (.int .u16 (n : Int)) := fun x => x.block zu gu4
    clear gu0 gu1 gu2 gu3 gu4
    refine region_later (B := w6.heap.size) (by kernel_rfl) (by kernel_rfl) ?_
    repeat (go_big_quiet_step (first
      | (go_at_call_of 8 (#[Value.agg #[.int .u8 (p : Int), .int .u32 (a : Int), .int .u16 (m : Int), .int .u32 (b : Int), .int .u16 (n : Int)]]); exact later_of _ (Nat.le_refl _) (cM1 _ (HT.on (Later.h _))))
      | (go_at_call_of 12 (#[Value.agg #[.int .u8 (p : Int), .int .u32 (a : Int), .int .u16 (m : Int), .int .u32 (b : Int), .int .u16 (n : Int)]]); exact later_of _ (Nat.le_refl _) (cT1 _ (HT.on (Later.h _))))
      | (go_at_call 6; exact later_of _ (Nat.le_refl _) (watched_ K _ (HT.on (Later.h _))))))
    refine later_end fun w7 x7 => ?_
    have A_27 := A_23.on x7
    have C_28 := C_24.on x7
    have U_29 := U_25.on x7
    have B30 := B26.trans (x7.mono B26.size)
    clear Fa0 Fa1 Fa2 Fa3 Fa4 za Fc0 Fc1 Fc2 Fc3 Fc4 zc Fu0 Fu1 Fu2 Fu3 Fu4 zu A_23 C_24 U_25 B26 x7
    go_wp2
    go_ret
    exact ⟨rfl, B30⟩
end Go.Proofs.YtidkgnanfhdhdaaDoor.TuplesBack

namespace Go.Proofs.YtidkgnanfhdhdaaDoor.TuplesBack
set_option linter.unusedVariables false
set_option linter.unusedSimpArgs false
open Go.ChangeShapes Go.WideShapes Go.ChangeAt Go.RowKit Go.PlainAid

set_option maxRecDepth 100000 in
set_option maxHeartbeats 8000000 in
theorem walkN (K : TupOk) (p a m b n q c k d j : Nat) (w : World) (ht : Tab w) (hp : p ≤ 255) (ha : a < 4294967296) (hm : m ≤ 65535) (hb : b < 4294967296) (hn : n ≤ 65535) (hq : q ≤ 255) (hc : c < 4294967296) (hk : k ≤ 65535) (hd : d < 4294967296) (hj : j ≤ 65535) :
    Calls Tryd.prog 4 #[.agg #[.int .u8 (p : Int), .int .u32 (a : Int), .int .u16 (m : Int), .int .u32 (b : Int), .int .u16 (n : Int)], .agg #[.int .u8 (q : Int), .int .u32 (c : Int), .int .u16 (k : Int), .int .u32 (d : Int), .int .u16 (j : Int)]] w fun e w' => e = .returned (.bool true) ∧ Below w.heap.size w w' := by
  have cB1 := fun u hu => K.backs p a m b n u (by omega) (by omega) (by omega) (by omega) (by omega) (by omega) (by omega) (by omega) (by omega) (by omega) hu
  have cB2 := fun u hu => K.backs p b n a m u (by omega) (by omega) (by omega) (by omega) (by omega) (by omega) (by omega) (by omega) (by omega) (by omega) hu
  have cM1 := fun u hu => K.mays p a m b n u (by omega) (by omega) (by omega) (by omega) (by omega) (by omega) (by omega) (by omega) (by omega) (by omega) hu
  have cM2 := fun u hu => K.mays p b n a m u (by omega) (by omega) (by omega) (by omega) (by omega) (by omega) (by omega) (by omega) (by omega) (by omega) hu
  have cM3 := fun u hu => K.mays q c k d j u (by omega) (by omega) (by omega) (by omega) (by omega) (by omega) (by omega) (by omega) (by omega) (by omega) hu
  rw [may_back] at cM2
  have cT1 := fun u hu => K.texts p a m b n u hp ha hm hb hn hu
  have cT2 := fun u hu => K.texts q c k d j u hq hc hk hd hj hu
  have cL1 := fun u hu => K.lesses p q a m b n c k d j u (by omega) (by omega) (by omega) (by omega) ha hm hb hn hc hk hd hj hu
  have cL2 := fun u hu => K.lesses q p c k d j a m b n u (by omega) (by omega) (by omega) (by omega) hc hk hd hj ha hm hb hn hu
  have cL3 := fun u hu => K.lesses p p a m b n a m b n u (by omega) (by omega) (by omega) (by omega) ha hm hb hn ha hm hb hn hu
  rw [less_same] at cL3
  have cP := fun u hu => K.parses (ttextL p a m b n) u (ttext_len p a m b n ha hb hm hn) hu
  have cP1 : tmay (p : Int) m n = true → ∀ u : World, Tab u → Calls Tryd.prog 11 #[.string (str (ttextL p a m b n))] u fun e w' => e = .returned (.tuple #[.agg #[.int .u8 (p : Int), .int .u32 (a : Int), .int .u16 (m : Int), .int .u32 (b : Int), .int .u16 (n : Int)], .int .i64 0]) ∧ Below u.heap.size u w' := fun h u hu => by
    have this := cP u hu
    obtain ⟨y1, y2, y3, y4, y5, y6⟩ := tup_some (tup_back ha hm hb hn h)
    rw [y1, y2, y3, y4, y5, y6] at this
    exact this
  have cP0 : tmay (p : Int) m n = false → str (ttextL p a m b n) = ⟨#[]⟩ ∧ (∀ u : World, Tab u → Calls Tryd.prog 11 #[.string (str (ttextL p a m b n))] u fun e w' => e = .returned (.tuple #[.agg #[.int .u8 0, .int .u32 0, .int .u16 0, .int .u32 0, .int .u16 0], .int .i64 3]) ∧ Below u.heap.size u w') := fun h => by
    have e : ttextL p a m b n = [] := by unfold ttextL; rw [if_neg (by rw [h]; decide)]
    refine ⟨by rw [e]; rfl, fun u hu => ?_⟩
    have this := cP u hu
    obtain ⟨y1, y2, y3, y4, y5, y6⟩ := tup_none (l := ttextL p a m b n) (by rw [e]; exact tup_nil)
    rw [y1, y2, y3, y4, y5, y6] at this
    exact this
  clear cP
  have hS : ¬ (p = q ∧ a = c ∧ m = k ∧ b = d ∧ n = j) → tmay (p : Int) m n = true → tmay (q : Int) k j = true → ¬ str (ttextL p a m b n) = str (ttextL q c k d j) := fun h h1 h2 e => h (ttext_inj ha hm hb hn h1 hc hk hd hj h2 (str_inj e))
  by_cases w0 : p = q
  rotate_left
  · have hne : ¬ (p = q ∧ a = c ∧ m = k ∧ b = d ∧ n = j) := fun e => w0 e.1
    rw [less_one p q a m b n c k d j hne] at cL2
    exact back_0 p a m b n q c k d j _ _ _ _ _ K w ht cB1 cB2 cM1 cM2 cT1 cM3 cL1 cL2 cT2 cP1 cP0 w0 (hS hne)
  subst w0
  by_cases w1 : a = c
  rotate_left
  · have hne : ¬ (p = p ∧ a = c ∧ m = k ∧ b = d ∧ n = j) := fun e => w1 e.2.1
    rw [less_one p p a m b n c k d j hne] at cL2
    exact back_1 p a m b n p c k d j _ _ _ _ _ K w ht cB1 cB2 cM1 cM2 cT1 cM3 cL1 cL2 cT2 cP1 cP0 w1 (hS hne)
  subst w1
  by_cases w2 : m = k
  rotate_left
  · have hne : ¬ (p = p ∧ a = a ∧ m = k ∧ b = d ∧ n = j) := fun e => w2 e.2.2.1
    rw [less_one p p a m b n a k d j hne] at cL2
    exact back_2 p a m b n p a k d j _ _ _ _ _ K w ht cB1 cB2 cM1 cM2 cT1 cM3 cL1 cL2 cT2 cP1 cP0 w2 (hS hne)
  subst w2
  by_cases w3 : b = d
  rotate_left
  · have hne : ¬ (p = p ∧ a = a ∧ m = m ∧ b = d ∧ n = j) := fun e => w3 e.2.2.2.1
    rw [less_one p p a m b n a m d j hne] at cL2
    exact back_3 p a m b n p a m d j _ _ _ _ _ K w ht cB1 cB2 cM1 cM2 cT1 cM3 cL1 cL2 cT2 cP1 cP0 w3 (hS hne)
  subst w3
  by_cases w4 : n = j
  rotate_left
  · have hne : ¬ (p = p ∧ a = a ∧ m = m ∧ b = b ∧ n = j) := fun e => w4 e.2.2.2.2
    rw [less_one p p a m b n a m b j hne] at cL2
    exact back_4 p a m b n p a m b j _ _ _ _ _ K w ht cB1 cB2 cM1 cM2 cT1 cM3 cL1 cL2 cT2 cP1 cP0 w4 (hS hne)
  subst w4
  exact back_5 p a m b n p a m b n _ (str (ttextL p a m b n)) _ true true K w ht cB1 cB2 cM1 cM2 cT1 cL3 cP1 cP0
theorem walk_ (K : TupOk) (p a m b n q c k d j : Int) (w : World) (ht : Tab w) (hp : (Lit.int .u8 p).wf = true) (ha : (Lit.int .u32 a).wf = true) (hm : (Lit.int .u16 m).wf = true) (hb : (Lit.int .u32 b).wf = true) (hn : (Lit.int .u16 n).wf = true) (hq : (Lit.int .u8 q).wf = true) (hc : (Lit.int .u32 c).wf = true) (hk : (Lit.int .u16 k).wf = true) (hd : (Lit.int .u32 d).wf = true) (hj : (Lit.int .u16 j).wf = true) :
    Calls Tryd.prog 4 #[.agg #[.int .u8 p, .int .u32 a, .int .u16 m, .int .u32 b, .int .u16 n], .agg #[.int .u8 q, .int .u32 c, .int .u16 k, .int .u32 d, .int .u16 j]] w fun e w' => e = .returned (.bool true) ∧ Below w.heap.size w w' := by
  obtain ⟨p0, p1⟩ := bounds_u8 hp
  obtain ⟨a0, a1⟩ := bounds_u32 ha
  obtain ⟨m0, m1⟩ := bounds_u16 hm
  obtain ⟨b0, b1⟩ := bounds_u32 hb
  obtain ⟨n0, n1⟩ := bounds_u16 hn
  obtain ⟨q0, q1⟩ := bounds_u8 hq
  obtain ⟨c0, c1⟩ := bounds_u32 hc
  obtain ⟨k0, k1⟩ := bounds_u16 hk
  obtain ⟨d0, d1⟩ := bounds_u32 hd
  obtain ⟨j0, j1⟩ := bounds_u16 hj
  have := walkN K p.toNat a.toNat m.toNat b.toNat n.toNat q.toNat c.toNat k.toNat d.toNat j.toNat w ht (by omega) (by omega) (by omega) (by omega) (by omega) (by omega) (by omega) (by omega) (by omega) (by omega)
  rw [Int.toNat_of_nonneg p0, Int.toNat_of_nonneg a0, Int.toNat_of_nonneg m0, Int.toNat_of_nonneg b0, Int.toNat_of_nonneg n0, Int.toNat_of_nonneg q0, Int.toNat_of_nonneg c0, Int.toNat_of_nonneg k0, Int.toNat_of_nonneg d0, Int.toNat_of_nonneg j0] at this
  exact this
end Go.Proofs.YtidkgnanfhdhdaaDoor.TuplesBack
