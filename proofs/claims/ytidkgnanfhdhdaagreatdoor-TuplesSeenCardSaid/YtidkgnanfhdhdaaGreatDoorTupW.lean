/- The law's own 'put' of layer 8. -/
import Derived.Test.YtidkgnanfhdhdaaGreatDoorGc
import Derived.Test.YtidkgnanfhdhdaaGreatDoorGa
import Derived.BigRegion
import Derived.Deep.MidRow
namespace Go.Proofs.YtidkgnanfhdhdaaGreatDoor
set_option linter.unusedVariables false
set_option linter.unusedSimpArgs false
open Go.ChangeShapes Go.WideShapes Go.ChangeAt Go.RowKit Go.PlainAid

/-- A box of 20 cells. -/
def Box20 (w : World) (b : Nat) (v0 v1 v2 v3 v4 v5 v6 v7 v8 v9 v10 v11 v12 v13 v14 v15 v16 v17 v18 v19 : Value) : Prop :=
  b < w.heap.size ∧ w.cell? ⟨b, 0, none⟩ = some v0 ∧ w.cell? ⟨b, 1, none⟩ = some v1 ∧ w.cell? ⟨b, 2, none⟩ = some v2 ∧ w.cell? ⟨b, 3, none⟩ = some v3 ∧ w.cell? ⟨b, 4, none⟩ = some v4 ∧ w.cell? ⟨b, 5, none⟩ = some v5 ∧ w.cell? ⟨b, 6, none⟩ = some v6 ∧ w.cell? ⟨b, 7, none⟩ = some v7 ∧ w.cell? ⟨b, 8, none⟩ = some v8 ∧ w.cell? ⟨b, 9, none⟩ = some v9 ∧ w.cell? ⟨b, 10, none⟩ = some v10 ∧ w.cell? ⟨b, 11, none⟩ = some v11 ∧ w.cell? ⟨b, 12, none⟩ = some v12 ∧ w.cell? ⟨b, 13, none⟩ = some v13 ∧ w.cell? ⟨b, 14, none⟩ = some v14 ∧ w.cell? ⟨b, 15, none⟩ = some v15 ∧ w.cell? ⟨b, 16, none⟩ = some v16 ∧ w.cell? ⟨b, 17, none⟩ = some v17 ∧ w.cell? ⟨b, 18, none⟩ = some v18 ∧ w.cell? ⟨b, 19, none⟩ = some v19
theorem Box20.on {w w' : World} {b : Nat} {v0 v1 v2 v3 v4 v5 v6 v7 v8 v9 v10 v11 v12 v13 v14 v15 v16 v17 v18 v19 : Value} (h : Box20 w b v0 v1 v2 v3 v4 v5 v6 v7 v8 v9 v10 v11 v12 v13 v14 v15 v16 v17 v18 v19) (hb : Below w.heap.size w w') : Box20 w' b v0 v1 v2 v3 v4 v5 v6 v7 v8 v9 v10 v11 v12 v13 v14 v15 v16 v17 v18 v19 := by
  obtain ⟨h, h0, h1, h2, h3, h4, h5, h6, h7, h8, h9, h10, h11, h12, h13, h14, h15, h16, h17, h18, h19⟩ := h
  exact ⟨Nat.lt_of_lt_of_le h hb.size, (hb.cell (p := ⟨b, 0, none⟩) h).trans h0, (hb.cell (p := ⟨b, 1, none⟩) h).trans h1, (hb.cell (p := ⟨b, 2, none⟩) h).trans h2, (hb.cell (p := ⟨b, 3, none⟩) h).trans h3, (hb.cell (p := ⟨b, 4, none⟩) h).trans h4, (hb.cell (p := ⟨b, 5, none⟩) h).trans h5, (hb.cell (p := ⟨b, 6, none⟩) h).trans h6, (hb.cell (p := ⟨b, 7, none⟩) h).trans h7, (hb.cell (p := ⟨b, 8, none⟩) h).trans h8, (hb.cell (p := ⟨b, 9, none⟩) h).trans h9, (hb.cell (p := ⟨b, 10, none⟩) h).trans h10, (hb.cell (p := ⟨b, 11, none⟩) h).trans h11, (hb.cell (p := ⟨b, 12, none⟩) h).trans h12, (hb.cell (p := ⟨b, 13, none⟩) h).trans h13, (hb.cell (p := ⟨b, 14, none⟩) h).trans h14, (hb.cell (p := ⟨b, 15, none⟩) h).trans h15, (hb.cell (p := ⟨b, 16, none⟩) h).trans h16, (hb.cell (p := ⟨b, 17, none⟩) h).trans h17, (hb.cell (p := ⟨b, 18, none⟩) h).trans h18, (hb.cell (p := ⟨b, 19, none⟩) h).trans h19⟩
theorem Box20.make (w : World) (v0 v1 v2 v3 v4 v5 v6 v7 v8 v9 v10 v11 v12 v13 v14 v15 v16 v17 v18 v19 : Value) (t : TypeId) : Box20 (w.alloc (.cells #[v0, v1, v2, v3, v4, v5, v6, v7, v8, v9, v10, v11, v12, v13, v14, v15, v16, v17, v18, v19] t)) w.heap.size v0 v1 v2 v3 v4 v5 v6 v7 v8 v9 v10 v11 v12 v13 v14 v15 v16 v17 v18 v19 :=
  ⟨by simp, by simp [go_sem], by simp [go_sem], by simp [go_sem], by simp [go_sem], by simp [go_sem], by simp [go_sem], by simp [go_sem], by simp [go_sem], by simp [go_sem], by simp [go_sem], by simp [go_sem], by simp [go_sem], by simp [go_sem], by simp [go_sem], by simp [go_sem], by simp [go_sem], by simp [go_sem], by simp [go_sem], by simp [go_sem], by simp [go_sem]⟩
theorem Box20.past {w : World} {o : Obj} {b : Nat} {v0 v1 v2 v3 v4 v5 v6 v7 v8 v9 v10 v11 v12 v13 v14 v15 v16 v17 v18 v19 : Value} (h : Box20 w b v0 v1 v2 v3 v4 v5 v6 v7 v8 v9 v10 v11 v12 v13 v14 v15 v16 v17 v18 v19) : Box20 (w.alloc o) b v0 v1 v2 v3 v4 v5 v6 v7 v8 v9 v10 v11 v12 v13 v14 v15 v16 v17 v18 v19 := h.on ((Below.refl _ _).alloc (Nat.le_refl _) _)
theorem Box20.far {W X : World} {a b : Nat} {v0 v1 v2 v3 v4 v5 v6 v7 v8 v9 v10 v11 v12 v13 v14 v15 v16 v17 v18 v19 : Value} (h : Box20 W a v0 v1 v2 v3 v4 v5 v6 v7 v8 v9 v10 v11 v12 v13 v14 v15 v16 v17 v18 v19) (hf : ∀ p : Addr, ¬ b = p.block → X.cell? p = W.cell? p) (hn : ¬ b = a) : Box20 X a v0 v1 v2 v3 v4 v5 v6 v7 v8 v9 v10 v11 v12 v13 v14 v15 v16 v17 v18 v19 := by
  obtain ⟨h, h0, h1, h2, h3, h4, h5, h6, h7, h8, h9, h10, h11, h12, h13, h14, h15, h16, h17, h18, h19⟩ := h
  have k0 := (hf ⟨a, 0, none⟩ hn).trans h0
  exact ⟨World.block_lt_of_cell? _ _ k0, k0, (hf ⟨a, 1, none⟩ hn).trans h1, (hf ⟨a, 2, none⟩ hn).trans h2, (hf ⟨a, 3, none⟩ hn).trans h3, (hf ⟨a, 4, none⟩ hn).trans h4, (hf ⟨a, 5, none⟩ hn).trans h5, (hf ⟨a, 6, none⟩ hn).trans h6, (hf ⟨a, 7, none⟩ hn).trans h7, (hf ⟨a, 8, none⟩ hn).trans h8, (hf ⟨a, 9, none⟩ hn).trans h9, (hf ⟨a, 10, none⟩ hn).trans h10, (hf ⟨a, 11, none⟩ hn).trans h11, (hf ⟨a, 12, none⟩ hn).trans h12, (hf ⟨a, 13, none⟩ hn).trans h13, (hf ⟨a, 14, none⟩ hn).trans h14, (hf ⟨a, 15, none⟩ hn).trans h15, (hf ⟨a, 16, none⟩ hn).trans h16, (hf ⟨a, 17, none⟩ hn).trans h17, (hf ⟨a, 18, none⟩ hn).trans h18, (hf ⟨a, 19, none⟩ hn).trans h19⟩
theorem Box20.some {W : World} {a : Nat} {v0 v1 v2 v3 v4 v5 v6 v7 v8 v9 v10 v11 v12 v13 v14 v15 v16 v17 v18 v19 : Value} (h : Box20 W a v0 v1 v2 v3 v4 v5 v6 v7 v8 v9 v10 v11 v12 v13 v14 v15 v16 v17 v18 v19) : ∀ j, j < 20 → (W.cell? ⟨a, j, none⟩).isSome = true := by
  obtain ⟨h, h0, h1, h2, h3, h4, h5, h6, h7, h8, h9, h10, h11, h12, h13, h14, h15, h16, h17, h18, h19⟩ := h
  intro j hj
  match j, hj with
  | 0, _ => rw [h0]; rfl
  | 1, _ => rw [h1]; rfl
  | 2, _ => rw [h2]; rfl
  | 3, _ => rw [h3]; rfl
  | 4, _ => rw [h4]; rfl
  | 5, _ => rw [h5]; rfl
  | 6, _ => rw [h6]; rfl
  | 7, _ => rw [h7]; rfl
  | 8, _ => rw [h8]; rfl
  | 9, _ => rw [h9]; rfl
  | 10, _ => rw [h10]; rfl
  | 11, _ => rw [h11]; rfl
  | 12, _ => rw [h12]; rfl
  | 13, _ => rw [h13]; rfl
  | 14, _ => rw [h14]; rfl
  | 15, _ => rw [h15]; rfl
  | 16, _ => rw [h16]; rfl
  | 17, _ => rw [h17]; rfl
  | 18, _ => rw [h18]; rfl
  | 19, _ => rw [h19]; rfl
  | k + 20, hk => exact absurd hk (by omega)

set_option maxRecDepth 100000 in
theorem range20 {w : World} {b : Nat} {v0 v1 v2 v3 v4 v5 v6 v7 v8 v9 v10 v11 v12 v13 v14 v15 v16 v17 v18 v19 : Value} (h : Box20 w b v0 v1 v2 v3 v4 v5 v6 v7 v8 v9 v10 v11 v12 v13 v14 v15 v16 v17 v18 v19) : w.rangeAt b 0 [v0, v1, v2, v3, v4, v5, v6, v7, v8, v9, v10, v11, v12, v13, v14, v15, v16, v17, v18, v19] := by
  obtain ⟨_, h0, h1, h2, h3, h4, h5, h6, h7, h8, h9, h10, h11, h12, h13, h14, h15, h16, h17, h18, h19⟩ := h
  intro j v hj
  match j, hj with
  | 0, hj =>
    have e : v0 = v := by simpa using hj
    subst e; exact h0
  | 1, hj =>
    have e : v1 = v := by simpa using hj
    subst e; exact h1
  | 2, hj =>
    have e : v2 = v := by simpa using hj
    subst e; exact h2
  | 3, hj =>
    have e : v3 = v := by simpa using hj
    subst e; exact h3
  | 4, hj =>
    have e : v4 = v := by simpa using hj
    subst e; exact h4
  | 5, hj =>
    have e : v5 = v := by simpa using hj
    subst e; exact h5
  | 6, hj =>
    have e : v6 = v := by simpa using hj
    subst e; exact h6
  | 7, hj =>
    have e : v7 = v := by simpa using hj
    subst e; exact h7
  | 8, hj =>
    have e : v8 = v := by simpa using hj
    subst e; exact h8
  | 9, hj =>
    have e : v9 = v := by simpa using hj
    subst e; exact h9
  | 10, hj =>
    have e : v10 = v := by simpa using hj
    subst e; exact h10
  | 11, hj =>
    have e : v11 = v := by simpa using hj
    subst e; exact h11
  | 12, hj =>
    have e : v12 = v := by simpa using hj
    subst e; exact h12
  | 13, hj =>
    have e : v13 = v := by simpa using hj
    subst e; exact h13
  | 14, hj =>
    have e : v14 = v := by simpa using hj
    subst e; exact h14
  | 15, hj =>
    have e : v15 = v := by simpa using hj
    subst e; exact h15
  | 16, hj =>
    have e : v16 = v := by simpa using hj
    subst e; exact h16
  | 17, hj =>
    have e : v17 = v := by simpa using hj
    subst e; exact h17
  | 18, hj =>
    have e : v18 = v := by simpa using hj
    subst e; exact h18
  | 19, hj =>
    have e : v19 = v := by simpa using hj
    subst e; exact h19
  | k + 20, hj => simp at hj
attribute [local go_sem ↓] Go.wp_at_zero Go.wp_at_succ
set_option maxHeartbeats 8000000 in
set_option maxRecDepth 100000 in
theorem lput_tcp (a m b n h0 h1 h3 h4 h5 h6 g0 g1 g2 g3 g4 g5 g6 g7 g8 ty : Int) (h2 : Bool) (h7 g9 dd L S : ByteArray) (ee : Int) (cL : ∀ u : World, Calls Tryz.prog 45 #[.agg #[.int .u16 m, .int .u16 n, .int .u32 g2, .int .u32 g3, .int .u8 g4, .int .u8 g5, .int .u16 g6, .int .u16 g7, .int .u16 g8, .string g9], .string dd] u fun e w' => e = .returned (.tuple #[.string L, .int .i64 ee]) ∧ Below u.heap.size u w') (f : Int) (cI : ∀ u : World, Calls Tryz.prog 49 #[.agg #[.int .u8 h0, .int .u16 h1, .bool h2, .int .u8 h3, .int .u8 6, .int .u32 a, .int .u32 b, .string h7], .string L] u fun e w' => e = .returned (.tuple #[.string S, .int .i64 f]) ∧ Below u.heap.size u w') (w : World) :
    Calls Tryz.prog 19 #[.agg #[.int .u8 6, .int .u32 a, .int .u16 m, .int .u32 b, .int .u16 n], .agg #[.int .u8 h0, .int .u16 h1, .bool h2, .int .u8 h3, .int .u8 h4, .int .u32 h5, .int .u32 h6, .string h7, .int .u16 g0, .int .u16 g1, .int .u32 g2, .int .u32 g3, .int .u8 g4, .int .u8 g5, .int .u16 g6, .int .u16 g7, .int .u16 g8, .string g9, .int .u8 ty, .string dd]] w fun e w' => e = .returned (.tuple #[.string S, .bool ((ee == 0) && (f == 0))]) ∧ Below w.heap.size w w' := by
  obtain ⟨y, ey⟩ : ∃ y, (f == 0) = y := ⟨_, rfl⟩
  rw [ey]
  obtain ⟨x, ex⟩ : ∃ x, (ee == 0) = x := ⟨_, rfl⟩
  rw [ex]
  go_enter Tryz.func19, Tryz.ntmps19
  have B1 := Below.refl w.heap.size w
  go_wp2_with fail
  have T_2 := Box5.make w (.int .u8 6) (.int .u32 a) (.int .u16 m) (.int .u32 b) (.int .u16 n) 29
  have B3 := B1.alloc B1.size (.cells #[.int .u8 6, .int .u32 a, .int .u16 m, .int .u32 b, .int .u16 n] 29)
  clear B1
  have T_4 := T_2.past (o := (.cells #[.int .u8 h0, .int .u16 h1, .bool h2, .int .u8 h3, .int .u8 h4, .int .u32 h5, .int .u32 h6, .string h7, .int .u16 g0, .int .u16 g1, .int .u32 g2, .int .u32 g3, .int .u8 g4, .int .u8 g5, .int .u16 g6, .int .u16 g7, .int .u16 g8, .string g9, .int .u8 ty, .string dd] 51))
  have hs_ : (w.alloc (.cells #[.int .u8 6, .int .u32 a, .int .u16 m, .int .u32 b, .int .u16 n] 29)).heap.size = w.heap.size + 1 := by simp
  have D_5 := Box20.make (w.alloc (.cells #[.int .u8 6, .int .u32 a, .int .u16 m, .int .u32 b, .int .u16 n] 29)) (.int .u8 h0) (.int .u16 h1) (.bool h2) (.int .u8 h3) (.int .u8 h4) (.int .u32 h5) (.int .u32 h6) (.string h7) (.int .u16 g0) (.int .u16 g1) (.int .u32 g2) (.int .u32 g3) (.int .u8 g4) (.int .u8 g5) (.int .u16 g6) (.int .u16 g7) (.int .u16 g8) (.string g9) (.int .u8 ty) (.string dd) 51
  rw [hs_] at D_5
  clear hs_
  have B6 := B3.alloc B3.size (.cells #[.int .u8 h0, .int .u16 h1, .bool h2, .int .u8 h3, .int .u8 h4, .int .u32 h5, .int .u32 h6, .string h7, .int .u16 g0, .int .u16 g1, .int .u32 g2, .int .u32 g3, .int .u8 g4, .int .u8 g5, .int .u16 g6, .int .u16 g7, .int .u16 g8, .string g9, .int .u8 ty, .string dd] 51)
  clear T_2 B3
  have fzD_7 : ∀ i, ((w.alloc (.cells #[.int .u8 6, .int .u32 a, .int .u16 m, .int .u32 b, .int .u16 n] 29)).alloc (.cells #[.int .u8 h0, .int .u16 h1, .bool h2, .int .u8 h3, .int .u8 h4, .int .u32 h5, .int .u32 h6, .string h7, .int .u16 g0, .int .u16 g1, .int .u32 g2, .int .u32 g3, .int .u8 g4, .int .u8 g5, .int .u16 g6, .int .u16 g7, .int .u16 g8, .string g9, .int .u8 ty, .string dd] 51)).frozen? ⟨(w.heap.size + 1), i, none⟩ = false := by intro i; simp [go_sem]
  obtain ⟨u1, hu1⟩ : ∃ x, x = (w.alloc (.cells #[.int .u8 6, .int .u32 a, .int .u16 m, .int .u32 b, .int .u16 n] 29)).alloc (.cells #[.int .u8 h0, .int .u16 h1, .bool h2, .int .u8 h3, .int .u8 h4, .int .u32 h5, .int .u32 h6, .string h7, .int .u16 g0, .int .u16 g1, .int .u32 g2, .int .u32 g3, .int .u8 g4, .int .u8 g5, .int .u16 g6, .int .u16 g7, .int .u16 g8, .string g9, .int .u8 ty, .string dd] 51) := ⟨_, rfl⟩
  rw [← hu1] at T_4 D_5 fzD_7 B6 ⊢
  clear hu1
  have ne1_ : ¬ w.heap.size + 1 = w.heap.size := by omega
  have ne2_ : ¬ w.heap.size = w.heap.size + 1 := by omega
  obtain ⟨_, t1_0, t1_1, t1_2, t1_3, t1_4⟩ := id T_4
  obtain ⟨_, d2_0, d2_1, d2_2, d2_3, d2_4, d2_5, d2_6, d2_7, d2_8, d2_9, d2_10, d2_11, d2_12, d2_13, d2_14, d2_15, d2_16, d2_17, d2_18, d2_19⟩ := id D_5
  go_region
  clear t1_0 t1_1 t1_2 t1_3 t1_4 d2_0 d2_1 d2_2 d2_3 d2_4 d2_5 d2_6 d2_7 d2_8 d2_9 d2_10 d2_11 d2_12 d2_13 d2_14 d2_15 d2_16 d2_17 d2_18 d2_19
  obtain ⟨_, t3_0, t3_1, t3_2, t3_3, t3_4⟩ := id T_4
  obtain ⟨_, d4_0, d4_1, d4_2, d4_3, d4_4, d4_5, d4_6, d4_7, d4_8, d4_9, d4_10, d4_11, d4_12, d4_13, d4_14, d4_15, d4_16, d4_17, d4_18, d4_19⟩ := id D_5
  have B8 := (((B6.setCell (p := ⟨(w.heap.size + 1), 4, none⟩) (by show w.heap.size ≤ w.heap.size + 1; omega) (.int .u8 6)).setCell (p := ⟨(w.heap.size + 1), 5, none⟩) (by show w.heap.size ≤ w.heap.size + 1; omega) (.int .u32 a)).setCell (p := ⟨(w.heap.size + 1), 6, none⟩) (by show w.heap.size ≤ w.heap.size + 1; omega) (.int .u32 b)).drew
  have T_9 : Box5 (((u1.setCell ⟨(w.heap.size + 1), 4, none⟩ (.int .u8 6)).setCell ⟨(w.heap.size + 1), 5, none⟩ (.int .u32 a)).setCell ⟨(w.heap.size + 1), 6, none⟩ (.int .u32 b)).drew w.heap.size (.int .u8 6) (.int .u32 a) (.int .u16 m) (.int .u32 b) (.int .u16 n) := ⟨by have := T_4.1; simpa using this, by simp [go_sem, t3_0, t3_1, t3_2, t3_3, t3_4, d4_0, d4_1, d4_2, d4_3, d4_4, d4_5, d4_6, d4_7, d4_8, d4_9, d4_10, d4_11, d4_12, d4_13, d4_14, d4_15, d4_16, d4_17, d4_18, d4_19], by simp [go_sem, t3_0, t3_1, t3_2, t3_3, t3_4, d4_0, d4_1, d4_2, d4_3, d4_4, d4_5, d4_6, d4_7, d4_8, d4_9, d4_10, d4_11, d4_12, d4_13, d4_14, d4_15, d4_16, d4_17, d4_18, d4_19], by simp [go_sem, t3_0, t3_1, t3_2, t3_3, t3_4, d4_0, d4_1, d4_2, d4_3, d4_4, d4_5, d4_6, d4_7, d4_8, d4_9, d4_10, d4_11, d4_12, d4_13, d4_14, d4_15, d4_16, d4_17, d4_18, d4_19], by simp [go_sem, t3_0, t3_1, t3_2, t3_3, t3_4, d4_0, d4_1, d4_2, d4_3, d4_4, d4_5, d4_6, d4_7, d4_8, d4_9, d4_10, d4_11, d4_12, d4_13, d4_14, d4_15, d4_16, d4_17, d4_18, d4_19], by simp [go_sem, t3_0, t3_1, t3_2, t3_3, t3_4, d4_0, d4_1, d4_2, d4_3, d4_4, d4_5, d4_6, d4_7, d4_8, d4_9, d4_10, d4_11, d4_12, d4_13, d4_14, d4_15, d4_16, d4_17, d4_18, d4_19]⟩
  have D_10 : Box20 (((u1.setCell ⟨(w.heap.size + 1), 4, none⟩ (.int .u8 6)).setCell ⟨(w.heap.size + 1), 5, none⟩ (.int .u32 a)).setCell ⟨(w.heap.size + 1), 6, none⟩ (.int .u32 b)).drew (w.heap.size + 1) (.int .u8 h0) (.int .u16 h1) (.bool h2) (.int .u8 h3) (.int .u8 6) (.int .u32 a) (.int .u32 b) (.string h7) (.int .u16 g0) (.int .u16 g1) (.int .u32 g2) (.int .u32 g3) (.int .u8 g4) (.int .u8 g5) (.int .u16 g6) (.int .u16 g7) (.int .u16 g8) (.string g9) (.int .u8 ty) (.string dd) := ⟨by have := D_5.1; simpa using this, by simp [go_sem, t3_0, t3_1, t3_2, t3_3, t3_4, d4_0, d4_1, d4_2, d4_3, d4_4, d4_5, d4_6, d4_7, d4_8, d4_9, d4_10, d4_11, d4_12, d4_13, d4_14, d4_15, d4_16, d4_17, d4_18, d4_19], by simp [go_sem, t3_0, t3_1, t3_2, t3_3, t3_4, d4_0, d4_1, d4_2, d4_3, d4_4, d4_5, d4_6, d4_7, d4_8, d4_9, d4_10, d4_11, d4_12, d4_13, d4_14, d4_15, d4_16, d4_17, d4_18, d4_19], by simp [go_sem, t3_0, t3_1, t3_2, t3_3, t3_4, d4_0, d4_1, d4_2, d4_3, d4_4, d4_5, d4_6, d4_7, d4_8, d4_9, d4_10, d4_11, d4_12, d4_13, d4_14, d4_15, d4_16, d4_17, d4_18, d4_19], by simp [go_sem, t3_0, t3_1, t3_2, t3_3, t3_4, d4_0, d4_1, d4_2, d4_3, d4_4, d4_5, d4_6, d4_7, d4_8, d4_9, d4_10, d4_11, d4_12, d4_13, d4_14, d4_15, d4_16, d4_17, d4_18, d4_19], by simp [go_sem, t3_0, t3_1, t3_2, t3_3, t3_4, d4_0, d4_1, d4_2, d4_3, d4_4, d4_5, d4_6, d4_7, d4_8, d4_9, d4_10, d4_11, d4_12, d4_13, d4_14, d4_15, d4_16, d4_17, d4_18, d4_19], by simp [go_sem, t3_0, t3_1, t3_2, t3_3, t3_4, d4_0, d4_1, d4_2, d4_3, d4_4, d4_5, d4_6, d4_7, d4_8, d4_9, d4_10, d4_11, d4_12, d4_13, d4_14, d4_15, d4_16, d4_17, d4_18, d4_19], by simp [go_sem, t3_0, t3_1, t3_2, t3_3, t3_4, d4_0, d4_1, d4_2, d4_3, d4_4, d4_5, d4_6, d4_7, d4_8, d4_9, d4_10, d4_11, d4_12, d4_13, d4_14, d4_15, d4_16, d4_17, d4_18, d4_19], by simp [go_sem, t3_0, t3_1, t3_2, t3_3, t3_4, d4_0, d4_1, d4_2, d4_3, d4_4, d4_5, d4_6, d4_7, d4_8, d4_9, d4_10, d4_11, d4_12, d4_13, d4_14, d4_15, d4_16, d4_17, d4_18, d4_19], by simp [go_sem, t3_0, t3_1, t3_2, t3_3, t3_4, d4_0, d4_1, d4_2, d4_3, d4_4, d4_5, d4_6, d4_7, d4_8, d4_9, d4_10, d4_11, d4_12, d4_13, d4_14, d4_15, d4_16, d4_17, d4_18, d4_19], by simp [go_sem, t3_0, t3_1, t3_2, t3_3, t3_4, d4_0, d4_1, d4_2, d4_3, d4_4, d4_5, d4_6, d4_7, d4_8, d4_9, d4_10, d4_11, d4_12, d4_13, d4_14, d4_15, d4_16, d4_17, d4_18, d4_19], by simp [go_sem, t3_0, t3_1, t3_2, t3_3, t3_4, d4_0, d4_1, d4_2, d4_3, d4_4, d4_5, d4_6, d4_7, d4_8, d4_9, d4_10, d4_11, d4_12, d4_13, d4_14, d4_15, d4_16, d4_17, d4_18, d4_19], by simp [go_sem, t3_0, t3_1, t3_2, t3_3, t3_4, d4_0, d4_1, d4_2, d4_3, d4_4, d4_5, d4_6, d4_7, d4_8, d4_9, d4_10, d4_11, d4_12, d4_13, d4_14, d4_15, d4_16, d4_17, d4_18, d4_19], by simp [go_sem, t3_0, t3_1, t3_2, t3_3, t3_4, d4_0, d4_1, d4_2, d4_3, d4_4, d4_5, d4_6, d4_7, d4_8, d4_9, d4_10, d4_11, d4_12, d4_13, d4_14, d4_15, d4_16, d4_17, d4_18, d4_19], by simp [go_sem, t3_0, t3_1, t3_2, t3_3, t3_4, d4_0, d4_1, d4_2, d4_3, d4_4, d4_5, d4_6, d4_7, d4_8, d4_9, d4_10, d4_11, d4_12, d4_13, d4_14, d4_15, d4_16, d4_17, d4_18, d4_19], by simp [go_sem, t3_0, t3_1, t3_2, t3_3, t3_4, d4_0, d4_1, d4_2, d4_3, d4_4, d4_5, d4_6, d4_7, d4_8, d4_9, d4_10, d4_11, d4_12, d4_13, d4_14, d4_15, d4_16, d4_17, d4_18, d4_19], by simp [go_sem, t3_0, t3_1, t3_2, t3_3, t3_4, d4_0, d4_1, d4_2, d4_3, d4_4, d4_5, d4_6, d4_7, d4_8, d4_9, d4_10, d4_11, d4_12, d4_13, d4_14, d4_15, d4_16, d4_17, d4_18, d4_19], by simp [go_sem, t3_0, t3_1, t3_2, t3_3, t3_4, d4_0, d4_1, d4_2, d4_3, d4_4, d4_5, d4_6, d4_7, d4_8, d4_9, d4_10, d4_11, d4_12, d4_13, d4_14, d4_15, d4_16, d4_17, d4_18, d4_19], by simp [go_sem, t3_0, t3_1, t3_2, t3_3, t3_4, d4_0, d4_1, d4_2, d4_3, d4_4, d4_5, d4_6, d4_7, d4_8, d4_9, d4_10, d4_11, d4_12, d4_13, d4_14, d4_15, d4_16, d4_17, d4_18, d4_19], by simp [go_sem, t3_0, t3_1, t3_2, t3_3, t3_4, d4_0, d4_1, d4_2, d4_3, d4_4, d4_5, d4_6, d4_7, d4_8, d4_9, d4_10, d4_11, d4_12, d4_13, d4_14, d4_15, d4_16, d4_17, d4_18, d4_19], by simp [go_sem, t3_0, t3_1, t3_2, t3_3, t3_4, d4_0, d4_1, d4_2, d4_3, d4_4, d4_5, d4_6, d4_7, d4_8, d4_9, d4_10, d4_11, d4_12, d4_13, d4_14, d4_15, d4_16, d4_17, d4_18, d4_19]⟩
  have fzD_11 : ∀ i, (((u1.setCell ⟨(w.heap.size + 1), 4, none⟩ (.int .u8 6)).setCell ⟨(w.heap.size + 1), 5, none⟩ (.int .u32 a)).setCell ⟨(w.heap.size + 1), 6, none⟩ (.int .u32 b)).drew.frozen? ⟨(w.heap.size + 1), i, none⟩ = false := by intro i; simp [fzD_7]
  clear t3_0 t3_1 t3_2 t3_3 t3_4 d4_0 d4_1 d4_2 d4_3 d4_4 d4_5 d4_6 d4_7 d4_8 d4_9 d4_10 d4_11 d4_12 d4_13 d4_14 d4_15 d4_16 d4_17 d4_18 d4_19 T_4 D_5 fzD_7 B6
  obtain ⟨u2, hu2⟩ : ∃ x, x = (((u1.setCell ⟨(w.heap.size + 1), 4, none⟩ (.int .u8 6)).setCell ⟨(w.heap.size + 1), 5, none⟩ (.int .u32 a)).setCell ⟨(w.heap.size + 1), 6, none⟩ (.int .u32 b)).drew := ⟨_, rfl⟩
  rw [← hu2] at T_9 D_10 fzD_11 B8 ⊢
  clear hu2
  obtain ⟨_, t5_0, t5_1, t5_2, t5_3, t5_4⟩ := id T_9
  obtain ⟨_, d6_0, d6_1, d6_2, d6_3, d6_4, d6_5, d6_6, d6_7, d6_8, d6_9, d6_10, d6_11, d6_12, d6_13, d6_14, d6_15, d6_16, d6_17, d6_18, d6_19⟩ := id D_10
  go_wp2_with fail
  go_region
  clear t5_0 t5_1 t5_2 t5_3 t5_4 d6_0 d6_1 d6_2 d6_3 d6_4 d6_5 d6_6 d6_7 d6_8 d6_9 d6_10 d6_11 d6_12 d6_13 d6_14 d6_15 d6_16 d6_17 d6_18 d6_19
  obtain ⟨_, t7_0, t7_1, t7_2, t7_3, t7_4⟩ := id T_9
  obtain ⟨_, d8_0, d8_1, d8_2, d8_3, d8_4, d8_5, d8_6, d8_7, d8_8, d8_9, d8_10, d8_11, d8_12, d8_13, d8_14, d8_15, d8_16, d8_17, d8_18, d8_19⟩ := id D_10
  have B12 := ((B8.setCell (p := ⟨(w.heap.size + 1), 8, none⟩) (by show w.heap.size ≤ w.heap.size + 1; omega) (.int .u16 m)).setCell (p := ⟨(w.heap.size + 1), 9, none⟩) (by show w.heap.size ≤ w.heap.size + 1; omega) (.int .u16 n)).drew
  have T_13 : Box5 ((u2.setCell ⟨(w.heap.size + 1), 8, none⟩ (.int .u16 m)).setCell ⟨(w.heap.size + 1), 9, none⟩ (.int .u16 n)).drew w.heap.size (.int .u8 6) (.int .u32 a) (.int .u16 m) (.int .u32 b) (.int .u16 n) := ⟨by have := T_9.1; simpa using this, by simp [go_sem, t7_0, t7_1, t7_2, t7_3, t7_4, d8_0, d8_1, d8_2, d8_3, d8_4, d8_5, d8_6, d8_7, d8_8, d8_9, d8_10, d8_11, d8_12, d8_13, d8_14, d8_15, d8_16, d8_17, d8_18, d8_19], by simp [go_sem, t7_0, t7_1, t7_2, t7_3, t7_4, d8_0, d8_1, d8_2, d8_3, d8_4, d8_5, d8_6, d8_7, d8_8, d8_9, d8_10, d8_11, d8_12, d8_13, d8_14, d8_15, d8_16, d8_17, d8_18, d8_19], by simp [go_sem, t7_0, t7_1, t7_2, t7_3, t7_4, d8_0, d8_1, d8_2, d8_3, d8_4, d8_5, d8_6, d8_7, d8_8, d8_9, d8_10, d8_11, d8_12, d8_13, d8_14, d8_15, d8_16, d8_17, d8_18, d8_19], by simp [go_sem, t7_0, t7_1, t7_2, t7_3, t7_4, d8_0, d8_1, d8_2, d8_3, d8_4, d8_5, d8_6, d8_7, d8_8, d8_9, d8_10, d8_11, d8_12, d8_13, d8_14, d8_15, d8_16, d8_17, d8_18, d8_19], by simp [go_sem, t7_0, t7_1, t7_2, t7_3, t7_4, d8_0, d8_1, d8_2, d8_3, d8_4, d8_5, d8_6, d8_7, d8_8, d8_9, d8_10, d8_11, d8_12, d8_13, d8_14, d8_15, d8_16, d8_17, d8_18, d8_19]⟩
  have D_14 : Box20 ((u2.setCell ⟨(w.heap.size + 1), 8, none⟩ (.int .u16 m)).setCell ⟨(w.heap.size + 1), 9, none⟩ (.int .u16 n)).drew (w.heap.size + 1) (.int .u8 h0) (.int .u16 h1) (.bool h2) (.int .u8 h3) (.int .u8 6) (.int .u32 a) (.int .u32 b) (.string h7) (.int .u16 m) (.int .u16 n) (.int .u32 g2) (.int .u32 g3) (.int .u8 g4) (.int .u8 g5) (.int .u16 g6) (.int .u16 g7) (.int .u16 g8) (.string g9) (.int .u8 ty) (.string dd) := ⟨by have := D_10.1; simpa using this, by simp [go_sem, t7_0, t7_1, t7_2, t7_3, t7_4, d8_0, d8_1, d8_2, d8_3, d8_4, d8_5, d8_6, d8_7, d8_8, d8_9, d8_10, d8_11, d8_12, d8_13, d8_14, d8_15, d8_16, d8_17, d8_18, d8_19], by simp [go_sem, t7_0, t7_1, t7_2, t7_3, t7_4, d8_0, d8_1, d8_2, d8_3, d8_4, d8_5, d8_6, d8_7, d8_8, d8_9, d8_10, d8_11, d8_12, d8_13, d8_14, d8_15, d8_16, d8_17, d8_18, d8_19], by simp [go_sem, t7_0, t7_1, t7_2, t7_3, t7_4, d8_0, d8_1, d8_2, d8_3, d8_4, d8_5, d8_6, d8_7, d8_8, d8_9, d8_10, d8_11, d8_12, d8_13, d8_14, d8_15, d8_16, d8_17, d8_18, d8_19], by simp [go_sem, t7_0, t7_1, t7_2, t7_3, t7_4, d8_0, d8_1, d8_2, d8_3, d8_4, d8_5, d8_6, d8_7, d8_8, d8_9, d8_10, d8_11, d8_12, d8_13, d8_14, d8_15, d8_16, d8_17, d8_18, d8_19], by simp [go_sem, t7_0, t7_1, t7_2, t7_3, t7_4, d8_0, d8_1, d8_2, d8_3, d8_4, d8_5, d8_6, d8_7, d8_8, d8_9, d8_10, d8_11, d8_12, d8_13, d8_14, d8_15, d8_16, d8_17, d8_18, d8_19], by simp [go_sem, t7_0, t7_1, t7_2, t7_3, t7_4, d8_0, d8_1, d8_2, d8_3, d8_4, d8_5, d8_6, d8_7, d8_8, d8_9, d8_10, d8_11, d8_12, d8_13, d8_14, d8_15, d8_16, d8_17, d8_18, d8_19], by simp [go_sem, t7_0, t7_1, t7_2, t7_3, t7_4, d8_0, d8_1, d8_2, d8_3, d8_4, d8_5, d8_6, d8_7, d8_8, d8_9, d8_10, d8_11, d8_12, d8_13, d8_14, d8_15, d8_16, d8_17, d8_18, d8_19], by simp [go_sem, t7_0, t7_1, t7_2, t7_3, t7_4, d8_0, d8_1, d8_2, d8_3, d8_4, d8_5, d8_6, d8_7, d8_8, d8_9, d8_10, d8_11, d8_12, d8_13, d8_14, d8_15, d8_16, d8_17, d8_18, d8_19], by simp [go_sem, t7_0, t7_1, t7_2, t7_3, t7_4, d8_0, d8_1, d8_2, d8_3, d8_4, d8_5, d8_6, d8_7, d8_8, d8_9, d8_10, d8_11, d8_12, d8_13, d8_14, d8_15, d8_16, d8_17, d8_18, d8_19], by simp [go_sem, t7_0, t7_1, t7_2, t7_3, t7_4, d8_0, d8_1, d8_2, d8_3, d8_4, d8_5, d8_6, d8_7, d8_8, d8_9, d8_10, d8_11, d8_12, d8_13, d8_14, d8_15, d8_16, d8_17, d8_18, d8_19], by simp [go_sem, t7_0, t7_1, t7_2, t7_3, t7_4, d8_0, d8_1, d8_2, d8_3, d8_4, d8_5, d8_6, d8_7, d8_8, d8_9, d8_10, d8_11, d8_12, d8_13, d8_14, d8_15, d8_16, d8_17, d8_18, d8_19], by simp [go_sem, t7_0, t7_1, t7_2, t7_3, t7_4, d8_0, d8_1, d8_2, d8_3, d8_4, d8_5, d8_6, d8_7, d8_8, d8_9, d8_10, d8_11, d8_12, d8_13, d8_14, d8_15, d8_16, d8_17, d8_18, d8_19], by simp [go_sem, t7_0, t7_1, t7_2, t7_3, t7_4, d8_0, d8_1, d8_2, d8_3, d8_4, d8_5, d8_6, d8_7, d8_8, d8_9, d8_10, d8_11, d8_12, d8_13, d8_14, d8_15, d8_16, d8_17, d8_18, d8_19], by simp [go_sem, t7_0, t7_1, t7_2, t7_3, t7_4, d8_0, d8_1, d8_2, d8_3, d8_4, d8_5, d8_6, d8_7, d8_8, d8_9, d8_10, d8_11, d8_12, d8_13, d8_14, d8_15, d8_16, d8_17, d8_18, d8_19], by simp [go_sem, t7_0, t7_1, t7_2, t7_3, t7_4, d8_0, d8_1, d8_2, d8_3, d8_4, d8_5, d8_6, d8_7, d8_8, d8_9, d8_10, d8_11, d8_12, d8_13, d8_14, d8_15, d8_16, d8_17, d8_18, d8_19], by simp [go_sem, t7_0, t7_1, t7_2, t7_3, t7_4, d8_0, d8_1, d8_2, d8_3, d8_4, d8_5, d8_6, d8_7, d8_8, d8_9, d8_10, d8_11, d8_12, d8_13, d8_14, d8_15, d8_16, d8_17, d8_18, d8_19], by simp [go_sem, t7_0, t7_1, t7_2, t7_3, t7_4, d8_0, d8_1, d8_2, d8_3, d8_4, d8_5, d8_6, d8_7, d8_8, d8_9, d8_10, d8_11, d8_12, d8_13, d8_14, d8_15, d8_16, d8_17, d8_18, d8_19], by simp [go_sem, t7_0, t7_1, t7_2, t7_3, t7_4, d8_0, d8_1, d8_2, d8_3, d8_4, d8_5, d8_6, d8_7, d8_8, d8_9, d8_10, d8_11, d8_12, d8_13, d8_14, d8_15, d8_16, d8_17, d8_18, d8_19], by simp [go_sem, t7_0, t7_1, t7_2, t7_3, t7_4, d8_0, d8_1, d8_2, d8_3, d8_4, d8_5, d8_6, d8_7, d8_8, d8_9, d8_10, d8_11, d8_12, d8_13, d8_14, d8_15, d8_16, d8_17, d8_18, d8_19], by simp [go_sem, t7_0, t7_1, t7_2, t7_3, t7_4, d8_0, d8_1, d8_2, d8_3, d8_4, d8_5, d8_6, d8_7, d8_8, d8_9, d8_10, d8_11, d8_12, d8_13, d8_14, d8_15, d8_16, d8_17, d8_18, d8_19]⟩
  have fzD_15 : ∀ i, ((u2.setCell ⟨(w.heap.size + 1), 8, none⟩ (.int .u16 m)).setCell ⟨(w.heap.size + 1), 9, none⟩ (.int .u16 n)).drew.frozen? ⟨(w.heap.size + 1), i, none⟩ = false := by intro i; simp [fzD_11]
  clear t7_0 t7_1 t7_2 t7_3 t7_4 d8_0 d8_1 d8_2 d8_3 d8_4 d8_5 d8_6 d8_7 d8_8 d8_9 d8_10 d8_11 d8_12 d8_13 d8_14 d8_15 d8_16 d8_17 d8_18 d8_19 T_9 D_10 fzD_11 B8
  obtain ⟨u3, hu3⟩ : ∃ x, x = ((u2.setCell ⟨(w.heap.size + 1), 8, none⟩ (.int .u16 m)).setCell ⟨(w.heap.size + 1), 9, none⟩ (.int .u16 n)).drew := ⟨_, rfl⟩
  rw [← hu3] at T_13 D_14 fzD_15 B12 ⊢
  clear hu3
  obtain ⟨_, d9_0, d9_1, d9_2, d9_3, d9_4, d9_5, d9_6, d9_7, d9_8, d9_9, d9_10, d9_11, d9_12, d9_13, d9_14, d9_15, d9_16, d9_17, d9_18, d9_19⟩ := id D_14
  go_wp2_with fail
  refine (cL _).mono ?_; rintro e w4 ⟨rfl, x4⟩
  have fzD_16 : ∀ i, w4.frozen? ⟨(w.heap.size + 1), i, none⟩ = false := fun i => (x4.frozen (p := ⟨_, i, none⟩) D_14.1).trans (fzD_15 i)
  clear fzD_15
  have T_17 := T_13.on x4
  have D_18 := D_14.on x4
  have B19 := B12.trans (x4.mono B12.size)
  clear d9_0 d9_1 d9_2 d9_3 d9_4 d9_5 d9_6 d9_7 d9_8 d9_9 d9_10 d9_11 d9_12 d9_13 d9_14 d9_15 d9_16 d9_17 d9_18 d9_19 T_13 D_14 B12 x4
  clear cL
  obtain ⟨_, d10_0, d10_1, d10_2, d10_3, d10_4, d10_5, d10_6, d10_7, d10_8, d10_9, d10_10, d10_11, d10_12, d10_13, d10_14, d10_15, d10_16, d10_17, d10_18, d10_19⟩ := id D_18
  go_wp2_with fail
  refine (cI _).mono ?_; rintro e w5 ⟨rfl, x5⟩
  have fzD_20 : ∀ i, w5.frozen? ⟨(w.heap.size + 1), i, none⟩ = false := fun i => (x5.frozen (p := ⟨_, i, none⟩) D_18.1).trans (fzD_16 i)
  clear fzD_16
  have T_21 := T_17.on x5
  have D_22 := D_18.on x5
  have B23 := B19.trans (x5.mono B19.size)
  clear d10_0 d10_1 d10_2 d10_3 d10_4 d10_5 d10_6 d10_7 d10_8 d10_9 d10_10 d10_11 d10_12 d10_13 d10_14 d10_15 d10_16 d10_17 d10_18 d10_19 T_17 D_18 B19 x5
  clear cI
  cases x
  all_goals
    go_wp2
    go_ret2
    exact ⟨rfl, B23⟩
set_option maxHeartbeats 8000000 in
set_option maxRecDepth 100000 in
theorem lput_udp (a m b n h0 h1 h3 h4 h5 h6 g0 g1 g2 g3 g4 g5 g6 g7 g8 ty : Int) (h2 : Bool) (h7 g9 dd L S : ByteArray) (cL : ∀ u : World, Calls Tryz.prog 46 #[.agg #[.int .u16 m, .int .u16 n, .int .u16 0, .int .u16 g7], .string dd] u fun e w' => e = .returned (.string L) ∧ Below u.heap.size u w') (f : Int) (cI : ∀ u : World, Calls Tryz.prog 49 #[.agg #[.int .u8 h0, .int .u16 h1, .bool h2, .int .u8 h3, .int .u8 17, .int .u32 a, .int .u32 b, .string h7], .string L] u fun e w' => e = .returned (.tuple #[.string S, .int .i64 f]) ∧ Below u.heap.size u w') (w : World) :
    Calls Tryz.prog 19 #[.agg #[.int .u8 17, .int .u32 a, .int .u16 m, .int .u32 b, .int .u16 n], .agg #[.int .u8 h0, .int .u16 h1, .bool h2, .int .u8 h3, .int .u8 h4, .int .u32 h5, .int .u32 h6, .string h7, .int .u16 g0, .int .u16 g1, .int .u32 g2, .int .u32 g3, .int .u8 g4, .int .u8 g5, .int .u16 g6, .int .u16 g7, .int .u16 g8, .string g9, .int .u8 ty, .string dd]] w fun e w' => e = .returned (.tuple #[.string S, .bool ((f == 0))]) ∧ Below w.heap.size w w' := by
  obtain ⟨y, ey⟩ : ∃ y, (f == 0) = y := ⟨_, rfl⟩
  rw [ey]
  go_enter Tryz.func19, Tryz.ntmps19
  have B1 := Below.refl w.heap.size w
  go_wp2_with fail
  have T_2 := Box5.make w (.int .u8 17) (.int .u32 a) (.int .u16 m) (.int .u32 b) (.int .u16 n) 29
  have B3 := B1.alloc B1.size (.cells #[.int .u8 17, .int .u32 a, .int .u16 m, .int .u32 b, .int .u16 n] 29)
  clear B1
  have T_4 := T_2.past (o := (.cells #[.int .u8 h0, .int .u16 h1, .bool h2, .int .u8 h3, .int .u8 h4, .int .u32 h5, .int .u32 h6, .string h7, .int .u16 g0, .int .u16 g1, .int .u32 g2, .int .u32 g3, .int .u8 g4, .int .u8 g5, .int .u16 g6, .int .u16 g7, .int .u16 g8, .string g9, .int .u8 ty, .string dd] 51))
  have hs_ : (w.alloc (.cells #[.int .u8 17, .int .u32 a, .int .u16 m, .int .u32 b, .int .u16 n] 29)).heap.size = w.heap.size + 1 := by simp
  have D_5 := Box20.make (w.alloc (.cells #[.int .u8 17, .int .u32 a, .int .u16 m, .int .u32 b, .int .u16 n] 29)) (.int .u8 h0) (.int .u16 h1) (.bool h2) (.int .u8 h3) (.int .u8 h4) (.int .u32 h5) (.int .u32 h6) (.string h7) (.int .u16 g0) (.int .u16 g1) (.int .u32 g2) (.int .u32 g3) (.int .u8 g4) (.int .u8 g5) (.int .u16 g6) (.int .u16 g7) (.int .u16 g8) (.string g9) (.int .u8 ty) (.string dd) 51
  rw [hs_] at D_5
  clear hs_
  have B6 := B3.alloc B3.size (.cells #[.int .u8 h0, .int .u16 h1, .bool h2, .int .u8 h3, .int .u8 h4, .int .u32 h5, .int .u32 h6, .string h7, .int .u16 g0, .int .u16 g1, .int .u32 g2, .int .u32 g3, .int .u8 g4, .int .u8 g5, .int .u16 g6, .int .u16 g7, .int .u16 g8, .string g9, .int .u8 ty, .string dd] 51)
  clear T_2 B3
  have fzD_7 : ∀ i, ((w.alloc (.cells #[.int .u8 17, .int .u32 a, .int .u16 m, .int .u32 b, .int .u16 n] 29)).alloc (.cells #[.int .u8 h0, .int .u16 h1, .bool h2, .int .u8 h3, .int .u8 h4, .int .u32 h5, .int .u32 h6, .string h7, .int .u16 g0, .int .u16 g1, .int .u32 g2, .int .u32 g3, .int .u8 g4, .int .u8 g5, .int .u16 g6, .int .u16 g7, .int .u16 g8, .string g9, .int .u8 ty, .string dd] 51)).frozen? ⟨(w.heap.size + 1), i, none⟩ = false := by intro i; simp [go_sem]
  obtain ⟨u1, hu1⟩ : ∃ x, x = (w.alloc (.cells #[.int .u8 17, .int .u32 a, .int .u16 m, .int .u32 b, .int .u16 n] 29)).alloc (.cells #[.int .u8 h0, .int .u16 h1, .bool h2, .int .u8 h3, .int .u8 h4, .int .u32 h5, .int .u32 h6, .string h7, .int .u16 g0, .int .u16 g1, .int .u32 g2, .int .u32 g3, .int .u8 g4, .int .u8 g5, .int .u16 g6, .int .u16 g7, .int .u16 g8, .string g9, .int .u8 ty, .string dd] 51) := ⟨_, rfl⟩
  rw [← hu1] at T_4 D_5 fzD_7 B6 ⊢
  clear hu1
  have ne1_ : ¬ w.heap.size + 1 = w.heap.size := by omega
  have ne2_ : ¬ w.heap.size = w.heap.size + 1 := by omega
  obtain ⟨_, t1_0, t1_1, t1_2, t1_3, t1_4⟩ := id T_4
  obtain ⟨_, d2_0, d2_1, d2_2, d2_3, d2_4, d2_5, d2_6, d2_7, d2_8, d2_9, d2_10, d2_11, d2_12, d2_13, d2_14, d2_15, d2_16, d2_17, d2_18, d2_19⟩ := id D_5
  go_region
  clear t1_0 t1_1 t1_2 t1_3 t1_4 d2_0 d2_1 d2_2 d2_3 d2_4 d2_5 d2_6 d2_7 d2_8 d2_9 d2_10 d2_11 d2_12 d2_13 d2_14 d2_15 d2_16 d2_17 d2_18 d2_19
  obtain ⟨_, t3_0, t3_1, t3_2, t3_3, t3_4⟩ := id T_4
  obtain ⟨_, d4_0, d4_1, d4_2, d4_3, d4_4, d4_5, d4_6, d4_7, d4_8, d4_9, d4_10, d4_11, d4_12, d4_13, d4_14, d4_15, d4_16, d4_17, d4_18, d4_19⟩ := id D_5
  have B8 := (((B6.setCell (p := ⟨(w.heap.size + 1), 4, none⟩) (by show w.heap.size ≤ w.heap.size + 1; omega) (.int .u8 17)).setCell (p := ⟨(w.heap.size + 1), 5, none⟩) (by show w.heap.size ≤ w.heap.size + 1; omega) (.int .u32 a)).setCell (p := ⟨(w.heap.size + 1), 6, none⟩) (by show w.heap.size ≤ w.heap.size + 1; omega) (.int .u32 b)).drew
  have T_9 : Box5 (((u1.setCell ⟨(w.heap.size + 1), 4, none⟩ (.int .u8 17)).setCell ⟨(w.heap.size + 1), 5, none⟩ (.int .u32 a)).setCell ⟨(w.heap.size + 1), 6, none⟩ (.int .u32 b)).drew w.heap.size (.int .u8 17) (.int .u32 a) (.int .u16 m) (.int .u32 b) (.int .u16 n) := ⟨by have := T_4.1; simpa using this, by simp [go_sem, t3_0, t3_1, t3_2, t3_3, t3_4, d4_0, d4_1, d4_2, d4_3, d4_4, d4_5, d4_6, d4_7, d4_8, d4_9, d4_10, d4_11, d4_12, d4_13, d4_14, d4_15, d4_16, d4_17, d4_18, d4_19], by simp [go_sem, t3_0, t3_1, t3_2, t3_3, t3_4, d4_0, d4_1, d4_2, d4_3, d4_4, d4_5, d4_6, d4_7, d4_8, d4_9, d4_10, d4_11, d4_12, d4_13, d4_14, d4_15, d4_16, d4_17, d4_18, d4_19], by simp [go_sem, t3_0, t3_1, t3_2, t3_3, t3_4, d4_0, d4_1, d4_2, d4_3, d4_4, d4_5, d4_6, d4_7, d4_8, d4_9, d4_10, d4_11, d4_12, d4_13, d4_14, d4_15, d4_16, d4_17, d4_18, d4_19], by simp [go_sem, t3_0, t3_1, t3_2, t3_3, t3_4, d4_0, d4_1, d4_2, d4_3, d4_4, d4_5, d4_6, d4_7, d4_8, d4_9, d4_10, d4_11, d4_12, d4_13, d4_14, d4_15, d4_16, d4_17, d4_18, d4_19], by simp [go_sem, t3_0, t3_1, t3_2, t3_3, t3_4, d4_0, d4_1, d4_2, d4_3, d4_4, d4_5, d4_6, d4_7, d4_8, d4_9, d4_10, d4_11, d4_12, d4_13, d4_14, d4_15, d4_16, d4_17, d4_18, d4_19]⟩
  have D_10 : Box20 (((u1.setCell ⟨(w.heap.size + 1), 4, none⟩ (.int .u8 17)).setCell ⟨(w.heap.size + 1), 5, none⟩ (.int .u32 a)).setCell ⟨(w.heap.size + 1), 6, none⟩ (.int .u32 b)).drew (w.heap.size + 1) (.int .u8 h0) (.int .u16 h1) (.bool h2) (.int .u8 h3) (.int .u8 17) (.int .u32 a) (.int .u32 b) (.string h7) (.int .u16 g0) (.int .u16 g1) (.int .u32 g2) (.int .u32 g3) (.int .u8 g4) (.int .u8 g5) (.int .u16 g6) (.int .u16 g7) (.int .u16 g8) (.string g9) (.int .u8 ty) (.string dd) := ⟨by have := D_5.1; simpa using this, by simp [go_sem, t3_0, t3_1, t3_2, t3_3, t3_4, d4_0, d4_1, d4_2, d4_3, d4_4, d4_5, d4_6, d4_7, d4_8, d4_9, d4_10, d4_11, d4_12, d4_13, d4_14, d4_15, d4_16, d4_17, d4_18, d4_19], by simp [go_sem, t3_0, t3_1, t3_2, t3_3, t3_4, d4_0, d4_1, d4_2, d4_3, d4_4, d4_5, d4_6, d4_7, d4_8, d4_9, d4_10, d4_11, d4_12, d4_13, d4_14, d4_15, d4_16, d4_17, d4_18, d4_19], by simp [go_sem, t3_0, t3_1, t3_2, t3_3, t3_4, d4_0, d4_1, d4_2, d4_3, d4_4, d4_5, d4_6, d4_7, d4_8, d4_9, d4_10, d4_11, d4_12, d4_13, d4_14, d4_15, d4_16, d4_17, d4_18, d4_19], by simp [go_sem, t3_0, t3_1, t3_2, t3_3, t3_4, d4_0, d4_1, d4_2, d4_3, d4_4, d4_5, d4_6, d4_7, d4_8, d4_9, d4_10, d4_11, d4_12, d4_13, d4_14, d4_15, d4_16, d4_17, d4_18, d4_19], by simp [go_sem, t3_0, t3_1, t3_2, t3_3, t3_4, d4_0, d4_1, d4_2, d4_3, d4_4, d4_5, d4_6, d4_7, d4_8, d4_9, d4_10, d4_11, d4_12, d4_13, d4_14, d4_15, d4_16, d4_17, d4_18, d4_19], by simp [go_sem, t3_0, t3_1, t3_2, t3_3, t3_4, d4_0, d4_1, d4_2, d4_3, d4_4, d4_5, d4_6, d4_7, d4_8, d4_9, d4_10, d4_11, d4_12, d4_13, d4_14, d4_15, d4_16, d4_17, d4_18, d4_19], by simp [go_sem, t3_0, t3_1, t3_2, t3_3, t3_4, d4_0, d4_1, d4_2, d4_3, d4_4, d4_5, d4_6, d4_7, d4_8, d4_9, d4_10, d4_11, d4_12, d4_13, d4_14, d4_15, d4_16, d4_17, d4_18, d4_19], by simp [go_sem, t3_0, t3_1, t3_2, t3_3, t3_4, d4_0, d4_1, d4_2, d4_3, d4_4, d4_5, d4_6, d4_7, d4_8, d4_9, d4_10, d4_11, d4_12, d4_13, d4_14, d4_15, d4_16, d4_17, d4_18, d4_19], by simp [go_sem, t3_0, t3_1, t3_2, t3_3, t3_4, d4_0, d4_1, d4_2, d4_3, d4_4, d4_5, d4_6, d4_7, d4_8, d4_9, d4_10, d4_11, d4_12, d4_13, d4_14, d4_15, d4_16, d4_17, d4_18, d4_19], by simp [go_sem, t3_0, t3_1, t3_2, t3_3, t3_4, d4_0, d4_1, d4_2, d4_3, d4_4, d4_5, d4_6, d4_7, d4_8, d4_9, d4_10, d4_11, d4_12, d4_13, d4_14, d4_15, d4_16, d4_17, d4_18, d4_19], by simp [go_sem, t3_0, t3_1, t3_2, t3_3, t3_4, d4_0, d4_1, d4_2, d4_3, d4_4, d4_5, d4_6, d4_7, d4_8, d4_9, d4_10, d4_11, d4_12, d4_13, d4_14, d4_15, d4_16, d4_17, d4_18, d4_19], by simp [go_sem, t3_0, t3_1, t3_2, t3_3, t3_4, d4_0, d4_1, d4_2, d4_3, d4_4, d4_5, d4_6, d4_7, d4_8, d4_9, d4_10, d4_11, d4_12, d4_13, d4_14, d4_15, d4_16, d4_17, d4_18, d4_19], by simp [go_sem, t3_0, t3_1, t3_2, t3_3, t3_4, d4_0, d4_1, d4_2, d4_3, d4_4, d4_5, d4_6, d4_7, d4_8, d4_9, d4_10, d4_11, d4_12, d4_13, d4_14, d4_15, d4_16, d4_17, d4_18, d4_19], by simp [go_sem, t3_0, t3_1, t3_2, t3_3, t3_4, d4_0, d4_1, d4_2, d4_3, d4_4, d4_5, d4_6, d4_7, d4_8, d4_9, d4_10, d4_11, d4_12, d4_13, d4_14, d4_15, d4_16, d4_17, d4_18, d4_19], by simp [go_sem, t3_0, t3_1, t3_2, t3_3, t3_4, d4_0, d4_1, d4_2, d4_3, d4_4, d4_5, d4_6, d4_7, d4_8, d4_9, d4_10, d4_11, d4_12, d4_13, d4_14, d4_15, d4_16, d4_17, d4_18, d4_19], by simp [go_sem, t3_0, t3_1, t3_2, t3_3, t3_4, d4_0, d4_1, d4_2, d4_3, d4_4, d4_5, d4_6, d4_7, d4_8, d4_9, d4_10, d4_11, d4_12, d4_13, d4_14, d4_15, d4_16, d4_17, d4_18, d4_19], by simp [go_sem, t3_0, t3_1, t3_2, t3_3, t3_4, d4_0, d4_1, d4_2, d4_3, d4_4, d4_5, d4_6, d4_7, d4_8, d4_9, d4_10, d4_11, d4_12, d4_13, d4_14, d4_15, d4_16, d4_17, d4_18, d4_19], by simp [go_sem, t3_0, t3_1, t3_2, t3_3, t3_4, d4_0, d4_1, d4_2, d4_3, d4_4, d4_5, d4_6, d4_7, d4_8, d4_9, d4_10, d4_11, d4_12, d4_13, d4_14, d4_15, d4_16, d4_17, d4_18, d4_19], by simp [go_sem, t3_0, t3_1, t3_2, t3_3, t3_4, d4_0, d4_1, d4_2, d4_3, d4_4, d4_5, d4_6, d4_7, d4_8, d4_9, d4_10, d4_11, d4_12, d4_13, d4_14, d4_15, d4_16, d4_17, d4_18, d4_19], by simp [go_sem, t3_0, t3_1, t3_2, t3_3, t3_4, d4_0, d4_1, d4_2, d4_3, d4_4, d4_5, d4_6, d4_7, d4_8, d4_9, d4_10, d4_11, d4_12, d4_13, d4_14, d4_15, d4_16, d4_17, d4_18, d4_19]⟩
  have fzD_11 : ∀ i, (((u1.setCell ⟨(w.heap.size + 1), 4, none⟩ (.int .u8 17)).setCell ⟨(w.heap.size + 1), 5, none⟩ (.int .u32 a)).setCell ⟨(w.heap.size + 1), 6, none⟩ (.int .u32 b)).drew.frozen? ⟨(w.heap.size + 1), i, none⟩ = false := by intro i; simp [fzD_7]
  clear t3_0 t3_1 t3_2 t3_3 t3_4 d4_0 d4_1 d4_2 d4_3 d4_4 d4_5 d4_6 d4_7 d4_8 d4_9 d4_10 d4_11 d4_12 d4_13 d4_14 d4_15 d4_16 d4_17 d4_18 d4_19 T_4 D_5 fzD_7 B6
  obtain ⟨u2, hu2⟩ : ∃ x, x = (((u1.setCell ⟨(w.heap.size + 1), 4, none⟩ (.int .u8 17)).setCell ⟨(w.heap.size + 1), 5, none⟩ (.int .u32 a)).setCell ⟨(w.heap.size + 1), 6, none⟩ (.int .u32 b)).drew := ⟨_, rfl⟩
  rw [← hu2] at T_9 D_10 fzD_11 B8 ⊢
  clear hu2
  obtain ⟨_, t5_0, t5_1, t5_2, t5_3, t5_4⟩ := id T_9
  obtain ⟨_, d6_0, d6_1, d6_2, d6_3, d6_4, d6_5, d6_6, d6_7, d6_8, d6_9, d6_10, d6_11, d6_12, d6_13, d6_14, d6_15, d6_16, d6_17, d6_18, d6_19⟩ := id D_10
  go_wp2_with fail
  refine (cL _).mono ?_; rintro e w3 ⟨rfl, x3⟩
  have fzD_12 : ∀ i, w3.frozen? ⟨(w.heap.size + 1), i, none⟩ = false := fun i => (x3.frozen (p := ⟨_, i, none⟩) D_10.1).trans (fzD_11 i)
  clear fzD_11
  have T_13 := T_9.on x3
  have D_14 := D_10.on x3
  have B15 := B8.trans (x3.mono B8.size)
  clear t5_0 t5_1 t5_2 t5_3 t5_4 d6_0 d6_1 d6_2 d6_3 d6_4 d6_5 d6_6 d6_7 d6_8 d6_9 d6_10 d6_11 d6_12 d6_13 d6_14 d6_15 d6_16 d6_17 d6_18 d6_19 T_9 D_10 B8 x3
  clear cL
  obtain ⟨_, d7_0, d7_1, d7_2, d7_3, d7_4, d7_5, d7_6, d7_7, d7_8, d7_9, d7_10, d7_11, d7_12, d7_13, d7_14, d7_15, d7_16, d7_17, d7_18, d7_19⟩ := id D_14
  go_wp2_with fail
  refine (cI _).mono ?_; rintro e w4 ⟨rfl, x4⟩
  have fzD_16 : ∀ i, w4.frozen? ⟨(w.heap.size + 1), i, none⟩ = false := fun i => (x4.frozen (p := ⟨_, i, none⟩) D_14.1).trans (fzD_12 i)
  clear fzD_12
  have T_17 := T_13.on x4
  have D_18 := D_14.on x4
  have B19 := B15.trans (x4.mono B15.size)
  clear d7_0 d7_1 d7_2 d7_3 d7_4 d7_5 d7_6 d7_7 d7_8 d7_9 d7_10 d7_11 d7_12 d7_13 d7_14 d7_15 d7_16 d7_17 d7_18 d7_19 T_13 D_14 B15 x4
  clear cI
  go_wp2
  go_ret2
  exact ⟨rfl, B19⟩
set_option maxHeartbeats 8000000 in
set_option maxRecDepth 100000 in
theorem lput_icmp (a m b n h0 h1 h3 h4 h5 h6 g0 g1 g2 g3 g4 g5 g6 g7 g8 ty : Int) (h2 : Bool) (h7 g9 dd L S : ByteArray) (ee k : Int) (r : ByteArray) (ek : bits .or .u16 m n = k) (cW : ∀ u : World, Calls Tryz.prog 48 #[.agg #[.int .u8 ty, .int .u8 0, .int .u16 g7, .string ⟨#[46, 46, 46, 46]⟩, .string dd], .int .u16 k] u fun e w' => e = .returned (.agg #[.int .u8 ty, .int .u8 0, .int .u16 g7, .string r, .string dd]) ∧ Below u.heap.size u w') (cL : ∀ u : World, Calls Tryz.prog 47 #[.agg #[.int .u8 ty, .int .u8 0, .int .u16 g7, .string r, .string dd]] u fun e w' => e = .returned (.tuple #[.string L, .int .i64 ee]) ∧ Below u.heap.size u w') (f : Int) (cI : ∀ u : World, Calls Tryz.prog 49 #[.agg #[.int .u8 h0, .int .u16 h1, .bool h2, .int .u8 h3, .int .u8 1, .int .u32 a, .int .u32 b, .string h7], .string L] u fun e w' => e = .returned (.tuple #[.string S, .int .i64 f]) ∧ Below u.heap.size u w') (w : World) :
    Calls Tryz.prog 19 #[.agg #[.int .u8 1, .int .u32 a, .int .u16 m, .int .u32 b, .int .u16 n], .agg #[.int .u8 h0, .int .u16 h1, .bool h2, .int .u8 h3, .int .u8 h4, .int .u32 h5, .int .u32 h6, .string h7, .int .u16 g0, .int .u16 g1, .int .u32 g2, .int .u32 g3, .int .u8 g4, .int .u8 g5, .int .u16 g6, .int .u16 g7, .int .u16 g8, .string g9, .int .u8 ty, .string dd]] w fun e w' => e = .returned (.tuple #[.string S, .bool ((ee == 0) && (f == 0))]) ∧ Below w.heap.size w w' := by
  obtain ⟨y, ey⟩ : ∃ y, (f == 0) = y := ⟨_, rfl⟩
  rw [ey]
  obtain ⟨x, ex⟩ : ∃ x, (ee == 0) = x := ⟨_, rfl⟩
  rw [ex]
  go_enter Tryz.func19, Tryz.ntmps19
  have B1 := Below.refl w.heap.size w
  go_wp2_with fail
  have T_2 := Box5.make w (.int .u8 1) (.int .u32 a) (.int .u16 m) (.int .u32 b) (.int .u16 n) 29
  have B3 := B1.alloc B1.size (.cells #[.int .u8 1, .int .u32 a, .int .u16 m, .int .u32 b, .int .u16 n] 29)
  clear B1
  have T_4 := T_2.past (o := (.cells #[.int .u8 h0, .int .u16 h1, .bool h2, .int .u8 h3, .int .u8 h4, .int .u32 h5, .int .u32 h6, .string h7, .int .u16 g0, .int .u16 g1, .int .u32 g2, .int .u32 g3, .int .u8 g4, .int .u8 g5, .int .u16 g6, .int .u16 g7, .int .u16 g8, .string g9, .int .u8 ty, .string dd] 51))
  have hs_ : (w.alloc (.cells #[.int .u8 1, .int .u32 a, .int .u16 m, .int .u32 b, .int .u16 n] 29)).heap.size = w.heap.size + 1 := by simp
  have D_5 := Box20.make (w.alloc (.cells #[.int .u8 1, .int .u32 a, .int .u16 m, .int .u32 b, .int .u16 n] 29)) (.int .u8 h0) (.int .u16 h1) (.bool h2) (.int .u8 h3) (.int .u8 h4) (.int .u32 h5) (.int .u32 h6) (.string h7) (.int .u16 g0) (.int .u16 g1) (.int .u32 g2) (.int .u32 g3) (.int .u8 g4) (.int .u8 g5) (.int .u16 g6) (.int .u16 g7) (.int .u16 g8) (.string g9) (.int .u8 ty) (.string dd) 51
  rw [hs_] at D_5
  clear hs_
  have B6 := B3.alloc B3.size (.cells #[.int .u8 h0, .int .u16 h1, .bool h2, .int .u8 h3, .int .u8 h4, .int .u32 h5, .int .u32 h6, .string h7, .int .u16 g0, .int .u16 g1, .int .u32 g2, .int .u32 g3, .int .u8 g4, .int .u8 g5, .int .u16 g6, .int .u16 g7, .int .u16 g8, .string g9, .int .u8 ty, .string dd] 51)
  clear T_2 B3
  have fzD_7 : ∀ i, ((w.alloc (.cells #[.int .u8 1, .int .u32 a, .int .u16 m, .int .u32 b, .int .u16 n] 29)).alloc (.cells #[.int .u8 h0, .int .u16 h1, .bool h2, .int .u8 h3, .int .u8 h4, .int .u32 h5, .int .u32 h6, .string h7, .int .u16 g0, .int .u16 g1, .int .u32 g2, .int .u32 g3, .int .u8 g4, .int .u8 g5, .int .u16 g6, .int .u16 g7, .int .u16 g8, .string g9, .int .u8 ty, .string dd] 51)).frozen? ⟨(w.heap.size + 1), i, none⟩ = false := by intro i; simp [go_sem]
  obtain ⟨u1, hu1⟩ : ∃ x, x = (w.alloc (.cells #[.int .u8 1, .int .u32 a, .int .u16 m, .int .u32 b, .int .u16 n] 29)).alloc (.cells #[.int .u8 h0, .int .u16 h1, .bool h2, .int .u8 h3, .int .u8 h4, .int .u32 h5, .int .u32 h6, .string h7, .int .u16 g0, .int .u16 g1, .int .u32 g2, .int .u32 g3, .int .u8 g4, .int .u8 g5, .int .u16 g6, .int .u16 g7, .int .u16 g8, .string g9, .int .u8 ty, .string dd] 51) := ⟨_, rfl⟩
  rw [← hu1] at T_4 D_5 fzD_7 B6 ⊢
  clear hu1
  have ne1_ : ¬ w.heap.size + 1 = w.heap.size := by omega
  have ne2_ : ¬ w.heap.size = w.heap.size + 1 := by omega
  obtain ⟨_, t1_0, t1_1, t1_2, t1_3, t1_4⟩ := id T_4
  obtain ⟨_, d2_0, d2_1, d2_2, d2_3, d2_4, d2_5, d2_6, d2_7, d2_8, d2_9, d2_10, d2_11, d2_12, d2_13, d2_14, d2_15, d2_16, d2_17, d2_18, d2_19⟩ := id D_5
  go_region
  clear t1_0 t1_1 t1_2 t1_3 t1_4 d2_0 d2_1 d2_2 d2_3 d2_4 d2_5 d2_6 d2_7 d2_8 d2_9 d2_10 d2_11 d2_12 d2_13 d2_14 d2_15 d2_16 d2_17 d2_18 d2_19
  obtain ⟨_, t3_0, t3_1, t3_2, t3_3, t3_4⟩ := id T_4
  obtain ⟨_, d4_0, d4_1, d4_2, d4_3, d4_4, d4_5, d4_6, d4_7, d4_8, d4_9, d4_10, d4_11, d4_12, d4_13, d4_14, d4_15, d4_16, d4_17, d4_18, d4_19⟩ := id D_5
  have B8 := (((B6.setCell (p := ⟨(w.heap.size + 1), 4, none⟩) (by show w.heap.size ≤ w.heap.size + 1; omega) (.int .u8 1)).setCell (p := ⟨(w.heap.size + 1), 5, none⟩) (by show w.heap.size ≤ w.heap.size + 1; omega) (.int .u32 a)).setCell (p := ⟨(w.heap.size + 1), 6, none⟩) (by show w.heap.size ≤ w.heap.size + 1; omega) (.int .u32 b)).drew
  have T_9 : Box5 (((u1.setCell ⟨(w.heap.size + 1), 4, none⟩ (.int .u8 1)).setCell ⟨(w.heap.size + 1), 5, none⟩ (.int .u32 a)).setCell ⟨(w.heap.size + 1), 6, none⟩ (.int .u32 b)).drew w.heap.size (.int .u8 1) (.int .u32 a) (.int .u16 m) (.int .u32 b) (.int .u16 n) := ⟨by have := T_4.1; simpa using this, by simp [go_sem, t3_0, t3_1, t3_2, t3_3, t3_4, d4_0, d4_1, d4_2, d4_3, d4_4, d4_5, d4_6, d4_7, d4_8, d4_9, d4_10, d4_11, d4_12, d4_13, d4_14, d4_15, d4_16, d4_17, d4_18, d4_19], by simp [go_sem, t3_0, t3_1, t3_2, t3_3, t3_4, d4_0, d4_1, d4_2, d4_3, d4_4, d4_5, d4_6, d4_7, d4_8, d4_9, d4_10, d4_11, d4_12, d4_13, d4_14, d4_15, d4_16, d4_17, d4_18, d4_19], by simp [go_sem, t3_0, t3_1, t3_2, t3_3, t3_4, d4_0, d4_1, d4_2, d4_3, d4_4, d4_5, d4_6, d4_7, d4_8, d4_9, d4_10, d4_11, d4_12, d4_13, d4_14, d4_15, d4_16, d4_17, d4_18, d4_19], by simp [go_sem, t3_0, t3_1, t3_2, t3_3, t3_4, d4_0, d4_1, d4_2, d4_3, d4_4, d4_5, d4_6, d4_7, d4_8, d4_9, d4_10, d4_11, d4_12, d4_13, d4_14, d4_15, d4_16, d4_17, d4_18, d4_19], by simp [go_sem, t3_0, t3_1, t3_2, t3_3, t3_4, d4_0, d4_1, d4_2, d4_3, d4_4, d4_5, d4_6, d4_7, d4_8, d4_9, d4_10, d4_11, d4_12, d4_13, d4_14, d4_15, d4_16, d4_17, d4_18, d4_19]⟩
  have D_10 : Box20 (((u1.setCell ⟨(w.heap.size + 1), 4, none⟩ (.int .u8 1)).setCell ⟨(w.heap.size + 1), 5, none⟩ (.int .u32 a)).setCell ⟨(w.heap.size + 1), 6, none⟩ (.int .u32 b)).drew (w.heap.size + 1) (.int .u8 h0) (.int .u16 h1) (.bool h2) (.int .u8 h3) (.int .u8 1) (.int .u32 a) (.int .u32 b) (.string h7) (.int .u16 g0) (.int .u16 g1) (.int .u32 g2) (.int .u32 g3) (.int .u8 g4) (.int .u8 g5) (.int .u16 g6) (.int .u16 g7) (.int .u16 g8) (.string g9) (.int .u8 ty) (.string dd) := ⟨by have := D_5.1; simpa using this, by simp [go_sem, t3_0, t3_1, t3_2, t3_3, t3_4, d4_0, d4_1, d4_2, d4_3, d4_4, d4_5, d4_6, d4_7, d4_8, d4_9, d4_10, d4_11, d4_12, d4_13, d4_14, d4_15, d4_16, d4_17, d4_18, d4_19], by simp [go_sem, t3_0, t3_1, t3_2, t3_3, t3_4, d4_0, d4_1, d4_2, d4_3, d4_4, d4_5, d4_6, d4_7, d4_8, d4_9, d4_10, d4_11, d4_12, d4_13, d4_14, d4_15, d4_16, d4_17, d4_18, d4_19], by simp [go_sem, t3_0, t3_1, t3_2, t3_3, t3_4, d4_0, d4_1, d4_2, d4_3, d4_4, d4_5, d4_6, d4_7, d4_8, d4_9, d4_10, d4_11, d4_12, d4_13, d4_14, d4_15, d4_16, d4_17, d4_18, d4_19], by simp [go_sem, t3_0, t3_1, t3_2, t3_3, t3_4, d4_0, d4_1, d4_2, d4_3, d4_4, d4_5, d4_6, d4_7, d4_8, d4_9, d4_10, d4_11, d4_12, d4_13, d4_14, d4_15, d4_16, d4_17, d4_18, d4_19], by simp [go_sem, t3_0, t3_1, t3_2, t3_3, t3_4, d4_0, d4_1, d4_2, d4_3, d4_4, d4_5, d4_6, d4_7, d4_8, d4_9, d4_10, d4_11, d4_12, d4_13, d4_14, d4_15, d4_16, d4_17, d4_18, d4_19], by simp [go_sem, t3_0, t3_1, t3_2, t3_3, t3_4, d4_0, d4_1, d4_2, d4_3, d4_4, d4_5, d4_6, d4_7, d4_8, d4_9, d4_10, d4_11, d4_12, d4_13, d4_14, d4_15, d4_16, d4_17, d4_18, d4_19], by simp [go_sem, t3_0, t3_1, t3_2, t3_3, t3_4, d4_0, d4_1, d4_2, d4_3, d4_4, d4_5, d4_6, d4_7, d4_8, d4_9, d4_10, d4_11, d4_12, d4_13, d4_14, d4_15, d4_16, d4_17, d4_18, d4_19], by simp [go_sem, t3_0, t3_1, t3_2, t3_3, t3_4, d4_0, d4_1, d4_2, d4_3, d4_4, d4_5, d4_6, d4_7, d4_8, d4_9, d4_10, d4_11, d4_12, d4_13, d4_14, d4_15, d4_16, d4_17, d4_18, d4_19], by simp [go_sem, t3_0, t3_1, t3_2, t3_3, t3_4, d4_0, d4_1, d4_2, d4_3, d4_4, d4_5, d4_6, d4_7, d4_8, d4_9, d4_10, d4_11, d4_12, d4_13, d4_14, d4_15, d4_16, d4_17, d4_18, d4_19], by simp [go_sem, t3_0, t3_1, t3_2, t3_3, t3_4, d4_0, d4_1, d4_2, d4_3, d4_4, d4_5, d4_6, d4_7, d4_8, d4_9, d4_10, d4_11, d4_12, d4_13, d4_14, d4_15, d4_16, d4_17, d4_18, d4_19], by simp [go_sem, t3_0, t3_1, t3_2, t3_3, t3_4, d4_0, d4_1, d4_2, d4_3, d4_4, d4_5, d4_6, d4_7, d4_8, d4_9, d4_10, d4_11, d4_12, d4_13, d4_14, d4_15, d4_16, d4_17, d4_18, d4_19], by simp [go_sem, t3_0, t3_1, t3_2, t3_3, t3_4, d4_0, d4_1, d4_2, d4_3, d4_4, d4_5, d4_6, d4_7, d4_8, d4_9, d4_10, d4_11, d4_12, d4_13, d4_14, d4_15, d4_16, d4_17, d4_18, d4_19], by simp [go_sem, t3_0, t3_1, t3_2, t3_3, t3_4, d4_0, d4_1, d4_2, d4_3, d4_4, d4_5, d4_6, d4_7, d4_8, d4_9, d4_10, d4_11, d4_12, d4_13, d4_14, d4_15, d4_16, d4_17, d4_18, d4_19], by simp [go_sem, t3_0, t3_1, t3_2, t3_3, t3_4, d4_0, d4_1, d4_2, d4_3, d4_4, d4_5, d4_6, d4_7, d4_8, d4_9, d4_10, d4_11, d4_12, d4_13, d4_14, d4_15, d4_16, d4_17, d4_18, d4_19], by simp [go_sem, t3_0, t3_1, t3_2, t3_3, t3_4, d4_0, d4_1, d4_2, d4_3, d4_4, d4_5, d4_6, d4_7, d4_8, d4_9, d4_10, d4_11, d4_12, d4_13, d4_14, d4_15, d4_16, d4_17, d4_18, d4_19], by simp [go_sem, t3_0, t3_1, t3_2, t3_3, t3_4, d4_0, d4_1, d4_2, d4_3, d4_4, d4_5, d4_6, d4_7, d4_8, d4_9, d4_10, d4_11, d4_12, d4_13, d4_14, d4_15, d4_16, d4_17, d4_18, d4_19], by simp [go_sem, t3_0, t3_1, t3_2, t3_3, t3_4, d4_0, d4_1, d4_2, d4_3, d4_4, d4_5, d4_6, d4_7, d4_8, d4_9, d4_10, d4_11, d4_12, d4_13, d4_14, d4_15, d4_16, d4_17, d4_18, d4_19], by simp [go_sem, t3_0, t3_1, t3_2, t3_3, t3_4, d4_0, d4_1, d4_2, d4_3, d4_4, d4_5, d4_6, d4_7, d4_8, d4_9, d4_10, d4_11, d4_12, d4_13, d4_14, d4_15, d4_16, d4_17, d4_18, d4_19], by simp [go_sem, t3_0, t3_1, t3_2, t3_3, t3_4, d4_0, d4_1, d4_2, d4_3, d4_4, d4_5, d4_6, d4_7, d4_8, d4_9, d4_10, d4_11, d4_12, d4_13, d4_14, d4_15, d4_16, d4_17, d4_18, d4_19], by simp [go_sem, t3_0, t3_1, t3_2, t3_3, t3_4, d4_0, d4_1, d4_2, d4_3, d4_4, d4_5, d4_6, d4_7, d4_8, d4_9, d4_10, d4_11, d4_12, d4_13, d4_14, d4_15, d4_16, d4_17, d4_18, d4_19]⟩
  have fzD_11 : ∀ i, (((u1.setCell ⟨(w.heap.size + 1), 4, none⟩ (.int .u8 1)).setCell ⟨(w.heap.size + 1), 5, none⟩ (.int .u32 a)).setCell ⟨(w.heap.size + 1), 6, none⟩ (.int .u32 b)).drew.frozen? ⟨(w.heap.size + 1), i, none⟩ = false := by intro i; simp [fzD_7]
  clear t3_0 t3_1 t3_2 t3_3 t3_4 d4_0 d4_1 d4_2 d4_3 d4_4 d4_5 d4_6 d4_7 d4_8 d4_9 d4_10 d4_11 d4_12 d4_13 d4_14 d4_15 d4_16 d4_17 d4_18 d4_19 T_4 D_5 fzD_7 B6
  obtain ⟨u2, hu2⟩ : ∃ x, x = (((u1.setCell ⟨(w.heap.size + 1), 4, none⟩ (.int .u8 1)).setCell ⟨(w.heap.size + 1), 5, none⟩ (.int .u32 a)).setCell ⟨(w.heap.size + 1), 6, none⟩ (.int .u32 b)).drew := ⟨_, rfl⟩
  rw [← hu2] at T_9 D_10 fzD_11 B8 ⊢
  clear hu2
  obtain ⟨_, t5_0, t5_1, t5_2, t5_3, t5_4⟩ := id T_9
  obtain ⟨_, d6_0, d6_1, d6_2, d6_3, d6_4, d6_5, d6_6, d6_7, d6_8, d6_9, d6_10, d6_11, d6_12, d6_13, d6_14, d6_15, d6_16, d6_17, d6_18, d6_19⟩ := id D_10
  go_wp2_with fail
  refine (cW _).mono ?_; rintro e w3 ⟨rfl, x3⟩
  have fzD_12 : ∀ i, w3.frozen? ⟨(w.heap.size + 1), i, none⟩ = false := fun i => (x3.frozen (p := ⟨_, i, none⟩) D_10.1).trans (fzD_11 i)
  clear fzD_11
  have T_13 := T_9.on x3
  have D_14 := D_10.on x3
  have B15 := B8.trans (x3.mono B8.size)
  clear t5_0 t5_1 t5_2 t5_3 t5_4 d6_0 d6_1 d6_2 d6_3 d6_4 d6_5 d6_6 d6_7 d6_8 d6_9 d6_10 d6_11 d6_12 d6_13 d6_14 d6_15 d6_16 d6_17 d6_18 d6_19 T_9 D_10 B8 x3
  clear cW ek
  go_wp2_with fail
  refine (cL _).mono ?_; rintro e w4 ⟨rfl, x4⟩
  have fzD_16 : ∀ i, w4.frozen? ⟨(w.heap.size + 1), i, none⟩ = false := fun i => (x4.frozen (p := ⟨_, i, none⟩) D_14.1).trans (fzD_12 i)
  clear fzD_12
  have T_17 := T_13.on x4
  have D_18 := D_14.on x4
  have B19 := B15.trans (x4.mono B15.size)
  clear T_13 D_14 B15 x4
  clear cL
  obtain ⟨_, d7_0, d7_1, d7_2, d7_3, d7_4, d7_5, d7_6, d7_7, d7_8, d7_9, d7_10, d7_11, d7_12, d7_13, d7_14, d7_15, d7_16, d7_17, d7_18, d7_19⟩ := id D_18
  go_wp2_with fail
  refine (cI _).mono ?_; rintro e w5 ⟨rfl, x5⟩
  have fzD_20 : ∀ i, w5.frozen? ⟨(w.heap.size + 1), i, none⟩ = false := fun i => (x5.frozen (p := ⟨_, i, none⟩) D_18.1).trans (fzD_16 i)
  clear fzD_16
  have T_21 := T_17.on x5
  have D_22 := D_18.on x5
  have B23 := B19.trans (x5.mono B19.size)
  clear d7_0 d7_1 d7_2 d7_3 d7_4 d7_5 d7_6 d7_7 d7_8 d7_9 d7_10 d7_11 d7_12 d7_13 d7_14 d7_15 d7_16 d7_17 d7_18 d7_19 T_17 D_18 B19 x5
  clear cI
  cases x
  all_goals
    go_wp2
    go_ret2
    exact ⟨rfl, B23⟩
end Go.Proofs.YtidkgnanfhdhdaaGreatDoor
