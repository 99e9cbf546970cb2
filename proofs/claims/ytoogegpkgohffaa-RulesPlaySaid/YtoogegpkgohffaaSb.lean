/- Texts of this proof, together: Box11, RulA. -/
import Derived.Test.YtoogegpkgohffaaTc
import Derived.Test.YtoogegpkgohffaaSa
import Derived.Test.YtoogegpkgohffaaTf
import Derived.Test.YtoogegpkgohffaaTe
import Derived.Test.YtoogegpkgohffaaTb
import Derived.BigRegion
import Derived.Deep.DeepCutAuto
namespace Go.Proofs.Ytoogegpkgohffaa
set_option linter.unusedVariables false
set_option linter.unusedSimpArgs false
open Go.ChangeShapes Go.WideShapes Go.ChangeAt Go.RowKit Go.PlainAid
/-- A box of 11 cells that is written whole. -/
theorem box11_ {W0 W : World} {b n : Nat} {v0 v1 v2 v3 v4 v5 v6 v7 v8 v9 v10 : Value} {M : World → Prop} (h : ∀ j, j < 11 → (W.cell? ⟨b, j, none⟩).isSome = true) (hb : Below n W0 W) (hn : n ≤ b)
    (k : ∀ X : World, X.cell? ⟨b, 0, none⟩ = some v0 → X.cell? ⟨b, 1, none⟩ = some v1 → X.cell? ⟨b, 2, none⟩ = some v2 → X.cell? ⟨b, 3, none⟩ = some v3 → X.cell? ⟨b, 4, none⟩ = some v4 → X.cell? ⟨b, 5, none⟩ = some v5 → X.cell? ⟨b, 6, none⟩ = some v6 → X.cell? ⟨b, 7, none⟩ = some v7 → X.cell? ⟨b, 8, none⟩ = some v8 → X.cell? ⟨b, 9, none⟩ = some v9 → X.cell? ⟨b, 10, none⟩ = some v10 → Below n W0 X → (∀ a : Addr, ¬ b = a.block → X.cell? a = W.cell? a) → X.heap.size = W.heap.size → M X) :
    M (((((((((((W.setCell ⟨b, 0, none⟩ v0).setCell ⟨b, 1, none⟩ v1).setCell ⟨b, 2, none⟩ v2).setCell ⟨b, 3, none⟩ v3).setCell ⟨b, 4, none⟩ v4).setCell ⟨b, 5, none⟩ v5).setCell ⟨b, 6, none⟩ v6).setCell ⟨b, 7, none⟩ v7).setCell ⟨b, 8, none⟩ v8).setCell ⟨b, 9, none⟩ v9).setCell ⟨b, 10, none⟩ v10) := by
  have c := World.cell?_setCells_in b [v0, v1, v2, v3, v4, v5, v6, v7, v8, v9, v10] 0 W (by intro j hj; rw [Nat.zero_add]; exact h j hj)
  refine k _ (c 0 (by simp)) (c 1 (by simp)) (c 2 (by simp)) (c 3 (by simp)) (c 4 (by simp)) (c 5 (by simp)) (c 6 (by simp)) (c 7 (by simp)) (c 8 (by simp)) (c 9 (by simp)) (c 10 (by simp)) ?_ ?_ (by simp)
  rotate_left
  · intro a ha
    rw [World.cell?_setCell_far _ _ _ _ ha, World.cell?_setCell_far _ _ _ _ ha, World.cell?_setCell_far _ _ _ _ ha, World.cell?_setCell_far _ _ _ _ ha, World.cell?_setCell_far _ _ _ _ ha, World.cell?_setCell_far _ _ _ _ ha, World.cell?_setCell_far _ _ _ _ ha, World.cell?_setCell_far _ _ _ _ ha, World.cell?_setCell_far _ _ _ _ ha, World.cell?_setCell_far _ _ _ _ ha, World.cell?_setCell_far _ _ _ _ ha]
  exact ((((((((((hb.setCell hn _).setCell hn _).setCell hn _).setCell hn _).setCell hn _).setCell hn _).setCell hn _).setCell hn _).setCell hn _).setCell hn _).setCell hn _
/-- A box of 11 cells. -/
def Box11 (w : World) (b : Nat) (v0 v1 v2 v3 v4 v5 v6 v7 v8 v9 v10 : Value) : Prop :=
  b < w.heap.size ∧ w.cell? ⟨b, 0, none⟩ = some v0 ∧ w.cell? ⟨b, 1, none⟩ = some v1 ∧ w.cell? ⟨b, 2, none⟩ = some v2 ∧ w.cell? ⟨b, 3, none⟩ = some v3 ∧ w.cell? ⟨b, 4, none⟩ = some v4 ∧ w.cell? ⟨b, 5, none⟩ = some v5 ∧ w.cell? ⟨b, 6, none⟩ = some v6 ∧ w.cell? ⟨b, 7, none⟩ = some v7 ∧ w.cell? ⟨b, 8, none⟩ = some v8 ∧ w.cell? ⟨b, 9, none⟩ = some v9 ∧ w.cell? ⟨b, 10, none⟩ = some v10
theorem Box11.on {w w' : World} {b : Nat} {v0 v1 v2 v3 v4 v5 v6 v7 v8 v9 v10 : Value} (h : Box11 w b v0 v1 v2 v3 v4 v5 v6 v7 v8 v9 v10) (hb : Below w.heap.size w w') : Box11 w' b v0 v1 v2 v3 v4 v5 v6 v7 v8 v9 v10 := by
  obtain ⟨h, h0, h1, h2, h3, h4, h5, h6, h7, h8, h9, h10⟩ := h
  exact ⟨Nat.lt_of_lt_of_le h hb.size, (hb.cell (p := ⟨b, 0, none⟩) h).trans h0, (hb.cell (p := ⟨b, 1, none⟩) h).trans h1, (hb.cell (p := ⟨b, 2, none⟩) h).trans h2, (hb.cell (p := ⟨b, 3, none⟩) h).trans h3, (hb.cell (p := ⟨b, 4, none⟩) h).trans h4, (hb.cell (p := ⟨b, 5, none⟩) h).trans h5, (hb.cell (p := ⟨b, 6, none⟩) h).trans h6, (hb.cell (p := ⟨b, 7, none⟩) h).trans h7, (hb.cell (p := ⟨b, 8, none⟩) h).trans h8, (hb.cell (p := ⟨b, 9, none⟩) h).trans h9, (hb.cell (p := ⟨b, 10, none⟩) h).trans h10⟩
theorem Box11.make (w : World) (v0 v1 v2 v3 v4 v5 v6 v7 v8 v9 v10 : Value) (t : TypeId) : Box11 (w.alloc (.cells #[v0, v1, v2, v3, v4, v5, v6, v7, v8, v9, v10] t)) w.heap.size v0 v1 v2 v3 v4 v5 v6 v7 v8 v9 v10 :=
  ⟨by simp, by simp [go_sem], by simp [go_sem], by simp [go_sem], by simp [go_sem], by simp [go_sem], by simp [go_sem], by simp [go_sem], by simp [go_sem], by simp [go_sem], by simp [go_sem], by simp [go_sem]⟩
theorem Box11.past {w : World} {o : Obj} {b : Nat} {v0 v1 v2 v3 v4 v5 v6 v7 v8 v9 v10 : Value} (h : Box11 w b v0 v1 v2 v3 v4 v5 v6 v7 v8 v9 v10) : Box11 (w.alloc o) b v0 v1 v2 v3 v4 v5 v6 v7 v8 v9 v10 := h.on ((Below.refl _ _).alloc (Nat.le_refl _) _)
theorem Box11.far {W X : World} {a b : Nat} {v0 v1 v2 v3 v4 v5 v6 v7 v8 v9 v10 : Value} (h : Box11 W a v0 v1 v2 v3 v4 v5 v6 v7 v8 v9 v10) (hf : ∀ p : Addr, ¬ b = p.block → X.cell? p = W.cell? p) (hn : ¬ b = a) : Box11 X a v0 v1 v2 v3 v4 v5 v6 v7 v8 v9 v10 := by
  obtain ⟨h, h0, h1, h2, h3, h4, h5, h6, h7, h8, h9, h10⟩ := h
  have k0 := (hf ⟨a, 0, none⟩ hn).trans h0
  exact ⟨World.block_lt_of_cell? _ _ k0, k0, (hf ⟨a, 1, none⟩ hn).trans h1, (hf ⟨a, 2, none⟩ hn).trans h2, (hf ⟨a, 3, none⟩ hn).trans h3, (hf ⟨a, 4, none⟩ hn).trans h4, (hf ⟨a, 5, none⟩ hn).trans h5, (hf ⟨a, 6, none⟩ hn).trans h6, (hf ⟨a, 7, none⟩ hn).trans h7, (hf ⟨a, 8, none⟩ hn).trans h8, (hf ⟨a, 9, none⟩ hn).trans h9, (hf ⟨a, 10, none⟩ hn).trans h10⟩
theorem Box11.some {W : World} {a : Nat} {v0 v1 v2 v3 v4 v5 v6 v7 v8 v9 v10 : Value} (h : Box11 W a v0 v1 v2 v3 v4 v5 v6 v7 v8 v9 v10) : ∀ j, j < 11 → (W.cell? ⟨a, j, none⟩).isSome = true := by
  obtain ⟨h, h0, h1, h2, h3, h4, h5, h6, h7, h8, h9, h10⟩ := h
  intro j hj
  match j, hj with
  | 0, _ => rw [h0]; rfl
  | 1, _ => rw [h1]; rfl
  | 2, _ => rw [h2]; rfl
  | 3, _ => rw [h3]; rfl
  | 4, _ => rw [h4]; rfl
  | 5, _ => rw [h5]; rfl
  | 6, _ => rw [h6]; rfl
  | 7, _ => rw [h7]; rfl
  | 8, _ => rw [h8]; rfl
  | 9, _ => rw [h9]; rfl
  | 10, _ => rw [h10]; rfl
end Go.Proofs.Ytoogegpkgohffaa
namespace Go.Proofs.Ytoogegpkgohffaa
set_option linter.unusedVariables false
set_option linter.unusedSimpArgs false
open Go.ChangeShapes Go.WideShapes Go.ChangeAt Go.RowKit Go.PlainAid
attribute [local go_sem ↓] Go.wp_at_zero Go.wp_at_succ
set_option maxHeartbeats 1000000 in
set_option maxRecDepth 100000 in
theorem rextR_ (t : Tm) (r : Ru) (p : Nat) (S : Value) (w : World) (T0 : Box4 w p (.int .u32 (t.own : Int)) (.int .u32 (t.ip : Int)) (.int .i64 t.bits) S) :
    Calls Try.prog 53 #[.pointer (some ⟨p, 0, none⟩), .agg #[.int .i64 r.k, .int .u8 r.pr, .int .u32 (r.si : Int), .int .i64 r.sb, .int .u32 (r.di : Int), .int .i64 r.db, .int .u32 (r.ex : Int), .int .u16 r.fr, .int .u16 r.to, .int .u32 (r.ii : Int), .int .u16 r.ip]] w fun e w' => e = .returned (.int .u32 (extRu t r : Nat)) ∧ Below w.heap.size w w' := by
  by_cases h : r.k = 2
  · have HV : Hid (extRu t r = t.own) := by show _ = _; unfold extRu; rw [if_pos h]
    have e1 : (r.k == 2) = true := by rw [h]; rfl
    clear h
    go_enter Try.func53, Try.ntmps53
    have B1 := Below.refl w.heap.size w
    go_upto_region 1 with fail
    have T_2 := T0.past (o := (.cells #[.int .i64 r.k, .int .u8 r.pr, .int .u32 (r.si : Int), .int .i64 r.sb, .int .u32 (r.di : Int), .int .i64 r.db, .int .u32 (r.ex : Int), .int .u16 r.fr, .int .u16 r.to, .int .u32 (r.ii : Int), .int .u16 r.ip] 42))
    have R_3 := Box11.make w (.int .i64 r.k) (.int .u8 r.pr) (.int .u32 (r.si : Int)) (.int .i64 r.sb) (.int .u32 (r.di : Int)) (.int .i64 r.db) (.int .u32 (r.ex : Int)) (.int .u16 r.fr) (.int .u16 r.to) (.int .u32 (r.ii : Int)) (.int .u16 r.ip) 42
    have B4 := B1.alloc B1.size (.cells #[.int .i64 r.k, .int .u8 r.pr, .int .u32 (r.si : Int), .int .i64 r.sb, .int .u32 (r.di : Int), .int .i64 r.db, .int .u32 (r.ex : Int), .int .u16 r.fr, .int .u16 r.to, .int .u32 (r.ii : Int), .int .u16 r.ip] 42)
    clear T0 B1
    obtain ⟨u1, hu1⟩ : ∃ x, x = w.alloc (.cells #[.int .i64 r.k, .int .u8 r.pr, .int .u32 (r.si : Int), .int .i64 r.sb, .int .u32 (r.di : Int), .int .i64 r.db, .int .u32 (r.ex : Int), .int .u16 r.fr, .int .u16 r.to, .int .u32 (r.ii : Int), .int .u16 r.ip] 42) := ⟨_, rfl⟩
    rw [← hu1] at T_2 R_3 B4 ⊢
    clear hu1
    obtain ⟨_, r1_0, r1_1, r1_2, r1_3, r1_4, r1_5, r1_6, r1_7, r1_8, r1_9, r1_10⟩ := id R_3
    obtain ⟨_, t2_0, t2_1, t2_2, t2_3⟩ := id T_2
    go_wp2
    go_ret
    rw [HV.out]
    exact ⟨rfl, B4⟩
  · have HV : Hid (extRu t r = r.ex) := by show _ = _; unfold extRu; rw [if_neg h]
    have e1 : (r.k == 2) = false := by simpa using h
    clear h
    go_enter Try.func53, Try.ntmps53
    have B1 := Below.refl w.heap.size w
    go_upto_region 1 with fail
    have T_2 := T0.past (o := (.cells #[.int .i64 r.k, .int .u8 r.pr, .int .u32 (r.si : Int), .int .i64 r.sb, .int .u32 (r.di : Int), .int .i64 r.db, .int .u32 (r.ex : Int), .int .u16 r.fr, .int .u16 r.to, .int .u32 (r.ii : Int), .int .u16 r.ip] 42))
    have R_3 := Box11.make w (.int .i64 r.k) (.int .u8 r.pr) (.int .u32 (r.si : Int)) (.int .i64 r.sb) (.int .u32 (r.di : Int)) (.int .i64 r.db) (.int .u32 (r.ex : Int)) (.int .u16 r.fr) (.int .u16 r.to) (.int .u32 (r.ii : Int)) (.int .u16 r.ip) 42
    have B4 := B1.alloc B1.size (.cells #[.int .i64 r.k, .int .u8 r.pr, .int .u32 (r.si : Int), .int .i64 r.sb, .int .u32 (r.di : Int), .int .i64 r.db, .int .u32 (r.ex : Int), .int .u16 r.fr, .int .u16 r.to, .int .u32 (r.ii : Int), .int .u16 r.ip] 42)
    clear T0 B1
    obtain ⟨u1, hu1⟩ : ∃ x, x = w.alloc (.cells #[.int .i64 r.k, .int .u8 r.pr, .int .u32 (r.si : Int), .int .i64 r.sb, .int .u32 (r.di : Int), .int .i64 r.db, .int .u32 (r.ex : Int), .int .u16 r.fr, .int .u16 r.to, .int .u32 (r.ii : Int), .int .u16 r.ip] 42) := ⟨_, rfl⟩
    rw [← hu1] at T_2 R_3 B4 ⊢
    clear hu1
    obtain ⟨_, r1_0, r1_1, r1_2, r1_3, r1_4, r1_5, r1_6, r1_7, r1_8, r1_9, r1_10⟩ := id R_3
    obtain ⟨_, t2_0, t2_1, t2_2, t2_3⟩ := id T_2
    go_wp2
    go_ret
    rw [HV.out]
    exact ⟨rfl, B4⟩
set_option maxHeartbeats 1000000 in
set_option maxRecDepth 100000 in
theorem rinnerR_ (t : Tm) (a p : Nat) (S : Value) (w : World) (T0 : Box4 w p (.int .u32 (t.own : Int)) (.int .u32 (t.ip : Int)) (.int .i64 t.bits) S) (ha : a < 4294967296) (h1 : t.ip < 4294967296) (h2 : -9223372036854775808 ≤ t.bits ∧ t.bits ≤ 9223372036854775807) :
    Calls Try.prog 24 #[.pointer (some ⟨p, 0, none⟩), .int .u32 (a : Int)] w fun e w' => e = .returned (.bool (innerB t a)) ∧ Below w.heap.size w w' := by
  have c := fun u => rhas_ t.ip t.bits a u h1 ha h2
  have HV : Hid (hasV t.ip t.bits a = innerB t a) := rfl
  generalize hasV t.ip t.bits a = v at *
  go_enter Try.func24, Try.ntmps24
  have B1 := Below.refl w.heap.size w
  obtain ⟨_, t1_0, t1_1, t1_2, t1_3⟩ := id T0
  go_wp2_with fail
  refine (c _).mono ?_; rintro e w1 ⟨rfl, x1⟩
  have T_2 := T0.on x1
  have B3 := B1.trans (x1.mono B1.size)
  clear t1_0 t1_1 t1_2 t1_3 T0 B1 x1
  go_wp2
  go_ret
  rw [HV.out]
  exact ⟨rfl, B3⟩
theorem beq_cast (x y : Nat) : ((x : Int) == (y : Int)) = decide (x = y) := by
  by_cases h : x = y
  · subst h; simp
  · have h2 : ¬ (x : Int) = (y : Int) := by omega
    simp [h]; exact h2
theorem eqn_ (x y : Nat) : ∃ b : Bool, ((x : Int) == (y : Int)) = b ∧ (x == y) = b ∧ decide (x = y) = b := ⟨decide (x = y), beq_cast x y, by simp [BEq.beq], rfl⟩
theorem eqi_ (x y : Int) : ∃ b : Bool, (x == y) = b ∧ (x != y) = !b ∧ decide (x = y) = b := ⟨decide (x = y), by simp [BEq.beq], by simp [bne, BEq.beq], rfl⟩
set_option maxHeartbeats 1000000 in
set_option maxRecDepth 100000 in
theorem rclashR_33 (t : Tm) (a b : Ru) (p : Nat) (S : Value) (w : World) (T0 : Box4 w p (.int .u32 (t.own : Int)) (.int .u32 (t.ip : Int)) (.int .i64 t.bits) S) (ka : a.k = 3) (kb : b.k = 3) :
    Calls Try.prog 45 #[.pointer (some ⟨p, 0, none⟩), .agg #[.int .i64 a.k, .int .u8 a.pr, .int .u32 (a.si : Int), .int .i64 a.sb, .int .u32 (a.di : Int), .int .i64 a.db, .int .u32 (a.ex : Int), .int .u16 a.fr, .int .u16 a.to, .int .u32 (a.ii : Int), .int .u16 a.ip], .agg #[.int .i64 b.k, .int .u8 b.pr, .int .u32 (b.si : Int), .int .i64 b.sb, .int .u32 (b.di : Int), .int .i64 b.db, .int .u32 (b.ex : Int), .int .u16 b.fr, .int .u16 b.to, .int .u32 (b.ii : Int), .int .u16 b.ip]] w fun e w' => e = .returned (.bool (clashRu t a b)) ∧ Below w.heap.size w w' := by
  obtain ⟨x1, p1, q1, l1⟩ := eqi_ a.pr b.pr
  obtain ⟨x2, p2, q2, l2⟩ := eqn_ a.ex b.ex
  obtain ⟨x3, p3, q3, l3⟩ := eqi_ a.fr b.fr
  obtain ⟨x4, p4, q4, l4⟩ := eqn_ a.ii b.ii
  obtain ⟨x5, p5, q5, l5⟩ := eqi_ a.ip b.ip
  have HV : Hid (clashRu t a b = (x1 && ((x2 && x3) || (x4 && x5)))) := by show _ = _; unfold clashRu; rw [if_pos ka, if_pos kb, l1, l2, l3, l4, l5]
  have e1 : (a.k == 3) = true := by rw [ka]; rfl
  have e2 : (b.k == 3) = true := by rw [kb]; rfl
  clear ka kb l1 l2 l3 l4 l5
  cases x1 <;> cases x2 <;> cases x3 <;> cases x4 <;> cases x5
  all_goals
    simp only [Bool.not_true, Bool.not_false, Bool.and_true, Bool.and_false, Bool.true_and, Bool.false_and, Bool.or_true, Bool.or_false, Bool.true_or, Bool.false_or] at HV q1 q3 q5
    go_enter Try.func45, Try.ntmps45
    have B1 := Below.refl w.heap.size w
    go_upto_region 1 with fail
    have T_2 := T0.past (o := (.cells #[.int .i64 a.k, .int .u8 a.pr, .int .u32 (a.si : Int), .int .i64 a.sb, .int .u32 (a.di : Int), .int .i64 a.db, .int .u32 (a.ex : Int), .int .u16 a.fr, .int .u16 a.to, .int .u32 (a.ii : Int), .int .u16 a.ip] 42))
    have A_3 := Box11.make w (.int .i64 a.k) (.int .u8 a.pr) (.int .u32 (a.si : Int)) (.int .i64 a.sb) (.int .u32 (a.di : Int)) (.int .i64 a.db) (.int .u32 (a.ex : Int)) (.int .u16 a.fr) (.int .u16 a.to) (.int .u32 (a.ii : Int)) (.int .u16 a.ip) 42
    have B4 := B1.alloc B1.size (.cells #[.int .i64 a.k, .int .u8 a.pr, .int .u32 (a.si : Int), .int .i64 a.sb, .int .u32 (a.di : Int), .int .i64 a.db, .int .u32 (a.ex : Int), .int .u16 a.fr, .int .u16 a.to, .int .u32 (a.ii : Int), .int .u16 a.ip] 42)
    clear T0 B1
    have T_5 := T_2.past (o := (.cells #[.int .i64 b.k, .int .u8 b.pr, .int .u32 (b.si : Int), .int .i64 b.sb, .int .u32 (b.di : Int), .int .i64 b.db, .int .u32 (b.ex : Int), .int .u16 b.fr, .int .u16 b.to, .int .u32 (b.ii : Int), .int .u16 b.ip] 42))
    have A_6 := A_3.past (o := (.cells #[.int .i64 b.k, .int .u8 b.pr, .int .u32 (b.si : Int), .int .i64 b.sb, .int .u32 (b.di : Int), .int .i64 b.db, .int .u32 (b.ex : Int), .int .u16 b.fr, .int .u16 b.to, .int .u32 (b.ii : Int), .int .u16 b.ip] 42))
    have hs_ : (w.alloc (.cells #[.int .i64 a.k, .int .u8 a.pr, .int .u32 (a.si : Int), .int .i64 a.sb, .int .u32 (a.di : Int), .int .i64 a.db, .int .u32 (a.ex : Int), .int .u16 a.fr, .int .u16 a.to, .int .u32 (a.ii : Int), .int .u16 a.ip] 42)).heap.size = w.heap.size + 1 := by simp
    have B_7 := Box11.make (w.alloc (.cells #[.int .i64 a.k, .int .u8 a.pr, .int .u32 (a.si : Int), .int .i64 a.sb, .int .u32 (a.di : Int), .int .i64 a.db, .int .u32 (a.ex : Int), .int .u16 a.fr, .int .u16 a.to, .int .u32 (a.ii : Int), .int .u16 a.ip] 42)) (.int .i64 b.k) (.int .u8 b.pr) (.int .u32 (b.si : Int)) (.int .i64 b.sb) (.int .u32 (b.di : Int)) (.int .i64 b.db) (.int .u32 (b.ex : Int)) (.int .u16 b.fr) (.int .u16 b.to) (.int .u32 (b.ii : Int)) (.int .u16 b.ip) 42
    rw [hs_] at B_7
    clear hs_
    have B8 := B4.alloc B4.size (.cells #[.int .i64 b.k, .int .u8 b.pr, .int .u32 (b.si : Int), .int .i64 b.sb, .int .u32 (b.di : Int), .int .i64 b.db, .int .u32 (b.ex : Int), .int .u16 b.fr, .int .u16 b.to, .int .u32 (b.ii : Int), .int .u16 b.ip] 42)
    clear T_2 A_3 B4
    obtain ⟨u1, hu1⟩ : ∃ x, x = (w.alloc (.cells #[.int .i64 a.k, .int .u8 a.pr, .int .u32 (a.si : Int), .int .i64 a.sb, .int .u32 (a.di : Int), .int .i64 a.db, .int .u32 (a.ex : Int), .int .u16 a.fr, .int .u16 a.to, .int .u32 (a.ii : Int), .int .u16 a.ip] 42)).alloc (.cells #[.int .i64 b.k, .int .u8 b.pr, .int .u32 (b.si : Int), .int .i64 b.sb, .int .u32 (b.di : Int), .int .i64 b.db, .int .u32 (b.ex : Int), .int .u16 b.fr, .int .u16 b.to, .int .u32 (b.ii : Int), .int .u16 b.ip] 42) := ⟨_, rfl⟩
    rw [← hu1] at T_5 A_6 B_7 B8 ⊢
    clear hu1
    obtain ⟨_, a1_0, a1_1, a1_2, a1_3, a1_4, a1_5, a1_6, a1_7, a1_8, a1_9, a1_10⟩ := id A_6
    obtain ⟨_, b2_0, b2_1, b2_2, b2_3, b2_4, b2_5, b2_6, b2_7, b2_8, b2_9, b2_10⟩ := id B_7
    go_wp2
    go_ret
    rw [HV.out]
    exact ⟨rfl, B8⟩
/-- A box of 11 cells that is written whole: its cells, and its marks. -/
theorem box11f_ {W0 W : World} {b n : Nat} {v0 v1 v2 v3 v4 v5 v6 v7 v8 v9 v10 : Value} {M : World → Prop} (h : ∀ j, j < 11 → (W.cell? ⟨b, j, none⟩).isSome = true) (hb : Below n W0 W) (hn : n ≤ b)
    (k : ∀ X : World, X.cell? ⟨b, 0, none⟩ = some v0 → X.cell? ⟨b, 1, none⟩ = some v1 → X.cell? ⟨b, 2, none⟩ = some v2 → X.cell? ⟨b, 3, none⟩ = some v3 → X.cell? ⟨b, 4, none⟩ = some v4 → X.cell? ⟨b, 5, none⟩ = some v5 → X.cell? ⟨b, 6, none⟩ = some v6 → X.cell? ⟨b, 7, none⟩ = some v7 → X.cell? ⟨b, 8, none⟩ = some v8 → X.cell? ⟨b, 9, none⟩ = some v9 → X.cell? ⟨b, 10, none⟩ = some v10 → Below n W0 X → (∀ a : Addr, ¬ b = a.block → X.cell? a = W.cell? a) → X.heap.size = W.heap.size → (∀ a : Addr, X.frozen? a = W.frozen? a) → M X) :
    M (((((((((((W.setCell ⟨b, 0, none⟩ v0).setCell ⟨b, 1, none⟩ v1).setCell ⟨b, 2, none⟩ v2).setCell ⟨b, 3, none⟩ v3).setCell ⟨b, 4, none⟩ v4).setCell ⟨b, 5, none⟩ v5).setCell ⟨b, 6, none⟩ v6).setCell ⟨b, 7, none⟩ v7).setCell ⟨b, 8, none⟩ v8).setCell ⟨b, 9, none⟩ v9).setCell ⟨b, 10, none⟩ v10) := by
  have f : ∀ a : Addr, (((((((((((W.setCell ⟨b, 0, none⟩ v0).setCell ⟨b, 1, none⟩ v1).setCell ⟨b, 2, none⟩ v2).setCell ⟨b, 3, none⟩ v3).setCell ⟨b, 4, none⟩ v4).setCell ⟨b, 5, none⟩ v5).setCell ⟨b, 6, none⟩ v6).setCell ⟨b, 7, none⟩ v7).setCell ⟨b, 8, none⟩ v8).setCell ⟨b, 9, none⟩ v9).setCell ⟨b, 10, none⟩ v10).frozen? a = W.frozen? a := by intro a; simp
  have key := box11_ (W0 := W0) (W := W) (b := b) (n := n) (v0 := v0) (v1 := v1) (v2 := v2) (v3 := v3) (v4 := v4) (v5 := v5) (v6 := v6) (v7 := v7) (v8 := v8) (v9 := v9) (v10 := v10) (M := fun X => (∀ a : Addr, X.frozen? a = W.frozen? a) → M X) h hb hn k
  exact key f
set_option maxHeartbeats 1000000 in
set_option maxRecDepth 100000 in
theorem rclashR_00 (t : Tm) (a b : Ru) (p : Nat) (S : Value) (w : World) (T0 : Box4 w p (.int .u32 (t.own : Int)) (.int .u32 (t.ip : Int)) (.int .i64 t.bits) S) (ka : ¬ a.k = 3) (kb : ¬ b.k = 3) :
    Calls Try.prog 45 #[.pointer (some ⟨p, 0, none⟩), .agg #[.int .i64 a.k, .int .u8 a.pr, .int .u32 (a.si : Int), .int .i64 a.sb, .int .u32 (a.di : Int), .int .i64 a.db, .int .u32 (a.ex : Int), .int .u16 a.fr, .int .u16 a.to, .int .u32 (a.ii : Int), .int .u16 a.ip], .agg #[.int .i64 b.k, .int .u8 b.pr, .int .u32 (b.si : Int), .int .i64 b.sb, .int .u32 (b.di : Int), .int .i64 b.db, .int .u32 (b.ex : Int), .int .u16 b.fr, .int .u16 b.to, .int .u32 (b.ii : Int), .int .u16 b.ip]] w fun e w' => e = .returned (.bool (clashRu t a b)) ∧ Below w.heap.size w w' := by
  have HV : Hid (clashRu t a b = false) := by show _ = _; unfold clashRu; rw [if_neg ka, if_neg kb]
  have e1 : (a.k == 3) = false := by simpa using ka
  have e2 : (b.k == 3) = false := by simpa using kb
  have e3 : (a.k != 3) = true := by simpa using ka
  clear ka kb
  go_enter Try.func45, Try.ntmps45
  have B1 := Below.refl w.heap.size w
  go_upto_region 1 with fail
  have T_2 := T0.past (o := (.cells #[.int .i64 a.k, .int .u8 a.pr, .int .u32 (a.si : Int), .int .i64 a.sb, .int .u32 (a.di : Int), .int .i64 a.db, .int .u32 (a.ex : Int), .int .u16 a.fr, .int .u16 a.to, .int .u32 (a.ii : Int), .int .u16 a.ip] 42))
  have A_3 := Box11.make w (.int .i64 a.k) (.int .u8 a.pr) (.int .u32 (a.si : Int)) (.int .i64 a.sb) (.int .u32 (a.di : Int)) (.int .i64 a.db) (.int .u32 (a.ex : Int)) (.int .u16 a.fr) (.int .u16 a.to) (.int .u32 (a.ii : Int)) (.int .u16 a.ip) 42
  have B4 := B1.alloc B1.size (.cells #[.int .i64 a.k, .int .u8 a.pr, .int .u32 (a.si : Int), .int .i64 a.sb, .int .u32 (a.di : Int), .int .i64 a.db, .int .u32 (a.ex : Int), .int .u16 a.fr, .int .u16 a.to, .int .u32 (a.ii : Int), .int .u16 a.ip] 42)
  clear T0 B1
  have T_5 := T_2.past (o := (.cells #[.int .i64 b.k, .int .u8 b.pr, .int .u32 (b.si : Int), .int .i64 b.sb, .int .u32 (b.di : Int), .int .i64 b.db, .int .u32 (b.ex : Int), .int .u16 b.fr, .int .u16 b.to, .int .u32 (b.ii : Int), .int .u16 b.ip] 42))
  have A_6 := A_3.past (o := (.cells #[.int .i64 b.k, .int .u8 b.pr, .int .u32 (b.si : Int), .int .i64 b.sb, .int .u32 (b.di : Int), .int .i64 b.db, .int .u32 (b.ex : Int), .int .u16 b.fr, .int .u16 b.to, .int .u32 (b.ii : Int), .int .u16 b.ip] 42))
  have hs_ : (w.alloc (.cells #[.int .i64 a.k, .int .u8 a.pr, .int .u32 (a.si : Int), .int .i64 a.sb, .int .u32 (a.di : Int), .int .i64 a.db, .int .u32 (a.ex : Int), .int .u16 a.fr, .int .u16 a.to, .int .u32 (a.ii : Int), .int .u16 a.ip] 42)).heap.size = w.heap.size + 1 := by simp
  have B_7 := Box11.make (w.alloc (.cells #[.int .i64 a.k, .int .u8 a.pr, .int .u32 (a.si : Int), .int .i64 a.sb, .int .u32 (a.di : Int), .int .i64 a.db, .int .u32 (a.ex : Int), .int .u16 a.fr, .int .u16 a.to, .int .u32 (a.ii : Int), .int .u16 a.ip] 42)) (.int .i64 b.k) (.int .u8 b.pr) (.int .u32 (b.si : Int)) (.int .i64 b.sb) (.int .u32 (b.di : Int)) (.int .i64 b.db) (.int .u32 (b.ex : Int)) (.int .u16 b.fr) (.int .u16 b.to) (.int .u32 (b.ii : Int)) (.int .u16 b.ip) 42
  rw [hs_] at B_7
  clear hs_
  have B8 := B4.alloc B4.size (.cells #[.int .i64 b.k, .int .u8 b.pr, .int .u32 (b.si : Int), .int .i64 b.sb, .int .u32 (b.di : Int), .int .i64 b.db, .int .u32 (b.ex : Int), .int .u16 b.fr, .int .u16 b.to, .int .u32 (b.ii : Int), .int .u16 b.ip] 42)
  clear T_2 A_3 B4
  obtain ⟨u1, hu1⟩ : ∃ x, x = (w.alloc (.cells #[.int .i64 a.k, .int .u8 a.pr, .int .u32 (a.si : Int), .int .i64 a.sb, .int .u32 (a.di : Int), .int .i64 a.db, .int .u32 (a.ex : Int), .int .u16 a.fr, .int .u16 a.to, .int .u32 (a.ii : Int), .int .u16 a.ip] 42)).alloc (.cells #[.int .i64 b.k, .int .u8 b.pr, .int .u32 (b.si : Int), .int .i64 b.sb, .int .u32 (b.di : Int), .int .i64 b.db, .int .u32 (b.ex : Int), .int .u16 b.fr, .int .u16 b.to, .int .u32 (b.ii : Int), .int .u16 b.ip] 42) := ⟨_, rfl⟩
  rw [← hu1] at T_5 A_6 B_7 B8 ⊢
  clear hu1
  obtain ⟨_, a1_0, a1_1, a1_2, a1_3, a1_4, a1_5, a1_6, a1_7, a1_8, a1_9, a1_10⟩ := id A_6
  obtain ⟨_, b2_0, b2_1, b2_2, b2_3, b2_4, b2_5, b2_6, b2_7, b2_8, b2_9, b2_10⟩ := id B_7
  go_wp2
  go_ret
  rw [HV.out]
  exact ⟨rfl, B8⟩
set_option maxHeartbeats 1000000 in
set_option maxRecDepth 100000 in
theorem rclashR_30 (t : Tm) (a b : Ru) (p : Nat) (S : Value) (w : World) (T0 : Box4 w p (.int .u32 (t.own : Int)) (.int .u32 (t.ip : Int)) (.int .i64 t.bits) S) (ka : a.k = 3) (kb : ¬ b.k = 3) :
    Calls Try.prog 45 #[.pointer (some ⟨p, 0, none⟩), .agg #[.int .i64 a.k, .int .u8 a.pr, .int .u32 (a.si : Int), .int .i64 a.sb, .int .u32 (a.di : Int), .int .i64 a.db, .int .u32 (a.ex : Int), .int .u16 a.fr, .int .u16 a.to, .int .u32 (a.ii : Int), .int .u16 a.ip], .agg #[.int .i64 b.k, .int .u8 b.pr, .int .u32 (b.si : Int), .int .i64 b.sb, .int .u32 (b.di : Int), .int .i64 b.db, .int .u32 (b.ex : Int), .int .u16 b.fr, .int .u16 b.to, .int .u32 (b.ii : Int), .int .u16 b.ip]] w fun e w' => e = .returned (.bool (clashRu t a b)) ∧ Below w.heap.size w w' := by
  obtain ⟨z1, p1, q1, l1⟩ := eqi_ b.pr 0
  obtain ⟨z2, p2, q2, l2⟩ := eqi_ b.pr a.pr
  obtain ⟨c1, p3, q3, l3⟩ := eqn_ (extRu t b) a.ex
  obtain ⟨c2, l4⟩ : ∃ x : Bool, decide (b.fr ≤ a.fr) = x := ⟨_, rfl⟩
  obtain ⟨c3, l5⟩ : ∃ x : Bool, decide (a.fr ≤ b.to) = x := ⟨_, rfl⟩
  have HV : Hid (clashRu t a b = ((z1 || z2) && c1 && c2 && c3)) := by show _ = _; unfold clashRu; rw [if_pos ka, if_neg kb]; unfold clash1; rw [l1, l2, l3, l4, l5]
  have e1 : (a.k == 3) = true := by rw [ka]; rfl
  have e2 : (b.k == 3) = false := by simpa using kb
  have e3 : (a.k != 3) = false := by rw [ka]; rfl
  have TZ := Lib.hid T0
  clear ka kb l1 l2 l3
  have key : (z1 = false ∧ z2 = false) ∨ ((z1 = true ∨ (z1 = false ∧ z2 = true)) ∧ (c1 = false ∨ (c1 = true ∧ c2 = false) ∨ (c1 = true ∧ c2 = true ∧ c3 = false) ∨ (c1 = true ∧ c2 = true ∧ c3 = true))) := by cases z1 <;> cases z2 <;> cases c1 <;> cases c2 <;> cases c3 <;> simp
  rcases key with ⟨rfl, rfl⟩ | ⟨hz, hc⟩
  · simp only [Bool.not_true, Bool.not_false, Bool.and_true, Bool.and_false, Bool.true_and, Bool.false_and, Bool.or_true, Bool.or_false, Bool.true_or, Bool.false_or] at HV q1 q2
    go_enter Try.func45, Try.ntmps45
    have B1 := Below.refl w.heap.size w
    go_upto_region 1 with fail
    have T_2 := T0.past (o := (.cells #[.int .i64 a.k, .int .u8 a.pr, .int .u32 (a.si : Int), .int .i64 a.sb, .int .u32 (a.di : Int), .int .i64 a.db, .int .u32 (a.ex : Int), .int .u16 a.fr, .int .u16 a.to, .int .u32 (a.ii : Int), .int .u16 a.ip] 42))
    have A_3 := Box11.make w (.int .i64 a.k) (.int .u8 a.pr) (.int .u32 (a.si : Int)) (.int .i64 a.sb) (.int .u32 (a.di : Int)) (.int .i64 a.db) (.int .u32 (a.ex : Int)) (.int .u16 a.fr) (.int .u16 a.to) (.int .u32 (a.ii : Int)) (.int .u16 a.ip) 42
    have B4 := B1.alloc B1.size (.cells #[.int .i64 a.k, .int .u8 a.pr, .int .u32 (a.si : Int), .int .i64 a.sb, .int .u32 (a.di : Int), .int .i64 a.db, .int .u32 (a.ex : Int), .int .u16 a.fr, .int .u16 a.to, .int .u32 (a.ii : Int), .int .u16 a.ip] 42)
    clear T0 B1
    have T_5 := T_2.past (o := (.cells #[.int .i64 b.k, .int .u8 b.pr, .int .u32 (b.si : Int), .int .i64 b.sb, .int .u32 (b.di : Int), .int .i64 b.db, .int .u32 (b.ex : Int), .int .u16 b.fr, .int .u16 b.to, .int .u32 (b.ii : Int), .int .u16 b.ip] 42))
    have A_6 := A_3.past (o := (.cells #[.int .i64 b.k, .int .u8 b.pr, .int .u32 (b.si : Int), .int .i64 b.sb, .int .u32 (b.di : Int), .int .i64 b.db, .int .u32 (b.ex : Int), .int .u16 b.fr, .int .u16 b.to, .int .u32 (b.ii : Int), .int .u16 b.ip] 42))
    have hs_ : (w.alloc (.cells #[.int .i64 a.k, .int .u8 a.pr, .int .u32 (a.si : Int), .int .i64 a.sb, .int .u32 (a.di : Int), .int .i64 a.db, .int .u32 (a.ex : Int), .int .u16 a.fr, .int .u16 a.to, .int .u32 (a.ii : Int), .int .u16 a.ip] 42)).heap.size = w.heap.size + 1 := by simp
    have B_7 := Box11.make (w.alloc (.cells #[.int .i64 a.k, .int .u8 a.pr, .int .u32 (a.si : Int), .int .i64 a.sb, .int .u32 (a.di : Int), .int .i64 a.db, .int .u32 (a.ex : Int), .int .u16 a.fr, .int .u16 a.to, .int .u32 (a.ii : Int), .int .u16 a.ip] 42)) (.int .i64 b.k) (.int .u8 b.pr) (.int .u32 (b.si : Int)) (.int .i64 b.sb) (.int .u32 (b.di : Int)) (.int .i64 b.db) (.int .u32 (b.ex : Int)) (.int .u16 b.fr) (.int .u16 b.to) (.int .u32 (b.ii : Int)) (.int .u16 b.ip) 42
    rw [hs_] at B_7
    clear hs_
    have B8 := B4.alloc B4.size (.cells #[.int .i64 b.k, .int .u8 b.pr, .int .u32 (b.si : Int), .int .i64 b.sb, .int .u32 (b.di : Int), .int .i64 b.db, .int .u32 (b.ex : Int), .int .u16 b.fr, .int .u16 b.to, .int .u32 (b.ii : Int), .int .u16 b.ip] 42)
    clear T_2 A_3 B4
    obtain ⟨u1, hu1⟩ : ∃ x, x = (w.alloc (.cells #[.int .i64 a.k, .int .u8 a.pr, .int .u32 (a.si : Int), .int .i64 a.sb, .int .u32 (a.di : Int), .int .i64 a.db, .int .u32 (a.ex : Int), .int .u16 a.fr, .int .u16 a.to, .int .u32 (a.ii : Int), .int .u16 a.ip] 42)).alloc (.cells #[.int .i64 b.k, .int .u8 b.pr, .int .u32 (b.si : Int), .int .i64 b.sb, .int .u32 (b.di : Int), .int .i64 b.db, .int .u32 (b.ex : Int), .int .u16 b.fr, .int .u16 b.to, .int .u32 (b.ii : Int), .int .u16 b.ip] 42) := ⟨_, rfl⟩
    rw [← hu1] at T_5 A_6 B_7 B8 ⊢
    clear hu1
    obtain ⟨_, a1_0, a1_1, a1_2, a1_3, a1_4, a1_5, a1_6, a1_7, a1_8, a1_9, a1_10⟩ := id A_6
    obtain ⟨_, b2_0, b2_1, b2_2, b2_3, b2_4, b2_5, b2_6, b2_7, b2_8, b2_9, b2_10⟩ := id B_7
    go_wp2
    go_ret
    rw [HV.out]
    exact ⟨rfl, B8⟩
  · rcases hz with rfl | ⟨rfl, rfl⟩ <;> rcases hc with rfl | ⟨rfl, rfl⟩ | ⟨rfl, rfl, rfl⟩ | ⟨rfl, rfl, rfl⟩
    all_goals
      simp only [Bool.not_true, Bool.not_false, Bool.and_true, Bool.and_false, Bool.true_and, Bool.false_and, Bool.or_true, Bool.or_false, Bool.true_or, Bool.false_or] at HV q1 q2
      go_enter Try.func45, Try.ntmps45
      have B1 := Below.refl w.heap.size w
      go_upto_region 1 with fail
      have T_2 := T0.past (o := (.cells #[.int .i64 a.k, .int .u8 a.pr, .int .u32 (a.si : Int), .int .i64 a.sb, .int .u32 (a.di : Int), .int .i64 a.db, .int .u32 (a.ex : Int), .int .u16 a.fr, .int .u16 a.to, .int .u32 (a.ii : Int), .int .u16 a.ip] 42))
      have A_3 := Box11.make w (.int .i64 a.k) (.int .u8 a.pr) (.int .u32 (a.si : Int)) (.int .i64 a.sb) (.int .u32 (a.di : Int)) (.int .i64 a.db) (.int .u32 (a.ex : Int)) (.int .u16 a.fr) (.int .u16 a.to) (.int .u32 (a.ii : Int)) (.int .u16 a.ip) 42
      have B4 := B1.alloc B1.size (.cells #[.int .i64 a.k, .int .u8 a.pr, .int .u32 (a.si : Int), .int .i64 a.sb, .int .u32 (a.di : Int), .int .i64 a.db, .int .u32 (a.ex : Int), .int .u16 a.fr, .int .u16 a.to, .int .u32 (a.ii : Int), .int .u16 a.ip] 42)
      clear T0 B1
      have T_5 := T_2.past (o := (.cells #[.int .i64 b.k, .int .u8 b.pr, .int .u32 (b.si : Int), .int .i64 b.sb, .int .u32 (b.di : Int), .int .i64 b.db, .int .u32 (b.ex : Int), .int .u16 b.fr, .int .u16 b.to, .int .u32 (b.ii : Int), .int .u16 b.ip] 42))
      have A_6 := A_3.past (o := (.cells #[.int .i64 b.k, .int .u8 b.pr, .int .u32 (b.si : Int), .int .i64 b.sb, .int .u32 (b.di : Int), .int .i64 b.db, .int .u32 (b.ex : Int), .int .u16 b.fr, .int .u16 b.to, .int .u32 (b.ii : Int), .int .u16 b.ip] 42))
      have hs_ : (w.alloc (.cells #[.int .i64 a.k, .int .u8 a.pr, .int .u32 (a.si : Int), .int .i64 a.sb, .int .u32 (a.di : Int), .int .i64 a.db, .int .u32 (a.ex : Int), .int .u16 a.fr, .int .u16 a.to, .int .u32 (a.ii : Int), .int .u16 a.ip] 42)).heap.size = w.heap.size + 1 := by simp
      have B_7 := Box11.make (w.alloc (.cells #[.int .i64 a.k, .int .u8 a.pr, .int .u32 (a.si : Int), .int .i64 a.sb, .int .u32 (a.di : Int), .int .i64 a.db, .int .u32 (a.ex : Int), .int .u16 a.fr, .int .u16 a.to, .int .u32 (a.ii : Int), .int .u16 a.ip] 42)) (.int .i64 b.k) (.int .u8 b.pr) (.int .u32 (b.si : Int)) (.int .i64 b.sb) (.int .u32 (b.di : Int)) (.int .i64 b.db) (.int .u32 (b.ex : Int)) (.int .u16 b.fr) (.int .u16 b.to) (.int .u32 (b.ii : Int)) (.int .u16 b.ip) 42
      rw [hs_] at B_7
      clear hs_
      have B8 := B4.alloc B4.size (.cells #[.int .i64 b.k, .int .u8 b.pr, .int .u32 (b.si : Int), .int .i64 b.sb, .int .u32 (b.di : Int), .int .i64 b.db, .int .u32 (b.ex : Int), .int .u16 b.fr, .int .u16 b.to, .int .u32 (b.ii : Int), .int .u16 b.ip] 42)
      clear T_2 A_3 B4
      obtain ⟨u1, hu1⟩ : ∃ x, x = (w.alloc (.cells #[.int .i64 a.k, .int .u8 a.pr, .int .u32 (a.si : Int), .int .i64 a.sb, .int .u32 (a.di : Int), .int .i64 a.db, .int .u32 (a.ex : Int), .int .u16 a.fr, .int .u16 a.to, .int .u32 (a.ii : Int), .int .u16 a.ip] 42)).alloc (.cells #[.int .i64 b.k, .int .u8 b.pr, .int .u32 (b.si : Int), .int .i64 b.sb, .int .u32 (b.di : Int), .int .i64 b.db, .int .u32 (b.ex : Int), .int .u16 b.fr, .int .u16 b.to, .int .u32 (b.ii : Int), .int .u16 b.ip] 42) := ⟨_, rfl⟩
      rw [← hu1] at T_5 A_6 B_7 B8 ⊢
      clear hu1
      obtain ⟨_, a1_0, a1_1, a1_2, a1_3, a1_4, a1_5, a1_6, a1_7, a1_8, a1_9, a1_10⟩ := id A_6
      obtain ⟨_, b2_0, b2_1, b2_2, b2_3, b2_4, b2_5, b2_6, b2_7, b2_8, b2_9, b2_10⟩ := id B_7
      go_upto_region 7 with fail
      clear a1_0 a1_1 a1_2 a1_3 a1_4 a1_5 a1_6 a1_7 a1_8 a1_9 a1_10 b2_0 b2_1 b2_2 b2_3 b2_4 b2_5 b2_6 b2_7 b2_8 b2_9 b2_10
      obtain ⟨za, ga0, ga1, ga2, ga3, ga4, ga5, ga6, ga7, ga8, ga9, ga10⟩ := id A_6
      have Fa0 : ∀ x : Later u1.heap.size u1, x.u.cell? ⟨w.heap.size, 0, none⟩ = some (.int .i64 a.k) := fun x => x.block za ga0
      have Fa1 : ∀ x : Later u1.heap.size u1, x.u.cell? ⟨w.heap.size, 1, none⟩ = some (.int .u8 a.pr) := fun x => x.block za ga1
      have Fa2 : ∀ x : Later u1.heap.size u1, x.u.cell? ⟨w.heap.size, 2, none⟩ = some (.int .u32 (a.si : Int)) := fun x => x.block za ga2
      have Fa3 : ∀ x : Later u1.heap.size u1, x.u.cell? ⟨w.heap.size, 3, none⟩ = some (.int .i64 a.sb) := fun x => x.block za ga3
      have Fa4 : ∀ x : Later u1.heap.size u1, x.u.cell? ⟨w.heap.size, 4, none⟩ = some (.int .u32 (a.di : Int)) := fun x => x.block za ga4
      have Fa5 : ∀ x : Later u1.heap.size u1, x.u.cell? ⟨w.heap.size, 5, none⟩ = some (.int .i64 a.db) := fun x => x.block za ga5
      have Fa6 : ∀ x : Later u1.heap.size u1, x.u.cell? ⟨w.heap.size, 6, none⟩ = some (.int .u32 (a.ex : Int)) := fun x => x.block za ga6
      have Fa7 : ∀ x : Later u1.heap.size u1, x.u.cell? ⟨w.heap.size, 7, none⟩ = some (.int .u16 a.fr) := fun x => x.block za ga7
      have Fa8 : ∀ x : Later u1.heap.size u1, x.u.cell? ⟨w.heap.size, 8, none⟩ = some (.int .u16 a.to) := fun x => x.block za ga8
      have Fa9 : ∀ x : Later u1.heap.size u1, x.u.cell? ⟨w.heap.size, 9, none⟩ = some (.int .u32 (a.ii : Int)) := fun x => x.block za ga9
      have Fa10 : ∀ x : Later u1.heap.size u1, x.u.cell? ⟨w.heap.size, 10, none⟩ = some (.int .u16 a.ip) := fun x => x.block za ga10
      clear ga0 ga1 ga2 ga3 ga4 ga5 ga6 ga7 ga8 ga9 ga10
      obtain ⟨zb, gb0, gb1, gb2, gb3, gb4, gb5, gb6, gb7, gb8, gb9, gb10⟩ := id B_7
      have Fb0 : ∀ x : Later u1.heap.size u1, x.u.cell? ⟨w.heap.size + 1, 0, none⟩ = some (.int .i64 b.k) := fun x => x.block zb gb0
      have Fb1 : ∀ x : Later u1.heap.size u1, x.u.cell? ⟨w.heap.size + 1, 1, none⟩ = some (.int .u8 b.pr) := fun x => x.block zb gb1
      have Fb2 : ∀ x : Later u1.heap.size u1, x.u.cell? ⟨w.heap.size + 1, 2, none⟩ = some (.int .u32 (b.si : Int)) := fun x => x.block zb gb2
      have Fb3 : ∀ x : Later u1.heap.size u1, x.u.cell? ⟨w.heap.size + 1, 3, none⟩ = some (.int .i64 b.sb) := fun x => x.block zb gb3
      have Fb4 : ∀ x : Later u1.heap.size u1, x.u.cell? ⟨w.heap.size + 1, 4, none⟩ = some (.int .u32 (b.di : Int)) := fun x => x.block zb gb4
      have Fb5 : ∀ x : Later u1.heap.size u1, x.u.cell? ⟨w.heap.size + 1, 5, none⟩ = some (.int .i64 b.db) := fun x => x.block zb gb5
      have Fb6 : ∀ x : Later u1.heap.size u1, x.u.cell? ⟨w.heap.size + 1, 6, none⟩ = some (.int .u32 (b.ex : Int)) := fun x => x.block zb gb6
      have Fb7 : ∀ x : Later u1.heap.size u1, x.u.cell? ⟨w.heap.size + 1, 7, none⟩ = some (.int .u16 b.fr) := fun x => x.block zb gb7
      have Fb8 : ∀ x : Later u1.heap.size u1, x.u.cell? ⟨w.heap.size + 1, 8, none⟩ = some (.int .u16 b.to) := fun x => x.block zb gb8
      have Fb9 : ∀ x : Later u1.heap.size u1, x.u.cell? ⟨w.heap.size + 1, 9, none⟩ = some (.int .u32 (b.ii : Int)) := fun x => x.block zb gb9
      have Fb10 : ∀ x : Later u1.heap.size u1, x.u.cell? ⟨w.heap.size + 1, 10, none⟩ = some (.int .u16 b.ip) := fun x => x.block zb gb10
      clear gb0 gb1 gb2 gb3 gb4 gb5 gb6 gb7 gb8 gb9 gb10
      refine region_later (B := u1.heap.size) (by kernel_rfl) (by kernel_rfl) ?_
      repeat (go_big_quiet_step (first
        | (go_at_call 53; exact later_of _ (Nat.le_refl _) (rextR_ t b p S _ (T_5.on (Later.h _))))))
      refine later_end fun w2 x2 => ?_
      have T_9 := T_5.on x2
      have A_10 := A_6.on x2
      have B_11 := B_7.on x2
      have B12 := B8.trans (x2.mono B8.size)
      clear Fa0 Fa1 Fa2 Fa3 Fa4 Fa5 Fa6 Fa7 Fa8 Fa9 Fa10 za Fb0 Fb1 Fb2 Fb3 Fb4 Fb5 Fb6 Fb7 Fb8 Fb9 Fb10 zb T_5 A_6 B_7 B8 x2
      go_wp2
      go_ret
      rw [HV.out]
      exact ⟨rfl, B12⟩
set_option maxHeartbeats 1000000 in
set_option maxRecDepth 100000 in
theorem rclashR_03 (t : Tm) (a b : Ru) (p : Nat) (S : Value) (w : World) (T0 : Box4 w p (.int .u32 (t.own : Int)) (.int .u32 (t.ip : Int)) (.int .i64 t.bits) S) (ka : ¬ a.k = 3) (kb : b.k = 3) :
    Calls Try.prog 45 #[.pointer (some ⟨p, 0, none⟩), .agg #[.int .i64 a.k, .int .u8 a.pr, .int .u32 (a.si : Int), .int .i64 a.sb, .int .u32 (a.di : Int), .int .i64 a.db, .int .u32 (a.ex : Int), .int .u16 a.fr, .int .u16 a.to, .int .u32 (a.ii : Int), .int .u16 a.ip], .agg #[.int .i64 b.k, .int .u8 b.pr, .int .u32 (b.si : Int), .int .i64 b.sb, .int .u32 (b.di : Int), .int .i64 b.db, .int .u32 (b.ex : Int), .int .u16 b.fr, .int .u16 b.to, .int .u32 (b.ii : Int), .int .u16 b.ip]] w fun e w' => e = .returned (.bool (clashRu t a b)) ∧ Below w.heap.size w w' := by
  obtain ⟨z1, p1, q1, l1⟩ := eqi_ a.pr 0
  obtain ⟨z2, p2, q2, l2⟩ := eqi_ a.pr b.pr
  obtain ⟨c1, p3, q3, l3⟩ := eqn_ (extRu t a) b.ex
  obtain ⟨c2, l4⟩ : ∃ x : Bool, decide (a.fr ≤ b.fr) = x := ⟨_, rfl⟩
  obtain ⟨c3, l5⟩ : ∃ x : Bool, decide (b.fr ≤ a.to) = x := ⟨_, rfl⟩
  have HV : Hid (clashRu t a b = ((z1 || z2) && c1 && c2 && c3)) := by show _ = _; unfold clashRu; rw [if_neg ka, if_pos kb]; unfold clash1; rw [l1, l2, l3, l4, l5]
  have e1 : (b.k == 3) = true := by rw [kb]; rfl
  have e2 : (a.k == 3) = false := by simpa using ka
  have e3 : (b.k != 3) = false := by rw [kb]; rfl
  have TZ := Lib.hid T0
  clear ka kb l1 l2 l3
  have key : (z1 = false ∧ z2 = false) ∨ ((z1 = true ∨ (z1 = false ∧ z2 = true)) ∧ (c1 = false ∨ (c1 = true ∧ c2 = false) ∨ (c1 = true ∧ c2 = true ∧ c3 = false) ∨ (c1 = true ∧ c2 = true ∧ c3 = true))) := by cases z1 <;> cases z2 <;> cases c1 <;> cases c2 <;> cases c3 <;> simp
  rcases key with ⟨rfl, rfl⟩ | ⟨hz, hc⟩
  · simp only [Bool.not_true, Bool.not_false, Bool.and_true, Bool.and_false, Bool.true_and, Bool.false_and, Bool.or_true, Bool.or_false, Bool.true_or, Bool.false_or] at HV q1 q2
    go_enter Try.func45, Try.ntmps45
    have B1 := Below.refl w.heap.size w
    go_upto_region 1 with fail
    have T_2 := T0.past (o := (.cells #[.int .i64 a.k, .int .u8 a.pr, .int .u32 (a.si : Int), .int .i64 a.sb, .int .u32 (a.di : Int), .int .i64 a.db, .int .u32 (a.ex : Int), .int .u16 a.fr, .int .u16 a.to, .int .u32 (a.ii : Int), .int .u16 a.ip] 42))
    have A_3 := Box11.make w (.int .i64 a.k) (.int .u8 a.pr) (.int .u32 (a.si : Int)) (.int .i64 a.sb) (.int .u32 (a.di : Int)) (.int .i64 a.db) (.int .u32 (a.ex : Int)) (.int .u16 a.fr) (.int .u16 a.to) (.int .u32 (a.ii : Int)) (.int .u16 a.ip) 42
    have B4 := B1.alloc B1.size (.cells #[.int .i64 a.k, .int .u8 a.pr, .int .u32 (a.si : Int), .int .i64 a.sb, .int .u32 (a.di : Int), .int .i64 a.db, .int .u32 (a.ex : Int), .int .u16 a.fr, .int .u16 a.to, .int .u32 (a.ii : Int), .int .u16 a.ip] 42)
    clear T0 B1
    have fzA_5 : ∀ i, (w.alloc (.cells #[.int .i64 a.k, .int .u8 a.pr, .int .u32 (a.si : Int), .int .i64 a.sb, .int .u32 (a.di : Int), .int .i64 a.db, .int .u32 (a.ex : Int), .int .u16 a.fr, .int .u16 a.to, .int .u32 (a.ii : Int), .int .u16 a.ip] 42)).frozen? ⟨w.heap.size, i, none⟩ = false := by intro i; simp [go_sem]
    have fzA_6 : ∀ i, ((w.alloc (.cells #[.int .i64 a.k, .int .u8 a.pr, .int .u32 (a.si : Int), .int .i64 a.sb, .int .u32 (a.di : Int), .int .i64 a.db, .int .u32 (a.ex : Int), .int .u16 a.fr, .int .u16 a.to, .int .u32 (a.ii : Int), .int .u16 a.ip] 42)).alloc (.cells #[.int .i64 b.k, .int .u8 b.pr, .int .u32 (b.si : Int), .int .i64 b.sb, .int .u32 (b.di : Int), .int .i64 b.db, .int .u32 (b.ex : Int), .int .u16 b.fr, .int .u16 b.to, .int .u32 (b.ii : Int), .int .u16 b.ip] 42)).frozen? ⟨w.heap.size, i, none⟩ = false := fun i => (((Below.refl (w.alloc (.cells #[.int .i64 a.k, .int .u8 a.pr, .int .u32 (a.si : Int), .int .i64 a.sb, .int .u32 (a.di : Int), .int .i64 a.db, .int .u32 (a.ex : Int), .int .u16 a.fr, .int .u16 a.to, .int .u32 (a.ii : Int), .int .u16 a.ip] 42)).heap.size (w.alloc (.cells #[.int .i64 a.k, .int .u8 a.pr, .int .u32 (a.si : Int), .int .i64 a.sb, .int .u32 (a.di : Int), .int .i64 a.db, .int .u32 (a.ex : Int), .int .u16 a.fr, .int .u16 a.to, .int .u32 (a.ii : Int), .int .u16 a.ip] 42))).alloc (Nat.le_refl _) (.cells #[.int .i64 b.k, .int .u8 b.pr, .int .u32 (b.si : Int), .int .i64 b.sb, .int .u32 (b.di : Int), .int .i64 b.db, .int .u32 (b.ex : Int), .int .u16 b.fr, .int .u16 b.to, .int .u32 (b.ii : Int), .int .u16 b.ip] 42)).frozen (p := ⟨_, i, none⟩) A_3.1).trans (fzA_5 i)
    clear fzA_5
    have T_7 := T_2.past (o := (.cells #[.int .i64 b.k, .int .u8 b.pr, .int .u32 (b.si : Int), .int .i64 b.sb, .int .u32 (b.di : Int), .int .i64 b.db, .int .u32 (b.ex : Int), .int .u16 b.fr, .int .u16 b.to, .int .u32 (b.ii : Int), .int .u16 b.ip] 42))
    have A_8 := A_3.past (o := (.cells #[.int .i64 b.k, .int .u8 b.pr, .int .u32 (b.si : Int), .int .i64 b.sb, .int .u32 (b.di : Int), .int .i64 b.db, .int .u32 (b.ex : Int), .int .u16 b.fr, .int .u16 b.to, .int .u32 (b.ii : Int), .int .u16 b.ip] 42))
    have hs_ : (w.alloc (.cells #[.int .i64 a.k, .int .u8 a.pr, .int .u32 (a.si : Int), .int .i64 a.sb, .int .u32 (a.di : Int), .int .i64 a.db, .int .u32 (a.ex : Int), .int .u16 a.fr, .int .u16 a.to, .int .u32 (a.ii : Int), .int .u16 a.ip] 42)).heap.size = w.heap.size + 1 := by simp
    have B_9 := Box11.make (w.alloc (.cells #[.int .i64 a.k, .int .u8 a.pr, .int .u32 (a.si : Int), .int .i64 a.sb, .int .u32 (a.di : Int), .int .i64 a.db, .int .u32 (a.ex : Int), .int .u16 a.fr, .int .u16 a.to, .int .u32 (a.ii : Int), .int .u16 a.ip] 42)) (.int .i64 b.k) (.int .u8 b.pr) (.int .u32 (b.si : Int)) (.int .i64 b.sb) (.int .u32 (b.di : Int)) (.int .i64 b.db) (.int .u32 (b.ex : Int)) (.int .u16 b.fr) (.int .u16 b.to) (.int .u32 (b.ii : Int)) (.int .u16 b.ip) 42
    rw [hs_] at B_9
    clear hs_
    have B10 := B4.alloc B4.size (.cells #[.int .i64 b.k, .int .u8 b.pr, .int .u32 (b.si : Int), .int .i64 b.sb, .int .u32 (b.di : Int), .int .i64 b.db, .int .u32 (b.ex : Int), .int .u16 b.fr, .int .u16 b.to, .int .u32 (b.ii : Int), .int .u16 b.ip] 42)
    clear T_2 A_3 B4
    have fzB_11 : ∀ i, ((w.alloc (.cells #[.int .i64 a.k, .int .u8 a.pr, .int .u32 (a.si : Int), .int .i64 a.sb, .int .u32 (a.di : Int), .int .i64 a.db, .int .u32 (a.ex : Int), .int .u16 a.fr, .int .u16 a.to, .int .u32 (a.ii : Int), .int .u16 a.ip] 42)).alloc (.cells #[.int .i64 b.k, .int .u8 b.pr, .int .u32 (b.si : Int), .int .i64 b.sb, .int .u32 (b.di : Int), .int .i64 b.db, .int .u32 (b.ex : Int), .int .u16 b.fr, .int .u16 b.to, .int .u32 (b.ii : Int), .int .u16 b.ip] 42)).frozen? ⟨(w.heap.size + 1), i, none⟩ = false := by intro i; simp [go_sem]
    obtain ⟨u1, hu1⟩ : ∃ x, x = (w.alloc (.cells #[.int .i64 a.k, .int .u8 a.pr, .int .u32 (a.si : Int), .int .i64 a.sb, .int .u32 (a.di : Int), .int .i64 a.db, .int .u32 (a.ex : Int), .int .u16 a.fr, .int .u16 a.to, .int .u32 (a.ii : Int), .int .u16 a.ip] 42)).alloc (.cells #[.int .i64 b.k, .int .u8 b.pr, .int .u32 (b.si : Int), .int .i64 b.sb, .int .u32 (b.di : Int), .int .i64 b.db, .int .u32 (b.ex : Int), .int .u16 b.fr, .int .u16 b.to, .int .u32 (b.ii : Int), .int .u16 b.ip] 42) := ⟨_, rfl⟩
    rw [← hu1] at T_7 A_8 B_9 fzA_6 fzB_11 B10 ⊢
    clear hu1
    have ne1_ : ¬ w.heap.size = w.heap.size + 1 := by omega
    have ne2_ : ¬ w.heap.size + 1 = w.heap.size := by omega
    obtain ⟨_, a1_0, a1_1, a1_2, a1_3, a1_4, a1_5, a1_6, a1_7, a1_8, a1_9, a1_10⟩ := id A_8
    obtain ⟨_, b2_0, b2_1, b2_2, b2_3, b2_4, b2_5, b2_6, b2_7, b2_8, b2_9, b2_10⟩ := id B_9
    go_upto_region 5 with fail
    obtain ⟨uA, huA⟩ : ∃ x, x = (((((((((((u1.setCell ⟨w.heap.size, 0, none⟩ (.int .i64 b.k)).setCell ⟨w.heap.size, 1, none⟩ (.int .u8 b.pr)).setCell ⟨w.heap.size, 2, none⟩ (.int .u32 (b.si : Int))).setCell ⟨w.heap.size, 3, none⟩ (.int .i64 b.sb)).setCell ⟨w.heap.size, 4, none⟩ (.int .u32 (b.di : Int))).setCell ⟨w.heap.size, 5, none⟩ (.int .i64 b.db)).setCell ⟨w.heap.size, 6, none⟩ (.int .u32 (b.ex : Int))).setCell ⟨w.heap.size, 7, none⟩ (.int .u16 b.fr)).setCell ⟨w.heap.size, 8, none⟩ (.int .u16 b.to)).setCell ⟨w.heap.size, 9, none⟩ (.int .u32 (b.ii : Int))).setCell ⟨w.heap.size, 10, none⟩ (.int .u16 b.ip)) := ⟨_, rfl⟩
    have sB : ∀ j, j < 11 → (uA.cell? ⟨w.heap.size + 1, j, none⟩).isSome = true := by
      rw [huA]
      intro j hj
      match j, hj with
      | 0, _ => simp [go_sem, b2_0]
      | 1, _ => simp [go_sem, b2_1]
      | 2, _ => simp [go_sem, b2_2]
      | 3, _ => simp [go_sem, b2_3]
      | 4, _ => simp [go_sem, b2_4]
      | 5, _ => simp [go_sem, b2_5]
      | 6, _ => simp [go_sem, b2_6]
      | 7, _ => simp [go_sem, b2_7]
      | 8, _ => simp [go_sem, b2_8]
      | 9, _ => simp [go_sem, b2_9]
      | 10, _ => simp [go_sem, b2_10]
      | k + 11, hk => exact absurd hk (by omega)
    have a0_ : uA.cell? ⟨w.heap.size, 0, none⟩ = some (.int .i64 b.k) := by rw [huA]; simp [go_sem, a1_0, a1_1, a1_2, a1_3, a1_4, a1_5, a1_6, a1_7, a1_8, a1_9, a1_10]
    have a1_ : uA.cell? ⟨w.heap.size, 1, none⟩ = some (.int .u8 b.pr) := by rw [huA]; simp [go_sem, a1_0, a1_1, a1_2, a1_3, a1_4, a1_5, a1_6, a1_7, a1_8, a1_9, a1_10]
    have a2_ : uA.cell? ⟨w.heap.size, 2, none⟩ = some (.int .u32 (b.si : Int)) := by rw [huA]; simp [go_sem, a1_0, a1_1, a1_2, a1_3, a1_4, a1_5, a1_6, a1_7, a1_8, a1_9, a1_10]
    have a3_ : uA.cell? ⟨w.heap.size, 3, none⟩ = some (.int .i64 b.sb) := by rw [huA]; simp [go_sem, a1_0, a1_1, a1_2, a1_3, a1_4, a1_5, a1_6, a1_7, a1_8, a1_9, a1_10]
    have a4_ : uA.cell? ⟨w.heap.size, 4, none⟩ = some (.int .u32 (b.di : Int)) := by rw [huA]; simp [go_sem, a1_0, a1_1, a1_2, a1_3, a1_4, a1_5, a1_6, a1_7, a1_8, a1_9, a1_10]
    have a5_ : uA.cell? ⟨w.heap.size, 5, none⟩ = some (.int .i64 b.db) := by rw [huA]; simp [go_sem, a1_0, a1_1, a1_2, a1_3, a1_4, a1_5, a1_6, a1_7, a1_8, a1_9, a1_10]
    have a6_ : uA.cell? ⟨w.heap.size, 6, none⟩ = some (.int .u32 (b.ex : Int)) := by rw [huA]; simp [go_sem, a1_0, a1_1, a1_2, a1_3, a1_4, a1_5, a1_6, a1_7, a1_8, a1_9, a1_10]
    have a7_ : uA.cell? ⟨w.heap.size, 7, none⟩ = some (.int .u16 b.fr) := by rw [huA]; simp [go_sem, a1_0, a1_1, a1_2, a1_3, a1_4, a1_5, a1_6, a1_7, a1_8, a1_9, a1_10]
    have a8_ : uA.cell? ⟨w.heap.size, 8, none⟩ = some (.int .u16 b.to) := by rw [huA]; simp [go_sem, a1_0, a1_1, a1_2, a1_3, a1_4, a1_5, a1_6, a1_7, a1_8, a1_9, a1_10]
    have a9_ : uA.cell? ⟨w.heap.size, 9, none⟩ = some (.int .u32 (b.ii : Int)) := by rw [huA]; simp [go_sem, a1_0, a1_1, a1_2, a1_3, a1_4, a1_5, a1_6, a1_7, a1_8, a1_9, a1_10]
    have a10_ : uA.cell? ⟨w.heap.size, 10, none⟩ = some (.int .u16 b.ip) := by rw [huA]; simp [go_sem, a1_0, a1_1, a1_2, a1_3, a1_4, a1_5, a1_6, a1_7, a1_8, a1_9, a1_10]
    have BA_ : Below w.heap.size w uA := by rw [huA]; exact (((((((((((B10.setCell (p := ⟨w.heap.size, 0, none⟩) (Nat.le_refl _) (.int .i64 b.k)).setCell (p := ⟨w.heap.size, 1, none⟩) (Nat.le_refl _) (.int .u8 b.pr)).setCell (p := ⟨w.heap.size, 2, none⟩) (Nat.le_refl _) (.int .u32 (b.si : Int))).setCell (p := ⟨w.heap.size, 3, none⟩) (Nat.le_refl _) (.int .i64 b.sb)).setCell (p := ⟨w.heap.size, 4, none⟩) (Nat.le_refl _) (.int .u32 (b.di : Int))).setCell (p := ⟨w.heap.size, 5, none⟩) (Nat.le_refl _) (.int .i64 b.db)).setCell (p := ⟨w.heap.size, 6, none⟩) (Nat.le_refl _) (.int .u32 (b.ex : Int))).setCell (p := ⟨w.heap.size, 7, none⟩) (Nat.le_refl _) (.int .u16 b.fr)).setCell (p := ⟨w.heap.size, 8, none⟩) (Nat.le_refl _) (.int .u16 b.to)).setCell (p := ⟨w.heap.size, 9, none⟩) (Nat.le_refl _) (.int .u32 (b.ii : Int))).setCell (p := ⟨w.heap.size, 10, none⟩) (Nat.le_refl _) (.int .u16 b.ip))
    have zA : uA.heap.size = u1.heap.size := by rw [huA]; simp
    rw [← huA]
    clear huA
    refine box11f_ (b := w.heap.size + 1) sB BA_ (Nat.le_succ _) fun uB b0_ b1_ b2_ b3_ b4_ b5_ b6_ b7_ b8_ b9_ b10_ BB_ far sz fzz => ?_
    have A_z : Box11 uB w.heap.size (.int .i64 b.k) (.int .u8 b.pr) (.int .u32 (b.si : Int)) (.int .i64 b.sb) (.int .u32 (b.di : Int)) (.int .i64 b.db) (.int .u32 (b.ex : Int)) (.int .u16 b.fr) (.int .u16 b.to) (.int .u32 (b.ii : Int)) (.int .u16 b.ip) := ⟨by rw [sz, zA]; exact A_8.1, (far ⟨_, 0, none⟩ ne2_).trans a0_, (far ⟨_, 1, none⟩ ne2_).trans a1_, (far ⟨_, 2, none⟩ ne2_).trans a2_, (far ⟨_, 3, none⟩ ne2_).trans a3_, (far ⟨_, 4, none⟩ ne2_).trans a4_, (far ⟨_, 5, none⟩ ne2_).trans a5_, (far ⟨_, 6, none⟩ ne2_).trans a6_, (far ⟨_, 7, none⟩ ne2_).trans a7_, (far ⟨_, 8, none⟩ ne2_).trans a8_, (far ⟨_, 9, none⟩ ne2_).trans a9_, (far ⟨_, 10, none⟩ ne2_).trans a10_⟩
    have B_z : Box11 uB (w.heap.size + 1) (.int .i64 a.k) (.int .u8 a.pr) (.int .u32 (a.si : Int)) (.int .i64 a.sb) (.int .u32 (a.di : Int)) (.int .i64 a.db) (.int .u32 (a.ex : Int)) (.int .u16 a.fr) (.int .u16 a.to) (.int .u32 (a.ii : Int)) (.int .u16 a.ip) := ⟨by rw [sz, zA]; exact B_9.1, b0_, b1_, b2_, b3_, b4_, b5_, b6_, b7_, b8_, b9_, b10_⟩
    have T_z := TZ.out.on BB_
    clear a1_0 a1_1 a1_2 a1_3 a1_4 a1_5 a1_6 a1_7 a1_8 a1_9 a1_10 b2_0 b2_1 b2_2 b2_3 b2_4 b2_5 b2_6 b2_7 b2_8 b2_9 b2_10 sB BA_ zA far sz fzz a0_ a1_ a2_ a3_ a4_ a5_ a6_ a7_ a8_ a9_ a10_ b0_ b1_ b2_ b3_ b4_ b5_ b6_ b7_ b8_ b9_ b10_ T_7 A_8 B_9 fzA_6 fzB_11 B10
    obtain ⟨_, a3_0, a3_1, a3_2, a3_3, a3_4, a3_5, a3_6, a3_7, a3_8, a3_9, a3_10⟩ := id A_z
    obtain ⟨_, b4_0, b4_1, b4_2, b4_3, b4_4, b4_5, b4_6, b4_7, b4_8, b4_9, b4_10⟩ := id B_z
    go_wp2
    go_ret
    rw [HV.out]
    exact ⟨rfl, BB_⟩
  · rcases hz with rfl | ⟨rfl, rfl⟩ <;> rcases hc with rfl | ⟨rfl, rfl⟩ | ⟨rfl, rfl, rfl⟩ | ⟨rfl, rfl, rfl⟩
    all_goals
      simp only [Bool.not_true, Bool.not_false, Bool.and_true, Bool.and_false, Bool.true_and, Bool.false_and, Bool.or_true, Bool.or_false, Bool.true_or, Bool.false_or] at HV q1 q2
      go_enter Try.func45, Try.ntmps45
      have B1 := Below.refl w.heap.size w
      go_upto_region 1 with fail
      have T_2 := T0.past (o := (.cells #[.int .i64 a.k, .int .u8 a.pr, .int .u32 (a.si : Int), .int .i64 a.sb, .int .u32 (a.di : Int), .int .i64 a.db, .int .u32 (a.ex : Int), .int .u16 a.fr, .int .u16 a.to, .int .u32 (a.ii : Int), .int .u16 a.ip] 42))
      have A_3 := Box11.make w (.int .i64 a.k) (.int .u8 a.pr) (.int .u32 (a.si : Int)) (.int .i64 a.sb) (.int .u32 (a.di : Int)) (.int .i64 a.db) (.int .u32 (a.ex : Int)) (.int .u16 a.fr) (.int .u16 a.to) (.int .u32 (a.ii : Int)) (.int .u16 a.ip) 42
      have B4 := B1.alloc B1.size (.cells #[.int .i64 a.k, .int .u8 a.pr, .int .u32 (a.si : Int), .int .i64 a.sb, .int .u32 (a.di : Int), .int .i64 a.db, .int .u32 (a.ex : Int), .int .u16 a.fr, .int .u16 a.to, .int .u32 (a.ii : Int), .int .u16 a.ip] 42)
      clear T0 B1
      have fzA_5 : ∀ i, (w.alloc (.cells #[.int .i64 a.k, .int .u8 a.pr, .int .u32 (a.si : Int), .int .i64 a.sb, .int .u32 (a.di : Int), .int .i64 a.db, .int .u32 (a.ex : Int), .int .u16 a.fr, .int .u16 a.to, .int .u32 (a.ii : Int), .int .u16 a.ip] 42)).frozen? ⟨w.heap.size, i, none⟩ = false := by intro i; simp [go_sem]
      have fzA_6 : ∀ i, ((w.alloc (.cells #[.int .i64 a.k, .int .u8 a.pr, .int .u32 (a.si : Int), .int .i64 a.sb, .int .u32 (a.di : Int), .int .i64 a.db, .int .u32 (a.ex : Int), .int .u16 a.fr, .int .u16 a.to, .int .u32 (a.ii : Int), .int .u16 a.ip] 42)).alloc (.cells #[.int .i64 b.k, .int .u8 b.pr, .int .u32 (b.si : Int), .int .i64 b.sb, .int .u32 (b.di : Int), .int .i64 b.db, .int .u32 (b.ex : Int), .int .u16 b.fr, .int .u16 b.to, .int .u32 (b.ii : Int), .int .u16 b.ip] 42)).frozen? ⟨w.heap.size, i, none⟩ = false := fun i => (((Below.refl (w.alloc (.cells #[.int .i64 a.k, .int .u8 a.pr, .int .u32 (a.si : Int), .int .i64 a.sb, .int .u32 (a.di : Int), .int .i64 a.db, .int .u32 (a.ex : Int), .int .u16 a.fr, .int .u16 a.to, .int .u32 (a.ii : Int), .int .u16 a.ip] 42)).heap.size (w.alloc (.cells #[.int .i64 a.k, .int .u8 a.pr, .int .u32 (a.si : Int), .int .i64 a.sb, .int .u32 (a.di : Int), .int .i64 a.db, .int .u32 (a.ex : Int), .int .u16 a.fr, .int .u16 a.to, .int .u32 (a.ii : Int), .int .u16 a.ip] 42))).alloc (Nat.le_refl _) (.cells #[.int .i64 b.k, .int .u8 b.pr, .int .u32 (b.si : Int), .int .i64 b.sb, .int .u32 (b.di : Int), .int .i64 b.db, .int .u32 (b.ex : Int), .int .u16 b.fr, .int .u16 b.to, .int .u32 (b.ii : Int), .int .u16 b.ip] 42)).frozen (p := ⟨_, i, none⟩) A_3.1).trans (fzA_5 i)
      clear fzA_5
      have T_7 := T_2.past (o := (.cells #[.int .i64 b.k, .int .u8 b.pr, .int .u32 (b.si : Int), .int .i64 b.sb, .int .u32 (b.di : Int), .int .i64 b.db, .int .u32 (b.ex : Int), .int .u16 b.fr, .int .u16 b.to, .int .u32 (b.ii : Int), .int .u16 b.ip] 42))
      have A_8 := A_3.past (o := (.cells #[.int .i64 b.k, .int .u8 b.pr, .int .u32 (b.si : Int), .int .i64 b.sb, .int .u32 (b.di : Int), .int .i64 b.db, .int .u32 (b.ex : Int), .int .u16 b.fr, .int .u16 b.to, .int .u32 (b.ii : Int), .int .u16 b.ip] 42))
      have hs_ : (w.alloc (.cells #[.int .i64 a.k, .int .u8 a.pr, .int .u32 (a.si : Int), .int .i64 a.sb, .int .u32 (a.di : Int), .int .i64 a.db, .int .u32 (a.ex : Int), .int .u16 a.fr, .int .u16 a.to, .int .u32 (a.ii : Int), .int .u16 a.ip] 42)).heap.size = w.heap.size + 1 := by simp
      have B_9 := Box11.make (w.alloc (.cells #[.int .i64 a.k, .int .u8 a.pr, .int .u32 (a.si : Int), .int .i64 a.sb, .int .u32 (a.di : Int), .int .i64 a.db, .int .u32 (a.ex : Int), .int .u16 a.fr, .int .u16 a.to, .int .u32 (a.ii : Int), .int .u16 a.ip] 42)) (.int .i64 b.k) (.int .u8 b.pr) (.int .u32 (b.si : Int)) (.int .i64 b.sb) (.int .u32 (b.di : Int)) (.int .i64 b.db) (.int .u32 (b.ex : Int)) (.int .u16 b.fr) (.int .u16 b.to) (.int .u32 (b.ii : Int)) (.int .u16 b.ip) 42
      rw [hs_] at B_9
      clear hs_
      have B10 := B4.alloc B4.size (.cells #[.int .i64 b.k, .int .u8 b.pr, .int .u32 (b.si : Int), .int .i64 b.sb, .int .u32 (b.di : Int), .int .i64 b.db, .int .u32 (b.ex : Int), .int .u16 b.fr, .int .u16 b.to, .int .u32 (b.ii : Int), .int .u16 b.ip] 42)
      clear T_2 A_3 B4
      have fzB_11 : ∀ i, ((w.alloc (.cells #[.int .i64 a.k, .int .u8 a.pr, .int .u32 (a.si : Int), .int .i64 a.sb, .int .u32 (a.di : Int), .int .i64 a.db, .int .u32 (a.ex : Int), .int .u16 a.fr, .int .u16 a.to, .int .u32 (a.ii : Int), .int .u16 a.ip] 42)).alloc (.cells #[.int .i64 b.k, .int .u8 b.pr, .int .u32 (b.si : Int), .int .i64 b.sb, .int .u32 (b.di : Int), .int .i64 b.db, .int .u32 (b.ex : Int), .int .u16 b.fr, .int .u16 b.to, .int .u32 (b.ii : Int), .int .u16 b.ip] 42)).frozen? ⟨(w.heap.size + 1), i, none⟩ = false := by intro i; simp [go_sem]
      obtain ⟨u1, hu1⟩ : ∃ x, x = (w.alloc (.cells #[.int .i64 a.k, .int .u8 a.pr, .int .u32 (a.si : Int), .int .i64 a.sb, .int .u32 (a.di : Int), .int .i64 a.db, .int .u32 (a.ex : Int), .int .u16 a.fr, .int .u16 a.to, .int .u32 (a.ii : Int), .int .u16 a.ip] 42)).alloc (.cells #[.int .i64 b.k, .int .u8 b.pr, .int .u32 (b.si : Int), .int .i64 b.sb, .int .u32 (b.di : Int), .int .i64 b.db, .int .u32 (b.ex : Int), .int .u16 b.fr, .int .u16 b.to, .int .u32 (b.ii : Int), .int .u16 b.ip] 42) := ⟨_, rfl⟩
      rw [← hu1] at T_7 A_8 B_9 fzA_6 fzB_11 B10 ⊢
      clear hu1
      have ne1_ : ¬ w.heap.size = w.heap.size + 1 := by omega
      have ne2_ : ¬ w.heap.size + 1 = w.heap.size := by omega
      obtain ⟨_, a1_0, a1_1, a1_2, a1_3, a1_4, a1_5, a1_6, a1_7, a1_8, a1_9, a1_10⟩ := id A_8
      obtain ⟨_, b2_0, b2_1, b2_2, b2_3, b2_4, b2_5, b2_6, b2_7, b2_8, b2_9, b2_10⟩ := id B_9
      go_upto_region 5 with fail
      obtain ⟨uA, huA⟩ : ∃ x, x = (((((((((((u1.setCell ⟨w.heap.size, 0, none⟩ (.int .i64 b.k)).setCell ⟨w.heap.size, 1, none⟩ (.int .u8 b.pr)).setCell ⟨w.heap.size, 2, none⟩ (.int .u32 (b.si : Int))).setCell ⟨w.heap.size, 3, none⟩ (.int .i64 b.sb)).setCell ⟨w.heap.size, 4, none⟩ (.int .u32 (b.di : Int))).setCell ⟨w.heap.size, 5, none⟩ (.int .i64 b.db)).setCell ⟨w.heap.size, 6, none⟩ (.int .u32 (b.ex : Int))).setCell ⟨w.heap.size, 7, none⟩ (.int .u16 b.fr)).setCell ⟨w.heap.size, 8, none⟩ (.int .u16 b.to)).setCell ⟨w.heap.size, 9, none⟩ (.int .u32 (b.ii : Int))).setCell ⟨w.heap.size, 10, none⟩ (.int .u16 b.ip)) := ⟨_, rfl⟩
      have sB : ∀ j, j < 11 → (uA.cell? ⟨w.heap.size + 1, j, none⟩).isSome = true := by
        rw [huA]
        intro j hj
        match j, hj with
        | 0, _ => simp [go_sem, b2_0]
        | 1, _ => simp [go_sem, b2_1]
        | 2, _ => simp [go_sem, b2_2]
        | 3, _ => simp [go_sem, b2_3]
        | 4, _ => simp [go_sem, b2_4]
        | 5, _ => simp [go_sem, b2_5]
        | 6, _ => simp [go_sem, b2_6]
        | 7, _ => simp [go_sem, b2_7]
        | 8, _ => simp [go_sem, b2_8]
        | 9, _ => simp [go_sem, b2_9]
        | 10, _ => simp [go_sem, b2_10]
        | k + 11, hk => exact absurd hk (by omega)
      have a0_ : uA.cell? ⟨w.heap.size, 0, none⟩ = some (.int .i64 b.k) := by rw [huA]; simp [go_sem, a1_0, a1_1, a1_2, a1_3, a1_4, a1_5, a1_6, a1_7, a1_8, a1_9, a1_10]
      have a1_ : uA.cell? ⟨w.heap.size, 1, none⟩ = some (.int .u8 b.pr) := by rw [huA]; simp [go_sem, a1_0, a1_1, a1_2, a1_3, a1_4, a1_5, a1_6, a1_7, a1_8, a1_9, a1_10]
      have a2_ : uA.cell? ⟨w.heap.size, 2, none⟩ = some (.int .u32 (b.si : Int)) := by rw [huA]; simp [go_sem, a1_0, a1_1, a1_2, a1_3, a1_4, a1_5, a1_6, a1_7, a1_8, a1_9, a1_10]
      have a3_ : uA.cell? ⟨w.heap.size, 3, none⟩ = some (.int .i64 b.sb) := by rw [huA]; simp [go_sem, a1_0, a1_1, a1_2, a1_3, a1_4, a1_5, a1_6, a1_7, a1_8, a1_9, a1_10]
      have a4_ : uA.cell? ⟨w.heap.size, 4, none⟩ = some (.int .u32 (b.di : Int)) := by rw [huA]; simp [go_sem, a1_0, a1_1, a1_2, a1_3, a1_4, a1_5, a1_6, a1_7, a1_8, a1_9, a1_10]
      have a5_ : uA.cell? ⟨w.heap.size, 5, none⟩ = some (.int .i64 b.db) := by rw [huA]; simp [go_sem, a1_0, a1_1, a1_2, a1_3, a1_4, a1_5, a1_6, a1_7, a1_8, a1_9, a1_10]
      have a6_ : uA.cell? ⟨w.heap.size, 6, none⟩ = some (.int .u32 (b.ex : Int)) := by rw [huA]; simp [go_sem, a1_0, a1_1, a1_2, a1_3, a1_4, a1_5, a1_6, a1_7, a1_8, a1_9, a1_10]
      have a7_ : uA.cell? ⟨w.heap.size, 7, none⟩ = some (.int .u16 b.fr) := by rw [huA]; simp [go_sem, a1_0, a1_1, a1_2, a1_3, a1_4, a1_5, a1_6, a1_7, a1_8, a1_9, a1_10]
      have a8_ : uA.cell? ⟨w.heap.size, 8, none⟩ = some (.int .u16 b.to) := by rw [huA]; simp [go_sem, a1_0, a1_1, a1_2, a1_3, a1_4, a1_5, a1_6, a1_7, a1_8, a1_9, a1_10]
      have a9_ : uA.cell? ⟨w.heap.size, 9, none⟩ = some (.int .u32 (b.ii : Int)) := by rw [huA]; simp [go_sem, a1_0, a1_1, a1_2, a1_3, a1_4, a1_5, a1_6, a1_7, a1_8, a1_9, a1_10]
      have a10_ : uA.cell? ⟨w.heap.size, 10, none⟩ = some (.int .u16 b.ip) := by rw [huA]; simp [go_sem, a1_0, a1_1, a1_2, a1_3, a1_4, a1_5, a1_6, a1_7, a1_8, a1_9, a1_10]
      have BA_ : Below w.heap.size w uA := by rw [huA]; exact (((((((((((B10.setCell (p := ⟨w.heap.size, 0, none⟩) (Nat.le_refl _) (.int .i64 b.k)).setCell (p := ⟨w.heap.size, 1, none⟩) (Nat.le_refl _) (.int .u8 b.pr)).setCell (p := ⟨w.heap.size, 2, none⟩) (Nat.le_refl _) (.int .u32 (b.si : Int))).setCell (p := ⟨w.heap.size, 3, none⟩) (Nat.le_refl _) (.int .i64 b.sb)).setCell (p := ⟨w.heap.size, 4, none⟩) (Nat.le_refl _) (.int .u32 (b.di : Int))).setCell (p := ⟨w.heap.size, 5, none⟩) (Nat.le_refl _) (.int .i64 b.db)).setCell (p := ⟨w.heap.size, 6, none⟩) (Nat.le_refl _) (.int .u32 (b.ex : Int))).setCell (p := ⟨w.heap.size, 7, none⟩) (Nat.le_refl _) (.int .u16 b.fr)).setCell (p := ⟨w.heap.size, 8, none⟩) (Nat.le_refl _) (.int .u16 b.to)).setCell (p := ⟨w.heap.size, 9, none⟩) (Nat.le_refl _) (.int .u32 (b.ii : Int))).setCell (p := ⟨w.heap.size, 10, none⟩) (Nat.le_refl _) (.int .u16 b.ip))
      have zA : uA.heap.size = u1.heap.size := by rw [huA]; simp
      rw [← huA]
      clear huA
      refine box11f_ (b := w.heap.size + 1) sB BA_ (Nat.le_succ _) fun uB b0_ b1_ b2_ b3_ b4_ b5_ b6_ b7_ b8_ b9_ b10_ BB_ far sz fzz => ?_
      have A_z : Box11 uB w.heap.size (.int .i64 b.k) (.int .u8 b.pr) (.int .u32 (b.si : Int)) (.int .i64 b.sb) (.int .u32 (b.di : Int)) (.int .i64 b.db) (.int .u32 (b.ex : Int)) (.int .u16 b.fr) (.int .u16 b.to) (.int .u32 (b.ii : Int)) (.int .u16 b.ip) := ⟨by rw [sz, zA]; exact A_8.1, (far ⟨_, 0, none⟩ ne2_).trans a0_, (far ⟨_, 1, none⟩ ne2_).trans a1_, (far ⟨_, 2, none⟩ ne2_).trans a2_, (far ⟨_, 3, none⟩ ne2_).trans a3_, (far ⟨_, 4, none⟩ ne2_).trans a4_, (far ⟨_, 5, none⟩ ne2_).trans a5_, (far ⟨_, 6, none⟩ ne2_).trans a6_, (far ⟨_, 7, none⟩ ne2_).trans a7_, (far ⟨_, 8, none⟩ ne2_).trans a8_, (far ⟨_, 9, none⟩ ne2_).trans a9_, (far ⟨_, 10, none⟩ ne2_).trans a10_⟩
      have B_z : Box11 uB (w.heap.size + 1) (.int .i64 a.k) (.int .u8 a.pr) (.int .u32 (a.si : Int)) (.int .i64 a.sb) (.int .u32 (a.di : Int)) (.int .i64 a.db) (.int .u32 (a.ex : Int)) (.int .u16 a.fr) (.int .u16 a.to) (.int .u32 (a.ii : Int)) (.int .u16 a.ip) := ⟨by rw [sz, zA]; exact B_9.1, b0_, b1_, b2_, b3_, b4_, b5_, b6_, b7_, b8_, b9_, b10_⟩
      have T_z := TZ.out.on BB_
      clear a1_0 a1_1 a1_2 a1_3 a1_4 a1_5 a1_6 a1_7 a1_8 a1_9 a1_10 b2_0 b2_1 b2_2 b2_3 b2_4 b2_5 b2_6 b2_7 b2_8 b2_9 b2_10 sB BA_ zA far sz fzz a0_ a1_ a2_ a3_ a4_ a5_ a6_ a7_ a8_ a9_ a10_ b0_ b1_ b2_ b3_ b4_ b5_ b6_ b7_ b8_ b9_ b10_ T_7 A_8 B_9 fzA_6 fzB_11 B10
      obtain ⟨_, a3_0, a3_1, a3_2, a3_3, a3_4, a3_5, a3_6, a3_7, a3_8, a3_9, a3_10⟩ := id A_z
      obtain ⟨_, b4_0, b4_1, b4_2, b4_3, b4_4, b4_5, b4_6, b4_7, b4_8, b4_9, b4_10⟩ := id B_z
      go_upto_region 7 with fail
      clear a3_0 a3_1 a3_2 a3_3 a3_4 a3_5 a3_6 a3_7 a3_8 a3_9 a3_10 b4_0 b4_1 b4_2 b4_3 b4_4 b4_5 b4_6 b4_7 b4_8 b4_9 b4_10
      obtain ⟨za, ga0, ga1, ga2, ga3, ga4, ga5, ga6, ga7, ga8, ga9, ga10⟩ := id A_z
      have Fa0 : ∀ x : Later uB.heap.size uB, x.u.cell? ⟨w.heap.size, 0, none⟩ = some (.int .i64 b.k) := fun x => x.block za ga0
      have Fa1 : ∀ x : Later uB.heap.size uB, x.u.cell? ⟨w.heap.size, 1, none⟩ = some (.int .u8 b.pr) := fun x => x.block za ga1
      have Fa2 : ∀ x : Later uB.heap.size uB, x.u.cell? ⟨w.heap.size, 2, none⟩ = some (.int .u32 (b.si : Int)) := fun x => x.block za ga2
      have Fa3 : ∀ x : Later uB.heap.size uB, x.u.cell? ⟨w.heap.size, 3, none⟩ = some (.int .i64 b.sb) := fun x => x.block za ga3
      have Fa4 : ∀ x : Later uB.heap.size uB, x.u.cell? ⟨w.heap.size, 4, none⟩ = some (.int .u32 (b.di : Int)) := fun x => x.block za ga4
      have Fa5 : ∀ x : Later uB.heap.size uB, x.u.cell? ⟨w.heap.size, 5, none⟩ = some (.int .i64 b.db) := fun x => x.block za ga5
      have Fa6 : ∀ x : Later uB.heap.size uB, x.u.cell? ⟨w.heap.size, 6, none⟩ = some (.int .u32 (b.ex : Int)) := fun x => x.block za ga6
      have Fa7 : ∀ x : Later uB.heap.size uB, x.u.cell? ⟨w.heap.size, 7, none⟩ = some (.int .u16 b.fr) := fun x => x.block za ga7
      have Fa8 : ∀ x : Later uB.heap.size uB, x.u.cell? ⟨w.heap.size, 8, none⟩ = some (.int .u16 b.to) := fun x => x.block za ga8
      have Fa9 : ∀ x : Later uB.heap.size uB, x.u.cell? ⟨w.heap.size, 9, none⟩ = some (.int .u32 (b.ii : Int)) := fun x => x.block za ga9
      have Fa10 : ∀ x : Later uB.heap.size uB, x.u.cell? ⟨w.heap.size, 10, none⟩ = some (.int .u16 b.ip) := fun x => x.block za ga10
      clear ga0 ga1 ga2 ga3 ga4 ga5 ga6 ga7 ga8 ga9 ga10
      obtain ⟨zb, gb0, gb1, gb2, gb3, gb4, gb5, gb6, gb7, gb8, gb9, gb10⟩ := id B_z
      have Fb0 : ∀ x : Later uB.heap.size uB, x.u.cell? ⟨w.heap.size + 1, 0, none⟩ = some (.int .i64 a.k) := fun x => x.block zb gb0
      have Fb1 : ∀ x : Later uB.heap.size uB, x.u.cell? ⟨w.heap.size + 1, 1, none⟩ = some (.int .u8 a.pr) := fun x => x.block zb gb1
      have Fb2 : ∀ x : Later uB.heap.size uB, x.u.cell? ⟨w.heap.size + 1, 2, none⟩ = some (.int .u32 (a.si : Int)) := fun x => x.block zb gb2
      have Fb3 : ∀ x : Later uB.heap.size uB, x.u.cell? ⟨w.heap.size + 1, 3, none⟩ = some (.int .i64 a.sb) := fun x => x.block zb gb3
      have Fb4 : ∀ x : Later uB.heap.size uB, x.u.cell? ⟨w.heap.size + 1, 4, none⟩ = some (.int .u32 (a.di : Int)) := fun x => x.block zb gb4
      have Fb5 : ∀ x : Later uB.heap.size uB, x.u.cell? ⟨w.heap.size + 1, 5, none⟩ = some (.int .i64 a.db) := fun x => x.block zb gb5
      have Fb6 : ∀ x : Later uB.heap.size uB, x.u.cell? ⟨w.heap.size + 1, 6, none⟩ = some (.int .u32 (a.ex : Int)) := fun x => x.block zb gb6
      have Fb7 : ∀ x : Later uB.heap.size uB, x.u.cell? ⟨w.heap.size + 1, 7, none⟩ = some (.int .u16 a.fr) := fun x => x.block zb gb7
      have Fb8 : ∀ x : Later uB.heap.size uB, x.u.cell? ⟨w.heap.size + 1, 8, none⟩ = some (.int .u16 a.to) := fun x => x.block zb gb8
      have Fb9 : ∀ x : Later uB.heap.size uB, x.u.cell? ⟨w.heap.size + 1, 9, none⟩ = some (.int .u32 (a.ii : Int)) := fun x => x.block zb gb9
      have Fb10 : ∀ x : Later uB.heap.size uB, x.u.cell? ⟨w.heap.size + 1, 10, none⟩ = some (.int .u16 a.ip) := fun x => x.block zb gb10
      clear gb0 gb1 gb2 gb3 gb4 gb5 gb6 gb7 gb8 gb9 gb10
      refine region_later (B := uB.heap.size) (by kernel_rfl) (by kernel_rfl) ?_
      repeat (go_big_quiet_step (first
        | (go_at_call 53; exact later_of _ (Nat.le_refl _) (rextR_ t a p S _ (T_z.on (Later.h _))))))
      refine later_end fun w2 x2 => ?_
      have T_12 := T_z.on x2
      have A_13 := A_z.on x2
      have B_14 := B_z.on x2
      have B15 := BB_.trans (x2.mono BB_.size)
      clear Fa0 Fa1 Fa2 Fa3 Fa4 Fa5 Fa6 Fa7 Fa8 Fa9 Fa10 za Fb0 Fb1 Fb2 Fb3 Fb4 Fb5 Fb6 Fb7 Fb8 Fb9 Fb10 zb T_z A_z B_z BB_ x2
      go_wp2
      go_ret
      rw [HV.out]
      exact ⟨rfl, B15⟩
theorem rclashR_ (t : Tm) (a b : Ru) (p : Nat) (S : Value) (w : World) (T0 : Box4 w p (.int .u32 (t.own : Int)) (.int .u32 (t.ip : Int)) (.int .i64 t.bits) S) :
    Calls Try.prog 45 #[.pointer (some ⟨p, 0, none⟩), .agg #[.int .i64 a.k, .int .u8 a.pr, .int .u32 (a.si : Int), .int .i64 a.sb, .int .u32 (a.di : Int), .int .i64 a.db, .int .u32 (a.ex : Int), .int .u16 a.fr, .int .u16 a.to, .int .u32 (a.ii : Int), .int .u16 a.ip], .agg #[.int .i64 b.k, .int .u8 b.pr, .int .u32 (b.si : Int), .int .i64 b.sb, .int .u32 (b.di : Int), .int .i64 b.db, .int .u32 (b.ex : Int), .int .u16 b.fr, .int .u16 b.to, .int .u32 (b.ii : Int), .int .u16 b.ip]] w fun e w' => e = .returned (.bool (clashRu t a b)) ∧ Below w.heap.size w w' := by
  by_cases ka : a.k = 3
  · by_cases kb : b.k = 3
    · exact rclashR_33 t a b p S w T0 ka kb
    · exact rclashR_30 t a b p S w T0 ka kb
  · by_cases kb : b.k = 3
    · exact rclashR_03 t a b p S w T0 ka kb
    · exact rclashR_00 t a b p S w T0 ka kb
end Go.Proofs.Ytoogegpkgohffaa
