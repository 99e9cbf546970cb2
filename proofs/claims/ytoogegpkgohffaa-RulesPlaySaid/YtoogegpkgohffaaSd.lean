/- The code's rules (layer 11): static, front, isFor, outer, gives, clash. -/
import Derived.Test.YtoogegpkgohffaaSb
import Derived.Test.YtoogegpkgohffaaTc
namespace Go.Proofs.Ytoogegpkgohffaa
set_option linter.unusedVariables false
set_option linter.unusedSimpArgs false
open Go.ChangeShapes Go.WideShapes Go.ChangeAt Go.RowKit Go.PlainAid
attribute [local go_sem ↓] Go.wp_at_zero Go.wp_at_succ
set_option maxHeartbeats 1000000 in
set_option maxRecDepth 100000 in
theorem static_ (r : Ru) (w : World) :
    Calls Try.prog 55 #[.agg #[.int .i64 r.k, .int .u8 r.pr, .int .u32 (r.si : Int), .int .i64 r.sb, .int .u32 (r.di : Int), .int .i64 r.db, .int .u32 (r.ex : Int), .int .u16 r.fr, .int .u16 r.to, .int .u32 (r.ii : Int), .int .u16 r.ip]] w fun e w' => e = .returned (.bool (decide (r.k = 3))) ∧ Below w.heap.size w w' := by
  obtain ⟨z, p1, q1, l1⟩ := eqi_ r.k 3
  rw [l1]
  clear l1 q1
  go_enter Try.func55, Try.ntmps55
  have B1 := Below.refl w.heap.size w
  go_upto_region 1 with fail
  have R_2 := Box11.make w (.int .i64 r.k) (.int .u8 r.pr) (.int .u32 (r.si : Int)) (.int .i64 r.sb) (.int .u32 (r.di : Int)) (.int .i64 r.db) (.int .u32 (r.ex : Int)) (.int .u16 r.fr) (.int .u16 r.to) (.int .u32 (r.ii : Int)) (.int .u16 r.ip) 42
  have B3 := B1.alloc B1.size (.cells #[.int .i64 r.k, .int .u8 r.pr, .int .u32 (r.si : Int), .int .i64 r.sb, .int .u32 (r.di : Int), .int .i64 r.db, .int .u32 (r.ex : Int), .int .u16 r.fr, .int .u16 r.to, .int .u32 (r.ii : Int), .int .u16 r.ip] 42)
  clear B1
  obtain ⟨u1, hu1⟩ : ∃ x_ : World, x_ = w.alloc (.cells #[.int .i64 r.k, .int .u8 r.pr, .int .u32 (r.si : Int), .int .i64 r.sb, .int .u32 (r.di : Int), .int .i64 r.db, .int .u32 (r.ex : Int), .int .u16 r.fr, .int .u16 r.to, .int .u32 (r.ii : Int), .int .u16 r.ip] 42) := ⟨_, rfl⟩
  rw [← hu1] at R_2 B3 ⊢
  clear hu1
  obtain ⟨_, r1_0, r1_1, r1_2, r1_3, r1_4, r1_5, r1_6, r1_7, r1_8, r1_9, r1_10⟩ := id R_2
  go_wp2
  go_ret
  exact ⟨rfl, B3⟩
set_option maxHeartbeats 1000000 in
set_option maxRecDepth 100000 in
theorem front_ (r : Ru) (w : World) :
    Calls Try.prog 56 #[.agg #[.int .i64 r.k, .int .u8 r.pr, .int .u32 (r.si : Int), .int .i64 r.sb, .int .u32 (r.di : Int), .int .i64 r.db, .int .u32 (r.ex : Int), .int .u16 r.fr, .int .u16 r.to, .int .u32 (r.ii : Int), .int .u16 r.ip]] w fun e w' => e = .returned (.agg #[.int .u32 (r.ex : Int), .int .u16 r.fr]) ∧ Below w.heap.size w w' := by
  go_enter Try.func56, Try.ntmps56
  have B1 := Below.refl w.heap.size w
  go_upto_region 1 with fail
  have R_2 := Box11.make w (.int .i64 r.k) (.int .u8 r.pr) (.int .u32 (r.si : Int)) (.int .i64 r.sb) (.int .u32 (r.di : Int)) (.int .i64 r.db) (.int .u32 (r.ex : Int)) (.int .u16 r.fr) (.int .u16 r.to) (.int .u32 (r.ii : Int)) (.int .u16 r.ip) 42
  have B3 := B1.alloc B1.size (.cells #[.int .i64 r.k, .int .u8 r.pr, .int .u32 (r.si : Int), .int .i64 r.sb, .int .u32 (r.di : Int), .int .i64 r.db, .int .u32 (r.ex : Int), .int .u16 r.fr, .int .u16 r.to, .int .u32 (r.ii : Int), .int .u16 r.ip] 42)
  clear B1
  have R_4 := R_2.past (o := (.cells #[.int .u32 0, .int .u16 0] 40))
  have hs_ : (w.alloc (.cells #[.int .i64 r.k, .int .u8 r.pr, .int .u32 (r.si : Int), .int .i64 r.sb, .int .u32 (r.di : Int), .int .i64 r.db, .int .u32 (r.ex : Int), .int .u16 r.fr, .int .u16 r.to, .int .u32 (r.ii : Int), .int .u16 r.ip] 42)).heap.size = w.heap.size + 1 := by simp
  have E_5 := Box2.make (w.alloc (.cells #[.int .i64 r.k, .int .u8 r.pr, .int .u32 (r.si : Int), .int .i64 r.sb, .int .u32 (r.di : Int), .int .i64 r.db, .int .u32 (r.ex : Int), .int .u16 r.fr, .int .u16 r.to, .int .u32 (r.ii : Int), .int .u16 r.ip] 42)) (.int .u32 0) (.int .u16 0) 40
  rw [hs_] at E_5
  clear hs_
  have B6 := B3.alloc B3.size (.cells #[.int .u32 0, .int .u16 0] 40)
  clear R_2 B3
  have fzE_7 : ∀ i, ((w.alloc (.cells #[.int .i64 r.k, .int .u8 r.pr, .int .u32 (r.si : Int), .int .i64 r.sb, .int .u32 (r.di : Int), .int .i64 r.db, .int .u32 (r.ex : Int), .int .u16 r.fr, .int .u16 r.to, .int .u32 (r.ii : Int), .int .u16 r.ip] 42)).alloc (.cells #[.int .u32 0, .int .u16 0] 40)).frozen? ⟨(w.heap.size + 1), i, none⟩ = false := by intro i; simp [go_sem]
  obtain ⟨u1, hu1⟩ : ∃ x_ : World, x_ = (w.alloc (.cells #[.int .i64 r.k, .int .u8 r.pr, .int .u32 (r.si : Int), .int .i64 r.sb, .int .u32 (r.di : Int), .int .i64 r.db, .int .u32 (r.ex : Int), .int .u16 r.fr, .int .u16 r.to, .int .u32 (r.ii : Int), .int .u16 r.ip] 42)).alloc (.cells #[.int .u32 0, .int .u16 0] 40) := ⟨_, rfl⟩
  rw [← hu1] at R_4 E_5 fzE_7 B6 ⊢
  clear hu1
  obtain ⟨_, r1_0, r1_1, r1_2, r1_3, r1_4, r1_5, r1_6, r1_7, r1_8, r1_9, r1_10⟩ := id R_4
  obtain ⟨_, e2_0, e2_1⟩ := id E_5
  go_wp2
  refine bodyPost_ret (v := .agg #[.int .u32 (r.ex : Int), .int .u16 r.fr]) (by simp [results, Try.results56, go_sem, e2_0, e2_1]) rfl ?_
  exact ⟨rfl, (B6.setCell (Nat.le_succ _) _).setCell (Nat.le_succ _) _⟩
set_option maxHeartbeats 1000000 in
set_option maxRecDepth 100000 in
theorem isFor_ (r : Ru) (pr : Int) (w : World) :
    Calls Try.prog 59 #[.agg #[.int .i64 r.k, .int .u8 r.pr, .int .u32 (r.si : Int), .int .i64 r.sb, .int .u32 (r.di : Int), .int .i64 r.db, .int .u32 (r.ex : Int), .int .u16 r.fr, .int .u16 r.to, .int .u32 (r.ii : Int), .int .u16 r.ip], .int .u8 pr] w fun e w' => e = .returned (.bool (decide (r.pr = 0) || decide (r.pr = pr))) ∧ Below w.heap.size w w' := by
  obtain ⟨z1, p1, q1, l1⟩ := eqi_ r.pr 0
  obtain ⟨z2, p2, q2, l2⟩ := eqi_ r.pr pr
  rw [l1, l2]
  clear l1 l2 q1 q2
  cases z1 <;> cases z2
  all_goals
    simp only [Bool.or_true, Bool.or_false, Bool.true_or]
    go_enter Try.func59, Try.ntmps59
    have B1 := Below.refl w.heap.size w
    go_upto_region 1 with fail
    have R_2 := Box11.make w (.int .i64 r.k) (.int .u8 r.pr) (.int .u32 (r.si : Int)) (.int .i64 r.sb) (.int .u32 (r.di : Int)) (.int .i64 r.db) (.int .u32 (r.ex : Int)) (.int .u16 r.fr) (.int .u16 r.to) (.int .u32 (r.ii : Int)) (.int .u16 r.ip) 42
    have B3 := B1.alloc B1.size (.cells #[.int .i64 r.k, .int .u8 r.pr, .int .u32 (r.si : Int), .int .i64 r.sb, .int .u32 (r.di : Int), .int .i64 r.db, .int .u32 (r.ex : Int), .int .u16 r.fr, .int .u16 r.to, .int .u32 (r.ii : Int), .int .u16 r.ip] 42)
    clear B1
    obtain ⟨u1, hu1⟩ : ∃ x_ : World, x_ = w.alloc (.cells #[.int .i64 r.k, .int .u8 r.pr, .int .u32 (r.si : Int), .int .i64 r.sb, .int .u32 (r.di : Int), .int .i64 r.db, .int .u32 (r.ex : Int), .int .u16 r.fr, .int .u16 r.to, .int .u32 (r.ii : Int), .int .u16 r.ip] 42) := ⟨_, rfl⟩
    rw [← hu1] at R_2 B3 ⊢
    clear hu1
    obtain ⟨_, r1_0, r1_1, r1_2, r1_3, r1_4, r1_5, r1_6, r1_7, r1_8, r1_9, r1_10⟩ := id R_2
    go_wp2
    go_ret
    exact ⟨rfl, B3⟩
set_option maxHeartbeats 1000000 in
set_option maxRecDepth 100000 in
theorem outerC_ (t : Tm) (r : Ru) (p : Nat) (S : Value) (w : World) (T0 : Box5 w p (.bool true) (.int .u32 (t.own : Int)) (.int .u32 (t.ip : Int)) (.int .i64 t.bits) S) :
    Calls Try.prog 52 #[.pointer (some ⟨p, 0, none⟩), .agg #[.int .i64 r.k, .int .u8 r.pr, .int .u32 (r.si : Int), .int .i64 r.sb, .int .u32 (r.di : Int), .int .i64 r.db, .int .u32 (r.ex : Int), .int .u16 r.fr, .int .u16 r.to, .int .u32 (r.ii : Int), .int .u16 r.ip]] w fun e w' => e = .returned (.int .u32 (extRu t r : Nat)) ∧ Below w.heap.size w w' := by
  by_cases h : r.k = 2
  · have HV : Hid (extRu t r = t.own) := by show _ = _; unfold extRu; rw [if_pos h]
    have e1 : (r.k == 2) = true := by rw [h]; rfl
    clear h
    go_enter Try.func52, Try.ntmps52
    have B1 := Below.refl w.heap.size w
    go_upto_region 1 with fail
    have T_2 := T0.past (o := (.cells #[.int .i64 r.k, .int .u8 r.pr, .int .u32 (r.si : Int), .int .i64 r.sb, .int .u32 (r.di : Int), .int .i64 r.db, .int .u32 (r.ex : Int), .int .u16 r.fr, .int .u16 r.to, .int .u32 (r.ii : Int), .int .u16 r.ip] 42))
    have R_3 := Box11.make w (.int .i64 r.k) (.int .u8 r.pr) (.int .u32 (r.si : Int)) (.int .i64 r.sb) (.int .u32 (r.di : Int)) (.int .i64 r.db) (.int .u32 (r.ex : Int)) (.int .u16 r.fr) (.int .u16 r.to) (.int .u32 (r.ii : Int)) (.int .u16 r.ip) 42
    have B4 := B1.alloc B1.size (.cells #[.int .i64 r.k, .int .u8 r.pr, .int .u32 (r.si : Int), .int .i64 r.sb, .int .u32 (r.di : Int), .int .i64 r.db, .int .u32 (r.ex : Int), .int .u16 r.fr, .int .u16 r.to, .int .u32 (r.ii : Int), .int .u16 r.ip] 42)
    clear T0 B1
    obtain ⟨u1, hu1⟩ : ∃ x_ : World, x_ = w.alloc (.cells #[.int .i64 r.k, .int .u8 r.pr, .int .u32 (r.si : Int), .int .i64 r.sb, .int .u32 (r.di : Int), .int .i64 r.db, .int .u32 (r.ex : Int), .int .u16 r.fr, .int .u16 r.to, .int .u32 (r.ii : Int), .int .u16 r.ip] 42) := ⟨_, rfl⟩
    rw [← hu1] at T_2 R_3 B4 ⊢
    clear hu1
    obtain ⟨_, r1_0, r1_1, r1_2, r1_3, r1_4, r1_5, r1_6, r1_7, r1_8, r1_9, r1_10⟩ := id R_3
    obtain ⟨_, t2_0, t2_1, t2_2, t2_3, t2_4⟩ := id T_2
    go_wp2
    go_ret
    rw [HV.out]
    exact ⟨rfl, B4⟩
  · have HV : Hid (extRu t r = r.ex) := by show _ = _; unfold extRu; rw [if_neg h]
    have e1 : (r.k == 2) = false := by simpa using h
    clear h
    go_enter Try.func52, Try.ntmps52
    have B1 := Below.refl w.heap.size w
    go_upto_region 1 with fail
    have T_2 := T0.past (o := (.cells #[.int .i64 r.k, .int .u8 r.pr, .int .u32 (r.si : Int), .int .i64 r.sb, .int .u32 (r.di : Int), .int .i64 r.db, .int .u32 (r.ex : Int), .int .u16 r.fr, .int .u16 r.to, .int .u32 (r.ii : Int), .int .u16 r.ip] 42))
    have R_3 := Box11.make w (.int .i64 r.k) (.int .u8 r.pr) (.int .u32 (r.si : Int)) (.int .i64 r.sb) (.int .u32 (r.di : Int)) (.int .i64 r.db) (.int .u32 (r.ex : Int)) (.int .u16 r.fr) (.int .u16 r.to) (.int .u32 (r.ii : Int)) (.int .u16 r.ip) 42
    have B4 := B1.alloc B1.size (.cells #[.int .i64 r.k, .int .u8 r.pr, .int .u32 (r.si : Int), .int .i64 r.sb, .int .u32 (r.di : Int), .int .i64 r.db, .int .u32 (r.ex : Int), .int .u16 r.fr, .int .u16 r.to, .int .u32 (r.ii : Int), .int .u16 r.ip] 42)
    clear T0 B1
    obtain ⟨u1, hu1⟩ : ∃ x_ : World, x_ = w.alloc (.cells #[.int .i64 r.k, .int .u8 r.pr, .int .u32 (r.si : Int), .int .i64 r.sb, .int .u32 (r.di : Int), .int .i64 r.db, .int .u32 (r.ex : Int), .int .u16 r.fr, .int .u16 r.to, .int .u32 (r.ii : Int), .int .u16 r.ip] 42) := ⟨_, rfl⟩
    rw [← hu1] at T_2 R_3 B4 ⊢
    clear hu1
    obtain ⟨_, r1_0, r1_1, r1_2, r1_3, r1_4, r1_5, r1_6, r1_7, r1_8, r1_9, r1_10⟩ := id R_3
    obtain ⟨_, t2_0, t2_1, t2_2, t2_3, t2_4⟩ := id T_2
    go_wp2
    go_ret
    rw [HV.out]
    exact ⟨rfl, B4⟩
set_option maxHeartbeats 4000000 in
set_option maxRecDepth 100000 in
theorem gives_ (t : Tm) (o s : Ru) (p : Nat) (S : Value) (w : World) (T0 : Box5 w p (.bool true) (.int .u32 (t.own : Int)) (.int .u32 (t.ip : Int)) (.int .i64 t.bits) S) :
    Calls Try.prog 65 #[.pointer (some ⟨p, 0, none⟩), .agg #[.int .i64 o.k, .int .u8 o.pr, .int .u32 (o.si : Int), .int .i64 o.sb, .int .u32 (o.di : Int), .int .i64 o.db, .int .u32 (o.ex : Int), .int .u16 o.fr, .int .u16 o.to, .int .u32 (o.ii : Int), .int .u16 o.ip], .agg #[.int .i64 s.k, .int .u8 s.pr, .int .u32 (s.si : Int), .int .i64 s.sb, .int .u32 (s.di : Int), .int .i64 s.db, .int .u32 (s.ex : Int), .int .u16 s.fr, .int .u16 s.to, .int .u32 (s.ii : Int), .int .u16 s.ip]] w fun e w' => e = .returned (.bool (clash1 t s o)) ∧ Below w.heap.size w w' := by
  have m1 := fun u => isFor_ o s.pr u
  have m2 := fun (u : World) (T : Box5 u p (.bool true) (.int .u32 (t.own : Int)) (.int .u32 (t.ip : Int)) (.int .i64 t.bits) S) => outerC_ t o p S u T
  obtain ⟨x, hx⟩ : ∃ x : Bool, (decide (o.pr = 0) || decide (o.pr = s.pr)) = x := ⟨_, rfl⟩
  obtain ⟨c1, p3, q3, l3⟩ := eqn_ (extRu t o) s.ex
  obtain ⟨c2, l4⟩ : ∃ x : Bool, decide (o.fr ≤ s.fr) = x := ⟨_, rfl⟩
  obtain ⟨c3, l5⟩ : ∃ x : Bool, decide (s.fr ≤ o.to) = x := ⟨_, rfl⟩
  rw [hx] at m1
  have HV : Hid (clash1 t s o = (x && c1 && c2 && c3)) := by show _ = _; unfold clash1; rw [hx, l3, l4, l5]
  clear hx l3 q3
  have key : (x = false) ∨ (x = true ∧ c1 = false) ∨ (x = true ∧ c1 = true ∧ c2 = false) ∨ (x = true ∧ c1 = true ∧ c2 = true ∧ c3 = false) ∨ (x = true ∧ c1 = true ∧ c2 = true ∧ c3 = true) := by cases x <;> cases c1 <;> cases c2 <;> cases c3 <;> simp
  rcases key with rfl | ⟨rfl, rfl⟩ | ⟨rfl, rfl, rfl⟩ | ⟨rfl, rfl, rfl, rfl⟩ | ⟨rfl, rfl, rfl, rfl⟩
  all_goals
    simp only [Bool.not_true, Bool.not_false, Bool.and_true, Bool.and_false, Bool.true_and, Bool.false_and, Bool.or_true, Bool.or_false, Bool.true_or, Bool.false_or] at HV
    go_enter Try.func65, Try.ntmps65
    have B1 := Below.refl w.heap.size w
    go_upto_region 1 with fail
    have T_2 := T0.past (o := (.cells #[.int .i64 o.k, .int .u8 o.pr, .int .u32 (o.si : Int), .int .i64 o.sb, .int .u32 (o.di : Int), .int .i64 o.db, .int .u32 (o.ex : Int), .int .u16 o.fr, .int .u16 o.to, .int .u32 (o.ii : Int), .int .u16 o.ip] 42))
    have O_3 := Box11.make w (.int .i64 o.k) (.int .u8 o.pr) (.int .u32 (o.si : Int)) (.int .i64 o.sb) (.int .u32 (o.di : Int)) (.int .i64 o.db) (.int .u32 (o.ex : Int)) (.int .u16 o.fr) (.int .u16 o.to) (.int .u32 (o.ii : Int)) (.int .u16 o.ip) 42
    have B4 := B1.alloc B1.size (.cells #[.int .i64 o.k, .int .u8 o.pr, .int .u32 (o.si : Int), .int .i64 o.sb, .int .u32 (o.di : Int), .int .i64 o.db, .int .u32 (o.ex : Int), .int .u16 o.fr, .int .u16 o.to, .int .u32 (o.ii : Int), .int .u16 o.ip] 42)
    clear T0 B1
    have T_5 := T_2.past (o := (.cells #[.int .i64 s.k, .int .u8 s.pr, .int .u32 (s.si : Int), .int .i64 s.sb, .int .u32 (s.di : Int), .int .i64 s.db, .int .u32 (s.ex : Int), .int .u16 s.fr, .int .u16 s.to, .int .u32 (s.ii : Int), .int .u16 s.ip] 42))
    have O_6 := O_3.past (o := (.cells #[.int .i64 s.k, .int .u8 s.pr, .int .u32 (s.si : Int), .int .i64 s.sb, .int .u32 (s.di : Int), .int .i64 s.db, .int .u32 (s.ex : Int), .int .u16 s.fr, .int .u16 s.to, .int .u32 (s.ii : Int), .int .u16 s.ip] 42))
    have hs_ : (w.alloc (.cells #[.int .i64 o.k, .int .u8 o.pr, .int .u32 (o.si : Int), .int .i64 o.sb, .int .u32 (o.di : Int), .int .i64 o.db, .int .u32 (o.ex : Int), .int .u16 o.fr, .int .u16 o.to, .int .u32 (o.ii : Int), .int .u16 o.ip] 42)).heap.size = w.heap.size + 1 := by simp
    have S_7 := Box11.make (w.alloc (.cells #[.int .i64 o.k, .int .u8 o.pr, .int .u32 (o.si : Int), .int .i64 o.sb, .int .u32 (o.di : Int), .int .i64 o.db, .int .u32 (o.ex : Int), .int .u16 o.fr, .int .u16 o.to, .int .u32 (o.ii : Int), .int .u16 o.ip] 42)) (.int .i64 s.k) (.int .u8 s.pr) (.int .u32 (s.si : Int)) (.int .i64 s.sb) (.int .u32 (s.di : Int)) (.int .i64 s.db) (.int .u32 (s.ex : Int)) (.int .u16 s.fr) (.int .u16 s.to) (.int .u32 (s.ii : Int)) (.int .u16 s.ip) 42
    rw [hs_] at S_7
    clear hs_
    have B8 := B4.alloc B4.size (.cells #[.int .i64 s.k, .int .u8 s.pr, .int .u32 (s.si : Int), .int .i64 s.sb, .int .u32 (s.di : Int), .int .i64 s.db, .int .u32 (s.ex : Int), .int .u16 s.fr, .int .u16 s.to, .int .u32 (s.ii : Int), .int .u16 s.ip] 42)
    clear T_2 O_3 B4
    obtain ⟨u1, hu1⟩ : ∃ x_ : World, x_ = (w.alloc (.cells #[.int .i64 o.k, .int .u8 o.pr, .int .u32 (o.si : Int), .int .i64 o.sb, .int .u32 (o.di : Int), .int .i64 o.db, .int .u32 (o.ex : Int), .int .u16 o.fr, .int .u16 o.to, .int .u32 (o.ii : Int), .int .u16 o.ip] 42)).alloc (.cells #[.int .i64 s.k, .int .u8 s.pr, .int .u32 (s.si : Int), .int .i64 s.sb, .int .u32 (s.di : Int), .int .i64 s.db, .int .u32 (s.ex : Int), .int .u16 s.fr, .int .u16 s.to, .int .u32 (s.ii : Int), .int .u16 s.ip] 42) := ⟨_, rfl⟩
    rw [← hu1] at T_5 O_6 S_7 B8 ⊢
    clear hu1
    obtain ⟨zo, go0, go1, go2, go3, go4, go5, go6, go7, go8, go9, go10⟩ := id O_6
    have Fo0 : ∀ x : Later u1.heap.size u1, x.u.cell? ⟨w.heap.size, 0, none⟩ = some (.int .i64 o.k) := fun x => x.block zo go0
    have Fo1 : ∀ x : Later u1.heap.size u1, x.u.cell? ⟨w.heap.size, 1, none⟩ = some (.int .u8 o.pr) := fun x => x.block zo go1
    have Fo2 : ∀ x : Later u1.heap.size u1, x.u.cell? ⟨w.heap.size, 2, none⟩ = some (.int .u32 (o.si : Int)) := fun x => x.block zo go2
    have Fo3 : ∀ x : Later u1.heap.size u1, x.u.cell? ⟨w.heap.size, 3, none⟩ = some (.int .i64 o.sb) := fun x => x.block zo go3
    have Fo4 : ∀ x : Later u1.heap.size u1, x.u.cell? ⟨w.heap.size, 4, none⟩ = some (.int .u32 (o.di : Int)) := fun x => x.block zo go4
    have Fo5 : ∀ x : Later u1.heap.size u1, x.u.cell? ⟨w.heap.size, 5, none⟩ = some (.int .i64 o.db) := fun x => x.block zo go5
    have Fo6 : ∀ x : Later u1.heap.size u1, x.u.cell? ⟨w.heap.size, 6, none⟩ = some (.int .u32 (o.ex : Int)) := fun x => x.block zo go6
    have Fo7 : ∀ x : Later u1.heap.size u1, x.u.cell? ⟨w.heap.size, 7, none⟩ = some (.int .u16 o.fr) := fun x => x.block zo go7
    have Fo8 : ∀ x : Later u1.heap.size u1, x.u.cell? ⟨w.heap.size, 8, none⟩ = some (.int .u16 o.to) := fun x => x.block zo go8
    have Fo9 : ∀ x : Later u1.heap.size u1, x.u.cell? ⟨w.heap.size, 9, none⟩ = some (.int .u32 (o.ii : Int)) := fun x => x.block zo go9
    have Fo10 : ∀ x : Later u1.heap.size u1, x.u.cell? ⟨w.heap.size, 10, none⟩ = some (.int .u16 o.ip) := fun x => x.block zo go10
    clear go0 go1 go2 go3 go4 go5 go6 go7 go8 go9 go10
    obtain ⟨zs, gs0, gs1, gs2, gs3, gs4, gs5, gs6, gs7, gs8, gs9, gs10⟩ := id S_7
    have Fs0 : ∀ x : Later u1.heap.size u1, x.u.cell? ⟨w.heap.size + 1, 0, none⟩ = some (.int .i64 s.k) := fun x => x.block zs gs0
    have Fs1 : ∀ x : Later u1.heap.size u1, x.u.cell? ⟨w.heap.size + 1, 1, none⟩ = some (.int .u8 s.pr) := fun x => x.block zs gs1
    have Fs2 : ∀ x : Later u1.heap.size u1, x.u.cell? ⟨w.heap.size + 1, 2, none⟩ = some (.int .u32 (s.si : Int)) := fun x => x.block zs gs2
    have Fs3 : ∀ x : Later u1.heap.size u1, x.u.cell? ⟨w.heap.size + 1, 3, none⟩ = some (.int .i64 s.sb) := fun x => x.block zs gs3
    have Fs4 : ∀ x : Later u1.heap.size u1, x.u.cell? ⟨w.heap.size + 1, 4, none⟩ = some (.int .u32 (s.di : Int)) := fun x => x.block zs gs4
    have Fs5 : ∀ x : Later u1.heap.size u1, x.u.cell? ⟨w.heap.size + 1, 5, none⟩ = some (.int .i64 s.db) := fun x => x.block zs gs5
    have Fs6 : ∀ x : Later u1.heap.size u1, x.u.cell? ⟨w.heap.size + 1, 6, none⟩ = some (.int .u32 (s.ex : Int)) := fun x => x.block zs gs6
    have Fs7 : ∀ x : Later u1.heap.size u1, x.u.cell? ⟨w.heap.size + 1, 7, none⟩ = some (.int .u16 s.fr) := fun x => x.block zs gs7
    have Fs8 : ∀ x : Later u1.heap.size u1, x.u.cell? ⟨w.heap.size + 1, 8, none⟩ = some (.int .u16 s.to) := fun x => x.block zs gs8
    have Fs9 : ∀ x : Later u1.heap.size u1, x.u.cell? ⟨w.heap.size + 1, 9, none⟩ = some (.int .u32 (s.ii : Int)) := fun x => x.block zs gs9
    have Fs10 : ∀ x : Later u1.heap.size u1, x.u.cell? ⟨w.heap.size + 1, 10, none⟩ = some (.int .u16 s.ip) := fun x => x.block zs gs10
    clear gs0 gs1 gs2 gs3 gs4 gs5 gs6 gs7 gs8 gs9 gs10
    refine region_later (B := u1.heap.size) (by kernel_rfl) (by kernel_rfl) ?_
    repeat (go_big_quiet_step (first
      | (go_at_call 59; exact later_of _ (Nat.le_refl _) (m1 _))
      | (go_at_call 52; exact later_of _ (Nat.le_refl _) (m2 _ (T_5.on (Later.h _))))))
    refine later_end fun w2 x2 => ?_
    have T_9 := T_5.on x2
    have O_10 := O_6.on x2
    have S_11 := S_7.on x2
    have B12 := B8.trans (x2.mono B8.size)
    clear Fo0 Fo1 Fo2 Fo3 Fo4 Fo5 Fo6 Fo7 Fo8 Fo9 Fo10 zo Fs0 Fs1 Fs2 Fs3 Fs4 Fs5 Fs6 Fs7 Fs8 Fs9 Fs10 zs T_5 O_6 S_7 B8 x2
    go_wp2
    go_ret
    rw [HV.out]
    exact ⟨rfl, B12⟩
set_option maxHeartbeats 4000000 in
set_option maxRecDepth 100000 in
theorem clash_33 (t : Tm) (a b : Ru) (p : Nat) (S : Value) (w : World) (T0 : Box5 w p (.bool true) (.int .u32 (t.own : Int)) (.int .u32 (t.ip : Int)) (.int .i64 t.bits) S) (ka : a.k = 3) (kb : b.k = 3) :
    Calls Try.prog 43 #[.pointer (some ⟨p, 0, none⟩), .agg #[.int .i64 a.k, .int .u8 a.pr, .int .u32 (a.si : Int), .int .i64 a.sb, .int .u32 (a.di : Int), .int .i64 a.db, .int .u32 (a.ex : Int), .int .u16 a.fr, .int .u16 a.to, .int .u32 (a.ii : Int), .int .u16 a.ip], .agg #[.int .i64 b.k, .int .u8 b.pr, .int .u32 (b.si : Int), .int .i64 b.sb, .int .u32 (b.di : Int), .int .i64 b.db, .int .u32 (b.ex : Int), .int .u16 b.fr, .int .u16 b.to, .int .u32 (b.ii : Int), .int .u16 b.ip]] w fun e w' => e = .returned (.bool (clashRu t a b)) ∧ Below w.heap.size w w' := by
  have d1 : decide (a.k = 3) = true := by simpa using ka
  have d2 : decide (b.k = 3) = true := by simpa using kb
  have s1 := fun u => static_ a u
  have s2 := fun u => static_ b u
  have f1 := fun u => front_ a u
  have f2 := fun u => front_ b u
  rw [d1] at s1
  rw [d2] at s2
  obtain ⟨x1, p1, q1, l1⟩ := eqi_ a.pr b.pr
  obtain ⟨x2, p2, q2, l2⟩ := eqn_ a.ex b.ex
  obtain ⟨x3, p3, q3, l3⟩ := eqi_ a.fr b.fr
  obtain ⟨x4, p4, q4, l4⟩ := eqn_ a.ii b.ii
  obtain ⟨x5, p5, q5, l5⟩ := eqi_ a.ip b.ip
  have HV : Hid (clashRu t a b = (x1 && ((x2 && x3) || (x4 && x5)))) := by show _ = _; unfold clashRu; rw [if_pos ka, if_pos kb, l1, l2, l3, l4, l5]
  clear ka kb d1 d2 l1 l2 l3 l4 l5
  have key : x1 = false ∨ (x1 = true ∧ x2 = true ∧ x3 = true) ∨ (x1 = true ∧ (x2 = false ∨ (x2 = true ∧ x3 = false)) ∧ (x4 = false ∨ (x4 = true ∧ x5 = false) ∨ (x4 = true ∧ x5 = true))) := by cases x1 <;> cases x2 <;> cases x3 <;> cases x4 <;> cases x5 <;> simp
  rcases key with rfl | ⟨rfl, rfl, rfl⟩ | ⟨rfl, hx, hy⟩
  · simp only [Bool.not_true, Bool.not_false, Bool.and_true, Bool.and_false, Bool.true_and, Bool.false_and, Bool.or_true, Bool.or_false, Bool.true_or, Bool.false_or] at HV q1 q3 q5
    go_enter Try.func43, Try.ntmps43
    have B1 := Below.refl w.heap.size w
    go_upto_region 1 with fail
    have T_2 := T0.past (o := (.cells #[.int .i64 a.k, .int .u8 a.pr, .int .u32 (a.si : Int), .int .i64 a.sb, .int .u32 (a.di : Int), .int .i64 a.db, .int .u32 (a.ex : Int), .int .u16 a.fr, .int .u16 a.to, .int .u32 (a.ii : Int), .int .u16 a.ip] 42))
    have A_3 := Box11.make w (.int .i64 a.k) (.int .u8 a.pr) (.int .u32 (a.si : Int)) (.int .i64 a.sb) (.int .u32 (a.di : Int)) (.int .i64 a.db) (.int .u32 (a.ex : Int)) (.int .u16 a.fr) (.int .u16 a.to) (.int .u32 (a.ii : Int)) (.int .u16 a.ip) 42
    have B4 := B1.alloc B1.size (.cells #[.int .i64 a.k, .int .u8 a.pr, .int .u32 (a.si : Int), .int .i64 a.sb, .int .u32 (a.di : Int), .int .i64 a.db, .int .u32 (a.ex : Int), .int .u16 a.fr, .int .u16 a.to, .int .u32 (a.ii : Int), .int .u16 a.ip] 42)
    clear T0 B1
    have T_5 := T_2.past (o := (.cells #[.int .i64 b.k, .int .u8 b.pr, .int .u32 (b.si : Int), .int .i64 b.sb, .int .u32 (b.di : Int), .int .i64 b.db, .int .u32 (b.ex : Int), .int .u16 b.fr, .int .u16 b.to, .int .u32 (b.ii : Int), .int .u16 b.ip] 42))
    have A_6 := A_3.past (o := (.cells #[.int .i64 b.k, .int .u8 b.pr, .int .u32 (b.si : Int), .int .i64 b.sb, .int .u32 (b.di : Int), .int .i64 b.db, .int .u32 (b.ex : Int), .int .u16 b.fr, .int .u16 b.to, .int .u32 (b.ii : Int), .int .u16 b.ip] 42))
    have hs_ : (w.alloc (.cells #[.int .i64 a.k, .int .u8 a.pr, .int .u32 (a.si : Int), .int .i64 a.sb, .int .u32 (a.di : Int), .int .i64 a.db, .int .u32 (a.ex : Int), .int .u16 a.fr, .int .u16 a.to, .int .u32 (a.ii : Int), .int .u16 a.ip] 42)).heap.size = w.heap.size + 1 := by simp
    have B_7 := Box11.make (w.alloc (.cells #[.int .i64 a.k, .int .u8 a.pr, .int .u32 (a.si : Int), .int .i64 a.sb, .int .u32 (a.di : Int), .int .i64 a.db, .int .u32 (a.ex : Int), .int .u16 a.fr, .int .u16 a.to, .int .u32 (a.ii : Int), .int .u16 a.ip] 42)) (.int .i64 b.k) (.int .u8 b.pr) (.int .u32 (b.si : Int)) (.int .i64 b.sb) (.int .u32 (b.di : Int)) (.int .i64 b.db) (.int .u32 (b.ex : Int)) (.int .u16 b.fr) (.int .u16 b.to) (.int .u32 (b.ii : Int)) (.int .u16 b.ip) 42
    rw [hs_] at B_7
    clear hs_
    have B8 := B4.alloc B4.size (.cells #[.int .i64 b.k, .int .u8 b.pr, .int .u32 (b.si : Int), .int .i64 b.sb, .int .u32 (b.di : Int), .int .i64 b.db, .int .u32 (b.ex : Int), .int .u16 b.fr, .int .u16 b.to, .int .u32 (b.ii : Int), .int .u16 b.ip] 42)
    clear T_2 A_3 B4
    obtain ⟨u1, hu1⟩ : ∃ x_ : World, x_ = (w.alloc (.cells #[.int .i64 a.k, .int .u8 a.pr, .int .u32 (a.si : Int), .int .i64 a.sb, .int .u32 (a.di : Int), .int .i64 a.db, .int .u32 (a.ex : Int), .int .u16 a.fr, .int .u16 a.to, .int .u32 (a.ii : Int), .int .u16 a.ip] 42)).alloc (.cells #[.int .i64 b.k, .int .u8 b.pr, .int .u32 (b.si : Int), .int .i64 b.sb, .int .u32 (b.di : Int), .int .i64 b.db, .int .u32 (b.ex : Int), .int .u16 b.fr, .int .u16 b.to, .int .u32 (b.ii : Int), .int .u16 b.ip] 42) := ⟨_, rfl⟩
    rw [← hu1] at T_5 A_6 B_7 B8 ⊢
    clear hu1
    obtain ⟨_, a1_0, a1_1, a1_2, a1_3, a1_4, a1_5, a1_6, a1_7, a1_8, a1_9, a1_10⟩ := id A_6
    obtain ⟨_, b2_0, b2_1, b2_2, b2_3, b2_4, b2_5, b2_6, b2_7, b2_8, b2_9, b2_10⟩ := id B_7
    go_wp2_with fail
    refine (s1 _).mono ?_; rintro e w2 ⟨rfl, x2⟩
    have T_9 := T_5.on x2
    have A_10 := A_6.on x2
    have B_11 := B_7.on x2
    have B12 := B8.trans (x2.mono B8.size)
    clear a1_0 a1_1 a1_2 a1_3 a1_4 a1_5 a1_6 a1_7 a1_8 a1_9 a1_10 b2_0 b2_1 b2_2 b2_3 b2_4 b2_5 b2_6 b2_7 b2_8 b2_9 b2_10 T_5 A_6 B_7 B8 x2
    obtain ⟨_, a3_0, a3_1, a3_2, a3_3, a3_4, a3_5, a3_6, a3_7, a3_8, a3_9, a3_10⟩ := id A_10
    obtain ⟨_, b4_0, b4_1, b4_2, b4_3, b4_4, b4_5, b4_6, b4_7, b4_8, b4_9, b4_10⟩ := id B_11
    go_wp2_with fail
    refine (s2 _).mono ?_; rintro e w3 ⟨rfl, x3⟩
    have T_13 := T_9.on x3
    have A_14 := A_10.on x3
    have B_15 := B_11.on x3
    have B16 := B12.trans (x3.mono B12.size)
    clear a3_0 a3_1 a3_2 a3_3 a3_4 a3_5 a3_6 a3_7 a3_8 a3_9 a3_10 b4_0 b4_1 b4_2 b4_3 b4_4 b4_5 b4_6 b4_7 b4_8 b4_9 b4_10 T_9 A_10 B_11 B12 x3
    obtain ⟨_, a5_0, a5_1, a5_2, a5_3, a5_4, a5_5, a5_6, a5_7, a5_8, a5_9, a5_10⟩ := id A_14
    obtain ⟨_, b6_0, b6_1, b6_2, b6_3, b6_4, b6_5, b6_6, b6_7, b6_8, b6_9, b6_10⟩ := id B_15
    go_upto_region 2 with fail
    clear a5_0 a5_1 a5_2 a5_3 a5_4 a5_5 a5_6 a5_7 a5_8 a5_9 a5_10 b6_0 b6_1 b6_2 b6_3 b6_4 b6_5 b6_6 b6_7 b6_8 b6_9 b6_10
    obtain ⟨za, ga0, ga1, ga2, ga3, ga4, ga5, ga6, ga7, ga8, ga9, ga10⟩ := id A_14
    have Fa0 : ∀ x : Later w3.heap.size w3, x.u.cell? ⟨w.heap.size, 0, none⟩ = some (.int .i64 a.k) := fun x => x.block za ga0
    have Fa1 : ∀ x : Later w3.heap.size w3, x.u.cell? ⟨w.heap.size, 1, none⟩ = some (.int .u8 a.pr) := fun x => x.block za ga1
    have Fa2 : ∀ x : Later w3.heap.size w3, x.u.cell? ⟨w.heap.size, 2, none⟩ = some (.int .u32 (a.si : Int)) := fun x => x.block za ga2
    have Fa3 : ∀ x : Later w3.heap.size w3, x.u.cell? ⟨w.heap.size, 3, none⟩ = some (.int .i64 a.sb) := fun x => x.block za ga3
    have Fa4 : ∀ x : Later w3.heap.size w3, x.u.cell? ⟨w.heap.size, 4, none⟩ = some (.int .u32 (a.di : Int)) := fun x => x.block za ga4
    have Fa5 : ∀ x : Later w3.heap.size w3, x.u.cell? ⟨w.heap.size, 5, none⟩ = some (.int .i64 a.db) := fun x => x.block za ga5
    have Fa6 : ∀ x : Later w3.heap.size w3, x.u.cell? ⟨w.heap.size, 6, none⟩ = some (.int .u32 (a.ex : Int)) := fun x => x.block za ga6
    have Fa7 : ∀ x : Later w3.heap.size w3, x.u.cell? ⟨w.heap.size, 7, none⟩ = some (.int .u16 a.fr) := fun x => x.block za ga7
    have Fa8 : ∀ x : Later w3.heap.size w3, x.u.cell? ⟨w.heap.size, 8, none⟩ = some (.int .u16 a.to) := fun x => x.block za ga8
    have Fa9 : ∀ x : Later w3.heap.size w3, x.u.cell? ⟨w.heap.size, 9, none⟩ = some (.int .u32 (a.ii : Int)) := fun x => x.block za ga9
    have Fa10 : ∀ x : Later w3.heap.size w3, x.u.cell? ⟨w.heap.size, 10, none⟩ = some (.int .u16 a.ip) := fun x => x.block za ga10
    clear ga0 ga1 ga2 ga3 ga4 ga5 ga6 ga7 ga8 ga9 ga10
    obtain ⟨zb, gb0, gb1, gb2, gb3, gb4, gb5, gb6, gb7, gb8, gb9, gb10⟩ := id B_15
    have Fb0 : ∀ x : Later w3.heap.size w3, x.u.cell? ⟨w.heap.size + 1, 0, none⟩ = some (.int .i64 b.k) := fun x => x.block zb gb0
    have Fb1 : ∀ x : Later w3.heap.size w3, x.u.cell? ⟨w.heap.size + 1, 1, none⟩ = some (.int .u8 b.pr) := fun x => x.block zb gb1
    have Fb2 : ∀ x : Later w3.heap.size w3, x.u.cell? ⟨w.heap.size + 1, 2, none⟩ = some (.int .u32 (b.si : Int)) := fun x => x.block zb gb2
    have Fb3 : ∀ x : Later w3.heap.size w3, x.u.cell? ⟨w.heap.size + 1, 3, none⟩ = some (.int .i64 b.sb) := fun x => x.block zb gb3
    have Fb4 : ∀ x : Later w3.heap.size w3, x.u.cell? ⟨w.heap.size + 1, 4, none⟩ = some (.int .u32 (b.di : Int)) := fun x => x.block zb gb4
    have Fb5 : ∀ x : Later w3.heap.size w3, x.u.cell? ⟨w.heap.size + 1, 5, none⟩ = some (.int .i64 b.db) := fun x => x.block zb gb5
    have Fb6 : ∀ x : Later w3.heap.size w3, x.u.cell? ⟨w.heap.size + 1, 6, none⟩ = some (.int .u32 (b.ex : Int)) := fun x => x.block zb gb6
    have Fb7 : ∀ x : Later w3.heap.size w3, x.u.cell? ⟨w.heap.size + 1, 7, none⟩ = some (.int .u16 b.fr) := fun x => x.block zb gb7
    have Fb8 : ∀ x : Later w3.heap.size w3, x.u.cell? ⟨w.heap.size + 1, 8, none⟩ = some (.int .u16 b.to) := fun x => x.block zb gb8
    have Fb9 : ∀ x : Later w3.heap.size w3, x.u.cell? ⟨w.heap.size + 1, 9, none⟩ = some (.int .u32 (b.ii : Int)) := fun x => x.block zb gb9
    have Fb10 : ∀ x : Later w3.heap.size w3, x.u.cell? ⟨w.heap.size + 1, 10, none⟩ = some (.int .u16 b.ip) := fun x => x.block zb gb10
    clear gb0 gb1 gb2 gb3 gb4 gb5 gb6 gb7 gb8 gb9 gb10
    refine region_later (B := w3.heap.size) (by kernel_rfl) (by kernel_rfl) ?_
    repeat (go_big_quiet_step (first
      | (go_at_call_of 56 (#[.agg #[.int .i64 a.k, .int .u8 a.pr, .int .u32 (a.si : Int), .int .i64 a.sb, .int .u32 (a.di : Int), .int .i64 a.db, .int .u32 (a.ex : Int), .int .u16 a.fr, .int .u16 a.to, .int .u32 (a.ii : Int), .int .u16 a.ip]] : Array Value); exact later_of _ (Nat.le_refl _) (f1 _))
      | (go_at_call_of 56 (#[.agg #[.int .i64 b.k, .int .u8 b.pr, .int .u32 (b.si : Int), .int .i64 b.sb, .int .u32 (b.di : Int), .int .i64 b.db, .int .u32 (b.ex : Int), .int .u16 b.fr, .int .u16 b.to, .int .u32 (b.ii : Int), .int .u16 b.ip]] : Array Value); exact later_of _ (Nat.le_refl _) (f2 _))))
    refine later_end fun w4 x4 => ?_
    have T_17 := T_13.on x4
    have A_18 := A_14.on x4
    have B_19 := B_15.on x4
    have B20 := B16.trans (x4.mono B16.size)
    clear Fa0 Fa1 Fa2 Fa3 Fa4 Fa5 Fa6 Fa7 Fa8 Fa9 Fa10 za Fb0 Fb1 Fb2 Fb3 Fb4 Fb5 Fb6 Fb7 Fb8 Fb9 Fb10 zb T_13 A_14 B_15 B16 x4
    go_wp2
    go_ret
    rw [HV.out]
    exact ⟨rfl, B20⟩
  · simp only [Bool.not_true, Bool.not_false, Bool.and_true, Bool.and_false, Bool.true_and, Bool.false_and, Bool.or_true, Bool.or_false, Bool.true_or, Bool.false_or] at HV q1 q3 q5
    go_enter Try.func43, Try.ntmps43
    have B1 := Below.refl w.heap.size w
    go_upto_region 1 with fail
    have T_2 := T0.past (o := (.cells #[.int .i64 a.k, .int .u8 a.pr, .int .u32 (a.si : Int), .int .i64 a.sb, .int .u32 (a.di : Int), .int .i64 a.db, .int .u32 (a.ex : Int), .int .u16 a.fr, .int .u16 a.to, .int .u32 (a.ii : Int), .int .u16 a.ip] 42))
    have A_3 := Box11.make w (.int .i64 a.k) (.int .u8 a.pr) (.int .u32 (a.si : Int)) (.int .i64 a.sb) (.int .u32 (a.di : Int)) (.int .i64 a.db) (.int .u32 (a.ex : Int)) (.int .u16 a.fr) (.int .u16 a.to) (.int .u32 (a.ii : Int)) (.int .u16 a.ip) 42
    have B4 := B1.alloc B1.size (.cells #[.int .i64 a.k, .int .u8 a.pr, .int .u32 (a.si : Int), .int .i64 a.sb, .int .u32 (a.di : Int), .int .i64 a.db, .int .u32 (a.ex : Int), .int .u16 a.fr, .int .u16 a.to, .int .u32 (a.ii : Int), .int .u16 a.ip] 42)
    clear T0 B1
    have T_5 := T_2.past (o := (.cells #[.int .i64 b.k, .int .u8 b.pr, .int .u32 (b.si : Int), .int .i64 b.sb, .int .u32 (b.di : Int), .int .i64 b.db, .int .u32 (b.ex : Int), .int .u16 b.fr, .int .u16 b.to, .int .u32 (b.ii : Int), .int .u16 b.ip] 42))
    have A_6 := A_3.past (o := (.cells #[.int .i64 b.k, .int .u8 b.pr, .int .u32 (b.si : Int), .int .i64 b.sb, .int .u32 (b.di : Int), .int .i64 b.db, .int .u32 (b.ex : Int), .int .u16 b.fr, .int .u16 b.to, .int .u32 (b.ii : Int), .int .u16 b.ip] 42))
    have hs_ : (w.alloc (.cells #[.int .i64 a.k, .int .u8 a.pr, .int .u32 (a.si : Int), .int .i64 a.sb, .int .u32 (a.di : Int), .int .i64 a.db, .int .u32 (a.ex : Int), .int .u16 a.fr, .int .u16 a.to, .int .u32 (a.ii : Int), .int .u16 a.ip] 42)).heap.size = w.heap.size + 1 := by simp
    have B_7 := Box11.make (w.alloc (.cells #[.int .i64 a.k, .int .u8 a.pr, .int .u32 (a.si : Int), .int .i64 a.sb, .int .u32 (a.di : Int), .int .i64 a.db, .int .u32 (a.ex : Int), .int .u16 a.fr, .int .u16 a.to, .int .u32 (a.ii : Int), .int .u16 a.ip] 42)) (.int .i64 b.k) (.int .u8 b.pr) (.int .u32 (b.si : Int)) (.int .i64 b.sb) (.int .u32 (b.di : Int)) (.int .i64 b.db) (.int .u32 (b.ex : Int)) (.int .u16 b.fr) (.int .u16 b.to) (.int .u32 (b.ii : Int)) (.int .u16 b.ip) 42
    rw [hs_] at B_7
    clear hs_
    have B8 := B4.alloc B4.size (.cells #[.int .i64 b.k, .int .u8 b.pr, .int .u32 (b.si : Int), .int .i64 b.sb, .int .u32 (b.di : Int), .int .i64 b.db, .int .u32 (b.ex : Int), .int .u16 b.fr, .int .u16 b.to, .int .u32 (b.ii : Int), .int .u16 b.ip] 42)
    clear T_2 A_3 B4
    obtain ⟨u1, hu1⟩ : ∃ x_ : World, x_ = (w.alloc (.cells #[.int .i64 a.k, .int .u8 a.pr, .int .u32 (a.si : Int), .int .i64 a.sb, .int .u32 (a.di : Int), .int .i64 a.db, .int .u32 (a.ex : Int), .int .u16 a.fr, .int .u16 a.to, .int .u32 (a.ii : Int), .int .u16 a.ip] 42)).alloc (.cells #[.int .i64 b.k, .int .u8 b.pr, .int .u32 (b.si : Int), .int .i64 b.sb, .int .u32 (b.di : Int), .int .i64 b.db, .int .u32 (b.ex : Int), .int .u16 b.fr, .int .u16 b.to, .int .u32 (b.ii : Int), .int .u16 b.ip] 42) := ⟨_, rfl⟩
    rw [← hu1] at T_5 A_6 B_7 B8 ⊢
    clear hu1
    obtain ⟨_, a1_0, a1_1, a1_2, a1_3, a1_4, a1_5, a1_6, a1_7, a1_8, a1_9, a1_10⟩ := id A_6
    obtain ⟨_, b2_0, b2_1, b2_2, b2_3, b2_4, b2_5, b2_6, b2_7, b2_8, b2_9, b2_10⟩ := id B_7
    go_wp2_with fail
    refine (s1 _).mono ?_; rintro e w2 ⟨rfl, x2⟩
    have T_9 := T_5.on x2
    have A_10 := A_6.on x2
    have B_11 := B_7.on x2
    have B12 := B8.trans (x2.mono B8.size)
    clear a1_0 a1_1 a1_2 a1_3 a1_4 a1_5 a1_6 a1_7 a1_8 a1_9 a1_10 b2_0 b2_1 b2_2 b2_3 b2_4 b2_5 b2_6 b2_7 b2_8 b2_9 b2_10 T_5 A_6 B_7 B8 x2
    obtain ⟨_, a3_0, a3_1, a3_2, a3_3, a3_4, a3_5, a3_6, a3_7, a3_8, a3_9, a3_10⟩ := id A_10
    obtain ⟨_, b4_0, b4_1, b4_2, b4_3, b4_4, b4_5, b4_6, b4_7, b4_8, b4_9, b4_10⟩ := id B_11
    go_wp2_with fail
    refine (s2 _).mono ?_; rintro e w3 ⟨rfl, x3⟩
    have T_13 := T_9.on x3
    have A_14 := A_10.on x3
    have B_15 := B_11.on x3
    have B16 := B12.trans (x3.mono B12.size)
    clear a3_0 a3_1 a3_2 a3_3 a3_4 a3_5 a3_6 a3_7 a3_8 a3_9 a3_10 b4_0 b4_1 b4_2 b4_3 b4_4 b4_5 b4_6 b4_7 b4_8 b4_9 b4_10 T_9 A_10 B_11 B12 x3
    obtain ⟨_, a5_0, a5_1, a5_2, a5_3, a5_4, a5_5, a5_6, a5_7, a5_8, a5_9, a5_10⟩ := id A_14
    obtain ⟨_, b6_0, b6_1, b6_2, b6_3, b6_4, b6_5, b6_6, b6_7, b6_8, b6_9, b6_10⟩ := id B_15
    go_upto_region 2 with fail
    clear a5_0 a5_1 a5_2 a5_3 a5_4 a5_5 a5_6 a5_7 a5_8 a5_9 a5_10 b6_0 b6_1 b6_2 b6_3 b6_4 b6_5 b6_6 b6_7 b6_8 b6_9 b6_10
    obtain ⟨za, ga0, ga1, ga2, ga3, ga4, ga5, ga6, ga7, ga8, ga9, ga10⟩ := id A_14
    have Fa0 : ∀ x : Later w3.heap.size w3, x.u.cell? ⟨w.heap.size, 0, none⟩ = some (.int .i64 a.k) := fun x => x.block za ga0
    have Fa1 : ∀ x : Later w3.heap.size w3, x.u.cell? ⟨w.heap.size, 1, none⟩ = some (.int .u8 a.pr) := fun x => x.block za ga1
    have Fa2 : ∀ x : Later w3.heap.size w3, x.u.cell? ⟨w.heap.size, 2, none⟩ = some (.int .u32 (a.si : Int)) := fun x => x.block za ga2
    have Fa3 : ∀ x : Later w3.heap.size w3, x.u.cell? ⟨w.heap.size, 3, none⟩ = some (.int .i64 a.sb) := fun x => x.block za ga3
    have Fa4 : ∀ x : Later w3.heap.size w3, x.u.cell? ⟨w.heap.size, 4, none⟩ = some (.int .u32 (a.di : Int)) := fun x => x.block za ga4
    have Fa5 : ∀ x : Later w3.heap.size w3, x.u.cell? ⟨w.heap.size, 5, none⟩ = some (.int .i64 a.db) := fun x => x.block za ga5
    have Fa6 : ∀ x : Later w3.heap.size w3, x.u.cell? ⟨w.heap.size, 6, none⟩ = some (.int .u32 (a.ex : Int)) := fun x => x.block za ga6
    have Fa7 : ∀ x : Later w3.heap.size w3, x.u.cell? ⟨w.heap.size, 7, none⟩ = some (.int .u16 a.fr) := fun x => x.block za ga7
    have Fa8 : ∀ x : Later w3.heap.size w3, x.u.cell? ⟨w.heap.size, 8, none⟩ = some (.int .u16 a.to) := fun x => x.block za ga8
    have Fa9 : ∀ x : Later w3.heap.size w3, x.u.cell? ⟨w.heap.size, 9, none⟩ = some (.int .u32 (a.ii : Int)) := fun x => x.block za ga9
    have Fa10 : ∀ x : Later w3.heap.size w3, x.u.cell? ⟨w.heap.size, 10, none⟩ = some (.int .u16 a.ip) := fun x => x.block za ga10
    clear ga0 ga1 ga2 ga3 ga4 ga5 ga6 ga7 ga8 ga9 ga10
    obtain ⟨zb, gb0, gb1, gb2, gb3, gb4, gb5, gb6, gb7, gb8, gb9, gb10⟩ := id B_15
    have Fb0 : ∀ x : Later w3.heap.size w3, x.u.cell? ⟨w.heap.size + 1, 0, none⟩ = some (.int .i64 b.k) := fun x => x.block zb gb0
    have Fb1 : ∀ x : Later w3.heap.size w3, x.u.cell? ⟨w.heap.size + 1, 1, none⟩ = some (.int .u8 b.pr) := fun x => x.block zb gb1
    have Fb2 : ∀ x : Later w3.heap.size w3, x.u.cell? ⟨w.heap.size + 1, 2, none⟩ = some (.int .u32 (b.si : Int)) := fun x => x.block zb gb2
    have Fb3 : ∀ x : Later w3.heap.size w3, x.u.cell? ⟨w.heap.size + 1, 3, none⟩ = some (.int .i64 b.sb) := fun x => x.block zb gb3
    have Fb4 : ∀ x : Later w3.heap.size w3, x.u.cell? ⟨w.heap.size + 1, 4, none⟩ = some (.int .u32 (b.di : Int)) := fun x => x.block zb gb4
    have Fb5 : ∀ x : Later w3.heap.size w3, x.u.cell? ⟨w.heap.size + 1, 5, none⟩ = some (.int .i64 b.db) := fun x => x.block zb gb5
    have Fb6 : ∀ x : Later w3.heap.size w3, x.u.cell? ⟨w.heap.size + 1, 6, none⟩ = some (.int .u32 (b.ex : Int)) := fun x => x.block zb gb6
    have Fb7 : ∀ x : Later w3.heap.size w3, x.u.cell? ⟨w.heap.size + 1, 7, none⟩ = some (.int .u16 b.fr) := fun x => x.block zb gb7
    have Fb8 : ∀ x : Later w3.heap.size w3, x.u.cell? ⟨w.heap.size + 1, 8, none⟩ = some (.int .u16 b.to) := fun x => x.block zb gb8
    have Fb9 : ∀ x : Later w3.heap.size w3, x.u.cell? ⟨w.heap.size + 1, 9, none⟩ = some (.int .u32 (b.ii : Int)) := fun x => x.block zb gb9
    have Fb10 : ∀ x : Later w3.heap.size w3, x.u.cell? ⟨w.heap.size + 1, 10, none⟩ = some (.int .u16 b.ip) := fun x => x.block zb gb10
    clear gb0 gb1 gb2 gb3 gb4 gb5 gb6 gb7 gb8 gb9 gb10
    refine region_later (B := w3.heap.size) (by kernel_rfl) (by kernel_rfl) ?_
    repeat (go_big_quiet_step (first
      | (go_at_call_of 56 (#[.agg #[.int .i64 a.k, .int .u8 a.pr, .int .u32 (a.si : Int), .int .i64 a.sb, .int .u32 (a.di : Int), .int .i64 a.db, .int .u32 (a.ex : Int), .int .u16 a.fr, .int .u16 a.to, .int .u32 (a.ii : Int), .int .u16 a.ip]] : Array Value); exact later_of _ (Nat.le_refl _) (f1 _))
      | (go_at_call_of 56 (#[.agg #[.int .i64 b.k, .int .u8 b.pr, .int .u32 (b.si : Int), .int .i64 b.sb, .int .u32 (b.di : Int), .int .i64 b.db, .int .u32 (b.ex : Int), .int .u16 b.fr, .int .u16 b.to, .int .u32 (b.ii : Int), .int .u16 b.ip]] : Array Value); exact later_of _ (Nat.le_refl _) (f2 _))))
    refine later_end fun w4 x4 => ?_
    have T_17 := T_13.on x4
    have A_18 := A_14.on x4
    have B_19 := B_15.on x4
    have B20 := B16.trans (x4.mono B16.size)
    clear Fa0 Fa1 Fa2 Fa3 Fa4 Fa5 Fa6 Fa7 Fa8 Fa9 Fa10 za Fb0 Fb1 Fb2 Fb3 Fb4 Fb5 Fb6 Fb7 Fb8 Fb9 Fb10 zb T_13 A_14 B_15 B16 x4
    go_wp2
    go_ret
    rw [HV.out]
    exact ⟨rfl, B20⟩
  · rcases hx with rfl | ⟨rfl, rfl⟩ <;> rcases hy with rfl | ⟨rfl, rfl⟩ | ⟨rfl, rfl⟩
    all_goals
      simp only [Bool.not_true, Bool.not_false, Bool.and_true, Bool.and_false, Bool.true_and, Bool.false_and, Bool.or_true, Bool.or_false, Bool.true_or, Bool.false_or] at HV q1 q3 q5
      go_enter Try.func43, Try.ntmps43
      have B1 := Below.refl w.heap.size w
      go_upto_region 1 with fail
      have T_2 := T0.past (o := (.cells #[.int .i64 a.k, .int .u8 a.pr, .int .u32 (a.si : Int), .int .i64 a.sb, .int .u32 (a.di : Int), .int .i64 a.db, .int .u32 (a.ex : Int), .int .u16 a.fr, .int .u16 a.to, .int .u32 (a.ii : Int), .int .u16 a.ip] 42))
      have A_3 := Box11.make w (.int .i64 a.k) (.int .u8 a.pr) (.int .u32 (a.si : Int)) (.int .i64 a.sb) (.int .u32 (a.di : Int)) (.int .i64 a.db) (.int .u32 (a.ex : Int)) (.int .u16 a.fr) (.int .u16 a.to) (.int .u32 (a.ii : Int)) (.int .u16 a.ip) 42
      have B4 := B1.alloc B1.size (.cells #[.int .i64 a.k, .int .u8 a.pr, .int .u32 (a.si : Int), .int .i64 a.sb, .int .u32 (a.di : Int), .int .i64 a.db, .int .u32 (a.ex : Int), .int .u16 a.fr, .int .u16 a.to, .int .u32 (a.ii : Int), .int .u16 a.ip] 42)
      clear T0 B1
      have T_5 := T_2.past (o := (.cells #[.int .i64 b.k, .int .u8 b.pr, .int .u32 (b.si : Int), .int .i64 b.sb, .int .u32 (b.di : Int), .int .i64 b.db, .int .u32 (b.ex : Int), .int .u16 b.fr, .int .u16 b.to, .int .u32 (b.ii : Int), .int .u16 b.ip] 42))
      have A_6 := A_3.past (o := (.cells #[.int .i64 b.k, .int .u8 b.pr, .int .u32 (b.si : Int), .int .i64 b.sb, .int .u32 (b.di : Int), .int .i64 b.db, .int .u32 (b.ex : Int), .int .u16 b.fr, .int .u16 b.to, .int .u32 (b.ii : Int), .int .u16 b.ip] 42))
      have hs_ : (w.alloc (.cells #[.int .i64 a.k, .int .u8 a.pr, .int .u32 (a.si : Int), .int .i64 a.sb, .int .u32 (a.di : Int), .int .i64 a.db, .int .u32 (a.ex : Int), .int .u16 a.fr, .int .u16 a.to, .int .u32 (a.ii : Int), .int .u16 a.ip] 42)).heap.size = w.heap.size + 1 := by simp
      have B_7 := Box11.make (w.alloc (.cells #[.int .i64 a.k, .int .u8 a.pr, .int .u32 (a.si : Int), .int .i64 a.sb, .int .u32 (a.di : Int), .int .i64 a.db, .int .u32 (a.ex : Int), .int .u16 a.fr, .int .u16 a.to, .int .u32 (a.ii : Int), .int .u16 a.ip] 42)) (.int .i64 b.k) (.int .u8 b.pr) (.int .u32 (b.si : Int)) (.int .i64 b.sb) (.int .u32 (b.di : Int)) (.int .i64 b.db) (.int .u32 (b.ex : Int)) (.int .u16 b.fr) (.int .u16 b.to) (.int .u32 (b.ii : Int)) (.int .u16 b.ip) 42
      rw [hs_] at B_7
      clear hs_
      have B8 := B4.alloc B4.size (.cells #[.int .i64 b.k, .int .u8 b.pr, .int .u32 (b.si : Int), .int .i64 b.sb, .int .u32 (b.di : Int), .int .i64 b.db, .int .u32 (b.ex : Int), .int .u16 b.fr, .int .u16 b.to, .int .u32 (b.ii : Int), .int .u16 b.ip] 42)
      clear T_2 A_3 B4
      obtain ⟨u1, hu1⟩ : ∃ x_ : World, x_ = (w.alloc (.cells #[.int .i64 a.k, .int .u8 a.pr, .int .u32 (a.si : Int), .int .i64 a.sb, .int .u32 (a.di : Int), .int .i64 a.db, .int .u32 (a.ex : Int), .int .u16 a.fr, .int .u16 a.to, .int .u32 (a.ii : Int), .int .u16 a.ip] 42)).alloc (.cells #[.int .i64 b.k, .int .u8 b.pr, .int .u32 (b.si : Int), .int .i64 b.sb, .int .u32 (b.di : Int), .int .i64 b.db, .int .u32 (b.ex : Int), .int .u16 b.fr, .int .u16 b.to, .int .u32 (b.ii : Int), .int .u16 b.ip] 42) := ⟨_, rfl⟩
      rw [← hu1] at T_5 A_6 B_7 B8 ⊢
      clear hu1
      obtain ⟨_, a1_0, a1_1, a1_2, a1_3, a1_4, a1_5, a1_6, a1_7, a1_8, a1_9, a1_10⟩ := id A_6
      obtain ⟨_, b2_0, b2_1, b2_2, b2_3, b2_4, b2_5, b2_6, b2_7, b2_8, b2_9, b2_10⟩ := id B_7
      go_wp2_with fail
      refine (s1 _).mono ?_; rintro e w2 ⟨rfl, x2⟩
      have T_9 := T_5.on x2
      have A_10 := A_6.on x2
      have B_11 := B_7.on x2
      have B12 := B8.trans (x2.mono B8.size)
      clear a1_0 a1_1 a1_2 a1_3 a1_4 a1_5 a1_6 a1_7 a1_8 a1_9 a1_10 b2_0 b2_1 b2_2 b2_3 b2_4 b2_5 b2_6 b2_7 b2_8 b2_9 b2_10 T_5 A_6 B_7 B8 x2
      obtain ⟨_, a3_0, a3_1, a3_2, a3_3, a3_4, a3_5, a3_6, a3_7, a3_8, a3_9, a3_10⟩ := id A_10
      obtain ⟨_, b4_0, b4_1, b4_2, b4_3, b4_4, b4_5, b4_6, b4_7, b4_8, b4_9, b4_10⟩ := id B_11
      go_wp2_with fail
      refine (s2 _).mono ?_; rintro e w3 ⟨rfl, x3⟩
      have T_13 := T_9.on x3
      have A_14 := A_10.on x3
      have B_15 := B_11.on x3
      have B16 := B12.trans (x3.mono B12.size)
      clear a3_0 a3_1 a3_2 a3_3 a3_4 a3_5 a3_6 a3_7 a3_8 a3_9 a3_10 b4_0 b4_1 b4_2 b4_3 b4_4 b4_5 b4_6 b4_7 b4_8 b4_9 b4_10 T_9 A_10 B_11 B12 x3
      obtain ⟨_, a5_0, a5_1, a5_2, a5_3, a5_4, a5_5, a5_6, a5_7, a5_8, a5_9, a5_10⟩ := id A_14
      obtain ⟨_, b6_0, b6_1, b6_2, b6_3, b6_4, b6_5, b6_6, b6_7, b6_8, b6_9, b6_10⟩ := id B_15
      go_upto_region 2 with fail
      clear a5_0 a5_1 a5_2 a5_3 a5_4 a5_5 a5_6 a5_7 a5_8 a5_9 a5_10 b6_0 b6_1 b6_2 b6_3 b6_4 b6_5 b6_6 b6_7 b6_8 b6_9 b6_10
      obtain ⟨za, ga0, ga1, ga2, ga3, ga4, ga5, ga6, ga7, ga8, ga9, ga10⟩ := id A_14
      have Fa0 : ∀ x : Later w3.heap.size w3, x.u.cell? ⟨w.heap.size, 0, none⟩ = some (.int .i64 a.k) := fun x => x.block za ga0
      have Fa1 : ∀ x : Later w3.heap.size w3, x.u.cell? ⟨w.heap.size, 1, none⟩ = some (.int .u8 a.pr) := fun x => x.block za ga1
      have Fa2 : ∀ x : Later w3.heap.size w3, x.u.cell? ⟨w.heap.size, 2, none⟩ = some (.int .u32 (a.si : Int)) := fun x => x.block za ga2
      have Fa3 : ∀ x : Later w3.heap.size w3, x.u.cell? ⟨w.heap.size, 3, none⟩ = some (.int .i64 a.sb) := fun x => x.block za ga3
      have Fa4 : ∀ x : Later w3.heap.size w3, x.u.cell? ⟨w.heap.size, 4, none⟩ = some (.int .u32 (a.di : Int)) := fun x => x.block za ga4
      have Fa5 : ∀ x : Later w3.heap.size w3, x.u.cell? ⟨w.heap.size, 5, none⟩ = some (.int .i64 a.db) := fun x => x.block za ga5
      have Fa6 : ∀ x : Later w3.heap.size w3, x.u.cell? ⟨w.heap.size, 6, none⟩ = some (.int .u32 (a.ex : Int)) := fun x => x.block za ga6
      have Fa7 : ∀ x : Later w3.heap.size w3, x.u.cell? ⟨w.heap.size, 7, none⟩ = some (.int .u16 a.fr) := fun x => x.block za ga7
      have Fa8 : ∀ x : Later w3.heap.size w3, x.u.cell? ⟨w.heap.size, 8, none⟩ = some (.int .u16 a.to) := fun x => x.block za ga8
      have Fa9 : ∀ x : Later w3.heap.size w3, x.u.cell? ⟨w.heap.size, 9, none⟩ = some (.int .u32 (a.ii : Int)) := fun x => x.block za ga9
      have Fa10 : ∀ x : Later w3.heap.size w3, x.u.cell? ⟨w.heap.size, 10, none⟩ = some (.int .u16 a.ip) := fun x => x.block za ga10
      clear ga0 ga1 ga2 ga3 ga4 ga5 ga6 ga7 ga8 ga9 ga10
      obtain ⟨zb, gb0, gb1, gb2, gb3, gb4, gb5, gb6, gb7, gb8, gb9, gb10⟩ := id B_15
      have Fb0 : ∀ x : Later w3.heap.size w3, x.u.cell? ⟨w.heap.size + 1, 0, none⟩ = some (.int .i64 b.k) := fun x => x.block zb gb0
      have Fb1 : ∀ x : Later w3.heap.size w3, x.u.cell? ⟨w.heap.size + 1, 1, none⟩ = some (.int .u8 b.pr) := fun x => x.block zb gb1
      have Fb2 : ∀ x : Later w3.heap.size w3, x.u.cell? ⟨w.heap.size + 1, 2, none⟩ = some (.int .u32 (b.si : Int)) := fun x => x.block zb gb2
      have Fb3 : ∀ x : Later w3.heap.size w3, x.u.cell? ⟨w.heap.size + 1, 3, none⟩ = some (.int .i64 b.sb) := fun x => x.block zb gb3
      have Fb4 : ∀ x : Later w3.heap.size w3, x.u.cell? ⟨w.heap.size + 1, 4, none⟩ = some (.int .u32 (b.di : Int)) := fun x => x.block zb gb4
      have Fb5 : ∀ x : Later w3.heap.size w3, x.u.cell? ⟨w.heap.size + 1, 5, none⟩ = some (.int .i64 b.db) := fun x => x.block zb gb5
      have Fb6 : ∀ x : Later w3.heap.size w3, x.u.cell? ⟨w.heap.size + 1, 6, none⟩ = some (.int .u32 (b.ex : Int)) := fun x => x.block zb gb6
      have Fb7 : ∀ x : Later w3.heap.size w3, x.u.cell? ⟨w.heap.size + 1, 7, none⟩ = some (.int .u16 b.fr) := fun x => x.block zb gb7
      have Fb8 : ∀ x : Later w3.heap.size w3, x.u.cell? ⟨w.heap.size + 1, 8, none⟩ = some (.int .u16 b.to) := fun x => x.block zb gb8
      have Fb9 : ∀ x : Later w3.heap.size w3, x.u.cell? ⟨w.heap.size + 1, 9, none⟩ = some (.int .u32 (b.ii : Int)) := fun x => x.block zb gb9
      have Fb10 : ∀ x : Later w3.heap.size w3, x.u.cell? ⟨w.heap.size + 1, 10, none⟩ = some (.int .u16 b.ip) := fun x => x.block zb gb10
      clear gb0 gb1 gb2 gb3 gb4 gb5 gb6 gb7 gb8 gb9 gb10
      refine region_later (B := w3.heap.size) (by kernel_rfl) (by kernel_rfl) ?_
      repeat (go_big_quiet_step (first
        | (go_at_call_of 56 (#[.agg #[.int .i64 a.k, .int .u8 a.pr, .int .u32 (a.si : Int), .int .i64 a.sb, .int .u32 (a.di : Int), .int .i64 a.db, .int .u32 (a.ex : Int), .int .u16 a.fr, .int .u16 a.to, .int .u32 (a.ii : Int), .int .u16 a.ip]] : Array Value); exact later_of _ (Nat.le_refl _) (f1 _))
        | (go_at_call_of 56 (#[.agg #[.int .i64 b.k, .int .u8 b.pr, .int .u32 (b.si : Int), .int .i64 b.sb, .int .u32 (b.di : Int), .int .i64 b.db, .int .u32 (b.ex : Int), .int .u16 b.fr, .int .u16 b.to, .int .u32 (b.ii : Int), .int .u16 b.ip]] : Array Value); exact later_of _ (Nat.le_refl _) (f2 _))))
      refine later_end fun w4 x4 => ?_
      have T_17 := T_13.on x4
      have A_18 := A_14.on x4
      have B_19 := B_15.on x4
      have B20 := B16.trans (x4.mono B16.size)
      clear Fa0 Fa1 Fa2 Fa3 Fa4 Fa5 Fa6 Fa7 Fa8 Fa9 Fa10 za Fb0 Fb1 Fb2 Fb3 Fb4 Fb5 Fb6 Fb7 Fb8 Fb9 Fb10 zb T_13 A_14 B_15 B16 x4
      go_wp2
      go_ret
      rw [HV.out]
      exact ⟨rfl, B20⟩
set_option maxHeartbeats 4000000 in
set_option maxRecDepth 100000 in
theorem clash_30 (t : Tm) (a b : Ru) (p : Nat) (S : Value) (w : World) (T0 : Box5 w p (.bool true) (.int .u32 (t.own : Int)) (.int .u32 (t.ip : Int)) (.int .i64 t.bits) S) (ka : a.k = 3) (kb : ¬ b.k = 3) :
    Calls Try.prog 43 #[.pointer (some ⟨p, 0, none⟩), .agg #[.int .i64 a.k, .int .u8 a.pr, .int .u32 (a.si : Int), .int .i64 a.sb, .int .u32 (a.di : Int), .int .i64 a.db, .int .u32 (a.ex : Int), .int .u16 a.fr, .int .u16 a.to, .int .u32 (a.ii : Int), .int .u16 a.ip], .agg #[.int .i64 b.k, .int .u8 b.pr, .int .u32 (b.si : Int), .int .i64 b.sb, .int .u32 (b.di : Int), .int .i64 b.db, .int .u32 (b.ex : Int), .int .u16 b.fr, .int .u16 b.to, .int .u32 (b.ii : Int), .int .u16 b.ip]] w fun e w' => e = .returned (.bool (clashRu t a b)) ∧ Below w.heap.size w w' := by
  have d1 : decide (a.k = 3) = true := by simpa using ka
  have d2 : decide (b.k = 3) = false := by simpa using kb
  have s1 := fun u => static_ a u
  have s2 := fun u => static_ b u
  rw [d1] at s1
  rw [d2] at s2
  have m := fun (u : World) (T : Box5 u p (.bool true) (.int .u32 (t.own : Int)) (.int .u32 (t.ip : Int)) (.int .i64 t.bits) S) => gives_ t b a p S u T
  have HV : Hid (clashRu t a b = clash1 t a b) := by show _ = _; unfold clashRu; rw [if_pos ka, if_neg kb]
  generalize clash1 t a b = v at *
  clear ka kb d1 d2
  go_enter Try.func43, Try.ntmps43
  have B1 := Below.refl w.heap.size w
  go_upto_region 1 with fail
  have T_2 := T0.past (o := (.cells #[.int .i64 a.k, .int .u8 a.pr, .int .u32 (a.si : Int), .int .i64 a.sb, .int .u32 (a.di : Int), .int .i64 a.db, .int .u32 (a.ex : Int), .int .u16 a.fr, .int .u16 a.to, .int .u32 (a.ii : Int), .int .u16 a.ip] 42))
  have A_3 := Box11.make w (.int .i64 a.k) (.int .u8 a.pr) (.int .u32 (a.si : Int)) (.int .i64 a.sb) (.int .u32 (a.di : Int)) (.int .i64 a.db) (.int .u32 (a.ex : Int)) (.int .u16 a.fr) (.int .u16 a.to) (.int .u32 (a.ii : Int)) (.int .u16 a.ip) 42
  have B4 := B1.alloc B1.size (.cells #[.int .i64 a.k, .int .u8 a.pr, .int .u32 (a.si : Int), .int .i64 a.sb, .int .u32 (a.di : Int), .int .i64 a.db, .int .u32 (a.ex : Int), .int .u16 a.fr, .int .u16 a.to, .int .u32 (a.ii : Int), .int .u16 a.ip] 42)
  clear T0 B1
  have T_5 := T_2.past (o := (.cells #[.int .i64 b.k, .int .u8 b.pr, .int .u32 (b.si : Int), .int .i64 b.sb, .int .u32 (b.di : Int), .int .i64 b.db, .int .u32 (b.ex : Int), .int .u16 b.fr, .int .u16 b.to, .int .u32 (b.ii : Int), .int .u16 b.ip] 42))
  have A_6 := A_3.past (o := (.cells #[.int .i64 b.k, .int .u8 b.pr, .int .u32 (b.si : Int), .int .i64 b.sb, .int .u32 (b.di : Int), .int .i64 b.db, .int .u32 (b.ex : Int), .int .u16 b.fr, .int .u16 b.to, .int .u32 (b.ii : Int), .int .u16 b.ip] 42))
  have hs_ : (w.alloc (.cells #[.int .i64 a.k, .int .u8 a.pr, .int .u32 (a.si : Int), .int .i64 a.sb, .int .u32 (a.di : Int), .int .i64 a.db, .int .u32 (a.ex : Int), .int .u16 a.fr, .int .u16 a.to, .int .u32 (a.ii : Int), .int .u16 a.ip] 42)).heap.size = w.heap.size + 1 := by simp
  have B_7 := Box11.make (w.alloc (.cells #[.int .i64 a.k, .int .u8 a.pr, .int .u32 (a.si : Int), .int .i64 a.sb, .int .u32 (a.di : Int), .int .i64 a.db, .int .u32 (a.ex : Int), .int .u16 a.fr, .int .u16 a.to, .int .u32 (a.ii : Int), .int .u16 a.ip] 42)) (.int .i64 b.k) (.int .u8 b.pr) (.int .u32 (b.si : Int)) (.int .i64 b.sb) (.int .u32 (b.di : Int)) (.int .i64 b.db) (.int .u32 (b.ex : Int)) (.int .u16 b.fr) (.int .u16 b.to) (.int .u32 (b.ii : Int)) (.int .u16 b.ip) 42
  rw [hs_] at B_7
  clear hs_
  have B8 := B4.alloc B4.size (.cells #[.int .i64 b.k, .int .u8 b.pr, .int .u32 (b.si : Int), .int .i64 b.sb, .int .u32 (b.di : Int), .int .i64 b.db, .int .u32 (b.ex : Int), .int .u16 b.fr, .int .u16 b.to, .int .u32 (b.ii : Int), .int .u16 b.ip] 42)
  clear T_2 A_3 B4
  obtain ⟨u1, hu1⟩ : ∃ x_ : World, x_ = (w.alloc (.cells #[.int .i64 a.k, .int .u8 a.pr, .int .u32 (a.si : Int), .int .i64 a.sb, .int .u32 (a.di : Int), .int .i64 a.db, .int .u32 (a.ex : Int), .int .u16 a.fr, .int .u16 a.to, .int .u32 (a.ii : Int), .int .u16 a.ip] 42)).alloc (.cells #[.int .i64 b.k, .int .u8 b.pr, .int .u32 (b.si : Int), .int .i64 b.sb, .int .u32 (b.di : Int), .int .i64 b.db, .int .u32 (b.ex : Int), .int .u16 b.fr, .int .u16 b.to, .int .u32 (b.ii : Int), .int .u16 b.ip] 42) := ⟨_, rfl⟩
  rw [← hu1] at T_5 A_6 B_7 B8 ⊢
  clear hu1
  obtain ⟨_, a1_0, a1_1, a1_2, a1_3, a1_4, a1_5, a1_6, a1_7, a1_8, a1_9, a1_10⟩ := id A_6
  obtain ⟨_, b2_0, b2_1, b2_2, b2_3, b2_4, b2_5, b2_6, b2_7, b2_8, b2_9, b2_10⟩ := id B_7
  go_wp2_with fail
  refine (s1 _).mono ?_; rintro e w2 ⟨rfl, x2⟩
  have T_9 := T_5.on x2
  have A_10 := A_6.on x2
  have B_11 := B_7.on x2
  have B12 := B8.trans (x2.mono B8.size)
  clear a1_0 a1_1 a1_2 a1_3 a1_4 a1_5 a1_6 a1_7 a1_8 a1_9 a1_10 b2_0 b2_1 b2_2 b2_3 b2_4 b2_5 b2_6 b2_7 b2_8 b2_9 b2_10 T_5 A_6 B_7 B8 x2
  obtain ⟨_, a3_0, a3_1, a3_2, a3_3, a3_4, a3_5, a3_6, a3_7, a3_8, a3_9, a3_10⟩ := id A_10
  obtain ⟨_, b4_0, b4_1, b4_2, b4_3, b4_4, b4_5, b4_6, b4_7, b4_8, b4_9, b4_10⟩ := id B_11
  go_wp2_with fail
  refine (s2 _).mono ?_; rintro e w3 ⟨rfl, x3⟩
  have T_13 := T_9.on x3
  have A_14 := A_10.on x3
  have B_15 := B_11.on x3
  have B16 := B12.trans (x3.mono B12.size)
  clear a3_0 a3_1 a3_2 a3_3 a3_4 a3_5 a3_6 a3_7 a3_8 a3_9 a3_10 b4_0 b4_1 b4_2 b4_3 b4_4 b4_5 b4_6 b4_7 b4_8 b4_9 b4_10 T_9 A_10 B_11 B12 x3
  obtain ⟨_, a5_0, a5_1, a5_2, a5_3, a5_4, a5_5, a5_6, a5_7, a5_8, a5_9, a5_10⟩ := id A_14
  obtain ⟨_, b6_0, b6_1, b6_2, b6_3, b6_4, b6_5, b6_6, b6_7, b6_8, b6_9, b6_10⟩ := id B_15
  go_wp2_with fail
  refine (s1 _).mono ?_; rintro e w4 ⟨rfl, x4⟩
  have T_17 := T_13.on x4
  have A_18 := A_14.on x4
  have B_19 := B_15.on x4
  have B20 := B16.trans (x4.mono B16.size)
  clear a5_0 a5_1 a5_2 a5_3 a5_4 a5_5 a5_6 a5_7 a5_8 a5_9 a5_10 b6_0 b6_1 b6_2 b6_3 b6_4 b6_5 b6_6 b6_7 b6_8 b6_9 b6_10 T_13 A_14 B_15 B16 x4
  obtain ⟨_, a7_0, a7_1, a7_2, a7_3, a7_4, a7_5, a7_6, a7_7, a7_8, a7_9, a7_10⟩ := id A_18
  obtain ⟨_, b8_0, b8_1, b8_2, b8_3, b8_4, b8_5, b8_6, b8_7, b8_8, b8_9, b8_10⟩ := id B_19
  go_wp2_with fail
  refine (m _ T_17).mono ?_; rintro e w5 ⟨rfl, x5⟩
  have T_21 := T_17.on x5
  have A_22 := A_18.on x5
  have B_23 := B_19.on x5
  have B24 := B20.trans (x5.mono B20.size)
  clear a7_0 a7_1 a7_2 a7_3 a7_4 a7_5 a7_6 a7_7 a7_8 a7_9 a7_10 b8_0 b8_1 b8_2 b8_3 b8_4 b8_5 b8_6 b8_7 b8_8 b8_9 b8_10 T_17 A_18 B_19 B20 x5
  obtain ⟨_, a9_0, a9_1, a9_2, a9_3, a9_4, a9_5, a9_6, a9_7, a9_8, a9_9, a9_10⟩ := id A_22
  obtain ⟨_, b10_0, b10_1, b10_2, b10_3, b10_4, b10_5, b10_6, b10_7, b10_8, b10_9, b10_10⟩ := id B_23
  go_wp2
  go_ret
  rw [HV.out]
  exact ⟨rfl, B24⟩
set_option maxHeartbeats 4000000 in
set_option maxRecDepth 100000 in
theorem clash_03 (t : Tm) (a b : Ru) (p : Nat) (S : Value) (w : World) (T0 : Box5 w p (.bool true) (.int .u32 (t.own : Int)) (.int .u32 (t.ip : Int)) (.int .i64 t.bits) S) (ka : ¬ a.k = 3) (kb : b.k = 3) :
    Calls Try.prog 43 #[.pointer (some ⟨p, 0, none⟩), .agg #[.int .i64 a.k, .int .u8 a.pr, .int .u32 (a.si : Int), .int .i64 a.sb, .int .u32 (a.di : Int), .int .i64 a.db, .int .u32 (a.ex : Int), .int .u16 a.fr, .int .u16 a.to, .int .u32 (a.ii : Int), .int .u16 a.ip], .agg #[.int .i64 b.k, .int .u8 b.pr, .int .u32 (b.si : Int), .int .i64 b.sb, .int .u32 (b.di : Int), .int .i64 b.db, .int .u32 (b.ex : Int), .int .u16 b.fr, .int .u16 b.to, .int .u32 (b.ii : Int), .int .u16 b.ip]] w fun e w' => e = .returned (.bool (clashRu t a b)) ∧ Below w.heap.size w w' := by
  have d1 : decide (a.k = 3) = false := by simpa using ka
  have d2 : decide (b.k = 3) = true := by simpa using kb
  have s1 := fun u => static_ a u
  have s2 := fun u => static_ b u
  rw [d1] at s1
  rw [d2] at s2
  have m := fun (u : World) (T : Box5 u p (.bool true) (.int .u32 (t.own : Int)) (.int .u32 (t.ip : Int)) (.int .i64 t.bits) S) => gives_ t a b p S u T
  have HV : Hid (clashRu t a b = clash1 t b a) := by show _ = _; unfold clashRu; rw [if_neg ka, if_pos kb]
  generalize clash1 t b a = v at *
  clear ka kb d1 d2
  go_enter Try.func43, Try.ntmps43
  have B1 := Below.refl w.heap.size w
  go_upto_region 1 with fail
  have T_2 := T0.past (o := (.cells #[.int .i64 a.k, .int .u8 a.pr, .int .u32 (a.si : Int), .int .i64 a.sb, .int .u32 (a.di : Int), .int .i64 a.db, .int .u32 (a.ex : Int), .int .u16 a.fr, .int .u16 a.to, .int .u32 (a.ii : Int), .int .u16 a.ip] 42))
  have A_3 := Box11.make w (.int .i64 a.k) (.int .u8 a.pr) (.int .u32 (a.si : Int)) (.int .i64 a.sb) (.int .u32 (a.di : Int)) (.int .i64 a.db) (.int .u32 (a.ex : Int)) (.int .u16 a.fr) (.int .u16 a.to) (.int .u32 (a.ii : Int)) (.int .u16 a.ip) 42
  have B4 := B1.alloc B1.size (.cells #[.int .i64 a.k, .int .u8 a.pr, .int .u32 (a.si : Int), .int .i64 a.sb, .int .u32 (a.di : Int), .int .i64 a.db, .int .u32 (a.ex : Int), .int .u16 a.fr, .int .u16 a.to, .int .u32 (a.ii : Int), .int .u16 a.ip] 42)
  clear T0 B1
  have T_5 := T_2.past (o := (.cells #[.int .i64 b.k, .int .u8 b.pr, .int .u32 (b.si : Int), .int .i64 b.sb, .int .u32 (b.di : Int), .int .i64 b.db, .int .u32 (b.ex : Int), .int .u16 b.fr, .int .u16 b.to, .int .u32 (b.ii : Int), .int .u16 b.ip] 42))
  have A_6 := A_3.past (o := (.cells #[.int .i64 b.k, .int .u8 b.pr, .int .u32 (b.si : Int), .int .i64 b.sb, .int .u32 (b.di : Int), .int .i64 b.db, .int .u32 (b.ex : Int), .int .u16 b.fr, .int .u16 b.to, .int .u32 (b.ii : Int), .int .u16 b.ip] 42))
  have hs_ : (w.alloc (.cells #[.int .i64 a.k, .int .u8 a.pr, .int .u32 (a.si : Int), .int .i64 a.sb, .int .u32 (a.di : Int), .int .i64 a.db, .int .u32 (a.ex : Int), .int .u16 a.fr, .int .u16 a.to, .int .u32 (a.ii : Int), .int .u16 a.ip] 42)).heap.size = w.heap.size + 1 := by simp
  have B_7 := Box11.make (w.alloc (.cells #[.int .i64 a.k, .int .u8 a.pr, .int .u32 (a.si : Int), .int .i64 a.sb, .int .u32 (a.di : Int), .int .i64 a.db, .int .u32 (a.ex : Int), .int .u16 a.fr, .int .u16 a.to, .int .u32 (a.ii : Int), .int .u16 a.ip] 42)) (.int .i64 b.k) (.int .u8 b.pr) (.int .u32 (b.si : Int)) (.int .i64 b.sb) (.int .u32 (b.di : Int)) (.int .i64 b.db) (.int .u32 (b.ex : Int)) (.int .u16 b.fr) (.int .u16 b.to) (.int .u32 (b.ii : Int)) (.int .u16 b.ip) 42
  rw [hs_] at B_7
  clear hs_
  have B8 := B4.alloc B4.size (.cells #[.int .i64 b.k, .int .u8 b.pr, .int .u32 (b.si : Int), .int .i64 b.sb, .int .u32 (b.di : Int), .int .i64 b.db, .int .u32 (b.ex : Int), .int .u16 b.fr, .int .u16 b.to, .int .u32 (b.ii : Int), .int .u16 b.ip] 42)
  clear T_2 A_3 B4
  obtain ⟨u1, hu1⟩ : ∃ x_ : World, x_ = (w.alloc (.cells #[.int .i64 a.k, .int .u8 a.pr, .int .u32 (a.si : Int), .int .i64 a.sb, .int .u32 (a.di : Int), .int .i64 a.db, .int .u32 (a.ex : Int), .int .u16 a.fr, .int .u16 a.to, .int .u32 (a.ii : Int), .int .u16 a.ip] 42)).alloc (.cells #[.int .i64 b.k, .int .u8 b.pr, .int .u32 (b.si : Int), .int .i64 b.sb, .int .u32 (b.di : Int), .int .i64 b.db, .int .u32 (b.ex : Int), .int .u16 b.fr, .int .u16 b.to, .int .u32 (b.ii : Int), .int .u16 b.ip] 42) := ⟨_, rfl⟩
  rw [← hu1] at T_5 A_6 B_7 B8 ⊢
  clear hu1
  obtain ⟨_, a1_0, a1_1, a1_2, a1_3, a1_4, a1_5, a1_6, a1_7, a1_8, a1_9, a1_10⟩ := id A_6
  obtain ⟨_, b2_0, b2_1, b2_2, b2_3, b2_4, b2_5, b2_6, b2_7, b2_8, b2_9, b2_10⟩ := id B_7
  go_wp2_with fail
  refine (s1 _).mono ?_; rintro e w2 ⟨rfl, x2⟩
  have T_9 := T_5.on x2
  have A_10 := A_6.on x2
  have B_11 := B_7.on x2
  have B12 := B8.trans (x2.mono B8.size)
  clear a1_0 a1_1 a1_2 a1_3 a1_4 a1_5 a1_6 a1_7 a1_8 a1_9 a1_10 b2_0 b2_1 b2_2 b2_3 b2_4 b2_5 b2_6 b2_7 b2_8 b2_9 b2_10 T_5 A_6 B_7 B8 x2
  obtain ⟨_, a3_0, a3_1, a3_2, a3_3, a3_4, a3_5, a3_6, a3_7, a3_8, a3_9, a3_10⟩ := id A_10
  obtain ⟨_, b4_0, b4_1, b4_2, b4_3, b4_4, b4_5, b4_6, b4_7, b4_8, b4_9, b4_10⟩ := id B_11
  go_wp2_with fail
  refine (s1 _).mono ?_; rintro e w3 ⟨rfl, x3⟩
  have T_13 := T_9.on x3
  have A_14 := A_10.on x3
  have B_15 := B_11.on x3
  have B16 := B12.trans (x3.mono B12.size)
  clear a3_0 a3_1 a3_2 a3_3 a3_4 a3_5 a3_6 a3_7 a3_8 a3_9 a3_10 b4_0 b4_1 b4_2 b4_3 b4_4 b4_5 b4_6 b4_7 b4_8 b4_9 b4_10 T_9 A_10 B_11 B12 x3
  obtain ⟨_, a5_0, a5_1, a5_2, a5_3, a5_4, a5_5, a5_6, a5_7, a5_8, a5_9, a5_10⟩ := id A_14
  obtain ⟨_, b6_0, b6_1, b6_2, b6_3, b6_4, b6_5, b6_6, b6_7, b6_8, b6_9, b6_10⟩ := id B_15
  go_wp2_with fail
  refine (s2 _).mono ?_; rintro e w4 ⟨rfl, x4⟩
  have T_17 := T_13.on x4
  have A_18 := A_14.on x4
  have B_19 := B_15.on x4
  have B20 := B16.trans (x4.mono B16.size)
  clear a5_0 a5_1 a5_2 a5_3 a5_4 a5_5 a5_6 a5_7 a5_8 a5_9 a5_10 b6_0 b6_1 b6_2 b6_3 b6_4 b6_5 b6_6 b6_7 b6_8 b6_9 b6_10 T_13 A_14 B_15 B16 x4
  obtain ⟨_, a7_0, a7_1, a7_2, a7_3, a7_4, a7_5, a7_6, a7_7, a7_8, a7_9, a7_10⟩ := id A_18
  obtain ⟨_, b8_0, b8_1, b8_2, b8_3, b8_4, b8_5, b8_6, b8_7, b8_8, b8_9, b8_10⟩ := id B_19
  go_wp2_with fail
  refine (m _ T_17).mono ?_; rintro e w5 ⟨rfl, x5⟩
  have T_21 := T_17.on x5
  have A_22 := A_18.on x5
  have B_23 := B_19.on x5
  have B24 := B20.trans (x5.mono B20.size)
  clear a7_0 a7_1 a7_2 a7_3 a7_4 a7_5 a7_6 a7_7 a7_8 a7_9 a7_10 b8_0 b8_1 b8_2 b8_3 b8_4 b8_5 b8_6 b8_7 b8_8 b8_9 b8_10 T_17 A_18 B_19 B20 x5
  obtain ⟨_, a9_0, a9_1, a9_2, a9_3, a9_4, a9_5, a9_6, a9_7, a9_8, a9_9, a9_10⟩ := id A_22
  obtain ⟨_, b10_0, b10_1, b10_2, b10_3, b10_4, b10_5, b10_6, b10_7, b10_8, b10_9, b10_10⟩ := id B_23
  go_wp2
  go_ret
  rw [HV.out]
  exact ⟨rfl, B24⟩
set_option maxHeartbeats 4000000 in
set_option maxRecDepth 100000 in
theorem clash_00 (t : Tm) (a b : Ru) (p : Nat) (S : Value) (w : World) (T0 : Box5 w p (.bool true) (.int .u32 (t.own : Int)) (.int .u32 (t.ip : Int)) (.int .i64 t.bits) S) (ka : ¬ a.k = 3) (kb : ¬ b.k = 3) :
    Calls Try.prog 43 #[.pointer (some ⟨p, 0, none⟩), .agg #[.int .i64 a.k, .int .u8 a.pr, .int .u32 (a.si : Int), .int .i64 a.sb, .int .u32 (a.di : Int), .int .i64 a.db, .int .u32 (a.ex : Int), .int .u16 a.fr, .int .u16 a.to, .int .u32 (a.ii : Int), .int .u16 a.ip], .agg #[.int .i64 b.k, .int .u8 b.pr, .int .u32 (b.si : Int), .int .i64 b.sb, .int .u32 (b.di : Int), .int .i64 b.db, .int .u32 (b.ex : Int), .int .u16 b.fr, .int .u16 b.to, .int .u32 (b.ii : Int), .int .u16 b.ip]] w fun e w' => e = .returned (.bool (clashRu t a b)) ∧ Below w.heap.size w w' := by
  have d1 : decide (a.k = 3) = false := by simpa using ka
  have d2 : decide (b.k = 3) = false := by simpa using kb
  have s1 := fun u => static_ a u
  have s2 := fun u => static_ b u
  rw [d1] at s1
  rw [d2] at s2
  have HV : Hid (clashRu t a b = false) := by show _ = _; unfold clashRu; rw [if_neg ka, if_neg kb]
  clear ka kb d1 d2
  go_enter Try.func43, Try.ntmps43
  have B1 := Below.refl w.heap.size w
  go_upto_region 1 with fail
  have T_2 := T0.past (o := (.cells #[.int .i64 a.k, .int .u8 a.pr, .int .u32 (a.si : Int), .int .i64 a.sb, .int .u32 (a.di : Int), .int .i64 a.db, .int .u32 (a.ex : Int), .int .u16 a.fr, .int .u16 a.to, .int .u32 (a.ii : Int), .int .u16 a.ip] 42))
  have A_3 := Box11.make w (.int .i64 a.k) (.int .u8 a.pr) (.int .u32 (a.si : Int)) (.int .i64 a.sb) (.int .u32 (a.di : Int)) (.int .i64 a.db) (.int .u32 (a.ex : Int)) (.int .u16 a.fr) (.int .u16 a.to) (.int .u32 (a.ii : Int)) (.int .u16 a.ip) 42
  have B4 := B1.alloc B1.size (.cells #[.int .i64 a.k, .int .u8 a.pr, .int .u32 (a.si : Int), .int .i64 a.sb, .int .u32 (a.di : Int), .int .i64 a.db, .int .u32 (a.ex : Int), .int .u16 a.fr, .int .u16 a.to, .int .u32 (a.ii : Int), .int .u16 a.ip] 42)
  clear T0 B1
  have T_5 := T_2.past (o := (.cells #[.int .i64 b.k, .int .u8 b.pr, .int .u32 (b.si : Int), .int .i64 b.sb, .int .u32 (b.di : Int), .int .i64 b.db, .int .u32 (b.ex : Int), .int .u16 b.fr, .int .u16 b.to, .int .u32 (b.ii : Int), .int .u16 b.ip] 42))
  have A_6 := A_3.past (o := (.cells #[.int .i64 b.k, .int .u8 b.pr, .int .u32 (b.si : Int), .int .i64 b.sb, .int .u32 (b.di : Int), .int .i64 b.db, .int .u32 (b.ex : Int), .int .u16 b.fr, .int .u16 b.to, .int .u32 (b.ii : Int), .int .u16 b.ip] 42))
  have hs_ : (w.alloc (.cells #[.int .i64 a.k, .int .u8 a.pr, .int .u32 (a.si : Int), .int .i64 a.sb, .int .u32 (a.di : Int), .int .i64 a.db, .int .u32 (a.ex : Int), .int .u16 a.fr, .int .u16 a.to, .int .u32 (a.ii : Int), .int .u16 a.ip] 42)).heap.size = w.heap.size + 1 := by simp
  have B_7 := Box11.make (w.alloc (.cells #[.int .i64 a.k, .int .u8 a.pr, .int .u32 (a.si : Int), .int .i64 a.sb, .int .u32 (a.di : Int), .int .i64 a.db, .int .u32 (a.ex : Int), .int .u16 a.fr, .int .u16 a.to, .int .u32 (a.ii : Int), .int .u16 a.ip] 42)) (.int .i64 b.k) (.int .u8 b.pr) (.int .u32 (b.si : Int)) (.int .i64 b.sb) (.int .u32 (b.di : Int)) (.int .i64 b.db) (.int .u32 (b.ex : Int)) (.int .u16 b.fr) (.int .u16 b.to) (.int .u32 (b.ii : Int)) (.int .u16 b.ip) 42
  rw [hs_] at B_7
  clear hs_
  have B8 := B4.alloc B4.size (.cells #[.int .i64 b.k, .int .u8 b.pr, .int .u32 (b.si : Int), .int .i64 b.sb, .int .u32 (b.di : Int), .int .i64 b.db, .int .u32 (b.ex : Int), .int .u16 b.fr, .int .u16 b.to, .int .u32 (b.ii : Int), .int .u16 b.ip] 42)
  clear T_2 A_3 B4
  obtain ⟨u1, hu1⟩ : ∃ x_ : World, x_ = (w.alloc (.cells #[.int .i64 a.k, .int .u8 a.pr, .int .u32 (a.si : Int), .int .i64 a.sb, .int .u32 (a.di : Int), .int .i64 a.db, .int .u32 (a.ex : Int), .int .u16 a.fr, .int .u16 a.to, .int .u32 (a.ii : Int), .int .u16 a.ip] 42)).alloc (.cells #[.int .i64 b.k, .int .u8 b.pr, .int .u32 (b.si : Int), .int .i64 b.sb, .int .u32 (b.di : Int), .int .i64 b.db, .int .u32 (b.ex : Int), .int .u16 b.fr, .int .u16 b.to, .int .u32 (b.ii : Int), .int .u16 b.ip] 42) := ⟨_, rfl⟩
  rw [← hu1] at T_5 A_6 B_7 B8 ⊢
  clear hu1
  obtain ⟨_, a1_0, a1_1, a1_2, a1_3, a1_4, a1_5, a1_6, a1_7, a1_8, a1_9, a1_10⟩ := id A_6
  obtain ⟨_, b2_0, b2_1, b2_2, b2_3, b2_4, b2_5, b2_6, b2_7, b2_8, b2_9, b2_10⟩ := id B_7
  go_wp2_with fail
  refine (s1 _).mono ?_; rintro e w2 ⟨rfl, x2⟩
  have T_9 := T_5.on x2
  have A_10 := A_6.on x2
  have B_11 := B_7.on x2
  have B12 := B8.trans (x2.mono B8.size)
  clear a1_0 a1_1 a1_2 a1_3 a1_4 a1_5 a1_6 a1_7 a1_8 a1_9 a1_10 b2_0 b2_1 b2_2 b2_3 b2_4 b2_5 b2_6 b2_7 b2_8 b2_9 b2_10 T_5 A_6 B_7 B8 x2
  obtain ⟨_, a3_0, a3_1, a3_2, a3_3, a3_4, a3_5, a3_6, a3_7, a3_8, a3_9, a3_10⟩ := id A_10
  obtain ⟨_, b4_0, b4_1, b4_2, b4_3, b4_4, b4_5, b4_6, b4_7, b4_8, b4_9, b4_10⟩ := id B_11
  go_wp2_with fail
  refine (s1 _).mono ?_; rintro e w3 ⟨rfl, x3⟩
  have T_13 := T_9.on x3
  have A_14 := A_10.on x3
  have B_15 := B_11.on x3
  have B16 := B12.trans (x3.mono B12.size)
  clear a3_0 a3_1 a3_2 a3_3 a3_4 a3_5 a3_6 a3_7 a3_8 a3_9 a3_10 b4_0 b4_1 b4_2 b4_3 b4_4 b4_5 b4_6 b4_7 b4_8 b4_9 b4_10 T_9 A_10 B_11 B12 x3
  obtain ⟨_, a5_0, a5_1, a5_2, a5_3, a5_4, a5_5, a5_6, a5_7, a5_8, a5_9, a5_10⟩ := id A_14
  obtain ⟨_, b6_0, b6_1, b6_2, b6_3, b6_4, b6_5, b6_6, b6_7, b6_8, b6_9, b6_10⟩ := id B_15
  go_wp2_with fail
  refine (s2 _).mono ?_; rintro e w4 ⟨rfl, x4⟩
  have T_17 := T_13.on x4
  have A_18 := A_14.on x4
  have B_19 := B_15.on x4
  have B20 := B16.trans (x4.mono B16.size)
  clear a5_0 a5_1 a5_2 a5_3 a5_4 a5_5 a5_6 a5_7 a5_8 a5_9 a5_10 b6_0 b6_1 b6_2 b6_3 b6_4 b6_5 b6_6 b6_7 b6_8 b6_9 b6_10 T_13 A_14 B_15 B16 x4
  obtain ⟨_, a7_0, a7_1, a7_2, a7_3, a7_4, a7_5, a7_6, a7_7, a7_8, a7_9, a7_10⟩ := id A_18
  obtain ⟨_, b8_0, b8_1, b8_2, b8_3, b8_4, b8_5, b8_6, b8_7, b8_8, b8_9, b8_10⟩ := id B_19
  go_wp2
  go_ret
  rw [HV.out]
  exact ⟨rfl, B20⟩
theorem clash_ (t : Tm) (a b : Ru) (p : Nat) (S : Value) (w : World) (T0 : Box5 w p (.bool true) (.int .u32 (t.own : Int)) (.int .u32 (t.ip : Int)) (.int .i64 t.bits) S) :
    Calls Try.prog 43 #[.pointer (some ⟨p, 0, none⟩), .agg #[.int .i64 a.k, .int .u8 a.pr, .int .u32 (a.si : Int), .int .i64 a.sb, .int .u32 (a.di : Int), .int .i64 a.db, .int .u32 (a.ex : Int), .int .u16 a.fr, .int .u16 a.to, .int .u32 (a.ii : Int), .int .u16 a.ip], .agg #[.int .i64 b.k, .int .u8 b.pr, .int .u32 (b.si : Int), .int .i64 b.sb, .int .u32 (b.di : Int), .int .i64 b.db, .int .u32 (b.ex : Int), .int .u16 b.fr, .int .u16 b.to, .int .u32 (b.ii : Int), .int .u16 b.ip]] w fun e w' => e = .returned (.bool (clashRu t a b)) ∧ Below w.heap.size w w' := by
  by_cases ka : a.k = 3
  · by_cases kb : b.k = 3
    · exact clash_33 t a b p S w T0 ka kb
    · exact clash_30 t a b p S w T0 ka kb
  · by_cases kb : b.k = 3
    · exact clash_03 t a b p S w T0 ka kb
    · exact clash_00 t a b p S w T0 ka kb
end Go.Proofs.Ytoogegpkgohffaa
