/- The code's rules (layer 11): none, Inner, mayGoOut, mayComeIn, may, Check. -/
import Derived.Test.YtoogegpkgohffaaSe
import Derived.Test.YtoogegpkgohffaaSd
namespace Go.Proofs.Ytoogegpkgohffaa
set_option linter.unusedVariables false
set_option linter.unusedSimpArgs false
open Go.ChangeShapes Go.WideShapes Go.ChangeAt Go.RowKit Go.PlainAid
attribute [local go_sem ↓] Go.wp_at_zero Go.wp_at_succ
set_option maxHeartbeats 1000000 in
set_option maxRecDepth 100000 in
theorem none_ (t : Tm) (p : Nat) (S : Value) (w : World) (T0 : Box5 w p (.bool true) (.int .u32 (t.own : Int)) (.int .u32 (t.ip : Int)) (.int .i64 t.bits) S) :
    Calls Try.prog 38 #[.pointer (some ⟨p, 0, none⟩)] w fun e w' => e = .returned (.bool false) ∧ Below w.heap.size w w' := by
  go_enter Try.func38, Try.ntmps38
  have B1 := Below.refl w.heap.size w
  obtain ⟨_, t1_0, t1_1, t1_2, t1_3, t1_4⟩ := id T0
  go_wp2
  go_ret
  exact ⟨rfl, B1⟩
set_option maxHeartbeats 1000000 in
set_option maxRecDepth 100000 in
theorem inner_ (t : Tm) (a p : Nat) (S : Value) (w : World) (T0 : Box5 w p (.bool true) (.int .u32 (t.own : Int)) (.int .u32 (t.ip : Int)) (.int .i64 t.bits) S) (ha : a < 4294967296) (h1 : t.ip < 4294967296) (h2 : -9223372036854775808 ≤ t.bits ∧ t.bits ≤ 9223372036854775807) :
    Calls Try.prog 23 #[.pointer (some ⟨p, 0, none⟩), .int .u32 (a : Int)] w fun e w' => e = .returned (.bool (innerB t a)) ∧ Below w.heap.size w w' := by
  have n := fun (u : World) (T : Box5 u p (.bool true) (.int .u32 (t.own : Int)) (.int .u32 (t.ip : Int)) (.int .i64 t.bits) S) => none_ t p S u T
  have c := fun u => has_ t.ip t.bits a u h1 ha h2
  have HV : Hid (hasV t.ip t.bits a = innerB t a) := rfl
  generalize hasV t.ip t.bits a = v at *
  go_enter Try.func23, Try.ntmps23
  have B1 := Below.refl w.heap.size w
  obtain ⟨_, t1_0, t1_1, t1_2, t1_3, t1_4⟩ := id T0
  go_wp2_with fail
  refine (n _ T0).mono ?_; rintro e w1 ⟨rfl, x1⟩
  have T_2 := T0.on x1
  have B3 := B1.trans (x1.mono B1.size)
  clear t1_0 t1_1 t1_2 t1_3 t1_4 T0 B1 x1
  obtain ⟨_, t2_0, t2_1, t2_2, t2_3, t2_4⟩ := id T_2
  go_wp2_with fail
  refine (c _).mono ?_; rintro e w2 ⟨rfl, x2⟩
  have T_4 := T_2.on x2
  have B5 := B3.trans (x2.mono B3.size)
  clear t2_0 t2_1 t2_2 t2_3 t2_4 T_2 B3 x2
  obtain ⟨_, t3_0, t3_1, t3_2, t3_3, t3_4⟩ := id T_4
  go_wp2
  go_ret
  rw [HV.out]
  exact ⟨rfl, B5⟩
/-- May a rule by which flows go out be, whatever its Ext. -/
def goOutB (r : Ru) : Bool := (decide (r.pr = 0) || decide (r.pr = 1) || decide (r.pr = 6) || decide (r.pr = 17)) && mayV r.si r.sb && mayV r.di r.db && decide (1 ≤ r.fr) && decide (r.fr ≤ r.to) && (decide (r.ii = 0) && decide (r.ip = 0))
/-- May a static rule be, whatever its addresses. -/
def comeInB (r : Ru) : Bool := (decide (r.pr = 6) || decide (r.pr = 17)) && (decide (r.si = 0) && decide (r.sb = 0)) && (decide (r.di = 0) && decide (r.db = 0)) && !decide (r.fr = 0) && decide (r.fr = r.to) && !decide (r.ip = 0)
set_option maxHeartbeats 4000000 in
set_option maxRecDepth 100000 in
theorem mayGoOut_ (r : Ru) (w : World) (hr : r.Ok) :
    Calls Try.prog 62 #[.agg #[.int .i64 r.k, .int .u8 r.pr, .int .u32 (r.si : Int), .int .i64 r.sb, .int .u32 (r.di : Int), .int .i64 r.db, .int .u32 (r.ex : Int), .int .u16 r.fr, .int .u16 r.to, .int .u32 (r.ii : Int), .int .u16 r.ip]] w fun e w' => e = .returned (.bool (goOutB r)) ∧ Below w.heap.size w w' := by
  have m1 := fun u => may_ r.si r.sb u hr.si1 ⟨hr.sb0, hr.sb1⟩
  have m2 := fun u => may_ r.di r.db u hr.di1 ⟨hr.db0, hr.db1⟩
  obtain ⟨x0, p0, q0, l0⟩ := eqi_ r.pr 0
  obtain ⟨x1, p1, q1, l1⟩ := eqi_ r.pr 1
  obtain ⟨x6, p6, q6, l6⟩ := eqi_ r.pr 6
  obtain ⟨x17, p17, q17, l17⟩ := eqi_ r.pr 17
  obtain ⟨xi, pi, ni, ui, vi, li⟩ := eqz_ r.ii
  obtain ⟨xp, pp, qp, lp⟩ := eqi_ r.ip 0
  obtain ⟨g1, hg1⟩ : ∃ v, decide (1 ≤ r.fr) = v := ⟨_, rfl⟩
  obtain ⟨g2, hg2⟩ : ∃ v, decide (r.fr ≤ r.to) = v := ⟨_, rfl⟩
  obtain ⟨a1, ha1⟩ : ∃ v, mayV r.si r.sb = v := ⟨_, rfl⟩
  obtain ⟨a2, ha2⟩ : ∃ v, mayV r.di r.db = v := ⟨_, rfl⟩
  rw [ha1] at m1
  rw [ha2] at m2
  have HV : Hid (goOutB r = ((x0 || x1 || x6 || x17) && a1 && a2 && g1 && g2 && (xi && xp))) := by show _ = _; unfold goOutB; rw [l0, l1, l6, l17, ha1, ha2, hg1, hg2, li, lp]
  clear l0 l1 l6 l17 li lp ha1 ha2 hr q0 q1 q6 q17
  have key : (x0 = false ∧ x1 = false ∧ x6 = false ∧ x17 = false) ∨ ((x0 = true ∨ (x0 = false ∧ x1 = true) ∨ (x0 = false ∧ x1 = false ∧ x6 = true) ∨ (x0 = false ∧ x1 = false ∧ x6 = false ∧ x17 = true)) ∧ ((a1 = false) ∨ (a1 = true ∧ a2 = false) ∨ (a1 = true ∧ a2 = true ∧ g1 = false) ∨ (a1 = true ∧ a2 = true ∧ g1 = true ∧ g2 = false) ∨ (a1 = true ∧ a2 = true ∧ g1 = true ∧ g2 = true ∧ xi = false) ∨ (a1 = true ∧ a2 = true ∧ g1 = true ∧ g2 = true ∧ xi = true ∧ xp = false) ∨ (a1 = true ∧ a2 = true ∧ g1 = true ∧ g2 = true ∧ xi = true ∧ xp = true))) := by
    cases x0 <;> cases x1 <;> cases x6 <;> cases x17 <;> simp <;> cases a1 <;> cases a2 <;> simp <;> cases g1 <;> cases g2 <;> cases xi <;> cases xp <;> simp
  rcases key with ⟨rfl, rfl, rfl, rfl⟩ | ⟨hz, key⟩
  · simp only [Bool.not_true, Bool.not_false, Bool.and_true, Bool.and_false, Bool.true_and, Bool.false_and, Bool.or_true, Bool.or_false, Bool.true_or, Bool.false_or] at HV
    go_enter Try.func62, Try.ntmps62
    have B1 := Below.refl w.heap.size w
    go_upto_region 1 with fail
    have R_2 := Box11.make w (.int .i64 r.k) (.int .u8 r.pr) (.int .u32 (r.si : Int)) (.int .i64 r.sb) (.int .u32 (r.di : Int)) (.int .i64 r.db) (.int .u32 (r.ex : Int)) (.int .u16 r.fr) (.int .u16 r.to) (.int .u32 (r.ii : Int)) (.int .u16 r.ip) 42
    have B3 := B1.alloc B1.size (.cells #[.int .i64 r.k, .int .u8 r.pr, .int .u32 (r.si : Int), .int .i64 r.sb, .int .u32 (r.di : Int), .int .i64 r.db, .int .u32 (r.ex : Int), .int .u16 r.fr, .int .u16 r.to, .int .u32 (r.ii : Int), .int .u16 r.ip] 42)
    clear B1
    obtain ⟨u1, hu1⟩ : ∃ x_ : World, x_ = w.alloc (.cells #[.int .i64 r.k, .int .u8 r.pr, .int .u32 (r.si : Int), .int .i64 r.sb, .int .u32 (r.di : Int), .int .i64 r.db, .int .u32 (r.ex : Int), .int .u16 r.fr, .int .u16 r.to, .int .u32 (r.ii : Int), .int .u16 r.ip] 42) := ⟨_, rfl⟩
    rw [← hu1] at R_2 B3 ⊢
    clear hu1
    obtain ⟨_, r1_0, r1_1, r1_2, r1_3, r1_4, r1_5, r1_6, r1_7, r1_8, r1_9, r1_10⟩ := id R_2
    go_wp2
    go_ret
    rw [HV.out]
    exact ⟨rfl, B3⟩
  rcases key with rfl | ⟨rfl, rfl⟩ | ⟨rfl, rfl, rfl⟩ | ⟨rfl, rfl, rfl, rfl⟩ | ⟨rfl, rfl, rfl, rfl, rfl⟩ | ⟨rfl, rfl, rfl, rfl, rfl, rfl⟩ | ⟨rfl, rfl, rfl, rfl, rfl, rfl⟩
  · rcases hz with rfl | ⟨rfl, rfl⟩ | ⟨rfl, rfl, rfl⟩ | ⟨rfl, rfl, rfl, rfl⟩
    all_goals
      simp only [Bool.not_true, Bool.not_false, Bool.and_true, Bool.and_false, Bool.true_and, Bool.false_and, Bool.or_true, Bool.or_false, Bool.true_or, Bool.false_or] at HV
      go_enter Try.func62, Try.ntmps62
      have B1 := Below.refl w.heap.size w
      go_upto_region 1 with fail
      have R_2 := Box11.make w (.int .i64 r.k) (.int .u8 r.pr) (.int .u32 (r.si : Int)) (.int .i64 r.sb) (.int .u32 (r.di : Int)) (.int .i64 r.db) (.int .u32 (r.ex : Int)) (.int .u16 r.fr) (.int .u16 r.to) (.int .u32 (r.ii : Int)) (.int .u16 r.ip) 42
      have B3 := B1.alloc B1.size (.cells #[.int .i64 r.k, .int .u8 r.pr, .int .u32 (r.si : Int), .int .i64 r.sb, .int .u32 (r.di : Int), .int .i64 r.db, .int .u32 (r.ex : Int), .int .u16 r.fr, .int .u16 r.to, .int .u32 (r.ii : Int), .int .u16 r.ip] 42)
      clear B1
      obtain ⟨u1, hu1⟩ : ∃ x_ : World, x_ = w.alloc (.cells #[.int .i64 r.k, .int .u8 r.pr, .int .u32 (r.si : Int), .int .i64 r.sb, .int .u32 (r.di : Int), .int .i64 r.db, .int .u32 (r.ex : Int), .int .u16 r.fr, .int .u16 r.to, .int .u32 (r.ii : Int), .int .u16 r.ip] 42) := ⟨_, rfl⟩
      rw [← hu1] at R_2 B3 ⊢
      clear hu1
      obtain ⟨_, r1_0, r1_1, r1_2, r1_3, r1_4, r1_5, r1_6, r1_7, r1_8, r1_9, r1_10⟩ := id R_2
      go_wp2_with fail
      refine (m1 _).mono ?_; rintro e w2 ⟨rfl, x2⟩
      have R_4 := R_2.on x2
      have B5 := B3.trans (x2.mono B3.size)
      clear r1_0 r1_1 r1_2 r1_3 r1_4 r1_5 r1_6 r1_7 r1_8 r1_9 r1_10 R_2 B3 x2
      obtain ⟨_, r2_0, r2_1, r2_2, r2_3, r2_4, r2_5, r2_6, r2_7, r2_8, r2_9, r2_10⟩ := id R_4
      go_wp2
      go_ret
      rw [HV.out]
      exact ⟨rfl, B5⟩
  · rcases hz with rfl | ⟨rfl, rfl⟩ | ⟨rfl, rfl, rfl⟩ | ⟨rfl, rfl, rfl, rfl⟩
    all_goals
      simp only [Bool.not_true, Bool.not_false, Bool.and_true, Bool.and_false, Bool.true_and, Bool.false_and, Bool.or_true, Bool.or_false, Bool.true_or, Bool.false_or] at HV
      go_enter Try.func62, Try.ntmps62
      have B1 := Below.refl w.heap.size w
      go_upto_region 1 with fail
      have R_2 := Box11.make w (.int .i64 r.k) (.int .u8 r.pr) (.int .u32 (r.si : Int)) (.int .i64 r.sb) (.int .u32 (r.di : Int)) (.int .i64 r.db) (.int .u32 (r.ex : Int)) (.int .u16 r.fr) (.int .u16 r.to) (.int .u32 (r.ii : Int)) (.int .u16 r.ip) 42
      have B3 := B1.alloc B1.size (.cells #[.int .i64 r.k, .int .u8 r.pr, .int .u32 (r.si : Int), .int .i64 r.sb, .int .u32 (r.di : Int), .int .i64 r.db, .int .u32 (r.ex : Int), .int .u16 r.fr, .int .u16 r.to, .int .u32 (r.ii : Int), .int .u16 r.ip] 42)
      clear B1
      obtain ⟨u1, hu1⟩ : ∃ x_ : World, x_ = w.alloc (.cells #[.int .i64 r.k, .int .u8 r.pr, .int .u32 (r.si : Int), .int .i64 r.sb, .int .u32 (r.di : Int), .int .i64 r.db, .int .u32 (r.ex : Int), .int .u16 r.fr, .int .u16 r.to, .int .u32 (r.ii : Int), .int .u16 r.ip] 42) := ⟨_, rfl⟩
      rw [← hu1] at R_2 B3 ⊢
      clear hu1
      obtain ⟨_, r1_0, r1_1, r1_2, r1_3, r1_4, r1_5, r1_6, r1_7, r1_8, r1_9, r1_10⟩ := id R_2
      go_wp2_with fail
      refine (m1 _).mono ?_; rintro e w2 ⟨rfl, x2⟩
      have R_4 := R_2.on x2
      have B5 := B3.trans (x2.mono B3.size)
      clear r1_0 r1_1 r1_2 r1_3 r1_4 r1_5 r1_6 r1_7 r1_8 r1_9 r1_10 R_2 B3 x2
      obtain ⟨_, r2_0, r2_1, r2_2, r2_3, r2_4, r2_5, r2_6, r2_7, r2_8, r2_9, r2_10⟩ := id R_4
      go_wp2_with fail
      refine (m2 _).mono ?_; rintro e w3 ⟨rfl, x3⟩
      have R_6 := R_4.on x3
      have B7 := B5.trans (x3.mono B5.size)
      clear r2_0 r2_1 r2_2 r2_3 r2_4 r2_5 r2_6 r2_7 r2_8 r2_9 r2_10 R_4 B5 x3
      obtain ⟨_, r3_0, r3_1, r3_2, r3_3, r3_4, r3_5, r3_6, r3_7, r3_8, r3_9, r3_10⟩ := id R_6
      go_wp2
      go_ret
      rw [HV.out]
      exact ⟨rfl, B7⟩
  · rcases hz with rfl | ⟨rfl, rfl⟩ | ⟨rfl, rfl, rfl⟩ | ⟨rfl, rfl, rfl, rfl⟩
    all_goals
      simp only [Bool.not_true, Bool.not_false, Bool.and_true, Bool.and_false, Bool.true_and, Bool.false_and, Bool.or_true, Bool.or_false, Bool.true_or, Bool.false_or] at HV
      go_enter Try.func62, Try.ntmps62
      have B1 := Below.refl w.heap.size w
      go_upto_region 1 with fail
      have R_2 := Box11.make w (.int .i64 r.k) (.int .u8 r.pr) (.int .u32 (r.si : Int)) (.int .i64 r.sb) (.int .u32 (r.di : Int)) (.int .i64 r.db) (.int .u32 (r.ex : Int)) (.int .u16 r.fr) (.int .u16 r.to) (.int .u32 (r.ii : Int)) (.int .u16 r.ip) 42
      have B3 := B1.alloc B1.size (.cells #[.int .i64 r.k, .int .u8 r.pr, .int .u32 (r.si : Int), .int .i64 r.sb, .int .u32 (r.di : Int), .int .i64 r.db, .int .u32 (r.ex : Int), .int .u16 r.fr, .int .u16 r.to, .int .u32 (r.ii : Int), .int .u16 r.ip] 42)
      clear B1
      obtain ⟨u1, hu1⟩ : ∃ x_ : World, x_ = w.alloc (.cells #[.int .i64 r.k, .int .u8 r.pr, .int .u32 (r.si : Int), .int .i64 r.sb, .int .u32 (r.di : Int), .int .i64 r.db, .int .u32 (r.ex : Int), .int .u16 r.fr, .int .u16 r.to, .int .u32 (r.ii : Int), .int .u16 r.ip] 42) := ⟨_, rfl⟩
      rw [← hu1] at R_2 B3 ⊢
      clear hu1
      obtain ⟨_, r1_0, r1_1, r1_2, r1_3, r1_4, r1_5, r1_6, r1_7, r1_8, r1_9, r1_10⟩ := id R_2
      go_wp2_with fail
      refine (m1 _).mono ?_; rintro e w2 ⟨rfl, x2⟩
      have R_4 := R_2.on x2
      have B5 := B3.trans (x2.mono B3.size)
      clear r1_0 r1_1 r1_2 r1_3 r1_4 r1_5 r1_6 r1_7 r1_8 r1_9 r1_10 R_2 B3 x2
      obtain ⟨_, r2_0, r2_1, r2_2, r2_3, r2_4, r2_5, r2_6, r2_7, r2_8, r2_9, r2_10⟩ := id R_4
      go_wp2_with fail
      refine (m2 _).mono ?_; rintro e w3 ⟨rfl, x3⟩
      have R_6 := R_4.on x3
      have B7 := B5.trans (x3.mono B5.size)
      clear r2_0 r2_1 r2_2 r2_3 r2_4 r2_5 r2_6 r2_7 r2_8 r2_9 r2_10 R_4 B5 x3
      obtain ⟨_, r3_0, r3_1, r3_2, r3_3, r3_4, r3_5, r3_6, r3_7, r3_8, r3_9, r3_10⟩ := id R_6
      go_wp2
      go_ret
      rw [HV.out]
      exact ⟨rfl, B7⟩
  · rcases hz with rfl | ⟨rfl, rfl⟩ | ⟨rfl, rfl, rfl⟩ | ⟨rfl, rfl, rfl, rfl⟩
    all_goals
      simp only [Bool.not_true, Bool.not_false, Bool.and_true, Bool.and_false, Bool.true_and, Bool.false_and, Bool.or_true, Bool.or_false, Bool.true_or, Bool.false_or] at HV
      go_enter Try.func62, Try.ntmps62
      have B1 := Below.refl w.heap.size w
      go_upto_region 1 with fail
      have R_2 := Box11.make w (.int .i64 r.k) (.int .u8 r.pr) (.int .u32 (r.si : Int)) (.int .i64 r.sb) (.int .u32 (r.di : Int)) (.int .i64 r.db) (.int .u32 (r.ex : Int)) (.int .u16 r.fr) (.int .u16 r.to) (.int .u32 (r.ii : Int)) (.int .u16 r.ip) 42
      have B3 := B1.alloc B1.size (.cells #[.int .i64 r.k, .int .u8 r.pr, .int .u32 (r.si : Int), .int .i64 r.sb, .int .u32 (r.di : Int), .int .i64 r.db, .int .u32 (r.ex : Int), .int .u16 r.fr, .int .u16 r.to, .int .u32 (r.ii : Int), .int .u16 r.ip] 42)
      clear B1
      obtain ⟨u1, hu1⟩ : ∃ x_ : World, x_ = w.alloc (.cells #[.int .i64 r.k, .int .u8 r.pr, .int .u32 (r.si : Int), .int .i64 r.sb, .int .u32 (r.di : Int), .int .i64 r.db, .int .u32 (r.ex : Int), .int .u16 r.fr, .int .u16 r.to, .int .u32 (r.ii : Int), .int .u16 r.ip] 42) := ⟨_, rfl⟩
      rw [← hu1] at R_2 B3 ⊢
      clear hu1
      obtain ⟨_, r1_0, r1_1, r1_2, r1_3, r1_4, r1_5, r1_6, r1_7, r1_8, r1_9, r1_10⟩ := id R_2
      go_wp2_with fail
      refine (m1 _).mono ?_; rintro e w2 ⟨rfl, x2⟩
      have R_4 := R_2.on x2
      have B5 := B3.trans (x2.mono B3.size)
      clear r1_0 r1_1 r1_2 r1_3 r1_4 r1_5 r1_6 r1_7 r1_8 r1_9 r1_10 R_2 B3 x2
      obtain ⟨_, r2_0, r2_1, r2_2, r2_3, r2_4, r2_5, r2_6, r2_7, r2_8, r2_9, r2_10⟩ := id R_4
      go_wp2_with fail
      refine (m2 _).mono ?_; rintro e w3 ⟨rfl, x3⟩
      have R_6 := R_4.on x3
      have B7 := B5.trans (x3.mono B5.size)
      clear r2_0 r2_1 r2_2 r2_3 r2_4 r2_5 r2_6 r2_7 r2_8 r2_9 r2_10 R_4 B5 x3
      obtain ⟨_, r3_0, r3_1, r3_2, r3_3, r3_4, r3_5, r3_6, r3_7, r3_8, r3_9, r3_10⟩ := id R_6
      go_wp2
      go_ret
      rw [HV.out]
      exact ⟨rfl, B7⟩
  · rcases hz with rfl | ⟨rfl, rfl⟩ | ⟨rfl, rfl, rfl⟩ | ⟨rfl, rfl, rfl, rfl⟩
    all_goals
      simp only [Bool.not_true, Bool.not_false, Bool.and_true, Bool.and_false, Bool.true_and, Bool.false_and, Bool.or_true, Bool.or_false, Bool.true_or, Bool.false_or] at HV
      go_enter Try.func62, Try.ntmps62
      have B1 := Below.refl w.heap.size w
      go_upto_region 1 with fail
      have R_2 := Box11.make w (.int .i64 r.k) (.int .u8 r.pr) (.int .u32 (r.si : Int)) (.int .i64 r.sb) (.int .u32 (r.di : Int)) (.int .i64 r.db) (.int .u32 (r.ex : Int)) (.int .u16 r.fr) (.int .u16 r.to) (.int .u32 (r.ii : Int)) (.int .u16 r.ip) 42
      have B3 := B1.alloc B1.size (.cells #[.int .i64 r.k, .int .u8 r.pr, .int .u32 (r.si : Int), .int .i64 r.sb, .int .u32 (r.di : Int), .int .i64 r.db, .int .u32 (r.ex : Int), .int .u16 r.fr, .int .u16 r.to, .int .u32 (r.ii : Int), .int .u16 r.ip] 42)
      clear B1
      obtain ⟨u1, hu1⟩ : ∃ x_ : World, x_ = w.alloc (.cells #[.int .i64 r.k, .int .u8 r.pr, .int .u32 (r.si : Int), .int .i64 r.sb, .int .u32 (r.di : Int), .int .i64 r.db, .int .u32 (r.ex : Int), .int .u16 r.fr, .int .u16 r.to, .int .u32 (r.ii : Int), .int .u16 r.ip] 42) := ⟨_, rfl⟩
      rw [← hu1] at R_2 B3 ⊢
      clear hu1
      obtain ⟨_, r1_0, r1_1, r1_2, r1_3, r1_4, r1_5, r1_6, r1_7, r1_8, r1_9, r1_10⟩ := id R_2
      go_wp2_with fail
      refine (m1 _).mono ?_; rintro e w2 ⟨rfl, x2⟩
      have R_4 := R_2.on x2
      have B5 := B3.trans (x2.mono B3.size)
      clear r1_0 r1_1 r1_2 r1_3 r1_4 r1_5 r1_6 r1_7 r1_8 r1_9 r1_10 R_2 B3 x2
      obtain ⟨_, r2_0, r2_1, r2_2, r2_3, r2_4, r2_5, r2_6, r2_7, r2_8, r2_9, r2_10⟩ := id R_4
      go_wp2_with fail
      refine (m2 _).mono ?_; rintro e w3 ⟨rfl, x3⟩
      have R_6 := R_4.on x3
      have B7 := B5.trans (x3.mono B5.size)
      clear r2_0 r2_1 r2_2 r2_3 r2_4 r2_5 r2_6 r2_7 r2_8 r2_9 r2_10 R_4 B5 x3
      obtain ⟨_, r3_0, r3_1, r3_2, r3_3, r3_4, r3_5, r3_6, r3_7, r3_8, r3_9, r3_10⟩ := id R_6
      go_wp2
      go_ret
      rw [HV.out]
      exact ⟨rfl, B7⟩
  · rcases hz with rfl | ⟨rfl, rfl⟩ | ⟨rfl, rfl, rfl⟩ | ⟨rfl, rfl, rfl, rfl⟩
    all_goals
      simp only [Bool.not_true, Bool.not_false, Bool.and_true, Bool.and_false, Bool.true_and, Bool.false_and, Bool.or_true, Bool.or_false, Bool.true_or, Bool.false_or] at HV
      go_enter Try.func62, Try.ntmps62
      have B1 := Below.refl w.heap.size w
      go_upto_region 1 with fail
      have R_2 := Box11.make w (.int .i64 r.k) (.int .u8 r.pr) (.int .u32 (r.si : Int)) (.int .i64 r.sb) (.int .u32 (r.di : Int)) (.int .i64 r.db) (.int .u32 (r.ex : Int)) (.int .u16 r.fr) (.int .u16 r.to) (.int .u32 (r.ii : Int)) (.int .u16 r.ip) 42
      have B3 := B1.alloc B1.size (.cells #[.int .i64 r.k, .int .u8 r.pr, .int .u32 (r.si : Int), .int .i64 r.sb, .int .u32 (r.di : Int), .int .i64 r.db, .int .u32 (r.ex : Int), .int .u16 r.fr, .int .u16 r.to, .int .u32 (r.ii : Int), .int .u16 r.ip] 42)
      clear B1
      obtain ⟨u1, hu1⟩ : ∃ x_ : World, x_ = w.alloc (.cells #[.int .i64 r.k, .int .u8 r.pr, .int .u32 (r.si : Int), .int .i64 r.sb, .int .u32 (r.di : Int), .int .i64 r.db, .int .u32 (r.ex : Int), .int .u16 r.fr, .int .u16 r.to, .int .u32 (r.ii : Int), .int .u16 r.ip] 42) := ⟨_, rfl⟩
      rw [← hu1] at R_2 B3 ⊢
      clear hu1
      obtain ⟨_, r1_0, r1_1, r1_2, r1_3, r1_4, r1_5, r1_6, r1_7, r1_8, r1_9, r1_10⟩ := id R_2
      go_wp2_with fail
      refine (m1 _).mono ?_; rintro e w2 ⟨rfl, x2⟩
      have R_4 := R_2.on x2
      have B5 := B3.trans (x2.mono B3.size)
      clear r1_0 r1_1 r1_2 r1_3 r1_4 r1_5 r1_6 r1_7 r1_8 r1_9 r1_10 R_2 B3 x2
      obtain ⟨_, r2_0, r2_1, r2_2, r2_3, r2_4, r2_5, r2_6, r2_7, r2_8, r2_9, r2_10⟩ := id R_4
      go_wp2_with fail
      refine (m2 _).mono ?_; rintro e w3 ⟨rfl, x3⟩
      have R_6 := R_4.on x3
      have B7 := B5.trans (x3.mono B5.size)
      clear r2_0 r2_1 r2_2 r2_3 r2_4 r2_5 r2_6 r2_7 r2_8 r2_9 r2_10 R_4 B5 x3
      obtain ⟨_, r3_0, r3_1, r3_2, r3_3, r3_4, r3_5, r3_6, r3_7, r3_8, r3_9, r3_10⟩ := id R_6
      go_wp2
      go_ret
      rw [HV.out]
      exact ⟨rfl, B7⟩
  · rcases hz with rfl | ⟨rfl, rfl⟩ | ⟨rfl, rfl, rfl⟩ | ⟨rfl, rfl, rfl, rfl⟩
    all_goals
      simp only [Bool.not_true, Bool.not_false, Bool.and_true, Bool.and_false, Bool.true_and, Bool.false_and, Bool.or_true, Bool.or_false, Bool.true_or, Bool.false_or] at HV
      go_enter Try.func62, Try.ntmps62
      have B1 := Below.refl w.heap.size w
      go_upto_region 1 with fail
      have R_2 := Box11.make w (.int .i64 r.k) (.int .u8 r.pr) (.int .u32 (r.si : Int)) (.int .i64 r.sb) (.int .u32 (r.di : Int)) (.int .i64 r.db) (.int .u32 (r.ex : Int)) (.int .u16 r.fr) (.int .u16 r.to) (.int .u32 (r.ii : Int)) (.int .u16 r.ip) 42
      have B3 := B1.alloc B1.size (.cells #[.int .i64 r.k, .int .u8 r.pr, .int .u32 (r.si : Int), .int .i64 r.sb, .int .u32 (r.di : Int), .int .i64 r.db, .int .u32 (r.ex : Int), .int .u16 r.fr, .int .u16 r.to, .int .u32 (r.ii : Int), .int .u16 r.ip] 42)
      clear B1
      obtain ⟨u1, hu1⟩ : ∃ x_ : World, x_ = w.alloc (.cells #[.int .i64 r.k, .int .u8 r.pr, .int .u32 (r.si : Int), .int .i64 r.sb, .int .u32 (r.di : Int), .int .i64 r.db, .int .u32 (r.ex : Int), .int .u16 r.fr, .int .u16 r.to, .int .u32 (r.ii : Int), .int .u16 r.ip] 42) := ⟨_, rfl⟩
      rw [← hu1] at R_2 B3 ⊢
      clear hu1
      obtain ⟨_, r1_0, r1_1, r1_2, r1_3, r1_4, r1_5, r1_6, r1_7, r1_8, r1_9, r1_10⟩ := id R_2
      go_wp2_with fail
      refine (m1 _).mono ?_; rintro e w2 ⟨rfl, x2⟩
      have R_4 := R_2.on x2
      have B5 := B3.trans (x2.mono B3.size)
      clear r1_0 r1_1 r1_2 r1_3 r1_4 r1_5 r1_6 r1_7 r1_8 r1_9 r1_10 R_2 B3 x2
      obtain ⟨_, r2_0, r2_1, r2_2, r2_3, r2_4, r2_5, r2_6, r2_7, r2_8, r2_9, r2_10⟩ := id R_4
      go_wp2_with fail
      refine (m2 _).mono ?_; rintro e w3 ⟨rfl, x3⟩
      have R_6 := R_4.on x3
      have B7 := B5.trans (x3.mono B5.size)
      clear r2_0 r2_1 r2_2 r2_3 r2_4 r2_5 r2_6 r2_7 r2_8 r2_9 r2_10 R_4 B5 x3
      obtain ⟨_, r3_0, r3_1, r3_2, r3_3, r3_4, r3_5, r3_6, r3_7, r3_8, r3_9, r3_10⟩ := id R_6
      go_wp2
      go_ret
      rw [HV.out]
      exact ⟨rfl, B7⟩
set_option maxHeartbeats 4000000 in
set_option maxRecDepth 100000 in
theorem mayComeIn_ (r : Ru) (w : World) (hr : r.Ok) :
    Calls Try.prog 63 #[.agg #[.int .i64 r.k, .int .u8 r.pr, .int .u32 (r.si : Int), .int .i64 r.sb, .int .u32 (r.di : Int), .int .i64 r.db, .int .u32 (r.ex : Int), .int .u16 r.fr, .int .u16 r.to, .int .u32 (r.ii : Int), .int .u16 r.ip]] w fun e w' => e = .returned (.bool (comeInB r)) ∧ Below w.heap.size w w' := by
  obtain ⟨x6, p6, q6, l6⟩ := eqi_ r.pr 6
  obtain ⟨x17, p17, q17, l17⟩ := eqi_ r.pr 17
  obtain ⟨xs, ps, ns, us, vs, ls⟩ := eqz_ r.si
  obtain ⟨xb, pb, qb, lb⟩ := eqi_ r.sb 0
  obtain ⟨xd, pd, nd, ud, vd, ld⟩ := eqz_ r.di
  obtain ⟨xe, pe, qe, le⟩ := eqi_ r.db 0
  obtain ⟨xf, pf, qf, lf⟩ := eqi_ r.fr 0
  obtain ⟨xt, pt, qt, lt⟩ := eqi_ r.to r.fr
  obtain ⟨xi, pi, qi, li⟩ := eqi_ r.ip 0
  have lt2 : decide (r.fr = r.to) = xt := by rw [← lt]; exact decide_eq_decide.2 ⟨Eq.symm, Eq.symm⟩
  have HV : Hid (comeInB r = ((x6 || x17) && (xs && xb) && (xd && xe) && !xf && xt && !xi)) := by show _ = _; unfold comeInB; rw [l6, l17, ls, lb, ld, le, lf, lt2, li]
  clear l6 l17 ls lb ld le lf lt lt2 li hr
  have key : (x6 = false ∧ x17 = false) ∨ ((x6 = true ∨ (x6 = false ∧ x17 = true)) ∧ ((xs = false) ∨ (xs = true ∧ xb = false) ∨ (xs = true ∧ xb = true ∧ xd = false) ∨ (xs = true ∧ xb = true ∧ xd = true ∧ xe = false) ∨ (xs = true ∧ xb = true ∧ xd = true ∧ xe = true ∧ xf = true) ∨ (xs = true ∧ xb = true ∧ xd = true ∧ xe = true ∧ xf = false ∧ xt = false) ∨ (xs = true ∧ xb = true ∧ xd = true ∧ xe = true ∧ xf = false ∧ xt = true ∧ xi = true) ∨ (xs = true ∧ xb = true ∧ xd = true ∧ xe = true ∧ xf = false ∧ xt = true ∧ xi = false))) := by
    cases x6 <;> cases x17 <;> cases xs <;> cases xb <;> cases xd <;> cases xe <;> simp <;> cases xf <;> cases xt <;> cases xi <;> simp
  rcases key with ⟨rfl, rfl⟩ | ⟨hz, key⟩
  · simp only [Bool.not_true, Bool.not_false, Bool.and_true, Bool.and_false, Bool.true_and, Bool.false_and, Bool.or_true, Bool.or_false, Bool.true_or, Bool.false_or] at HV q6 q17 qb qe qf qt qi ns nd vs vd
    go_enter Try.func63, Try.ntmps63
    have B1 := Below.refl w.heap.size w
    go_upto_region 1 with fail
    have R_2 := Box11.make w (.int .i64 r.k) (.int .u8 r.pr) (.int .u32 (r.si : Int)) (.int .i64 r.sb) (.int .u32 (r.di : Int)) (.int .i64 r.db) (.int .u32 (r.ex : Int)) (.int .u16 r.fr) (.int .u16 r.to) (.int .u32 (r.ii : Int)) (.int .u16 r.ip) 42
    have B3 := B1.alloc B1.size (.cells #[.int .i64 r.k, .int .u8 r.pr, .int .u32 (r.si : Int), .int .i64 r.sb, .int .u32 (r.di : Int), .int .i64 r.db, .int .u32 (r.ex : Int), .int .u16 r.fr, .int .u16 r.to, .int .u32 (r.ii : Int), .int .u16 r.ip] 42)
    clear B1
    obtain ⟨u1, hu1⟩ : ∃ x_ : World, x_ = w.alloc (.cells #[.int .i64 r.k, .int .u8 r.pr, .int .u32 (r.si : Int), .int .i64 r.sb, .int .u32 (r.di : Int), .int .i64 r.db, .int .u32 (r.ex : Int), .int .u16 r.fr, .int .u16 r.to, .int .u32 (r.ii : Int), .int .u16 r.ip] 42) := ⟨_, rfl⟩
    rw [← hu1] at R_2 B3 ⊢
    clear hu1
    obtain ⟨_, r1_0, r1_1, r1_2, r1_3, r1_4, r1_5, r1_6, r1_7, r1_8, r1_9, r1_10⟩ := id R_2
    go_wp2
    go_ret
    rw [HV.out]
    exact ⟨rfl, B3⟩
  · rcases hz with rfl | ⟨rfl, rfl⟩ <;> rcases key with rfl | ⟨rfl, rfl⟩ | ⟨rfl, rfl, rfl⟩ | ⟨rfl, rfl, rfl, rfl⟩ | ⟨rfl, rfl, rfl, rfl, rfl⟩ | ⟨rfl, rfl, rfl, rfl, rfl, rfl⟩ | ⟨rfl, rfl, rfl, rfl, rfl, rfl, rfl⟩ | ⟨rfl, rfl, rfl, rfl, rfl, rfl, rfl⟩
    all_goals
      simp only [Bool.not_true, Bool.not_false, Bool.and_true, Bool.and_false, Bool.true_and, Bool.false_and, Bool.or_true, Bool.or_false, Bool.true_or, Bool.false_or] at HV q6 q17 qb qe qf qt qi ns nd vs vd
      go_enter Try.func63, Try.ntmps63
      have B1 := Below.refl w.heap.size w
      go_upto_region 1 with fail
      have R_2 := Box11.make w (.int .i64 r.k) (.int .u8 r.pr) (.int .u32 (r.si : Int)) (.int .i64 r.sb) (.int .u32 (r.di : Int)) (.int .i64 r.db) (.int .u32 (r.ex : Int)) (.int .u16 r.fr) (.int .u16 r.to) (.int .u32 (r.ii : Int)) (.int .u16 r.ip) 42
      have B3 := B1.alloc B1.size (.cells #[.int .i64 r.k, .int .u8 r.pr, .int .u32 (r.si : Int), .int .i64 r.sb, .int .u32 (r.di : Int), .int .i64 r.db, .int .u32 (r.ex : Int), .int .u16 r.fr, .int .u16 r.to, .int .u32 (r.ii : Int), .int .u16 r.ip] 42)
      clear B1
      obtain ⟨u1, hu1⟩ : ∃ x_ : World, x_ = w.alloc (.cells #[.int .i64 r.k, .int .u8 r.pr, .int .u32 (r.si : Int), .int .i64 r.sb, .int .u32 (r.di : Int), .int .i64 r.db, .int .u32 (r.ex : Int), .int .u16 r.fr, .int .u16 r.to, .int .u32 (r.ii : Int), .int .u16 r.ip] 42) := ⟨_, rfl⟩
      rw [← hu1] at R_2 B3 ⊢
      clear hu1
      obtain ⟨_, r1_0, r1_1, r1_2, r1_3, r1_4, r1_5, r1_6, r1_7, r1_8, r1_9, r1_10⟩ := id R_2
      go_wp2
      go_ret
      rw [HV.out]
      exact ⟨rfl, B3⟩
set_option maxHeartbeats 4000000 in
set_option maxRecDepth 100000 in
theorem mayC_1 (t : Tm) (r : Ru) (p : Nat) (S : Value) (w : World) (T0 : Box5 w p (.bool true) (.int .u32 (t.own : Int)) (.int .u32 (t.ip : Int)) (.int .i64 t.bits) S) (h1 : t.ip < 4294967296) (h2 : -9223372036854775808 ≤ t.bits ∧ t.bits ≤ 9223372036854775807) (hr : r.Ok) (kk : r.k = 1) :
    Calls Try.prog 39 #[.pointer (some ⟨p, 0, none⟩), .agg #[.int .i64 r.k, .int .u8 r.pr, .int .u32 (r.si : Int), .int .i64 r.sb, .int .u32 (r.di : Int), .int .i64 r.db, .int .u32 (r.ex : Int), .int .u16 r.fr, .int .u16 r.to, .int .u32 (r.ii : Int), .int .u16 r.ip]] w fun e w' => e = .returned (.bool (mayRu t r)) ∧ Below w.heap.size w w' := by
  have e1 : (r.k == 1) = true := by rw [kk]; rfl
  have e2 : (r.k == 2) = false := by rw [kk]; rfl
  have e3 : (r.k == 3) = false := by rw [kk]; rfl
  have c1 := fun (u : World) (T : Box5 u p (.bool true) (.int .u32 (t.own : Int)) (.int .u32 (t.ip : Int)) (.int .i64 t.bits) S) => inner_ t r.ex p S u T hr.ex1 h1 h2
  have m := fun u => mayGoOut_ r u hr
  obtain ⟨x, hx⟩ : ∃ v, goOutB r = v := ⟨_, rfl⟩
  obtain ⟨v1, hv1⟩ : ∃ v, innerB t r.ex = v := ⟨_, rfl⟩
  have HV : Hid (mayRu t r = (x && !v1)) := by
    show _ = _
    unfold mayRu
    rw [if_neg (by omega), if_pos (.inl kk), if_pos kk, ← hx, ← hv1]
    unfold goOutB
    have key : ∀ a d b c e f g : Bool, (a && !d && b && c && e && f && g) = (a && b && c && e && f && g && !d) := by intro a d b c e f g; cases a <;> cases b <;> cases c <;> cases d <;> cases e <;> cases f <;> cases g <;> rfl
    exact key _ _ _ _ _ _ _
  rw [hx] at m
  rw [hv1] at c1
  clear kk hx hv1 h1 h2 hr
  cases x
  · simp only [Bool.not_true, Bool.not_false, Bool.and_true, Bool.and_false, Bool.true_and, Bool.false_and, Bool.or_true, Bool.or_false, Bool.true_or, Bool.false_or] at HV
    go_enter Try.func39, Try.ntmps39
    have B1 := Below.refl w.heap.size w
    go_upto_region 1 with fail
    have T_2 := T0.past (o := (.cells #[.int .i64 r.k, .int .u8 r.pr, .int .u32 (r.si : Int), .int .i64 r.sb, .int .u32 (r.di : Int), .int .i64 r.db, .int .u32 (r.ex : Int), .int .u16 r.fr, .int .u16 r.to, .int .u32 (r.ii : Int), .int .u16 r.ip] 42))
    have R_3 := Box11.make w (.int .i64 r.k) (.int .u8 r.pr) (.int .u32 (r.si : Int)) (.int .i64 r.sb) (.int .u32 (r.di : Int)) (.int .i64 r.db) (.int .u32 (r.ex : Int)) (.int .u16 r.fr) (.int .u16 r.to) (.int .u32 (r.ii : Int)) (.int .u16 r.ip) 42
    have B4 := B1.alloc B1.size (.cells #[.int .i64 r.k, .int .u8 r.pr, .int .u32 (r.si : Int), .int .i64 r.sb, .int .u32 (r.di : Int), .int .i64 r.db, .int .u32 (r.ex : Int), .int .u16 r.fr, .int .u16 r.to, .int .u32 (r.ii : Int), .int .u16 r.ip] 42)
    clear T0 B1
    obtain ⟨u1, hu1⟩ : ∃ x_ : World, x_ = w.alloc (.cells #[.int .i64 r.k, .int .u8 r.pr, .int .u32 (r.si : Int), .int .i64 r.sb, .int .u32 (r.di : Int), .int .i64 r.db, .int .u32 (r.ex : Int), .int .u16 r.fr, .int .u16 r.to, .int .u32 (r.ii : Int), .int .u16 r.ip] 42) := ⟨_, rfl⟩
    rw [← hu1] at T_2 R_3 B4 ⊢
    clear hu1
    obtain ⟨_, r1_0, r1_1, r1_2, r1_3, r1_4, r1_5, r1_6, r1_7, r1_8, r1_9, r1_10⟩ := id R_3
    go_wp2_with fail
    refine (m _).mono ?_; rintro e w2 ⟨rfl, x2⟩
    have T_5 := T_2.on x2
    have R_6 := R_3.on x2
    have B7 := B4.trans (x2.mono B4.size)
    clear r1_0 r1_1 r1_2 r1_3 r1_4 r1_5 r1_6 r1_7 r1_8 r1_9 r1_10 T_2 R_3 B4 x2
    obtain ⟨_, r2_0, r2_1, r2_2, r2_3, r2_4, r2_5, r2_6, r2_7, r2_8, r2_9, r2_10⟩ := id R_6
    go_wp2
    go_ret
    rw [HV.out]
    exact ⟨rfl, B7⟩
  · simp only [Bool.not_true, Bool.not_false, Bool.and_true, Bool.and_false, Bool.true_and, Bool.false_and, Bool.or_true, Bool.or_false, Bool.true_or, Bool.false_or] at HV
    go_enter Try.func39, Try.ntmps39
    have B1 := Below.refl w.heap.size w
    go_upto_region 1 with fail
    have T_2 := T0.past (o := (.cells #[.int .i64 r.k, .int .u8 r.pr, .int .u32 (r.si : Int), .int .i64 r.sb, .int .u32 (r.di : Int), .int .i64 r.db, .int .u32 (r.ex : Int), .int .u16 r.fr, .int .u16 r.to, .int .u32 (r.ii : Int), .int .u16 r.ip] 42))
    have R_3 := Box11.make w (.int .i64 r.k) (.int .u8 r.pr) (.int .u32 (r.si : Int)) (.int .i64 r.sb) (.int .u32 (r.di : Int)) (.int .i64 r.db) (.int .u32 (r.ex : Int)) (.int .u16 r.fr) (.int .u16 r.to) (.int .u32 (r.ii : Int)) (.int .u16 r.ip) 42
    have B4 := B1.alloc B1.size (.cells #[.int .i64 r.k, .int .u8 r.pr, .int .u32 (r.si : Int), .int .i64 r.sb, .int .u32 (r.di : Int), .int .i64 r.db, .int .u32 (r.ex : Int), .int .u16 r.fr, .int .u16 r.to, .int .u32 (r.ii : Int), .int .u16 r.ip] 42)
    clear T0 B1
    obtain ⟨u1, hu1⟩ : ∃ x_ : World, x_ = w.alloc (.cells #[.int .i64 r.k, .int .u8 r.pr, .int .u32 (r.si : Int), .int .i64 r.sb, .int .u32 (r.di : Int), .int .i64 r.db, .int .u32 (r.ex : Int), .int .u16 r.fr, .int .u16 r.to, .int .u32 (r.ii : Int), .int .u16 r.ip] 42) := ⟨_, rfl⟩
    rw [← hu1] at T_2 R_3 B4 ⊢
    clear hu1
    obtain ⟨_, r1_0, r1_1, r1_2, r1_3, r1_4, r1_5, r1_6, r1_7, r1_8, r1_9, r1_10⟩ := id R_3
    go_wp2_with fail
    refine (m _).mono ?_; rintro e w2 ⟨rfl, x2⟩
    have T_5 := T_2.on x2
    have R_6 := R_3.on x2
    have B7 := B4.trans (x2.mono B4.size)
    clear r1_0 r1_1 r1_2 r1_3 r1_4 r1_5 r1_6 r1_7 r1_8 r1_9 r1_10 T_2 R_3 B4 x2
    obtain ⟨_, r2_0, r2_1, r2_2, r2_3, r2_4, r2_5, r2_6, r2_7, r2_8, r2_9, r2_10⟩ := id R_6
    go_wp2_with fail
    refine (c1 _ T_5).mono ?_; rintro e w3 ⟨rfl, x3⟩
    have T_8 := T_5.on x3
    have R_9 := R_6.on x3
    have B10 := B7.trans (x3.mono B7.size)
    clear r2_0 r2_1 r2_2 r2_3 r2_4 r2_5 r2_6 r2_7 r2_8 r2_9 r2_10 T_5 R_6 B7 x3
    obtain ⟨_, r3_0, r3_1, r3_2, r3_3, r3_4, r3_5, r3_6, r3_7, r3_8, r3_9, r3_10⟩ := id R_9
    go_wp2
    go_ret
    rw [HV.out]
    exact ⟨rfl, B10⟩
set_option maxHeartbeats 4000000 in
set_option maxRecDepth 100000 in
theorem mayC_2 (t : Tm) (r : Ru) (p : Nat) (S : Value) (w : World) (T0 : Box5 w p (.bool true) (.int .u32 (t.own : Int)) (.int .u32 (t.ip : Int)) (.int .i64 t.bits) S) (h1 : t.ip < 4294967296) (h2 : -9223372036854775808 ≤ t.bits ∧ t.bits ≤ 9223372036854775807) (hr : r.Ok) (kk : r.k = 2) :
    Calls Try.prog 39 #[.pointer (some ⟨p, 0, none⟩), .agg #[.int .i64 r.k, .int .u8 r.pr, .int .u32 (r.si : Int), .int .i64 r.sb, .int .u32 (r.di : Int), .int .i64 r.db, .int .u32 (r.ex : Int), .int .u16 r.fr, .int .u16 r.to, .int .u32 (r.ii : Int), .int .u16 r.ip]] w fun e w' => e = .returned (.bool (mayRu t r)) ∧ Below w.heap.size w w' := by
  have e1 : (r.k == 1) = false := by rw [kk]; rfl
  have e2 : (r.k == 2) = true := by rw [kk]; rfl
  have e3 : (r.k == 3) = false := by rw [kk]; rfl
  have m := fun u => mayGoOut_ r u hr
  obtain ⟨x, hx⟩ : ∃ v, goOutB r = v := ⟨_, rfl⟩
  obtain ⟨v, pv, nv, uv, vv, lv⟩ := eqz_ r.ex
  have HV : Hid (mayRu t r = (x && v)) := by
    show _ = _
    unfold mayRu
    rw [if_neg (by omega), if_pos (.inr kk), if_neg (by omega), ← hx, lv]
    unfold goOutB
    have key : ∀ a d b c e f g : Bool, (a && d && b && c && e && f && g) = (a && b && c && e && f && g && d) := by intro a d b c e f g; cases a <;> cases b <;> cases c <;> cases d <;> cases e <;> cases f <;> cases g <;> rfl
    exact key _ _ _ _ _ _ _
  rw [hx] at m
  clear kk hx lv h1 h2 hr
  cases x
  · simp only [Bool.not_true, Bool.not_false, Bool.and_true, Bool.and_false, Bool.true_and, Bool.false_and, Bool.or_true, Bool.or_false, Bool.true_or, Bool.false_or] at HV
    go_enter Try.func39, Try.ntmps39
    have B1 := Below.refl w.heap.size w
    go_upto_region 1 with fail
    have T_2 := T0.past (o := (.cells #[.int .i64 r.k, .int .u8 r.pr, .int .u32 (r.si : Int), .int .i64 r.sb, .int .u32 (r.di : Int), .int .i64 r.db, .int .u32 (r.ex : Int), .int .u16 r.fr, .int .u16 r.to, .int .u32 (r.ii : Int), .int .u16 r.ip] 42))
    have R_3 := Box11.make w (.int .i64 r.k) (.int .u8 r.pr) (.int .u32 (r.si : Int)) (.int .i64 r.sb) (.int .u32 (r.di : Int)) (.int .i64 r.db) (.int .u32 (r.ex : Int)) (.int .u16 r.fr) (.int .u16 r.to) (.int .u32 (r.ii : Int)) (.int .u16 r.ip) 42
    have B4 := B1.alloc B1.size (.cells #[.int .i64 r.k, .int .u8 r.pr, .int .u32 (r.si : Int), .int .i64 r.sb, .int .u32 (r.di : Int), .int .i64 r.db, .int .u32 (r.ex : Int), .int .u16 r.fr, .int .u16 r.to, .int .u32 (r.ii : Int), .int .u16 r.ip] 42)
    clear T0 B1
    obtain ⟨u1, hu1⟩ : ∃ x_ : World, x_ = w.alloc (.cells #[.int .i64 r.k, .int .u8 r.pr, .int .u32 (r.si : Int), .int .i64 r.sb, .int .u32 (r.di : Int), .int .i64 r.db, .int .u32 (r.ex : Int), .int .u16 r.fr, .int .u16 r.to, .int .u32 (r.ii : Int), .int .u16 r.ip] 42) := ⟨_, rfl⟩
    rw [← hu1] at T_2 R_3 B4 ⊢
    clear hu1
    obtain ⟨_, r1_0, r1_1, r1_2, r1_3, r1_4, r1_5, r1_6, r1_7, r1_8, r1_9, r1_10⟩ := id R_3
    go_wp2_with fail
    refine (m _).mono ?_; rintro e w2 ⟨rfl, x2⟩
    have T_5 := T_2.on x2
    have R_6 := R_3.on x2
    have B7 := B4.trans (x2.mono B4.size)
    clear r1_0 r1_1 r1_2 r1_3 r1_4 r1_5 r1_6 r1_7 r1_8 r1_9 r1_10 T_2 R_3 B4 x2
    obtain ⟨_, r2_0, r2_1, r2_2, r2_3, r2_4, r2_5, r2_6, r2_7, r2_8, r2_9, r2_10⟩ := id R_6
    go_wp2
    go_ret
    rw [HV.out]
    exact ⟨rfl, B7⟩
  · simp only [Bool.not_true, Bool.not_false, Bool.and_true, Bool.and_false, Bool.true_and, Bool.false_and, Bool.or_true, Bool.or_false, Bool.true_or, Bool.false_or] at HV
    go_enter Try.func39, Try.ntmps39
    have B1 := Below.refl w.heap.size w
    go_upto_region 1 with fail
    have T_2 := T0.past (o := (.cells #[.int .i64 r.k, .int .u8 r.pr, .int .u32 (r.si : Int), .int .i64 r.sb, .int .u32 (r.di : Int), .int .i64 r.db, .int .u32 (r.ex : Int), .int .u16 r.fr, .int .u16 r.to, .int .u32 (r.ii : Int), .int .u16 r.ip] 42))
    have R_3 := Box11.make w (.int .i64 r.k) (.int .u8 r.pr) (.int .u32 (r.si : Int)) (.int .i64 r.sb) (.int .u32 (r.di : Int)) (.int .i64 r.db) (.int .u32 (r.ex : Int)) (.int .u16 r.fr) (.int .u16 r.to) (.int .u32 (r.ii : Int)) (.int .u16 r.ip) 42
    have B4 := B1.alloc B1.size (.cells #[.int .i64 r.k, .int .u8 r.pr, .int .u32 (r.si : Int), .int .i64 r.sb, .int .u32 (r.di : Int), .int .i64 r.db, .int .u32 (r.ex : Int), .int .u16 r.fr, .int .u16 r.to, .int .u32 (r.ii : Int), .int .u16 r.ip] 42)
    clear T0 B1
    obtain ⟨u1, hu1⟩ : ∃ x_ : World, x_ = w.alloc (.cells #[.int .i64 r.k, .int .u8 r.pr, .int .u32 (r.si : Int), .int .i64 r.sb, .int .u32 (r.di : Int), .int .i64 r.db, .int .u32 (r.ex : Int), .int .u16 r.fr, .int .u16 r.to, .int .u32 (r.ii : Int), .int .u16 r.ip] 42) := ⟨_, rfl⟩
    rw [← hu1] at T_2 R_3 B4 ⊢
    clear hu1
    obtain ⟨_, r1_0, r1_1, r1_2, r1_3, r1_4, r1_5, r1_6, r1_7, r1_8, r1_9, r1_10⟩ := id R_3
    go_wp2_with fail
    refine (m _).mono ?_; rintro e w2 ⟨rfl, x2⟩
    have T_5 := T_2.on x2
    have R_6 := R_3.on x2
    have B7 := B4.trans (x2.mono B4.size)
    clear r1_0 r1_1 r1_2 r1_3 r1_4 r1_5 r1_6 r1_7 r1_8 r1_9 r1_10 T_2 R_3 B4 x2
    obtain ⟨_, r2_0, r2_1, r2_2, r2_3, r2_4, r2_5, r2_6, r2_7, r2_8, r2_9, r2_10⟩ := id R_6
    go_wp2
    go_ret
    rw [HV.out]
    exact ⟨rfl, B7⟩
set_option maxHeartbeats 4000000 in
set_option maxRecDepth 100000 in
theorem mayC_3 (t : Tm) (r : Ru) (p : Nat) (S : Value) (w : World) (T0 : Box5 w p (.bool true) (.int .u32 (t.own : Int)) (.int .u32 (t.ip : Int)) (.int .i64 t.bits) S) (h1 : t.ip < 4294967296) (h2 : -9223372036854775808 ≤ t.bits ∧ t.bits ≤ 9223372036854775807) (hr : r.Ok) (kk : r.k = 3) :
    Calls Try.prog 39 #[.pointer (some ⟨p, 0, none⟩), .agg #[.int .i64 r.k, .int .u8 r.pr, .int .u32 (r.si : Int), .int .i64 r.sb, .int .u32 (r.di : Int), .int .i64 r.db, .int .u32 (r.ex : Int), .int .u16 r.fr, .int .u16 r.to, .int .u32 (r.ii : Int), .int .u16 r.ip]] w fun e w' => e = .returned (.bool (mayRu t r)) ∧ Below w.heap.size w w' := by
  have e1 : (r.k == 1) = false := by rw [kk]; rfl
  have e2 : (r.k == 2) = false := by rw [kk]; rfl
  have e3 : (r.k == 3) = true := by rw [kk]; rfl
  have c1 := fun (u : World) (T : Box5 u p (.bool true) (.int .u32 (t.own : Int)) (.int .u32 (t.ip : Int)) (.int .i64 t.bits) S) => inner_ t r.ex p S u T hr.ex1 h1 h2
  have c2 := fun (u : World) (T : Box5 u p (.bool true) (.int .u32 (t.own : Int)) (.int .u32 (t.ip : Int)) (.int .i64 t.bits) S) => inner_ t r.ii p S u T hr.ii1 h1 h2
  have m := fun u => mayComeIn_ r u hr
  obtain ⟨x, hx⟩ : ∃ v, comeInB r = v := ⟨_, rfl⟩
  obtain ⟨v1, hv1⟩ : ∃ v, innerB t r.ex = v := ⟨_, rfl⟩
  obtain ⟨v2, hv2⟩ : ∃ v, innerB t r.ii = v := ⟨_, rfl⟩
  have HV : Hid (mayRu t r = (x && !v1 && v2)) := by
    show _ = _
    unfold mayRu
    rw [if_pos kk, ← hx, ← hv1, ← hv2]
    unfold comeInB
    have key : ∀ a b c d e f g h : Bool, (a && b && c && !d && e && f && g && h) = (a && b && c && e && f && h && !d && g) := by intro a b c d e f g h; cases a <;> cases b <;> cases c <;> cases d <;> cases e <;> cases f <;> cases g <;> cases h <;> rfl
    exact key _ _ _ _ _ _ _ _
  rw [hx] at m
  rw [hv1] at c1
  rw [hv2] at c2
  clear kk hx hv1 hv2 h1 h2 hr
  have key : x = false ∨ (x = true ∧ v1 = true) ∨ (x = true ∧ v1 = false) := by cases x <;> cases v1 <;> simp
  rcases key with rfl | ⟨rfl, rfl⟩ | ⟨rfl, rfl⟩
  · simp only [Bool.not_true, Bool.not_false, Bool.and_true, Bool.and_false, Bool.true_and, Bool.false_and, Bool.or_true, Bool.or_false, Bool.true_or, Bool.false_or] at HV
    go_enter Try.func39, Try.ntmps39
    have B1 := Below.refl w.heap.size w
    go_upto_region 1 with fail
    have T_2 := T0.past (o := (.cells #[.int .i64 r.k, .int .u8 r.pr, .int .u32 (r.si : Int), .int .i64 r.sb, .int .u32 (r.di : Int), .int .i64 r.db, .int .u32 (r.ex : Int), .int .u16 r.fr, .int .u16 r.to, .int .u32 (r.ii : Int), .int .u16 r.ip] 42))
    have R_3 := Box11.make w (.int .i64 r.k) (.int .u8 r.pr) (.int .u32 (r.si : Int)) (.int .i64 r.sb) (.int .u32 (r.di : Int)) (.int .i64 r.db) (.int .u32 (r.ex : Int)) (.int .u16 r.fr) (.int .u16 r.to) (.int .u32 (r.ii : Int)) (.int .u16 r.ip) 42
    have B4 := B1.alloc B1.size (.cells #[.int .i64 r.k, .int .u8 r.pr, .int .u32 (r.si : Int), .int .i64 r.sb, .int .u32 (r.di : Int), .int .i64 r.db, .int .u32 (r.ex : Int), .int .u16 r.fr, .int .u16 r.to, .int .u32 (r.ii : Int), .int .u16 r.ip] 42)
    clear T0 B1
    obtain ⟨u1, hu1⟩ : ∃ x_ : World, x_ = w.alloc (.cells #[.int .i64 r.k, .int .u8 r.pr, .int .u32 (r.si : Int), .int .i64 r.sb, .int .u32 (r.di : Int), .int .i64 r.db, .int .u32 (r.ex : Int), .int .u16 r.fr, .int .u16 r.to, .int .u32 (r.ii : Int), .int .u16 r.ip] 42) := ⟨_, rfl⟩
    rw [← hu1] at T_2 R_3 B4 ⊢
    clear hu1
    obtain ⟨_, r1_0, r1_1, r1_2, r1_3, r1_4, r1_5, r1_6, r1_7, r1_8, r1_9, r1_10⟩ := id R_3
    go_wp2_with fail
    refine (m _).mono ?_; rintro e w2 ⟨rfl, x2⟩
    have T_5 := T_2.on x2
    have R_6 := R_3.on x2
    have B7 := B4.trans (x2.mono B4.size)
    clear r1_0 r1_1 r1_2 r1_3 r1_4 r1_5 r1_6 r1_7 r1_8 r1_9 r1_10 T_2 R_3 B4 x2
    obtain ⟨_, r2_0, r2_1, r2_2, r2_3, r2_4, r2_5, r2_6, r2_7, r2_8, r2_9, r2_10⟩ := id R_6
    go_wp2
    go_ret
    rw [HV.out]
    exact ⟨rfl, B7⟩
  · simp only [Bool.not_true, Bool.not_false, Bool.and_true, Bool.and_false, Bool.true_and, Bool.false_and, Bool.or_true, Bool.or_false, Bool.true_or, Bool.false_or] at HV
    go_enter Try.func39, Try.ntmps39
    have B1 := Below.refl w.heap.size w
    go_upto_region 1 with fail
    have T_2 := T0.past (o := (.cells #[.int .i64 r.k, .int .u8 r.pr, .int .u32 (r.si : Int), .int .i64 r.sb, .int .u32 (r.di : Int), .int .i64 r.db, .int .u32 (r.ex : Int), .int .u16 r.fr, .int .u16 r.to, .int .u32 (r.ii : Int), .int .u16 r.ip] 42))
    have R_3 := Box11.make w (.int .i64 r.k) (.int .u8 r.pr) (.int .u32 (r.si : Int)) (.int .i64 r.sb) (.int .u32 (r.di : Int)) (.int .i64 r.db) (.int .u32 (r.ex : Int)) (.int .u16 r.fr) (.int .u16 r.to) (.int .u32 (r.ii : Int)) (.int .u16 r.ip) 42
    have B4 := B1.alloc B1.size (.cells #[.int .i64 r.k, .int .u8 r.pr, .int .u32 (r.si : Int), .int .i64 r.sb, .int .u32 (r.di : Int), .int .i64 r.db, .int .u32 (r.ex : Int), .int .u16 r.fr, .int .u16 r.to, .int .u32 (r.ii : Int), .int .u16 r.ip] 42)
    clear T0 B1
    obtain ⟨u1, hu1⟩ : ∃ x_ : World, x_ = w.alloc (.cells #[.int .i64 r.k, .int .u8 r.pr, .int .u32 (r.si : Int), .int .i64 r.sb, .int .u32 (r.di : Int), .int .i64 r.db, .int .u32 (r.ex : Int), .int .u16 r.fr, .int .u16 r.to, .int .u32 (r.ii : Int), .int .u16 r.ip] 42) := ⟨_, rfl⟩
    rw [← hu1] at T_2 R_3 B4 ⊢
    clear hu1
    obtain ⟨_, r1_0, r1_1, r1_2, r1_3, r1_4, r1_5, r1_6, r1_7, r1_8, r1_9, r1_10⟩ := id R_3
    go_wp2_with fail
    refine (m _).mono ?_; rintro e w2 ⟨rfl, x2⟩
    have T_5 := T_2.on x2
    have R_6 := R_3.on x2
    have B7 := B4.trans (x2.mono B4.size)
    clear r1_0 r1_1 r1_2 r1_3 r1_4 r1_5 r1_6 r1_7 r1_8 r1_9 r1_10 T_2 R_3 B4 x2
    obtain ⟨_, r2_0, r2_1, r2_2, r2_3, r2_4, r2_5, r2_6, r2_7, r2_8, r2_9, r2_10⟩ := id R_6
    go_wp2_with fail
    refine (c1 _ T_5).mono ?_; rintro e w3 ⟨rfl, x3⟩
    have T_8 := T_5.on x3
    have R_9 := R_6.on x3
    have B10 := B7.trans (x3.mono B7.size)
    clear r2_0 r2_1 r2_2 r2_3 r2_4 r2_5 r2_6 r2_7 r2_8 r2_9 r2_10 T_5 R_6 B7 x3
    obtain ⟨_, r3_0, r3_1, r3_2, r3_3, r3_4, r3_5, r3_6, r3_7, r3_8, r3_9, r3_10⟩ := id R_9
    go_wp2
    go_ret
    rw [HV.out]
    exact ⟨rfl, B10⟩
  · simp only [Bool.not_true, Bool.not_false, Bool.and_true, Bool.and_false, Bool.true_and, Bool.false_and, Bool.or_true, Bool.or_false, Bool.true_or, Bool.false_or] at HV
    go_enter Try.func39, Try.ntmps39
    have B1 := Below.refl w.heap.size w
    go_upto_region 1 with fail
    have T_2 := T0.past (o := (.cells #[.int .i64 r.k, .int .u8 r.pr, .int .u32 (r.si : Int), .int .i64 r.sb, .int .u32 (r.di : Int), .int .i64 r.db, .int .u32 (r.ex : Int), .int .u16 r.fr, .int .u16 r.to, .int .u32 (r.ii : Int), .int .u16 r.ip] 42))
    have R_3 := Box11.make w (.int .i64 r.k) (.int .u8 r.pr) (.int .u32 (r.si : Int)) (.int .i64 r.sb) (.int .u32 (r.di : Int)) (.int .i64 r.db) (.int .u32 (r.ex : Int)) (.int .u16 r.fr) (.int .u16 r.to) (.int .u32 (r.ii : Int)) (.int .u16 r.ip) 42
    have B4 := B1.alloc B1.size (.cells #[.int .i64 r.k, .int .u8 r.pr, .int .u32 (r.si : Int), .int .i64 r.sb, .int .u32 (r.di : Int), .int .i64 r.db, .int .u32 (r.ex : Int), .int .u16 r.fr, .int .u16 r.to, .int .u32 (r.ii : Int), .int .u16 r.ip] 42)
    clear T0 B1
    obtain ⟨u1, hu1⟩ : ∃ x_ : World, x_ = w.alloc (.cells #[.int .i64 r.k, .int .u8 r.pr, .int .u32 (r.si : Int), .int .i64 r.sb, .int .u32 (r.di : Int), .int .i64 r.db, .int .u32 (r.ex : Int), .int .u16 r.fr, .int .u16 r.to, .int .u32 (r.ii : Int), .int .u16 r.ip] 42) := ⟨_, rfl⟩
    rw [← hu1] at T_2 R_3 B4 ⊢
    clear hu1
    obtain ⟨_, r1_0, r1_1, r1_2, r1_3, r1_4, r1_5, r1_6, r1_7, r1_8, r1_9, r1_10⟩ := id R_3
    go_wp2_with fail
    refine (m _).mono ?_; rintro e w2 ⟨rfl, x2⟩
    have T_5 := T_2.on x2
    have R_6 := R_3.on x2
    have B7 := B4.trans (x2.mono B4.size)
    clear r1_0 r1_1 r1_2 r1_3 r1_4 r1_5 r1_6 r1_7 r1_8 r1_9 r1_10 T_2 R_3 B4 x2
    obtain ⟨_, r2_0, r2_1, r2_2, r2_3, r2_4, r2_5, r2_6, r2_7, r2_8, r2_9, r2_10⟩ := id R_6
    go_wp2_with fail
    refine (c1 _ T_5).mono ?_; rintro e w3 ⟨rfl, x3⟩
    have T_8 := T_5.on x3
    have R_9 := R_6.on x3
    have B10 := B7.trans (x3.mono B7.size)
    clear r2_0 r2_1 r2_2 r2_3 r2_4 r2_5 r2_6 r2_7 r2_8 r2_9 r2_10 T_5 R_6 B7 x3
    obtain ⟨_, r3_0, r3_1, r3_2, r3_3, r3_4, r3_5, r3_6, r3_7, r3_8, r3_9, r3_10⟩ := id R_9
    go_wp2_with fail
    refine (c2 _ T_8).mono ?_; rintro e w4 ⟨rfl, x4⟩
    have T_11 := T_8.on x4
    have R_12 := R_9.on x4
    have B13 := B10.trans (x4.mono B10.size)
    clear r3_0 r3_1 r3_2 r3_3 r3_4 r3_5 r3_6 r3_7 r3_8 r3_9 r3_10 T_8 R_9 B10 x4
    obtain ⟨_, r4_0, r4_1, r4_2, r4_3, r4_4, r4_5, r4_6, r4_7, r4_8, r4_9, r4_10⟩ := id R_12
    go_wp2
    go_ret
    rw [HV.out]
    exact ⟨rfl, B13⟩
set_option maxHeartbeats 4000000 in
set_option maxRecDepth 100000 in
theorem mayC_0 (t : Tm) (r : Ru) (p : Nat) (S : Value) (w : World) (T0 : Box5 w p (.bool true) (.int .u32 (t.own : Int)) (.int .u32 (t.ip : Int)) (.int .i64 t.bits) S) (h1 : t.ip < 4294967296) (h2 : -9223372036854775808 ≤ t.bits ∧ t.bits ≤ 9223372036854775807) (hr : r.Ok) (k1 : ¬ r.k = 1) (k2 : ¬ r.k = 2) (k3 : ¬ r.k = 3) :
    Calls Try.prog 39 #[.pointer (some ⟨p, 0, none⟩), .agg #[.int .i64 r.k, .int .u8 r.pr, .int .u32 (r.si : Int), .int .i64 r.sb, .int .u32 (r.di : Int), .int .i64 r.db, .int .u32 (r.ex : Int), .int .u16 r.fr, .int .u16 r.to, .int .u32 (r.ii : Int), .int .u16 r.ip]] w fun e w' => e = .returned (.bool (mayRu t r)) ∧ Below w.heap.size w w' := by
  have HV : Hid (mayRu t r = false) := by show _ = _; unfold mayRu; rw [if_neg k3, if_neg (by omega)]
  have e1 : (r.k == 1) = false := by simpa using k1
  have e2 : (r.k == 2) = false := by simpa using k2
  have e3 : (r.k == 3) = false := by simpa using k3
  clear k1 k2 k3
  go_enter Try.func39, Try.ntmps39
  have B1 := Below.refl w.heap.size w
  go_upto_region 1 with fail
  have T_2 := T0.past (o := (.cells #[.int .i64 r.k, .int .u8 r.pr, .int .u32 (r.si : Int), .int .i64 r.sb, .int .u32 (r.di : Int), .int .i64 r.db, .int .u32 (r.ex : Int), .int .u16 r.fr, .int .u16 r.to, .int .u32 (r.ii : Int), .int .u16 r.ip] 42))
  have R_3 := Box11.make w (.int .i64 r.k) (.int .u8 r.pr) (.int .u32 (r.si : Int)) (.int .i64 r.sb) (.int .u32 (r.di : Int)) (.int .i64 r.db) (.int .u32 (r.ex : Int)) (.int .u16 r.fr) (.int .u16 r.to) (.int .u32 (r.ii : Int)) (.int .u16 r.ip) 42
  have B4 := B1.alloc B1.size (.cells #[.int .i64 r.k, .int .u8 r.pr, .int .u32 (r.si : Int), .int .i64 r.sb, .int .u32 (r.di : Int), .int .i64 r.db, .int .u32 (r.ex : Int), .int .u16 r.fr, .int .u16 r.to, .int .u32 (r.ii : Int), .int .u16 r.ip] 42)
  clear T0 B1
  obtain ⟨u1, hu1⟩ : ∃ x_ : World, x_ = w.alloc (.cells #[.int .i64 r.k, .int .u8 r.pr, .int .u32 (r.si : Int), .int .i64 r.sb, .int .u32 (r.di : Int), .int .i64 r.db, .int .u32 (r.ex : Int), .int .u16 r.fr, .int .u16 r.to, .int .u32 (r.ii : Int), .int .u16 r.ip] 42) := ⟨_, rfl⟩
  rw [← hu1] at T_2 R_3 B4 ⊢
  clear hu1
  obtain ⟨_, r1_0, r1_1, r1_2, r1_3, r1_4, r1_5, r1_6, r1_7, r1_8, r1_9, r1_10⟩ := id R_3
  go_wp2
  go_ret
  rw [HV.out]
  exact ⟨rfl, B4⟩
theorem mayC_ (t : Tm) (r : Ru) (p : Nat) (S : Value) (w : World) (T0 : Box5 w p (.bool true) (.int .u32 (t.own : Int)) (.int .u32 (t.ip : Int)) (.int .i64 t.bits) S) (h1 : t.ip < 4294967296) (h2 : -9223372036854775808 ≤ t.bits ∧ t.bits ≤ 9223372036854775807) (hr : r.Ok) :
    Calls Try.prog 39 #[.pointer (some ⟨p, 0, none⟩), .agg #[.int .i64 r.k, .int .u8 r.pr, .int .u32 (r.si : Int), .int .i64 r.sb, .int .u32 (r.di : Int), .int .i64 r.db, .int .u32 (r.ex : Int), .int .u16 r.fr, .int .u16 r.to, .int .u32 (r.ii : Int), .int .u16 r.ip]] w fun e w' => e = .returned (.bool (mayRu t r)) ∧ Below w.heap.size w w' := by
  by_cases k3 : r.k = 3
  · exact mayC_3 t r p S w T0 h1 h2 hr k3
  by_cases k1 : r.k = 1
  · exact mayC_1 t r p S w T0 h1 h2 hr k1
  by_cases k2 : r.k = 2
  · exact mayC_2 t r p S w T0 h1 h2 hr k2
  exact mayC_0 t r p S w T0 h1 h2 hr k1 k2 k3
set_option maxHeartbeats 1000000 in
set_option maxRecDepth 100000 in
theorem check_ (t : Tm) (r : Ru) (p : Nat) (S : Value) (w : World) (T0 : Box5 w p (.bool true) (.int .u32 (t.own : Int)) (.int .u32 (t.ip : Int)) (.int .i64 t.bits) S) (h1 : t.ip < 4294967296) (h2 : -9223372036854775808 ≤ t.bits ∧ t.bits ≤ 9223372036854775807) (hr : r.Ok) :
    Calls Try.prog 13 #[.pointer (some ⟨p, 0, none⟩), .agg #[.int .i64 r.k, .int .u8 r.pr, .int .u32 (r.si : Int), .int .i64 r.sb, .int .u32 (r.di : Int), .int .i64 r.db, .int .u32 (r.ex : Int), .int .u16 r.fr, .int .u16 r.to, .int .u32 (r.ii : Int), .int .u16 r.ip]] w fun e w' => e = .returned (.int .i64 (ruCheckE t r)) ∧ Below w.heap.size w w' := by
  have n := fun (u : World) (T : Box5 u p (.bool true) (.int .u32 (t.own : Int)) (.int .u32 (t.ip : Int)) (.int .i64 t.bits) S) => none_ t p S u T
  have c := fun (u : World) (T : Box5 u p (.bool true) (.int .u32 (t.own : Int)) (.int .u32 (t.ip : Int)) (.int .i64 t.bits) S) => mayC_ t r p S u T h1 h2 hr
  cases hm : mayRu t r
  · have HV : Hid (ruCheckE t r = 2) := by show _ = _; unfold ruCheckE; rw [hm]; rfl
    rw [hm] at c
    clear hm
    go_enter Try.func13, Try.ntmps13
    have B1 := Below.refl w.heap.size w
    go_upto_region 1 with fail
    have T_2 := T0.past (o := (.cells #[.int .i64 r.k, .int .u8 r.pr, .int .u32 (r.si : Int), .int .i64 r.sb, .int .u32 (r.di : Int), .int .i64 r.db, .int .u32 (r.ex : Int), .int .u16 r.fr, .int .u16 r.to, .int .u32 (r.ii : Int), .int .u16 r.ip] 42))
    have R_3 := Box11.make w (.int .i64 r.k) (.int .u8 r.pr) (.int .u32 (r.si : Int)) (.int .i64 r.sb) (.int .u32 (r.di : Int)) (.int .i64 r.db) (.int .u32 (r.ex : Int)) (.int .u16 r.fr) (.int .u16 r.to) (.int .u32 (r.ii : Int)) (.int .u16 r.ip) 42
    have B4 := B1.alloc B1.size (.cells #[.int .i64 r.k, .int .u8 r.pr, .int .u32 (r.si : Int), .int .i64 r.sb, .int .u32 (r.di : Int), .int .i64 r.db, .int .u32 (r.ex : Int), .int .u16 r.fr, .int .u16 r.to, .int .u32 (r.ii : Int), .int .u16 r.ip] 42)
    clear T0 B1
    obtain ⟨u1, hu1⟩ : ∃ x_ : World, x_ = w.alloc (.cells #[.int .i64 r.k, .int .u8 r.pr, .int .u32 (r.si : Int), .int .i64 r.sb, .int .u32 (r.di : Int), .int .i64 r.db, .int .u32 (r.ex : Int), .int .u16 r.fr, .int .u16 r.to, .int .u32 (r.ii : Int), .int .u16 r.ip] 42) := ⟨_, rfl⟩
    rw [← hu1] at T_2 R_3 B4 ⊢
    clear hu1
    obtain ⟨_, r1_0, r1_1, r1_2, r1_3, r1_4, r1_5, r1_6, r1_7, r1_8, r1_9, r1_10⟩ := id R_3
    go_wp2_with fail
    refine (n _ T_2).mono ?_; rintro e w2 ⟨rfl, x2⟩
    have T_5 := T_2.on x2
    have R_6 := R_3.on x2
    have B7 := B4.trans (x2.mono B4.size)
    clear r1_0 r1_1 r1_2 r1_3 r1_4 r1_5 r1_6 r1_7 r1_8 r1_9 r1_10 T_2 R_3 B4 x2
    obtain ⟨_, r2_0, r2_1, r2_2, r2_3, r2_4, r2_5, r2_6, r2_7, r2_8, r2_9, r2_10⟩ := id R_6
    go_wp2_with fail
    refine (c _ T_5).mono ?_; rintro e w3 ⟨rfl, x3⟩
    have T_8 := T_5.on x3
    have R_9 := R_6.on x3
    have B10 := B7.trans (x3.mono B7.size)
    clear r2_0 r2_1 r2_2 r2_3 r2_4 r2_5 r2_6 r2_7 r2_8 r2_9 r2_10 T_5 R_6 B7 x3
    obtain ⟨_, r3_0, r3_1, r3_2, r3_3, r3_4, r3_5, r3_6, r3_7, r3_8, r3_9, r3_10⟩ := id R_9
    go_wp2
    go_ret
    rw [HV.out]
    exact ⟨rfl, B10⟩
  · have HV : Hid (ruCheckE t r = 0) := by show _ = _; unfold ruCheckE; rw [hm]; rfl
    rw [hm] at c
    clear hm
    go_enter Try.func13, Try.ntmps13
    have B1 := Below.refl w.heap.size w
    go_upto_region 1 with fail
    have T_2 := T0.past (o := (.cells #[.int .i64 r.k, .int .u8 r.pr, .int .u32 (r.si : Int), .int .i64 r.sb, .int .u32 (r.di : Int), .int .i64 r.db, .int .u32 (r.ex : Int), .int .u16 r.fr, .int .u16 r.to, .int .u32 (r.ii : Int), .int .u16 r.ip] 42))
    have R_3 := Box11.make w (.int .i64 r.k) (.int .u8 r.pr) (.int .u32 (r.si : Int)) (.int .i64 r.sb) (.int .u32 (r.di : Int)) (.int .i64 r.db) (.int .u32 (r.ex : Int)) (.int .u16 r.fr) (.int .u16 r.to) (.int .u32 (r.ii : Int)) (.int .u16 r.ip) 42
    have B4 := B1.alloc B1.size (.cells #[.int .i64 r.k, .int .u8 r.pr, .int .u32 (r.si : Int), .int .i64 r.sb, .int .u32 (r.di : Int), .int .i64 r.db, .int .u32 (r.ex : Int), .int .u16 r.fr, .int .u16 r.to, .int .u32 (r.ii : Int), .int .u16 r.ip] 42)
    clear T0 B1
    obtain ⟨u1, hu1⟩ : ∃ x_ : World, x_ = w.alloc (.cells #[.int .i64 r.k, .int .u8 r.pr, .int .u32 (r.si : Int), .int .i64 r.sb, .int .u32 (r.di : Int), .int .i64 r.db, .int .u32 (r.ex : Int), .int .u16 r.fr, .int .u16 r.to, .int .u32 (r.ii : Int), .int .u16 r.ip] 42) := ⟨_, rfl⟩
    rw [← hu1] at T_2 R_3 B4 ⊢
    clear hu1
    obtain ⟨_, r1_0, r1_1, r1_2, r1_3, r1_4, r1_5, r1_6, r1_7, r1_8, r1_9, r1_10⟩ := id R_3
    go_wp2_with fail
    refine (n _ T_2).mono ?_; rintro e w2 ⟨rfl, x2⟩
    have T_5 := T_2.on x2
    have R_6 := R_3.on x2
    have B7 := B4.trans (x2.mono B4.size)
    clear r1_0 r1_1 r1_2 r1_3 r1_4 r1_5 r1_6 r1_7 r1_8 r1_9 r1_10 T_2 R_3 B4 x2
    obtain ⟨_, r2_0, r2_1, r2_2, r2_3, r2_4, r2_5, r2_6, r2_7, r2_8, r2_9, r2_10⟩ := id R_6
    go_wp2_with fail
    refine (c _ T_5).mono ?_; rintro e w3 ⟨rfl, x3⟩
    have T_8 := T_5.on x3
    have R_9 := R_6.on x3
    have B10 := B7.trans (x3.mono B7.size)
    clear r2_0 r2_1 r2_2 r2_3 r2_4 r2_5 r2_6 r2_7 r2_8 r2_9 r2_10 T_5 R_6 B7 x3
    obtain ⟨_, r3_0, r3_1, r3_2, r3_3, r3_4, r3_5, r3_6, r3_7, r3_8, r3_9, r3_10⟩ := id R_9
    go_wp2
    go_ret
    rw [HV.out]
    exact ⟨rfl, B10⟩
end Go.Proofs.Ytoogegpkgohffaa
