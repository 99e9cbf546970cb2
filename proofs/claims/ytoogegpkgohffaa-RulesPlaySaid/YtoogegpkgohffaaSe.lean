/- The document's table of rules (layer 11): May, Check. -/
import Derived.Test.YtoogegpkgohffaaSb
namespace Go.Proofs.Ytoogegpkgohffaa
set_option linter.unusedVariables false
set_option linter.unusedSimpArgs false
open Go.ChangeShapes Go.WideShapes Go.ChangeAt Go.RowKit Go.PlainAid
attribute [local go_sem ↓] Go.wp_at_zero Go.wp_at_succ
theorem eqz_ (x : Nat) : ∃ b : Bool, ((x : Int) == 0) = b ∧ ((x : Int) != 0) = !b ∧ (x == 0) = b ∧ (x != 0) = !b ∧ decide (x = 0) = b := by
  refine ⟨decide (x = 0), ?_, ?_, by simp [BEq.beq], by simp [bne, BEq.beq], rfl⟩
  · exact beq_cast x 0
  · have := beq_cast x 0
    show (!((x : Int) == ((0 : Nat) : Int))) = _
    rw [this]
set_option maxHeartbeats 1000000 in
set_option maxRecDepth 100000 in
theorem rmayR_0 (t : Tm) (r : Ru) (p : Nat) (S : Value) (w : World) (T0 : Box4 w p (.int .u32 (t.own : Int)) (.int .u32 (t.ip : Int)) (.int .i64 t.bits) S) (k3 : ¬ r.k = 3) (k1 : ¬ r.k = 1) (k2 : ¬ r.k = 2) :
    Calls Try.prog 40 #[.pointer (some ⟨p, 0, none⟩), .agg #[.int .i64 r.k, .int .u8 r.pr, .int .u32 (r.si : Int), .int .i64 r.sb, .int .u32 (r.di : Int), .int .i64 r.db, .int .u32 (r.ex : Int), .int .u16 r.fr, .int .u16 r.to, .int .u32 (r.ii : Int), .int .u16 r.ip]] w fun e w' => e = .returned (.bool (mayRu t r)) ∧ Below w.heap.size w w' := by
  have HV : Hid (mayRu t r = false) := by show _ = _; unfold mayRu; rw [if_neg k3, if_neg (by omega)]
  have e1 : (r.k == 3) = false := by simpa using k3
  have e2 : (r.k != 1) = true := by simpa using k1
  have e3 : (r.k != 2) = true := by simpa using k2
  clear k1 k2 k3
  go_enter Try.func40, Try.ntmps40
  have B1 := Below.refl w.heap.size w
  go_upto_region 1 with fail
  have T_2 := T0.past (o := (.cells #[.int .i64 r.k, .int .u8 r.pr, .int .u32 (r.si : Int), .int .i64 r.sb, .int .u32 (r.di : Int), .int .i64 r.db, .int .u32 (r.ex : Int), .int .u16 r.fr, .int .u16 r.to, .int .u32 (r.ii : Int), .int .u16 r.ip] 42))
  have R_3 := Box11.make w (.int .i64 r.k) (.int .u8 r.pr) (.int .u32 (r.si : Int)) (.int .i64 r.sb) (.int .u32 (r.di : Int)) (.int .i64 r.db) (.int .u32 (r.ex : Int)) (.int .u16 r.fr) (.int .u16 r.to) (.int .u32 (r.ii : Int)) (.int .u16 r.ip) 42
  have B4 := B1.alloc B1.size (.cells #[.int .i64 r.k, .int .u8 r.pr, .int .u32 (r.si : Int), .int .i64 r.sb, .int .u32 (r.di : Int), .int .i64 r.db, .int .u32 (r.ex : Int), .int .u16 r.fr, .int .u16 r.to, .int .u32 (r.ii : Int), .int .u16 r.ip] 42)
  clear T0 B1
  obtain ⟨u1, hu1⟩ : ∃ x, x = w.alloc (.cells #[.int .i64 r.k, .int .u8 r.pr, .int .u32 (r.si : Int), .int .i64 r.sb, .int .u32 (r.di : Int), .int .i64 r.db, .int .u32 (r.ex : Int), .int .u16 r.fr, .int .u16 r.to, .int .u32 (r.ii : Int), .int .u16 r.ip] 42) := ⟨_, rfl⟩
  rw [← hu1] at T_2 R_3 B4 ⊢
  clear hu1
  obtain ⟨_, r1_0, r1_1, r1_2, r1_3, r1_4, r1_5, r1_6, r1_7, r1_8, r1_9, r1_10⟩ := id R_3
  go_wp2
  go_ret
  rw [HV.out]
  exact ⟨rfl, B4⟩
set_option maxHeartbeats 4000000 in
set_option maxRecDepth 100000 in
theorem rmayR_3 (t : Tm) (r : Ru) (p : Nat) (S : Value) (w : World) (T0 : Box4 w p (.int .u32 (t.own : Int)) (.int .u32 (t.ip : Int)) (.int .i64 t.bits) S) (h1 : t.ip < 4294967296) (h2 : -9223372036854775808 ≤ t.bits ∧ t.bits ≤ 9223372036854775807) (hr : r.Ok) (k3 : r.k = 3) :
    Calls Try.prog 40 #[.pointer (some ⟨p, 0, none⟩), .agg #[.int .i64 r.k, .int .u8 r.pr, .int .u32 (r.si : Int), .int .i64 r.sb, .int .u32 (r.di : Int), .int .i64 r.db, .int .u32 (r.ex : Int), .int .u16 r.fr, .int .u16 r.to, .int .u32 (r.ii : Int), .int .u16 r.ip]] w fun e w' => e = .returned (.bool (mayRu t r)) ∧ Below w.heap.size w w' := by
  have c1 := fun (u : World) (T : Box4 u p (.int .u32 (t.own : Int)) (.int .u32 (t.ip : Int)) (.int .i64 t.bits) S) => rinnerR_ t r.ex p S u T hr.ex1 h1 h2
  have c2 := fun (u : World) (T : Box4 u p (.int .u32 (t.own : Int)) (.int .u32 (t.ip : Int)) (.int .i64 t.bits) S) => rinnerR_ t r.ii p S u T hr.ii1 h1 h2
  obtain ⟨x6, p6, q6, l6⟩ := eqi_ r.pr 6
  obtain ⟨x17, p17, q17, l17⟩ := eqi_ r.pr 17
  obtain ⟨xs, ps, ns, us, vs, ls⟩ := eqz_ r.si
  obtain ⟨xb, pb, qb, lb⟩ := eqi_ r.sb 0
  obtain ⟨xd, pd, nd, ud, vd, ld⟩ := eqz_ r.di
  obtain ⟨xe, pe, qe, le⟩ := eqi_ r.db 0
  obtain ⟨xf, pf, qf, lf⟩ := eqi_ r.fr 0
  obtain ⟨xt, pt, qt, lt⟩ := eqi_ r.fr r.to
  obtain ⟨xi, pi, qi, li⟩ := eqi_ r.ip 0
  obtain ⟨v1, hv1⟩ : ∃ v, innerB t r.ex = v := ⟨_, rfl⟩
  obtain ⟨v2, hv2⟩ : ∃ v, innerB t r.ii = v := ⟨_, rfl⟩
  rw [hv1] at c1
  rw [hv2] at c2
  have HV : Hid (mayRu t r = ((x6 || x17) && (xs && xb) && (xd && xe) && !v1 && !xf && xt && v2 && !xi)) := by show _ = _; unfold mayRu; rw [if_pos k3, l6, l17, ls, lb, ld, le, lf, lt, li, hv1, hv2]
  have e1 : (r.k == 3) = true := by rw [k3]; rfl
  clear k3 l6 l17 ls lb ld le lf lt li hv1 hv2 h1 h2 hr
  have key : (x6 = false ∧ x17 = false) ∨ ((x6 = true ∨ (x6 = false ∧ x17 = true)) ∧ (xs = false ∨ (xs = true ∧ xb = false) ∨ (xs = true ∧ xb = true ∧ xd = false) ∨ (xs = true ∧ xb = true ∧ xd = true ∧ xe = false) ∨ (xs = true ∧ xb = true ∧ xd = true ∧ xe = true ∧ v1 = true) ∨ (xs = true ∧ xb = true ∧ xd = true ∧ xe = true ∧ v1 = false ∧ xf = true) ∨ (xs = true ∧ xb = true ∧ xd = true ∧ xe = true ∧ v1 = false ∧ xf = false ∧ xt = false) ∨ (xs = true ∧ xb = true ∧ xd = true ∧ xe = true ∧ v1 = false ∧ xf = false ∧ xt = true ∧ v2 = false) ∨ (xs = true ∧ xb = true ∧ xd = true ∧ xe = true ∧ v1 = false ∧ xf = false ∧ xt = true ∧ v2 = true ∧ xi = true) ∨ (xs = true ∧ xb = true ∧ xd = true ∧ xe = true ∧ v1 = false ∧ xf = false ∧ xt = true ∧ v2 = true ∧ xi = false))) := by
    cases x6 <;> cases x17 <;> cases xs <;> cases xb <;> cases xd <;> cases xe <;> simp <;> cases v1 <;> cases xf <;> cases xt <;> simp <;> cases v2 <;> cases xi <;> simp
  rcases key with ⟨rfl, rfl⟩ | ⟨hz, key⟩
  · simp only [Bool.not_true, Bool.not_false, Bool.and_true, Bool.and_false, Bool.true_and, Bool.false_and, Bool.or_true, Bool.or_false, Bool.true_or, Bool.false_or] at *
    go_enter Try.func40, Try.ntmps40
    have B1 := Below.refl w.heap.size w
    go_upto_region 1 with fail
    have T_2 := T0.past (o := (.cells #[.int .i64 r.k, .int .u8 r.pr, .int .u32 (r.si : Int), .int .i64 r.sb, .int .u32 (r.di : Int), .int .i64 r.db, .int .u32 (r.ex : Int), .int .u16 r.fr, .int .u16 r.to, .int .u32 (r.ii : Int), .int .u16 r.ip] 42))
    have R_3 := Box11.make w (.int .i64 r.k) (.int .u8 r.pr) (.int .u32 (r.si : Int)) (.int .i64 r.sb) (.int .u32 (r.di : Int)) (.int .i64 r.db) (.int .u32 (r.ex : Int)) (.int .u16 r.fr) (.int .u16 r.to) (.int .u32 (r.ii : Int)) (.int .u16 r.ip) 42
    have B4 := B1.alloc B1.size (.cells #[.int .i64 r.k, .int .u8 r.pr, .int .u32 (r.si : Int), .int .i64 r.sb, .int .u32 (r.di : Int), .int .i64 r.db, .int .u32 (r.ex : Int), .int .u16 r.fr, .int .u16 r.to, .int .u32 (r.ii : Int), .int .u16 r.ip] 42)
    clear T0 B1
    obtain ⟨u1, hu1⟩ : ∃ x, x = w.alloc (.cells #[.int .i64 r.k, .int .u8 r.pr, .int .u32 (r.si : Int), .int .i64 r.sb, .int .u32 (r.di : Int), .int .i64 r.db, .int .u32 (r.ex : Int), .int .u16 r.fr, .int .u16 r.to, .int .u32 (r.ii : Int), .int .u16 r.ip] 42) := ⟨_, rfl⟩
    rw [← hu1] at T_2 R_3 B4 ⊢
    clear hu1
    obtain ⟨_, r1_0, r1_1, r1_2, r1_3, r1_4, r1_5, r1_6, r1_7, r1_8, r1_9, r1_10⟩ := id R_3
    go_wp2
    go_ret
    rw [HV.out]
    exact ⟨rfl, B4⟩
  rcases key with rfl | ⟨rfl, rfl⟩ | ⟨rfl, rfl, rfl⟩ | ⟨rfl, rfl, rfl, rfl⟩ | ⟨rfl, rfl, rfl, rfl, rfl⟩ | ⟨rfl, rfl, rfl, rfl, rfl, rfl⟩ | ⟨rfl, rfl, rfl, rfl, rfl, rfl, rfl⟩ | ⟨rfl, rfl, rfl, rfl, rfl, rfl, rfl, rfl⟩ | ⟨rfl, rfl, rfl, rfl, rfl, rfl, rfl, rfl, rfl⟩ | ⟨rfl, rfl, rfl, rfl, rfl, rfl, rfl, rfl, rfl⟩
  · rcases hz with rfl | ⟨rfl, rfl⟩
    all_goals
      simp only [Bool.not_true, Bool.not_false, Bool.and_true, Bool.and_false, Bool.true_and, Bool.false_and, Bool.or_true, Bool.or_false, Bool.true_or, Bool.false_or] at *
      go_enter Try.func40, Try.ntmps40
      have B1 := Below.refl w.heap.size w
      go_upto_region 1 with fail
      have T_2 := T0.past (o := (.cells #[.int .i64 r.k, .int .u8 r.pr, .int .u32 (r.si : Int), .int .i64 r.sb, .int .u32 (r.di : Int), .int .i64 r.db, .int .u32 (r.ex : Int), .int .u16 r.fr, .int .u16 r.to, .int .u32 (r.ii : Int), .int .u16 r.ip] 42))
      have R_3 := Box11.make w (.int .i64 r.k) (.int .u8 r.pr) (.int .u32 (r.si : Int)) (.int .i64 r.sb) (.int .u32 (r.di : Int)) (.int .i64 r.db) (.int .u32 (r.ex : Int)) (.int .u16 r.fr) (.int .u16 r.to) (.int .u32 (r.ii : Int)) (.int .u16 r.ip) 42
      have B4 := B1.alloc B1.size (.cells #[.int .i64 r.k, .int .u8 r.pr, .int .u32 (r.si : Int), .int .i64 r.sb, .int .u32 (r.di : Int), .int .i64 r.db, .int .u32 (r.ex : Int), .int .u16 r.fr, .int .u16 r.to, .int .u32 (r.ii : Int), .int .u16 r.ip] 42)
      clear T0 B1
      obtain ⟨u1, hu1⟩ : ∃ x, x = w.alloc (.cells #[.int .i64 r.k, .int .u8 r.pr, .int .u32 (r.si : Int), .int .i64 r.sb, .int .u32 (r.di : Int), .int .i64 r.db, .int .u32 (r.ex : Int), .int .u16 r.fr, .int .u16 r.to, .int .u32 (r.ii : Int), .int .u16 r.ip] 42) := ⟨_, rfl⟩
      rw [← hu1] at T_2 R_3 B4 ⊢
      clear hu1
      obtain ⟨_, r1_0, r1_1, r1_2, r1_3, r1_4, r1_5, r1_6, r1_7, r1_8, r1_9, r1_10⟩ := id R_3
      go_wp2
      go_ret
      rw [HV.out]
      exact ⟨rfl, B4⟩
  · rcases hz with rfl | ⟨rfl, rfl⟩
    all_goals
      simp only [Bool.not_true, Bool.not_false, Bool.and_true, Bool.and_false, Bool.true_and, Bool.false_and, Bool.or_true, Bool.or_false, Bool.true_or, Bool.false_or] at *
      go_enter Try.func40, Try.ntmps40
      have B1 := Below.refl w.heap.size w
      go_upto_region 1 with fail
      have T_2 := T0.past (o := (.cells #[.int .i64 r.k, .int .u8 r.pr, .int .u32 (r.si : Int), .int .i64 r.sb, .int .u32 (r.di : Int), .int .i64 r.db, .int .u32 (r.ex : Int), .int .u16 r.fr, .int .u16 r.to, .int .u32 (r.ii : Int), .int .u16 r.ip] 42))
      have R_3 := Box11.make w (.int .i64 r.k) (.int .u8 r.pr) (.int .u32 (r.si : Int)) (.int .i64 r.sb) (.int .u32 (r.di : Int)) (.int .i64 r.db) (.int .u32 (r.ex : Int)) (.int .u16 r.fr) (.int .u16 r.to) (.int .u32 (r.ii : Int)) (.int .u16 r.ip) 42
      have B4 := B1.alloc B1.size (.cells #[.int .i64 r.k, .int .u8 r.pr, .int .u32 (r.si : Int), .int .i64 r.sb, .int .u32 (r.di : Int), .int .i64 r.db, .int .u32 (r.ex : Int), .int .u16 r.fr, .int .u16 r.to, .int .u32 (r.ii : Int), .int .u16 r.ip] 42)
      clear T0 B1
      obtain ⟨u1, hu1⟩ : ∃ x, x = w.alloc (.cells #[.int .i64 r.k, .int .u8 r.pr, .int .u32 (r.si : Int), .int .i64 r.sb, .int .u32 (r.di : Int), .int .i64 r.db, .int .u32 (r.ex : Int), .int .u16 r.fr, .int .u16 r.to, .int .u32 (r.ii : Int), .int .u16 r.ip] 42) := ⟨_, rfl⟩
      rw [← hu1] at T_2 R_3 B4 ⊢
      clear hu1
      obtain ⟨_, r1_0, r1_1, r1_2, r1_3, r1_4, r1_5, r1_6, r1_7, r1_8, r1_9, r1_10⟩ := id R_3
      go_wp2
      go_ret
      rw [HV.out]
      exact ⟨rfl, B4⟩
  · rcases hz with rfl | ⟨rfl, rfl⟩
    all_goals
      simp only [Bool.not_true, Bool.not_false, Bool.and_true, Bool.and_false, Bool.true_and, Bool.false_and, Bool.or_true, Bool.or_false, Bool.true_or, Bool.false_or] at *
      go_enter Try.func40, Try.ntmps40
      have B1 := Below.refl w.heap.size w
      go_upto_region 1 with fail
      have T_2 := T0.past (o := (.cells #[.int .i64 r.k, .int .u8 r.pr, .int .u32 (r.si : Int), .int .i64 r.sb, .int .u32 (r.di : Int), .int .i64 r.db, .int .u32 (r.ex : Int), .int .u16 r.fr, .int .u16 r.to, .int .u32 (r.ii : Int), .int .u16 r.ip] 42))
      have R_3 := Box11.make w (.int .i64 r.k) (.int .u8 r.pr) (.int .u32 (r.si : Int)) (.int .i64 r.sb) (.int .u32 (r.di : Int)) (.int .i64 r.db) (.int .u32 (r.ex : Int)) (.int .u16 r.fr) (.int .u16 r.to) (.int .u32 (r.ii : Int)) (.int .u16 r.ip) 42
      have B4 := B1.alloc B1.size (.cells #[.int .i64 r.k, .int .u8 r.pr, .int .u32 (r.si : Int), .int .i64 r.sb, .int .u32 (r.di : Int), .int .i64 r.db, .int .u32 (r.ex : Int), .int .u16 r.fr, .int .u16 r.to, .int .u32 (r.ii : Int), .int .u16 r.ip] 42)
      clear T0 B1
      obtain ⟨u1, hu1⟩ : ∃ x, x = w.alloc (.cells #[.int .i64 r.k, .int .u8 r.pr, .int .u32 (r.si : Int), .int .i64 r.sb, .int .u32 (r.di : Int), .int .i64 r.db, .int .u32 (r.ex : Int), .int .u16 r.fr, .int .u16 r.to, .int .u32 (r.ii : Int), .int .u16 r.ip] 42) := ⟨_, rfl⟩
      rw [← hu1] at T_2 R_3 B4 ⊢
      clear hu1
      obtain ⟨_, r1_0, r1_1, r1_2, r1_3, r1_4, r1_5, r1_6, r1_7, r1_8, r1_9, r1_10⟩ := id R_3
      go_wp2
      go_ret
      rw [HV.out]
      exact ⟨rfl, B4⟩
  · rcases hz with rfl | ⟨rfl, rfl⟩
    all_goals
      simp only [Bool.not_true, Bool.not_false, Bool.and_true, Bool.and_false, Bool.true_and, Bool.false_and, Bool.or_true, Bool.or_false, Bool.true_or, Bool.false_or] at *
      go_enter Try.func40, Try.ntmps40
      have B1 := Below.refl w.heap.size w
      go_upto_region 1 with fail
      have T_2 := T0.past (o := (.cells #[.int .i64 r.k, .int .u8 r.pr, .int .u32 (r.si : Int), .int .i64 r.sb, .int .u32 (r.di : Int), .int .i64 r.db, .int .u32 (r.ex : Int), .int .u16 r.fr, .int .u16 r.to, .int .u32 (r.ii : Int), .int .u16 r.ip] 42))
      have R_3 := Box11.make w (.int .i64 r.k) (.int .u8 r.pr) (.int .u32 (r.si : Int)) (.int .i64 r.sb) (.int .u32 (r.di : Int)) (.int .i64 r.db) (.int .u32 (r.ex : Int)) (.int .u16 r.fr) (.int .u16 r.to) (.int .u32 (r.ii : Int)) (.int .u16 r.ip) 42
      have B4 := B1.alloc B1.size (.cells #[.int .i64 r.k, .int .u8 r.pr, .int .u32 (r.si : Int), .int .i64 r.sb, .int .u32 (r.di : Int), .int .i64 r.db, .int .u32 (r.ex : Int), .int .u16 r.fr, .int .u16 r.to, .int .u32 (r.ii : Int), .int .u16 r.ip] 42)
      clear T0 B1
      obtain ⟨u1, hu1⟩ : ∃ x, x = w.alloc (.cells #[.int .i64 r.k, .int .u8 r.pr, .int .u32 (r.si : Int), .int .i64 r.sb, .int .u32 (r.di : Int), .int .i64 r.db, .int .u32 (r.ex : Int), .int .u16 r.fr, .int .u16 r.to, .int .u32 (r.ii : Int), .int .u16 r.ip] 42) := ⟨_, rfl⟩
      rw [← hu1] at T_2 R_3 B4 ⊢
      clear hu1
      obtain ⟨_, r1_0, r1_1, r1_2, r1_3, r1_4, r1_5, r1_6, r1_7, r1_8, r1_9, r1_10⟩ := id R_3
      go_wp2
      go_ret
      rw [HV.out]
      exact ⟨rfl, B4⟩
  · rcases hz with rfl | ⟨rfl, rfl⟩
    all_goals
      simp only [Bool.not_true, Bool.not_false, Bool.and_true, Bool.and_false, Bool.true_and, Bool.false_and, Bool.or_true, Bool.or_false, Bool.true_or, Bool.false_or] at *
      go_enter Try.func40, Try.ntmps40
      have B1 := Below.refl w.heap.size w
      go_upto_region 1 with fail
      have T_2 := T0.past (o := (.cells #[.int .i64 r.k, .int .u8 r.pr, .int .u32 (r.si : Int), .int .i64 r.sb, .int .u32 (r.di : Int), .int .i64 r.db, .int .u32 (r.ex : Int), .int .u16 r.fr, .int .u16 r.to, .int .u32 (r.ii : Int), .int .u16 r.ip] 42))
      have R_3 := Box11.make w (.int .i64 r.k) (.int .u8 r.pr) (.int .u32 (r.si : Int)) (.int .i64 r.sb) (.int .u32 (r.di : Int)) (.int .i64 r.db) (.int .u32 (r.ex : Int)) (.int .u16 r.fr) (.int .u16 r.to) (.int .u32 (r.ii : Int)) (.int .u16 r.ip) 42
      have B4 := B1.alloc B1.size (.cells #[.int .i64 r.k, .int .u8 r.pr, .int .u32 (r.si : Int), .int .i64 r.sb, .int .u32 (r.di : Int), .int .i64 r.db, .int .u32 (r.ex : Int), .int .u16 r.fr, .int .u16 r.to, .int .u32 (r.ii : Int), .int .u16 r.ip] 42)
      clear T0 B1
      obtain ⟨u1, hu1⟩ : ∃ x, x = w.alloc (.cells #[.int .i64 r.k, .int .u8 r.pr, .int .u32 (r.si : Int), .int .i64 r.sb, .int .u32 (r.di : Int), .int .i64 r.db, .int .u32 (r.ex : Int), .int .u16 r.fr, .int .u16 r.to, .int .u32 (r.ii : Int), .int .u16 r.ip] 42) := ⟨_, rfl⟩
      rw [← hu1] at T_2 R_3 B4 ⊢
      clear hu1
      obtain ⟨_, r1_0, r1_1, r1_2, r1_3, r1_4, r1_5, r1_6, r1_7, r1_8, r1_9, r1_10⟩ := id R_3
      go_wp2_with fail
      refine (c1 _ T_2).mono ?_; rintro e w2 ⟨rfl, x2⟩
      have T_5 := T_2.on x2
      have R_6 := R_3.on x2
      have B7 := B4.trans (x2.mono B4.size)
      clear r1_0 r1_1 r1_2 r1_3 r1_4 r1_5 r1_6 r1_7 r1_8 r1_9 r1_10 T_2 R_3 B4 x2
      obtain ⟨_, r2_0, r2_1, r2_2, r2_3, r2_4, r2_5, r2_6, r2_7, r2_8, r2_9, r2_10⟩ := id R_6
      go_wp2
      go_ret
      rw [HV.out]
      exact ⟨rfl, B7⟩
  · rcases hz with rfl | ⟨rfl, rfl⟩
    all_goals
      simp only [Bool.not_true, Bool.not_false, Bool.and_true, Bool.and_false, Bool.true_and, Bool.false_and, Bool.or_true, Bool.or_false, Bool.true_or, Bool.false_or] at *
      go_enter Try.func40, Try.ntmps40
      have B1 := Below.refl w.heap.size w
      go_upto_region 1 with fail
      have T_2 := T0.past (o := (.cells #[.int .i64 r.k, .int .u8 r.pr, .int .u32 (r.si : Int), .int .i64 r.sb, .int .u32 (r.di : Int), .int .i64 r.db, .int .u32 (r.ex : Int), .int .u16 r.fr, .int .u16 r.to, .int .u32 (r.ii : Int), .int .u16 r.ip] 42))
      have R_3 := Box11.make w (.int .i64 r.k) (.int .u8 r.pr) (.int .u32 (r.si : Int)) (.int .i64 r.sb) (.int .u32 (r.di : Int)) (.int .i64 r.db) (.int .u32 (r.ex : Int)) (.int .u16 r.fr) (.int .u16 r.to) (.int .u32 (r.ii : Int)) (.int .u16 r.ip) 42
      have B4 := B1.alloc B1.size (.cells #[.int .i64 r.k, .int .u8 r.pr, .int .u32 (r.si : Int), .int .i64 r.sb, .int .u32 (r.di : Int), .int .i64 r.db, .int .u32 (r.ex : Int), .int .u16 r.fr, .int .u16 r.to, .int .u32 (r.ii : Int), .int .u16 r.ip] 42)
      clear T0 B1
      obtain ⟨u1, hu1⟩ : ∃ x, x = w.alloc (.cells #[.int .i64 r.k, .int .u8 r.pr, .int .u32 (r.si : Int), .int .i64 r.sb, .int .u32 (r.di : Int), .int .i64 r.db, .int .u32 (r.ex : Int), .int .u16 r.fr, .int .u16 r.to, .int .u32 (r.ii : Int), .int .u16 r.ip] 42) := ⟨_, rfl⟩
      rw [← hu1] at T_2 R_3 B4 ⊢
      clear hu1
      obtain ⟨_, r1_0, r1_1, r1_2, r1_3, r1_4, r1_5, r1_6, r1_7, r1_8, r1_9, r1_10⟩ := id R_3
      go_wp2_with fail
      refine (c1 _ T_2).mono ?_; rintro e w2 ⟨rfl, x2⟩
      have T_5 := T_2.on x2
      have R_6 := R_3.on x2
      have B7 := B4.trans (x2.mono B4.size)
      clear r1_0 r1_1 r1_2 r1_3 r1_4 r1_5 r1_6 r1_7 r1_8 r1_9 r1_10 T_2 R_3 B4 x2
      obtain ⟨_, r2_0, r2_1, r2_2, r2_3, r2_4, r2_5, r2_6, r2_7, r2_8, r2_9, r2_10⟩ := id R_6
      go_wp2
      go_ret
      rw [HV.out]
      exact ⟨rfl, B7⟩
  · rcases hz with rfl | ⟨rfl, rfl⟩
    all_goals
      simp only [Bool.not_true, Bool.not_false, Bool.and_true, Bool.and_false, Bool.true_and, Bool.false_and, Bool.or_true, Bool.or_false, Bool.true_or, Bool.false_or] at *
      go_enter Try.func40, Try.ntmps40
      have B1 := Below.refl w.heap.size w
      go_upto_region 1 with fail
      have T_2 := T0.past (o := (.cells #[.int .i64 r.k, .int .u8 r.pr, .int .u32 (r.si : Int), .int .i64 r.sb, .int .u32 (r.di : Int), .int .i64 r.db, .int .u32 (r.ex : Int), .int .u16 r.fr, .int .u16 r.to, .int .u32 (r.ii : Int), .int .u16 r.ip] 42))
      have R_3 := Box11.make w (.int .i64 r.k) (.int .u8 r.pr) (.int .u32 (r.si : Int)) (.int .i64 r.sb) (.int .u32 (r.di : Int)) (.int .i64 r.db) (.int .u32 (r.ex : Int)) (.int .u16 r.fr) (.int .u16 r.to) (.int .u32 (r.ii : Int)) (.int .u16 r.ip) 42
      have B4 := B1.alloc B1.size (.cells #[.int .i64 r.k, .int .u8 r.pr, .int .u32 (r.si : Int), .int .i64 r.sb, .int .u32 (r.di : Int), .int .i64 r.db, .int .u32 (r.ex : Int), .int .u16 r.fr, .int .u16 r.to, .int .u32 (r.ii : Int), .int .u16 r.ip] 42)
      clear T0 B1
      obtain ⟨u1, hu1⟩ : ∃ x, x = w.alloc (.cells #[.int .i64 r.k, .int .u8 r.pr, .int .u32 (r.si : Int), .int .i64 r.sb, .int .u32 (r.di : Int), .int .i64 r.db, .int .u32 (r.ex : Int), .int .u16 r.fr, .int .u16 r.to, .int .u32 (r.ii : Int), .int .u16 r.ip] 42) := ⟨_, rfl⟩
      rw [← hu1] at T_2 R_3 B4 ⊢
      clear hu1
      obtain ⟨_, r1_0, r1_1, r1_2, r1_3, r1_4, r1_5, r1_6, r1_7, r1_8, r1_9, r1_10⟩ := id R_3
      go_wp2_with fail
      refine (c1 _ T_2).mono ?_; rintro e w2 ⟨rfl, x2⟩
      have T_5 := T_2.on x2
      have R_6 := R_3.on x2
      have B7 := B4.trans (x2.mono B4.size)
      clear r1_0 r1_1 r1_2 r1_3 r1_4 r1_5 r1_6 r1_7 r1_8 r1_9 r1_10 T_2 R_3 B4 x2
      obtain ⟨_, r2_0, r2_1, r2_2, r2_3, r2_4, r2_5, r2_6, r2_7, r2_8, r2_9, r2_10⟩ := id R_6
      go_wp2
      go_ret
      rw [HV.out]
      exact ⟨rfl, B7⟩
  · rcases hz with rfl | ⟨rfl, rfl⟩
    all_goals
      simp only [Bool.not_true, Bool.not_false, Bool.and_true, Bool.and_false, Bool.true_and, Bool.false_and, Bool.or_true, Bool.or_false, Bool.true_or, Bool.false_or] at *
      go_enter Try.func40, Try.ntmps40
      have B1 := Below.refl w.heap.size w
      go_upto_region 1 with fail
      have T_2 := T0.past (o := (.cells #[.int .i64 r.k, .int .u8 r.pr, .int .u32 (r.si : Int), .int .i64 r.sb, .int .u32 (r.di : Int), .int .i64 r.db, .int .u32 (r.ex : Int), .int .u16 r.fr, .int .u16 r.to, .int .u32 (r.ii : Int), .int .u16 r.ip] 42))
      have R_3 := Box11.make w (.int .i64 r.k) (.int .u8 r.pr) (.int .u32 (r.si : Int)) (.int .i64 r.sb) (.int .u32 (r.di : Int)) (.int .i64 r.db) (.int .u32 (r.ex : Int)) (.int .u16 r.fr) (.int .u16 r.to) (.int .u32 (r.ii : Int)) (.int .u16 r.ip) 42
      have B4 := B1.alloc B1.size (.cells #[.int .i64 r.k, .int .u8 r.pr, .int .u32 (r.si : Int), .int .i64 r.sb, .int .u32 (r.di : Int), .int .i64 r.db, .int .u32 (r.ex : Int), .int .u16 r.fr, .int .u16 r.to, .int .u32 (r.ii : Int), .int .u16 r.ip] 42)
      clear T0 B1
      obtain ⟨u1, hu1⟩ : ∃ x, x = w.alloc (.cells #[.int .i64 r.k, .int .u8 r.pr, .int .u32 (r.si : Int), .int .i64 r.sb, .int .u32 (r.di : Int), .int .i64 r.db, .int .u32 (r.ex : Int), .int .u16 r.fr, .int .u16 r.to, .int .u32 (r.ii : Int), .int .u16 r.ip] 42) := ⟨_, rfl⟩
      rw [← hu1] at T_2 R_3 B4 ⊢
      clear hu1
      obtain ⟨_, r1_0, r1_1, r1_2, r1_3, r1_4, r1_5, r1_6, r1_7, r1_8, r1_9, r1_10⟩ := id R_3
      go_wp2_with fail
      refine (c1 _ T_2).mono ?_; rintro e w2 ⟨rfl, x2⟩
      have T_5 := T_2.on x2
      have R_6 := R_3.on x2
      have B7 := B4.trans (x2.mono B4.size)
      clear r1_0 r1_1 r1_2 r1_3 r1_4 r1_5 r1_6 r1_7 r1_8 r1_9 r1_10 T_2 R_3 B4 x2
      obtain ⟨_, r2_0, r2_1, r2_2, r2_3, r2_4, r2_5, r2_6, r2_7, r2_8, r2_9, r2_10⟩ := id R_6
      go_wp2_with fail
      refine (c2 _ T_5).mono ?_; rintro e w3 ⟨rfl, x3⟩
      have T_8 := T_5.on x3
      have R_9 := R_6.on x3
      have B10 := B7.trans (x3.mono B7.size)
      clear r2_0 r2_1 r2_2 r2_3 r2_4 r2_5 r2_6 r2_7 r2_8 r2_9 r2_10 T_5 R_6 B7 x3
      obtain ⟨_, r3_0, r3_1, r3_2, r3_3, r3_4, r3_5, r3_6, r3_7, r3_8, r3_9, r3_10⟩ := id R_9
      go_wp2
      go_ret
      rw [HV.out]
      exact ⟨rfl, B10⟩
  · rcases hz with rfl | ⟨rfl, rfl⟩
    all_goals
      simp only [Bool.not_true, Bool.not_false, Bool.and_true, Bool.and_false, Bool.true_and, Bool.false_and, Bool.or_true, Bool.or_false, Bool.true_or, Bool.false_or] at *
      go_enter Try.func40, Try.ntmps40
      have B1 := Below.refl w.heap.size w
      go_upto_region 1 with fail
      have T_2 := T0.past (o := (.cells #[.int .i64 r.k, .int .u8 r.pr, .int .u32 (r.si : Int), .int .i64 r.sb, .int .u32 (r.di : Int), .int .i64 r.db, .int .u32 (r.ex : Int), .int .u16 r.fr, .int .u16 r.to, .int .u32 (r.ii : Int), .int .u16 r.ip] 42))
      have R_3 := Box11.make w (.int .i64 r.k) (.int .u8 r.pr) (.int .u32 (r.si : Int)) (.int .i64 r.sb) (.int .u32 (r.di : Int)) (.int .i64 r.db) (.int .u32 (r.ex : Int)) (.int .u16 r.fr) (.int .u16 r.to) (.int .u32 (r.ii : Int)) (.int .u16 r.ip) 42
      have B4 := B1.alloc B1.size (.cells #[.int .i64 r.k, .int .u8 r.pr, .int .u32 (r.si : Int), .int .i64 r.sb, .int .u32 (r.di : Int), .int .i64 r.db, .int .u32 (r.ex : Int), .int .u16 r.fr, .int .u16 r.to, .int .u32 (r.ii : Int), .int .u16 r.ip] 42)
      clear T0 B1
      obtain ⟨u1, hu1⟩ : ∃ x, x = w.alloc (.cells #[.int .i64 r.k, .int .u8 r.pr, .int .u32 (r.si : Int), .int .i64 r.sb, .int .u32 (r.di : Int), .int .i64 r.db, .int .u32 (r.ex : Int), .int .u16 r.fr, .int .u16 r.to, .int .u32 (r.ii : Int), .int .u16 r.ip] 42) := ⟨_, rfl⟩
      rw [← hu1] at T_2 R_3 B4 ⊢
      clear hu1
      obtain ⟨_, r1_0, r1_1, r1_2, r1_3, r1_4, r1_5, r1_6, r1_7, r1_8, r1_9, r1_10⟩ := id R_3
      go_wp2_with fail
      refine (c1 _ T_2).mono ?_; rintro e w2 ⟨rfl, x2⟩
      have T_5 := T_2.on x2
      have R_6 := R_3.on x2
      have B7 := B4.trans (x2.mono B4.size)
      clear r1_0 r1_1 r1_2 r1_3 r1_4 r1_5 r1_6 r1_7 r1_8 r1_9 r1_10 T_2 R_3 B4 x2
      obtain ⟨_, r2_0, r2_1, r2_2, r2_3, r2_4, r2_5, r2_6, r2_7, r2_8, r2_9, r2_10⟩ := id R_6
      go_wp2_with fail
      refine (c2 _ T_5).mono ?_; rintro e w3 ⟨rfl, x3⟩
      have T_8 := T_5.on x3
      have R_9 := R_6.on x3
      have B10 := B7.trans (x3.mono B7.size)
      clear r2_0 r2_1 r2_2 r2_3 r2_4 r2_5 r2_6 r2_7 r2_8 r2_9 r2_10 T_5 R_6 B7 x3
      obtain ⟨_, r3_0, r3_1, r3_2, r3_3, r3_4, r3_5, r3_6, r3_7, r3_8, r3_9, r3_10⟩ := id R_9
      go_wp2
      go_ret
      rw [HV.out]
      exact ⟨rfl, B10⟩
  · rcases hz with rfl | ⟨rfl, rfl⟩
    all_goals
      simp only [Bool.not_true, Bool.not_false, Bool.and_true, Bool.and_false, Bool.true_and, Bool.false_and, Bool.or_true, Bool.or_false, Bool.true_or, Bool.false_or] at *
      go_enter Try.func40, Try.ntmps40
      have B1 := Below.refl w.heap.size w
      go_upto_region 1 with fail
      have T_2 := T0.past (o := (.cells #[.int .i64 r.k, .int .u8 r.pr, .int .u32 (r.si : Int), .int .i64 r.sb, .int .u32 (r.di : Int), .int .i64 r.db, .int .u32 (r.ex : Int), .int .u16 r.fr, .int .u16 r.to, .int .u32 (r.ii : Int), .int .u16 r.ip] 42))
      have R_3 := Box11.make w (.int .i64 r.k) (.int .u8 r.pr) (.int .u32 (r.si : Int)) (.int .i64 r.sb) (.int .u32 (r.di : Int)) (.int .i64 r.db) (.int .u32 (r.ex : Int)) (.int .u16 r.fr) (.int .u16 r.to) (.int .u32 (r.ii : Int)) (.int .u16 r.ip) 42
      have B4 := B1.alloc B1.size (.cells #[.int .i64 r.k, .int .u8 r.pr, .int .u32 (r.si : Int), .int .i64 r.sb, .int .u32 (r.di : Int), .int .i64 r.db, .int .u32 (r.ex : Int), .int .u16 r.fr, .int .u16 r.to, .int .u32 (r.ii : Int), .int .u16 r.ip] 42)
      clear T0 B1
      obtain ⟨u1, hu1⟩ : ∃ x, x = w.alloc (.cells #[.int .i64 r.k, .int .u8 r.pr, .int .u32 (r.si : Int), .int .i64 r.sb, .int .u32 (r.di : Int), .int .i64 r.db, .int .u32 (r.ex : Int), .int .u16 r.fr, .int .u16 r.to, .int .u32 (r.ii : Int), .int .u16 r.ip] 42) := ⟨_, rfl⟩
      rw [← hu1] at T_2 R_3 B4 ⊢
      clear hu1
      obtain ⟨_, r1_0, r1_1, r1_2, r1_3, r1_4, r1_5, r1_6, r1_7, r1_8, r1_9, r1_10⟩ := id R_3
      go_wp2_with fail
      refine (c1 _ T_2).mono ?_; rintro e w2 ⟨rfl, x2⟩
      have T_5 := T_2.on x2
      have R_6 := R_3.on x2
      have B7 := B4.trans (x2.mono B4.size)
      clear r1_0 r1_1 r1_2 r1_3 r1_4 r1_5 r1_6 r1_7 r1_8 r1_9 r1_10 T_2 R_3 B4 x2
      obtain ⟨_, r2_0, r2_1, r2_2, r2_3, r2_4, r2_5, r2_6, r2_7, r2_8, r2_9, r2_10⟩ := id R_6
      go_wp2_with fail
      refine (c2 _ T_5).mono ?_; rintro e w3 ⟨rfl, x3⟩
      have T_8 := T_5.on x3
      have R_9 := R_6.on x3
      have B10 := B7.trans (x3.mono B7.size)
      clear r2_0 r2_1 r2_2 r2_3 r2_4 r2_5 r2_6 r2_7 r2_8 r2_9 r2_10 T_5 R_6 B7 x3
      obtain ⟨_, r3_0, r3_1, r3_2, r3_3, r3_4, r3_5, r3_6, r3_7, r3_8, r3_9, r3_10⟩ := id R_9
      go_wp2
      go_ret
      rw [HV.out]
      exact ⟨rfl, B10⟩
set_option maxHeartbeats 4000000 in
set_option maxRecDepth 100000 in
theorem rmayR_1 (t : Tm) (r : Ru) (p : Nat) (S : Value) (w : World) (T0 : Box4 w p (.int .u32 (t.own : Int)) (.int .u32 (t.ip : Int)) (.int .i64 t.bits) S) (h1 : t.ip < 4294967296) (h2 : -9223372036854775808 ≤ t.bits ∧ t.bits ≤ 9223372036854775807) (hr : r.Ok) (kk : r.k = 1) :
    Calls Try.prog 40 #[.pointer (some ⟨p, 0, none⟩), .agg #[.int .i64 r.k, .int .u8 r.pr, .int .u32 (r.si : Int), .int .i64 r.sb, .int .u32 (r.di : Int), .int .i64 r.db, .int .u32 (r.ex : Int), .int .u16 r.fr, .int .u16 r.to, .int .u32 (r.ii : Int), .int .u16 r.ip]] w fun e w' => e = .returned (.bool (mayRu t r)) ∧ Below w.heap.size w w' := by
  have c1 := fun (u : World) (T : Box4 u p (.int .u32 (t.own : Int)) (.int .u32 (t.ip : Int)) (.int .i64 t.bits) S) => rinnerR_ t r.ex p S u T hr.ex1 h1 h2
  have m1 := fun u => rmay_ r.si r.sb u hr.si1 ⟨hr.sb0, hr.sb1⟩
  have m2 := fun u => rmay_ r.di r.db u hr.di1 ⟨hr.db0, hr.db1⟩
  obtain ⟨x0, p0, q0, l0⟩ := eqi_ r.pr 0
  obtain ⟨x1, p1, q1, l1⟩ := eqi_ r.pr 1
  obtain ⟨x6, p6, q6, l6⟩ := eqi_ r.pr 6
  obtain ⟨x17, p17, q17, l17⟩ := eqi_ r.pr 17
  obtain ⟨xi, pi, ni, ui, vi, li⟩ := eqz_ r.ii
  obtain ⟨xp, pp, qp, lp⟩ := eqi_ r.ip 0
  obtain ⟨g1, hg1⟩ : ∃ v, decide (1 ≤ r.fr) = v := ⟨_, rfl⟩
  obtain ⟨g2, hg2⟩ : ∃ v, decide (r.fr ≤ r.to) = v := ⟨_, rfl⟩
  obtain ⟨a1, ha1⟩ : ∃ v, mayV r.si r.sb = v := ⟨_, rfl⟩
  obtain ⟨a2, ha2⟩ : ∃ v, mayV r.di r.db = v := ⟨_, rfl⟩
  rw [ha1] at m1
  rw [ha2] at m2
  obtain ⟨v, hv⟩ : ∃ v, innerB t r.ex = v := ⟨_, rfl⟩
  rw [hv] at c1
  have HV : Hid (mayRu t r = ((x0 || x1 || x6 || x17) && !v && a1 && a2 && g1 && g2 && (xi && xp))) := by show _ = _; unfold mayRu; rw [if_neg (by omega), if_pos (.inl kk), if_pos kk, l0, l1, l6, l17, hv, ha1, ha2, hg1, hg2, li, lp]
  have e4 : (r.k == 1) = true := by rw [kk]; rfl
  have e5 : (r.k == 2) = false := by rw [kk]; rfl
  have e6 : (r.k != 1) = false := by rw [kk]; rfl
  have e7 : (r.k != 2) = true := by rw [kk]; rfl
  clear hv
  have e1 : (r.k == 3) = false := by rw [kk]; rfl
  clear kk l0 l1 l6 l17 li lp ha1 ha2 h1 h2 hr
  have key : (x0 = false ∧ x1 = false ∧ x6 = false ∧ x17 = false) ∨ ((x0 = true ∨ (x0 = false ∧ x1 = true) ∨ (x0 = false ∧ x1 = false ∧ x6 = true) ∨ (x0 = false ∧ x1 = false ∧ x6 = false ∧ x17 = true)) ∧ (v = true ∨ (v = false ∧ a1 = false) ∨ (v = false ∧ a1 = true ∧ a2 = false) ∨ (v = false ∧ a1 = true ∧ a2 = true ∧ g1 = false) ∨ (v = false ∧ a1 = true ∧ a2 = true ∧ g1 = true ∧ g2 = false) ∨ (v = false ∧ a1 = true ∧ a2 = true ∧ g1 = true ∧ g2 = true ∧ xi = false) ∨ (v = false ∧ a1 = true ∧ a2 = true ∧ g1 = true ∧ g2 = true ∧ xi = true ∧ xp = false) ∨ (v = false ∧ a1 = true ∧ a2 = true ∧ g1 = true ∧ g2 = true ∧ xi = true ∧ xp = true))) := by
    cases x0 <;> cases x1 <;> cases x6 <;> cases x17 <;> simp <;> cases v <;> cases a1 <;> cases a2 <;> simp <;> cases g1 <;> cases g2 <;> cases xi <;> cases xp <;> simp
  rcases key with ⟨rfl, rfl, rfl, rfl⟩ | ⟨hz, key⟩
  · simp only [Bool.not_true, Bool.not_false, Bool.and_true, Bool.and_false, Bool.true_and, Bool.false_and, Bool.or_true, Bool.or_false, Bool.true_or, Bool.false_or] at *
    go_enter Try.func40, Try.ntmps40
    have B1 := Below.refl w.heap.size w
    go_upto_region 1 with fail
    have T_2 := T0.past (o := (.cells #[.int .i64 r.k, .int .u8 r.pr, .int .u32 (r.si : Int), .int .i64 r.sb, .int .u32 (r.di : Int), .int .i64 r.db, .int .u32 (r.ex : Int), .int .u16 r.fr, .int .u16 r.to, .int .u32 (r.ii : Int), .int .u16 r.ip] 42))
    have R_3 := Box11.make w (.int .i64 r.k) (.int .u8 r.pr) (.int .u32 (r.si : Int)) (.int .i64 r.sb) (.int .u32 (r.di : Int)) (.int .i64 r.db) (.int .u32 (r.ex : Int)) (.int .u16 r.fr) (.int .u16 r.to) (.int .u32 (r.ii : Int)) (.int .u16 r.ip) 42
    have B4 := B1.alloc B1.size (.cells #[.int .i64 r.k, .int .u8 r.pr, .int .u32 (r.si : Int), .int .i64 r.sb, .int .u32 (r.di : Int), .int .i64 r.db, .int .u32 (r.ex : Int), .int .u16 r.fr, .int .u16 r.to, .int .u32 (r.ii : Int), .int .u16 r.ip] 42)
    clear T0 B1
    obtain ⟨u1, hu1⟩ : ∃ x, x = w.alloc (.cells #[.int .i64 r.k, .int .u8 r.pr, .int .u32 (r.si : Int), .int .i64 r.sb, .int .u32 (r.di : Int), .int .i64 r.db, .int .u32 (r.ex : Int), .int .u16 r.fr, .int .u16 r.to, .int .u32 (r.ii : Int), .int .u16 r.ip] 42) := ⟨_, rfl⟩
    rw [← hu1] at T_2 R_3 B4 ⊢
    clear hu1
    obtain ⟨_, r1_0, r1_1, r1_2, r1_3, r1_4, r1_5, r1_6, r1_7, r1_8, r1_9, r1_10⟩ := id R_3
    go_wp2
    go_ret
    rw [HV.out]
    exact ⟨rfl, B4⟩
  rcases key with rfl | ⟨rfl, rfl⟩ | ⟨rfl, rfl, rfl⟩ | ⟨rfl, rfl, rfl, rfl⟩ | ⟨rfl, rfl, rfl, rfl, rfl⟩ | ⟨rfl, rfl, rfl, rfl, rfl, rfl⟩ | ⟨rfl, rfl, rfl, rfl, rfl, rfl, rfl⟩ | ⟨rfl, rfl, rfl, rfl, rfl, rfl, rfl⟩
  · rcases hz with rfl | ⟨rfl, rfl⟩ | ⟨rfl, rfl, rfl⟩ | ⟨rfl, rfl, rfl, rfl⟩
    all_goals
      simp only [Bool.not_true, Bool.not_false, Bool.and_true, Bool.and_false, Bool.true_and, Bool.false_and, Bool.or_true, Bool.or_false, Bool.true_or, Bool.false_or] at *
      go_enter Try.func40, Try.ntmps40
      have B1 := Below.refl w.heap.size w
      go_upto_region 1 with fail
      have T_2 := T0.past (o := (.cells #[.int .i64 r.k, .int .u8 r.pr, .int .u32 (r.si : Int), .int .i64 r.sb, .int .u32 (r.di : Int), .int .i64 r.db, .int .u32 (r.ex : Int), .int .u16 r.fr, .int .u16 r.to, .int .u32 (r.ii : Int), .int .u16 r.ip] 42))
      have R_3 := Box11.make w (.int .i64 r.k) (.int .u8 r.pr) (.int .u32 (r.si : Int)) (.int .i64 r.sb) (.int .u32 (r.di : Int)) (.int .i64 r.db) (.int .u32 (r.ex : Int)) (.int .u16 r.fr) (.int .u16 r.to) (.int .u32 (r.ii : Int)) (.int .u16 r.ip) 42
      have B4 := B1.alloc B1.size (.cells #[.int .i64 r.k, .int .u8 r.pr, .int .u32 (r.si : Int), .int .i64 r.sb, .int .u32 (r.di : Int), .int .i64 r.db, .int .u32 (r.ex : Int), .int .u16 r.fr, .int .u16 r.to, .int .u32 (r.ii : Int), .int .u16 r.ip] 42)
      clear T0 B1
      obtain ⟨u1, hu1⟩ : ∃ x, x = w.alloc (.cells #[.int .i64 r.k, .int .u8 r.pr, .int .u32 (r.si : Int), .int .i64 r.sb, .int .u32 (r.di : Int), .int .i64 r.db, .int .u32 (r.ex : Int), .int .u16 r.fr, .int .u16 r.to, .int .u32 (r.ii : Int), .int .u16 r.ip] 42) := ⟨_, rfl⟩
      rw [← hu1] at T_2 R_3 B4 ⊢
      clear hu1
      obtain ⟨_, r1_0, r1_1, r1_2, r1_3, r1_4, r1_5, r1_6, r1_7, r1_8, r1_9, r1_10⟩ := id R_3
      go_wp2_with fail
      refine (c1 _ T_2).mono ?_; rintro e w2 ⟨rfl, x2⟩
      have T_5 := T_2.on x2
      have R_6 := R_3.on x2
      have B7 := B4.trans (x2.mono B4.size)
      clear r1_0 r1_1 r1_2 r1_3 r1_4 r1_5 r1_6 r1_7 r1_8 r1_9 r1_10 T_2 R_3 B4 x2
      obtain ⟨_, r2_0, r2_1, r2_2, r2_3, r2_4, r2_5, r2_6, r2_7, r2_8, r2_9, r2_10⟩ := id R_6
      go_wp2
      go_ret
      rw [HV.out]
      exact ⟨rfl, B7⟩
  · rcases hz with rfl | ⟨rfl, rfl⟩ | ⟨rfl, rfl, rfl⟩ | ⟨rfl, rfl, rfl, rfl⟩
    all_goals
      simp only [Bool.not_true, Bool.not_false, Bool.and_true, Bool.and_false, Bool.true_and, Bool.false_and, Bool.or_true, Bool.or_false, Bool.true_or, Bool.false_or] at *
      go_enter Try.func40, Try.ntmps40
      have B1 := Below.refl w.heap.size w
      go_upto_region 1 with fail
      have T_2 := T0.past (o := (.cells #[.int .i64 r.k, .int .u8 r.pr, .int .u32 (r.si : Int), .int .i64 r.sb, .int .u32 (r.di : Int), .int .i64 r.db, .int .u32 (r.ex : Int), .int .u16 r.fr, .int .u16 r.to, .int .u32 (r.ii : Int), .int .u16 r.ip] 42))
      have R_3 := Box11.make w (.int .i64 r.k) (.int .u8 r.pr) (.int .u32 (r.si : Int)) (.int .i64 r.sb) (.int .u32 (r.di : Int)) (.int .i64 r.db) (.int .u32 (r.ex : Int)) (.int .u16 r.fr) (.int .u16 r.to) (.int .u32 (r.ii : Int)) (.int .u16 r.ip) 42
      have B4 := B1.alloc B1.size (.cells #[.int .i64 r.k, .int .u8 r.pr, .int .u32 (r.si : Int), .int .i64 r.sb, .int .u32 (r.di : Int), .int .i64 r.db, .int .u32 (r.ex : Int), .int .u16 r.fr, .int .u16 r.to, .int .u32 (r.ii : Int), .int .u16 r.ip] 42)
      clear T0 B1
      obtain ⟨u1, hu1⟩ : ∃ x, x = w.alloc (.cells #[.int .i64 r.k, .int .u8 r.pr, .int .u32 (r.si : Int), .int .i64 r.sb, .int .u32 (r.di : Int), .int .i64 r.db, .int .u32 (r.ex : Int), .int .u16 r.fr, .int .u16 r.to, .int .u32 (r.ii : Int), .int .u16 r.ip] 42) := ⟨_, rfl⟩
      rw [← hu1] at T_2 R_3 B4 ⊢
      clear hu1
      obtain ⟨_, r1_0, r1_1, r1_2, r1_3, r1_4, r1_5, r1_6, r1_7, r1_8, r1_9, r1_10⟩ := id R_3
      go_wp2_with fail
      refine (c1 _ T_2).mono ?_; rintro e w2 ⟨rfl, x2⟩
      have T_5 := T_2.on x2
      have R_6 := R_3.on x2
      have B7 := B4.trans (x2.mono B4.size)
      clear r1_0 r1_1 r1_2 r1_3 r1_4 r1_5 r1_6 r1_7 r1_8 r1_9 r1_10 T_2 R_3 B4 x2
      obtain ⟨_, r2_0, r2_1, r2_2, r2_3, r2_4, r2_5, r2_6, r2_7, r2_8, r2_9, r2_10⟩ := id R_6
      go_wp2_with fail
      refine (m1 _).mono ?_; rintro e w3 ⟨rfl, x3⟩
      have T_8 := T_5.on x3
      have R_9 := R_6.on x3
      have B10 := B7.trans (x3.mono B7.size)
      clear r2_0 r2_1 r2_2 r2_3 r2_4 r2_5 r2_6 r2_7 r2_8 r2_9 r2_10 T_5 R_6 B7 x3
      obtain ⟨_, r3_0, r3_1, r3_2, r3_3, r3_4, r3_5, r3_6, r3_7, r3_8, r3_9, r3_10⟩ := id R_9
      go_wp2
      go_ret
      rw [HV.out]
      exact ⟨rfl, B10⟩
  · rcases hz with rfl | ⟨rfl, rfl⟩ | ⟨rfl, rfl, rfl⟩ | ⟨rfl, rfl, rfl, rfl⟩
    all_goals
      simp only [Bool.not_true, Bool.not_false, Bool.and_true, Bool.and_false, Bool.true_and, Bool.false_and, Bool.or_true, Bool.or_false, Bool.true_or, Bool.false_or] at *
      go_enter Try.func40, Try.ntmps40
      have B1 := Below.refl w.heap.size w
      go_upto_region 1 with fail
      have T_2 := T0.past (o := (.cells #[.int .i64 r.k, .int .u8 r.pr, .int .u32 (r.si : Int), .int .i64 r.sb, .int .u32 (r.di : Int), .int .i64 r.db, .int .u32 (r.ex : Int), .int .u16 r.fr, .int .u16 r.to, .int .u32 (r.ii : Int), .int .u16 r.ip] 42))
      have R_3 := Box11.make w (.int .i64 r.k) (.int .u8 r.pr) (.int .u32 (r.si : Int)) (.int .i64 r.sb) (.int .u32 (r.di : Int)) (.int .i64 r.db) (.int .u32 (r.ex : Int)) (.int .u16 r.fr) (.int .u16 r.to) (.int .u32 (r.ii : Int)) (.int .u16 r.ip) 42
      have B4 := B1.alloc B1.size (.cells #[.int .i64 r.k, .int .u8 r.pr, .int .u32 (r.si : Int), .int .i64 r.sb, .int .u32 (r.di : Int), .int .i64 r.db, .int .u32 (r.ex : Int), .int .u16 r.fr, .int .u16 r.to, .int .u32 (r.ii : Int), .int .u16 r.ip] 42)
      clear T0 B1
      obtain ⟨u1, hu1⟩ : ∃ x, x = w.alloc (.cells #[.int .i64 r.k, .int .u8 r.pr, .int .u32 (r.si : Int), .int .i64 r.sb, .int .u32 (r.di : Int), .int .i64 r.db, .int .u32 (r.ex : Int), .int .u16 r.fr, .int .u16 r.to, .int .u32 (r.ii : Int), .int .u16 r.ip] 42) := ⟨_, rfl⟩
      rw [← hu1] at T_2 R_3 B4 ⊢
      clear hu1
      obtain ⟨_, r1_0, r1_1, r1_2, r1_3, r1_4, r1_5, r1_6, r1_7, r1_8, r1_9, r1_10⟩ := id R_3
      go_wp2_with fail
      refine (c1 _ T_2).mono ?_; rintro e w2 ⟨rfl, x2⟩
      have T_5 := T_2.on x2
      have R_6 := R_3.on x2
      have B7 := B4.trans (x2.mono B4.size)
      clear r1_0 r1_1 r1_2 r1_3 r1_4 r1_5 r1_6 r1_7 r1_8 r1_9 r1_10 T_2 R_3 B4 x2
      obtain ⟨_, r2_0, r2_1, r2_2, r2_3, r2_4, r2_5, r2_6, r2_7, r2_8, r2_9, r2_10⟩ := id R_6
      go_wp2_with fail
      refine (m1 _).mono ?_; rintro e w3 ⟨rfl, x3⟩
      have T_8 := T_5.on x3
      have R_9 := R_6.on x3
      have B10 := B7.trans (x3.mono B7.size)
      clear r2_0 r2_1 r2_2 r2_3 r2_4 r2_5 r2_6 r2_7 r2_8 r2_9 r2_10 T_5 R_6 B7 x3
      obtain ⟨_, r3_0, r3_1, r3_2, r3_3, r3_4, r3_5, r3_6, r3_7, r3_8, r3_9, r3_10⟩ := id R_9
      go_wp2_with fail
      refine (m2 _).mono ?_; rintro e w4 ⟨rfl, x4⟩
      have T_11 := T_8.on x4
      have R_12 := R_9.on x4
      have B13 := B10.trans (x4.mono B10.size)
      clear r3_0 r3_1 r3_2 r3_3 r3_4 r3_5 r3_6 r3_7 r3_8 r3_9 r3_10 T_8 R_9 B10 x4
      obtain ⟨_, r4_0, r4_1, r4_2, r4_3, r4_4, r4_5, r4_6, r4_7, r4_8, r4_9, r4_10⟩ := id R_12
      go_wp2
      go_ret
      rw [HV.out]
      exact ⟨rfl, B13⟩
  · rcases hz with rfl | ⟨rfl, rfl⟩ | ⟨rfl, rfl, rfl⟩ | ⟨rfl, rfl, rfl, rfl⟩
    all_goals
      simp only [Bool.not_true, Bool.not_false, Bool.and_true, Bool.and_false, Bool.true_and, Bool.false_and, Bool.or_true, Bool.or_false, Bool.true_or, Bool.false_or] at *
      go_enter Try.func40, Try.ntmps40
      have B1 := Below.refl w.heap.size w
      go_upto_region 1 with fail
      have T_2 := T0.past (o := (.cells #[.int .i64 r.k, .int .u8 r.pr, .int .u32 (r.si : Int), .int .i64 r.sb, .int .u32 (r.di : Int), .int .i64 r.db, .int .u32 (r.ex : Int), .int .u16 r.fr, .int .u16 r.to, .int .u32 (r.ii : Int), .int .u16 r.ip] 42))
      have R_3 := Box11.make w (.int .i64 r.k) (.int .u8 r.pr) (.int .u32 (r.si : Int)) (.int .i64 r.sb) (.int .u32 (r.di : Int)) (.int .i64 r.db) (.int .u32 (r.ex : Int)) (.int .u16 r.fr) (.int .u16 r.to) (.int .u32 (r.ii : Int)) (.int .u16 r.ip) 42
      have B4 := B1.alloc B1.size (.cells #[.int .i64 r.k, .int .u8 r.pr, .int .u32 (r.si : Int), .int .i64 r.sb, .int .u32 (r.di : Int), .int .i64 r.db, .int .u32 (r.ex : Int), .int .u16 r.fr, .int .u16 r.to, .int .u32 (r.ii : Int), .int .u16 r.ip] 42)
      clear T0 B1
      obtain ⟨u1, hu1⟩ : ∃ x, x = w.alloc (.cells #[.int .i64 r.k, .int .u8 r.pr, .int .u32 (r.si : Int), .int .i64 r.sb, .int .u32 (r.di : Int), .int .i64 r.db, .int .u32 (r.ex : Int), .int .u16 r.fr, .int .u16 r.to, .int .u32 (r.ii : Int), .int .u16 r.ip] 42) := ⟨_, rfl⟩
      rw [← hu1] at T_2 R_3 B4 ⊢
      clear hu1
      obtain ⟨_, r1_0, r1_1, r1_2, r1_3, r1_4, r1_5, r1_6, r1_7, r1_8, r1_9, r1_10⟩ := id R_3
      go_wp2_with fail
      refine (c1 _ T_2).mono ?_; rintro e w2 ⟨rfl, x2⟩
      have T_5 := T_2.on x2
      have R_6 := R_3.on x2
      have B7 := B4.trans (x2.mono B4.size)
      clear r1_0 r1_1 r1_2 r1_3 r1_4 r1_5 r1_6 r1_7 r1_8 r1_9 r1_10 T_2 R_3 B4 x2
      obtain ⟨_, r2_0, r2_1, r2_2, r2_3, r2_4, r2_5, r2_6, r2_7, r2_8, r2_9, r2_10⟩ := id R_6
      go_wp2_with fail
      refine (m1 _).mono ?_; rintro e w3 ⟨rfl, x3⟩
      have T_8 := T_5.on x3
      have R_9 := R_6.on x3
      have B10 := B7.trans (x3.mono B7.size)
      clear r2_0 r2_1 r2_2 r2_3 r2_4 r2_5 r2_6 r2_7 r2_8 r2_9 r2_10 T_5 R_6 B7 x3
      obtain ⟨_, r3_0, r3_1, r3_2, r3_3, r3_4, r3_5, r3_6, r3_7, r3_8, r3_9, r3_10⟩ := id R_9
      go_wp2_with fail
      refine (m2 _).mono ?_; rintro e w4 ⟨rfl, x4⟩
      have T_11 := T_8.on x4
      have R_12 := R_9.on x4
      have B13 := B10.trans (x4.mono B10.size)
      clear r3_0 r3_1 r3_2 r3_3 r3_4 r3_5 r3_6 r3_7 r3_8 r3_9 r3_10 T_8 R_9 B10 x4
      obtain ⟨_, r4_0, r4_1, r4_2, r4_3, r4_4, r4_5, r4_6, r4_7, r4_8, r4_9, r4_10⟩ := id R_12
      go_wp2
      go_ret
      rw [HV.out]
      exact ⟨rfl, B13⟩
  · rcases hz with rfl | ⟨rfl, rfl⟩ | ⟨rfl, rfl, rfl⟩ | ⟨rfl, rfl, rfl, rfl⟩
    all_goals
      simp only [Bool.not_true, Bool.not_false, Bool.and_true, Bool.and_false, Bool.true_and, Bool.false_and, Bool.or_true, Bool.or_false, Bool.true_or, Bool.false_or] at *
      go_enter Try.func40, Try.ntmps40
      have B1 := Below.refl w.heap.size w
      go_upto_region 1 with fail
      have T_2 := T0.past (o := (.cells #[.int .i64 r.k, .int .u8 r.pr, .int .u32 (r.si : Int), .int .i64 r.sb, .int .u32 (r.di : Int), .int .i64 r.db, .int .u32 (r.ex : Int), .int .u16 r.fr, .int .u16 r.to, .int .u32 (r.ii : Int), .int .u16 r.ip] 42))
      have R_3 := Box11.make w (.int .i64 r.k) (.int .u8 r.pr) (.int .u32 (r.si : Int)) (.int .i64 r.sb) (.int .u32 (r.di : Int)) (.int .i64 r.db) (.int .u32 (r.ex : Int)) (.int .u16 r.fr) (.int .u16 r.to) (.int .u32 (r.ii : Int)) (.int .u16 r.ip) 42
      have B4 := B1.alloc B1.size (.cells #[.int .i64 r.k, .int .u8 r.pr, .int .u32 (r.si : Int), .int .i64 r.sb, .int .u32 (r.di : Int), .int .i64 r.db, .int .u32 (r.ex : Int), .int .u16 r.fr, .int .u16 r.to, .int .u32 (r.ii : Int), .int .u16 r.ip] 42)
      clear T0 B1
      obtain ⟨u1, hu1⟩ : ∃ x, x = w.alloc (.cells #[.int .i64 r.k, .int .u8 r.pr, .int .u32 (r.si : Int), .int .i64 r.sb, .int .u32 (r.di : Int), .int .i64 r.db, .int .u32 (r.ex : Int), .int .u16 r.fr, .int .u16 r.to, .int .u32 (r.ii : Int), .int .u16 r.ip] 42) := ⟨_, rfl⟩
      rw [← hu1] at T_2 R_3 B4 ⊢
      clear hu1
      obtain ⟨_, r1_0, r1_1, r1_2, r1_3, r1_4, r1_5, r1_6, r1_7, r1_8, r1_9, r1_10⟩ := id R_3
      go_wp2_with fail
      refine (c1 _ T_2).mono ?_; rintro e w2 ⟨rfl, x2⟩
      have T_5 := T_2.on x2
      have R_6 := R_3.on x2
      have B7 := B4.trans (x2.mono B4.size)
      clear r1_0 r1_1 r1_2 r1_3 r1_4 r1_5 r1_6 r1_7 r1_8 r1_9 r1_10 T_2 R_3 B4 x2
      obtain ⟨_, r2_0, r2_1, r2_2, r2_3, r2_4, r2_5, r2_6, r2_7, r2_8, r2_9, r2_10⟩ := id R_6
      go_wp2_with fail
      refine (m1 _).mono ?_; rintro e w3 ⟨rfl, x3⟩
      have T_8 := T_5.on x3
      have R_9 := R_6.on x3
      have B10 := B7.trans (x3.mono B7.size)
      clear r2_0 r2_1 r2_2 r2_3 r2_4 r2_5 r2_6 r2_7 r2_8 r2_9 r2_10 T_5 R_6 B7 x3
      obtain ⟨_, r3_0, r3_1, r3_2, r3_3, r3_4, r3_5, r3_6, r3_7, r3_8, r3_9, r3_10⟩ := id R_9
      go_wp2_with fail
      refine (m2 _).mono ?_; rintro e w4 ⟨rfl, x4⟩
      have T_11 := T_8.on x4
      have R_12 := R_9.on x4
      have B13 := B10.trans (x4.mono B10.size)
      clear r3_0 r3_1 r3_2 r3_3 r3_4 r3_5 r3_6 r3_7 r3_8 r3_9 r3_10 T_8 R_9 B10 x4
      obtain ⟨_, r4_0, r4_1, r4_2, r4_3, r4_4, r4_5, r4_6, r4_7, r4_8, r4_9, r4_10⟩ := id R_12
      go_wp2
      go_ret
      rw [HV.out]
      exact ⟨rfl, B13⟩
  · rcases hz with rfl | ⟨rfl, rfl⟩ | ⟨rfl, rfl, rfl⟩ | ⟨rfl, rfl, rfl, rfl⟩
    all_goals
      simp only [Bool.not_true, Bool.not_false, Bool.and_true, Bool.and_false, Bool.true_and, Bool.false_and, Bool.or_true, Bool.or_false, Bool.true_or, Bool.false_or] at *
      go_enter Try.func40, Try.ntmps40
      have B1 := Below.refl w.heap.size w
      go_upto_region 1 with fail
      have T_2 := T0.past (o := (.cells #[.int .i64 r.k, .int .u8 r.pr, .int .u32 (r.si : Int), .int .i64 r.sb, .int .u32 (r.di : Int), .int .i64 r.db, .int .u32 (r.ex : Int), .int .u16 r.fr, .int .u16 r.to, .int .u32 (r.ii : Int), .int .u16 r.ip] 42))
      have R_3 := Box11.make w (.int .i64 r.k) (.int .u8 r.pr) (.int .u32 (r.si : Int)) (.int .i64 r.sb) (.int .u32 (r.di : Int)) (.int .i64 r.db) (.int .u32 (r.ex : Int)) (.int .u16 r.fr) (.int .u16 r.to) (.int .u32 (r.ii : Int)) (.int .u16 r.ip) 42
      have B4 := B1.alloc B1.size (.cells #[.int .i64 r.k, .int .u8 r.pr, .int .u32 (r.si : Int), .int .i64 r.sb, .int .u32 (r.di : Int), .int .i64 r.db, .int .u32 (r.ex : Int), .int .u16 r.fr, .int .u16 r.to, .int .u32 (r.ii : Int), .int .u16 r.ip] 42)
      clear T0 B1
      obtain ⟨u1, hu1⟩ : ∃ x, x = w.alloc (.cells #[.int .i64 r.k, .int .u8 r.pr, .int .u32 (r.si : Int), .int .i64 r.sb, .int .u32 (r.di : Int), .int .i64 r.db, .int .u32 (r.ex : Int), .int .u16 r.fr, .int .u16 r.to, .int .u32 (r.ii : Int), .int .u16 r.ip] 42) := ⟨_, rfl⟩
      rw [← hu1] at T_2 R_3 B4 ⊢
      clear hu1
      obtain ⟨_, r1_0, r1_1, r1_2, r1_3, r1_4, r1_5, r1_6, r1_7, r1_8, r1_9, r1_10⟩ := id R_3
      go_wp2_with fail
      refine (c1 _ T_2).mono ?_; rintro e w2 ⟨rfl, x2⟩
      have T_5 := T_2.on x2
      have R_6 := R_3.on x2
      have B7 := B4.trans (x2.mono B4.size)
      clear r1_0 r1_1 r1_2 r1_3 r1_4 r1_5 r1_6 r1_7 r1_8 r1_9 r1_10 T_2 R_3 B4 x2
      obtain ⟨_, r2_0, r2_1, r2_2, r2_3, r2_4, r2_5, r2_6, r2_7, r2_8, r2_9, r2_10⟩ := id R_6
      go_wp2_with fail
      refine (m1 _).mono ?_; rintro e w3 ⟨rfl, x3⟩
      have T_8 := T_5.on x3
      have R_9 := R_6.on x3
      have B10 := B7.trans (x3.mono B7.size)
      clear r2_0 r2_1 r2_2 r2_3 r2_4 r2_5 r2_6 r2_7 r2_8 r2_9 r2_10 T_5 R_6 B7 x3
      obtain ⟨_, r3_0, r3_1, r3_2, r3_3, r3_4, r3_5, r3_6, r3_7, r3_8, r3_9, r3_10⟩ := id R_9
      go_wp2_with fail
      refine (m2 _).mono ?_; rintro e w4 ⟨rfl, x4⟩
      have T_11 := T_8.on x4
      have R_12 := R_9.on x4
      have B13 := B10.trans (x4.mono B10.size)
      clear r3_0 r3_1 r3_2 r3_3 r3_4 r3_5 r3_6 r3_7 r3_8 r3_9 r3_10 T_8 R_9 B10 x4
      obtain ⟨_, r4_0, r4_1, r4_2, r4_3, r4_4, r4_5, r4_6, r4_7, r4_8, r4_9, r4_10⟩ := id R_12
      go_wp2
      go_ret
      rw [HV.out]
      exact ⟨rfl, B13⟩
  · rcases hz with rfl | ⟨rfl, rfl⟩ | ⟨rfl, rfl, rfl⟩ | ⟨rfl, rfl, rfl, rfl⟩
    all_goals
      simp only [Bool.not_true, Bool.not_false, Bool.and_true, Bool.and_false, Bool.true_and, Bool.false_and, Bool.or_true, Bool.or_false, Bool.true_or, Bool.false_or] at *
      go_enter Try.func40, Try.ntmps40
      have B1 := Below.refl w.heap.size w
      go_upto_region 1 with fail
      have T_2 := T0.past (o := (.cells #[.int .i64 r.k, .int .u8 r.pr, .int .u32 (r.si : Int), .int .i64 r.sb, .int .u32 (r.di : Int), .int .i64 r.db, .int .u32 (r.ex : Int), .int .u16 r.fr, .int .u16 r.to, .int .u32 (r.ii : Int), .int .u16 r.ip] 42))
      have R_3 := Box11.make w (.int .i64 r.k) (.int .u8 r.pr) (.int .u32 (r.si : Int)) (.int .i64 r.sb) (.int .u32 (r.di : Int)) (.int .i64 r.db) (.int .u32 (r.ex : Int)) (.int .u16 r.fr) (.int .u16 r.to) (.int .u32 (r.ii : Int)) (.int .u16 r.ip) 42
      have B4 := B1.alloc B1.size (.cells #[.int .i64 r.k, .int .u8 r.pr, .int .u32 (r.si : Int), .int .i64 r.sb, .int .u32 (r.di : Int), .int .i64 r.db, .int .u32 (r.ex : Int), .int .u16 r.fr, .int .u16 r.to, .int .u32 (r.ii : Int), .int .u16 r.ip] 42)
      clear T0 B1
      obtain ⟨u1, hu1⟩ : ∃ x, x = w.alloc (.cells #[.int .i64 r.k, .int .u8 r.pr, .int .u32 (r.si : Int), .int .i64 r.sb, .int .u32 (r.di : Int), .int .i64 r.db, .int .u32 (r.ex : Int), .int .u16 r.fr, .int .u16 r.to, .int .u32 (r.ii : Int), .int .u16 r.ip] 42) := ⟨_, rfl⟩
      rw [← hu1] at T_2 R_3 B4 ⊢
      clear hu1
      obtain ⟨_, r1_0, r1_1, r1_2, r1_3, r1_4, r1_5, r1_6, r1_7, r1_8, r1_9, r1_10⟩ := id R_3
      go_wp2_with fail
      refine (c1 _ T_2).mono ?_; rintro e w2 ⟨rfl, x2⟩
      have T_5 := T_2.on x2
      have R_6 := R_3.on x2
      have B7 := B4.trans (x2.mono B4.size)
      clear r1_0 r1_1 r1_2 r1_3 r1_4 r1_5 r1_6 r1_7 r1_8 r1_9 r1_10 T_2 R_3 B4 x2
      obtain ⟨_, r2_0, r2_1, r2_2, r2_3, r2_4, r2_5, r2_6, r2_7, r2_8, r2_9, r2_10⟩ := id R_6
      go_wp2_with fail
      refine (m1 _).mono ?_; rintro e w3 ⟨rfl, x3⟩
      have T_8 := T_5.on x3
      have R_9 := R_6.on x3
      have B10 := B7.trans (x3.mono B7.size)
      clear r2_0 r2_1 r2_2 r2_3 r2_4 r2_5 r2_6 r2_7 r2_8 r2_9 r2_10 T_5 R_6 B7 x3
      obtain ⟨_, r3_0, r3_1, r3_2, r3_3, r3_4, r3_5, r3_6, r3_7, r3_8, r3_9, r3_10⟩ := id R_9
      go_wp2_with fail
      refine (m2 _).mono ?_; rintro e w4 ⟨rfl, x4⟩
      have T_11 := T_8.on x4
      have R_12 := R_9.on x4
      have B13 := B10.trans (x4.mono B10.size)
      clear r3_0 r3_1 r3_2 r3_3 r3_4 r3_5 r3_6 r3_7 r3_8 r3_9 r3_10 T_8 R_9 B10 x4
      obtain ⟨_, r4_0, r4_1, r4_2, r4_3, r4_4, r4_5, r4_6, r4_7, r4_8, r4_9, r4_10⟩ := id R_12
      go_wp2
      go_ret
      rw [HV.out]
      exact ⟨rfl, B13⟩
  · rcases hz with rfl | ⟨rfl, rfl⟩ | ⟨rfl, rfl, rfl⟩ | ⟨rfl, rfl, rfl, rfl⟩
    all_goals
      simp only [Bool.not_true, Bool.not_false, Bool.and_true, Bool.and_false, Bool.true_and, Bool.false_and, Bool.or_true, Bool.or_false, Bool.true_or, Bool.false_or] at *
      go_enter Try.func40, Try.ntmps40
      have B1 := Below.refl w.heap.size w
      go_upto_region 1 with fail
      have T_2 := T0.past (o := (.cells #[.int .i64 r.k, .int .u8 r.pr, .int .u32 (r.si : Int), .int .i64 r.sb, .int .u32 (r.di : Int), .int .i64 r.db, .int .u32 (r.ex : Int), .int .u16 r.fr, .int .u16 r.to, .int .u32 (r.ii : Int), .int .u16 r.ip] 42))
      have R_3 := Box11.make w (.int .i64 r.k) (.int .u8 r.pr) (.int .u32 (r.si : Int)) (.int .i64 r.sb) (.int .u32 (r.di : Int)) (.int .i64 r.db) (.int .u32 (r.ex : Int)) (.int .u16 r.fr) (.int .u16 r.to) (.int .u32 (r.ii : Int)) (.int .u16 r.ip) 42
      have B4 := B1.alloc B1.size (.cells #[.int .i64 r.k, .int .u8 r.pr, .int .u32 (r.si : Int), .int .i64 r.sb, .int .u32 (r.di : Int), .int .i64 r.db, .int .u32 (r.ex : Int), .int .u16 r.fr, .int .u16 r.to, .int .u32 (r.ii : Int), .int .u16 r.ip] 42)
      clear T0 B1
      obtain ⟨u1, hu1⟩ : ∃ x, x = w.alloc (.cells #[.int .i64 r.k, .int .u8 r.pr, .int .u32 (r.si : Int), .int .i64 r.sb, .int .u32 (r.di : Int), .int .i64 r.db, .int .u32 (r.ex : Int), .int .u16 r.fr, .int .u16 r.to, .int .u32 (r.ii : Int), .int .u16 r.ip] 42) := ⟨_, rfl⟩
      rw [← hu1] at T_2 R_3 B4 ⊢
      clear hu1
      obtain ⟨_, r1_0, r1_1, r1_2, r1_3, r1_4, r1_5, r1_6, r1_7, r1_8, r1_9, r1_10⟩ := id R_3
      go_wp2_with fail
      refine (c1 _ T_2).mono ?_; rintro e w2 ⟨rfl, x2⟩
      have T_5 := T_2.on x2
      have R_6 := R_3.on x2
      have B7 := B4.trans (x2.mono B4.size)
      clear r1_0 r1_1 r1_2 r1_3 r1_4 r1_5 r1_6 r1_7 r1_8 r1_9 r1_10 T_2 R_3 B4 x2
      obtain ⟨_, r2_0, r2_1, r2_2, r2_3, r2_4, r2_5, r2_6, r2_7, r2_8, r2_9, r2_10⟩ := id R_6
      go_wp2_with fail
      refine (m1 _).mono ?_; rintro e w3 ⟨rfl, x3⟩
      have T_8 := T_5.on x3
      have R_9 := R_6.on x3
      have B10 := B7.trans (x3.mono B7.size)
      clear r2_0 r2_1 r2_2 r2_3 r2_4 r2_5 r2_6 r2_7 r2_8 r2_9 r2_10 T_5 R_6 B7 x3
      obtain ⟨_, r3_0, r3_1, r3_2, r3_3, r3_4, r3_5, r3_6, r3_7, r3_8, r3_9, r3_10⟩ := id R_9
      go_wp2_with fail
      refine (m2 _).mono ?_; rintro e w4 ⟨rfl, x4⟩
      have T_11 := T_8.on x4
      have R_12 := R_9.on x4
      have B13 := B10.trans (x4.mono B10.size)
      clear r3_0 r3_1 r3_2 r3_3 r3_4 r3_5 r3_6 r3_7 r3_8 r3_9 r3_10 T_8 R_9 B10 x4
      obtain ⟨_, r4_0, r4_1, r4_2, r4_3, r4_4, r4_5, r4_6, r4_7, r4_8, r4_9, r4_10⟩ := id R_12
      go_wp2
      go_ret
      rw [HV.out]
      exact ⟨rfl, B13⟩
set_option maxHeartbeats 4000000 in
set_option maxRecDepth 100000 in
theorem rmayR_2 (t : Tm) (r : Ru) (p : Nat) (S : Value) (w : World) (T0 : Box4 w p (.int .u32 (t.own : Int)) (.int .u32 (t.ip : Int)) (.int .i64 t.bits) S) (h1 : t.ip < 4294967296) (h2 : -9223372036854775808 ≤ t.bits ∧ t.bits ≤ 9223372036854775807) (hr : r.Ok) (kk : r.k = 2) :
    Calls Try.prog 40 #[.pointer (some ⟨p, 0, none⟩), .agg #[.int .i64 r.k, .int .u8 r.pr, .int .u32 (r.si : Int), .int .i64 r.sb, .int .u32 (r.di : Int), .int .i64 r.db, .int .u32 (r.ex : Int), .int .u16 r.fr, .int .u16 r.to, .int .u32 (r.ii : Int), .int .u16 r.ip]] w fun e w' => e = .returned (.bool (mayRu t r)) ∧ Below w.heap.size w w' := by
  have m1 := fun u => rmay_ r.si r.sb u hr.si1 ⟨hr.sb0, hr.sb1⟩
  have m2 := fun u => rmay_ r.di r.db u hr.di1 ⟨hr.db0, hr.db1⟩
  obtain ⟨x0, p0, q0, l0⟩ := eqi_ r.pr 0
  obtain ⟨x1, p1, q1, l1⟩ := eqi_ r.pr 1
  obtain ⟨x6, p6, q6, l6⟩ := eqi_ r.pr 6
  obtain ⟨x17, p17, q17, l17⟩ := eqi_ r.pr 17
  obtain ⟨xi, pi, ni, ui, vi, li⟩ := eqz_ r.ii
  obtain ⟨xp, pp, qp, lp⟩ := eqi_ r.ip 0
  obtain ⟨g1, hg1⟩ : ∃ v, decide (1 ≤ r.fr) = v := ⟨_, rfl⟩
  obtain ⟨g2, hg2⟩ : ∃ v, decide (r.fr ≤ r.to) = v := ⟨_, rfl⟩
  obtain ⟨a1, ha1⟩ : ∃ v, mayV r.si r.sb = v := ⟨_, rfl⟩
  obtain ⟨a2, ha2⟩ : ∃ v, mayV r.di r.db = v := ⟨_, rfl⟩
  rw [ha1] at m1
  rw [ha2] at m2
  obtain ⟨v0, pv, nv, uv, vv, lv⟩ := eqz_ r.ex
  obtain ⟨v, hv⟩ : ∃ v, v = !v0 := ⟨_, rfl⟩
  have hv0 : v0 = !v := by rw [hv]; simp
  subst hv0
  clear hv
  rw [Bool.not_not] at nv vv
  have HV : Hid (mayRu t r = ((x0 || x1 || x6 || x17) && !v && a1 && a2 && g1 && g2 && (xi && xp))) := by show _ = _; unfold mayRu; rw [if_neg (by omega), if_pos (.inr kk), if_neg (by omega), l0, l1, l6, l17, lv, ha1, ha2, hg1, hg2, li, lp]
  have e4 : (r.k == 1) = false := by rw [kk]; rfl
  have e5 : (r.k == 2) = true := by rw [kk]; rfl
  have e6 : (r.k != 1) = true := by rw [kk]; rfl
  have e7 : (r.k != 2) = false := by rw [kk]; rfl
  clear lv
  have e1 : (r.k == 3) = false := by rw [kk]; rfl
  clear kk l0 l1 l6 l17 li lp ha1 ha2 h1 h2 hr
  have key : (x0 = false ∧ x1 = false ∧ x6 = false ∧ x17 = false) ∨ ((x0 = true ∨ (x0 = false ∧ x1 = true) ∨ (x0 = false ∧ x1 = false ∧ x6 = true) ∨ (x0 = false ∧ x1 = false ∧ x6 = false ∧ x17 = true)) ∧ (v = true ∨ (v = false ∧ a1 = false) ∨ (v = false ∧ a1 = true ∧ a2 = false) ∨ (v = false ∧ a1 = true ∧ a2 = true ∧ g1 = false) ∨ (v = false ∧ a1 = true ∧ a2 = true ∧ g1 = true ∧ g2 = false) ∨ (v = false ∧ a1 = true ∧ a2 = true ∧ g1 = true ∧ g2 = true ∧ xi = false) ∨ (v = false ∧ a1 = true ∧ a2 = true ∧ g1 = true ∧ g2 = true ∧ xi = true ∧ xp = false) ∨ (v = false ∧ a1 = true ∧ a2 = true ∧ g1 = true ∧ g2 = true ∧ xi = true ∧ xp = true))) := by
    cases x0 <;> cases x1 <;> cases x6 <;> cases x17 <;> simp <;> cases v <;> cases a1 <;> cases a2 <;> simp <;> cases g1 <;> cases g2 <;> cases xi <;> cases xp <;> simp
  rcases key with ⟨rfl, rfl, rfl, rfl⟩ | ⟨hz, key⟩
  · simp only [Bool.not_true, Bool.not_false, Bool.and_true, Bool.and_false, Bool.true_and, Bool.false_and, Bool.or_true, Bool.or_false, Bool.true_or, Bool.false_or] at *
    go_enter Try.func40, Try.ntmps40
    have B1 := Below.refl w.heap.size w
    go_upto_region 1 with fail
    have T_2 := T0.past (o := (.cells #[.int .i64 r.k, .int .u8 r.pr, .int .u32 (r.si : Int), .int .i64 r.sb, .int .u32 (r.di : Int), .int .i64 r.db, .int .u32 (r.ex : Int), .int .u16 r.fr, .int .u16 r.to, .int .u32 (r.ii : Int), .int .u16 r.ip] 42))
    have R_3 := Box11.make w (.int .i64 r.k) (.int .u8 r.pr) (.int .u32 (r.si : Int)) (.int .i64 r.sb) (.int .u32 (r.di : Int)) (.int .i64 r.db) (.int .u32 (r.ex : Int)) (.int .u16 r.fr) (.int .u16 r.to) (.int .u32 (r.ii : Int)) (.int .u16 r.ip) 42
    have B4 := B1.alloc B1.size (.cells #[.int .i64 r.k, .int .u8 r.pr, .int .u32 (r.si : Int), .int .i64 r.sb, .int .u32 (r.di : Int), .int .i64 r.db, .int .u32 (r.ex : Int), .int .u16 r.fr, .int .u16 r.to, .int .u32 (r.ii : Int), .int .u16 r.ip] 42)
    clear T0 B1
    obtain ⟨u1, hu1⟩ : ∃ x, x = w.alloc (.cells #[.int .i64 r.k, .int .u8 r.pr, .int .u32 (r.si : Int), .int .i64 r.sb, .int .u32 (r.di : Int), .int .i64 r.db, .int .u32 (r.ex : Int), .int .u16 r.fr, .int .u16 r.to, .int .u32 (r.ii : Int), .int .u16 r.ip] 42) := ⟨_, rfl⟩
    rw [← hu1] at T_2 R_3 B4 ⊢
    clear hu1
    obtain ⟨_, r1_0, r1_1, r1_2, r1_3, r1_4, r1_5, r1_6, r1_7, r1_8, r1_9, r1_10⟩ := id R_3
    go_wp2
    go_ret
    rw [HV.out]
    exact ⟨rfl, B4⟩
  rcases key with rfl | ⟨rfl, rfl⟩ | ⟨rfl, rfl, rfl⟩ | ⟨rfl, rfl, rfl, rfl⟩ | ⟨rfl, rfl, rfl, rfl, rfl⟩ | ⟨rfl, rfl, rfl, rfl, rfl, rfl⟩ | ⟨rfl, rfl, rfl, rfl, rfl, rfl, rfl⟩ | ⟨rfl, rfl, rfl, rfl, rfl, rfl, rfl⟩
  · rcases hz with rfl | ⟨rfl, rfl⟩ | ⟨rfl, rfl, rfl⟩ | ⟨rfl, rfl, rfl, rfl⟩
    all_goals
      simp only [Bool.not_true, Bool.not_false, Bool.and_true, Bool.and_false, Bool.true_and, Bool.false_and, Bool.or_true, Bool.or_false, Bool.true_or, Bool.false_or] at *
      go_enter Try.func40, Try.ntmps40
      have B1 := Below.refl w.heap.size w
      go_upto_region 1 with fail
      have T_2 := T0.past (o := (.cells #[.int .i64 r.k, .int .u8 r.pr, .int .u32 (r.si : Int), .int .i64 r.sb, .int .u32 (r.di : Int), .int .i64 r.db, .int .u32 (r.ex : Int), .int .u16 r.fr, .int .u16 r.to, .int .u32 (r.ii : Int), .int .u16 r.ip] 42))
      have R_3 := Box11.make w (.int .i64 r.k) (.int .u8 r.pr) (.int .u32 (r.si : Int)) (.int .i64 r.sb) (.int .u32 (r.di : Int)) (.int .i64 r.db) (.int .u32 (r.ex : Int)) (.int .u16 r.fr) (.int .u16 r.to) (.int .u32 (r.ii : Int)) (.int .u16 r.ip) 42
      have B4 := B1.alloc B1.size (.cells #[.int .i64 r.k, .int .u8 r.pr, .int .u32 (r.si : Int), .int .i64 r.sb, .int .u32 (r.di : Int), .int .i64 r.db, .int .u32 (r.ex : Int), .int .u16 r.fr, .int .u16 r.to, .int .u32 (r.ii : Int), .int .u16 r.ip] 42)
      clear T0 B1
      obtain ⟨u1, hu1⟩ : ∃ x, x = w.alloc (.cells #[.int .i64 r.k, .int .u8 r.pr, .int .u32 (r.si : Int), .int .i64 r.sb, .int .u32 (r.di : Int), .int .i64 r.db, .int .u32 (r.ex : Int), .int .u16 r.fr, .int .u16 r.to, .int .u32 (r.ii : Int), .int .u16 r.ip] 42) := ⟨_, rfl⟩
      rw [← hu1] at T_2 R_3 B4 ⊢
      clear hu1
      obtain ⟨_, r1_0, r1_1, r1_2, r1_3, r1_4, r1_5, r1_6, r1_7, r1_8, r1_9, r1_10⟩ := id R_3
      go_wp2
      go_ret
      rw [HV.out]
      exact ⟨rfl, B4⟩
  · rcases hz with rfl | ⟨rfl, rfl⟩ | ⟨rfl, rfl, rfl⟩ | ⟨rfl, rfl, rfl, rfl⟩
    all_goals
      simp only [Bool.not_true, Bool.not_false, Bool.and_true, Bool.and_false, Bool.true_and, Bool.false_and, Bool.or_true, Bool.or_false, Bool.true_or, Bool.false_or] at *
      go_enter Try.func40, Try.ntmps40
      have B1 := Below.refl w.heap.size w
      go_upto_region 1 with fail
      have T_2 := T0.past (o := (.cells #[.int .i64 r.k, .int .u8 r.pr, .int .u32 (r.si : Int), .int .i64 r.sb, .int .u32 (r.di : Int), .int .i64 r.db, .int .u32 (r.ex : Int), .int .u16 r.fr, .int .u16 r.to, .int .u32 (r.ii : Int), .int .u16 r.ip] 42))
      have R_3 := Box11.make w (.int .i64 r.k) (.int .u8 r.pr) (.int .u32 (r.si : Int)) (.int .i64 r.sb) (.int .u32 (r.di : Int)) (.int .i64 r.db) (.int .u32 (r.ex : Int)) (.int .u16 r.fr) (.int .u16 r.to) (.int .u32 (r.ii : Int)) (.int .u16 r.ip) 42
      have B4 := B1.alloc B1.size (.cells #[.int .i64 r.k, .int .u8 r.pr, .int .u32 (r.si : Int), .int .i64 r.sb, .int .u32 (r.di : Int), .int .i64 r.db, .int .u32 (r.ex : Int), .int .u16 r.fr, .int .u16 r.to, .int .u32 (r.ii : Int), .int .u16 r.ip] 42)
      clear T0 B1
      obtain ⟨u1, hu1⟩ : ∃ x, x = w.alloc (.cells #[.int .i64 r.k, .int .u8 r.pr, .int .u32 (r.si : Int), .int .i64 r.sb, .int .u32 (r.di : Int), .int .i64 r.db, .int .u32 (r.ex : Int), .int .u16 r.fr, .int .u16 r.to, .int .u32 (r.ii : Int), .int .u16 r.ip] 42) := ⟨_, rfl⟩
      rw [← hu1] at T_2 R_3 B4 ⊢
      clear hu1
      obtain ⟨_, r1_0, r1_1, r1_2, r1_3, r1_4, r1_5, r1_6, r1_7, r1_8, r1_9, r1_10⟩ := id R_3
      go_wp2_with fail
      refine (m1 _).mono ?_; rintro e w2 ⟨rfl, x2⟩
      have T_5 := T_2.on x2
      have R_6 := R_3.on x2
      have B7 := B4.trans (x2.mono B4.size)
      clear r1_0 r1_1 r1_2 r1_3 r1_4 r1_5 r1_6 r1_7 r1_8 r1_9 r1_10 T_2 R_3 B4 x2
      obtain ⟨_, r2_0, r2_1, r2_2, r2_3, r2_4, r2_5, r2_6, r2_7, r2_8, r2_9, r2_10⟩ := id R_6
      go_wp2
      go_ret
      rw [HV.out]
      exact ⟨rfl, B7⟩
  · rcases hz with rfl | ⟨rfl, rfl⟩ | ⟨rfl, rfl, rfl⟩ | ⟨rfl, rfl, rfl, rfl⟩
    all_goals
      simp only [Bool.not_true, Bool.not_false, Bool.and_true, Bool.and_false, Bool.true_and, Bool.false_and, Bool.or_true, Bool.or_false, Bool.true_or, Bool.false_or] at *
      go_enter Try.func40, Try.ntmps40
      have B1 := Below.refl w.heap.size w
      go_upto_region 1 with fail
      have T_2 := T0.past (o := (.cells #[.int .i64 r.k, .int .u8 r.pr, .int .u32 (r.si : Int), .int .i64 r.sb, .int .u32 (r.di : Int), .int .i64 r.db, .int .u32 (r.ex : Int), .int .u16 r.fr, .int .u16 r.to, .int .u32 (r.ii : Int), .int .u16 r.ip] 42))
      have R_3 := Box11.make w (.int .i64 r.k) (.int .u8 r.pr) (.int .u32 (r.si : Int)) (.int .i64 r.sb) (.int .u32 (r.di : Int)) (.int .i64 r.db) (.int .u32 (r.ex : Int)) (.int .u16 r.fr) (.int .u16 r.to) (.int .u32 (r.ii : Int)) (.int .u16 r.ip) 42
      have B4 := B1.alloc B1.size (.cells #[.int .i64 r.k, .int .u8 r.pr, .int .u32 (r.si : Int), .int .i64 r.sb, .int .u32 (r.di : Int), .int .i64 r.db, .int .u32 (r.ex : Int), .int .u16 r.fr, .int .u16 r.to, .int .u32 (r.ii : Int), .int .u16 r.ip] 42)
      clear T0 B1
      obtain ⟨u1, hu1⟩ : ∃ x, x = w.alloc (.cells #[.int .i64 r.k, .int .u8 r.pr, .int .u32 (r.si : Int), .int .i64 r.sb, .int .u32 (r.di : Int), .int .i64 r.db, .int .u32 (r.ex : Int), .int .u16 r.fr, .int .u16 r.to, .int .u32 (r.ii : Int), .int .u16 r.ip] 42) := ⟨_, rfl⟩
      rw [← hu1] at T_2 R_3 B4 ⊢
      clear hu1
      obtain ⟨_, r1_0, r1_1, r1_2, r1_3, r1_4, r1_5, r1_6, r1_7, r1_8, r1_9, r1_10⟩ := id R_3
      go_wp2_with fail
      refine (m1 _).mono ?_; rintro e w2 ⟨rfl, x2⟩
      have T_5 := T_2.on x2
      have R_6 := R_3.on x2
      have B7 := B4.trans (x2.mono B4.size)
      clear r1_0 r1_1 r1_2 r1_3 r1_4 r1_5 r1_6 r1_7 r1_8 r1_9 r1_10 T_2 R_3 B4 x2
      obtain ⟨_, r2_0, r2_1, r2_2, r2_3, r2_4, r2_5, r2_6, r2_7, r2_8, r2_9, r2_10⟩ := id R_6
      go_wp2_with fail
      refine (m2 _).mono ?_; rintro e w3 ⟨rfl, x3⟩
      have T_8 := T_5.on x3
      have R_9 := R_6.on x3
      have B10 := B7.trans (x3.mono B7.size)
      clear r2_0 r2_1 r2_2 r2_3 r2_4 r2_5 r2_6 r2_7 r2_8 r2_9 r2_10 T_5 R_6 B7 x3
      obtain ⟨_, r3_0, r3_1, r3_2, r3_3, r3_4, r3_5, r3_6, r3_7, r3_8, r3_9, r3_10⟩ := id R_9
      go_wp2
      go_ret
      rw [HV.out]
      exact ⟨rfl, B10⟩
  · rcases hz with rfl | ⟨rfl, rfl⟩ | ⟨rfl, rfl, rfl⟩ | ⟨rfl, rfl, rfl, rfl⟩
    all_goals
      simp only [Bool.not_true, Bool.not_false, Bool.and_true, Bool.and_false, Bool.true_and, Bool.false_and, Bool.or_true, Bool.or_false, Bool.true_or, Bool.false_or] at *
      go_enter Try.func40, Try.ntmps40
      have B1 := Below.refl w.heap.size w
      go_upto_region 1 with fail
      have T_2 := T0.past (o := (.cells #[.int .i64 r.k, .int .u8 r.pr, .int .u32 (r.si : Int), .int .i64 r.sb, .int .u32 (r.di : Int), .int .i64 r.db, .int .u32 (r.ex : Int), .int .u16 r.fr, .int .u16 r.to, .int .u32 (r.ii : Int), .int .u16 r.ip] 42))
      have R_3 := Box11.make w (.int .i64 r.k) (.int .u8 r.pr) (.int .u32 (r.si : Int)) (.int .i64 r.sb) (.int .u32 (r.di : Int)) (.int .i64 r.db) (.int .u32 (r.ex : Int)) (.int .u16 r.fr) (.int .u16 r.to) (.int .u32 (r.ii : Int)) (.int .u16 r.ip) 42
      have B4 := B1.alloc B1.size (.cells #[.int .i64 r.k, .int .u8 r.pr, .int .u32 (r.si : Int), .int .i64 r.sb, .int .u32 (r.di : Int), .int .i64 r.db, .int .u32 (r.ex : Int), .int .u16 r.fr, .int .u16 r.to, .int .u32 (r.ii : Int), .int .u16 r.ip] 42)
      clear T0 B1
      obtain ⟨u1, hu1⟩ : ∃ x, x = w.alloc (.cells #[.int .i64 r.k, .int .u8 r.pr, .int .u32 (r.si : Int), .int .i64 r.sb, .int .u32 (r.di : Int), .int .i64 r.db, .int .u32 (r.ex : Int), .int .u16 r.fr, .int .u16 r.to, .int .u32 (r.ii : Int), .int .u16 r.ip] 42) := ⟨_, rfl⟩
      rw [← hu1] at T_2 R_3 B4 ⊢
      clear hu1
      obtain ⟨_, r1_0, r1_1, r1_2, r1_3, r1_4, r1_5, r1_6, r1_7, r1_8, r1_9, r1_10⟩ := id R_3
      go_wp2_with fail
      refine (m1 _).mono ?_; rintro e w2 ⟨rfl, x2⟩
      have T_5 := T_2.on x2
      have R_6 := R_3.on x2
      have B7 := B4.trans (x2.mono B4.size)
      clear r1_0 r1_1 r1_2 r1_3 r1_4 r1_5 r1_6 r1_7 r1_8 r1_9 r1_10 T_2 R_3 B4 x2
      obtain ⟨_, r2_0, r2_1, r2_2, r2_3, r2_4, r2_5, r2_6, r2_7, r2_8, r2_9, r2_10⟩ := id R_6
      go_wp2_with fail
      refine (m2 _).mono ?_; rintro e w3 ⟨rfl, x3⟩
      have T_8 := T_5.on x3
      have R_9 := R_6.on x3
      have B10 := B7.trans (x3.mono B7.size)
      clear r2_0 r2_1 r2_2 r2_3 r2_4 r2_5 r2_6 r2_7 r2_8 r2_9 r2_10 T_5 R_6 B7 x3
      obtain ⟨_, r3_0, r3_1, r3_2, r3_3, r3_4, r3_5, r3_6, r3_7, r3_8, r3_9, r3_10⟩ := id R_9
      go_wp2
      go_ret
      rw [HV.out]
      exact ⟨rfl, B10⟩
  · rcases hz with rfl | ⟨rfl, rfl⟩ | ⟨rfl, rfl, rfl⟩ | ⟨rfl, rfl, rfl, rfl⟩
    all_goals
      simp only [Bool.not_true, Bool.not_false, Bool.and_true, Bool.and_false, Bool.true_and, Bool.false_and, Bool.or_true, Bool.or_false, Bool.true_or, Bool.false_or] at *
      go_enter Try.func40, Try.ntmps40
      have B1 := Below.refl w.heap.size w
      go_upto_region 1 with fail
      have T_2 := T0.past (o := (.cells #[.int .i64 r.k, .int .u8 r.pr, .int .u32 (r.si : Int), .int .i64 r.sb, .int .u32 (r.di : Int), .int .i64 r.db, .int .u32 (r.ex : Int), .int .u16 r.fr, .int .u16 r.to, .int .u32 (r.ii : Int), .int .u16 r.ip] 42))
      have R_3 := Box11.make w (.int .i64 r.k) (.int .u8 r.pr) (.int .u32 (r.si : Int)) (.int .i64 r.sb) (.int .u32 (r.di : Int)) (.int .i64 r.db) (.int .u32 (r.ex : Int)) (.int .u16 r.fr) (.int .u16 r.to) (.int .u32 (r.ii : Int)) (.int .u16 r.ip) 42
      have B4 := B1.alloc B1.size (.cells #[.int .i64 r.k, .int .u8 r.pr, .int .u32 (r.si : Int), .int .i64 r.sb, .int .u32 (r.di : Int), .int .i64 r.db, .int .u32 (r.ex : Int), .int .u16 r.fr, .int .u16 r.to, .int .u32 (r.ii : Int), .int .u16 r.ip] 42)
      clear T0 B1
      obtain ⟨u1, hu1⟩ : ∃ x, x = w.alloc (.cells #[.int .i64 r.k, .int .u8 r.pr, .int .u32 (r.si : Int), .int .i64 r.sb, .int .u32 (r.di : Int), .int .i64 r.db, .int .u32 (r.ex : Int), .int .u16 r.fr, .int .u16 r.to, .int .u32 (r.ii : Int), .int .u16 r.ip] 42) := ⟨_, rfl⟩
      rw [← hu1] at T_2 R_3 B4 ⊢
      clear hu1
      obtain ⟨_, r1_0, r1_1, r1_2, r1_3, r1_4, r1_5, r1_6, r1_7, r1_8, r1_9, r1_10⟩ := id R_3
      go_wp2_with fail
      refine (m1 _).mono ?_; rintro e w2 ⟨rfl, x2⟩
      have T_5 := T_2.on x2
      have R_6 := R_3.on x2
      have B7 := B4.trans (x2.mono B4.size)
      clear r1_0 r1_1 r1_2 r1_3 r1_4 r1_5 r1_6 r1_7 r1_8 r1_9 r1_10 T_2 R_3 B4 x2
      obtain ⟨_, r2_0, r2_1, r2_2, r2_3, r2_4, r2_5, r2_6, r2_7, r2_8, r2_9, r2_10⟩ := id R_6
      go_wp2_with fail
      refine (m2 _).mono ?_; rintro e w3 ⟨rfl, x3⟩
      have T_8 := T_5.on x3
      have R_9 := R_6.on x3
      have B10 := B7.trans (x3.mono B7.size)
      clear r2_0 r2_1 r2_2 r2_3 r2_4 r2_5 r2_6 r2_7 r2_8 r2_9 r2_10 T_5 R_6 B7 x3
      obtain ⟨_, r3_0, r3_1, r3_2, r3_3, r3_4, r3_5, r3_6, r3_7, r3_8, r3_9, r3_10⟩ := id R_9
      go_wp2
      go_ret
      rw [HV.out]
      exact ⟨rfl, B10⟩
  · rcases hz with rfl | ⟨rfl, rfl⟩ | ⟨rfl, rfl, rfl⟩ | ⟨rfl, rfl, rfl, rfl⟩
    all_goals
      simp only [Bool.not_true, Bool.not_false, Bool.and_true, Bool.and_false, Bool.true_and, Bool.false_and, Bool.or_true, Bool.or_false, Bool.true_or, Bool.false_or] at *
      go_enter Try.func40, Try.ntmps40
      have B1 := Below.refl w.heap.size w
      go_upto_region 1 with fail
      have T_2 := T0.past (o := (.cells #[.int .i64 r.k, .int .u8 r.pr, .int .u32 (r.si : Int), .int .i64 r.sb, .int .u32 (r.di : Int), .int .i64 r.db, .int .u32 (r.ex : Int), .int .u16 r.fr, .int .u16 r.to, .int .u32 (r.ii : Int), .int .u16 r.ip] 42))
      have R_3 := Box11.make w (.int .i64 r.k) (.int .u8 r.pr) (.int .u32 (r.si : Int)) (.int .i64 r.sb) (.int .u32 (r.di : Int)) (.int .i64 r.db) (.int .u32 (r.ex : Int)) (.int .u16 r.fr) (.int .u16 r.to) (.int .u32 (r.ii : Int)) (.int .u16 r.ip) 42
      have B4 := B1.alloc B1.size (.cells #[.int .i64 r.k, .int .u8 r.pr, .int .u32 (r.si : Int), .int .i64 r.sb, .int .u32 (r.di : Int), .int .i64 r.db, .int .u32 (r.ex : Int), .int .u16 r.fr, .int .u16 r.to, .int .u32 (r.ii : Int), .int .u16 r.ip] 42)
      clear T0 B1
      obtain ⟨u1, hu1⟩ : ∃ x, x = w.alloc (.cells #[.int .i64 r.k, .int .u8 r.pr, .int .u32 (r.si : Int), .int .i64 r.sb, .int .u32 (r.di : Int), .int .i64 r.db, .int .u32 (r.ex : Int), .int .u16 r.fr, .int .u16 r.to, .int .u32 (r.ii : Int), .int .u16 r.ip] 42) := ⟨_, rfl⟩
      rw [← hu1] at T_2 R_3 B4 ⊢
      clear hu1
      obtain ⟨_, r1_0, r1_1, r1_2, r1_3, r1_4, r1_5, r1_6, r1_7, r1_8, r1_9, r1_10⟩ := id R_3
      go_wp2_with fail
      refine (m1 _).mono ?_; rintro e w2 ⟨rfl, x2⟩
      have T_5 := T_2.on x2
      have R_6 := R_3.on x2
      have B7 := B4.trans (x2.mono B4.size)
      clear r1_0 r1_1 r1_2 r1_3 r1_4 r1_5 r1_6 r1_7 r1_8 r1_9 r1_10 T_2 R_3 B4 x2
      obtain ⟨_, r2_0, r2_1, r2_2, r2_3, r2_4, r2_5, r2_6, r2_7, r2_8, r2_9, r2_10⟩ := id R_6
      go_wp2_with fail
      refine (m2 _).mono ?_; rintro e w3 ⟨rfl, x3⟩
      have T_8 := T_5.on x3
      have R_9 := R_6.on x3
      have B10 := B7.trans (x3.mono B7.size)
      clear r2_0 r2_1 r2_2 r2_3 r2_4 r2_5 r2_6 r2_7 r2_8 r2_9 r2_10 T_5 R_6 B7 x3
      obtain ⟨_, r3_0, r3_1, r3_2, r3_3, r3_4, r3_5, r3_6, r3_7, r3_8, r3_9, r3_10⟩ := id R_9
      go_wp2
      go_ret
      rw [HV.out]
      exact ⟨rfl, B10⟩
  · rcases hz with rfl | ⟨rfl, rfl⟩ | ⟨rfl, rfl, rfl⟩ | ⟨rfl, rfl, rfl, rfl⟩
    all_goals
      simp only [Bool.not_true, Bool.not_false, Bool.and_true, Bool.and_false, Bool.true_and, Bool.false_and, Bool.or_true, Bool.or_false, Bool.true_or, Bool.false_or] at *
      go_enter Try.func40, Try.ntmps40
      have B1 := Below.refl w.heap.size w
      go_upto_region 1 with fail
      have T_2 := T0.past (o := (.cells #[.int .i64 r.k, .int .u8 r.pr, .int .u32 (r.si : Int), .int .i64 r.sb, .int .u32 (r.di : Int), .int .i64 r.db, .int .u32 (r.ex : Int), .int .u16 r.fr, .int .u16 r.to, .int .u32 (r.ii : Int), .int .u16 r.ip] 42))
      have R_3 := Box11.make w (.int .i64 r.k) (.int .u8 r.pr) (.int .u32 (r.si : Int)) (.int .i64 r.sb) (.int .u32 (r.di : Int)) (.int .i64 r.db) (.int .u32 (r.ex : Int)) (.int .u16 r.fr) (.int .u16 r.to) (.int .u32 (r.ii : Int)) (.int .u16 r.ip) 42
      have B4 := B1.alloc B1.size (.cells #[.int .i64 r.k, .int .u8 r.pr, .int .u32 (r.si : Int), .int .i64 r.sb, .int .u32 (r.di : Int), .int .i64 r.db, .int .u32 (r.ex : Int), .int .u16 r.fr, .int .u16 r.to, .int .u32 (r.ii : Int), .int .u16 r.ip] 42)
      clear T0 B1
      obtain ⟨u1, hu1⟩ : ∃ x, x = w.alloc (.cells #[.int .i64 r.k, .int .u8 r.pr, .int .u32 (r.si : Int), .int .i64 r.sb, .int .u32 (r.di : Int), .int .i64 r.db, .int .u32 (r.ex : Int), .int .u16 r.fr, .int .u16 r.to, .int .u32 (r.ii : Int), .int .u16 r.ip] 42) := ⟨_, rfl⟩
      rw [← hu1] at T_2 R_3 B4 ⊢
      clear hu1
      obtain ⟨_, r1_0, r1_1, r1_2, r1_3, r1_4, r1_5, r1_6, r1_7, r1_8, r1_9, r1_10⟩ := id R_3
      go_wp2_with fail
      refine (m1 _).mono ?_; rintro e w2 ⟨rfl, x2⟩
      have T_5 := T_2.on x2
      have R_6 := R_3.on x2
      have B7 := B4.trans (x2.mono B4.size)
      clear r1_0 r1_1 r1_2 r1_3 r1_4 r1_5 r1_6 r1_7 r1_8 r1_9 r1_10 T_2 R_3 B4 x2
      obtain ⟨_, r2_0, r2_1, r2_2, r2_3, r2_4, r2_5, r2_6, r2_7, r2_8, r2_9, r2_10⟩ := id R_6
      go_wp2_with fail
      refine (m2 _).mono ?_; rintro e w3 ⟨rfl, x3⟩
      have T_8 := T_5.on x3
      have R_9 := R_6.on x3
      have B10 := B7.trans (x3.mono B7.size)
      clear r2_0 r2_1 r2_2 r2_3 r2_4 r2_5 r2_6 r2_7 r2_8 r2_9 r2_10 T_5 R_6 B7 x3
      obtain ⟨_, r3_0, r3_1, r3_2, r3_3, r3_4, r3_5, r3_6, r3_7, r3_8, r3_9, r3_10⟩ := id R_9
      go_wp2
      go_ret
      rw [HV.out]
      exact ⟨rfl, B10⟩
  · rcases hz with rfl | ⟨rfl, rfl⟩ | ⟨rfl, rfl, rfl⟩ | ⟨rfl, rfl, rfl, rfl⟩
    all_goals
      simp only [Bool.not_true, Bool.not_false, Bool.and_true, Bool.and_false, Bool.true_and, Bool.false_and, Bool.or_true, Bool.or_false, Bool.true_or, Bool.false_or] at *
      go_enter Try.func40, Try.ntmps40
      have B1 := Below.refl w.heap.size w
      go_upto_region 1 with fail
      have T_2 := T0.past (o := (.cells #[.int .i64 r.k, .int .u8 r.pr, .int .u32 (r.si : Int), .int .i64 r.sb, .int .u32 (r.di : Int), .int .i64 r.db, .int .u32 (r.ex : Int), .int .u16 r.fr, .int .u16 r.to, .int .u32 (r.ii : Int), .int .u16 r.ip] 42))
      have R_3 := Box11.make w (.int .i64 r.k) (.int .u8 r.pr) (.int .u32 (r.si : Int)) (.int .i64 r.sb) (.int .u32 (r.di : Int)) (.int .i64 r.db) (.int .u32 (r.ex : Int)) (.int .u16 r.fr) (.int .u16 r.to) (.int .u32 (r.ii : Int)) (.int .u16 r.ip) 42
      have B4 := B1.alloc B1.size (.cells #[.int .i64 r.k, .int .u8 r.pr, .int .u32 (r.si : Int), .int .i64 r.sb, .int .u32 (r.di : Int), .int .i64 r.db, .int .u32 (r.ex : Int), .int .u16 r.fr, .int .u16 r.to, .int .u32 (r.ii : Int), .int .u16 r.ip] 42)
      clear T0 B1
      obtain ⟨u1, hu1⟩ : ∃ x, x = w.alloc (.cells #[.int .i64 r.k, .int .u8 r.pr, .int .u32 (r.si : Int), .int .i64 r.sb, .int .u32 (r.di : Int), .int .i64 r.db, .int .u32 (r.ex : Int), .int .u16 r.fr, .int .u16 r.to, .int .u32 (r.ii : Int), .int .u16 r.ip] 42) := ⟨_, rfl⟩
      rw [← hu1] at T_2 R_3 B4 ⊢
      clear hu1
      obtain ⟨_, r1_0, r1_1, r1_2, r1_3, r1_4, r1_5, r1_6, r1_7, r1_8, r1_9, r1_10⟩ := id R_3
      go_wp2_with fail
      refine (m1 _).mono ?_; rintro e w2 ⟨rfl, x2⟩
      have T_5 := T_2.on x2
      have R_6 := R_3.on x2
      have B7 := B4.trans (x2.mono B4.size)
      clear r1_0 r1_1 r1_2 r1_3 r1_4 r1_5 r1_6 r1_7 r1_8 r1_9 r1_10 T_2 R_3 B4 x2
      obtain ⟨_, r2_0, r2_1, r2_2, r2_3, r2_4, r2_5, r2_6, r2_7, r2_8, r2_9, r2_10⟩ := id R_6
      go_wp2_with fail
      refine (m2 _).mono ?_; rintro e w3 ⟨rfl, x3⟩
      have T_8 := T_5.on x3
      have R_9 := R_6.on x3
      have B10 := B7.trans (x3.mono B7.size)
      clear r2_0 r2_1 r2_2 r2_3 r2_4 r2_5 r2_6 r2_7 r2_8 r2_9 r2_10 T_5 R_6 B7 x3
      obtain ⟨_, r3_0, r3_1, r3_2, r3_3, r3_4, r3_5, r3_6, r3_7, r3_8, r3_9, r3_10⟩ := id R_9
      go_wp2
      go_ret
      rw [HV.out]
      exact ⟨rfl, B10⟩
theorem rmayR_ (t : Tm) (r : Ru) (p : Nat) (S : Value) (w : World) (T0 : Box4 w p (.int .u32 (t.own : Int)) (.int .u32 (t.ip : Int)) (.int .i64 t.bits) S) (h1 : t.ip < 4294967296) (h2 : -9223372036854775808 ≤ t.bits ∧ t.bits ≤ 9223372036854775807) (hr : r.Ok) :
    Calls Try.prog 40 #[.pointer (some ⟨p, 0, none⟩), .agg #[.int .i64 r.k, .int .u8 r.pr, .int .u32 (r.si : Int), .int .i64 r.sb, .int .u32 (r.di : Int), .int .i64 r.db, .int .u32 (r.ex : Int), .int .u16 r.fr, .int .u16 r.to, .int .u32 (r.ii : Int), .int .u16 r.ip]] w fun e w' => e = .returned (.bool (mayRu t r)) ∧ Below w.heap.size w w' := by
  by_cases k3 : r.k = 3
  · exact rmayR_3 t r p S w T0 h1 h2 hr k3
  by_cases k1 : r.k = 1
  · exact rmayR_1 t r p S w T0 h1 h2 hr k1
  by_cases k2 : r.k = 2
  · exact rmayR_2 t r p S w T0 h1 h2 hr k2
  exact rmayR_0 t r p S w T0 k3 k1 k2
set_option maxHeartbeats 1000000 in
set_option maxRecDepth 100000 in
theorem rcheckR_ (t : Tm) (r : Ru) (p : Nat) (S : Value) (w : World) (T0 : Box4 w p (.int .u32 (t.own : Int)) (.int .u32 (t.ip : Int)) (.int .i64 t.bits) S) (h1 : t.ip < 4294967296) (h2 : -9223372036854775808 ≤ t.bits ∧ t.bits ≤ 9223372036854775807) (hr : r.Ok) :
    Calls Try.prog 14 #[.pointer (some ⟨p, 0, none⟩), .agg #[.int .i64 r.k, .int .u8 r.pr, .int .u32 (r.si : Int), .int .i64 r.sb, .int .u32 (r.di : Int), .int .i64 r.db, .int .u32 (r.ex : Int), .int .u16 r.fr, .int .u16 r.to, .int .u32 (r.ii : Int), .int .u16 r.ip]] w fun e w' => e = .returned (.int .i64 (ruCheckE t r)) ∧ Below w.heap.size w w' := by
  have c := fun (u : World) (T : Box4 u p (.int .u32 (t.own : Int)) (.int .u32 (t.ip : Int)) (.int .i64 t.bits) S) => rmayR_ t r p S u T h1 h2 hr
  cases hm : mayRu t r with
  | true =>
    have HV : Hid (ruCheckE t r = 0) := by show _ = _; unfold ruCheckE; rw [if_pos hm]
    rw [hm] at c
    clear hm h1 h2 hr
    go_enter Try.func14, Try.ntmps14
    have B1 := Below.refl w.heap.size w
    go_upto_region 1 with fail
    have T_2 := T0.past (o := (.cells #[.int .i64 r.k, .int .u8 r.pr, .int .u32 (r.si : Int), .int .i64 r.sb, .int .u32 (r.di : Int), .int .i64 r.db, .int .u32 (r.ex : Int), .int .u16 r.fr, .int .u16 r.to, .int .u32 (r.ii : Int), .int .u16 r.ip] 42))
    have R_3 := Box11.make w (.int .i64 r.k) (.int .u8 r.pr) (.int .u32 (r.si : Int)) (.int .i64 r.sb) (.int .u32 (r.di : Int)) (.int .i64 r.db) (.int .u32 (r.ex : Int)) (.int .u16 r.fr) (.int .u16 r.to) (.int .u32 (r.ii : Int)) (.int .u16 r.ip) 42
    have B4 := B1.alloc B1.size (.cells #[.int .i64 r.k, .int .u8 r.pr, .int .u32 (r.si : Int), .int .i64 r.sb, .int .u32 (r.di : Int), .int .i64 r.db, .int .u32 (r.ex : Int), .int .u16 r.fr, .int .u16 r.to, .int .u32 (r.ii : Int), .int .u16 r.ip] 42)
    clear T0 B1
    obtain ⟨u1, hu1⟩ : ∃ x, x = w.alloc (.cells #[.int .i64 r.k, .int .u8 r.pr, .int .u32 (r.si : Int), .int .i64 r.sb, .int .u32 (r.di : Int), .int .i64 r.db, .int .u32 (r.ex : Int), .int .u16 r.fr, .int .u16 r.to, .int .u32 (r.ii : Int), .int .u16 r.ip] 42) := ⟨_, rfl⟩
    rw [← hu1] at T_2 R_3 B4 ⊢
    clear hu1
    obtain ⟨_, r1_0, r1_1, r1_2, r1_3, r1_4, r1_5, r1_6, r1_7, r1_8, r1_9, r1_10⟩ := id R_3
    go_wp2_with fail
    refine (c _ T_2).mono ?_; rintro e w2 ⟨rfl, x2⟩
    have T_5 := T_2.on x2
    have R_6 := R_3.on x2
    have B7 := B4.trans (x2.mono B4.size)
    clear r1_0 r1_1 r1_2 r1_3 r1_4 r1_5 r1_6 r1_7 r1_8 r1_9 r1_10 T_2 R_3 B4 x2
    go_wp2
    go_ret
    rw [HV.out]
    exact ⟨rfl, B7⟩
  | false =>
    have HV : Hid (ruCheckE t r = 2) := by show _ = _; unfold ruCheckE; rw [if_neg (by rw [hm]; decide)]
    rw [hm] at c
    clear hm h1 h2 hr
    go_enter Try.func14, Try.ntmps14
    have B1 := Below.refl w.heap.size w
    go_upto_region 1 with fail
    have T_2 := T0.past (o := (.cells #[.int .i64 r.k, .int .u8 r.pr, .int .u32 (r.si : Int), .int .i64 r.sb, .int .u32 (r.di : Int), .int .i64 r.db, .int .u32 (r.ex : Int), .int .u16 r.fr, .int .u16 r.to, .int .u32 (r.ii : Int), .int .u16 r.ip] 42))
    have R_3 := Box11.make w (.int .i64 r.k) (.int .u8 r.pr) (.int .u32 (r.si : Int)) (.int .i64 r.sb) (.int .u32 (r.di : Int)) (.int .i64 r.db) (.int .u32 (r.ex : Int)) (.int .u16 r.fr) (.int .u16 r.to) (.int .u32 (r.ii : Int)) (.int .u16 r.ip) 42
    have B4 := B1.alloc B1.size (.cells #[.int .i64 r.k, .int .u8 r.pr, .int .u32 (r.si : Int), .int .i64 r.sb, .int .u32 (r.di : Int), .int .i64 r.db, .int .u32 (r.ex : Int), .int .u16 r.fr, .int .u16 r.to, .int .u32 (r.ii : Int), .int .u16 r.ip] 42)
    clear T0 B1
    obtain ⟨u1, hu1⟩ : ∃ x, x = w.alloc (.cells #[.int .i64 r.k, .int .u8 r.pr, .int .u32 (r.si : Int), .int .i64 r.sb, .int .u32 (r.di : Int), .int .i64 r.db, .int .u32 (r.ex : Int), .int .u16 r.fr, .int .u16 r.to, .int .u32 (r.ii : Int), .int .u16 r.ip] 42) := ⟨_, rfl⟩
    rw [← hu1] at T_2 R_3 B4 ⊢
    clear hu1
    obtain ⟨_, r1_0, r1_1, r1_2, r1_3, r1_4, r1_5, r1_6, r1_7, r1_8, r1_9, r1_10⟩ := id R_3
    go_wp2_with fail
    refine (c _ T_2).mono ?_; rintro e w2 ⟨rfl, x2⟩
    have T_5 := T_2.on x2
    have R_6 := R_3.on x2
    have B7 := B4.trans (x2.mono B4.size)
    clear r1_0 r1_1 r1_2 r1_3 r1_4 r1_5 r1_6 r1_7 r1_8 r1_9 r1_10 T_2 R_3 B4 x2
    go_wp2
    go_ret
    rw [HV.out]
    exact ⟨rfl, B7⟩
end Go.Proofs.Ytoogegpkgohffaa
