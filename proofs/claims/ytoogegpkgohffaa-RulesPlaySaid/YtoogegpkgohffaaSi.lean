/- Texts of this proof, together: RulD, RulE, RulG. -/
import Derived.Test.YtoogegpkgohffaaSc
import Derived.Test.YtoogegpkgohffaaTc
namespace Go.Proofs.Ytoogegpkgohffaa
set_option linter.unusedVariables false
set_option linter.unusedSimpArgs false
open Go.ChangeShapes Go.WideShapes Go.ChangeAt Go.RowKit Go.PlainAid
attribute [local go_sem ↓] Go.wp_at_zero Go.wp_at_succ
theorem any_hit {rs : List Ru} {f : Ru → Bool} {i : Nat} {r : Ru} (h : i < rs.length) (hr : r = rs.getD i Ru.zero) (hf : f r = true) : rs.any f = true := by
  rw [List.any_eq_true]
  refine ⟨r, ?_, hf⟩
  rw [hr]
  simp [List.getD, h]
theorem any_none {rs : List Ru} {f : Ru → Bool} {i : Nat} (h : rs.length ≤ i) (hn : ∀ j, j < i → f (rs.getD j Ru.zero) = false) : rs.any f = false := by
  have := (none_fits h hn).2
  exact this
set_option maxHeartbeats 4000000 in
set_option maxRecDepth 100000 in
theorem routerR_ (t : Tm) (ea p cap : Nat) (a : Option Addr) (w : World) (T0 : Box4 w p (.int .u32 (t.own : Int)) (.int .u32 (t.ip : Int)) (.int .i64 t.bits) (.slice a t.rs.length cap)) (R0 : RulesAt w a t.rs) (hl : t.rs.length ≤ 1000) :
    Calls Try.prog 26 #[.pointer (some ⟨p, 0, none⟩), .int .u32 (ea : Int)] w fun e w' => e = .returned (.bool (outerB t ea)) ∧ Below w.heap.size w w' := by
  obtain ⟨z, p1, q1, l1⟩ := eqn_ ea t.own
  have l2 : decide (t.own = ea) = z := by rw [← l1, decide_eq_decide]; exact eq_comm
  clear l1
  cases z with
  | true =>
    have HV : Hid (outerB t ea = true) := by show _ = _; unfold outerB; rw [l2]; rfl
    clear l2 R0 hl
    go_enter Try.func26, Try.ntmps26
    have B1 := Below.refl w.heap.size w
    obtain ⟨_, t1_0, t1_1, t1_2, t1_3⟩ := id T0
    go_wp2
    go_ret
    rw [HV.out]
    exact ⟨rfl, B1⟩
  | false =>
    have HV : Hid (outerB t ea = t.rs.any (fun r => decide (extRu t r = ea))) := by show _ = _; unfold outerB; rw [l2]; simp
    have RZ := Lib.hid R0
    have HL := Lib.hid hl
    clear R0 hl l2
    generalize hG : t.rs = rs at *
    go_enter Try.func26, Try.ntmps26
    have B1 := Below.refl w.heap.size w
    obtain ⟨_, t1_0, t1_1, t1_2, t1_3⟩ := id T0
    go_wp2_with fail
    go_loopw [5] (fun si wr => ∃ i : Nat, i ≤ rs.length ∧ si = .int .i64 (i : Int) ∧ Below w.heap.size w wr ∧ Hid (∀ j, j < i → decide (extRu t (rs.getD j Ru.zero) = ea) = false)) (fun si _ => rs.length - (intOf si).toNat)
    case atStart => exact ⟨0, Nat.zero_le _, rfl, Below.refl _ _, fun j hj => by omega⟩
    case round =>
      clear t1_0 t1_1 t1_2 t1_3
      obtain ⟨i, hi, rfl, bb, HF⟩ := hrel
      have T2 := T0.on bb
      obtain ⟨_, t0, t1, t2, t3⟩ := id T2
      by_cases hlt : i < rs.length
      rotate_left
      · have e10 : decide ((i : Int) < (rs.length : Int)) = false := by simp; omega
        have e11 : decide (i < rs.length) = false := by simp; omega
        have HT : Hid (rs.any (fun r => decide (extRu t r = ea)) = false) := any_none (by omega) HF.out
        clear hlt hi
        go_wp2
        go_ret
        rw [HV.out, HT.out]
        exact ⟨rfl, bb⟩
      have HI := Lib.hid hlt
      have e10 : decide ((i : Int) < (rs.length : Int)) = true := by simp; omega
      have e11 : decide (i < rs.length) = true := by simp; omega
      have e12 : (i : Int) < (rs.length : Int) := by omega
      have e13 : (i : Int) + 1 ≤ 100000 := by have := HL.out; omega
      obtain ⟨b, ha, hb, hc⟩ : ∃ b, a = some ⟨b, 0, none⟩ ∧ b < wr.heap.size ∧ _ := by
        rcases (RZ.out.on bb) with h | h
        · omega
        · exact h
      subst ha
      obtain ⟨c0, c1, c2, c3, c4, c5, c6, c7, c8, c9, c10⟩ := hc i hlt
      obtain ⟨r, hr⟩ : ∃ r, r = rs.getD i Ru.zero := ⟨_, rfl⟩
      rw [← hr] at c0 c1 c2 c3 c4 c5 c6 c7 c8 c9 c10
      have HR := Lib.hid hr
      clear hr hc hi hlt
      obtain ⟨z, p3, q3, l3⟩ := eqn_ (extRu t r) ea
      have HZ := Lib.hid l3
      clear l3
      go_wp2_with fail
      refine (rextR_ t r p _ _ T2).mono ?_; rintro e w1 ⟨rfl, y1⟩
      have BN := bb.trans (y1.mono bb.size)
      clear c0 c1 c2 c3 c4 c5 c6 c7 c8 c9 c10 t0 t1 t2 t3 T2 y1
      cases z with
      | true =>
        have HT : Hid (rs.any (fun r => decide (extRu t r = ea)) = true) := any_hit HI.out HR.out HZ.out
        go_wp2
        go_ret
        rw [HV.out, HT.out]
        exact ⟨rfl, BN⟩
      | false =>
        go_wp2_with fail
        go_roundw
        case rel =>
          refine ⟨i + 1, HI.out, by go_num, BN, fun j hj => ?_⟩
          by_cases e : j = i
          · rw [e, ← HR.out]; exact HZ.out
          · exact HF.out j (by omega)
        case measure => have := HI.out; simp [intOf]; omega
set_option maxHeartbeats 4000000 in
set_option maxRecDepth 100000 in
theorem rsourceR_ (t : Tm) (pr sp dp : Int) (sa da p cap : Nat) (a : Option Addr) (w : World) (T0 : Box4 w p (.int .u32 (t.own : Int)) (.int .u32 (t.ip : Int)) (.int .i64 t.bits) (.slice a t.rs.length cap)) (R0 : RulesAt w a t.rs) (hl : t.rs.length ≤ 1000) (hall : ∀ r ∈ t.rs, r.Ok) (s1 : sa < 4294967296) (d1 : da < 4294967296) :
    Calls Try.prog 50 #[.pointer (some ⟨p, 0, none⟩), .agg #[.int .u8 pr, .int .u32 (sa : Int), .int .u16 sp, .int .u32 (da : Int), .int .u16 dp]] w fun e w' => e = .returned (.tuple #[.agg #[.int .i64 (srcRu t pr sa da).k, .int .u8 (srcRu t pr sa da).pr, .int .u32 ((srcRu t pr sa da).si : Int), .int .i64 (srcRu t pr sa da).sb, .int .u32 ((srcRu t pr sa da).di : Int), .int .i64 (srcRu t pr sa da).db, .int .u32 ((srcRu t pr sa da).ex : Int), .int .u16 (srcRu t pr sa da).fr, .int .u16 (srcRu t pr sa da).to, .int .u32 ((srcRu t pr sa da).ii : Int), .int .u16 (srcRu t pr sa da).ip], .bool (hitRu t.rs (fitF pr sa da))]) ∧ Below w.heap.size w w' := by
  have HG : Hid (srcRu t pr sa da = if hitRu t.rs (fitF pr sa da) = true then { findRu t.rs (fitF pr sa da) with ex := extRu t (findRu t.rs (fitF pr sa da)) } else Ru.zero) := rfl
  have RZ := Lib.hid R0
  have HL := Lib.hid hl
  have HA := Lib.hid hall
  clear R0 hl hall
  generalize hG : t.rs = rs at *
  generalize srcRu t pr sa da = Q at *
  go_enter Try.func50, Try.ntmps50
  have B1 := Below.refl w.heap.size w
  go_upto_region 1 with fail
  have T_2 := T0.past (o := (.cells #[.int .u8 pr, .int .u32 (sa : Int), .int .u16 sp, .int .u32 (da : Int), .int .u16 dp] 57))
  have X_3 := Box5.make w (.int .u8 pr) (.int .u32 (sa : Int)) (.int .u16 sp) (.int .u32 (da : Int)) (.int .u16 dp) 57
  have B4 := B1.alloc B1.size (.cells #[.int .u8 pr, .int .u32 (sa : Int), .int .u16 sp, .int .u32 (da : Int), .int .u16 dp] 57)
  clear T0 B1
  have T_5 := T_2.past (o := (.cells #[.int .i64 0, .int .u8 0, .int .u32 0, .int .i64 0, .int .u32 0, .int .i64 0, .int .u32 0, .int .u16 0, .int .u16 0, .int .u32 0, .int .u16 0] 42))
  have X_6 := X_3.past (o := (.cells #[.int .i64 0, .int .u8 0, .int .u32 0, .int .i64 0, .int .u32 0, .int .i64 0, .int .u32 0, .int .u16 0, .int .u16 0, .int .u32 0, .int .u16 0] 42))
  have hs_ : (w.alloc (.cells #[.int .u8 pr, .int .u32 (sa : Int), .int .u16 sp, .int .u32 (da : Int), .int .u16 dp] 57)).heap.size = w.heap.size + 1 := by simp
  have Z_7 := Box11.make (w.alloc (.cells #[.int .u8 pr, .int .u32 (sa : Int), .int .u16 sp, .int .u32 (da : Int), .int .u16 dp] 57)) (.int .i64 0) (.int .u8 0) (.int .u32 0) (.int .i64 0) (.int .u32 0) (.int .i64 0) (.int .u32 0) (.int .u16 0) (.int .u16 0) (.int .u32 0) (.int .u16 0) 42
  rw [hs_] at Z_7
  clear hs_
  have B8 := B4.alloc B4.size (.cells #[.int .i64 0, .int .u8 0, .int .u32 0, .int .i64 0, .int .u32 0, .int .i64 0, .int .u32 0, .int .u16 0, .int .u16 0, .int .u32 0, .int .u16 0] 42)
  clear T_2 X_3 B4
  have fzZ_9 : ∀ i, ((w.alloc (.cells #[.int .u8 pr, .int .u32 (sa : Int), .int .u16 sp, .int .u32 (da : Int), .int .u16 dp] 57)).alloc (.cells #[.int .i64 0, .int .u8 0, .int .u32 0, .int .i64 0, .int .u32 0, .int .i64 0, .int .u32 0, .int .u16 0, .int .u16 0, .int .u32 0, .int .u16 0] 42)).frozen? ⟨(w.heap.size + 1), i, none⟩ = false := by intro i; simp [go_sem]
  obtain ⟨u1, hu1⟩ : ∃ x, x = (w.alloc (.cells #[.int .u8 pr, .int .u32 (sa : Int), .int .u16 sp, .int .u32 (da : Int), .int .u16 dp] 57)).alloc (.cells #[.int .i64 0, .int .u8 0, .int .u32 0, .int .i64 0, .int .u32 0, .int .i64 0, .int .u32 0, .int .u16 0, .int .u16 0, .int .u32 0, .int .u16 0] 42) := ⟨_, rfl⟩
  rw [← hu1] at T_5 X_6 Z_7 fzZ_9 B8 ⊢
  clear hu1
  obtain ⟨_, t1_0, t1_1, t1_2, t1_3⟩ := id T_5
  have R1 := Lib.hid (RZ.out.on B8)
  go_wp2_with fail
  go_loopw [6] (fun si wr => ∃ i : Nat, i ≤ rs.length ∧ si = .int .i64 (i : Int) ∧ Below u1.heap.size u1 wr ∧ Hid (∀ j, j < i → fitF pr sa da (rs.getD j Ru.zero) = false)) (fun si _ => rs.length - (intOf si).toNat)
  case atStart => exact ⟨0, Nat.zero_le _, rfl, Below.refl _ _, fun j hj => by omega⟩
  case round =>
    clear t1_0 t1_1 t1_2 t1_3
    obtain ⟨i, hi, rfl, bb, HF⟩ := hrel
    have T2 := T_5.on bb
    have X2 := X_6.on bb
    have Z2 := Z_7.on bb
    have fz2 : ∀ i, wr.frozen? ⟨(w.heap.size + 1), i, none⟩ = false := fun i => (bb.frozen (p := ⟨_, i, none⟩) Z_7.1).trans (fzZ_9 i)
    have B2 := B8.trans (bb.mono B8.size)
    by_cases hlt : i < rs.length
    rotate_left
    · have e10 : decide ((i : Int) < (rs.length : Int)) = false := by simp; omega
      have e11 : decide (i < rs.length) = false := by simp; omega
      have HT : Hid (Q = Ru.zero ∧ hitRu rs (fitF pr sa da) = false) := by
        have := none_fits (by omega) HF.out
        refine ⟨?_, this.2⟩
        rw [HG.out, this.2]
        rfl
      clear hlt hi
      obtain ⟨_, t0, t1, t2, t3⟩ := id T2
      obtain ⟨_, y0, y1, y2, y3, y4, y5, y6, y7, y8, y9, y10⟩ := id Z2
      go_wp2
      refine box11_ (b := w.heap.size + 1) Z2.some B2 (Nat.le_succ _) fun X x0_ x1_ x2_ x3_ x4_ x5_ x6_ x7_ x8_ x9_ x10_ BX _ _ => ?_
      refine bodyPost_ret (v := .tuple #[.agg #[.int .i64 0, .int .u8 0, .int .u32 0, .int .i64 0, .int .u32 0, .int .i64 0, .int .u32 0, .int .u16 0, .int .u16 0, .int .u32 0, .int .u16 0], .bool false]) (by simp [results, Try.results50, go_sem, x0_, x1_, x2_, x3_, x4_, x5_, x6_, x7_, x8_, x9_, x10_]) rfl ?_
      rw [HT.out.1, HT.out.2]
      exact ⟨rfl, BX⟩
    have HI := Lib.hid hlt
    have e10 : decide ((i : Int) < (rs.length : Int)) = true := by simp; omega
    have e11 : decide (i < rs.length) = true := by simp; omega
    have e12 : (i : Int) < (rs.length : Int) := by omega
    have e13 : (i : Int) + 1 ≤ 100000 := by have := HL.out; omega
    obtain ⟨b, ha, hb, hc⟩ : ∃ b, a = some ⟨b, 0, none⟩ ∧ b < wr.heap.size ∧ _ := by
      rcases (R1.out.on bb) with h | h
      · omega
      · exact h
    subst ha
    obtain ⟨c0, c1, c2, c3, c4, c5, c6, c7, c8, c9, c10⟩ := hc i hlt
    obtain ⟨r, hr⟩ : ∃ r, r = rs.getD i Ru.zero := ⟨_, rfl⟩
    rw [← hr] at c0 c1 c2 c3 c4 c5 c6 c7 c8 c9 c10
    have hm : r ∈ rs := by rw [hr]; simp [List.getD, hlt]
    have ok := HA.out r hm
    have m1 := fun u => rhas_ r.si r.sb sa u ok.si1 s1 ⟨ok.sb0, ok.sb1⟩
    have m2 := fun u => rhas_ r.di r.db da u ok.di1 d1 ⟨ok.db0, ok.db1⟩
    have HR := Lib.hid hr
    clear hr hc hi hlt hm ok
    obtain ⟨z1, p1, q1, l1⟩ := eqi_ r.k 3
    obtain ⟨z2, p2, q2, l2⟩ := eqi_ r.pr 0
    obtain ⟨z3, p3, q3, l3⟩ := eqi_ r.pr pr
    obtain ⟨v1, hv1⟩ : ∃ v, hasV r.si r.sb sa = v := ⟨_, rfl⟩
    obtain ⟨v2, hv2⟩ : ∃ v, hasV r.di r.db da = v := ⟨_, rfl⟩
    rw [hv1] at m1
    rw [hv2] at m2
    have HV : Hid (fitF pr sa da r = (!z1 && (z2 || z3) && v1 && v2)) := by show _ = _; unfold fitF; rw [l1, l2, l3, hv1, hv2]
    clear l1 l2 l3 hv1 hv2
    have LW := Lib.hid (And.intro T2.1 (And.intro Z2.1 X2.1))
    have key : z1 = true ∨ (z1 = false ∧ z2 = false ∧ z3 = false) ∨ (z1 = false ∧ (z2 = true ∨ (z2 = false ∧ z3 = true)) ∧ (v1 = false ∨ (v1 = true ∧ v2 = false) ∨ (v1 = true ∧ v2 = true))) := by cases z1 <;> cases z2 <;> cases z3 <;> cases v1 <;> cases v2 <;> simp
    rcases key with rfl | ⟨rfl, rfl, rfl⟩ | ⟨rfl, hz, key⟩
    · simp only [Bool.not_true, Bool.not_false, Bool.and_true, Bool.and_false, Bool.true_and, Bool.false_and, Bool.or_true, Bool.or_false, Bool.true_or, Bool.false_or] at HV q1 q2 q3
      obtain ⟨_, t1_0, t1_1, t1_2, t1_3⟩ := id T2
      obtain ⟨_, x2_0, x2_1, x2_2, x2_3, x2_4⟩ := id X2
      have fzZ_501 : ∀ i, (wr.alloc (.cells #[.int .i64 r.k, .int .u8 r.pr, .int .u32 (r.si : Int), .int .i64 r.sb, .int .u32 (r.di : Int), .int .i64 r.db, .int .u32 (r.ex : Int), .int .u16 r.fr, .int .u16 r.to, .int .u32 (r.ii : Int), .int .u16 r.ip] 42)).frozen? ⟨(w.heap.size + 1), i, none⟩ = false := fun i => (((Below.refl wr.heap.size wr).alloc (Nat.le_refl _) (.cells #[.int .i64 r.k, .int .u8 r.pr, .int .u32 (r.si : Int), .int .i64 r.sb, .int .u32 (r.di : Int), .int .i64 r.db, .int .u32 (r.ex : Int), .int .u16 r.fr, .int .u16 r.to, .int .u32 (r.ii : Int), .int .u16 r.ip] 42)).frozen (p := ⟨_, i, none⟩) Z2.1).trans (fz2 i)
      clear fz2
      have T_502 := T2.past (o := (.cells #[.int .i64 r.k, .int .u8 r.pr, .int .u32 (r.si : Int), .int .i64 r.sb, .int .u32 (r.di : Int), .int .i64 r.db, .int .u32 (r.ex : Int), .int .u16 r.fr, .int .u16 r.to, .int .u32 (r.ii : Int), .int .u16 r.ip] 42))
      have X_503 := X2.past (o := (.cells #[.int .i64 r.k, .int .u8 r.pr, .int .u32 (r.si : Int), .int .i64 r.sb, .int .u32 (r.di : Int), .int .i64 r.db, .int .u32 (r.ex : Int), .int .u16 r.fr, .int .u16 r.to, .int .u32 (r.ii : Int), .int .u16 r.ip] 42))
      have Z_504 := Z2.past (o := (.cells #[.int .i64 r.k, .int .u8 r.pr, .int .u32 (r.si : Int), .int .i64 r.sb, .int .u32 (r.di : Int), .int .i64 r.db, .int .u32 (r.ex : Int), .int .u16 r.fr, .int .u16 r.to, .int .u32 (r.ii : Int), .int .u16 r.ip] 42))
      have R_505 := Box11.make wr (.int .i64 r.k) (.int .u8 r.pr) (.int .u32 (r.si : Int)) (.int .i64 r.sb) (.int .u32 (r.di : Int)) (.int .i64 r.db) (.int .u32 (r.ex : Int)) (.int .u16 r.fr) (.int .u16 r.to) (.int .u32 (r.ii : Int)) (.int .u16 r.ip) 42
      have B506 := B2.alloc B2.size (.cells #[.int .i64 r.k, .int .u8 r.pr, .int .u32 (r.si : Int), .int .i64 r.sb, .int .u32 (r.di : Int), .int .i64 r.db, .int .u32 (r.ex : Int), .int .u16 r.fr, .int .u16 r.to, .int .u32 (r.ii : Int), .int .u16 r.ip] 42)
      clear T2 X2 Z2 B2
      have fzR_507 : ∀ i, (wr.alloc (.cells #[.int .i64 r.k, .int .u8 r.pr, .int .u32 (r.si : Int), .int .i64 r.sb, .int .u32 (r.di : Int), .int .i64 r.db, .int .u32 (r.ex : Int), .int .u16 r.fr, .int .u16 r.to, .int .u32 (r.ii : Int), .int .u16 r.ip] 42)).frozen? ⟨wr.heap.size, i, none⟩ = false := by intro i; simp [go_sem]
      obtain ⟨_, x3_0, x3_1, x3_2, x3_3, x3_4⟩ := id X_503
      obtain ⟨_, r4_0, r4_1, r4_2, r4_3, r4_4, r4_5, r4_6, r4_7, r4_8, r4_9, r4_10⟩ := id R_505
      go_wp2_with fail
      have BN_ : Below u1.heap.size u1 (wr.alloc (.cells #[.int .i64 r.k, .int .u8 r.pr, .int .u32 (r.si : Int), .int .i64 r.sb, .int .u32 (r.di : Int), .int .i64 r.db, .int .u32 (r.ex : Int), .int .u16 r.fr, .int .u16 r.to, .int .u32 (r.ii : Int), .int .u16 r.ip] 42)) := bb.alloc bb.size (.cells #[.int .i64 r.k, .int .u8 r.pr, .int .u32 (r.si : Int), .int .i64 r.sb, .int .u32 (r.di : Int), .int .i64 r.db, .int .u32 (r.ex : Int), .int .u16 r.fr, .int .u16 r.to, .int .u32 (r.ii : Int), .int .u16 r.ip] 42)
      go_roundw
      case rel =>
        refine ⟨i + 1, HI.out, by go_num, BN_, fun j hj => ?_⟩
        by_cases e : j = i
        · rw [e, ← HR.out]; exact HV.out
        · exact HF.out j (by omega)
      case measure => have := HI.out; simp [intOf]; omega
    · simp only [Bool.not_true, Bool.not_false, Bool.and_true, Bool.and_false, Bool.true_and, Bool.false_and, Bool.or_true, Bool.or_false, Bool.true_or, Bool.false_or] at HV q1 q2 q3
      obtain ⟨_, t1_0, t1_1, t1_2, t1_3⟩ := id T2
      obtain ⟨_, x2_0, x2_1, x2_2, x2_3, x2_4⟩ := id X2
      have fzZ_501 : ∀ i, (wr.alloc (.cells #[.int .i64 r.k, .int .u8 r.pr, .int .u32 (r.si : Int), .int .i64 r.sb, .int .u32 (r.di : Int), .int .i64 r.db, .int .u32 (r.ex : Int), .int .u16 r.fr, .int .u16 r.to, .int .u32 (r.ii : Int), .int .u16 r.ip] 42)).frozen? ⟨(w.heap.size + 1), i, none⟩ = false := fun i => (((Below.refl wr.heap.size wr).alloc (Nat.le_refl _) (.cells #[.int .i64 r.k, .int .u8 r.pr, .int .u32 (r.si : Int), .int .i64 r.sb, .int .u32 (r.di : Int), .int .i64 r.db, .int .u32 (r.ex : Int), .int .u16 r.fr, .int .u16 r.to, .int .u32 (r.ii : Int), .int .u16 r.ip] 42)).frozen (p := ⟨_, i, none⟩) Z2.1).trans (fz2 i)
      clear fz2
      have T_502 := T2.past (o := (.cells #[.int .i64 r.k, .int .u8 r.pr, .int .u32 (r.si : Int), .int .i64 r.sb, .int .u32 (r.di : Int), .int .i64 r.db, .int .u32 (r.ex : Int), .int .u16 r.fr, .int .u16 r.to, .int .u32 (r.ii : Int), .int .u16 r.ip] 42))
      have X_503 := X2.past (o := (.cells #[.int .i64 r.k, .int .u8 r.pr, .int .u32 (r.si : Int), .int .i64 r.sb, .int .u32 (r.di : Int), .int .i64 r.db, .int .u32 (r.ex : Int), .int .u16 r.fr, .int .u16 r.to, .int .u32 (r.ii : Int), .int .u16 r.ip] 42))
      have Z_504 := Z2.past (o := (.cells #[.int .i64 r.k, .int .u8 r.pr, .int .u32 (r.si : Int), .int .i64 r.sb, .int .u32 (r.di : Int), .int .i64 r.db, .int .u32 (r.ex : Int), .int .u16 r.fr, .int .u16 r.to, .int .u32 (r.ii : Int), .int .u16 r.ip] 42))
      have R_505 := Box11.make wr (.int .i64 r.k) (.int .u8 r.pr) (.int .u32 (r.si : Int)) (.int .i64 r.sb) (.int .u32 (r.di : Int)) (.int .i64 r.db) (.int .u32 (r.ex : Int)) (.int .u16 r.fr) (.int .u16 r.to) (.int .u32 (r.ii : Int)) (.int .u16 r.ip) 42
      have B506 := B2.alloc B2.size (.cells #[.int .i64 r.k, .int .u8 r.pr, .int .u32 (r.si : Int), .int .i64 r.sb, .int .u32 (r.di : Int), .int .i64 r.db, .int .u32 (r.ex : Int), .int .u16 r.fr, .int .u16 r.to, .int .u32 (r.ii : Int), .int .u16 r.ip] 42)
      clear T2 X2 Z2 B2
      have fzR_507 : ∀ i, (wr.alloc (.cells #[.int .i64 r.k, .int .u8 r.pr, .int .u32 (r.si : Int), .int .i64 r.sb, .int .u32 (r.di : Int), .int .i64 r.db, .int .u32 (r.ex : Int), .int .u16 r.fr, .int .u16 r.to, .int .u32 (r.ii : Int), .int .u16 r.ip] 42)).frozen? ⟨wr.heap.size, i, none⟩ = false := by intro i; simp [go_sem]
      obtain ⟨_, x3_0, x3_1, x3_2, x3_3, x3_4⟩ := id X_503
      obtain ⟨_, r4_0, r4_1, r4_2, r4_3, r4_4, r4_5, r4_6, r4_7, r4_8, r4_9, r4_10⟩ := id R_505
      go_wp2_with fail
      have BN_ : Below u1.heap.size u1 (wr.alloc (.cells #[.int .i64 r.k, .int .u8 r.pr, .int .u32 (r.si : Int), .int .i64 r.sb, .int .u32 (r.di : Int), .int .i64 r.db, .int .u32 (r.ex : Int), .int .u16 r.fr, .int .u16 r.to, .int .u32 (r.ii : Int), .int .u16 r.ip] 42)) := bb.alloc bb.size (.cells #[.int .i64 r.k, .int .u8 r.pr, .int .u32 (r.si : Int), .int .i64 r.sb, .int .u32 (r.di : Int), .int .i64 r.db, .int .u32 (r.ex : Int), .int .u16 r.fr, .int .u16 r.to, .int .u32 (r.ii : Int), .int .u16 r.ip] 42)
      go_roundw
      case rel =>
        refine ⟨i + 1, HI.out, by go_num, BN_, fun j hj => ?_⟩
        by_cases e : j = i
        · rw [e, ← HR.out]; exact HV.out
        · exact HF.out j (by omega)
      case measure => have := HI.out; simp [intOf]; omega
    · rcases hz with rfl | ⟨rfl, rfl⟩ <;> rcases key with rfl | ⟨rfl, rfl⟩ | ⟨rfl, rfl⟩
      · simp only [Bool.not_true, Bool.not_false, Bool.and_true, Bool.and_false, Bool.true_and, Bool.false_and, Bool.or_true, Bool.or_false, Bool.true_or, Bool.false_or] at HV q1 q2 q3
        obtain ⟨_, t1_0, t1_1, t1_2, t1_3⟩ := id T2
        obtain ⟨_, x2_0, x2_1, x2_2, x2_3, x2_4⟩ := id X2
        have fzZ_501 : ∀ i, (wr.alloc (.cells #[.int .i64 r.k, .int .u8 r.pr, .int .u32 (r.si : Int), .int .i64 r.sb, .int .u32 (r.di : Int), .int .i64 r.db, .int .u32 (r.ex : Int), .int .u16 r.fr, .int .u16 r.to, .int .u32 (r.ii : Int), .int .u16 r.ip] 42)).frozen? ⟨(w.heap.size + 1), i, none⟩ = false := fun i => (((Below.refl wr.heap.size wr).alloc (Nat.le_refl _) (.cells #[.int .i64 r.k, .int .u8 r.pr, .int .u32 (r.si : Int), .int .i64 r.sb, .int .u32 (r.di : Int), .int .i64 r.db, .int .u32 (r.ex : Int), .int .u16 r.fr, .int .u16 r.to, .int .u32 (r.ii : Int), .int .u16 r.ip] 42)).frozen (p := ⟨_, i, none⟩) Z2.1).trans (fz2 i)
        clear fz2
        have T_502 := T2.past (o := (.cells #[.int .i64 r.k, .int .u8 r.pr, .int .u32 (r.si : Int), .int .i64 r.sb, .int .u32 (r.di : Int), .int .i64 r.db, .int .u32 (r.ex : Int), .int .u16 r.fr, .int .u16 r.to, .int .u32 (r.ii : Int), .int .u16 r.ip] 42))
        have X_503 := X2.past (o := (.cells #[.int .i64 r.k, .int .u8 r.pr, .int .u32 (r.si : Int), .int .i64 r.sb, .int .u32 (r.di : Int), .int .i64 r.db, .int .u32 (r.ex : Int), .int .u16 r.fr, .int .u16 r.to, .int .u32 (r.ii : Int), .int .u16 r.ip] 42))
        have Z_504 := Z2.past (o := (.cells #[.int .i64 r.k, .int .u8 r.pr, .int .u32 (r.si : Int), .int .i64 r.sb, .int .u32 (r.di : Int), .int .i64 r.db, .int .u32 (r.ex : Int), .int .u16 r.fr, .int .u16 r.to, .int .u32 (r.ii : Int), .int .u16 r.ip] 42))
        have R_505 := Box11.make wr (.int .i64 r.k) (.int .u8 r.pr) (.int .u32 (r.si : Int)) (.int .i64 r.sb) (.int .u32 (r.di : Int)) (.int .i64 r.db) (.int .u32 (r.ex : Int)) (.int .u16 r.fr) (.int .u16 r.to) (.int .u32 (r.ii : Int)) (.int .u16 r.ip) 42
        have B506 := B2.alloc B2.size (.cells #[.int .i64 r.k, .int .u8 r.pr, .int .u32 (r.si : Int), .int .i64 r.sb, .int .u32 (r.di : Int), .int .i64 r.db, .int .u32 (r.ex : Int), .int .u16 r.fr, .int .u16 r.to, .int .u32 (r.ii : Int), .int .u16 r.ip] 42)
        clear T2 X2 Z2 B2
        have fzR_507 : ∀ i, (wr.alloc (.cells #[.int .i64 r.k, .int .u8 r.pr, .int .u32 (r.si : Int), .int .i64 r.sb, .int .u32 (r.di : Int), .int .i64 r.db, .int .u32 (r.ex : Int), .int .u16 r.fr, .int .u16 r.to, .int .u32 (r.ii : Int), .int .u16 r.ip] 42)).frozen? ⟨wr.heap.size, i, none⟩ = false := by intro i; simp [go_sem]
        obtain ⟨_, x3_0, x3_1, x3_2, x3_3, x3_4⟩ := id X_503
        obtain ⟨_, r4_0, r4_1, r4_2, r4_3, r4_4, r4_5, r4_6, r4_7, r4_8, r4_9, r4_10⟩ := id R_505
        go_wp2_with fail
        have b8 := bb.alloc bb.size (.cells #[.int .i64 r.k, .int .u8 r.pr, .int .u32 (r.si : Int), .int .i64 r.sb, .int .u32 (r.di : Int), .int .i64 r.db, .int .u32 (r.ex : Int), .int .u16 r.fr, .int .u16 r.to, .int .u32 (r.ii : Int), .int .u16 r.ip] 42)
        refine (m1 _).mono ?_; rintro e w61 ⟨rfl, x61⟩
        have b9 := b8.trans (x61.mono b8.size)
        have fzZ_508 : ∀ i, w61.frozen? ⟨(w.heap.size + 1), i, none⟩ = false := fun i => (x61.frozen (p := ⟨_, i, none⟩) Z_504.1).trans (fzZ_501 i)
        have fzR_509 : ∀ i, w61.frozen? ⟨wr.heap.size, i, none⟩ = false := fun i => (x61.frozen (p := ⟨_, i, none⟩) R_505.1).trans (fzR_507 i)
        clear fzZ_501 fzR_507
        have T_510 := T_502.on x61
        have X_511 := X_503.on x61
        have Z_512 := Z_504.on x61
        have R_513 := R_505.on x61
        have B514 := B506.trans (x61.mono B506.size)
        clear t1_0 t1_1 t1_2 t1_3 x2_0 x2_1 x2_2 x2_3 x2_4 x3_0 x3_1 x3_2 x3_3 x3_4 r4_0 r4_1 r4_2 r4_3 r4_4 r4_5 r4_6 r4_7 r4_8 r4_9 r4_10 T_502 X_503 Z_504 R_505 B506 x61
        obtain ⟨_, x5_0, x5_1, x5_2, x5_3, x5_4⟩ := id X_511
        obtain ⟨_, r6_0, r6_1, r6_2, r6_3, r6_4, r6_5, r6_6, r6_7, r6_8, r6_9, r6_10⟩ := id R_513
        go_wp2_with fail
        have BN_ : Below u1.heap.size u1 w61 := b9
        go_roundw
        case rel =>
          refine ⟨i + 1, HI.out, by go_num, BN_, fun j hj => ?_⟩
          by_cases e : j = i
          · rw [e, ← HR.out]; exact HV.out
          · exact HF.out j (by omega)
        case measure => have := HI.out; simp [intOf]; omega
      · simp only [Bool.not_true, Bool.not_false, Bool.and_true, Bool.and_false, Bool.true_and, Bool.false_and, Bool.or_true, Bool.or_false, Bool.true_or, Bool.false_or] at HV q1 q2 q3
        obtain ⟨_, t1_0, t1_1, t1_2, t1_3⟩ := id T2
        obtain ⟨_, x2_0, x2_1, x2_2, x2_3, x2_4⟩ := id X2
        have fzZ_501 : ∀ i, (wr.alloc (.cells #[.int .i64 r.k, .int .u8 r.pr, .int .u32 (r.si : Int), .int .i64 r.sb, .int .u32 (r.di : Int), .int .i64 r.db, .int .u32 (r.ex : Int), .int .u16 r.fr, .int .u16 r.to, .int .u32 (r.ii : Int), .int .u16 r.ip] 42)).frozen? ⟨(w.heap.size + 1), i, none⟩ = false := fun i => (((Below.refl wr.heap.size wr).alloc (Nat.le_refl _) (.cells #[.int .i64 r.k, .int .u8 r.pr, .int .u32 (r.si : Int), .int .i64 r.sb, .int .u32 (r.di : Int), .int .i64 r.db, .int .u32 (r.ex : Int), .int .u16 r.fr, .int .u16 r.to, .int .u32 (r.ii : Int), .int .u16 r.ip] 42)).frozen (p := ⟨_, i, none⟩) Z2.1).trans (fz2 i)
        clear fz2
        have T_502 := T2.past (o := (.cells #[.int .i64 r.k, .int .u8 r.pr, .int .u32 (r.si : Int), .int .i64 r.sb, .int .u32 (r.di : Int), .int .i64 r.db, .int .u32 (r.ex : Int), .int .u16 r.fr, .int .u16 r.to, .int .u32 (r.ii : Int), .int .u16 r.ip] 42))
        have X_503 := X2.past (o := (.cells #[.int .i64 r.k, .int .u8 r.pr, .int .u32 (r.si : Int), .int .i64 r.sb, .int .u32 (r.di : Int), .int .i64 r.db, .int .u32 (r.ex : Int), .int .u16 r.fr, .int .u16 r.to, .int .u32 (r.ii : Int), .int .u16 r.ip] 42))
        have Z_504 := Z2.past (o := (.cells #[.int .i64 r.k, .int .u8 r.pr, .int .u32 (r.si : Int), .int .i64 r.sb, .int .u32 (r.di : Int), .int .i64 r.db, .int .u32 (r.ex : Int), .int .u16 r.fr, .int .u16 r.to, .int .u32 (r.ii : Int), .int .u16 r.ip] 42))
        have R_505 := Box11.make wr (.int .i64 r.k) (.int .u8 r.pr) (.int .u32 (r.si : Int)) (.int .i64 r.sb) (.int .u32 (r.di : Int)) (.int .i64 r.db) (.int .u32 (r.ex : Int)) (.int .u16 r.fr) (.int .u16 r.to) (.int .u32 (r.ii : Int)) (.int .u16 r.ip) 42
        have B506 := B2.alloc B2.size (.cells #[.int .i64 r.k, .int .u8 r.pr, .int .u32 (r.si : Int), .int .i64 r.sb, .int .u32 (r.di : Int), .int .i64 r.db, .int .u32 (r.ex : Int), .int .u16 r.fr, .int .u16 r.to, .int .u32 (r.ii : Int), .int .u16 r.ip] 42)
        clear T2 X2 Z2 B2
        have fzR_507 : ∀ i, (wr.alloc (.cells #[.int .i64 r.k, .int .u8 r.pr, .int .u32 (r.si : Int), .int .i64 r.sb, .int .u32 (r.di : Int), .int .i64 r.db, .int .u32 (r.ex : Int), .int .u16 r.fr, .int .u16 r.to, .int .u32 (r.ii : Int), .int .u16 r.ip] 42)).frozen? ⟨wr.heap.size, i, none⟩ = false := by intro i; simp [go_sem]
        obtain ⟨_, x3_0, x3_1, x3_2, x3_3, x3_4⟩ := id X_503
        obtain ⟨_, r4_0, r4_1, r4_2, r4_3, r4_4, r4_5, r4_6, r4_7, r4_8, r4_9, r4_10⟩ := id R_505
        go_wp2_with fail
        have b8 := bb.alloc bb.size (.cells #[.int .i64 r.k, .int .u8 r.pr, .int .u32 (r.si : Int), .int .i64 r.sb, .int .u32 (r.di : Int), .int .i64 r.db, .int .u32 (r.ex : Int), .int .u16 r.fr, .int .u16 r.to, .int .u32 (r.ii : Int), .int .u16 r.ip] 42)
        refine (m1 _).mono ?_; rintro e w61 ⟨rfl, x61⟩
        have b9 := b8.trans (x61.mono b8.size)
        have fzZ_508 : ∀ i, w61.frozen? ⟨(w.heap.size + 1), i, none⟩ = false := fun i => (x61.frozen (p := ⟨_, i, none⟩) Z_504.1).trans (fzZ_501 i)
        have fzR_509 : ∀ i, w61.frozen? ⟨wr.heap.size, i, none⟩ = false := fun i => (x61.frozen (p := ⟨_, i, none⟩) R_505.1).trans (fzR_507 i)
        clear fzZ_501 fzR_507
        have T_510 := T_502.on x61
        have X_511 := X_503.on x61
        have Z_512 := Z_504.on x61
        have R_513 := R_505.on x61
        have B514 := B506.trans (x61.mono B506.size)
        clear t1_0 t1_1 t1_2 t1_3 x2_0 x2_1 x2_2 x2_3 x2_4 x3_0 x3_1 x3_2 x3_3 x3_4 r4_0 r4_1 r4_2 r4_3 r4_4 r4_5 r4_6 r4_7 r4_8 r4_9 r4_10 T_502 X_503 Z_504 R_505 B506 x61
        obtain ⟨_, x5_0, x5_1, x5_2, x5_3, x5_4⟩ := id X_511
        obtain ⟨_, r6_0, r6_1, r6_2, r6_3, r6_4, r6_5, r6_6, r6_7, r6_8, r6_9, r6_10⟩ := id R_513
        go_wp2_with fail
        refine (m2 _).mono ?_; rintro e w62 ⟨rfl, x62⟩
        have b10 := b9.trans (x62.mono b9.size)
        have fzZ_515 : ∀ i, w62.frozen? ⟨(w.heap.size + 1), i, none⟩ = false := fun i => (x62.frozen (p := ⟨_, i, none⟩) Z_512.1).trans (fzZ_508 i)
        have fzR_516 : ∀ i, w62.frozen? ⟨wr.heap.size, i, none⟩ = false := fun i => (x62.frozen (p := ⟨_, i, none⟩) R_513.1).trans (fzR_509 i)
        clear fzZ_508 fzR_509
        have T_517 := T_510.on x62
        have X_518 := X_511.on x62
        have Z_519 := Z_512.on x62
        have R_520 := R_513.on x62
        have B521 := B514.trans (x62.mono B514.size)
        clear x5_0 x5_1 x5_2 x5_3 x5_4 r6_0 r6_1 r6_2 r6_3 r6_4 r6_5 r6_6 r6_7 r6_8 r6_9 r6_10 T_510 X_511 Z_512 R_513 B514 x62
        obtain ⟨_, x7_0, x7_1, x7_2, x7_3, x7_4⟩ := id X_518
        obtain ⟨_, r8_0, r8_1, r8_2, r8_3, r8_4, r8_5, r8_6, r8_7, r8_8, r8_9, r8_10⟩ := id R_520
        go_wp2_with fail
        have BN_ : Below u1.heap.size u1 w62 := b10
        go_roundw
        case rel =>
          refine ⟨i + 1, HI.out, by go_num, BN_, fun j hj => ?_⟩
          by_cases e : j = i
          · rw [e, ← HR.out]; exact HV.out
          · exact HF.out j (by omega)
        case measure => have := HI.out; simp [intOf]; omega
      · simp only [Bool.not_true, Bool.not_false, Bool.and_true, Bool.and_false, Bool.true_and, Bool.false_and, Bool.or_true, Bool.or_false, Bool.true_or, Bool.false_or] at HV q1 q2 q3
        obtain ⟨_, t1_0, t1_1, t1_2, t1_3⟩ := id T2
        obtain ⟨_, x2_0, x2_1, x2_2, x2_3, x2_4⟩ := id X2
        have fzZ_501 : ∀ i, (wr.alloc (.cells #[.int .i64 r.k, .int .u8 r.pr, .int .u32 (r.si : Int), .int .i64 r.sb, .int .u32 (r.di : Int), .int .i64 r.db, .int .u32 (r.ex : Int), .int .u16 r.fr, .int .u16 r.to, .int .u32 (r.ii : Int), .int .u16 r.ip] 42)).frozen? ⟨(w.heap.size + 1), i, none⟩ = false := fun i => (((Below.refl wr.heap.size wr).alloc (Nat.le_refl _) (.cells #[.int .i64 r.k, .int .u8 r.pr, .int .u32 (r.si : Int), .int .i64 r.sb, .int .u32 (r.di : Int), .int .i64 r.db, .int .u32 (r.ex : Int), .int .u16 r.fr, .int .u16 r.to, .int .u32 (r.ii : Int), .int .u16 r.ip] 42)).frozen (p := ⟨_, i, none⟩) Z2.1).trans (fz2 i)
        clear fz2
        have T_502 := T2.past (o := (.cells #[.int .i64 r.k, .int .u8 r.pr, .int .u32 (r.si : Int), .int .i64 r.sb, .int .u32 (r.di : Int), .int .i64 r.db, .int .u32 (r.ex : Int), .int .u16 r.fr, .int .u16 r.to, .int .u32 (r.ii : Int), .int .u16 r.ip] 42))
        have X_503 := X2.past (o := (.cells #[.int .i64 r.k, .int .u8 r.pr, .int .u32 (r.si : Int), .int .i64 r.sb, .int .u32 (r.di : Int), .int .i64 r.db, .int .u32 (r.ex : Int), .int .u16 r.fr, .int .u16 r.to, .int .u32 (r.ii : Int), .int .u16 r.ip] 42))
        have Z_504 := Z2.past (o := (.cells #[.int .i64 r.k, .int .u8 r.pr, .int .u32 (r.si : Int), .int .i64 r.sb, .int .u32 (r.di : Int), .int .i64 r.db, .int .u32 (r.ex : Int), .int .u16 r.fr, .int .u16 r.to, .int .u32 (r.ii : Int), .int .u16 r.ip] 42))
        have R_505 := Box11.make wr (.int .i64 r.k) (.int .u8 r.pr) (.int .u32 (r.si : Int)) (.int .i64 r.sb) (.int .u32 (r.di : Int)) (.int .i64 r.db) (.int .u32 (r.ex : Int)) (.int .u16 r.fr) (.int .u16 r.to) (.int .u32 (r.ii : Int)) (.int .u16 r.ip) 42
        have B506 := B2.alloc B2.size (.cells #[.int .i64 r.k, .int .u8 r.pr, .int .u32 (r.si : Int), .int .i64 r.sb, .int .u32 (r.di : Int), .int .i64 r.db, .int .u32 (r.ex : Int), .int .u16 r.fr, .int .u16 r.to, .int .u32 (r.ii : Int), .int .u16 r.ip] 42)
        clear T2 X2 Z2 B2
        have fzR_507 : ∀ i, (wr.alloc (.cells #[.int .i64 r.k, .int .u8 r.pr, .int .u32 (r.si : Int), .int .i64 r.sb, .int .u32 (r.di : Int), .int .i64 r.db, .int .u32 (r.ex : Int), .int .u16 r.fr, .int .u16 r.to, .int .u32 (r.ii : Int), .int .u16 r.ip] 42)).frozen? ⟨wr.heap.size, i, none⟩ = false := by intro i; simp [go_sem]
        obtain ⟨_, x3_0, x3_1, x3_2, x3_3, x3_4⟩ := id X_503
        obtain ⟨_, r4_0, r4_1, r4_2, r4_3, r4_4, r4_5, r4_6, r4_7, r4_8, r4_9, r4_10⟩ := id R_505
        go_wp2_with fail
        have b8 := bb.alloc bb.size (.cells #[.int .i64 r.k, .int .u8 r.pr, .int .u32 (r.si : Int), .int .i64 r.sb, .int .u32 (r.di : Int), .int .i64 r.db, .int .u32 (r.ex : Int), .int .u16 r.fr, .int .u16 r.to, .int .u32 (r.ii : Int), .int .u16 r.ip] 42)
        refine (m1 _).mono ?_; rintro e w61 ⟨rfl, x61⟩
        have b9 := b8.trans (x61.mono b8.size)
        have fzZ_508 : ∀ i, w61.frozen? ⟨(w.heap.size + 1), i, none⟩ = false := fun i => (x61.frozen (p := ⟨_, i, none⟩) Z_504.1).trans (fzZ_501 i)
        have fzR_509 : ∀ i, w61.frozen? ⟨wr.heap.size, i, none⟩ = false := fun i => (x61.frozen (p := ⟨_, i, none⟩) R_505.1).trans (fzR_507 i)
        clear fzZ_501 fzR_507
        have T_510 := T_502.on x61
        have X_511 := X_503.on x61
        have Z_512 := Z_504.on x61
        have R_513 := R_505.on x61
        have B514 := B506.trans (x61.mono B506.size)
        clear t1_0 t1_1 t1_2 t1_3 x2_0 x2_1 x2_2 x2_3 x2_4 x3_0 x3_1 x3_2 x3_3 x3_4 r4_0 r4_1 r4_2 r4_3 r4_4 r4_5 r4_6 r4_7 r4_8 r4_9 r4_10 T_502 X_503 Z_504 R_505 B506 x61
        obtain ⟨_, x5_0, x5_1, x5_2, x5_3, x5_4⟩ := id X_511
        obtain ⟨_, r6_0, r6_1, r6_2, r6_3, r6_4, r6_5, r6_6, r6_7, r6_8, r6_9, r6_10⟩ := id R_513
        go_wp2_with fail
        refine (m2 _).mono ?_; rintro e w62 ⟨rfl, x62⟩
        have b10 := b9.trans (x62.mono b9.size)
        have fzZ_515 : ∀ i, w62.frozen? ⟨(w.heap.size + 1), i, none⟩ = false := fun i => (x62.frozen (p := ⟨_, i, none⟩) Z_512.1).trans (fzZ_508 i)
        have fzR_516 : ∀ i, w62.frozen? ⟨wr.heap.size, i, none⟩ = false := fun i => (x62.frozen (p := ⟨_, i, none⟩) R_513.1).trans (fzR_509 i)
        clear fzZ_508 fzR_509
        have T_517 := T_510.on x62
        have X_518 := X_511.on x62
        have Z_519 := Z_512.on x62
        have R_520 := R_513.on x62
        have B521 := B514.trans (x62.mono B514.size)
        clear x5_0 x5_1 x5_2 x5_3 x5_4 r6_0 r6_1 r6_2 r6_3 r6_4 r6_5 r6_6 r6_7 r6_8 r6_9 r6_10 T_510 X_511 Z_512 R_513 B514 x62
        clear X_518
        obtain ⟨_, r7_0, r7_1, r7_2, r7_3, r7_4, r7_5, r7_6, r7_7, r7_8, r7_9, r7_10⟩ := id R_520
        go_wp2_with fail
        refine ((rextR_ t r p _ _ T_517)).mono ?_; rintro e w63 ⟨rfl, x63⟩
        have fzZ_522 : ∀ i, w63.frozen? ⟨(w.heap.size + 1), i, none⟩ = false := fun i => (x63.frozen (p := ⟨_, i, none⟩) Z_519.1).trans (fzZ_515 i)
        have fzR_523 : ∀ i, w63.frozen? ⟨wr.heap.size, i, none⟩ = false := fun i => (x63.frozen (p := ⟨_, i, none⟩) R_520.1).trans (fzR_516 i)
        clear fzZ_515 fzR_516
        have T_524 := T_517.on x63
        have Z_525 := Z_519.on x63
        have R_526 := R_520.on x63
        have B527 := B521.trans (x63.mono B521.size)
        clear r7_0 r7_1 r7_2 r7_3 r7_4 r7_5 r7_6 r7_7 r7_8 r7_9 r7_10 T_517 Z_519 R_520 B521 x63
        have ne1_ : ¬ wr.heap.size = w.heap.size + 1 := by have := LW.out.2.1; omega
        have ne2_ : ¬ w.heap.size + 1 = wr.heap.size := by have := LW.out.2.1; omega
        have ne3_ : ¬ wr.heap.size = p := by have := LW.out.1; omega
        have ne4_ : ¬ p = wr.heap.size := by have := LW.out.1; omega
        clear T_524
        obtain ⟨_, r8_0, r8_1, r8_2, r8_3, r8_4, r8_5, r8_6, r8_7, r8_8, r8_9, r8_10⟩ := id R_526
        go_upto_region 7 with fail
        clear r8_0 r8_1 r8_2 r8_3 r8_4 r8_5 r8_6 r8_7 r8_8 r8_9 r8_10
        obtain ⟨_, z9_0, z9_1, z9_2, z9_3, z9_4, z9_5, z9_6, z9_7, z9_8, z9_9, z9_10⟩ := id Z_525
        obtain ⟨_, r10_0, r10_1, r10_2, r10_3, r10_4, r10_5, r10_6, r10_7, r10_8, r10_9, r10_10⟩ := id R_526
        have B528 := (B527.setCell (p := ⟨wr.heap.size, 6, none⟩) (by have := LW.out.2.1; show w.heap.size ≤ wr.heap.size; omega) (.int .u32 (extRu t r : Nat)))
        have Z_529 : Box11 (w63.setCell ⟨wr.heap.size, 6, none⟩ (.int .u32 (extRu t r : Nat))) (w.heap.size + 1) (.int .i64 0) (.int .u8 0) (.int .u32 0) (.int .i64 0) (.int .u32 0) (.int .i64 0) (.int .u32 0) (.int .u16 0) (.int .u16 0) (.int .u32 0) (.int .u16 0) := ⟨by have := Z_525.1; simpa using this, by simp [go_sem, z9_0, z9_1, z9_2, z9_3, z9_4, z9_5, z9_6, z9_7, z9_8, z9_9, z9_10, r10_0, r10_1, r10_2, r10_3, r10_4, r10_5, r10_6, r10_7, r10_8, r10_9, r10_10], by simp [go_sem, z9_0, z9_1, z9_2, z9_3, z9_4, z9_5, z9_6, z9_7, z9_8, z9_9, z9_10, r10_0, r10_1, r10_2, r10_3, r10_4, r10_5, r10_6, r10_7, r10_8, r10_9, r10_10], by simp [go_sem, z9_0, z9_1, z9_2, z9_3, z9_4, z9_5, z9_6, z9_7, z9_8, z9_9, z9_10, r10_0, r10_1, r10_2, r10_3, r10_4, r10_5, r10_6, r10_7, r10_8, r10_9, r10_10], by simp [go_sem, z9_0, z9_1, z9_2, z9_3, z9_4, z9_5, z9_6, z9_7, z9_8, z9_9, z9_10, r10_0, r10_1, r10_2, r10_3, r10_4, r10_5, r10_6, r10_7, r10_8, r10_9, r10_10], by simp [go_sem, z9_0, z9_1, z9_2, z9_3, z9_4, z9_5, z9_6, z9_7, z9_8, z9_9, z9_10, r10_0, r10_1, r10_2, r10_3, r10_4, r10_5, r10_6, r10_7, r10_8, r10_9, r10_10], by simp [go_sem, z9_0, z9_1, z9_2, z9_3, z9_4, z9_5, z9_6, z9_7, z9_8, z9_9, z9_10, r10_0, r10_1, r10_2, r10_3, r10_4, r10_5, r10_6, r10_7, r10_8, r10_9, r10_10], by simp [go_sem, z9_0, z9_1, z9_2, z9_3, z9_4, z9_5, z9_6, z9_7, z9_8, z9_9, z9_10, r10_0, r10_1, r10_2, r10_3, r10_4, r10_5, r10_6, r10_7, r10_8, r10_9, r10_10], by simp [go_sem, z9_0, z9_1, z9_2, z9_3, z9_4, z9_5, z9_6, z9_7, z9_8, z9_9, z9_10, r10_0, r10_1, r10_2, r10_3, r10_4, r10_5, r10_6, r10_7, r10_8, r10_9, r10_10], by simp [go_sem, z9_0, z9_1, z9_2, z9_3, z9_4, z9_5, z9_6, z9_7, z9_8, z9_9, z9_10, r10_0, r10_1, r10_2, r10_3, r10_4, r10_5, r10_6, r10_7, r10_8, r10_9, r10_10], by simp [go_sem, z9_0, z9_1, z9_2, z9_3, z9_4, z9_5, z9_6, z9_7, z9_8, z9_9, z9_10, r10_0, r10_1, r10_2, r10_3, r10_4, r10_5, r10_6, r10_7, r10_8, r10_9, r10_10], by simp [go_sem, z9_0, z9_1, z9_2, z9_3, z9_4, z9_5, z9_6, z9_7, z9_8, z9_9, z9_10, r10_0, r10_1, r10_2, r10_3, r10_4, r10_5, r10_6, r10_7, r10_8, r10_9, r10_10]⟩
        have R_530 : Box11 (w63.setCell ⟨wr.heap.size, 6, none⟩ (.int .u32 (extRu t r : Nat))) wr.heap.size (.int .i64 r.k) (.int .u8 r.pr) (.int .u32 (r.si : Int)) (.int .i64 r.sb) (.int .u32 (r.di : Int)) (.int .i64 r.db) (.int .u32 (extRu t r : Nat)) (.int .u16 r.fr) (.int .u16 r.to) (.int .u32 (r.ii : Int)) (.int .u16 r.ip) := ⟨by have := R_526.1; simpa using this, by simp [go_sem, z9_0, z9_1, z9_2, z9_3, z9_4, z9_5, z9_6, z9_7, z9_8, z9_9, z9_10, r10_0, r10_1, r10_2, r10_3, r10_4, r10_5, r10_6, r10_7, r10_8, r10_9, r10_10], by simp [go_sem, z9_0, z9_1, z9_2, z9_3, z9_4, z9_5, z9_6, z9_7, z9_8, z9_9, z9_10, r10_0, r10_1, r10_2, r10_3, r10_4, r10_5, r10_6, r10_7, r10_8, r10_9, r10_10], by simp [go_sem, z9_0, z9_1, z9_2, z9_3, z9_4, z9_5, z9_6, z9_7, z9_8, z9_9, z9_10, r10_0, r10_1, r10_2, r10_3, r10_4, r10_5, r10_6, r10_7, r10_8, r10_9, r10_10], by simp [go_sem, z9_0, z9_1, z9_2, z9_3, z9_4, z9_5, z9_6, z9_7, z9_8, z9_9, z9_10, r10_0, r10_1, r10_2, r10_3, r10_4, r10_5, r10_6, r10_7, r10_8, r10_9, r10_10], by simp [go_sem, z9_0, z9_1, z9_2, z9_3, z9_4, z9_5, z9_6, z9_7, z9_8, z9_9, z9_10, r10_0, r10_1, r10_2, r10_3, r10_4, r10_5, r10_6, r10_7, r10_8, r10_9, r10_10], by simp [go_sem, z9_0, z9_1, z9_2, z9_3, z9_4, z9_5, z9_6, z9_7, z9_8, z9_9, z9_10, r10_0, r10_1, r10_2, r10_3, r10_4, r10_5, r10_6, r10_7, r10_8, r10_9, r10_10], by simp [go_sem, z9_0, z9_1, z9_2, z9_3, z9_4, z9_5, z9_6, z9_7, z9_8, z9_9, z9_10, r10_0, r10_1, r10_2, r10_3, r10_4, r10_5, r10_6, r10_7, r10_8, r10_9, r10_10], by simp [go_sem, z9_0, z9_1, z9_2, z9_3, z9_4, z9_5, z9_6, z9_7, z9_8, z9_9, z9_10, r10_0, r10_1, r10_2, r10_3, r10_4, r10_5, r10_6, r10_7, r10_8, r10_9, r10_10], by simp [go_sem, z9_0, z9_1, z9_2, z9_3, z9_4, z9_5, z9_6, z9_7, z9_8, z9_9, z9_10, r10_0, r10_1, r10_2, r10_3, r10_4, r10_5, r10_6, r10_7, r10_8, r10_9, r10_10], by simp [go_sem, z9_0, z9_1, z9_2, z9_3, z9_4, z9_5, z9_6, z9_7, z9_8, z9_9, z9_10, r10_0, r10_1, r10_2, r10_3, r10_4, r10_5, r10_6, r10_7, r10_8, r10_9, r10_10], by simp [go_sem, z9_0, z9_1, z9_2, z9_3, z9_4, z9_5, z9_6, z9_7, z9_8, z9_9, z9_10, r10_0, r10_1, r10_2, r10_3, r10_4, r10_5, r10_6, r10_7, r10_8, r10_9, r10_10]⟩
        have fzZ_531 : ∀ i, (w63.setCell ⟨wr.heap.size, 6, none⟩ (.int .u32 (extRu t r : Nat))).frozen? ⟨(w.heap.size + 1), i, none⟩ = false := by intro i; simp [fzZ_522]
        have fzR_532 : ∀ i, (w63.setCell ⟨wr.heap.size, 6, none⟩ (.int .u32 (extRu t r : Nat))).frozen? ⟨wr.heap.size, i, none⟩ = false := by intro i; simp [fzR_523]
        clear z9_0 z9_1 z9_2 z9_3 z9_4 z9_5 z9_6 z9_7 z9_8 z9_9 z9_10 r10_0 r10_1 r10_2 r10_3 r10_4 r10_5 r10_6 r10_7 r10_8 r10_9 r10_10 Z_525 R_526 fzZ_522 fzR_523 B527
        obtain ⟨u64, hu64⟩ : ∃ x, x = (w63.setCell ⟨wr.heap.size, 6, none⟩ (.int .u32 (extRu t r : Nat))) := ⟨_, rfl⟩
        rw [← hu64] at Z_529 R_530 fzZ_531 fzR_532 B528 ⊢
        clear hu64
        have HT : Hid (Q = { r with ex := extRu t r } ∧ hitRu rs (fitF pr sa da) = true) := by
          have := first_fit HI.out HR.out HF.out HV.out
          refine ⟨?_, this.2⟩
          rw [HG.out, this.2, this.1]
          rfl
        obtain ⟨_, r11_0, r11_1, r11_2, r11_3, r11_4, r11_5, r11_6, r11_7, r11_8, r11_9, r11_10⟩ := id R_530
        obtain ⟨_, z12_0, z12_1, z12_2, z12_3, z12_4, z12_5, z12_6, z12_7, z12_8, z12_9, z12_10⟩ := id Z_529
        go_wp2
        refine box11_ (b := w.heap.size + 1) Z_529.some B528 (Nat.le_succ _) fun X x0_ x1_ x2_ x3_ x4_ x5_ x6_ x7_ x8_ x9_ x10_ BX _ _ => ?_
        refine bodyPost_ret (v := .tuple #[.agg #[.int .i64 r.k, .int .u8 r.pr, .int .u32 (r.si : Int), .int .i64 r.sb, .int .u32 (r.di : Int), .int .i64 r.db, .int .u32 (extRu t r : Nat), .int .u16 r.fr, .int .u16 r.to, .int .u32 (r.ii : Int), .int .u16 r.ip], .bool true]) (by simp [results, Try.results50, go_sem, x0_, x1_, x2_, x3_, x4_, x5_, x6_, x7_, x8_, x9_, x10_]) rfl ?_
        rw [HT.out.1, HT.out.2]
        exact ⟨rfl, BX⟩
      · simp only [Bool.not_true, Bool.not_false, Bool.and_true, Bool.and_false, Bool.true_and, Bool.false_and, Bool.or_true, Bool.or_false, Bool.true_or, Bool.false_or] at HV q1 q2 q3
        obtain ⟨_, t1_0, t1_1, t1_2, t1_3⟩ := id T2
        obtain ⟨_, x2_0, x2_1, x2_2, x2_3, x2_4⟩ := id X2
        have fzZ_501 : ∀ i, (wr.alloc (.cells #[.int .i64 r.k, .int .u8 r.pr, .int .u32 (r.si : Int), .int .i64 r.sb, .int .u32 (r.di : Int), .int .i64 r.db, .int .u32 (r.ex : Int), .int .u16 r.fr, .int .u16 r.to, .int .u32 (r.ii : Int), .int .u16 r.ip] 42)).frozen? ⟨(w.heap.size + 1), i, none⟩ = false := fun i => (((Below.refl wr.heap.size wr).alloc (Nat.le_refl _) (.cells #[.int .i64 r.k, .int .u8 r.pr, .int .u32 (r.si : Int), .int .i64 r.sb, .int .u32 (r.di : Int), .int .i64 r.db, .int .u32 (r.ex : Int), .int .u16 r.fr, .int .u16 r.to, .int .u32 (r.ii : Int), .int .u16 r.ip] 42)).frozen (p := ⟨_, i, none⟩) Z2.1).trans (fz2 i)
        clear fz2
        have T_502 := T2.past (o := (.cells #[.int .i64 r.k, .int .u8 r.pr, .int .u32 (r.si : Int), .int .i64 r.sb, .int .u32 (r.di : Int), .int .i64 r.db, .int .u32 (r.ex : Int), .int .u16 r.fr, .int .u16 r.to, .int .u32 (r.ii : Int), .int .u16 r.ip] 42))
        have X_503 := X2.past (o := (.cells #[.int .i64 r.k, .int .u8 r.pr, .int .u32 (r.si : Int), .int .i64 r.sb, .int .u32 (r.di : Int), .int .i64 r.db, .int .u32 (r.ex : Int), .int .u16 r.fr, .int .u16 r.to, .int .u32 (r.ii : Int), .int .u16 r.ip] 42))
        have Z_504 := Z2.past (o := (.cells #[.int .i64 r.k, .int .u8 r.pr, .int .u32 (r.si : Int), .int .i64 r.sb, .int .u32 (r.di : Int), .int .i64 r.db, .int .u32 (r.ex : Int), .int .u16 r.fr, .int .u16 r.to, .int .u32 (r.ii : Int), .int .u16 r.ip] 42))
        have R_505 := Box11.make wr (.int .i64 r.k) (.int .u8 r.pr) (.int .u32 (r.si : Int)) (.int .i64 r.sb) (.int .u32 (r.di : Int)) (.int .i64 r.db) (.int .u32 (r.ex : Int)) (.int .u16 r.fr) (.int .u16 r.to) (.int .u32 (r.ii : Int)) (.int .u16 r.ip) 42
        have B506 := B2.alloc B2.size (.cells #[.int .i64 r.k, .int .u8 r.pr, .int .u32 (r.si : Int), .int .i64 r.sb, .int .u32 (r.di : Int), .int .i64 r.db, .int .u32 (r.ex : Int), .int .u16 r.fr, .int .u16 r.to, .int .u32 (r.ii : Int), .int .u16 r.ip] 42)
        clear T2 X2 Z2 B2
        have fzR_507 : ∀ i, (wr.alloc (.cells #[.int .i64 r.k, .int .u8 r.pr, .int .u32 (r.si : Int), .int .i64 r.sb, .int .u32 (r.di : Int), .int .i64 r.db, .int .u32 (r.ex : Int), .int .u16 r.fr, .int .u16 r.to, .int .u32 (r.ii : Int), .int .u16 r.ip] 42)).frozen? ⟨wr.heap.size, i, none⟩ = false := by intro i; simp [go_sem]
        obtain ⟨_, x3_0, x3_1, x3_2, x3_3, x3_4⟩ := id X_503
        obtain ⟨_, r4_0, r4_1, r4_2, r4_3, r4_4, r4_5, r4_6, r4_7, r4_8, r4_9, r4_10⟩ := id R_505
        go_wp2_with fail
        have b8 := bb.alloc bb.size (.cells #[.int .i64 r.k, .int .u8 r.pr, .int .u32 (r.si : Int), .int .i64 r.sb, .int .u32 (r.di : Int), .int .i64 r.db, .int .u32 (r.ex : Int), .int .u16 r.fr, .int .u16 r.to, .int .u32 (r.ii : Int), .int .u16 r.ip] 42)
        refine (m1 _).mono ?_; rintro e w61 ⟨rfl, x61⟩
        have b9 := b8.trans (x61.mono b8.size)
        have fzZ_508 : ∀ i, w61.frozen? ⟨(w.heap.size + 1), i, none⟩ = false := fun i => (x61.frozen (p := ⟨_, i, none⟩) Z_504.1).trans (fzZ_501 i)
        have fzR_509 : ∀ i, w61.frozen? ⟨wr.heap.size, i, none⟩ = false := fun i => (x61.frozen (p := ⟨_, i, none⟩) R_505.1).trans (fzR_507 i)
        clear fzZ_501 fzR_507
        have T_510 := T_502.on x61
        have X_511 := X_503.on x61
        have Z_512 := Z_504.on x61
        have R_513 := R_505.on x61
        have B514 := B506.trans (x61.mono B506.size)
        clear t1_0 t1_1 t1_2 t1_3 x2_0 x2_1 x2_2 x2_3 x2_4 x3_0 x3_1 x3_2 x3_3 x3_4 r4_0 r4_1 r4_2 r4_3 r4_4 r4_5 r4_6 r4_7 r4_8 r4_9 r4_10 T_502 X_503 Z_504 R_505 B506 x61
        obtain ⟨_, x5_0, x5_1, x5_2, x5_3, x5_4⟩ := id X_511
        obtain ⟨_, r6_0, r6_1, r6_2, r6_3, r6_4, r6_5, r6_6, r6_7, r6_8, r6_9, r6_10⟩ := id R_513
        go_wp2_with fail
        have BN_ : Below u1.heap.size u1 w61 := b9
        go_roundw
        case rel =>
          refine ⟨i + 1, HI.out, by go_num, BN_, fun j hj => ?_⟩
          by_cases e : j = i
          · rw [e, ← HR.out]; exact HV.out
          · exact HF.out j (by omega)
        case measure => have := HI.out; simp [intOf]; omega
      · simp only [Bool.not_true, Bool.not_false, Bool.and_true, Bool.and_false, Bool.true_and, Bool.false_and, Bool.or_true, Bool.or_false, Bool.true_or, Bool.false_or] at HV q1 q2 q3
        obtain ⟨_, t1_0, t1_1, t1_2, t1_3⟩ := id T2
        obtain ⟨_, x2_0, x2_1, x2_2, x2_3, x2_4⟩ := id X2
        have fzZ_501 : ∀ i, (wr.alloc (.cells #[.int .i64 r.k, .int .u8 r.pr, .int .u32 (r.si : Int), .int .i64 r.sb, .int .u32 (r.di : Int), .int .i64 r.db, .int .u32 (r.ex : Int), .int .u16 r.fr, .int .u16 r.to, .int .u32 (r.ii : Int), .int .u16 r.ip] 42)).frozen? ⟨(w.heap.size + 1), i, none⟩ = false := fun i => (((Below.refl wr.heap.size wr).alloc (Nat.le_refl _) (.cells #[.int .i64 r.k, .int .u8 r.pr, .int .u32 (r.si : Int), .int .i64 r.sb, .int .u32 (r.di : Int), .int .i64 r.db, .int .u32 (r.ex : Int), .int .u16 r.fr, .int .u16 r.to, .int .u32 (r.ii : Int), .int .u16 r.ip] 42)).frozen (p := ⟨_, i, none⟩) Z2.1).trans (fz2 i)
        clear fz2
        have T_502 := T2.past (o := (.cells #[.int .i64 r.k, .int .u8 r.pr, .int .u32 (r.si : Int), .int .i64 r.sb, .int .u32 (r.di : Int), .int .i64 r.db, .int .u32 (r.ex : Int), .int .u16 r.fr, .int .u16 r.to, .int .u32 (r.ii : Int), .int .u16 r.ip] 42))
        have X_503 := X2.past (o := (.cells #[.int .i64 r.k, .int .u8 r.pr, .int .u32 (r.si : Int), .int .i64 r.sb, .int .u32 (r.di : Int), .int .i64 r.db, .int .u32 (r.ex : Int), .int .u16 r.fr, .int .u16 r.to, .int .u32 (r.ii : Int), .int .u16 r.ip] 42))
        have Z_504 := Z2.past (o := (.cells #[.int .i64 r.k, .int .u8 r.pr, .int .u32 (r.si : Int), .int .i64 r.sb, .int .u32 (r.di : Int), .int .i64 r.db, .int .u32 (r.ex : Int), .int .u16 r.fr, .int .u16 r.to, .int .u32 (r.ii : Int), .int .u16 r.ip] 42))
        have R_505 := Box11.make wr (.int .i64 r.k) (.int .u8 r.pr) (.int .u32 (r.si : Int)) (.int .i64 r.sb) (.int .u32 (r.di : Int)) (.int .i64 r.db) (.int .u32 (r.ex : Int)) (.int .u16 r.fr) (.int .u16 r.to) (.int .u32 (r.ii : Int)) (.int .u16 r.ip) 42
        have B506 := B2.alloc B2.size (.cells #[.int .i64 r.k, .int .u8 r.pr, .int .u32 (r.si : Int), .int .i64 r.sb, .int .u32 (r.di : Int), .int .i64 r.db, .int .u32 (r.ex : Int), .int .u16 r.fr, .int .u16 r.to, .int .u32 (r.ii : Int), .int .u16 r.ip] 42)
        clear T2 X2 Z2 B2
        have fzR_507 : ∀ i, (wr.alloc (.cells #[.int .i64 r.k, .int .u8 r.pr, .int .u32 (r.si : Int), .int .i64 r.sb, .int .u32 (r.di : Int), .int .i64 r.db, .int .u32 (r.ex : Int), .int .u16 r.fr, .int .u16 r.to, .int .u32 (r.ii : Int), .int .u16 r.ip] 42)).frozen? ⟨wr.heap.size, i, none⟩ = false := by intro i; simp [go_sem]
        obtain ⟨_, x3_0, x3_1, x3_2, x3_3, x3_4⟩ := id X_503
        obtain ⟨_, r4_0, r4_1, r4_2, r4_3, r4_4, r4_5, r4_6, r4_7, r4_8, r4_9, r4_10⟩ := id R_505
        go_wp2_with fail
        have b8 := bb.alloc bb.size (.cells #[.int .i64 r.k, .int .u8 r.pr, .int .u32 (r.si : Int), .int .i64 r.sb, .int .u32 (r.di : Int), .int .i64 r.db, .int .u32 (r.ex : Int), .int .u16 r.fr, .int .u16 r.to, .int .u32 (r.ii : Int), .int .u16 r.ip] 42)
        refine (m1 _).mono ?_; rintro e w61 ⟨rfl, x61⟩
        have b9 := b8.trans (x61.mono b8.size)
        have fzZ_508 : ∀ i, w61.frozen? ⟨(w.heap.size + 1), i, none⟩ = false := fun i => (x61.frozen (p := ⟨_, i, none⟩) Z_504.1).trans (fzZ_501 i)
        have fzR_509 : ∀ i, w61.frozen? ⟨wr.heap.size, i, none⟩ = false := fun i => (x61.frozen (p := ⟨_, i, none⟩) R_505.1).trans (fzR_507 i)
        clear fzZ_501 fzR_507
        have T_510 := T_502.on x61
        have X_511 := X_503.on x61
        have Z_512 := Z_504.on x61
        have R_513 := R_505.on x61
        have B514 := B506.trans (x61.mono B506.size)
        clear t1_0 t1_1 t1_2 t1_3 x2_0 x2_1 x2_2 x2_3 x2_4 x3_0 x3_1 x3_2 x3_3 x3_4 r4_0 r4_1 r4_2 r4_3 r4_4 r4_5 r4_6 r4_7 r4_8 r4_9 r4_10 T_502 X_503 Z_504 R_505 B506 x61
        obtain ⟨_, x5_0, x5_1, x5_2, x5_3, x5_4⟩ := id X_511
        obtain ⟨_, r6_0, r6_1, r6_2, r6_3, r6_4, r6_5, r6_6, r6_7, r6_8, r6_9, r6_10⟩ := id R_513
        go_wp2_with fail
        refine (m2 _).mono ?_; rintro e w62 ⟨rfl, x62⟩
        have b10 := b9.trans (x62.mono b9.size)
        have fzZ_515 : ∀ i, w62.frozen? ⟨(w.heap.size + 1), i, none⟩ = false := fun i => (x62.frozen (p := ⟨_, i, none⟩) Z_512.1).trans (fzZ_508 i)
        have fzR_516 : ∀ i, w62.frozen? ⟨wr.heap.size, i, none⟩ = false := fun i => (x62.frozen (p := ⟨_, i, none⟩) R_513.1).trans (fzR_509 i)
        clear fzZ_508 fzR_509
        have T_517 := T_510.on x62
        have X_518 := X_511.on x62
        have Z_519 := Z_512.on x62
        have R_520 := R_513.on x62
        have B521 := B514.trans (x62.mono B514.size)
        clear x5_0 x5_1 x5_2 x5_3 x5_4 r6_0 r6_1 r6_2 r6_3 r6_4 r6_5 r6_6 r6_7 r6_8 r6_9 r6_10 T_510 X_511 Z_512 R_513 B514 x62
        obtain ⟨_, x7_0, x7_1, x7_2, x7_3, x7_4⟩ := id X_518
        obtain ⟨_, r8_0, r8_1, r8_2, r8_3, r8_4, r8_5, r8_6, r8_7, r8_8, r8_9, r8_10⟩ := id R_520
        go_wp2_with fail
        have BN_ : Below u1.heap.size u1 w62 := b10
        go_roundw
        case rel =>
          refine ⟨i + 1, HI.out, by go_num, BN_, fun j hj => ?_⟩
          by_cases e : j = i
          · rw [e, ← HR.out]; exact HV.out
          · exact HF.out j (by omega)
        case measure => have := HI.out; simp [intOf]; omega
      · simp only [Bool.not_true, Bool.not_false, Bool.and_true, Bool.and_false, Bool.true_and, Bool.false_and, Bool.or_true, Bool.or_false, Bool.true_or, Bool.false_or] at HV q1 q2 q3
        obtain ⟨_, t1_0, t1_1, t1_2, t1_3⟩ := id T2
        obtain ⟨_, x2_0, x2_1, x2_2, x2_3, x2_4⟩ := id X2
        have fzZ_501 : ∀ i, (wr.alloc (.cells #[.int .i64 r.k, .int .u8 r.pr, .int .u32 (r.si : Int), .int .i64 r.sb, .int .u32 (r.di : Int), .int .i64 r.db, .int .u32 (r.ex : Int), .int .u16 r.fr, .int .u16 r.to, .int .u32 (r.ii : Int), .int .u16 r.ip] 42)).frozen? ⟨(w.heap.size + 1), i, none⟩ = false := fun i => (((Below.refl wr.heap.size wr).alloc (Nat.le_refl _) (.cells #[.int .i64 r.k, .int .u8 r.pr, .int .u32 (r.si : Int), .int .i64 r.sb, .int .u32 (r.di : Int), .int .i64 r.db, .int .u32 (r.ex : Int), .int .u16 r.fr, .int .u16 r.to, .int .u32 (r.ii : Int), .int .u16 r.ip] 42)).frozen (p := ⟨_, i, none⟩) Z2.1).trans (fz2 i)
        clear fz2
        have T_502 := T2.past (o := (.cells #[.int .i64 r.k, .int .u8 r.pr, .int .u32 (r.si : Int), .int .i64 r.sb, .int .u32 (r.di : Int), .int .i64 r.db, .int .u32 (r.ex : Int), .int .u16 r.fr, .int .u16 r.to, .int .u32 (r.ii : Int), .int .u16 r.ip] 42))
        have X_503 := X2.past (o := (.cells #[.int .i64 r.k, .int .u8 r.pr, .int .u32 (r.si : Int), .int .i64 r.sb, .int .u32 (r.di : Int), .int .i64 r.db, .int .u32 (r.ex : Int), .int .u16 r.fr, .int .u16 r.to, .int .u32 (r.ii : Int), .int .u16 r.ip] 42))
        have Z_504 := Z2.past (o := (.cells #[.int .i64 r.k, .int .u8 r.pr, .int .u32 (r.si : Int), .int .i64 r.sb, .int .u32 (r.di : Int), .int .i64 r.db, .int .u32 (r.ex : Int), .int .u16 r.fr, .int .u16 r.to, .int .u32 (r.ii : Int), .int .u16 r.ip] 42))
        have R_505 := Box11.make wr (.int .i64 r.k) (.int .u8 r.pr) (.int .u32 (r.si : Int)) (.int .i64 r.sb) (.int .u32 (r.di : Int)) (.int .i64 r.db) (.int .u32 (r.ex : Int)) (.int .u16 r.fr) (.int .u16 r.to) (.int .u32 (r.ii : Int)) (.int .u16 r.ip) 42
        have B506 := B2.alloc B2.size (.cells #[.int .i64 r.k, .int .u8 r.pr, .int .u32 (r.si : Int), .int .i64 r.sb, .int .u32 (r.di : Int), .int .i64 r.db, .int .u32 (r.ex : Int), .int .u16 r.fr, .int .u16 r.to, .int .u32 (r.ii : Int), .int .u16 r.ip] 42)
        clear T2 X2 Z2 B2
        have fzR_507 : ∀ i, (wr.alloc (.cells #[.int .i64 r.k, .int .u8 r.pr, .int .u32 (r.si : Int), .int .i64 r.sb, .int .u32 (r.di : Int), .int .i64 r.db, .int .u32 (r.ex : Int), .int .u16 r.fr, .int .u16 r.to, .int .u32 (r.ii : Int), .int .u16 r.ip] 42)).frozen? ⟨wr.heap.size, i, none⟩ = false := by intro i; simp [go_sem]
        obtain ⟨_, x3_0, x3_1, x3_2, x3_3, x3_4⟩ := id X_503
        obtain ⟨_, r4_0, r4_1, r4_2, r4_3, r4_4, r4_5, r4_6, r4_7, r4_8, r4_9, r4_10⟩ := id R_505
        go_wp2_with fail
        have b8 := bb.alloc bb.size (.cells #[.int .i64 r.k, .int .u8 r.pr, .int .u32 (r.si : Int), .int .i64 r.sb, .int .u32 (r.di : Int), .int .i64 r.db, .int .u32 (r.ex : Int), .int .u16 r.fr, .int .u16 r.to, .int .u32 (r.ii : Int), .int .u16 r.ip] 42)
        refine (m1 _).mono ?_; rintro e w61 ⟨rfl, x61⟩
        have b9 := b8.trans (x61.mono b8.size)
        have fzZ_508 : ∀ i, w61.frozen? ⟨(w.heap.size + 1), i, none⟩ = false := fun i => (x61.frozen (p := ⟨_, i, none⟩) Z_504.1).trans (fzZ_501 i)
        have fzR_509 : ∀ i, w61.frozen? ⟨wr.heap.size, i, none⟩ = false := fun i => (x61.frozen (p := ⟨_, i, none⟩) R_505.1).trans (fzR_507 i)
        clear fzZ_501 fzR_507
        have T_510 := T_502.on x61
        have X_511 := X_503.on x61
        have Z_512 := Z_504.on x61
        have R_513 := R_505.on x61
        have B514 := B506.trans (x61.mono B506.size)
        clear t1_0 t1_1 t1_2 t1_3 x2_0 x2_1 x2_2 x2_3 x2_4 x3_0 x3_1 x3_2 x3_3 x3_4 r4_0 r4_1 r4_2 r4_3 r4_4 r4_5 r4_6 r4_7 r4_8 r4_9 r4_10 T_502 X_503 Z_504 R_505 B506 x61
        obtain ⟨_, x5_0, x5_1, x5_2, x5_3, x5_4⟩ := id X_511
        obtain ⟨_, r6_0, r6_1, r6_2, r6_3, r6_4, r6_5, r6_6, r6_7, r6_8, r6_9, r6_10⟩ := id R_513
        go_wp2_with fail
        refine (m2 _).mono ?_; rintro e w62 ⟨rfl, x62⟩
        have b10 := b9.trans (x62.mono b9.size)
        have fzZ_515 : ∀ i, w62.frozen? ⟨(w.heap.size + 1), i, none⟩ = false := fun i => (x62.frozen (p := ⟨_, i, none⟩) Z_512.1).trans (fzZ_508 i)
        have fzR_516 : ∀ i, w62.frozen? ⟨wr.heap.size, i, none⟩ = false := fun i => (x62.frozen (p := ⟨_, i, none⟩) R_513.1).trans (fzR_509 i)
        clear fzZ_508 fzR_509
        have T_517 := T_510.on x62
        have X_518 := X_511.on x62
        have Z_519 := Z_512.on x62
        have R_520 := R_513.on x62
        have B521 := B514.trans (x62.mono B514.size)
        clear x5_0 x5_1 x5_2 x5_3 x5_4 r6_0 r6_1 r6_2 r6_3 r6_4 r6_5 r6_6 r6_7 r6_8 r6_9 r6_10 T_510 X_511 Z_512 R_513 B514 x62
        clear X_518
        obtain ⟨_, r7_0, r7_1, r7_2, r7_3, r7_4, r7_5, r7_6, r7_7, r7_8, r7_9, r7_10⟩ := id R_520
        go_wp2_with fail
        refine ((rextR_ t r p _ _ T_517)).mono ?_; rintro e w63 ⟨rfl, x63⟩
        have fzZ_522 : ∀ i, w63.frozen? ⟨(w.heap.size + 1), i, none⟩ = false := fun i => (x63.frozen (p := ⟨_, i, none⟩) Z_519.1).trans (fzZ_515 i)
        have fzR_523 : ∀ i, w63.frozen? ⟨wr.heap.size, i, none⟩ = false := fun i => (x63.frozen (p := ⟨_, i, none⟩) R_520.1).trans (fzR_516 i)
        clear fzZ_515 fzR_516
        have T_524 := T_517.on x63
        have Z_525 := Z_519.on x63
        have R_526 := R_520.on x63
        have B527 := B521.trans (x63.mono B521.size)
        clear r7_0 r7_1 r7_2 r7_3 r7_4 r7_5 r7_6 r7_7 r7_8 r7_9 r7_10 T_517 Z_519 R_520 B521 x63
        have ne1_ : ¬ wr.heap.size = w.heap.size + 1 := by have := LW.out.2.1; omega
        have ne2_ : ¬ w.heap.size + 1 = wr.heap.size := by have := LW.out.2.1; omega
        have ne3_ : ¬ wr.heap.size = p := by have := LW.out.1; omega
        have ne4_ : ¬ p = wr.heap.size := by have := LW.out.1; omega
        clear T_524
        obtain ⟨_, r8_0, r8_1, r8_2, r8_3, r8_4, r8_5, r8_6, r8_7, r8_8, r8_9, r8_10⟩ := id R_526
        go_upto_region 7 with fail
        clear r8_0 r8_1 r8_2 r8_3 r8_4 r8_5 r8_6 r8_7 r8_8 r8_9 r8_10
        obtain ⟨_, z9_0, z9_1, z9_2, z9_3, z9_4, z9_5, z9_6, z9_7, z9_8, z9_9, z9_10⟩ := id Z_525
        obtain ⟨_, r10_0, r10_1, r10_2, r10_3, r10_4, r10_5, r10_6, r10_7, r10_8, r10_9, r10_10⟩ := id R_526
        have B528 := (B527.setCell (p := ⟨wr.heap.size, 6, none⟩) (by have := LW.out.2.1; show w.heap.size ≤ wr.heap.size; omega) (.int .u32 (extRu t r : Nat)))
        have Z_529 : Box11 (w63.setCell ⟨wr.heap.size, 6, none⟩ (.int .u32 (extRu t r : Nat))) (w.heap.size + 1) (.int .i64 0) (.int .u8 0) (.int .u32 0) (.int .i64 0) (.int .u32 0) (.int .i64 0) (.int .u32 0) (.int .u16 0) (.int .u16 0) (.int .u32 0) (.int .u16 0) := ⟨by have := Z_525.1; simpa using this, by simp [go_sem, z9_0, z9_1, z9_2, z9_3, z9_4, z9_5, z9_6, z9_7, z9_8, z9_9, z9_10, r10_0, r10_1, r10_2, r10_3, r10_4, r10_5, r10_6, r10_7, r10_8, r10_9, r10_10], by simp [go_sem, z9_0, z9_1, z9_2, z9_3, z9_4, z9_5, z9_6, z9_7, z9_8, z9_9, z9_10, r10_0, r10_1, r10_2, r10_3, r10_4, r10_5, r10_6, r10_7, r10_8, r10_9, r10_10], by simp [go_sem, z9_0, z9_1, z9_2, z9_3, z9_4, z9_5, z9_6, z9_7, z9_8, z9_9, z9_10, r10_0, r10_1, r10_2, r10_3, r10_4, r10_5, r10_6, r10_7, r10_8, r10_9, r10_10], by simp [go_sem, z9_0, z9_1, z9_2, z9_3, z9_4, z9_5, z9_6, z9_7, z9_8, z9_9, z9_10, r10_0, r10_1, r10_2, r10_3, r10_4, r10_5, r10_6, r10_7, r10_8, r10_9, r10_10], by simp [go_sem, z9_0, z9_1, z9_2, z9_3, z9_4, z9_5, z9_6, z9_7, z9_8, z9_9, z9_10, r10_0, r10_1, r10_2, r10_3, r10_4, r10_5, r10_6, r10_7, r10_8, r10_9, r10_10], by simp [go_sem, z9_0, z9_1, z9_2, z9_3, z9_4, z9_5, z9_6, z9_7, z9_8, z9_9, z9_10, r10_0, r10_1, r10_2, r10_3, r10_4, r10_5, r10_6, r10_7, r10_8, r10_9, r10_10], by simp [go_sem, z9_0, z9_1, z9_2, z9_3, z9_4, z9_5, z9_6, z9_7, z9_8, z9_9, z9_10, r10_0, r10_1, r10_2, r10_3, r10_4, r10_5, r10_6, r10_7, r10_8, r10_9, r10_10], by simp [go_sem, z9_0, z9_1, z9_2, z9_3, z9_4, z9_5, z9_6, z9_7, z9_8, z9_9, z9_10, r10_0, r10_1, r10_2, r10_3, r10_4, r10_5, r10_6, r10_7, r10_8, r10_9, r10_10], by simp [go_sem, z9_0, z9_1, z9_2, z9_3, z9_4, z9_5, z9_6, z9_7, z9_8, z9_9, z9_10, r10_0, r10_1, r10_2, r10_3, r10_4, r10_5, r10_6, r10_7, r10_8, r10_9, r10_10], by simp [go_sem, z9_0, z9_1, z9_2, z9_3, z9_4, z9_5, z9_6, z9_7, z9_8, z9_9, z9_10, r10_0, r10_1, r10_2, r10_3, r10_4, r10_5, r10_6, r10_7, r10_8, r10_9, r10_10], by simp [go_sem, z9_0, z9_1, z9_2, z9_3, z9_4, z9_5, z9_6, z9_7, z9_8, z9_9, z9_10, r10_0, r10_1, r10_2, r10_3, r10_4, r10_5, r10_6, r10_7, r10_8, r10_9, r10_10]⟩
        have R_530 : Box11 (w63.setCell ⟨wr.heap.size, 6, none⟩ (.int .u32 (extRu t r : Nat))) wr.heap.size (.int .i64 r.k) (.int .u8 r.pr) (.int .u32 (r.si : Int)) (.int .i64 r.sb) (.int .u32 (r.di : Int)) (.int .i64 r.db) (.int .u32 (extRu t r : Nat)) (.int .u16 r.fr) (.int .u16 r.to) (.int .u32 (r.ii : Int)) (.int .u16 r.ip) := ⟨by have := R_526.1; simpa using this, by simp [go_sem, z9_0, z9_1, z9_2, z9_3, z9_4, z9_5, z9_6, z9_7, z9_8, z9_9, z9_10, r10_0, r10_1, r10_2, r10_3, r10_4, r10_5, r10_6, r10_7, r10_8, r10_9, r10_10], by simp [go_sem, z9_0, z9_1, z9_2, z9_3, z9_4, z9_5, z9_6, z9_7, z9_8, z9_9, z9_10, r10_0, r10_1, r10_2, r10_3, r10_4, r10_5, r10_6, r10_7, r10_8, r10_9, r10_10], by simp [go_sem, z9_0, z9_1, z9_2, z9_3, z9_4, z9_5, z9_6, z9_7, z9_8, z9_9, z9_10, r10_0, r10_1, r10_2, r10_3, r10_4, r10_5, r10_6, r10_7, r10_8, r10_9, r10_10], by simp [go_sem, z9_0, z9_1, z9_2, z9_3, z9_4, z9_5, z9_6, z9_7, z9_8, z9_9, z9_10, r10_0, r10_1, r10_2, r10_3, r10_4, r10_5, r10_6, r10_7, r10_8, r10_9, r10_10], by simp [go_sem, z9_0, z9_1, z9_2, z9_3, z9_4, z9_5, z9_6, z9_7, z9_8, z9_9, z9_10, r10_0, r10_1, r10_2, r10_3, r10_4, r10_5, r10_6, r10_7, r10_8, r10_9, r10_10], by simp [go_sem, z9_0, z9_1, z9_2, z9_3, z9_4, z9_5, z9_6, z9_7, z9_8, z9_9, z9_10, r10_0, r10_1, r10_2, r10_3, r10_4, r10_5, r10_6, r10_7, r10_8, r10_9, r10_10], by simp [go_sem, z9_0, z9_1, z9_2, z9_3, z9_4, z9_5, z9_6, z9_7, z9_8, z9_9, z9_10, r10_0, r10_1, r10_2, r10_3, r10_4, r10_5, r10_6, r10_7, r10_8, r10_9, r10_10], by simp [go_sem, z9_0, z9_1, z9_2, z9_3, z9_4, z9_5, z9_6, z9_7, z9_8, z9_9, z9_10, r10_0, r10_1, r10_2, r10_3, r10_4, r10_5, r10_6, r10_7, r10_8, r10_9, r10_10], by simp [go_sem, z9_0, z9_1, z9_2, z9_3, z9_4, z9_5, z9_6, z9_7, z9_8, z9_9, z9_10, r10_0, r10_1, r10_2, r10_3, r10_4, r10_5, r10_6, r10_7, r10_8, r10_9, r10_10], by simp [go_sem, z9_0, z9_1, z9_2, z9_3, z9_4, z9_5, z9_6, z9_7, z9_8, z9_9, z9_10, r10_0, r10_1, r10_2, r10_3, r10_4, r10_5, r10_6, r10_7, r10_8, r10_9, r10_10], by simp [go_sem, z9_0, z9_1, z9_2, z9_3, z9_4, z9_5, z9_6, z9_7, z9_8, z9_9, z9_10, r10_0, r10_1, r10_2, r10_3, r10_4, r10_5, r10_6, r10_7, r10_8, r10_9, r10_10]⟩
        have fzZ_531 : ∀ i, (w63.setCell ⟨wr.heap.size, 6, none⟩ (.int .u32 (extRu t r : Nat))).frozen? ⟨(w.heap.size + 1), i, none⟩ = false := by intro i; simp [fzZ_522]
        have fzR_532 : ∀ i, (w63.setCell ⟨wr.heap.size, 6, none⟩ (.int .u32 (extRu t r : Nat))).frozen? ⟨wr.heap.size, i, none⟩ = false := by intro i; simp [fzR_523]
        clear z9_0 z9_1 z9_2 z9_3 z9_4 z9_5 z9_6 z9_7 z9_8 z9_9 z9_10 r10_0 r10_1 r10_2 r10_3 r10_4 r10_5 r10_6 r10_7 r10_8 r10_9 r10_10 Z_525 R_526 fzZ_522 fzR_523 B527
        obtain ⟨u64, hu64⟩ : ∃ x, x = (w63.setCell ⟨wr.heap.size, 6, none⟩ (.int .u32 (extRu t r : Nat))) := ⟨_, rfl⟩
        rw [← hu64] at Z_529 R_530 fzZ_531 fzR_532 B528 ⊢
        clear hu64
        have HT : Hid (Q = { r with ex := extRu t r } ∧ hitRu rs (fitF pr sa da) = true) := by
          have := first_fit HI.out HR.out HF.out HV.out
          refine ⟨?_, this.2⟩
          rw [HG.out, this.2, this.1]
          rfl
        obtain ⟨_, r11_0, r11_1, r11_2, r11_3, r11_4, r11_5, r11_6, r11_7, r11_8, r11_9, r11_10⟩ := id R_530
        obtain ⟨_, z12_0, z12_1, z12_2, z12_3, z12_4, z12_5, z12_6, z12_7, z12_8, z12_9, z12_10⟩ := id Z_529
        go_wp2
        refine box11_ (b := w.heap.size + 1) Z_529.some B528 (Nat.le_succ _) fun X x0_ x1_ x2_ x3_ x4_ x5_ x6_ x7_ x8_ x9_ x10_ BX _ _ => ?_
        refine bodyPost_ret (v := .tuple #[.agg #[.int .i64 r.k, .int .u8 r.pr, .int .u32 (r.si : Int), .int .i64 r.sb, .int .u32 (r.di : Int), .int .i64 r.db, .int .u32 (extRu t r : Nat), .int .u16 r.fr, .int .u16 r.to, .int .u32 (r.ii : Int), .int .u16 r.ip], .bool true]) (by simp [results, Try.results50, go_sem, x0_, x1_, x2_, x3_, x4_, x5_, x6_, x7_, x8_, x9_, x10_]) rfl ?_
        rw [HT.out.1, HT.out.2]
        exact ⟨rfl, BX⟩
set_option maxHeartbeats 1000000 in
set_option maxRecDepth 100000 in
theorem rnewR_ (own ip : Nat) (bits : Int) (w : World) (ho : own < 4294967296) (hi : ip < 4294967296) (hb : -9223372036854775808 ≤ bits ∧ bits ≤ 9223372036854775807) :
    Calls Try.prog 12 #[.int .u32 (own : Int), .agg #[.int .u32 (ip : Int), .int .i64 bits]] w fun e w' => Below w.heap.size w w' ∧ ((ruNewE own ip bits = 2 ∧ e = .returned (.tuple #[.pointer none, .int .i64 2])) ∨ (ruNewE own ip bits = 0 ∧ ∃ p, e = .returned (.tuple #[.pointer (some ⟨p, 0, none⟩), .int .i64 0]) ∧ w.heap.size ≤ p ∧ Box4 w' p (.int .u32 (own : Int)) (.int .u32 (ip : Int)) (.int .i64 bits) (.slice none 0 0) ∧ ∀ i, w'.frozen? ⟨p, i, none⟩ = false)) := by
  have c1 := fun u => rmay_ ip bits u hi hb
  have c2 := fun u => rhas_ ip bits own u hi ho hb
  obtain ⟨m, hm⟩ : ∃ v, mayV ip bits = v := ⟨_, rfl⟩
  obtain ⟨h, hh⟩ : ∃ v, hasV ip bits own = v := ⟨_, rfl⟩
  rw [hm] at c1
  rw [hh] at c2
  have key : m = false ∨ (m = true ∧ h = true) ∨ (m = true ∧ h = false) := by cases m <;> cases h <;> simp
  have HE := Lib.hid (And.intro hm hh)
  clear hm hh
  rcases key with rfl | ⟨rfl, rfl⟩ | ⟨rfl, rfl⟩
  · go_enter Try.func12, Try.ntmps12
    have B1 := Below.refl w.heap.size w
    go_upto_region 1 with fail
    have Q_2 := Box2.make w (.int .u32 (ip : Int)) (.int .i64 bits) 31
    have B3 := B1.alloc B1.size (.cells #[.int .u32 (ip : Int), .int .i64 bits] 31)
    clear B1
    obtain ⟨u1, hu1⟩ : ∃ x, x = w.alloc (.cells #[.int .u32 (ip : Int), .int .i64 bits] 31) := ⟨_, rfl⟩
    rw [← hu1] at Q_2 B3 ⊢
    clear hu1
    obtain ⟨_, q1_0, q1_1⟩ := id Q_2
    go_wp2_with fail
    refine (c1 _).mono ?_; rintro e w2 ⟨rfl, x2⟩
    have Q_4 := Q_2.on x2
    have B5 := B3.trans (x2.mono B3.size)
    clear q1_0 q1_1 Q_2 B3 x2
    obtain ⟨_, q2_0, q2_1⟩ := id Q_4
    go_wp2
    go_ret2
    exact ⟨B5, .inl ⟨by unfold ruNewE; rw [HE.out.1]; simp, rfl⟩⟩
  · go_enter Try.func12, Try.ntmps12
    have B1 := Below.refl w.heap.size w
    go_upto_region 1 with fail
    have Q_2 := Box2.make w (.int .u32 (ip : Int)) (.int .i64 bits) 31
    have B3 := B1.alloc B1.size (.cells #[.int .u32 (ip : Int), .int .i64 bits] 31)
    clear B1
    obtain ⟨u1, hu1⟩ : ∃ x, x = w.alloc (.cells #[.int .u32 (ip : Int), .int .i64 bits] 31) := ⟨_, rfl⟩
    rw [← hu1] at Q_2 B3 ⊢
    clear hu1
    obtain ⟨_, q1_0, q1_1⟩ := id Q_2
    go_wp2_with fail
    refine (c1 _).mono ?_; rintro e w2 ⟨rfl, x2⟩
    have Q_4 := Q_2.on x2
    have B5 := B3.trans (x2.mono B3.size)
    clear q1_0 q1_1 Q_2 B3 x2
    obtain ⟨_, q2_0, q2_1⟩ := id Q_4
    go_wp2_with fail
    refine (c2 _).mono ?_; rintro e w3 ⟨rfl, x3⟩
    have Q_6 := Q_4.on x3
    have B7 := B5.trans (x3.mono B5.size)
    clear q2_0 q2_1 Q_4 B5 x3
    obtain ⟨_, q3_0, q3_1⟩ := id Q_6
    go_wp2
    go_ret2
    exact ⟨B7, .inl ⟨by unfold ruNewE; rw [HE.out.2]; simp, rfl⟩⟩
  · go_enter Try.func12, Try.ntmps12
    have B1 := Below.refl w.heap.size w
    go_upto_region 1 with fail
    have Q_2 := Box2.make w (.int .u32 (ip : Int)) (.int .i64 bits) 31
    have B3 := B1.alloc B1.size (.cells #[.int .u32 (ip : Int), .int .i64 bits] 31)
    clear B1
    obtain ⟨u1, hu1⟩ : ∃ x, x = w.alloc (.cells #[.int .u32 (ip : Int), .int .i64 bits] 31) := ⟨_, rfl⟩
    rw [← hu1] at Q_2 B3 ⊢
    clear hu1
    obtain ⟨_, q1_0, q1_1⟩ := id Q_2
    go_wp2_with fail
    refine (c1 _).mono ?_; rintro e w2 ⟨rfl, x2⟩
    have Q_4 := Q_2.on x2
    have B5 := B3.trans (x2.mono B3.size)
    clear q1_0 q1_1 Q_2 B3 x2
    obtain ⟨_, q2_0, q2_1⟩ := id Q_4
    go_wp2_with fail
    refine (c2 _).mono ?_; rintro e w3 ⟨rfl, x3⟩
    have Q_6 := Q_4.on x3
    have B7 := B5.trans (x3.mono B5.size)
    clear q2_0 q2_1 Q_4 B5 x3
    obtain ⟨_, q3_0, q3_1⟩ := id Q_6
    go_wp2
    go_ret2
    exact ⟨B7.alloc B7.size (.cells #[.int .u32 (own : Int), .int .u32 (ip : Int), .int .i64 bits, .slice none 0 0] 75), .inr ⟨by unfold ruNewE; rw [HE.out.1, HE.out.2]; simp, _, rfl, B7.size, Box4.make _ _ _ _ _ _, fun i => by simp [go_sem]⟩⟩
end Go.Proofs.Ytoogegpkgohffaa
