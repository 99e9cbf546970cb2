/- Texts of this proof, together: RulC, RulF. -/
import Derived.Test.YtoogegpkgohffaaSb
import Derived.Deep.DeepCutAuto
namespace Go.Proofs.Ytoogegpkgohffaa
set_option linter.unusedVariables false
set_option linter.unusedSimpArgs false
open Go.ChangeShapes Go.WideShapes Go.ChangeAt Go.RowKit Go.PlainAid
attribute [local go_sem ↓] Go.wp_at_zero Go.wp_at_succ
/-- A slice of rules. -/
def RulesAt (w : World) (a : Option Addr) (rs : List Ru) : Prop :=
  rs.length = 0 ∨ ∃ b, a = some ⟨b, 0, none⟩ ∧ b < w.heap.size ∧ ∀ i, i < rs.length → w.cell? ⟨b, i * 11, none⟩ = some (.int .i64 (rs.getD i Ru.zero).k) ∧ w.cell? ⟨b, i * 11 + 1, none⟩ = some (.int .u8 (rs.getD i Ru.zero).pr) ∧ w.cell? ⟨b, i * 11 + 2, none⟩ = some (.int .u32 ((rs.getD i Ru.zero).si : Int)) ∧ w.cell? ⟨b, i * 11 + 3, none⟩ = some (.int .i64 (rs.getD i Ru.zero).sb) ∧ w.cell? ⟨b, i * 11 + 4, none⟩ = some (.int .u32 ((rs.getD i Ru.zero).di : Int)) ∧ w.cell? ⟨b, i * 11 + 5, none⟩ = some (.int .i64 (rs.getD i Ru.zero).db) ∧ w.cell? ⟨b, i * 11 + 6, none⟩ = some (.int .u32 ((rs.getD i Ru.zero).ex : Int)) ∧ w.cell? ⟨b, i * 11 + 7, none⟩ = some (.int .u16 (rs.getD i Ru.zero).fr) ∧ w.cell? ⟨b, i * 11 + 8, none⟩ = some (.int .u16 (rs.getD i Ru.zero).to) ∧ w.cell? ⟨b, i * 11 + 9, none⟩ = some (.int .u32 ((rs.getD i Ru.zero).ii : Int)) ∧ w.cell? ⟨b, i * 11 + 10, none⟩ = some (.int .u16 (rs.getD i Ru.zero).ip)
theorem RulesAt.on {w w' : World} {a : Option Addr} {rs : List Ru} (h : RulesAt w a rs) (hb : Below w.heap.size w w') : RulesAt w' a rs := by
  rcases h with h | ⟨b, rfl, hlt, hc⟩
  · exact .inl h
  · refine .inr ⟨b, rfl, Nat.lt_of_lt_of_le hlt hb.size, fun i hi => ?_⟩
    obtain ⟨c0, c1, c2, c3, c4, c5, c6, c7, c8, c9, c10⟩ := hc i hi
    exact ⟨(hb.cell (p := ⟨b, i * 11, none⟩) hlt).trans c0, (hb.cell (p := ⟨b, i * 11 + 1, none⟩) hlt).trans c1, (hb.cell (p := ⟨b, i * 11 + 2, none⟩) hlt).trans c2, (hb.cell (p := ⟨b, i * 11 + 3, none⟩) hlt).trans c3, (hb.cell (p := ⟨b, i * 11 + 4, none⟩) hlt).trans c4, (hb.cell (p := ⟨b, i * 11 + 5, none⟩) hlt).trans c5, (hb.cell (p := ⟨b, i * 11 + 6, none⟩) hlt).trans c6, (hb.cell (p := ⟨b, i * 11 + 7, none⟩) hlt).trans c7, (hb.cell (p := ⟨b, i * 11 + 8, none⟩) hlt).trans c8, (hb.cell (p := ⟨b, i * 11 + 9, none⟩) hlt).trans c9, (hb.cell (p := ⟨b, i * 11 + 10, none⟩) hlt).trans c10⟩
theorem first_fit {rs : List Ru} {f : Ru → Bool} {i : Nat} {r : Ru} (h : i < rs.length) (hr : r = rs.getD i Ru.zero) (hn : ∀ j, j < i → f (rs.getD j Ru.zero) = false) (hf : f r = true) : findRu rs f = r ∧ hitRu rs f = true := by
  unfold findRu hitRu
  induction rs generalizing i with
  | nil => simp at h
  | cons a l ih =>
    cases i with
    | zero =>
      simp at hr
      subst hr
      simp [hf]
    | succ i =>
      have h0 := hn 0 (by omega)
      simp at h0
      have k := ih (i := i) (by simpa using h) (by simpa using hr) (fun j hj => by have := hn (j + 1) (by omega); simpa using this)
      simp only [List.find?_cons, List.any_cons, h0, Bool.false_or]
      exact k
theorem none_fits {rs : List Ru} {f : Ru → Bool} {i : Nat} (h : rs.length ≤ i) (hn : ∀ j, j < i → f (rs.getD j Ru.zero) = false) : findRu rs f = Ru.zero ∧ hitRu rs f = false := by
  unfold findRu hitRu
  induction rs generalizing i with
  | nil => simp
  | cons a l ih =>
    have h0 := hn 0 (by simp at h; omega)
    simp at h0
    have k := ih (i := i - 1) (by simp at h; omega) (fun j hj => by have := hn (j + 1) (by omega); simpa using this)
    simp only [List.find?_cons, List.any_cons, h0, Bool.false_or]
    exact k
set_option maxHeartbeats 4000000 in
set_option maxRecDepth 100000 in
theorem rstaticR_ (t : Tm) (pr ep : Int) (ea p cap : Nat) (a : Option Addr) (w : World) (T0 : Box4 w p (.int .u32 (t.own : Int)) (.int .u32 (t.ip : Int)) (.int .i64 t.bits) (.slice a t.rs.length cap)) (R0 : RulesAt w a t.rs) (hl : t.rs.length ≤ 1000) :
    Calls Try.prog 48 #[.pointer (some ⟨p, 0, none⟩), .int .u8 pr, .agg #[.int .u32 (ea : Int), .int .u16 ep]] w fun e w' => e = .returned (.tuple #[.agg #[.int .i64 (findRu t.rs (fitS pr ea ep)).k, .int .u8 (findRu t.rs (fitS pr ea ep)).pr, .int .u32 ((findRu t.rs (fitS pr ea ep)).si : Int), .int .i64 (findRu t.rs (fitS pr ea ep)).sb, .int .u32 ((findRu t.rs (fitS pr ea ep)).di : Int), .int .i64 (findRu t.rs (fitS pr ea ep)).db, .int .u32 ((findRu t.rs (fitS pr ea ep)).ex : Int), .int .u16 (findRu t.rs (fitS pr ea ep)).fr, .int .u16 (findRu t.rs (fitS pr ea ep)).to, .int .u32 ((findRu t.rs (fitS pr ea ep)).ii : Int), .int .u16 (findRu t.rs (fitS pr ea ep)).ip], .bool (hitRu t.rs (fitS pr ea ep))]) ∧ Below w.heap.size w w' := by
  have TZ := Lib.hid T0
  have RZ := Lib.hid R0
  have HL := Lib.hid hl
  clear R0 hl
  generalize hG : t.rs = rs at *
  go_enter Try.func48, Try.ntmps48
  have B1 := Below.refl w.heap.size w
  go_upto_region 1 with fail
  have T_2 := T0.past (o := (.cells #[.int .u32 (ea : Int), .int .u16 ep] 40))
  have E_3 := Box2.make w (.int .u32 (ea : Int)) (.int .u16 ep) 40
  have B4 := B1.alloc B1.size (.cells #[.int .u32 (ea : Int), .int .u16 ep] 40)
  clear T0 B1
  have T_5 := T_2.past (o := (.cells #[.int .i64 0, .int .u8 0, .int .u32 0, .int .i64 0, .int .u32 0, .int .i64 0, .int .u32 0, .int .u16 0, .int .u16 0, .int .u32 0, .int .u16 0] 42))
  have E_6 := E_3.past (o := (.cells #[.int .i64 0, .int .u8 0, .int .u32 0, .int .i64 0, .int .u32 0, .int .i64 0, .int .u32 0, .int .u16 0, .int .u16 0, .int .u32 0, .int .u16 0] 42))
  have hs_ : (w.alloc (.cells #[.int .u32 (ea : Int), .int .u16 ep] 40)).heap.size = w.heap.size + 1 := by simp
  have Z_7 := Box11.make (w.alloc (.cells #[.int .u32 (ea : Int), .int .u16 ep] 40)) (.int .i64 0) (.int .u8 0) (.int .u32 0) (.int .i64 0) (.int .u32 0) (.int .i64 0) (.int .u32 0) (.int .u16 0) (.int .u16 0) (.int .u32 0) (.int .u16 0) 42
  rw [hs_] at Z_7
  clear hs_
  have B8 := B4.alloc B4.size (.cells #[.int .i64 0, .int .u8 0, .int .u32 0, .int .i64 0, .int .u32 0, .int .i64 0, .int .u32 0, .int .u16 0, .int .u16 0, .int .u32 0, .int .u16 0] 42)
  clear T_2 E_3 B4
  have fzZ_9 : ∀ i, ((w.alloc (.cells #[.int .u32 (ea : Int), .int .u16 ep] 40)).alloc (.cells #[.int .i64 0, .int .u8 0, .int .u32 0, .int .i64 0, .int .u32 0, .int .i64 0, .int .u32 0, .int .u16 0, .int .u16 0, .int .u32 0, .int .u16 0] 42)).frozen? ⟨(w.heap.size + 1), i, none⟩ = false := by intro i; simp [go_sem]
  obtain ⟨u1, hu1⟩ : ∃ x, x = (w.alloc (.cells #[.int .u32 (ea : Int), .int .u16 ep] 40)).alloc (.cells #[.int .i64 0, .int .u8 0, .int .u32 0, .int .i64 0, .int .u32 0, .int .i64 0, .int .u32 0, .int .u16 0, .int .u16 0, .int .u32 0, .int .u16 0] 42) := ⟨_, rfl⟩
  rw [← hu1] at T_5 E_6 Z_7 fzZ_9 B8 ⊢
  clear hu1
  obtain ⟨_, t1_0, t1_1, t1_2, t1_3⟩ := id T_5
  have R1 := Lib.hid (RZ.out.on B8)
  go_wp2_with fail
  go_loopw [8] (fun si wr => ∃ i : Nat, i ≤ rs.length ∧ si = .int .i64 (i : Int) ∧ Below u1.heap.size u1 wr ∧ Hid (∀ j, j < i → fitS pr ea ep (rs.getD j Ru.zero) = false)) (fun si _ => rs.length - (intOf si).toNat)
  case atStart => exact ⟨0, Nat.zero_le _, rfl, Below.refl _ _, fun j hj => by omega⟩
  case round =>
    clear t1_0 t1_1 t1_2 t1_3
    obtain ⟨i, hi, rfl, bb, HF⟩ := hrel
    by_cases hlt : i < rs.length
    rotate_left
    · have e10 : decide ((i : Int) < (rs.length : Int)) = false := by simp; omega
      have e11 : decide (i < rs.length) = false := by simp; omega
      have HT : Hid (findRu rs (fitS pr ea ep) = Ru.zero ∧ hitRu rs (fitS pr ea ep) = false) := none_fits (by omega) HF.out
      have T2 := T_5.on bb
      obtain ⟨_, t0, t1, t2, t3⟩ := id T2
      have Z2 := Z_7.on bb
      obtain ⟨_, y0, y1, y2, y3, y4, y5, y6, y7, y8, y9, y10⟩ := id Z2
      have fz2 : ∀ i, wr.frozen? ⟨w.heap.size + 1, i, none⟩ = false := fun i => (bb.frozen (p := ⟨_, i, none⟩) Z_7.1).trans (fzZ_9 i)
      have B2 := B8.trans (bb.mono B8.size)
      go_wp2
      refine box11_ (b := w.heap.size + 1) Z2.some B2 (Nat.le_succ _) fun X x0_ x1_ x2_ x3_ x4_ x5_ x6_ x7_ x8_ x9_ x10_ BX _ _ => ?_
      refine bodyPost_ret (v := .tuple #[.agg #[.int .i64 0, .int .u8 0, .int .u32 0, .int .i64 0, .int .u32 0, .int .i64 0, .int .u32 0, .int .u16 0, .int .u16 0, .int .u32 0, .int .u16 0], .bool false]) (by simp [results, Try.results48, go_sem, x0_, x1_, x2_, x3_, x4_, x5_, x6_, x7_, x8_, x9_, x10_]) rfl ?_
      rw [HT.out.1, HT.out.2]
      exact ⟨rfl, BX⟩
    have HI := Lib.hid hlt
    have e10 : decide ((i : Int) < (rs.length : Int)) = true := by simp; omega
    have e11 : decide (i < rs.length) = true := by simp; omega
    have e12 : (i : Int) < (rs.length : Int) := by omega
    have e13 : (i : Int) + 1 ≤ 100000 := by have := HL.out; omega
    obtain ⟨b, ha, hb, hc⟩ : ∃ b, a = some ⟨b, 0, none⟩ ∧ b < wr.heap.size ∧ _ := by
      rcases (R1.out.on bb) with h | h
      · omega
      · exact h
    subst ha
    have T2 := T_5.on bb
    obtain ⟨_, t0, t1, t2, t3⟩ := id T2
    obtain ⟨c0, c1, c2, c3, c4, c5, c6, c7, c8, c9, c10⟩ := hc i hlt
    obtain ⟨r, hr⟩ : ∃ r, r = rs.getD i Ru.zero := ⟨_, rfl⟩
    rw [← hr] at c0 c1 c2 c3 c4 c5 c6 c7 c8 c9 c10
    have HR := Lib.hid hr
    clear hr hc hi hlt
    obtain ⟨z1, p1, q1, l1⟩ := eqi_ r.k 3
    obtain ⟨z2, p2, q2, l2⟩ := eqi_ r.pr pr
    obtain ⟨z3, p3, q3, l3⟩ := eqn_ r.ex ea
    obtain ⟨z4, p4, q4, l4⟩ := eqi_ r.fr ep
    have HV : Hid (fitS pr ea ep r = (z1 && z2 && z3 && z4)) := by show _ = _; unfold fitS; rw [l1, l2, l3, l4]
    clear l1 l2 l3 l4
    have key : z1 = false ∨ (z1 = true ∧ z2 = false) ∨ (z1 = true ∧ z2 = true ∧ z3 = false) ∨ (z1 = true ∧ z2 = true ∧ z3 = true ∧ z4 = false) ∨ (z1 = true ∧ z2 = true ∧ z3 = true ∧ z4 = true) := by cases z1 <;> cases z2 <;> cases z3 <;> cases z4 <;> simp
    have E2 := E_6.on bb
    obtain ⟨_, x0, x1⟩ := id E2
    have Z2 := Z_7.on bb
    have fz2 : ∀ i, wr.frozen? ⟨w.heap.size + 1, i, none⟩ = false := fun i => (bb.frozen (p := ⟨_, i, none⟩) Z_7.1).trans (fzZ_9 i)
    have B2 := B8.trans (bb.mono B8.size)
    have LZ := Lib.hid (And.intro Z_7.1 bb.size)
    rcases key with rfl | ⟨rfl, rfl⟩ | ⟨rfl, rfl, rfl⟩ | ⟨rfl, rfl, rfl, rfl⟩ | ⟨rfl, rfl, rfl, rfl⟩
    · simp only [Bool.not_true, Bool.not_false, Bool.and_true, Bool.and_false, Bool.true_and, Bool.false_and] at HV
      go_wp2_with fail
      have BN := bb.alloc bb.size (.cells #[.int .i64 r.k, .int .u8 r.pr, .int .u32 (r.si : Int), .int .i64 r.sb, .int .u32 (r.di : Int), .int .i64 r.db, .int .u32 (r.ex : Int), .int .u16 r.fr, .int .u16 r.to, .int .u32 (r.ii : Int), .int .u16 r.ip] 42)
      go_roundw
      case rel =>
        refine ⟨i + 1, HI.out, by go_num, BN, fun j hj => ?_⟩
        by_cases e : j = i
        · rw [e, ← HR.out]; exact HV.out
        · exact HF.out j (by omega)
      case measure => have := HI.out; simp [intOf]; omega
    · simp only [Bool.not_true, Bool.not_false, Bool.and_true, Bool.and_false, Bool.true_and, Bool.false_and] at HV
      go_wp2_with fail
      have BN := bb.alloc bb.size (.cells #[.int .i64 r.k, .int .u8 r.pr, .int .u32 (r.si : Int), .int .i64 r.sb, .int .u32 (r.di : Int), .int .i64 r.db, .int .u32 (r.ex : Int), .int .u16 r.fr, .int .u16 r.to, .int .u32 (r.ii : Int), .int .u16 r.ip] 42)
      go_roundw
      case rel =>
        refine ⟨i + 1, HI.out, by go_num, BN, fun j hj => ?_⟩
        by_cases e : j = i
        · rw [e, ← HR.out]; exact HV.out
        · exact HF.out j (by omega)
      case measure => have := HI.out; simp [intOf]; omega
    · simp only [Bool.not_true, Bool.not_false, Bool.and_true, Bool.and_false, Bool.true_and, Bool.false_and] at HV
      go_wp2_with fail
      have BN := bb.alloc bb.size (.cells #[.int .i64 r.k, .int .u8 r.pr, .int .u32 (r.si : Int), .int .i64 r.sb, .int .u32 (r.di : Int), .int .i64 r.db, .int .u32 (r.ex : Int), .int .u16 r.fr, .int .u16 r.to, .int .u32 (r.ii : Int), .int .u16 r.ip] 42)
      go_roundw
      case rel =>
        refine ⟨i + 1, HI.out, by go_num, BN, fun j hj => ?_⟩
        by_cases e : j = i
        · rw [e, ← HR.out]; exact HV.out
        · exact HF.out j (by omega)
      case measure => have := HI.out; simp [intOf]; omega
    · simp only [Bool.not_true, Bool.not_false, Bool.and_true, Bool.and_false, Bool.true_and, Bool.false_and] at HV
      go_wp2_with fail
      have BN := bb.alloc bb.size (.cells #[.int .i64 r.k, .int .u8 r.pr, .int .u32 (r.si : Int), .int .i64 r.sb, .int .u32 (r.di : Int), .int .i64 r.db, .int .u32 (r.ex : Int), .int .u16 r.fr, .int .u16 r.to, .int .u32 (r.ii : Int), .int .u16 r.ip] 42)
      go_roundw
      case rel =>
        refine ⟨i + 1, HI.out, by go_num, BN, fun j hj => ?_⟩
        by_cases e : j = i
        · rw [e, ← HR.out]; exact HV.out
        · exact HF.out j (by omega)
      case measure => have := HI.out; simp [intOf]; omega
    · simp only [Bool.not_true, Bool.not_false, Bool.and_true, Bool.and_false, Bool.true_and, Bool.false_and] at HV
      obtain ⟨_, y0, y1, y2, y3, y4, y5, y6, y7, y8, y9, y10⟩ := id Z2
      have ne1_ : ¬ wr.heap.size = w.heap.size + 1 := by have := LZ.out.1; have := LZ.out.2; omega
      have ne2_ : ¬ w.heap.size + 1 = wr.heap.size := by have := LZ.out.1; have := LZ.out.2; omega
      have HT : Hid (findRu rs (fitS pr ea ep) = r ∧ hitRu rs (fitS pr ea ep) = true) := first_fit HI.out HR.out HF.out HV.out
      go_wp2
      refine box11_ (M := fun X => bodyPost Try.prog Try.f48 _ Exit.ret _ (X.alloc (.cells #[.int .i64 r.k, .int .u8 r.pr, .int .u32 (r.si : Int), .int .i64 r.sb, .int .u32 (r.di : Int), .int .i64 r.db, .int .u32 (r.ex : Int), .int .u16 r.fr, .int .u16 r.to, .int .u32 (r.ii : Int), .int .u16 r.ip] 42))) (b := w.heap.size + 1) Z2.some B2 (Nat.le_succ _) fun X x0_ x1_ x2_ x3_ x4_ x5_ x6_ x7_ x8_ x9_ x10_ BX _ szX => ?_
      have hX : w.heap.size + 1 < X.heap.size := by rw [szX]; exact Z2.1
      have k0_ : (X.alloc (.cells #[.int .i64 r.k, .int .u8 r.pr, .int .u32 (r.si : Int), .int .i64 r.sb, .int .u32 (r.di : Int), .int .i64 r.db, .int .u32 (r.ex : Int), .int .u16 r.fr, .int .u16 r.to, .int .u32 (r.ii : Int), .int .u16 r.ip] 42)).cell? ⟨w.heap.size + 1, 0, none⟩ = some (.int .i64 r.k) := (((Below.refl X.heap.size X).alloc (Nat.le_refl _) (.cells #[.int .i64 r.k, .int .u8 r.pr, .int .u32 (r.si : Int), .int .i64 r.sb, .int .u32 (r.di : Int), .int .i64 r.db, .int .u32 (r.ex : Int), .int .u16 r.fr, .int .u16 r.to, .int .u32 (r.ii : Int), .int .u16 r.ip] 42)).cell (p := ⟨w.heap.size + 1, 0, none⟩) hX).trans x0_
      have k1_ : (X.alloc (.cells #[.int .i64 r.k, .int .u8 r.pr, .int .u32 (r.si : Int), .int .i64 r.sb, .int .u32 (r.di : Int), .int .i64 r.db, .int .u32 (r.ex : Int), .int .u16 r.fr, .int .u16 r.to, .int .u32 (r.ii : Int), .int .u16 r.ip] 42)).cell? ⟨w.heap.size + 1, 1, none⟩ = some (.int .u8 r.pr) := (((Below.refl X.heap.size X).alloc (Nat.le_refl _) (.cells #[.int .i64 r.k, .int .u8 r.pr, .int .u32 (r.si : Int), .int .i64 r.sb, .int .u32 (r.di : Int), .int .i64 r.db, .int .u32 (r.ex : Int), .int .u16 r.fr, .int .u16 r.to, .int .u32 (r.ii : Int), .int .u16 r.ip] 42)).cell (p := ⟨w.heap.size + 1, 1, none⟩) hX).trans x1_
      have k2_ : (X.alloc (.cells #[.int .i64 r.k, .int .u8 r.pr, .int .u32 (r.si : Int), .int .i64 r.sb, .int .u32 (r.di : Int), .int .i64 r.db, .int .u32 (r.ex : Int), .int .u16 r.fr, .int .u16 r.to, .int .u32 (r.ii : Int), .int .u16 r.ip] 42)).cell? ⟨w.heap.size + 1, 2, none⟩ = some (.int .u32 (r.si : Int)) := (((Below.refl X.heap.size X).alloc (Nat.le_refl _) (.cells #[.int .i64 r.k, .int .u8 r.pr, .int .u32 (r.si : Int), .int .i64 r.sb, .int .u32 (r.di : Int), .int .i64 r.db, .int .u32 (r.ex : Int), .int .u16 r.fr, .int .u16 r.to, .int .u32 (r.ii : Int), .int .u16 r.ip] 42)).cell (p := ⟨w.heap.size + 1, 2, none⟩) hX).trans x2_
      have k3_ : (X.alloc (.cells #[.int .i64 r.k, .int .u8 r.pr, .int .u32 (r.si : Int), .int .i64 r.sb, .int .u32 (r.di : Int), .int .i64 r.db, .int .u32 (r.ex : Int), .int .u16 r.fr, .int .u16 r.to, .int .u32 (r.ii : Int), .int .u16 r.ip] 42)).cell? ⟨w.heap.size + 1, 3, none⟩ = some (.int .i64 r.sb) := (((Below.refl X.heap.size X).alloc (Nat.le_refl _) (.cells #[.int .i64 r.k, .int .u8 r.pr, .int .u32 (r.si : Int), .int .i64 r.sb, .int .u32 (r.di : Int), .int .i64 r.db, .int .u32 (r.ex : Int), .int .u16 r.fr, .int .u16 r.to, .int .u32 (r.ii : Int), .int .u16 r.ip] 42)).cell (p := ⟨w.heap.size + 1, 3, none⟩) hX).trans x3_
      have k4_ : (X.alloc (.cells #[.int .i64 r.k, .int .u8 r.pr, .int .u32 (r.si : Int), .int .i64 r.sb, .int .u32 (r.di : Int), .int .i64 r.db, .int .u32 (r.ex : Int), .int .u16 r.fr, .int .u16 r.to, .int .u32 (r.ii : Int), .int .u16 r.ip] 42)).cell? ⟨w.heap.size + 1, 4, none⟩ = some (.int .u32 (r.di : Int)) := (((Below.refl X.heap.size X).alloc (Nat.le_refl _) (.cells #[.int .i64 r.k, .int .u8 r.pr, .int .u32 (r.si : Int), .int .i64 r.sb, .int .u32 (r.di : Int), .int .i64 r.db, .int .u32 (r.ex : Int), .int .u16 r.fr, .int .u16 r.to, .int .u32 (r.ii : Int), .int .u16 r.ip] 42)).cell (p := ⟨w.heap.size + 1, 4, none⟩) hX).trans x4_
      have k5_ : (X.alloc (.cells #[.int .i64 r.k, .int .u8 r.pr, .int .u32 (r.si : Int), .int .i64 r.sb, .int .u32 (r.di : Int), .int .i64 r.db, .int .u32 (r.ex : Int), .int .u16 r.fr, .int .u16 r.to, .int .u32 (r.ii : Int), .int .u16 r.ip] 42)).cell? ⟨w.heap.size + 1, 5, none⟩ = some (.int .i64 r.db) := (((Below.refl X.heap.size X).alloc (Nat.le_refl _) (.cells #[.int .i64 r.k, .int .u8 r.pr, .int .u32 (r.si : Int), .int .i64 r.sb, .int .u32 (r.di : Int), .int .i64 r.db, .int .u32 (r.ex : Int), .int .u16 r.fr, .int .u16 r.to, .int .u32 (r.ii : Int), .int .u16 r.ip] 42)).cell (p := ⟨w.heap.size + 1, 5, none⟩) hX).trans x5_
      have k6_ : (X.alloc (.cells #[.int .i64 r.k, .int .u8 r.pr, .int .u32 (r.si : Int), .int .i64 r.sb, .int .u32 (r.di : Int), .int .i64 r.db, .int .u32 (r.ex : Int), .int .u16 r.fr, .int .u16 r.to, .int .u32 (r.ii : Int), .int .u16 r.ip] 42)).cell? ⟨w.heap.size + 1, 6, none⟩ = some (.int .u32 (r.ex : Int)) := (((Below.refl X.heap.size X).alloc (Nat.le_refl _) (.cells #[.int .i64 r.k, .int .u8 r.pr, .int .u32 (r.si : Int), .int .i64 r.sb, .int .u32 (r.di : Int), .int .i64 r.db, .int .u32 (r.ex : Int), .int .u16 r.fr, .int .u16 r.to, .int .u32 (r.ii : Int), .int .u16 r.ip] 42)).cell (p := ⟨w.heap.size + 1, 6, none⟩) hX).trans x6_
      have k7_ : (X.alloc (.cells #[.int .i64 r.k, .int .u8 r.pr, .int .u32 (r.si : Int), .int .i64 r.sb, .int .u32 (r.di : Int), .int .i64 r.db, .int .u32 (r.ex : Int), .int .u16 r.fr, .int .u16 r.to, .int .u32 (r.ii : Int), .int .u16 r.ip] 42)).cell? ⟨w.heap.size + 1, 7, none⟩ = some (.int .u16 r.fr) := (((Below.refl X.heap.size X).alloc (Nat.le_refl _) (.cells #[.int .i64 r.k, .int .u8 r.pr, .int .u32 (r.si : Int), .int .i64 r.sb, .int .u32 (r.di : Int), .int .i64 r.db, .int .u32 (r.ex : Int), .int .u16 r.fr, .int .u16 r.to, .int .u32 (r.ii : Int), .int .u16 r.ip] 42)).cell (p := ⟨w.heap.size + 1, 7, none⟩) hX).trans x7_
      have k8_ : (X.alloc (.cells #[.int .i64 r.k, .int .u8 r.pr, .int .u32 (r.si : Int), .int .i64 r.sb, .int .u32 (r.di : Int), .int .i64 r.db, .int .u32 (r.ex : Int), .int .u16 r.fr, .int .u16 r.to, .int .u32 (r.ii : Int), .int .u16 r.ip] 42)).cell? ⟨w.heap.size + 1, 8, none⟩ = some (.int .u16 r.to) := (((Below.refl X.heap.size X).alloc (Nat.le_refl _) (.cells #[.int .i64 r.k, .int .u8 r.pr, .int .u32 (r.si : Int), .int .i64 r.sb, .int .u32 (r.di : Int), .int .i64 r.db, .int .u32 (r.ex : Int), .int .u16 r.fr, .int .u16 r.to, .int .u32 (r.ii : Int), .int .u16 r.ip] 42)).cell (p := ⟨w.heap.size + 1, 8, none⟩) hX).trans x8_
      have k9_ : (X.alloc (.cells #[.int .i64 r.k, .int .u8 r.pr, .int .u32 (r.si : Int), .int .i64 r.sb, .int .u32 (r.di : Int), .int .i64 r.db, .int .u32 (r.ex : Int), .int .u16 r.fr, .int .u16 r.to, .int .u32 (r.ii : Int), .int .u16 r.ip] 42)).cell? ⟨w.heap.size + 1, 9, none⟩ = some (.int .u32 (r.ii : Int)) := (((Below.refl X.heap.size X).alloc (Nat.le_refl _) (.cells #[.int .i64 r.k, .int .u8 r.pr, .int .u32 (r.si : Int), .int .i64 r.sb, .int .u32 (r.di : Int), .int .i64 r.db, .int .u32 (r.ex : Int), .int .u16 r.fr, .int .u16 r.to, .int .u32 (r.ii : Int), .int .u16 r.ip] 42)).cell (p := ⟨w.heap.size + 1, 9, none⟩) hX).trans x9_
      have k10_ : (X.alloc (.cells #[.int .i64 r.k, .int .u8 r.pr, .int .u32 (r.si : Int), .int .i64 r.sb, .int .u32 (r.di : Int), .int .i64 r.db, .int .u32 (r.ex : Int), .int .u16 r.fr, .int .u16 r.to, .int .u32 (r.ii : Int), .int .u16 r.ip] 42)).cell? ⟨w.heap.size + 1, 10, none⟩ = some (.int .u16 r.ip) := (((Below.refl X.heap.size X).alloc (Nat.le_refl _) (.cells #[.int .i64 r.k, .int .u8 r.pr, .int .u32 (r.si : Int), .int .i64 r.sb, .int .u32 (r.di : Int), .int .i64 r.db, .int .u32 (r.ex : Int), .int .u16 r.fr, .int .u16 r.to, .int .u32 (r.ii : Int), .int .u16 r.ip] 42)).cell (p := ⟨w.heap.size + 1, 10, none⟩) hX).trans x10_
      refine bodyPost_ret (v := .tuple #[.agg #[.int .i64 r.k, .int .u8 r.pr, .int .u32 (r.si : Int), .int .i64 r.sb, .int .u32 (r.di : Int), .int .i64 r.db, .int .u32 (r.ex : Int), .int .u16 r.fr, .int .u16 r.to, .int .u32 (r.ii : Int), .int .u16 r.ip], .bool true]) (by simp [results, Try.results48, go_sem, k0_, k1_, k2_, k3_, k4_, k5_, k6_, k7_, k8_, k9_, k10_]) rfl ?_
      rw [HT.out.1, HT.out.2]
      exact ⟨rfl, BX.alloc BX.size _⟩
set_option maxHeartbeats 4000000 in
set_option maxRecDepth 100000 in
theorem rownR_ (t : Tm) (pr ep : Int) (ea p cap : Nat) (a : Option Addr) (w : World) (T0 : Box4 w p (.int .u32 (t.own : Int)) (.int .u32 (t.ip : Int)) (.int .i64 t.bits) (.slice a t.rs.length cap)) (R0 : RulesAt w a t.rs) (hl : t.rs.length ≤ 1000) :
    Calls Try.prog 49 #[.pointer (some ⟨p, 0, none⟩), .int .u8 pr, .agg #[.int .u32 (ea : Int), .int .u16 ep]] w fun e w' => e = .returned (.tuple #[.agg #[.int .i64 (findRu t.rs (fitO pr ea ep)).k, .int .u8 (findRu t.rs (fitO pr ea ep)).pr, .int .u32 ((findRu t.rs (fitO pr ea ep)).si : Int), .int .i64 (findRu t.rs (fitO pr ea ep)).sb, .int .u32 ((findRu t.rs (fitO pr ea ep)).di : Int), .int .i64 (findRu t.rs (fitO pr ea ep)).db, .int .u32 ((findRu t.rs (fitO pr ea ep)).ex : Int), .int .u16 (findRu t.rs (fitO pr ea ep)).fr, .int .u16 (findRu t.rs (fitO pr ea ep)).to, .int .u32 ((findRu t.rs (fitO pr ea ep)).ii : Int), .int .u16 (findRu t.rs (fitO pr ea ep)).ip], .bool (hitRu t.rs (fitO pr ea ep))]) ∧ Below w.heap.size w w' := by
  have TZ := Lib.hid T0
  have RZ := Lib.hid R0
  have HL := Lib.hid hl
  clear R0 hl
  generalize hG : t.rs = rs at *
  go_enter Try.func49, Try.ntmps49
  have B1 := Below.refl w.heap.size w
  go_upto_region 1 with fail
  have T_2 := T0.past (o := (.cells #[.int .u32 (ea : Int), .int .u16 ep] 40))
  have E_3 := Box2.make w (.int .u32 (ea : Int)) (.int .u16 ep) 40
  have B4 := B1.alloc B1.size (.cells #[.int .u32 (ea : Int), .int .u16 ep] 40)
  clear T0 B1
  have T_5 := T_2.past (o := (.cells #[.int .i64 0, .int .u8 0, .int .u32 0, .int .i64 0, .int .u32 0, .int .i64 0, .int .u32 0, .int .u16 0, .int .u16 0, .int .u32 0, .int .u16 0] 42))
  have E_6 := E_3.past (o := (.cells #[.int .i64 0, .int .u8 0, .int .u32 0, .int .i64 0, .int .u32 0, .int .i64 0, .int .u32 0, .int .u16 0, .int .u16 0, .int .u32 0, .int .u16 0] 42))
  have hs_ : (w.alloc (.cells #[.int .u32 (ea : Int), .int .u16 ep] 40)).heap.size = w.heap.size + 1 := by simp
  have Z_7 := Box11.make (w.alloc (.cells #[.int .u32 (ea : Int), .int .u16 ep] 40)) (.int .i64 0) (.int .u8 0) (.int .u32 0) (.int .i64 0) (.int .u32 0) (.int .i64 0) (.int .u32 0) (.int .u16 0) (.int .u16 0) (.int .u32 0) (.int .u16 0) 42
  rw [hs_] at Z_7
  clear hs_
  have B8 := B4.alloc B4.size (.cells #[.int .i64 0, .int .u8 0, .int .u32 0, .int .i64 0, .int .u32 0, .int .i64 0, .int .u32 0, .int .u16 0, .int .u16 0, .int .u32 0, .int .u16 0] 42)
  clear T_2 E_3 B4
  have fzZ_9 : ∀ i, ((w.alloc (.cells #[.int .u32 (ea : Int), .int .u16 ep] 40)).alloc (.cells #[.int .i64 0, .int .u8 0, .int .u32 0, .int .i64 0, .int .u32 0, .int .i64 0, .int .u32 0, .int .u16 0, .int .u16 0, .int .u32 0, .int .u16 0] 42)).frozen? ⟨(w.heap.size + 1), i, none⟩ = false := by intro i; simp [go_sem]
  obtain ⟨u1, hu1⟩ : ∃ x, x = (w.alloc (.cells #[.int .u32 (ea : Int), .int .u16 ep] 40)).alloc (.cells #[.int .i64 0, .int .u8 0, .int .u32 0, .int .i64 0, .int .u32 0, .int .i64 0, .int .u32 0, .int .u16 0, .int .u16 0, .int .u32 0, .int .u16 0] 42) := ⟨_, rfl⟩
  rw [← hu1] at T_5 E_6 Z_7 fzZ_9 B8 ⊢
  clear hu1
  obtain ⟨_, t1_0, t1_1, t1_2, t1_3⟩ := id T_5
  have R1 := Lib.hid (RZ.out.on B8)
  go_wp2_with fail
  go_loopw [8] (fun si wr => ∃ i : Nat, i ≤ rs.length ∧ si = .int .i64 (i : Int) ∧ Below u1.heap.size u1 wr ∧ Hid (∀ j, j < i → fitO pr ea ep (rs.getD j Ru.zero) = false)) (fun si _ => rs.length - (intOf si).toNat)
  case atStart => exact ⟨0, Nat.zero_le _, rfl, Below.refl _ _, fun j hj => by omega⟩
  case round =>
    clear t1_0 t1_1 t1_2 t1_3
    obtain ⟨i, hi, rfl, bb, HF⟩ := hrel
    by_cases hlt : i < rs.length
    rotate_left
    · have e10 : decide ((i : Int) < (rs.length : Int)) = false := by simp; omega
      have e11 : decide (i < rs.length) = false := by simp; omega
      have HT : Hid (findRu rs (fitO pr ea ep) = Ru.zero ∧ hitRu rs (fitO pr ea ep) = false) := none_fits (by omega) HF.out
      have T2 := T_5.on bb
      obtain ⟨_, t0, t1, t2, t3⟩ := id T2
      have Z2 := Z_7.on bb
      obtain ⟨_, y0, y1, y2, y3, y4, y5, y6, y7, y8, y9, y10⟩ := id Z2
      have fz2 : ∀ i, wr.frozen? ⟨w.heap.size + 1, i, none⟩ = false := fun i => (bb.frozen (p := ⟨_, i, none⟩) Z_7.1).trans (fzZ_9 i)
      have B2 := B8.trans (bb.mono B8.size)
      go_wp2
      refine box11_ (b := w.heap.size + 1) Z2.some B2 (Nat.le_succ _) fun X x0_ x1_ x2_ x3_ x4_ x5_ x6_ x7_ x8_ x9_ x10_ BX _ _ => ?_
      refine bodyPost_ret (v := .tuple #[.agg #[.int .i64 0, .int .u8 0, .int .u32 0, .int .i64 0, .int .u32 0, .int .i64 0, .int .u32 0, .int .u16 0, .int .u16 0, .int .u32 0, .int .u16 0], .bool false]) (by simp [results, Try.results49, go_sem, x0_, x1_, x2_, x3_, x4_, x5_, x6_, x7_, x8_, x9_, x10_]) rfl ?_
      rw [HT.out.1, HT.out.2]
      exact ⟨rfl, BX⟩
    have HI := Lib.hid hlt
    have e10 : decide ((i : Int) < (rs.length : Int)) = true := by simp; omega
    have e11 : decide (i < rs.length) = true := by simp; omega
    have e12 : (i : Int) < (rs.length : Int) := by omega
    have e13 : (i : Int) + 1 ≤ 100000 := by have := HL.out; omega
    obtain ⟨b, ha, hb, hc⟩ : ∃ b, a = some ⟨b, 0, none⟩ ∧ b < wr.heap.size ∧ _ := by
      rcases (R1.out.on bb) with h | h
      · omega
      · exact h
    subst ha
    have T2 := T_5.on bb
    obtain ⟨_, t0, t1, t2, t3⟩ := id T2
    obtain ⟨c0, c1, c2, c3, c4, c5, c6, c7, c8, c9, c10⟩ := hc i hlt
    obtain ⟨r, hr⟩ : ∃ r, r = rs.getD i Ru.zero := ⟨_, rfl⟩
    rw [← hr] at c0 c1 c2 c3 c4 c5 c6 c7 c8 c9 c10
    have HR := Lib.hid hr
    clear hr hc hi hlt
    obtain ⟨z1, p1, q1, l1⟩ := eqi_ r.k 3
    obtain ⟨z2, p2, q2, l2⟩ := eqi_ r.pr pr
    obtain ⟨z3, p3, q3, l3⟩ := eqn_ r.ii ea
    obtain ⟨z4, p4, q4, l4⟩ := eqi_ r.ip ep
    have HV : Hid (fitO pr ea ep r = (z1 && z2 && (z3 && z4))) := by show _ = _; unfold fitO; rw [l1, l2, l3, l4]
    clear l1 l2 l3 l4
    have key : z1 = false ∨ (z1 = true ∧ z2 = false) ∨ (z1 = true ∧ z2 = true ∧ z3 = false) ∨ (z1 = true ∧ z2 = true ∧ z3 = true ∧ z4 = false) ∨ (z1 = true ∧ z2 = true ∧ z3 = true ∧ z4 = true) := by cases z1 <;> cases z2 <;> cases z3 <;> cases z4 <;> simp
    have E2 := E_6.on bb
    obtain ⟨_, x0, x1⟩ := id E2
    have Z2 := Z_7.on bb
    have fz2 : ∀ i, wr.frozen? ⟨w.heap.size + 1, i, none⟩ = false := fun i => (bb.frozen (p := ⟨_, i, none⟩) Z_7.1).trans (fzZ_9 i)
    have B2 := B8.trans (bb.mono B8.size)
    have LZ := Lib.hid (And.intro Z_7.1 bb.size)
    rcases key with rfl | ⟨rfl, rfl⟩ | ⟨rfl, rfl, rfl⟩ | ⟨rfl, rfl, rfl, rfl⟩ | ⟨rfl, rfl, rfl, rfl⟩
    · simp only [Bool.not_true, Bool.not_false, Bool.and_true, Bool.and_false, Bool.true_and, Bool.false_and] at HV
      go_wp2_with fail
      have BN := bb.alloc bb.size (.cells #[.int .i64 r.k, .int .u8 r.pr, .int .u32 (r.si : Int), .int .i64 r.sb, .int .u32 (r.di : Int), .int .i64 r.db, .int .u32 (r.ex : Int), .int .u16 r.fr, .int .u16 r.to, .int .u32 (r.ii : Int), .int .u16 r.ip] 42)
      go_roundw
      case rel =>
        refine ⟨i + 1, HI.out, by go_num, BN, fun j hj => ?_⟩
        by_cases e : j = i
        · rw [e, ← HR.out]; exact HV.out
        · exact HF.out j (by omega)
      case measure => have := HI.out; simp [intOf]; omega
    · simp only [Bool.not_true, Bool.not_false, Bool.and_true, Bool.and_false, Bool.true_and, Bool.false_and] at HV
      go_wp2_with fail
      have BN := bb.alloc bb.size (.cells #[.int .i64 r.k, .int .u8 r.pr, .int .u32 (r.si : Int), .int .i64 r.sb, .int .u32 (r.di : Int), .int .i64 r.db, .int .u32 (r.ex : Int), .int .u16 r.fr, .int .u16 r.to, .int .u32 (r.ii : Int), .int .u16 r.ip] 42)
      go_roundw
      case rel =>
        refine ⟨i + 1, HI.out, by go_num, BN, fun j hj => ?_⟩
        by_cases e : j = i
        · rw [e, ← HR.out]; exact HV.out
        · exact HF.out j (by omega)
      case measure => have := HI.out; simp [intOf]; omega
    · simp only [Bool.not_true, Bool.not_false, Bool.and_true, Bool.and_false, Bool.true_and, Bool.false_and] at HV
      go_wp2_with fail
      have BN := bb.alloc bb.size (.cells #[.int .i64 r.k, .int .u8 r.pr, .int .u32 (r.si : Int), .int .i64 r.sb, .int .u32 (r.di : Int), .int .i64 r.db, .int .u32 (r.ex : Int), .int .u16 r.fr, .int .u16 r.to, .int .u32 (r.ii : Int), .int .u16 r.ip] 42)
      go_roundw
      case rel =>
        refine ⟨i + 1, HI.out, by go_num, BN, fun j hj => ?_⟩
        by_cases e : j = i
        · rw [e, ← HR.out]; exact HV.out
        · exact HF.out j (by omega)
      case measure => have := HI.out; simp [intOf]; omega
    · simp only [Bool.not_true, Bool.not_false, Bool.and_true, Bool.and_false, Bool.true_and, Bool.false_and] at HV
      go_wp2_with fail
      have BN := bb.alloc bb.size (.cells #[.int .i64 r.k, .int .u8 r.pr, .int .u32 (r.si : Int), .int .i64 r.sb, .int .u32 (r.di : Int), .int .i64 r.db, .int .u32 (r.ex : Int), .int .u16 r.fr, .int .u16 r.to, .int .u32 (r.ii : Int), .int .u16 r.ip] 42)
      go_roundw
      case rel =>
        refine ⟨i + 1, HI.out, by go_num, BN, fun j hj => ?_⟩
        by_cases e : j = i
        · rw [e, ← HR.out]; exact HV.out
        · exact HF.out j (by omega)
      case measure => have := HI.out; simp [intOf]; omega
    · simp only [Bool.not_true, Bool.not_false, Bool.and_true, Bool.and_false, Bool.true_and, Bool.false_and] at HV
      obtain ⟨_, y0, y1, y2, y3, y4, y5, y6, y7, y8, y9, y10⟩ := id Z2
      have ne1_ : ¬ wr.heap.size = w.heap.size + 1 := by have := LZ.out.1; have := LZ.out.2; omega
      have ne2_ : ¬ w.heap.size + 1 = wr.heap.size := by have := LZ.out.1; have := LZ.out.2; omega
      have HT : Hid (findRu rs (fitO pr ea ep) = r ∧ hitRu rs (fitO pr ea ep) = true) := first_fit HI.out HR.out HF.out HV.out
      go_wp2
      refine box11_ (M := fun X => bodyPost Try.prog Try.f49 _ Exit.ret _ (X.alloc (.cells #[.int .i64 r.k, .int .u8 r.pr, .int .u32 (r.si : Int), .int .i64 r.sb, .int .u32 (r.di : Int), .int .i64 r.db, .int .u32 (r.ex : Int), .int .u16 r.fr, .int .u16 r.to, .int .u32 (r.ii : Int), .int .u16 r.ip] 42))) (b := w.heap.size + 1) Z2.some B2 (Nat.le_succ _) fun X x0_ x1_ x2_ x3_ x4_ x5_ x6_ x7_ x8_ x9_ x10_ BX _ szX => ?_
      have hX : w.heap.size + 1 < X.heap.size := by rw [szX]; exact Z2.1
      have k0_ : (X.alloc (.cells #[.int .i64 r.k, .int .u8 r.pr, .int .u32 (r.si : Int), .int .i64 r.sb, .int .u32 (r.di : Int), .int .i64 r.db, .int .u32 (r.ex : Int), .int .u16 r.fr, .int .u16 r.to, .int .u32 (r.ii : Int), .int .u16 r.ip] 42)).cell? ⟨w.heap.size + 1, 0, none⟩ = some (.int .i64 r.k) := (((Below.refl X.heap.size X).alloc (Nat.le_refl _) (.cells #[.int .i64 r.k, .int .u8 r.pr, .int .u32 (r.si : Int), .int .i64 r.sb, .int .u32 (r.di : Int), .int .i64 r.db, .int .u32 (r.ex : Int), .int .u16 r.fr, .int .u16 r.to, .int .u32 (r.ii : Int), .int .u16 r.ip] 42)).cell (p := ⟨w.heap.size + 1, 0, none⟩) hX).trans x0_
      have k1_ : (X.alloc (.cells #[.int .i64 r.k, .int .u8 r.pr, .int .u32 (r.si : Int), .int .i64 r.sb, .int .u32 (r.di : Int), .int .i64 r.db, .int .u32 (r.ex : Int), .int .u16 r.fr, .int .u16 r.to, .int .u32 (r.ii : Int), .int .u16 r.ip] 42)).cell? ⟨w.heap.size + 1, 1, none⟩ = some (.int .u8 r.pr) := (((Below.refl X.heap.size X).alloc (Nat.le_refl _) (.cells #[.int .i64 r.k, .int .u8 r.pr, .int .u32 (r.si : Int), .int .i64 r.sb, .int .u32 (r.di : Int), .int .i64 r.db, .int .u32 (r.ex : Int), .int .u16 r.fr, .int .u16 r.to, .int .u32 (r.ii : Int), .int .u16 r.ip] 42)).cell (p := ⟨w.heap.size + 1, 1, none⟩) hX).trans x1_
      have k2_ : (X.alloc (.cells #[.int .i64 r.k, .int .u8 r.pr, .int .u32 (r.si : Int), .int .i64 r.sb, .int .u32 (r.di : Int), .int .i64 r.db, .int .u32 (r.ex : Int), .int .u16 r.fr, .int .u16 r.to, .int .u32 (r.ii : Int), .int .u16 r.ip] 42)).cell? ⟨w.heap.size + 1, 2, none⟩ = some (.int .u32 (r.si : Int)) := (((Below.refl X.heap.size X).alloc (Nat.le_refl _) (.cells #[.int .i64 r.k, .int .u8 r.pr, .int .u32 (r.si : Int), .int .i64 r.sb, .int .u32 (r.di : Int), .int .i64 r.db, .int .u32 (r.ex : Int), .int .u16 r.fr, .int .u16 r.to, .int .u32 (r.ii : Int), .int .u16 r.ip] 42)).cell (p := ⟨w.heap.size + 1, 2, none⟩) hX).trans x2_
      have k3_ : (X.alloc (.cells #[.int .i64 r.k, .int .u8 r.pr, .int .u32 (r.si : Int), .int .i64 r.sb, .int .u32 (r.di : Int), .int .i64 r.db, .int .u32 (r.ex : Int), .int .u16 r.fr, .int .u16 r.to, .int .u32 (r.ii : Int), .int .u16 r.ip] 42)).cell? ⟨w.heap.size + 1, 3, none⟩ = some (.int .i64 r.sb) := (((Below.refl X.heap.size X).alloc (Nat.le_refl _) (.cells #[.int .i64 r.k, .int .u8 r.pr, .int .u32 (r.si : Int), .int .i64 r.sb, .int .u32 (r.di : Int), .int .i64 r.db, .int .u32 (r.ex : Int), .int .u16 r.fr, .int .u16 r.to, .int .u32 (r.ii : Int), .int .u16 r.ip] 42)).cell (p := ⟨w.heap.size + 1, 3, none⟩) hX).trans x3_
      have k4_ : (X.alloc (.cells #[.int .i64 r.k, .int .u8 r.pr, .int .u32 (r.si : Int), .int .i64 r.sb, .int .u32 (r.di : Int), .int .i64 r.db, .int .u32 (r.ex : Int), .int .u16 r.fr, .int .u16 r.to, .int .u32 (r.ii : Int), .int .u16 r.ip] 42)).cell? ⟨w.heap.size + 1, 4, none⟩ = some (.int .u32 (r.di : Int)) := (((Below.refl X.heap.size X).alloc (Nat.le_refl _) (.cells #[.int .i64 r.k, .int .u8 r.pr, .int .u32 (r.si : Int), .int .i64 r.sb, .int .u32 (r.di : Int), .int .i64 r.db, .int .u32 (r.ex : Int), .int .u16 r.fr, .int .u16 r.to, .int .u32 (r.ii : Int), .int .u16 r.ip] 42)).cell (p := ⟨w.heap.size + 1, 4, none⟩) hX).trans x4_
      have k5_ : (X.alloc (.cells #[.int .i64 r.k, .int .u8 r.pr, .int .u32 (r.si : Int), .int .i64 r.sb, .int .u32 (r.di : Int), .int .i64 r.db, .int .u32 (r.ex : Int), .int .u16 r.fr, .int .u16 r.to, .int .u32 (r.ii : Int), .int .u16 r.ip] 42)).cell? ⟨w.heap.size + 1, 5, none⟩ = some (.int .i64 r.db) := (((Below.refl X.heap.size X).alloc (Nat.le_refl _) (.cells #[.int .i64 r.k, .int .u8 r.pr, .int .u32 (r.si : Int), .int .i64 r.sb, .int .u32 (r.di : Int), .int .i64 r.db, .int .u32 (r.ex : Int), .int .u16 r.fr, .int .u16 r.to, .int .u32 (r.ii : Int), .int .u16 r.ip] 42)).cell (p := ⟨w.heap.size + 1, 5, none⟩) hX).trans x5_
      have k6_ : (X.alloc (.cells #[.int .i64 r.k, .int .u8 r.pr, .int .u32 (r.si : Int), .int .i64 r.sb, .int .u32 (r.di : Int), .int .i64 r.db, .int .u32 (r.ex : Int), .int .u16 r.fr, .int .u16 r.to, .int .u32 (r.ii : Int), .int .u16 r.ip] 42)).cell? ⟨w.heap.size + 1, 6, none⟩ = some (.int .u32 (r.ex : Int)) := (((Below.refl X.heap.size X).alloc (Nat.le_refl _) (.cells #[.int .i64 r.k, .int .u8 r.pr, .int .u32 (r.si : Int), .int .i64 r.sb, .int .u32 (r.di : Int), .int .i64 r.db, .int .u32 (r.ex : Int), .int .u16 r.fr, .int .u16 r.to, .int .u32 (r.ii : Int), .int .u16 r.ip] 42)).cell (p := ⟨w.heap.size + 1, 6, none⟩) hX).trans x6_
      have k7_ : (X.alloc (.cells #[.int .i64 r.k, .int .u8 r.pr, .int .u32 (r.si : Int), .int .i64 r.sb, .int .u32 (r.di : Int), .int .i64 r.db, .int .u32 (r.ex : Int), .int .u16 r.fr, .int .u16 r.to, .int .u32 (r.ii : Int), .int .u16 r.ip] 42)).cell? ⟨w.heap.size + 1, 7, none⟩ = some (.int .u16 r.fr) := (((Below.refl X.heap.size X).alloc (Nat.le_refl _) (.cells #[.int .i64 r.k, .int .u8 r.pr, .int .u32 (r.si : Int), .int .i64 r.sb, .int .u32 (r.di : Int), .int .i64 r.db, .int .u32 (r.ex : Int), .int .u16 r.fr, .int .u16 r.to, .int .u32 (r.ii : Int), .int .u16 r.ip] 42)).cell (p := ⟨w.heap.size + 1, 7, none⟩) hX).trans x7_
      have k8_ : (X.alloc (.cells #[.int .i64 r.k, .int .u8 r.pr, .int .u32 (r.si : Int), .int .i64 r.sb, .int .u32 (r.di : Int), .int .i64 r.db, .int .u32 (r.ex : Int), .int .u16 r.fr, .int .u16 r.to, .int .u32 (r.ii : Int), .int .u16 r.ip] 42)).cell? ⟨w.heap.size + 1, 8, none⟩ = some (.int .u16 r.to) := (((Below.refl X.heap.size X).alloc (Nat.le_refl _) (.cells #[.int .i64 r.k, .int .u8 r.pr, .int .u32 (r.si : Int), .int .i64 r.sb, .int .u32 (r.di : Int), .int .i64 r.db, .int .u32 (r.ex : Int), .int .u16 r.fr, .int .u16 r.to, .int .u32 (r.ii : Int), .int .u16 r.ip] 42)).cell (p := ⟨w.heap.size + 1, 8, none⟩) hX).trans x8_
      have k9_ : (X.alloc (.cells #[.int .i64 r.k, .int .u8 r.pr, .int .u32 (r.si : Int), .int .i64 r.sb, .int .u32 (r.di : Int), .int .i64 r.db, .int .u32 (r.ex : Int), .int .u16 r.fr, .int .u16 r.to, .int .u32 (r.ii : Int), .int .u16 r.ip] 42)).cell? ⟨w.heap.size + 1, 9, none⟩ = some (.int .u32 (r.ii : Int)) := (((Below.refl X.heap.size X).alloc (Nat.le_refl _) (.cells #[.int .i64 r.k, .int .u8 r.pr, .int .u32 (r.si : Int), .int .i64 r.sb, .int .u32 (r.di : Int), .int .i64 r.db, .int .u32 (r.ex : Int), .int .u16 r.fr, .int .u16 r.to, .int .u32 (r.ii : Int), .int .u16 r.ip] 42)).cell (p := ⟨w.heap.size + 1, 9, none⟩) hX).trans x9_
      have k10_ : (X.alloc (.cells #[.int .i64 r.k, .int .u8 r.pr, .int .u32 (r.si : Int), .int .i64 r.sb, .int .u32 (r.di : Int), .int .i64 r.db, .int .u32 (r.ex : Int), .int .u16 r.fr, .int .u16 r.to, .int .u32 (r.ii : Int), .int .u16 r.ip] 42)).cell? ⟨w.heap.size + 1, 10, none⟩ = some (.int .u16 r.ip) := (((Below.refl X.heap.size X).alloc (Nat.le_refl _) (.cells #[.int .i64 r.k, .int .u8 r.pr, .int .u32 (r.si : Int), .int .i64 r.sb, .int .u32 (r.di : Int), .int .i64 r.db, .int .u32 (r.ex : Int), .int .u16 r.fr, .int .u16 r.to, .int .u32 (r.ii : Int), .int .u16 r.ip] 42)).cell (p := ⟨w.heap.size + 1, 10, none⟩) hX).trans x10_
      refine bodyPost_ret (v := .tuple #[.agg #[.int .i64 r.k, .int .u8 r.pr, .int .u32 (r.si : Int), .int .i64 r.sb, .int .u32 (r.di : Int), .int .i64 r.db, .int .u32 (r.ex : Int), .int .u16 r.fr, .int .u16 r.to, .int .u32 (r.ii : Int), .int .u16 r.ip], .bool true]) (by simp [results, Try.results49, go_sem, k0_, k1_, k2_, k3_, k4_, k5_, k6_, k7_, k8_, k9_, k10_]) rfl ?_
      rw [HT.out.1, HT.out.2]
      exact ⟨rfl, BX.alloc BX.size _⟩
end Go.Proofs.Ytoogegpkgohffaa
namespace Go.Proofs.Ytoogegpkgohffaa
set_option linter.unusedVariables false
set_option linter.unusedSimpArgs false
open Go.ChangeShapes Go.WideShapes Go.ChangeAt Go.RowKit Go.PlainAid
def Ru.vals (r : Ru) : List Value := [.int .i64 r.k, .int .u8 r.pr, .int .u32 (r.si : Int), .int .i64 r.sb, .int .u32 (r.di : Int), .int .i64 r.db, .int .u32 (r.ex : Int), .int .u16 r.fr, .int .u16 r.to, .int .u32 (r.ii : Int), .int .u16 r.ip]
def valsR (rs : List Ru) : List Value := rs.flatMap Ru.vals
theorem vals_len (r : Ru) : r.vals.length = 11 := rfl
theorem valsR_cons (r : Ru) (l : List Ru) : valsR (r :: l) = r.vals ++ valsR l := by simp [valsR]
theorem valsR_app (l m : List Ru) : valsR (l ++ m) = valsR l ++ valsR m := by simp [valsR]
theorem valsR_len (rs : List Ru) : (valsR rs).length = rs.length * 11 := by
  induction rs with
  | nil => rfl
  | cons r l ih => rw [valsR_cons, List.length_append, ih, vals_len, List.length_cons]; omega
theorem valsR_get (rs : List Ru) : ∀ i j, i < rs.length → j < 11 → (valsR rs)[i * 11 + j]? = (rs.getD i Ru.zero).vals[j]? := by
  induction rs with
  | nil => intro i j h; simp at h
  | cons r l ih =>
    intro i j h hj
    rw [valsR_cons]
    cases i with
    | zero =>
      rw [List.getElem?_append_left (by rw [vals_len]; omega)]
      simp
    | succ i =>
      rw [List.getElem?_append_right (by rw [vals_len]; omega), vals_len, show (i + 1) * 11 + j - 11 = i * 11 + j by omega, ih i j (by simpa using h) hj]
      simp
theorem vals_one (rs : List Ru) : ∀ u ∈ valsR rs, u.oneCell' = true := by
  intro u hu
  simp only [valsR, List.mem_flatMap] at hu
  obtain ⟨r, _, hr⟩ := hu
  simp only [Ru.vals, List.mem_cons, List.not_mem_nil, or_false] at hr
  rcases hr with rfl | rfl | rfl | rfl | rfl | rfl | rfl | rfl | rfl | rfl | rfl <;> rfl
/-- The cells, one behind the other. -/
theorem RulesAt.each {w : World} {b : Nat} {rs : List Ru} (h : RulesAt w (some ⟨b, 0, none⟩) rs) (q : Nat) (u : Value) (hu : (valsR rs)[q]? = some u) : w.cell? ⟨b, q, none⟩ = some u := by
  have hq : q < rs.length * 11 := by
    have := (List.getElem?_eq_some_iff.1 hu).1
    rw [valsR_len] at this
    exact this
  rcases h with h | ⟨b', e, hb, hc⟩
  · omega
  · obtain rfl : b = b' := by simpa using e
    obtain ⟨i, j, hj, rfl⟩ : ∃ i j, j < 11 ∧ q = i * 11 + j := ⟨q / 11, q % 11, by omega, by omega⟩
    have hi : i < rs.length := by omega
    rw [valsR_get rs i j hi hj] at hu
    obtain ⟨c0, c1, c2, c3, c4, c5, c6, c7, c8, c9, c10⟩ := hc i hi
    match j, hj with
    | 0, _ => simp [Ru.vals] at hu; rw [← hu]; exact c0
    | 1, _ => simp [Ru.vals] at hu; rw [← hu]; exact c1
    | 2, _ => simp [Ru.vals] at hu; rw [← hu]; exact c2
    | 3, _ => simp [Ru.vals] at hu; rw [← hu]; exact c3
    | 4, _ => simp [Ru.vals] at hu; rw [← hu]; exact c4
    | 5, _ => simp [Ru.vals] at hu; rw [← hu]; exact c5
    | 6, _ => simp [Ru.vals] at hu; rw [← hu]; exact c6
    | 7, _ => simp [Ru.vals] at hu; rw [← hu]; exact c7
    | 8, _ => simp [Ru.vals] at hu; rw [← hu]; exact c8
    | 9, _ => simp [Ru.vals] at hu; rw [← hu]; exact c9
    | 10, _ => simp [Ru.vals] at hu; rw [← hu]; exact c10
    | j + 11, hj => omega
theorem RulesAt.made {w : World} {g : Nat} {rs : List Ru} (hg : g < w.heap.size) (h : ∀ q u, (valsR rs)[q]? = some u → w.cell? ⟨g, q, none⟩ = some u) : RulesAt w (some ⟨g, 0, none⟩) rs := by
  refine .inr ⟨g, rfl, hg, fun i hi => ?_⟩
  have k := fun j hj => valsR_get rs i j hi hj
  exact ⟨h (i * 11) _ (k 0 (by omega)), h (i * 11 + 1) _ (k 1 (by omega)), h (i * 11 + 2) _ (k 2 (by omega)), h (i * 11 + 3) _ (k 3 (by omega)), h (i * 11 + 4) _ (k 4 (by omega)), h (i * 11 + 5) _ (k 5 (by omega)), h (i * 11 + 6) _ (k 6 (by omega)), h (i * 11 + 7) _ (k 7 (by omega)), h (i * 11 + 8) _ (k 8 (by omega)), h (i * 11 + 9) _ (k 9 (by omega)), h (i * 11 + 10) _ (k 10 (by omega))⟩
end Go.Proofs.Ytoogegpkgohffaa
