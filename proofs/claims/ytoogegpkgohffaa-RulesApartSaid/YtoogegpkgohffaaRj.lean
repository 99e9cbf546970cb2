/- Layer 11: the laws' filled table. -/
import Derived.Test.YtoogegpkgohffaaRh
namespace Go.Proofs.Ytoogegpkgohffaa
set_option linter.unusedVariables false
set_option linter.unusedSimpArgs false
open Go.ChangeShapes Go.WideShapes Go.ChangeAt Go.RowKit Go.PlainAid
attribute [local go_sem ↓] Go.wp_at_zero Go.wp_at_succ
set_option maxHeartbeats 4000000 in
set_option maxRecDepth 100000 in
theorem filled_ (a : Option Addr) (len cap : Nat) (ds : List Dr) (w : World) (D0 : DrAt w a len ds) (hl : len ≤ 60) :
    Calls Try.prog 30 #[.slice a len cap] w fun e w' => Below w.heap.size w w' ∧ ∃ p v t, e = .returned (.tuple #[.pointer (some ⟨p, 0, none⟩), .bool true]) ∧ TabC w' w.heap.size p v t ∧ t.Good ∧ t.Law ∧ t.Sound := by
  have D := Lib.hid D0
  have HL := Lib.hid hl
  clear D0 hl
  go_enter Try.func30, Try.ntmps30
  have B1 := Below.refl w.heap.size w
  go_wp2_with fail
  refine (tens_ _).mono ?_; rintro e w1 ⟨rfl, x1⟩
  have B2 := B1.trans (x1.mono B1.size)
  clear B1 x1
  go_wp2_with fail
  refine (xn0 _).mono ?_; rintro e w2 ⟨p, rfl, T0, b2⟩
  have B90 := B2.trans (b2.mono B2.size)
  have L0 := T0.less B2.size
  clear T0 b2
  go_wp2_with fail
  go_loopw [6] (fun si wr => ∃ (i : Nat) (v : Value) (t : Tm), i ≤ len ∧ si = .int .i64 (i : Int) ∧ Below w.heap.size w wr ∧ TabC wr w.heap.size p v t ∧ t.Good ∧ t.Law ∧ t.Sound) (fun si _ => len - (intOf si).toNat)
  case atStart => exact ⟨0, _, _, Nat.zero_le _, rfl, B90, L0, good0, ⟨rfl, rfl, rfl⟩, Tm.Sound.none _ _ _⟩
  case round =>
    clear L0 B90 B2
    obtain ⟨i, v, t, hi, rfl, bb, T, G, L, S⟩ := hrel
    by_cases hlt : i < len
    rotate_left
    · have e10 : decide ((i : Int) < (len : Int)) = false := by simp; omega
      have e11 : decide (i < len) = false := by simp; omega
      have KT := Lib.hid (And.intro T (And.intro G (And.intro L S)))
      clear T G L S
      go_wp2
      go_ret2
      exact ⟨bb, p, v, t, rfl, KT.out⟩
    have HI := Lib.hid hlt
    have e10 : decide ((i : Int) < (len : Int)) = true := by simp; omega
    have e11 : decide (i < len) = true := by simp; omega
    have e12 : (i : Int) < (len : Int) := by omega
    obtain ⟨b, off, ha, hb, hc⟩ : ∃ b off, a = some ⟨b, off, none⟩ ∧ b < w.heap.size ∧ _ := by
      rcases D.out.cells with h | h
      · omega
      · exact h
    subst ha
    have cd := (hc i hlt).on hb bb
    have dok := D.out.okAt hlt
    obtain ⟨d, hd⟩ : ∃ d, d = ds.getD i Dr.zero := ⟨_, rfl⟩
    rw [← hd] at cd dok
    have HDd := Lib.hid hd
    clear hd
    have ru := fun u => rule_ d u dok
    have hx := rule_add L d dok (t.rs.length : Int) (by omega) (by omega)
    have rk := ruleD_ok d dok
    have ac : ∀ (v : Value) (u : World) (H : TabC u w.heap.size p v t), _ := fun v u H => addC_n t w.heap.size p v u H G (t.rs.length : Int) (ruleD d) rk (by omega) (by have := G.few; omega)
    have cl : ∀ (v : Value) (u : World) (H : TabC u w.heap.size p v t), _ := fun v u H => listL_ t w.heap.size p v u H G
    have G2 : (ruAddT t (t.rs.length : Int) (ruleD d)).Good := G.add rk
    have L2 := L.add (t.rs.length : Int) (ruleD d)
    have S2 := S.add (t.rs.length : Int) (ruleD d)
    have ln := add_len (t := t) (i := (t.rs.length : Int)) (r := ruleD d)
    generalize ruAddT t (t.rs.length : Int) (ruleD d) = t2 at *
    have cl2 : ∀ (v : Value) (u : World) (H : TabC u w.heap.size p v t2), _ := fun v u H => listL_ t2 w.heap.size p v u H G2
    have K2 := Lib.hid (And.intro G2 (And.intro L2 S2))
    have f1 := G.few
    have f2 := G2.few
    generalize ruAddE t (t.rs.length : Int) (ruleD d) = E at *
    obtain ⟨n, hn⟩ : ∃ n, t.rs.length = n := ⟨_, rfl⟩
    obtain ⟨m, hm⟩ : ∃ m, t2.rs.length = m := ⟨_, rfl⟩
    rw [hn] at ln f1 ac
    rw [hm] at ln f2
    generalize hR : ruleD d = r at *
    clear hR rk
    have cl' : ∀ (v : Value) (u : World) (H : TabC u w.heap.size p v t), Calls Try.prog 21 #[.pointer (some ⟨p, 0, none⟩)] u fun e w' => (∃ a c, e = .returned (.slice a n c)) ∧ Below u.heap.size u w' := fun v u H => (cl v u H).mono fun e w' ⟨a, c, h1, _, h2⟩ => ⟨⟨a, c, by rw [h1, hn]⟩, h2⟩
    have cl2' : ∀ (v : Value) (u : World) (H : TabC u w.heap.size p v t2), Calls Try.prog 21 #[.pointer (some ⟨p, 0, none⟩)] u fun e w' => (∃ a c, e = .returned (.slice a m c)) ∧ Below u.heap.size u w' := fun v u H => (cl2 v u H).mono fun e w' ⟨a, c, h1, _, h2⟩ => ⟨⟨a, c, by rw [h1, hm]⟩, h2⟩
    clear cl cl2 hn hm G2 L2 S2 G L S hc hi hlt
    obtain ⟨c0, c1, c2, c3, c4, c5⟩ := id cd
    have w1h : Hid (wrap64 ((n : Int) + 1) = (n : Int) + 1) := IntWalk.wrap64_in _ ⟨by omega, by omega⟩
    have w2_ : decide ((32 : Int) < (m : Int)) = false := by simp; omega
    have w3_ : decide (32 < m) = false := by simp; omega
    have HX := Lib.hid hx
    clear hx
    go_wp2_with fail
    refine (cl' _ _ T).mono ?_; rintro e w21 ⟨⟨a9, c9, rfl⟩, x21⟩
    have T_101 := T.on x21
    clear T
    have B102 := bb.trans (x21.mono bb.size)
    clear bb x21
    have cq := (show DrC w21 b (off + i * 6) d from by
      have := (D.out.on B102)
      rcases this.cells with h | ⟨b1, o1, e1, _, h⟩
      · have := HI.out; omega
      · simp only [Option.some.injEq, Addr.mk.injEq, and_true] at e1
        obtain ⟨rfl, rfl⟩ := e1
        rw [HDd.out]
        exact h i HI.out)
    clear c0 c1 c2 c3 c4 c5
    obtain ⟨c0, c1, c2, c3, c4, c5⟩ := cq
    go_wp2_with fail
    clear c0 c1 c2 c3 c4 c5
    refine (ru _).mono ?_; rintro e w22 ⟨rfl, x22⟩
    have T_103 := T_101.on x22
    clear T_101
    have B104 := B102.trans (x22.mono B102.size)
    clear B102 x22
    go_wp2_with fail
    refine (ac _ _ T_103).mono ?_; rintro e w23 ⟨rfl, v23, T_105, x23, ho23⟩
    have B106 := T_103.after (Nat.le_refl _) B104 x23
    clear B104 T_103 x23 ho23
    clear ru ac cl' e12 hb cd
    have hx := HX.out
    clear HX
    go_upto_region 9 with fail
    go_cut [75] (fun c wx => c = .bool false ∧ Below w.heap.size w wx ∧ TabC wx w.heap.size p v23 t2)
    case first =>
      rcases hx with rfl | rfl | rfl
      · rw [if_pos rfl] at ln
        subst ln
        have w4_ : decide ((32 : Int) < (n : Int) + 1) = false := by simp; omega
        have w5_ : ¬ ((32 : Int) < (n : Int) + 1) := by omega
        have w1_ := w1h.out
        go_wp2_with fail
        refine (cl2' _ _ T_105).mono ?_; rintro e w24 ⟨⟨a20, c20, rfl⟩, x24⟩
        have T_107 := T_105.on x24
        clear T_105
        have B108 := B106.trans (x24.mono B106.size)
        clear B106 x24
        go_wp2_with fail
        refine (cl2' _ _ T_107).mono ?_; rintro e w25 ⟨⟨a21, c21, rfl⟩, x25⟩
        have T_109 := T_107.on x25
        clear T_107
        have B110 := B108.trans (x25.mono B108.size)
        clear B108 x25
        go_wp2_with fail
        refine (cl2' _ _ T_109).mono ?_; rintro e w26 ⟨⟨a22, c22, rfl⟩, x26⟩
        have T_111 := T_109.on x26
        clear T_109
        have B112 := B110.trans (x26.mono B110.size)
        clear B110 x26
        go_wp2
        go_meet
        exact ⟨rfl, B112, T_111⟩
      · rw [if_neg (by omega)] at ln
        subst ln
        have w1_ := w1h.out
        go_wp2_with fail
        refine (cl2' _ _ T_105).mono ?_; rintro e w24 ⟨⟨a20, c20, rfl⟩, x24⟩
        have T_107 := T_105.on x24
        clear T_105
        have B108 := B106.trans (x24.mono B106.size)
        clear B106 x24
        go_wp2_with fail
        refine (cl2' _ _ T_107).mono ?_; rintro e w25 ⟨⟨a21, c21, rfl⟩, x25⟩
        have T_109 := T_107.on x25
        clear T_107
        have B110 := B108.trans (x25.mono B108.size)
        clear B108 x25
        go_wp2_with fail
        refine (cl2' _ _ T_109).mono ?_; rintro e w26 ⟨⟨a22, c22, rfl⟩, x26⟩
        have T_111 := T_109.on x26
        clear T_109
        have B112 := B110.trans (x26.mono B110.size)
        clear B110 x26
        go_wp2
        go_meet
        exact ⟨rfl, B112, T_111⟩
      · rw [if_neg (by omega)] at ln
        subst ln
        have w1_ := w1h.out
        go_wp2_with fail
        refine (cl2' _ _ T_105).mono ?_; rintro e w24 ⟨⟨a20, c20, rfl⟩, x24⟩
        have T_107 := T_105.on x24
        clear T_105
        have B108 := B106.trans (x24.mono B106.size)
        clear B106 x24
        go_wp2_with fail
        refine (cl2' _ _ T_107).mono ?_; rintro e w25 ⟨⟨a21, c21, rfl⟩, x25⟩
        have T_109 := T_107.on x25
        clear T_107
        have B110 := B108.trans (x25.mono B108.size)
        clear B108 x25
        go_wp2_with fail
        refine (cl2' _ _ T_109).mono ?_; rintro e w26 ⟨⟨a22, c22, rfl⟩, x26⟩
        have T_111 := T_109.on x26
        clear T_109
        have B112 := B110.trans (x26.mono B110.size)
        clear B110 x26
        go_wp2
        go_meet
        exact ⟨rfl, B112, T_111⟩
    case rest =>
      obtain ⟨rfl, bq, Tq⟩ := hcut
      clear T_105 B106 cl2'
      have e13 : (i : Int) + 1 ≤ 100000 := by have := HI.out; have := HL.out; omega
      go_wp2_with fail
      go_roundw
      case rel => exact ⟨i + 1, _, t2, HI.out, by go_num, bq, Tq, K2.out⟩
      case measure => have := HI.out; simp [intOf]; omega
end Go.Proofs.Ytoogegpkgohffaa
