/- Texts of this proof, together: RulesFirst, RulFill, RulesFirstW. -/
import Derived.Test.YtoogegpkgohffaaRh
import Derived.Test.YtoogegpkgohffaaRg
import Derived.Test.YtoogegpkgohffaaRa
import Derived.Deep.CutBlock
namespace Go.Proofs.Ytoogegpkgohffaa
set_option linter.unusedVariables false
set_option linter.unusedSimpArgs false
open Go.ChangeShapes Go.WideShapes Go.ChangeAt Go.RowKit Go.PlainAid
attribute [local go_sem ↓] Go.wp_at_zero Go.wp_at_succ
namespace RulesFirst
/-- How many rules a table has, as its box tells. -/
def lenAt (w : World) (p : Nat) : Nat := match w.cell? ⟨p, 4, none⟩ with | some (.slice _ n _) => n | _ => 0
theorem lenAt_of {w : World} {B p : Nat} {v : Value} {t : Tm} (h : TabC w B p v t) : lenAt w p = t.rs.length := by
  obtain ⟨a, c, rfl⟩ := h.row.slice
  unfold lenAt
  rw [h.box.2.2.2.2.2]
/-- The first rule that fits, or none: by its place. -/
theorem first_at (t : Tm) (L : t.Law) (pr : Int) (a b : Nat) : ∃ k, k ≤ t.rs.length ∧ (∀ j, j < k → fitF pr a b (t.rs.getD j Ru.zero) = false) ∧ ((k = t.rs.length ∧ srcRu t pr a b = Ru.zero ∧ hitRu t.rs (fitF pr a b) = false) ∨ (k < t.rs.length ∧ fitF pr a b (t.rs.getD k Ru.zero) = true ∧ srcRu t pr a b = { t.rs.getD k Ru.zero with ex := outL (t.rs.getD k Ru.zero) } ∧ hitRu t.rs (fitF pr a b) = true)) := by
  rcases least (fun i => fitF pr a b (t.rs.getD i Ru.zero)) t.rs.length with ⟨i, hi, h1, h2⟩ | h
  · obtain ⟨e1, e2⟩ := first_fit hi rfl h2 h1
    refine ⟨i, Nat.le_of_lt hi, h2, .inr ⟨hi, h1, ?_, e2⟩⟩
    unfold srcRu
    rw [if_pos e2, e1, ext_out L]
  · obtain ⟨e1, e2⟩ := none_fits (Nat.le_refl _) h
    refine ⟨_, Nat.le_refl _, h, .inl ⟨rfl, ?_, e2⟩⟩
    unfold srcRu
    rw [if_neg (by rw [e2]; simp)]
theorem may_out {t : Tm} {r : Ru} (h : mayRu t r = true) (hk : ¬ r.k = 3) : mayV r.si r.sb = true ∧ mayV r.di r.db = true := by
  unfold mayRu at h
  rw [if_neg hk] at h
  split at h
  · simp only [Bool.and_eq_true] at h
    exact ⟨h.1.1.1.1.2, h.1.1.1.2⟩
  · cases h
set_option maxHeartbeats 8000000 in
set_option maxRecDepth 100000 in
theorem walk_ (FL : Filled) (a : Option Addr) (len cap : Nat) (ds : List Dr) (d : Dr) (w : World) (D0 : DrAt w a len ds) (hd : d.Ok) (hm : len ≤ maxLen) :
    Calls Try.prog 7 #[.slice a len cap, .agg #[.int .u8 d.d0, .int .u8 d.d1, .int .u8 d.d2, .int .u8 d.d3, .int .u8 d.d4, .int .u8 d.d5]] w fun e w' => e = .returned (.bool true) ∧ Below w.heap.size w w' := by
  have rl := fun u => ruled_ u
  by_cases h : 40 < len
  · have e1 : decide (40 < len) = true := by simpa using h
    have e2 : decide ((40 : Int) < (len : Int)) = true := by simp; omega
    clear D0 hd h
    clear FL
    go_enter Try.func7, Try.ntmps7
    have B1 := Below.refl w.heap.size w
    go_upto_region 1 with fail
    have D_2 := Box6.make w (.int .u8 d.d0) (.int .u8 d.d1) (.int .u8 d.d2) (.int .u8 d.d3) (.int .u8 d.d4) (.int .u8 d.d5) 37
    have B3 := B1.alloc B1.size (.cells #[.int .u8 d.d0, .int .u8 d.d1, .int .u8 d.d2, .int .u8 d.d3, .int .u8 d.d4, .int .u8 d.d5] 37)
    clear B1
    obtain ⟨u1, hu1⟩ : ∃ x_ : World, x_ = w.alloc (.cells #[.int .u8 d.d0, .int .u8 d.d1, .int .u8 d.d2, .int .u8 d.d3, .int .u8 d.d4, .int .u8 d.d5] 37) := ⟨_, rfl⟩
    rw [← hu1] at D_2 B3 ⊢
    clear hu1
    go_wp2_with fail
    refine (rl _).mono ?_; rintro e w2 ⟨rfl, x2⟩
    have D_4 := D_2.on x2
    have B5 := B3.trans (x2.mono B3.size)
    clear D_2 B3 x2
    go_wp2
    go_ret
    exact ⟨rfl, B5⟩
  have e1 : decide (40 < len) = false := by simpa using h
  have e2 : decide ((40 : Int) < (len : Int)) = false := by simp; omega
  have fl := fun u (D : DrAt u a len ds) => FL a len cap ds u D (by omega)
  have fw := fun u => flow_ d u hd
  have hfa := (flow_in d).1
  have hfb := (flow_in d).2
  clear h hm FL
  have DZ := Lib.hid D0
  clear D0
  generalize flP d = xp at *
  generalize flA d = xa at *
  generalize flM d = xm at *
  generalize flB d = xb at *
  generalize flN d = xn at *
  go_enter Try.func7, Try.ntmps7
  have B1 := Below.refl w.heap.size w
  go_upto_region 1 with fail
  have D_2 := Box6.make w (.int .u8 d.d0) (.int .u8 d.d1) (.int .u8 d.d2) (.int .u8 d.d3) (.int .u8 d.d4) (.int .u8 d.d5) 37
  have B3 := B1.alloc B1.size (.cells #[.int .u8 d.d0, .int .u8 d.d1, .int .u8 d.d2, .int .u8 d.d3, .int .u8 d.d4, .int .u8 d.d5] 37)
  clear B1
  obtain ⟨u1, hu1⟩ : ∃ x_ : World, x_ = w.alloc (.cells #[.int .u8 d.d0, .int .u8 d.d1, .int .u8 d.d2, .int .u8 d.d3, .int .u8 d.d4, .int .u8 d.d5] 37) := ⟨_, rfl⟩
  rw [← hu1] at D_2 B3 ⊢
  clear hu1
  obtain ⟨_, d1_0, d1_1, d1_2, d1_3, d1_4, d1_5⟩ := id D_2
  go_wp2_with fail
  refine (fl _ (DZ.out.on B3)).mono ?_; rintro e w2 ⟨x2, p, v, t, rfl, T0, G, L, S⟩
  have hbT := B3.size
  have hx := x2
  have D_4 := D_2.on hx
  have B5 := B3.trans (hx.mono B3.size)
  clear d1_0 d1_1 d1_2 d1_3 d1_4 d1_5 D_2 B3 hx
  clear x2 fl
  obtain ⟨_, d2_0, d2_1, d2_2, d2_3, d2_4, d2_5⟩ := id D_4
  go_wp2_with fail
  refine (fw _).mono ?_; rintro e w3 ⟨rfl, x3⟩
  have T_6 := T0.on x3
  clear T0
  have D_7 := D_4.on x3
  have B8 := B5.trans (x3.mono B5.size)
  clear d2_0 d2_1 d2_2 d2_3 d2_4 d2_5 D_4 B5 x3
  clear D_7
  have nfXT_9 : ¬ footC p (v) (w3.heap.size) := by
    have hs_ : w3.heap.size = w3.heap.size := by simp
    rw [← hs_]
    exact T_6.newer
  have T_10 := T_6.on ((Below.refl w3.heap.size w3).alloc (Nat.le_refl _) (.cells #[.int .u8 xp, .int .u32 (xa : Int), .int .u16 xm, .int .u32 (xb : Int), .int .u16 xn] 57))
  clear T_6
  have X_11 := Box5.make w3 (.int .u8 xp) (.int .u32 (xa : Int)) (.int .u16 xm) (.int .u32 (xb : Int)) (.int .u16 xn) 57
  have B12 := B8.alloc B8.size (.cells #[.int .u8 xp, .int .u32 (xa : Int), .int .u16 xm, .int .u32 (xb : Int), .int .u16 xn] 57)
  clear B8
  go_wp2_with fail
  obtain ⟨u4, hu4⟩ : ∃ x_ : World, x_ = w3.alloc (.cells #[.int .u8 xp, .int .u32 (xa : Int), .int .u16 xm, .int .u32 (xb : Int), .int .u16 xn] 57) := ⟨_, rfl⟩
  rw [← hu4] at X_11 T_10 B12 ⊢
  clear hu4
  obtain ⟨q, hq⟩ : ∃ q, q = w3.heap.size := ⟨_, rfl⟩
  rw [← hq] at X_11 nfXT_9 ⊢
  obtain ⟨_, x3_0, x3_1, x3_2, x3_3, x3_4⟩ := id X_11
  clear hq
  go_loopw [11] (fun s5 wr => ∃ (v : Value) (t : Tm), Below w.heap.size w wr ∧ TabC wr u1.heap.size p v t ∧ t.Good ∧ t.Law ∧ t.Sound ∧ Box5 wr q (.int .u8 xp) (.int .u32 (xa : Int)) (.int .u16 xm) (.int .u32 (xb : Int)) (.int .u16 xn) ∧ ¬ footC p v q) (fun _ wr => lenAt wr p)
  case atStart => exact ⟨v, t, B12, T_10, G, L, S, X_11, nfXT_9⟩
  case round =>
    clear x3_0 x3_1 x3_2 x3_3 x3_4 B12 T_10 X_11 nfXT_9 G L S
    clear v t
    obtain ⟨v, t, bb, T, G, L, S, X, nf⟩ := hrel
    obtain ⟨K, hK, hN, hc⟩ := first_at t L xp xa xb
    have few := G.few
    have HM : Hid (lenAt wr p = t.rs.length) := lenAt_of T
    have cl : ∀ (v : Value) (u_ : World) (H : TabC u_ u1.heap.size p v t), _ := fun v u_ H => listL_ t u1.heap.size p v u_ H G
    have cs : ∀ (v : Value) (u_ : World) (H : TabC u_ u1.heap.size p v t), _ := fun v u_ H => sourC_ t u1.heap.size p v u_ H G xp xm xn xa xb hfa hfb
    have HS := Lib.hid (And.intro G (And.intro L S))
    have SM := Lib.hid S.may
    obtain ⟨R, hR⟩ : ∃ R, R = srcRu t xp xa xb := ⟨_, rfl⟩
    obtain ⟨H, hH⟩ : ∃ H, H = hitRu t.rs (fitF xp xa xb) := ⟨_, rfl⟩
    rw [← hR, ← hH] at cs hc
    clear hR hH
    have HC := Lib.hid hc
    clear hc
    have HNo := Lib.hid hN
    clear hN G L S
    obtain ⟨n, hn⟩ : ∃ n, n = t.rs.length := ⟨_, rfl⟩
    rw [← hn] at cl few hK
    have Hn := Lib.hid hn
    clear hn
    obtain ⟨_, x1_0, x1_1, x1_2, x1_3, x1_4⟩ := id X
    go_wp2_with fail
    refine (cl _ _ T).mono ?_; rintro e w21 ⟨a9, c9, rfl, r9, x21⟩
    have RR := Lib.hid (r9.at).2
    clear r9 cl
    have T_201 := T.on x21
    clear T
    have X_202 := X.on x21
    have B203 := bb.trans (x21.mono bb.size)
    clear x1_0 x1_1 x1_2 x1_3 x1_4 X bb x21
    obtain ⟨_, x2_0, x2_1, x2_2, x2_3, x2_4⟩ := id X_202
    go_wp2_with fail
    refine (cs _ _ T_201).mono ?_; rintro e w22 ⟨rfl, x22⟩
    have R2 := RR.out.on x22
    clear RR cs
    have T_204 := T_201.on x22
    clear T_201
    have X_205 := X_202.on x22
    have B206 := B203.trans (x22.mono B203.size)
    clear x2_0 x2_1 x2_2 x2_3 x2_4 X_202 B203 x22
    have R3 := R2.on ((Below.refl w22.heap.size w22).alloc (Nat.le_refl _) (.cells #[.int .i64 R.k, .int .u8 R.pr, .int .u32 (R.si : Int), .int .i64 R.sb, .int .u32 (R.di : Int), .int .i64 R.db, .int .u32 (R.ex : Int), .int .u16 R.fr, .int .u16 R.to, .int .u32 (R.ii : Int), .int .u16 R.ip] 42))
    clear R2
    have nfAT_207 : ¬ footC p (v) (w22.heap.size) := by
      have hs_ : w22.heap.size = w22.heap.size := by simp
      rw [← hs_]
      exact T_204.newer
    have T_208 := T_204.on ((Below.refl w22.heap.size w22).alloc (Nat.le_refl _) (.cells #[.int .i64 R.k, .int .u8 R.pr, .int .u32 (R.si : Int), .int .i64 R.sb, .int .u32 (R.di : Int), .int .i64 R.db, .int .u32 (R.ex : Int), .int .u16 R.fr, .int .u16 R.to, .int .u32 (R.ii : Int), .int .u16 R.ip] 42))
    clear T_204
    have X_209 := X_205.past (o := (.cells #[.int .i64 R.k, .int .u8 R.pr, .int .u32 (R.si : Int), .int .i64 R.sb, .int .u32 (R.di : Int), .int .i64 R.db, .int .u32 (R.ex : Int), .int .u16 R.fr, .int .u16 R.to, .int .u32 (R.ii : Int), .int .u16 R.ip] 42))
    have A_210 := Box11.make w22 (.int .i64 R.k) (.int .u8 R.pr) (.int .u32 (R.si : Int)) (.int .i64 R.sb) (.int .u32 (R.di : Int)) (.int .i64 R.db) (.int .u32 (R.ex : Int)) (.int .u16 R.fr) (.int .u16 R.to) (.int .u32 (R.ii : Int)) (.int .u16 R.ip) 42
    have B211 := B206.alloc B206.size (.cells #[.int .i64 R.k, .int .u8 R.pr, .int .u32 (R.si : Int), .int .i64 R.sb, .int .u32 (R.di : Int), .int .i64 R.db, .int .u32 (R.ex : Int), .int .u16 R.fr, .int .u16 R.to, .int .u32 (R.ii : Int), .int .u16 R.ip] 42)
    clear X_205 B206
    go_upto_block 2 with fail
    obtain ⟨u23, hu23⟩ : ∃ x_ : World, x_ = w22.alloc (.cells #[.int .i64 R.k, .int .u8 R.pr, .int .u32 (R.si : Int), .int .i64 R.sb, .int .u32 (R.di : Int), .int .i64 R.db, .int .u32 (R.ex : Int), .int .u16 R.fr, .int .u16 R.to, .int .u32 (R.ii : Int), .int .u16 R.ip] 42) := ⟨_, rfl⟩
    rw [← hu23] at X_209 A_210 R3 T_208 B211 ⊢
    clear hu23
    have RZ := Lib.hid R3
    have bxs := Lib.hid A_210.1
    clear R3
    obtain ⟨s0, hs0⟩ : ∃ s0 : Int, s0 = if K < n then (K : Int) else -1 := ⟨_, rfl⟩
    have S0 := Lib.hid hs0
    clear hs0
    go_cut [11] (fun sa wx => sa = .int .i64 s0 ∧ Below u23.heap.size u23 wx)
    case first =>
      have KX := Lib.hid X_209
      clear X_209 A_210 T_208 nf nfAT_207 B211 rl
      go_wp2_with fail
      go_loopw [11, 12] (fun sa si wr => ∃ (i : Nat) (s : Int), sa = .int .i64 s ∧ si = .int .i64 (i : Int) ∧ Below u23.heap.size u23 wr ∧ ((i ≤ K ∧ s = -1) ∨ (K < n ∧ i = K + 1 ∧ s = (K : Int)))) (fun _ si _ => n + 1 - (intOf si).toNat)
      case atStart => exact ⟨0, -1, rfl, rfl, Below.refl _ _, .inl ⟨Nat.zero_le _, rfl⟩⟩
      case round =>
        obtain ⟨i, s, rfl, rfl, bq, hs⟩ := hrel
        rcases hs with ⟨hi, rfl⟩ | ⟨hk, rfl, rfl⟩
        rotate_left
        · have f1 : decide ((K : Int) < 0) = false := by simp
          have HK := Lib.hid hk
          by_cases hlt : K + 1 < n
          · have g1 : decide ((K : Int) + 1 < (n : Int)) = true := by simp; omega
            have g2 : decide (K + 1 < n) = true := by simp; omega
            clear hlt hk
            go_wp2
            go_meet
            exact ⟨by rw [S0.out, if_pos HK.out], bq⟩
          · have g1 : decide ((K : Int) + 1 < (n : Int)) = false := by simp; omega
            have g2 : decide (K + 1 < n) = false := by simp; omega
            clear hlt hk
            go_wp2
            go_meet
            exact ⟨by rw [S0.out, if_pos HK.out], bq⟩
        by_cases hlt : i < n
        rotate_left
        · have e10 : decide ((i : Int) < (n : Int)) = false := by simp; omega
          have e11 : decide (i < n) = false := by simp; omega
          have HK : Hid (¬ K < n) := by show ¬ K < n; omega
          clear hlt hi
          go_wp2
          go_meet
          exact ⟨by rw [S0.out, if_neg HK.out], bq⟩
        have HI := Lib.hid (And.intro hi hlt)
        have e10 : decide ((i : Int) < (n : Int)) = true := by simp; omega
        have e11 : decide (i < n) = true := by simp; omega
        have e12 : (i : Int) < (n : Int) := by omega
        have hl2 : i < t.rs.length := by rw [← Hn.out]; exact hlt
        obtain ⟨b9, ha, hb, hc⟩ : ∃ b, a9 = some ⟨b, 0, none⟩ ∧ b < wr.heap.size ∧ _ := by
          rcases (RZ.out.on bq) with h | h
          · omega
          · exact h
        subst ha
        obtain ⟨c0, c1, c2, c3, c4, c5, c6, c7, c8, c9_, c10⟩ := hc i hl2
        obtain ⟨r, hr⟩ : ∃ r, r = t.rs.getD i Ru.zero := ⟨_, rfl⟩
        have rm : r ∈ t.rs := by rw [hr]; exact getD_mem hl2
        have ok := HS.out.1.all r rm
        have may := SM.out r rm
        rw [← hr] at c0 c1 c2 c3 c4 c5 c6 c7 c8 c9_ c10
        have HR := Lib.hid hr
        have X2 := KX.out.on bq
        clear hr hc hi hlt hl2 hb rm
        obtain ⟨_, x1_0, x1_1, x1_2, x1_3, x1_4⟩ := id X2
        go_upto_region 14 with fail
        have X_301 := X2.past (o := (.cells #[.int .i64 r.k, .int .u8 r.pr, .int .u32 (r.si : Int), .int .i64 r.sb, .int .u32 (r.di : Int), .int .i64 r.db, .int .u32 (r.ex : Int), .int .u16 r.fr, .int .u16 r.to, .int .u32 (r.ii : Int), .int .u16 r.ip] 42))
        have N_302 := Box11.make wr (.int .i64 r.k) (.int .u8 r.pr) (.int .u32 (r.si : Int)) (.int .i64 r.sb) (.int .u32 (r.di : Int)) (.int .i64 r.db) (.int .u32 (r.ex : Int)) (.int .u16 r.fr) (.int .u16 r.to) (.int .u32 (r.ii : Int)) (.int .u16 r.ip) 42
        have B303 := bq.alloc bq.size (.cells #[.int .i64 r.k, .int .u8 r.pr, .int .u32 (r.si : Int), .int .i64 r.sb, .int .u32 (r.di : Int), .int .i64 r.db, .int .u32 (r.ex : Int), .int .u16 r.fr, .int .u16 r.to, .int .u32 (r.ii : Int), .int .u16 r.ip] 42)
        clear X2 bq
        clear c0 c1 c2 c3 c4 c5 c6 c7 c8 c9_ c10
        clear x1_0 x1_1 x1_2 x1_3 x1_4
        obtain ⟨u41, hu41⟩ : ∃ x_ : World, x_ = wr.alloc (.cells #[.int .i64 r.k, .int .u8 r.pr, .int .u32 (r.si : Int), .int .i64 r.sb, .int .u32 (r.di : Int), .int .i64 r.db, .int .u32 (r.ex : Int), .int .u16 r.fr, .int .u16 r.to, .int .u32 (r.ii : Int), .int .u16 r.ip] 42) := ⟨_, rfl⟩
        rw [← hu41] at X_301 N_302 B303 ⊢
        clear hu41
        go_cut [80] (fun c wx => c = .bool (fitF xp xa xb r) ∧ Below u41.heap.size u41 wx)
        case first =>
          obtain ⟨z1, p1, q1, l1⟩ := eqi_ r.k 3
          obtain ⟨z2, p2, q2, l2⟩ := eqi_ r.pr 0
          obtain ⟨z3, p3, q3, l3⟩ := eqi_ r.pr xp
          have m1 := fun (h : mayV r.si r.sb = true) u => inL_ r.si r.sb xa u ok.si1 hfa h
          have m2 := fun (h : mayV r.di r.db = true) u => inL_ r.di r.db xb u ok.di1 hfb h
          obtain ⟨v1, hv1⟩ : ∃ v, hasV r.si r.sb xa = v := ⟨_, rfl⟩
          obtain ⟨v2, hv2⟩ : ∃ v, hasV r.di r.db xb = v := ⟨_, rfl⟩
          rw [hv1] at m1
          rw [hv2] at m2
          have HV : Hid (fitF xp xa xb r = (!z1 && (z2 || z3) && v1 && v2)) := by show _ = _; unfold fitF; rw [l1, l2, l3, hv1, hv2]
          have HY : Hid (z1 = false → mayV r.si r.sb = true ∧ mayV r.di r.db = true) := fun h => may_out may (by rw [h] at l1; simpa using l1)
          clear l1 l2 l3 hv1 hv2 may ok
          have key : z1 = true ∨ (z1 = false ∧ z2 = false ∧ z3 = false) ∨ (z1 = false ∧ (z2 = true ∨ (z2 = false ∧ z3 = true)) ∧ (v1 = false ∨ (v1 = true ∧ v2 = false) ∨ (v1 = true ∧ v2 = true))) := by cases z1 <;> cases z2 <;> cases z3 <;> cases v1 <;> cases v2 <;> simp
          have bs := Below.refl u41.heap.size u41
          rcases key with rfl | ⟨rfl, rfl, rfl⟩ | ⟨rfl, hz, key⟩
          · clear m1 m2
            simp only [Bool.not_true, Bool.not_false, Bool.and_true, Bool.and_false, Bool.true_and, Bool.false_and, Bool.or_true, Bool.or_false, Bool.true_or, Bool.false_or] at HV
            obtain ⟨_, x1_0, x1_1, x1_2, x1_3, x1_4⟩ := id X_301
            obtain ⟨_, n2_0, n2_1, n2_2, n2_3, n2_4, n2_5, n2_6, n2_7, n2_8, n2_9, n2_10⟩ := id N_302
            go_wp2
            go_meet
            exact ⟨by rw [HV.out], bs⟩
          · clear m1 m2
            simp only [Bool.not_true, Bool.not_false, Bool.and_true, Bool.and_false, Bool.true_and, Bool.false_and, Bool.or_true, Bool.or_false, Bool.true_or, Bool.false_or] at HV
            obtain ⟨_, x1_0, x1_1, x1_2, x1_3, x1_4⟩ := id X_301
            obtain ⟨_, n2_0, n2_1, n2_2, n2_3, n2_4, n2_5, n2_6, n2_7, n2_8, n2_9, n2_10⟩ := id N_302
            go_wp2
            go_meet
            exact ⟨by rw [HV.out], bs⟩
          have HY1 := (HY.out rfl).1
          have HY2 := (HY.out rfl).2
          clear HY
          have m1 := m1 HY1
          have m2 := m2 HY2
          clear HY1 HY2
          rcases key with rfl | ⟨rfl, rfl⟩ | ⟨rfl, rfl⟩
          · rcases hz with rfl | ⟨rfl, rfl⟩
            all_goals
              simp only [Bool.not_true, Bool.not_false, Bool.and_true, Bool.and_false, Bool.true_and, Bool.false_and, Bool.or_true, Bool.or_false, Bool.true_or, Bool.false_or] at HV
              obtain ⟨_, x1_0, x1_1, x1_2, x1_3, x1_4⟩ := id X_301
              obtain ⟨_, n2_0, n2_1, n2_2, n2_3, n2_4, n2_5, n2_6, n2_7, n2_8, n2_9, n2_10⟩ := id N_302
              go_wp2_with fail
              refine (m1 _).mono ?_; rintro e w61 ⟨rfl, x61⟩
              have X_401 := X_301.on x61
              have N_402 := N_302.on x61
              have B403 := bs.trans (x61.mono bs.size)
              clear x1_0 x1_1 x1_2 x1_3 x1_4 n2_0 n2_1 n2_2 n2_3 n2_4 n2_5 n2_6 n2_7 n2_8 n2_9 n2_10 X_301 N_302 bs x61
              obtain ⟨_, x3_0, x3_1, x3_2, x3_3, x3_4⟩ := id X_401
              obtain ⟨_, n4_0, n4_1, n4_2, n4_3, n4_4, n4_5, n4_6, n4_7, n4_8, n4_9, n4_10⟩ := id N_402
              go_wp2
              go_meet
              exact ⟨by rw [HV.out], B403⟩
          · rcases hz with rfl | ⟨rfl, rfl⟩
            all_goals
              simp only [Bool.not_true, Bool.not_false, Bool.and_true, Bool.and_false, Bool.true_and, Bool.false_and, Bool.or_true, Bool.or_false, Bool.true_or, Bool.false_or] at HV
              obtain ⟨_, x1_0, x1_1, x1_2, x1_3, x1_4⟩ := id X_301
              obtain ⟨_, n2_0, n2_1, n2_2, n2_3, n2_4, n2_5, n2_6, n2_7, n2_8, n2_9, n2_10⟩ := id N_302
              go_wp2_with fail
              refine (m1 _).mono ?_; rintro e w61 ⟨rfl, x61⟩
              have X_401 := X_301.on x61
              have N_402 := N_302.on x61
              have B403 := bs.trans (x61.mono bs.size)
              clear x1_0 x1_1 x1_2 x1_3 x1_4 n2_0 n2_1 n2_2 n2_3 n2_4 n2_5 n2_6 n2_7 n2_8 n2_9 n2_10 X_301 N_302 bs x61
              obtain ⟨_, x3_0, x3_1, x3_2, x3_3, x3_4⟩ := id X_401
              obtain ⟨_, n4_0, n4_1, n4_2, n4_3, n4_4, n4_5, n4_6, n4_7, n4_8, n4_9, n4_10⟩ := id N_402
              go_wp2_with fail
              refine (m2 _).mono ?_; rintro e w62 ⟨rfl, x62⟩
              have X_404 := X_401.on x62
              have N_405 := N_402.on x62
              have B406 := B403.trans (x62.mono B403.size)
              clear x3_0 x3_1 x3_2 x3_3 x3_4 n4_0 n4_1 n4_2 n4_3 n4_4 n4_5 n4_6 n4_7 n4_8 n4_9 n4_10 X_401 N_402 B403 x62
              obtain ⟨_, x5_0, x5_1, x5_2, x5_3, x5_4⟩ := id X_404
              obtain ⟨_, n6_0, n6_1, n6_2, n6_3, n6_4, n6_5, n6_6, n6_7, n6_8, n6_9, n6_10⟩ := id N_405
              go_wp2
              go_meet
              exact ⟨by rw [HV.out], B406⟩
          · rcases hz with rfl | ⟨rfl, rfl⟩
            all_goals
              simp only [Bool.not_true, Bool.not_false, Bool.and_true, Bool.and_false, Bool.true_and, Bool.false_and, Bool.or_true, Bool.or_false, Bool.true_or, Bool.false_or] at HV
              obtain ⟨_, x1_0, x1_1, x1_2, x1_3, x1_4⟩ := id X_301
              obtain ⟨_, n2_0, n2_1, n2_2, n2_3, n2_4, n2_5, n2_6, n2_7, n2_8, n2_9, n2_10⟩ := id N_302
              go_wp2_with fail
              refine (m1 _).mono ?_; rintro e w61 ⟨rfl, x61⟩
              have X_401 := X_301.on x61
              have N_402 := N_302.on x61
              have B403 := bs.trans (x61.mono bs.size)
              clear x1_0 x1_1 x1_2 x1_3 x1_4 n2_0 n2_1 n2_2 n2_3 n2_4 n2_5 n2_6 n2_7 n2_8 n2_9 n2_10 X_301 N_302 bs x61
              obtain ⟨_, x3_0, x3_1, x3_2, x3_3, x3_4⟩ := id X_401
              obtain ⟨_, n4_0, n4_1, n4_2, n4_3, n4_4, n4_5, n4_6, n4_7, n4_8, n4_9, n4_10⟩ := id N_402
              go_wp2_with fail
              refine (m2 _).mono ?_; rintro e w62 ⟨rfl, x62⟩
              have X_404 := X_401.on x62
              have N_405 := N_402.on x62
              have B406 := B403.trans (x62.mono B403.size)
              clear x3_0 x3_1 x3_2 x3_3 x3_4 n4_0 n4_1 n4_2 n4_3 n4_4 n4_5 n4_6 n4_7 n4_8 n4_9 n4_10 X_401 N_402 B403 x62
              obtain ⟨_, x5_0, x5_1, x5_2, x5_3, x5_4⟩ := id X_404
              obtain ⟨_, n6_0, n6_1, n6_2, n6_3, n6_4, n6_5, n6_6, n6_7, n6_8, n6_9, n6_10⟩ := id N_405
              go_wp2
              go_meet
              exact ⟨by rw [HV.out], B406⟩
        case rest =>
          obtain ⟨rfl, bx⟩ := hcut
          have BQ := B303.trans (bx.mono B303.size)
          clear B303 N_302 X_301 bx
          cases hf : fitF xp xa xb r
          · have HF := Lib.hid hf
            clear hf
            have e13 : (i : Int) + 1 ≤ 100000 := by have := HI.out.2; omega
            go_wp2_with fail
            go_roundw
            case rel =>
              refine ⟨i + 1, -1, rfl, by go_num, BQ, .inl ⟨?_, rfl⟩⟩
              have h1 := HI.out.1
              have h2 := HI.out.2
              rcases HC.out with ⟨hk, _⟩ | ⟨hk, hq, _⟩
              · have := Hn.out; omega
              · by_cases e : i = K
                · have h3 := HF.out
                  rw [HR.out, e, hq] at h3
                  cases h3
                · omega
            case measure => have := HI.out.1; have := HI.out.2; simp [intOf]; omega
          · have HF := Lib.hid hf
            clear hf
            have e13 : (i : Int) + 1 ≤ 100000 := by have := HI.out.2; omega
            go_wp2_with fail
            go_roundw
            case rel =>
              have h1 := HI.out.1
              have h2 := HI.out.2
              have e : i = K := by
                by_cases h : i < K
                · have h3 := HF.out
                  rw [HR.out, HNo.out i h] at h3
                  cases h3
                · omega
              exact ⟨i + 1, i, rfl, by go_num, BQ, .inr ⟨by omega, by omega, by rw [e]⟩⟩
            case measure => have := HI.out.1; have := HI.out.2; simp [intOf]; omega
    case rest =>
      obtain ⟨rfl, bx⟩ := hcut
      have X2 := X_209.on bx
      have A2 := A_210.on bx
      have T2 := T_208.on bx
      have B2 := B211.trans (bx.mono B211.size)
      have RX := Lib.hid (RZ.out.on bx)
      have ax := Lib.hid A2.1
      have qxs := Lib.hid X2.1
      clear X_209 A_210 T_208 B211 bx RZ
      by_cases hk : K < n
      rotate_left
      · have e := S0.out
        rw [if_neg hk] at e
        subst e
        have hR : R = Ru.zero ∧ H = false := by
          rcases HC.out with ⟨_, h⟩ | ⟨h, _⟩
          · exact h
          · have := Hn.out; omega
        obtain ⟨rfl, rfl⟩ := hR
        have A3 : Box11 wc w22.heap.size (.int .i64 0) (.int .u8 0) (.int .u32 0) (.int .i64 0) (.int .u32 0) (.int .i64 0) (.int .u32 0) (.int .u16 0) (.int .u16 0) (.int .u32 0) (.int .u16 0) := A2
        clear A2 X2 T2 hk
        obtain ⟨_, a1_0, a1_1, a1_2, a1_3, a1_4, a1_5, a1_6, a1_7, a1_8, a1_9, a1_10⟩ := id A3
        go_wp2_with fail
        refine (rl _).mono ?_; rintro e w71 ⟨rfl, x71⟩
        have A_501 := A3.on x71
        have B502 := B2.trans (x71.mono B2.size)
        clear a1_0 a1_1 a1_2 a1_3 a1_4 a1_5 a1_6 a1_7 a1_8 a1_9 a1_10 A3 B2 x71
        go_wp2
        go_ret
        exact ⟨rfl, B502⟩
      · have e := S0.out
        rw [if_pos hk] at e
        subst e
        have hR : srcRu t xp xa xb = srcRu t xp xa xb ∧ R = { t.rs.getD K Ru.zero with ex := outL (t.rs.getD K Ru.zero) } ∧ H = true := by
          rcases HC.out with ⟨h, _⟩ | ⟨_, _, h⟩
          · have := Hn.out; omega
          · exact ⟨rfl, h⟩
        obtain ⟨_, hR, rfl⟩ := hR
        have hl2 : K < t.rs.length := by rw [← Hn.out]; exact hk
        obtain ⟨r, hr⟩ : ∃ r, r = t.rs.getD K Ru.zero := ⟨_, rfl⟩
        rw [← hr] at hR
        obtain ⟨b9, ha, hb, hc⟩ : ∃ b, a9 = some ⟨b, 0, none⟩ ∧ b < wc.heap.size ∧ _ := by
          rcases RX.out with h | h
          · omega
          · exact h
        subst ha
        obtain ⟨c0, c1, c2, c3, c4, c5, c6, c7, c8, c9_, c10⟩ := hc K hl2
        rw [← hr] at c0 c1 c2 c3 c4 c5 c6 c7 c8 c9_ c10
        subst hR
        obtain ⟨ox, hox⟩ : ∃ x, outL r = x := ⟨_, rfl⟩
        have A3 : Box11 wc w22.heap.size (.int .i64 r.k) (.int .u8 r.pr) (.int .u32 (r.si : Int)) (.int .i64 r.sb) (.int .u32 (r.di : Int)) (.int .i64 r.db) (.int .u32 (ox : Int)) (.int .u16 r.fr) (.int .u16 r.to) (.int .u32 (r.ii : Int)) (.int .u16 r.ip) := by rw [← hox]; exact A2
        have fo : ∀ u, Calls Try.prog 31 #[.agg #[.int .i64 r.k, .int .u8 r.pr, .int .u32 (r.si : Int), .int .i64 r.sb, .int .u32 (r.di : Int), .int .i64 r.db, .int .u32 (r.ex : Int), .int .u16 r.fr, .int .u16 r.to, .int .u32 (r.ii : Int), .int .u16 r.ip]] u fun e w' => e = .returned (.int .u32 (ox : Int)) ∧ Below u.heap.size u w' := fun u => by rw [← hox]; exact outerL_ r u
        have de : ruDelE t (K : Int) = 0 := by unfold ruDelE; rw [if_neg (by omega)]
        have dl : (ruDelT t (K : Int)).rs.length + 1 = n := by
          unfold ruDelT
          rw [if_pos de, Hn.out]
          simp
          omega
        have dc : ∀ (v : Value) (u_ : World) (H : TabC u_ u1.heap.size p v t), _ := fun v u_ H => delC_n t u1.heap.size p v u_ H HS.out.1 (K : Int)
        rw [de] at dc
        have HS2 := Lib.hid (And.intro (HS.out.1.del (i := (K : Int))) (And.intro (HS.out.2.1.del (K : Int)) (HS.out.2.2.del (K : Int))))
        generalize ruDelT t (K : Int) = t2 at *
        obtain ⟨m, hm⟩ : ∃ m, m = t2.rs.length := ⟨_, rfl⟩
        have cl2 : ∀ (v : Value) (u_ : World) (H : TabC u_ u1.heap.size p v t2), Calls Try.prog 21 #[.pointer (some ⟨p, 0, none⟩)] u_ fun e w' => (∃ a c, e = .returned (.slice a m c)) ∧ Below u_.heap.size u_ w' := fun v u_ H => (listL_ t2 u1.heap.size p v u_ H HS2.out.1).mono fun e w' ⟨a, c, h1, _, h2⟩ => ⟨⟨a, c, by rw [h1, hm]⟩, h2⟩
        rw [← hm] at dl
        have Hm := Lib.hid hm
        have e12 : (K : Int) < (n : Int) := by omega
        have e14 : decide ((K : Int) < 0) = false := by simp
        have LE := Lib.hid (show w.heap.size ≤ wc.heap.size from B2.size)
        clear hm de hr hox A2 hc hl2 hb rl
        obtain ⟨_, x1_0, x1_1, x1_2, x1_3, x1_4⟩ := id X2
        obtain ⟨_, a2_0, a2_1, a2_2, a2_3, a2_4, a2_5, a2_6, a2_7, a2_8, a2_9, a2_10⟩ := id A3
        go_upto_region 19 with fail
        clear c0 c1 c2 c3 c4 c5 c6 c7 c8 c9_ c10
        clear x1_0 x1_1 x1_2 x1_3 x1_4 a2_0 a2_1 a2_2 a2_3 a2_4 a2_5 a2_6 a2_7 a2_8 a2_9 a2_10
        have nfNT_601 : ¬ footC p (v) (wc.heap.size) := by
          have hs_ : wc.heap.size = wc.heap.size := by simp
          rw [← hs_]
          exact T2.newer
        have T_602 := T2.on ((Below.refl wc.heap.size wc).alloc (Nat.le_refl _) (.cells #[.int .i64 r.k, .int .u8 r.pr, .int .u32 (r.si : Int), .int .i64 r.sb, .int .u32 (r.di : Int), .int .i64 r.db, .int .u32 (r.ex : Int), .int .u16 r.fr, .int .u16 r.to, .int .u32 (r.ii : Int), .int .u16 r.ip] 42))
        clear T2
        have X_603 := X2.past (o := (.cells #[.int .i64 r.k, .int .u8 r.pr, .int .u32 (r.si : Int), .int .i64 r.sb, .int .u32 (r.di : Int), .int .i64 r.db, .int .u32 (r.ex : Int), .int .u16 r.fr, .int .u16 r.to, .int .u32 (r.ii : Int), .int .u16 r.ip] 42))
        have A_604 := A3.past (o := (.cells #[.int .i64 r.k, .int .u8 r.pr, .int .u32 (r.si : Int), .int .i64 r.sb, .int .u32 (r.di : Int), .int .i64 r.db, .int .u32 (r.ex : Int), .int .u16 r.fr, .int .u16 r.to, .int .u32 (r.ii : Int), .int .u16 r.ip] 42))
        have N_605 := Box11.make wc (.int .i64 r.k) (.int .u8 r.pr) (.int .u32 (r.si : Int)) (.int .i64 r.sb) (.int .u32 (r.di : Int)) (.int .i64 r.db) (.int .u32 (r.ex : Int)) (.int .u16 r.fr) (.int .u16 r.to) (.int .u32 (r.ii : Int)) (.int .u16 r.ip) 42
        have B606 := B2.alloc B2.size (.cells #[.int .i64 r.k, .int .u8 r.pr, .int .u32 (r.si : Int), .int .i64 r.sb, .int .u32 (r.di : Int), .int .i64 r.db, .int .u32 (r.ex : Int), .int .u16 r.fr, .int .u16 r.to, .int .u32 (r.ii : Int), .int .u16 r.ip] 42)
        clear X2 A3 B2
        have fzN_607 : ∀ i, (wc.alloc (.cells #[.int .i64 r.k, .int .u8 r.pr, .int .u32 (r.si : Int), .int .i64 r.sb, .int .u32 (r.di : Int), .int .i64 r.db, .int .u32 (r.ex : Int), .int .u16 r.fr, .int .u16 r.to, .int .u32 (r.ii : Int), .int .u16 r.ip] 42)).frozen? ⟨wc.heap.size, i, none⟩ = false := by intro i; simp [go_sem]
        obtain ⟨u81, hu81⟩ : ∃ x_ : World, x_ = wc.alloc (.cells #[.int .i64 r.k, .int .u8 r.pr, .int .u32 (r.si : Int), .int .i64 r.sb, .int .u32 (r.di : Int), .int .i64 r.db, .int .u32 (r.ex : Int), .int .u16 r.fr, .int .u16 r.to, .int .u32 (r.ii : Int), .int .u16 r.ip] 42) := ⟨_, rfl⟩
        rw [← hu81] at X_603 A_604 N_605 fzN_607 T_602 B606 ⊢
        clear hu81
        obtain ⟨_, a3_0, a3_1, a3_2, a3_3, a3_4, a3_5, a3_6, a3_7, a3_8, a3_9, a3_10⟩ := id A_604
        obtain ⟨_, n4_0, n4_1, n4_2, n4_3, n4_4, n4_5, n4_6, n4_7, n4_8, n4_9, n4_10⟩ := id N_605
        go_wp2_with fail
        refine (fo _).mono ?_; rintro e w82 ⟨rfl, x82⟩
        have T_608 := T_602.on x82
        clear T_602
        have fzN_609 : ∀ i, w82.frozen? ⟨wc.heap.size, i, none⟩ = false := fun i => (x82.frozen (p := ⟨_, i, none⟩) N_605.1).trans (fzN_607 i)
        clear fzN_607
        have X_610 := X_603.on x82
        have A_611 := A_604.on x82
        have N_612 := N_605.on x82
        have B613 := B606.trans (x82.mono B606.size)
        clear a3_0 a3_1 a3_2 a3_3 a3_4 a3_5 a3_6 a3_7 a3_8 a3_9 a3_10 n4_0 n4_1 n4_2 n4_3 n4_4 n4_5 n4_6 n4_7 n4_8 n4_9 n4_10 X_603 A_604 N_605 B606 x82
        obtain ⟨_, a5_0, a5_1, a5_2, a5_3, a5_4, a5_5, a5_6, a5_7, a5_8, a5_9, a5_10⟩ := id A_611
        obtain ⟨_, n6_0, n6_1, n6_2, n6_3, n6_4, n6_5, n6_6, n6_7, n6_8, n6_9, n6_10⟩ := id N_612
        go_upto_region 20 with fail
        clear a5_0 a5_1 a5_2 a5_3 a5_4 a5_5 a5_6 a5_7 a5_8 a5_9 a5_10 n6_0 n6_1 n6_2 n6_3 n6_4 n6_5 n6_6 n6_7 n6_8 n6_9 n6_10
        have n1_ : ¬ wc.heap.size = w22.heap.size := by have := ax.out; have := bxs.out; omega
        have n2_ : ¬ w22.heap.size = wc.heap.size := by omega
        have n3_ : ¬ wc.heap.size = q := by have := qxs.out; omega
        have n4_ : ¬ q = wc.heap.size := by omega
        have T_614 := (T_608.cell nfNT_601 6 (.int .u32 (ox : Int)))
        clear T_608
        obtain ⟨_, x7_0, x7_1, x7_2, x7_3, x7_4⟩ := id X_610
        obtain ⟨_, a8_0, a8_1, a8_2, a8_3, a8_4, a8_5, a8_6, a8_7, a8_8, a8_9, a8_10⟩ := id A_611
        obtain ⟨_, n9_0, n9_1, n9_2, n9_3, n9_4, n9_5, n9_6, n9_7, n9_8, n9_9, n9_10⟩ := id N_612
        have B615 := (B613.setCell (p := ⟨wc.heap.size, 6, none⟩) LE.out (.int .u32 (ox : Int)))
        have X_616 : Box5 (w82.setCell ⟨wc.heap.size, 6, none⟩ (.int .u32 (ox : Int))) q (.int .u8 xp) (.int .u32 (xa : Int)) (.int .u16 xm) (.int .u32 (xb : Int)) (.int .u16 xn) := ⟨by have := X_610.1; simpa using this, by simp [go_sem, x7_0, x7_1, x7_2, x7_3, x7_4, a8_0, a8_1, a8_2, a8_3, a8_4, a8_5, a8_6, a8_7, a8_8, a8_9, a8_10, n9_0, n9_1, n9_2, n9_3, n9_4, n9_5, n9_6, n9_7, n9_8, n9_9, n9_10], by simp [go_sem, x7_0, x7_1, x7_2, x7_3, x7_4, a8_0, a8_1, a8_2, a8_3, a8_4, a8_5, a8_6, a8_7, a8_8, a8_9, a8_10, n9_0, n9_1, n9_2, n9_3, n9_4, n9_5, n9_6, n9_7, n9_8, n9_9, n9_10], by simp [go_sem, x7_0, x7_1, x7_2, x7_3, x7_4, a8_0, a8_1, a8_2, a8_3, a8_4, a8_5, a8_6, a8_7, a8_8, a8_9, a8_10, n9_0, n9_1, n9_2, n9_3, n9_4, n9_5, n9_6, n9_7, n9_8, n9_9, n9_10], by simp [go_sem, x7_0, x7_1, x7_2, x7_3, x7_4, a8_0, a8_1, a8_2, a8_3, a8_4, a8_5, a8_6, a8_7, a8_8, a8_9, a8_10, n9_0, n9_1, n9_2, n9_3, n9_4, n9_5, n9_6, n9_7, n9_8, n9_9, n9_10], by simp [go_sem, x7_0, x7_1, x7_2, x7_3, x7_4, a8_0, a8_1, a8_2, a8_3, a8_4, a8_5, a8_6, a8_7, a8_8, a8_9, a8_10, n9_0, n9_1, n9_2, n9_3, n9_4, n9_5, n9_6, n9_7, n9_8, n9_9, n9_10]⟩
        have A_617 : Box11 (w82.setCell ⟨wc.heap.size, 6, none⟩ (.int .u32 (ox : Int))) w22.heap.size (.int .i64 r.k) (.int .u8 r.pr) (.int .u32 (r.si : Int)) (.int .i64 r.sb) (.int .u32 (r.di : Int)) (.int .i64 r.db) (.int .u32 (ox : Int)) (.int .u16 r.fr) (.int .u16 r.to) (.int .u32 (r.ii : Int)) (.int .u16 r.ip) := ⟨by have := A_611.1; simpa using this, by simp [go_sem, x7_0, x7_1, x7_2, x7_3, x7_4, a8_0, a8_1, a8_2, a8_3, a8_4, a8_5, a8_6, a8_7, a8_8, a8_9, a8_10, n9_0, n9_1, n9_2, n9_3, n9_4, n9_5, n9_6, n9_7, n9_8, n9_9, n9_10], by simp [go_sem, x7_0, x7_1, x7_2, x7_3, x7_4, a8_0, a8_1, a8_2, a8_3, a8_4, a8_5, a8_6, a8_7, a8_8, a8_9, a8_10, n9_0, n9_1, n9_2, n9_3, n9_4, n9_5, n9_6, n9_7, n9_8, n9_9, n9_10], by simp [go_sem, x7_0, x7_1, x7_2, x7_3, x7_4, a8_0, a8_1, a8_2, a8_3, a8_4, a8_5, a8_6, a8_7, a8_8, a8_9, a8_10, n9_0, n9_1, n9_2, n9_3, n9_4, n9_5, n9_6, n9_7, n9_8, n9_9, n9_10], by simp [go_sem, x7_0, x7_1, x7_2, x7_3, x7_4, a8_0, a8_1, a8_2, a8_3, a8_4, a8_5, a8_6, a8_7, a8_8, a8_9, a8_10, n9_0, n9_1, n9_2, n9_3, n9_4, n9_5, n9_6, n9_7, n9_8, n9_9, n9_10], by simp [go_sem, x7_0, x7_1, x7_2, x7_3, x7_4, a8_0, a8_1, a8_2, a8_3, a8_4, a8_5, a8_6, a8_7, a8_8, a8_9, a8_10, n9_0, n9_1, n9_2, n9_3, n9_4, n9_5, n9_6, n9_7, n9_8, n9_9, n9_10], by simp [go_sem, x7_0, x7_1, x7_2, x7_3, x7_4, a8_0, a8_1, a8_2, a8_3, a8_4, a8_5, a8_6, a8_7, a8_8, a8_9, a8_10, n9_0, n9_1, n9_2, n9_3, n9_4, n9_5, n9_6, n9_7, n9_8, n9_9, n9_10], by simp [go_sem, x7_0, x7_1, x7_2, x7_3, x7_4, a8_0, a8_1, a8_2, a8_3, a8_4, a8_5, a8_6, a8_7, a8_8, a8_9, a8_10, n9_0, n9_1, n9_2, n9_3, n9_4, n9_5, n9_6, n9_7, n9_8, n9_9, n9_10], by simp [go_sem, x7_0, x7_1, x7_2, x7_3, x7_4, a8_0, a8_1, a8_2, a8_3, a8_4, a8_5, a8_6, a8_7, a8_8, a8_9, a8_10, n9_0, n9_1, n9_2, n9_3, n9_4, n9_5, n9_6, n9_7, n9_8, n9_9, n9_10], by simp [go_sem, x7_0, x7_1, x7_2, x7_3, x7_4, a8_0, a8_1, a8_2, a8_3, a8_4, a8_5, a8_6, a8_7, a8_8, a8_9, a8_10, n9_0, n9_1, n9_2, n9_3, n9_4, n9_5, n9_6, n9_7, n9_8, n9_9, n9_10], by simp [go_sem, x7_0, x7_1, x7_2, x7_3, x7_4, a8_0, a8_1, a8_2, a8_3, a8_4, a8_5, a8_6, a8_7, a8_8, a8_9, a8_10, n9_0, n9_1, n9_2, n9_3, n9_4, n9_5, n9_6, n9_7, n9_8, n9_9, n9_10], by simp [go_sem, x7_0, x7_1, x7_2, x7_3, x7_4, a8_0, a8_1, a8_2, a8_3, a8_4, a8_5, a8_6, a8_7, a8_8, a8_9, a8_10, n9_0, n9_1, n9_2, n9_3, n9_4, n9_5, n9_6, n9_7, n9_8, n9_9, n9_10]⟩
        have N_618 : Box11 (w82.setCell ⟨wc.heap.size, 6, none⟩ (.int .u32 (ox : Int))) wc.heap.size (.int .i64 r.k) (.int .u8 r.pr) (.int .u32 (r.si : Int)) (.int .i64 r.sb) (.int .u32 (r.di : Int)) (.int .i64 r.db) (.int .u32 (ox : Int)) (.int .u16 r.fr) (.int .u16 r.to) (.int .u32 (r.ii : Int)) (.int .u16 r.ip) := ⟨by have := N_612.1; simpa using this, by simp [go_sem, x7_0, x7_1, x7_2, x7_3, x7_4, a8_0, a8_1, a8_2, a8_3, a8_4, a8_5, a8_6, a8_7, a8_8, a8_9, a8_10, n9_0, n9_1, n9_2, n9_3, n9_4, n9_5, n9_6, n9_7, n9_8, n9_9, n9_10], by simp [go_sem, x7_0, x7_1, x7_2, x7_3, x7_4, a8_0, a8_1, a8_2, a8_3, a8_4, a8_5, a8_6, a8_7, a8_8, a8_9, a8_10, n9_0, n9_1, n9_2, n9_3, n9_4, n9_5, n9_6, n9_7, n9_8, n9_9, n9_10], by simp [go_sem, x7_0, x7_1, x7_2, x7_3, x7_4, a8_0, a8_1, a8_2, a8_3, a8_4, a8_5, a8_6, a8_7, a8_8, a8_9, a8_10, n9_0, n9_1, n9_2, n9_3, n9_4, n9_5, n9_6, n9_7, n9_8, n9_9, n9_10], by simp [go_sem, x7_0, x7_1, x7_2, x7_3, x7_4, a8_0, a8_1, a8_2, a8_3, a8_4, a8_5, a8_6, a8_7, a8_8, a8_9, a8_10, n9_0, n9_1, n9_2, n9_3, n9_4, n9_5, n9_6, n9_7, n9_8, n9_9, n9_10], by simp [go_sem, x7_0, x7_1, x7_2, x7_3, x7_4, a8_0, a8_1, a8_2, a8_3, a8_4, a8_5, a8_6, a8_7, a8_8, a8_9, a8_10, n9_0, n9_1, n9_2, n9_3, n9_4, n9_5, n9_6, n9_7, n9_8, n9_9, n9_10], by simp [go_sem, x7_0, x7_1, x7_2, x7_3, x7_4, a8_0, a8_1, a8_2, a8_3, a8_4, a8_5, a8_6, a8_7, a8_8, a8_9, a8_10, n9_0, n9_1, n9_2, n9_3, n9_4, n9_5, n9_6, n9_7, n9_8, n9_9, n9_10], by simp [go_sem, x7_0, x7_1, x7_2, x7_3, x7_4, a8_0, a8_1, a8_2, a8_3, a8_4, a8_5, a8_6, a8_7, a8_8, a8_9, a8_10, n9_0, n9_1, n9_2, n9_3, n9_4, n9_5, n9_6, n9_7, n9_8, n9_9, n9_10], by simp [go_sem, x7_0, x7_1, x7_2, x7_3, x7_4, a8_0, a8_1, a8_2, a8_3, a8_4, a8_5, a8_6, a8_7, a8_8, a8_9, a8_10, n9_0, n9_1, n9_2, n9_3, n9_4, n9_5, n9_6, n9_7, n9_8, n9_9, n9_10], by simp [go_sem, x7_0, x7_1, x7_2, x7_3, x7_4, a8_0, a8_1, a8_2, a8_3, a8_4, a8_5, a8_6, a8_7, a8_8, a8_9, a8_10, n9_0, n9_1, n9_2, n9_3, n9_4, n9_5, n9_6, n9_7, n9_8, n9_9, n9_10], by simp [go_sem, x7_0, x7_1, x7_2, x7_3, x7_4, a8_0, a8_1, a8_2, a8_3, a8_4, a8_5, a8_6, a8_7, a8_8, a8_9, a8_10, n9_0, n9_1, n9_2, n9_3, n9_4, n9_5, n9_6, n9_7, n9_8, n9_9, n9_10], by simp [go_sem, x7_0, x7_1, x7_2, x7_3, x7_4, a8_0, a8_1, a8_2, a8_3, a8_4, a8_5, a8_6, a8_7, a8_8, a8_9, a8_10, n9_0, n9_1, n9_2, n9_3, n9_4, n9_5, n9_6, n9_7, n9_8, n9_9, n9_10]⟩
        have fzN_619 : ∀ i, (w82.setCell ⟨wc.heap.size, 6, none⟩ (.int .u32 (ox : Int))).frozen? ⟨wc.heap.size, i, none⟩ = false := by intro i; simp [fzN_609]
        clear x7_0 x7_1 x7_2 x7_3 x7_4 a8_0 a8_1 a8_2 a8_3 a8_4 a8_5 a8_6 a8_7 a8_8 a8_9 a8_10 n9_0 n9_1 n9_2 n9_3 n9_4 n9_5 n9_6 n9_7 n9_8 n9_9 n9_10 X_610 A_611 N_612 fzN_609 B613
        obtain ⟨u83, hu83⟩ : ∃ x_ : World, x_ = (w82.setCell ⟨wc.heap.size, 6, none⟩ (.int .u32 (ox : Int))) := ⟨_, rfl⟩
        rw [← hu83] at X_616 A_617 N_618 fzN_619 T_614 B615 ⊢
        clear hu83
        obtain ⟨_, a10_0, a10_1, a10_2, a10_3, a10_4, a10_5, a10_6, a10_7, a10_8, a10_9, a10_10⟩ := id A_617
        obtain ⟨_, n11_0, n11_1, n11_2, n11_3, n11_4, n11_5, n11_6, n11_7, n11_8, n11_9, n11_10⟩ := id N_618
        go_wp2_with fail
        clear a10_0 a10_1 a10_2 a10_3 a10_4 a10_5 a10_6 a10_7 a10_8 a10_9 a10_10 n11_0 n11_1 n11_2 n11_3 n11_4 n11_5 n11_6 n11_7 n11_8 n11_9 n11_10
        clear nfNT_601
        clear A_617 N_618
        clear fzN_619
        refine (dc _ _ T_614).mono ?_; rintro e w84 ⟨rfl, v84, T_620, x84, ho84⟩
        have X_621 := X_616.keep x84.size (x84.block _ X_616.1 nf)
        have nfXT_622 := foot_newer nf X_616.1 ho84
        have B623 := T_614.after hbT B615 x84
        clear nf X_616 B615 T_614 x84 ho84
        obtain ⟨_, x12_0, x12_1, x12_2, x12_3, x12_4⟩ := id X_621
        go_wp2_with fail
        refine (cl2 _ _ T_620).mono ?_; rintro e w85 ⟨⟨a30, c30, rfl⟩, x85⟩
        have T_624 := T_620.on x85
        clear T_620
        have X_625 := X_621.on x85
        have B626 := B623.trans (x85.mono B623.size)
        clear x12_0 x12_1 x12_2 x12_3 x12_4 X_621 B623 x85
        have q1_ : wrap64 ((n : Int) - 1) = (m : Int) := by rw [IntWalk.wrap64_in _ (by omega)]; omega
        go_wp2_with fail
        go_roundw
        case rel => exact ⟨_, t2, B626, T_624, HS2.out.1, HS2.out.2.1, HS2.out.2.2, X_625, nfXT_622⟩
        case measure =>
          clear q1_
          rw [lenAt_of T_624, HM.out, ← Hn.out, ← Hm.out]
          omega
end RulesFirst
end Go.Proofs.Ytoogegpkgohffaa
namespace Go.Proofs.Ytoogegpkgohffaa
set_option linter.unusedVariables false
set_option linter.unusedSimpArgs false
open Go.ChangeShapes Go.WideShapes Go.ChangeAt Go.RowKit Go.PlainAid
attribute [local go_sem ↓] Go.wp_at_zero Go.wp_at_succ
set_option maxHeartbeats 4000000 in
set_option maxRecDepth 100000 in
theorem filled_ (a : Option Addr) (len cap : Nat) (ds : List Dr) (w : World) (D0 : DrAt w a len ds) (hl : len ≤ 60) :
    Calls Try.prog 30 #[.slice a len cap] w fun e w' => Below w.heap.size w w' ∧ ∃ p v t, e = .returned (.tuple #[.pointer (some ⟨p, 0, none⟩), .bool true]) ∧ TabC w' w.heap.size p v t ∧ t.Good ∧ t.Law ∧ t.Sound := by
  have D := Lib.hid D0
  have HL := Lib.hid hl
  clear D0 hl
  go_enter Try.func30, Try.ntmps30
  have B1 := Below.refl w.heap.size w
  go_wp2_with fail
  refine (tens_ _).mono ?_; rintro e w1 ⟨rfl, x1⟩
  have B2 := B1.trans (x1.mono B1.size)
  clear B1 x1
  go_wp2_with fail
  refine (xn0 _).mono ?_; rintro e w2 ⟨p, rfl, T0, b2⟩
  have B90 := B2.trans (b2.mono B2.size)
  have L0 := T0.less B2.size
  clear T0 b2
  go_wp2_with fail
  go_loopw [6] (fun si wr => ∃ (i : Nat) (v : Value) (t : Tm), i ≤ len ∧ si = .int .i64 (i : Int) ∧ Below w.heap.size w wr ∧ TabC wr w.heap.size p v t ∧ t.Good ∧ t.Law ∧ t.Sound) (fun si _ => len - (intOf si).toNat)
  case atStart => exact ⟨0, _, _, Nat.zero_le _, rfl, B90, L0, good0, ⟨rfl, rfl, rfl⟩, Tm.Sound.none _ _ _⟩
  case round =>
    clear L0 B90 B2
    obtain ⟨i, v, t, hi, rfl, bb, T, G, L, S⟩ := hrel
    by_cases hlt : i < len
    rotate_left
    · have e10 : decide ((i : Int) < (len : Int)) = false := by simp; omega
      have e11 : decide (i < len) = false := by simp; omega
      have KT := Lib.hid (And.intro T (And.intro G (And.intro L S)))
      clear T G L S
      go_wp2
      go_ret2
      exact ⟨bb, p, v, t, rfl, KT.out⟩
    have HI := Lib.hid hlt
    have e10 : decide ((i : Int) < (len : Int)) = true := by simp; omega
    have e11 : decide (i < len) = true := by simp; omega
    have e12 : (i : Int) < (len : Int) := by omega
    obtain ⟨b, off, ha, hb, hc⟩ : ∃ b off, a = some ⟨b, off, none⟩ ∧ b < w.heap.size ∧ _ := by
      rcases D.out.cells with h | h
      · omega
      · exact h
    subst ha
    have cd := (hc i hlt).on hb bb
    have dok := D.out.okAt hlt
    obtain ⟨d, hd⟩ : ∃ d, d = ds.getD i Dr.zero := ⟨_, rfl⟩
    rw [← hd] at cd dok
    have HDd := Lib.hid hd
    clear hd
    have ru := fun u => rule_ d u dok
    have hx := rule_add L d dok (t.rs.length : Int) (by omega) (by omega)
    have rk := ruleD_ok d dok
    have ac : ∀ (v : Value) (u : World) (H : TabC u w.heap.size p v t), _ := fun v u H => addC_n t w.heap.size p v u H G (t.rs.length : Int) (ruleD d) rk (by omega) (by have := G.few; omega)
    have cl : ∀ (v : Value) (u : World) (H : TabC u w.heap.size p v t), _ := fun v u H => listL_ t w.heap.size p v u H G
    have G2 : (ruAddT t (t.rs.length : Int) (ruleD d)).Good := G.add rk
    have L2 := L.add (t.rs.length : Int) (ruleD d)
    have S2 := S.add (t.rs.length : Int) (ruleD d)
    have ln := add_len (t := t) (i := (t.rs.length : Int)) (r := ruleD d)
    generalize ruAddT t (t.rs.length : Int) (ruleD d) = t2 at *
    have cl2 : ∀ (v : Value) (u : World) (H : TabC u w.heap.size p v t2), _ := fun v u H => listL_ t2 w.heap.size p v u H G2
    have K2 := Lib.hid (And.intro G2 (And.intro L2 S2))
    have f1 := G.few
    have f2 := G2.few
    generalize ruAddE t (t.rs.length : Int) (ruleD d) = E at *
    obtain ⟨n, hn⟩ : ∃ n, t.rs.length = n := ⟨_, rfl⟩
    obtain ⟨m, hm⟩ : ∃ m, t2.rs.length = m := ⟨_, rfl⟩
    rw [hn] at ln f1 ac
    rw [hm] at ln f2
    generalize hR : ruleD d = r at *
    clear hR rk
    have cl' : ∀ (v : Value) (u : World) (H : TabC u w.heap.size p v t), Calls Try.prog 21 #[.pointer (some ⟨p, 0, none⟩)] u fun e w' => (∃ a c, e = .returned (.slice a n c)) ∧ Below u.heap.size u w' := fun v u H => (cl v u H).mono fun e w' ⟨a, c, h1, _, h2⟩ => ⟨⟨a, c, by rw [h1, hn]⟩, h2⟩
    have cl2' : ∀ (v : Value) (u : World) (H : TabC u w.heap.size p v t2), Calls Try.prog 21 #[.pointer (some ⟨p, 0, none⟩)] u fun e w' => (∃ a c, e = .returned (.slice a m c)) ∧ Below u.heap.size u w' := fun v u H => (cl2 v u H).mono fun e w' ⟨a, c, h1, _, h2⟩ => ⟨⟨a, c, by rw [h1, hm]⟩, h2⟩
    clear cl cl2 hn hm G2 L2 S2 G L S hc hi hlt
    obtain ⟨c0, c1, c2, c3, c4, c5⟩ := id cd
    have w1h : Hid (wrap64 ((n : Int) + 1) = (n : Int) + 1) := IntWalk.wrap64_in _ ⟨by omega, by omega⟩
    have w2_ : decide ((32 : Int) < (m : Int)) = false := by simp; omega
    have w3_ : decide (32 < m) = false := by simp; omega
    have HX := Lib.hid hx
    clear hx
    go_wp2_with fail
    refine (cl' _ _ T).mono ?_; rintro e w21 ⟨⟨a9, c9, rfl⟩, x21⟩
    have T_101 := T.on x21
    clear T
    have B102 := bb.trans (x21.mono bb.size)
    clear bb x21
    have cq := (show DrC w21 b (off + i * 6) d from by
      have := (D.out.on B102)
      rcases this.cells with h | ⟨b1, o1, e1, _, h⟩
      · have := HI.out; omega
      · simp only [Option.some.injEq, Addr.mk.injEq, and_true] at e1
        obtain ⟨rfl, rfl⟩ := e1
        rw [HDd.out]
        exact h i HI.out)
    clear c0 c1 c2 c3 c4 c5
    obtain ⟨c0, c1, c2, c3, c4, c5⟩ := cq
    go_wp2_with fail
    clear c0 c1 c2 c3 c4 c5
    refine (ru _).mono ?_; rintro e w22 ⟨rfl, x22⟩
    have T_103 := T_101.on x22
    clear T_101
    have B104 := B102.trans (x22.mono B102.size)
    clear B102 x22
    go_wp2_with fail
    refine (ac _ _ T_103).mono ?_; rintro e w23 ⟨rfl, v23, T_105, x23, ho23⟩
    have B106 := T_103.after (Nat.le_refl _) B104 x23
    clear B104 T_103 x23 ho23
    clear ru ac cl' e12 hb cd
    have hx := HX.out
    clear HX
    go_upto_region 9 with fail
    go_cut [75] (fun c wx => c = .bool false ∧ Below w.heap.size w wx ∧ TabC wx w.heap.size p v23 t2)
    case first =>
      rcases hx with rfl | rfl | rfl
      · rw [if_pos rfl] at ln
        subst ln
        have w4_ : decide ((32 : Int) < (n : Int) + 1) = false := by simp; omega
        have w5_ : ¬ ((32 : Int) < (n : Int) + 1) := by omega
        have w1_ := w1h.out
        go_wp2_with fail
        refine (cl2' _ _ T_105).mono ?_; rintro e w24 ⟨⟨a20, c20, rfl⟩, x24⟩
        have T_107 := T_105.on x24
        clear T_105
        have B108 := B106.trans (x24.mono B106.size)
        clear B106 x24
        go_wp2_with fail
        refine (cl2' _ _ T_107).mono ?_; rintro e w25 ⟨⟨a21, c21, rfl⟩, x25⟩
        have T_109 := T_107.on x25
        clear T_107
        have B110 := B108.trans (x25.mono B108.size)
        clear B108 x25
        go_wp2_with fail
        refine (cl2' _ _ T_109).mono ?_; rintro e w26 ⟨⟨a22, c22, rfl⟩, x26⟩
        have T_111 := T_109.on x26
        clear T_109
        have B112 := B110.trans (x26.mono B110.size)
        clear B110 x26
        go_wp2
        go_meet
        exact ⟨rfl, B112, T_111⟩
      · rw [if_neg (by omega)] at ln
        subst ln
        have w1_ := w1h.out
        go_wp2_with fail
        refine (cl2' _ _ T_105).mono ?_; rintro e w24 ⟨⟨a20, c20, rfl⟩, x24⟩
        have T_107 := T_105.on x24
        clear T_105
        have B108 := B106.trans (x24.mono B106.size)
        clear B106 x24
        go_wp2_with fail
        refine (cl2' _ _ T_107).mono ?_; rintro e w25 ⟨⟨a21, c21, rfl⟩, x25⟩
        have T_109 := T_107.on x25
        clear T_107
        have B110 := B108.trans (x25.mono B108.size)
        clear B108 x25
        go_wp2_with fail
        refine (cl2' _ _ T_109).mono ?_; rintro e w26 ⟨⟨a22, c22, rfl⟩, x26⟩
        have T_111 := T_109.on x26
        clear T_109
        have B112 := B110.trans (x26.mono B110.size)
        clear B110 x26
        go_wp2
        go_meet
        exact ⟨rfl, B112, T_111⟩
      · rw [if_neg (by omega)] at ln
        subst ln
        have w1_ := w1h.out
        go_wp2_with fail
        refine (cl2' _ _ T_105).mono ?_; rintro e w24 ⟨⟨a20, c20, rfl⟩, x24⟩
        have T_107 := T_105.on x24
        clear T_105
        have B108 := B106.trans (x24.mono B106.size)
        clear B106 x24
        go_wp2_with fail
        refine (cl2' _ _ T_107).mono ?_; rintro e w25 ⟨⟨a21, c21, rfl⟩, x25⟩
        have T_109 := T_107.on x25
        clear T_107
        have B110 := B108.trans (x25.mono B108.size)
        clear B108 x25
        go_wp2_with fail
        refine (cl2' _ _ T_109).mono ?_; rintro e w26 ⟨⟨a22, c22, rfl⟩, x26⟩
        have T_111 := T_109.on x26
        clear T_109
        have B112 := B110.trans (x26.mono B110.size)
        clear B110 x26
        go_wp2
        go_meet
        exact ⟨rfl, B112, T_111⟩
    case rest =>
      obtain ⟨rfl, bq, Tq⟩ := hcut
      clear T_105 B106 cl2'
      have e13 : (i : Int) + 1 ≤ 100000 := by have := HI.out; have := HL.out; omega
      go_wp2_with fail
      go_roundw
      case rel => exact ⟨i + 1, _, t2, HI.out, by go_num, bq, Tq, K2.out⟩
      case measure => have := HI.out; simp [intOf]; omega
end Go.Proofs.Ytoogegpkgohffaa
namespace Go.Proofs.Ytoogegpkgohffaa
open Go.ChangeShapes Go.WideShapes Go.ChangeAt Go.RowKit Go.PlainAid
theorem RulesFirst.walkI (a : Option Addr) (len cap : Nat) (ds : List Dr) (z0 z1 z2 z3 z4 z5 : Int) (w : World) (hm : len ≤ maxLen) (D : DrAt w a len ds) (h0 : (Lit.int .u8 z0).wf = true) (h1 : (Lit.int .u8 z1).wf = true) (h2 : (Lit.int .u8 z2).wf = true) (h3 : (Lit.int .u8 z3).wf = true) (h4 : (Lit.int .u8 z4).wf = true) (h5 : (Lit.int .u8 z5).wf = true) :
    Calls Try.prog 7 #[.slice a len cap, .agg #[.int .u8 z0, .int .u8 z1, .int .u8 z2, .int .u8 z3, .int .u8 z4, .int .u8 z5]] w fun e w' => e = .returned (.bool true) ∧ Below w.heap.size w w' :=
  RulesFirst.walk_ filled_ a len cap ds ⟨z0, z1, z2, z3, z4, z5⟩ w D ⟨bounds_u8 h0, bounds_u8 h1, bounds_u8 h2, bounds_u8 h3, bounds_u8 h4, bounds_u8 h5⟩ hm
end Go.Proofs.Ytoogegpkgohffaa
