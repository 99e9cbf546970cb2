/- Layer 11: the law's 'alike'. -/
import Derived.Test.YtoogegpkgohffaaSq
import Derived.Test.YtoogegpkgohffaaSn
namespace Go.Proofs.Ytoogegpkgohffaa
set_option linter.unusedVariables false
set_option linter.unusedSimpArgs false
open Go.ChangeShapes Go.WideShapes Go.ChangeAt Go.RowKit Go.PlainAid
attribute [local go_sem ↓] Go.wp_at_zero Go.wp_at_succ
theorem cells_at {w0 w : World} {b : Nat} {rs : List Ru} {i : Nat} {r : Ru} (R : RulesAt w0 (some ⟨b, 0, none⟩) rs) (hi : Hid (i < rs.length)) (hr : Hid (r = rs.getD i Ru.zero)) (k : Below w0.heap.size w0 w) : w.cell? ⟨b, i * 11, none⟩ = some (.int .i64 r.k) ∧ w.cell? ⟨b, i * 11 + 1, none⟩ = some (.int .u8 r.pr) ∧ w.cell? ⟨b, i * 11 + 2, none⟩ = some (.int .u32 (r.si : Int)) ∧ w.cell? ⟨b, i * 11 + 3, none⟩ = some (.int .i64 r.sb) ∧ w.cell? ⟨b, i * 11 + 4, none⟩ = some (.int .u32 (r.di : Int)) ∧ w.cell? ⟨b, i * 11 + 5, none⟩ = some (.int .i64 r.db) ∧ w.cell? ⟨b, i * 11 + 6, none⟩ = some (.int .u32 (r.ex : Int)) ∧ w.cell? ⟨b, i * 11 + 7, none⟩ = some (.int .u16 r.fr) ∧ w.cell? ⟨b, i * 11 + 8, none⟩ = some (.int .u16 r.to) ∧ w.cell? ⟨b, i * 11 + 9, none⟩ = some (.int .u32 (r.ii : Int)) ∧ w.cell? ⟨b, i * 11 + 10, none⟩ = some (.int .u16 r.ip) := by
  rcases R.on k with e | ⟨b', e, _, hc⟩
  · have := hi.out; omega
  · simp only [Option.some.injEq, Addr.mk.injEq, and_true] at e
    subst e
    have h := hc i hi.out
    rw [← hr.out] at h
    exact h
set_option maxHeartbeats 8000000 in
set_option maxRecDepth 100000 in
theorem alike_ (t : Tm) (B p q : Nat) (v v' : Value) (d : Dr) (w : World) (H : TabC w B p v t) (H' : TabD w B q v' t) (G : t.Good) (hd : d.Ok) :
    Calls Try.prog 22 #[.pointer (some ⟨p, 0, none⟩), .pointer (some ⟨q, 0, none⟩), .agg #[.int .u8 d.d0, .int .u8 d.d1, .int .u8 d.d2, .int .u8 d.d3, .int .u8 d.d4, .int .u8 d.d5]] w fun e w' => e = .returned (.bool true) ∧ Below w.heap.size w w' := by
  have few := G.few
  obtain ⟨a8, c8, rfl⟩ := H'.row.slice
  have cl : ∀ (u : World) (H : TabC u B p v t), _ := fun u H => listL_ t B p v u H G
  have fw := fun u => flow_ d u hd
  have hfa := (flow_in d).1
  have hfb := (flow_in d).2
  obtain ⟨x2, h2, i2, b2, _, t2, v2, _, u2⟩ := mod_nat d.d2 3 hd.a2 (by omega) (by omega)
  clear h2 i2
  have k2 : IntKind.u32.wrap (151587081 + (x2 : Int)) = 151587081 + (x2 : Int) := IntWalk.u32_in _ (by omega)
  obtain ⟨eo, heo, leo⟩ : ∃ e : Nat, 151587081 + x2 = e ∧ e < 4294967296 := ⟨_, rfl, by omega⟩
  have sC : ∀ (u : World) (H : TabC u B p v t), _ := fun u H => statC_ t B p v u H G (flP d) (flN d) eo
  have sD : ∀ (u : World) (H : TabD u B q (.slice a8 t.rs.length c8) t), _ := fun u H => statD_ t B q _ u H G (flP d) (flN d) eo
  have oC : ∀ (u : World) (H : TabC u B p v t), _ := fun u H => ownTC_ t B p v u H G (flP d) (flM d) (flA d)
  have oD : ∀ (u : World) (H : TabD u B q (.slice a8 t.rs.length c8) t), _ := fun u H => ownTD_ t B q _ u H G (flP d) (flM d) (flA d)
  have rC : ∀ (u : World) (H : TabC u B p v t), _ := fun u H => sourC_ t B p v u H G (flP d) (flM d) (flN d) (flA d) (flB d) hfa hfb
  have rD : ∀ (u : World) (H : TabD u B q (.slice a8 t.rs.length c8) t), _ := fun u H => sourD_ t B q _ u H G (flP d) (flM d) (flN d) (flA d) (flB d) hfa hfb
  have uC : ∀ (u : World) (H : TabC u B p v t), _ := fun u H => outeC_ t B p v u H G eo
  have uD : ∀ (u : World) (H : TabD u B q (.slice a8 t.rs.length c8) t), _ := fun u H => outeD_ t B q _ u H G eo
  have jC : ∀ (u : World) (H : TabC u B p v t), _ := fun u H => inneC_ t B p v u H G (flA d) hfa
  have jD : ∀ (u : World) (H : TabD u B q (.slice a8 t.rs.length c8) t), _ := fun u H => inneD_ t B q _ u H G (flA d) hfa
  have mC : ∀ (u : World) (H : TabC u B p v t), _ := fun u H => inneC_ t B p v u H G eo leo
  have mD : ∀ (u : World) (H : TabD u B q (.slice a8 t.rs.length c8) t), _ := fun u H => inneD_ t B q _ u H G eo leo
  generalize findRu t.rs (fitS (flP d) eo (flN d)) = r1 at *
  generalize hitRu t.rs (fitS (flP d) eo (flN d)) = h1 at *
  generalize findRu t.rs (fitO (flP d) (flA d) (flM d)) = r2 at *
  generalize hitRu t.rs (fitO (flP d) (flA d) (flM d)) = h2 at *
  generalize srcRu t (flP d) (flA d) (flB d) = r3 at *
  generalize hitRu t.rs (fitF (flP d) (flA d) (flB d)) = h3 at *
  generalize outerB t eo = y1 at *
  generalize innerB t (flA d) = y2 at *
  generalize innerB t eo = y3 at *
  generalize flP d = xp at *
  generalize flA d = xa at *
  generalize flM d = xm at *
  generalize flB d = xb at *
  generalize flN d = xn at *
  obtain ⟨n, hn⟩ : ∃ n, t.rs.length = n := ⟨_, rfl⟩
  have Hn := Lib.hid hn
  rw [hn] at few cl
  have HG := Lib.hid (And.intro hd G)
  have EO := Lib.hid heo
  clear hn hd G hfa hfb heo leo
  go_enter Try.func22, Try.ntmps22
  have B1 := Below.refl w.heap.size w
  go_upto_region 1 with fail
  have T_2 := H.on ((Below.refl w.heap.size w).alloc (Nat.le_refl _) (.cells #[.int .u8 d.d0, .int .u8 d.d1, .int .u8 d.d2, .int .u8 d.d3, .int .u8 d.d4, .int .u8 d.d5] 37))
  clear H
  have U_3 := H'.on ((Below.refl w.heap.size w).alloc (Nat.le_refl _) (.cells #[.int .u8 d.d0, .int .u8 d.d1, .int .u8 d.d2, .int .u8 d.d3, .int .u8 d.d4, .int .u8 d.d5] 37))
  clear H'
  have D_4 := Box6.make w (.int .u8 d.d0) (.int .u8 d.d1) (.int .u8 d.d2) (.int .u8 d.d3) (.int .u8 d.d4) (.int .u8 d.d5) 37
  have B5 := B1.alloc B1.size (.cells #[.int .u8 d.d0, .int .u8 d.d1, .int .u8 d.d2, .int .u8 d.d3, .int .u8 d.d4, .int .u8 d.d5] 37)
  clear B1
  obtain ⟨u1, hu1⟩ : ∃ x_ : World, x_ = w.alloc (.cells #[.int .u8 d.d0, .int .u8 d.d1, .int .u8 d.d2, .int .u8 d.d3, .int .u8 d.d4, .int .u8 d.d5] 37) := ⟨_, rfl⟩
  rw [← hu1] at D_4 T_2 U_3 B5 ⊢
  clear hu1
  obtain ⟨_, d1_0, d1_1, d1_2, d1_3, d1_4, d1_5⟩ := id D_4
  go_wp2_with fail
  refine (cl _ T_2).mono ?_; rintro e w1 ⟨a9, c9, rfl, r9, x1⟩
  have R9 := Lib.hid (r9.at).2
  clear r9 cl
  have T_6 := T_2.on x1
  clear T_2
  have U_7 := U_3.on x1
  clear U_3
  have D_8 := D_4.on x1
  have B9 := B5.trans (x1.mono B5.size)
  clear d1_0 d1_1 d1_2 d1_3 d1_4 d1_5 D_4 B5 x1
  have hb4 := U_7.box
  rw [Hn.out] at hb4
  obtain ⟨_, q0, q1, q2, q3⟩ := id hb4
  obtain ⟨_, d2_0, d2_1, d2_2, d2_3, d2_4, d2_5⟩ := id D_8
  have R8 := Lib.hid (U_7.row.at).2
  have BX := Lib.hid hb4
  go_wp2_with fail
  go_loopw [8] (fun si wr => ∃ i : Nat, i ≤ n ∧ si = .int .i64 (i : Int) ∧ Below w1.heap.size w1 wr) (fun si _ => n - (intOf si).toNat)
  case atStart => exact ⟨0, Nat.zero_le _, rfl, Below.refl _ _⟩
  case round =>
    clear hb4 q0 q1 q2 q3 d2_0 d2_1 d2_2 d2_3 d2_4 d2_5
    obtain ⟨i, hi, rfl, bb⟩ := hrel
    by_cases hlt : i < n
    rotate_left
    · have e10 : decide ((i : Int) < (n : Int)) = false := by simp; omega
      have e11 : decide (i < n) = false := by simp; omega
      clear hlt hi
      have bbx := bb
      have T_101 := T_6.on bbx
      clear T_6
      have U_102 := U_7.on bbx
      clear U_7
      have D_103 := D_8.on bbx
      have B104 := B9.trans (bbx.mono B9.size)
      clear D_8 B9 bbx
      obtain ⟨_, d1_0, d1_1, d1_2, d1_3, d1_4, d1_5⟩ := id D_103
      go_wp2_with fail
      refine (fw _).mono ?_; rintro e w11 ⟨rfl, x11⟩
      have T_105 := T_101.on x11
      clear T_101
      have U_106 := U_102.on x11
      clear U_102
      have D_107 := D_103.on x11
      have B108 := B104.trans (x11.mono B104.size)
      clear d1_0 d1_1 d1_2 d1_3 d1_4 d1_5 D_103 B104 x11
      obtain ⟨_, d2_0, d2_1, d2_2, d2_3, d2_4, d2_5⟩ := id D_107
      have T_109 := T_105.on ((Below.refl w11.heap.size w11).alloc (Nat.le_refl _) (.cells #[.int .u8 xp, .int .u32 (xa : Int), .int .u16 xm, .int .u32 (xb : Int), .int .u16 xn] 57))
      clear T_105
      have U_110 := U_106.on ((Below.refl w11.heap.size w11).alloc (Nat.le_refl _) (.cells #[.int .u8 xp, .int .u32 (xa : Int), .int .u16 xm, .int .u32 (xb : Int), .int .u16 xn] 57))
      clear U_106
      have D_111 := D_107.past (o := (.cells #[.int .u8 xp, .int .u32 (xa : Int), .int .u16 xm, .int .u32 (xb : Int), .int .u16 xn] 57))
      have X_112 := Box5.make w11 (.int .u8 xp) (.int .u32 (xa : Int)) (.int .u16 xm) (.int .u32 (xb : Int)) (.int .u16 xn) 57
      have B113 := B108.alloc B108.size (.cells #[.int .u8 xp, .int .u32 (xa : Int), .int .u16 xm, .int .u32 (xb : Int), .int .u16 xn] 57)
      clear D_107 B108
      obtain ⟨_, d3_0, d3_1, d3_2, d3_3, d3_4, d3_5⟩ := id D_111
      obtain ⟨_, x4_0, x4_1, x4_2, x4_3, x4_4⟩ := id X_112
      go_upto_region 11 with fail
      clear d2_0 d2_1 d2_2 d2_3 d2_4 d2_5 d3_0 d3_1 d3_2 d3_3 d3_4 d3_5 x4_0 x4_1 x4_2 x4_3 x4_4
      have e30 : (151587081 : Int) + (x2 : Int) = (eo : Int) := by have := EO.out; omega
      rw [e30]
      clear e30
      have T_114 := T_109.on ((Below.refl (w11.alloc (.cells #[.int .u8 xp, .int .u32 (xa : Int), .int .u16 xm, .int .u32 (xb : Int), .int .u16 xn] 57)).heap.size (w11.alloc (.cells #[.int .u8 xp, .int .u32 (xa : Int), .int .u16 xm, .int .u32 (xb : Int), .int .u16 xn] 57))).alloc (Nat.le_refl _) (.cells #[.int .u32 (eo : Int), .int .u16 xn] 40))
      clear T_109
      have U_115 := U_110.on ((Below.refl (w11.alloc (.cells #[.int .u8 xp, .int .u32 (xa : Int), .int .u16 xm, .int .u32 (xb : Int), .int .u16 xn] 57)).heap.size (w11.alloc (.cells #[.int .u8 xp, .int .u32 (xa : Int), .int .u16 xm, .int .u32 (xb : Int), .int .u16 xn] 57))).alloc (Nat.le_refl _) (.cells #[.int .u32 (eo : Int), .int .u16 xn] 40))
      clear U_110
      have D_116 := D_111.past (o := (.cells #[.int .u32 (eo : Int), .int .u16 xn] 40))
      have X_117 := X_112.past (o := (.cells #[.int .u32 (eo : Int), .int .u16 xn] 40))
      have hs_ : (w11.alloc (.cells #[.int .u8 xp, .int .u32 (xa : Int), .int .u16 xm, .int .u32 (xb : Int), .int .u16 xn] 57)).heap.size = w11.heap.size + 1 := by simp
      have O_118 := Box2.make (w11.alloc (.cells #[.int .u8 xp, .int .u32 (xa : Int), .int .u16 xm, .int .u32 (xb : Int), .int .u16 xn] 57)) (.int .u32 (eo : Int)) (.int .u16 xn) 40
      rw [hs_] at O_118
      clear hs_
      have B119 := B113.alloc B113.size (.cells #[.int .u32 (eo : Int), .int .u16 xn] 40)
      clear D_111 X_112 B113
      clear D_116
      obtain ⟨u12, hu12⟩ : ∃ x_ : World, x_ = (w11.alloc (.cells #[.int .u8 xp, .int .u32 (xa : Int), .int .u16 xm, .int .u32 (xb : Int), .int .u16 xn] 57)).alloc (.cells #[.int .u32 (eo : Int), .int .u16 xn] 40) := ⟨_, rfl⟩
      rw [← hu12] at X_117 O_118 T_114 U_115 B119 ⊢
      clear hu12
      obtain ⟨_, x5_0, x5_1, x5_2, x5_3, x5_4⟩ := id X_117
      obtain ⟨_, o6_0, o6_1⟩ := id O_118
      go_wp2_with fail
      refine (sC _ T_114).mono ?_; rintro e w13 ⟨rfl, x13⟩
      have T_120 := T_114.on x13
      clear T_114
      have U_121 := U_115.on x13
      clear U_115
      have X_122 := X_117.on x13
      have O_123 := O_118.on x13
      have B124 := B119.trans (x13.mono B119.size)
      clear x5_0 x5_1 x5_2 x5_3 x5_4 o6_0 o6_1 X_117 O_118 B119 x13
      clear sC
      obtain ⟨_, x7_0, x7_1, x7_2, x7_3, x7_4⟩ := id X_122
      obtain ⟨_, o8_0, o8_1⟩ := id O_123
      have T_125 := T_120.on ((Below.refl w13.heap.size w13).alloc (Nat.le_refl _) (.cells #[.int .i64 r1.k, .int .u8 r1.pr, .int .u32 (r1.si : Int), .int .i64 r1.sb, .int .u32 (r1.di : Int), .int .i64 r1.db, .int .u32 (r1.ex : Int), .int .u16 r1.fr, .int .u16 r1.to, .int .u32 (r1.ii : Int), .int .u16 r1.ip] 42))
      clear T_120
      have U_126 := U_121.on ((Below.refl w13.heap.size w13).alloc (Nat.le_refl _) (.cells #[.int .i64 r1.k, .int .u8 r1.pr, .int .u32 (r1.si : Int), .int .i64 r1.sb, .int .u32 (r1.di : Int), .int .i64 r1.db, .int .u32 (r1.ex : Int), .int .u16 r1.fr, .int .u16 r1.to, .int .u32 (r1.ii : Int), .int .u16 r1.ip] 42))
      clear U_121
      have X_127 := X_122.past (o := (.cells #[.int .i64 r1.k, .int .u8 r1.pr, .int .u32 (r1.si : Int), .int .i64 r1.sb, .int .u32 (r1.di : Int), .int .i64 r1.db, .int .u32 (r1.ex : Int), .int .u16 r1.fr, .int .u16 r1.to, .int .u32 (r1.ii : Int), .int .u16 r1.ip] 42))
      have O_128 := O_123.past (o := (.cells #[.int .i64 r1.k, .int .u8 r1.pr, .int .u32 (r1.si : Int), .int .i64 r1.sb, .int .u32 (r1.di : Int), .int .i64 r1.db, .int .u32 (r1.ex : Int), .int .u16 r1.fr, .int .u16 r1.to, .int .u32 (r1.ii : Int), .int .u16 r1.ip] 42))
      have A_129 := Box11.make w13 (.int .i64 r1.k) (.int .u8 r1.pr) (.int .u32 (r1.si : Int)) (.int .i64 r1.sb) (.int .u32 (r1.di : Int)) (.int .i64 r1.db) (.int .u32 (r1.ex : Int)) (.int .u16 r1.fr) (.int .u16 r1.to) (.int .u32 (r1.ii : Int)) (.int .u16 r1.ip) 42
      have B130 := B124.alloc B124.size (.cells #[.int .i64 r1.k, .int .u8 r1.pr, .int .u32 (r1.si : Int), .int .i64 r1.sb, .int .u32 (r1.di : Int), .int .i64 r1.db, .int .u32 (r1.ex : Int), .int .u16 r1.fr, .int .u16 r1.to, .int .u32 (r1.ii : Int), .int .u16 r1.ip] 42)
      clear X_122 O_123 B124
      obtain ⟨_, x9_0, x9_1, x9_2, x9_3, x9_4⟩ := id X_127
      obtain ⟨_, o10_0, o10_1⟩ := id O_128
      go_wp2_with fail
      refine (sD _ U_126).mono ?_; rintro e w14 ⟨rfl, x14⟩
      have T_131 := T_125.on x14
      clear T_125
      have U_132 := U_126.on x14
      clear U_126
      have X_133 := X_127.on x14
      have O_134 := O_128.on x14
      have A_135 := A_129.on x14
      have B136 := B130.trans (x14.mono B130.size)
      clear x7_0 x7_1 x7_2 x7_3 x7_4 o8_0 o8_1 x9_0 x9_1 x9_2 x9_3 x9_4 o10_0 o10_1 X_127 O_128 A_129 B130 x14
      clear sD
      obtain ⟨_, x11_0, x11_1, x11_2, x11_3, x11_4⟩ := id X_133
      obtain ⟨_, o12_0, o12_1⟩ := id O_134
      have T_137 := T_131.on ((Below.refl w14.heap.size w14).alloc (Nat.le_refl _) (.cells #[.int .i64 r1.k, .int .u8 r1.pr, .int .u32 (r1.si : Int), .int .i64 r1.sb, .int .u32 (r1.di : Int), .int .i64 r1.db, .int .u32 (r1.ex : Int), .int .u16 r1.fr, .int .u16 r1.to, .int .u32 (r1.ii : Int), .int .u16 r1.ip] 42))
      clear T_131
      have U_138 := U_132.on ((Below.refl w14.heap.size w14).alloc (Nat.le_refl _) (.cells #[.int .i64 r1.k, .int .u8 r1.pr, .int .u32 (r1.si : Int), .int .i64 r1.sb, .int .u32 (r1.di : Int), .int .i64 r1.db, .int .u32 (r1.ex : Int), .int .u16 r1.fr, .int .u16 r1.to, .int .u32 (r1.ii : Int), .int .u16 r1.ip] 42))
      clear U_132
      have X_139 := X_133.past (o := (.cells #[.int .i64 r1.k, .int .u8 r1.pr, .int .u32 (r1.si : Int), .int .i64 r1.sb, .int .u32 (r1.di : Int), .int .i64 r1.db, .int .u32 (r1.ex : Int), .int .u16 r1.fr, .int .u16 r1.to, .int .u32 (r1.ii : Int), .int .u16 r1.ip] 42))
      have O_140 := O_134.past (o := (.cells #[.int .i64 r1.k, .int .u8 r1.pr, .int .u32 (r1.si : Int), .int .i64 r1.sb, .int .u32 (r1.di : Int), .int .i64 r1.db, .int .u32 (r1.ex : Int), .int .u16 r1.fr, .int .u16 r1.to, .int .u32 (r1.ii : Int), .int .u16 r1.ip] 42))
      have A_141 := A_135.past (o := (.cells #[.int .i64 r1.k, .int .u8 r1.pr, .int .u32 (r1.si : Int), .int .i64 r1.sb, .int .u32 (r1.di : Int), .int .i64 r1.db, .int .u32 (r1.ex : Int), .int .u16 r1.fr, .int .u16 r1.to, .int .u32 (r1.ii : Int), .int .u16 r1.ip] 42))
      have C_142 := Box11.make w14 (.int .i64 r1.k) (.int .u8 r1.pr) (.int .u32 (r1.si : Int)) (.int .i64 r1.sb) (.int .u32 (r1.di : Int)) (.int .i64 r1.db) (.int .u32 (r1.ex : Int)) (.int .u16 r1.fr) (.int .u16 r1.to) (.int .u32 (r1.ii : Int)) (.int .u16 r1.ip) 42
      have B143 := B136.alloc B136.size (.cells #[.int .i64 r1.k, .int .u8 r1.pr, .int .u32 (r1.si : Int), .int .i64 r1.sb, .int .u32 (r1.di : Int), .int .i64 r1.db, .int .u32 (r1.ex : Int), .int .u16 r1.fr, .int .u16 r1.to, .int .u32 (r1.ii : Int), .int .u16 r1.ip] 42)
      clear X_133 O_134 A_135 B136
      obtain ⟨_, x13_0, x13_1, x13_2, x13_3, x13_4⟩ := id X_139
      obtain ⟨_, o14_0, o14_1⟩ := id O_140
      go_wp2_with fail
      refine (oC _ T_137).mono ?_; rintro e w15 ⟨rfl, x15⟩
      have T_144 := T_137.on x15
      clear T_137
      have U_145 := U_138.on x15
      clear U_138
      have X_146 := X_139.on x15
      have O_147 := O_140.on x15
      have A_148 := A_141.on x15
      have C_149 := C_142.on x15
      have B150 := B143.trans (x15.mono B143.size)
      clear x11_0 x11_1 x11_2 x11_3 x11_4 o12_0 o12_1 x13_0 x13_1 x13_2 x13_3 x13_4 o14_0 o14_1 X_139 O_140 A_141 C_142 B143 x15
      clear oC
      obtain ⟨_, x15_0, x15_1, x15_2, x15_3, x15_4⟩ := id X_146
      obtain ⟨_, o16_0, o16_1⟩ := id O_147
      have T_151 := T_144.on ((Below.refl w15.heap.size w15).alloc (Nat.le_refl _) (.cells #[.int .i64 r2.k, .int .u8 r2.pr, .int .u32 (r2.si : Int), .int .i64 r2.sb, .int .u32 (r2.di : Int), .int .i64 r2.db, .int .u32 (r2.ex : Int), .int .u16 r2.fr, .int .u16 r2.to, .int .u32 (r2.ii : Int), .int .u16 r2.ip] 42))
      clear T_144
      have U_152 := U_145.on ((Below.refl w15.heap.size w15).alloc (Nat.le_refl _) (.cells #[.int .i64 r2.k, .int .u8 r2.pr, .int .u32 (r2.si : Int), .int .i64 r2.sb, .int .u32 (r2.di : Int), .int .i64 r2.db, .int .u32 (r2.ex : Int), .int .u16 r2.fr, .int .u16 r2.to, .int .u32 (r2.ii : Int), .int .u16 r2.ip] 42))
      clear U_145
      have X_153 := X_146.past (o := (.cells #[.int .i64 r2.k, .int .u8 r2.pr, .int .u32 (r2.si : Int), .int .i64 r2.sb, .int .u32 (r2.di : Int), .int .i64 r2.db, .int .u32 (r2.ex : Int), .int .u16 r2.fr, .int .u16 r2.to, .int .u32 (r2.ii : Int), .int .u16 r2.ip] 42))
      have O_154 := O_147.past (o := (.cells #[.int .i64 r2.k, .int .u8 r2.pr, .int .u32 (r2.si : Int), .int .i64 r2.sb, .int .u32 (r2.di : Int), .int .i64 r2.db, .int .u32 (r2.ex : Int), .int .u16 r2.fr, .int .u16 r2.to, .int .u32 (r2.ii : Int), .int .u16 r2.ip] 42))
      have A_155 := A_148.past (o := (.cells #[.int .i64 r2.k, .int .u8 r2.pr, .int .u32 (r2.si : Int), .int .i64 r2.sb, .int .u32 (r2.di : Int), .int .i64 r2.db, .int .u32 (r2.ex : Int), .int .u16 r2.fr, .int .u16 r2.to, .int .u32 (r2.ii : Int), .int .u16 r2.ip] 42))
      have C_156 := C_149.past (o := (.cells #[.int .i64 r2.k, .int .u8 r2.pr, .int .u32 (r2.si : Int), .int .i64 r2.sb, .int .u32 (r2.di : Int), .int .i64 r2.db, .int .u32 (r2.ex : Int), .int .u16 r2.fr, .int .u16 r2.to, .int .u32 (r2.ii : Int), .int .u16 r2.ip] 42))
      have E_157 := Box11.make w15 (.int .i64 r2.k) (.int .u8 r2.pr) (.int .u32 (r2.si : Int)) (.int .i64 r2.sb) (.int .u32 (r2.di : Int)) (.int .i64 r2.db) (.int .u32 (r2.ex : Int)) (.int .u16 r2.fr) (.int .u16 r2.to) (.int .u32 (r2.ii : Int)) (.int .u16 r2.ip) 42
      have B158 := B150.alloc B150.size (.cells #[.int .i64 r2.k, .int .u8 r2.pr, .int .u32 (r2.si : Int), .int .i64 r2.sb, .int .u32 (r2.di : Int), .int .i64 r2.db, .int .u32 (r2.ex : Int), .int .u16 r2.fr, .int .u16 r2.to, .int .u32 (r2.ii : Int), .int .u16 r2.ip] 42)
      clear X_146 O_147 A_148 C_149 B150
      obtain ⟨_, x17_0, x17_1, x17_2, x17_3, x17_4⟩ := id X_153
      obtain ⟨_, o18_0, o18_1⟩ := id O_154
      go_wp2_with fail
      refine (oD _ U_152).mono ?_; rintro e w16 ⟨rfl, x16⟩
      have T_159 := T_151.on x16
      clear T_151
      have U_160 := U_152.on x16
      clear U_152
      have X_161 := X_153.on x16
      have O_162 := O_154.on x16
      have A_163 := A_155.on x16
      have C_164 := C_156.on x16
      have E_165 := E_157.on x16
      have B166 := B158.trans (x16.mono B158.size)
      clear x15_0 x15_1 x15_2 x15_3 x15_4 o16_0 o16_1 x17_0 x17_1 x17_2 x17_3 x17_4 o18_0 o18_1 X_153 O_154 A_155 C_156 E_157 B158 x16
      clear oD
      obtain ⟨_, x19_0, x19_1, x19_2, x19_3, x19_4⟩ := id X_161
      obtain ⟨_, o20_0, o20_1⟩ := id O_162
      have T_167 := T_159.on ((Below.refl w16.heap.size w16).alloc (Nat.le_refl _) (.cells #[.int .i64 r2.k, .int .u8 r2.pr, .int .u32 (r2.si : Int), .int .i64 r2.sb, .int .u32 (r2.di : Int), .int .i64 r2.db, .int .u32 (r2.ex : Int), .int .u16 r2.fr, .int .u16 r2.to, .int .u32 (r2.ii : Int), .int .u16 r2.ip] 42))
      clear T_159
      have U_168 := U_160.on ((Below.refl w16.heap.size w16).alloc (Nat.le_refl _) (.cells #[.int .i64 r2.k, .int .u8 r2.pr, .int .u32 (r2.si : Int), .int .i64 r2.sb, .int .u32 (r2.di : Int), .int .i64 r2.db, .int .u32 (r2.ex : Int), .int .u16 r2.fr, .int .u16 r2.to, .int .u32 (r2.ii : Int), .int .u16 r2.ip] 42))
      clear U_160
      have X_169 := X_161.past (o := (.cells #[.int .i64 r2.k, .int .u8 r2.pr, .int .u32 (r2.si : Int), .int .i64 r2.sb, .int .u32 (r2.di : Int), .int .i64 r2.db, .int .u32 (r2.ex : Int), .int .u16 r2.fr, .int .u16 r2.to, .int .u32 (r2.ii : Int), .int .u16 r2.ip] 42))
      have O_170 := O_162.past (o := (.cells #[.int .i64 r2.k, .int .u8 r2.pr, .int .u32 (r2.si : Int), .int .i64 r2.sb, .int .u32 (r2.di : Int), .int .i64 r2.db, .int .u32 (r2.ex : Int), .int .u16 r2.fr, .int .u16 r2.to, .int .u32 (r2.ii : Int), .int .u16 r2.ip] 42))
      have A_171 := A_163.past (o := (.cells #[.int .i64 r2.k, .int .u8 r2.pr, .int .u32 (r2.si : Int), .int .i64 r2.sb, .int .u32 (r2.di : Int), .int .i64 r2.db, .int .u32 (r2.ex : Int), .int .u16 r2.fr, .int .u16 r2.to, .int .u32 (r2.ii : Int), .int .u16 r2.ip] 42))
      have C_172 := C_164.past (o := (.cells #[.int .i64 r2.k, .int .u8 r2.pr, .int .u32 (r2.si : Int), .int .i64 r2.sb, .int .u32 (r2.di : Int), .int .i64 r2.db, .int .u32 (r2.ex : Int), .int .u16 r2.fr, .int .u16 r2.to, .int .u32 (r2.ii : Int), .int .u16 r2.ip] 42))
      have E_173 := E_165.past (o := (.cells #[.int .i64 r2.k, .int .u8 r2.pr, .int .u32 (r2.si : Int), .int .i64 r2.sb, .int .u32 (r2.di : Int), .int .i64 r2.db, .int .u32 (r2.ex : Int), .int .u16 r2.fr, .int .u16 r2.to, .int .u32 (r2.ii : Int), .int .u16 r2.ip] 42))
      have G_174 := Box11.make w16 (.int .i64 r2.k) (.int .u8 r2.pr) (.int .u32 (r2.si : Int)) (.int .i64 r2.sb) (.int .u32 (r2.di : Int)) (.int .i64 r2.db) (.int .u32 (r2.ex : Int)) (.int .u16 r2.fr) (.int .u16 r2.to) (.int .u32 (r2.ii : Int)) (.int .u16 r2.ip) 42
      have B175 := B166.alloc B166.size (.cells #[.int .i64 r2.k, .int .u8 r2.pr, .int .u32 (r2.si : Int), .int .i64 r2.sb, .int .u32 (r2.di : Int), .int .i64 r2.db, .int .u32 (r2.ex : Int), .int .u16 r2.fr, .int .u16 r2.to, .int .u32 (r2.ii : Int), .int .u16 r2.ip] 42)
      clear X_161 O_162 A_163 C_164 E_165 B166
      obtain ⟨_, x21_0, x21_1, x21_2, x21_3, x21_4⟩ := id X_169
      go_wp2_with fail
      refine (rC _ T_167).mono ?_; rintro e w17 ⟨rfl, x17⟩
      have T_176 := T_167.on x17
      clear T_167
      have U_177 := U_168.on x17
      clear U_168
      have X_178 := X_169.on x17
      have O_179 := O_170.on x17
      have A_180 := A_171.on x17
      have C_181 := C_172.on x17
      have E_182 := E_173.on x17
      have G_183 := G_174.on x17
      have B184 := B175.trans (x17.mono B175.size)
      clear x19_0 x19_1 x19_2 x19_3 x19_4 o20_0 o20_1 x21_0 x21_1 x21_2 x21_3 x21_4 X_169 O_170 A_171 C_172 E_173 G_174 B175 x17
      clear rC
      obtain ⟨_, x22_0, x22_1, x22_2, x22_3, x22_4⟩ := id X_178
      obtain ⟨_, o23_0, o23_1⟩ := id O_179
      have T_185 := T_176.on ((Below.refl w17.heap.size w17).alloc (Nat.le_refl _) (.cells #[.int .i64 r3.k, .int .u8 r3.pr, .int .u32 (r3.si : Int), .int .i64 r3.sb, .int .u32 (r3.di : Int), .int .i64 r3.db, .int .u32 (r3.ex : Int), .int .u16 r3.fr, .int .u16 r3.to, .int .u32 (r3.ii : Int), .int .u16 r3.ip] 42))
      clear T_176
      have U_186 := U_177.on ((Below.refl w17.heap.size w17).alloc (Nat.le_refl _) (.cells #[.int .i64 r3.k, .int .u8 r3.pr, .int .u32 (r3.si : Int), .int .i64 r3.sb, .int .u32 (r3.di : Int), .int .i64 r3.db, .int .u32 (r3.ex : Int), .int .u16 r3.fr, .int .u16 r3.to, .int .u32 (r3.ii : Int), .int .u16 r3.ip] 42))
      clear U_177
      have X_187 := X_178.past (o := (.cells #[.int .i64 r3.k, .int .u8 r3.pr, .int .u32 (r3.si : Int), .int .i64 r3.sb, .int .u32 (r3.di : Int), .int .i64 r3.db, .int .u32 (r3.ex : Int), .int .u16 r3.fr, .int .u16 r3.to, .int .u32 (r3.ii : Int), .int .u16 r3.ip] 42))
      have O_188 := O_179.past (o := (.cells #[.int .i64 r3.k, .int .u8 r3.pr, .int .u32 (r3.si : Int), .int .i64 r3.sb, .int .u32 (r3.di : Int), .int .i64 r3.db, .int .u32 (r3.ex : Int), .int .u16 r3.fr, .int .u16 r3.to, .int .u32 (r3.ii : Int), .int .u16 r3.ip] 42))
      have A_189 := A_180.past (o := (.cells #[.int .i64 r3.k, .int .u8 r3.pr, .int .u32 (r3.si : Int), .int .i64 r3.sb, .int .u32 (r3.di : Int), .int .i64 r3.db, .int .u32 (r3.ex : Int), .int .u16 r3.fr, .int .u16 r3.to, .int .u32 (r3.ii : Int), .int .u16 r3.ip] 42))
      have C_190 := C_181.past (o := (.cells #[.int .i64 r3.k, .int .u8 r3.pr, .int .u32 (r3.si : Int), .int .i64 r3.sb, .int .u32 (r3.di : Int), .int .i64 r3.db, .int .u32 (r3.ex : Int), .int .u16 r3.fr, .int .u16 r3.to, .int .u32 (r3.ii : Int), .int .u16 r3.ip] 42))
      have E_191 := E_182.past (o := (.cells #[.int .i64 r3.k, .int .u8 r3.pr, .int .u32 (r3.si : Int), .int .i64 r3.sb, .int .u32 (r3.di : Int), .int .i64 r3.db, .int .u32 (r3.ex : Int), .int .u16 r3.fr, .int .u16 r3.to, .int .u32 (r3.ii : Int), .int .u16 r3.ip] 42))
      have G_192 := G_183.past (o := (.cells #[.int .i64 r3.k, .int .u8 r3.pr, .int .u32 (r3.si : Int), .int .i64 r3.sb, .int .u32 (r3.di : Int), .int .i64 r3.db, .int .u32 (r3.ex : Int), .int .u16 r3.fr, .int .u16 r3.to, .int .u32 (r3.ii : Int), .int .u16 r3.ip] 42))
      have I_193 := Box11.make w17 (.int .i64 r3.k) (.int .u8 r3.pr) (.int .u32 (r3.si : Int)) (.int .i64 r3.sb) (.int .u32 (r3.di : Int)) (.int .i64 r3.db) (.int .u32 (r3.ex : Int)) (.int .u16 r3.fr) (.int .u16 r3.to) (.int .u32 (r3.ii : Int)) (.int .u16 r3.ip) 42
      have B194 := B184.alloc B184.size (.cells #[.int .i64 r3.k, .int .u8 r3.pr, .int .u32 (r3.si : Int), .int .i64 r3.sb, .int .u32 (r3.di : Int), .int .i64 r3.db, .int .u32 (r3.ex : Int), .int .u16 r3.fr, .int .u16 r3.to, .int .u32 (r3.ii : Int), .int .u16 r3.ip] 42)
      clear X_178 O_179 A_180 C_181 E_182 G_183 B184
      obtain ⟨_, x24_0, x24_1, x24_2, x24_3, x24_4⟩ := id X_187
      go_wp2_with fail
      refine (rD _ U_186).mono ?_; rintro e w18 ⟨rfl, x18⟩
      have T_195 := T_185.on x18
      clear T_185
      have U_196 := U_186.on x18
      clear U_186
      have X_197 := X_187.on x18
      have O_198 := O_188.on x18
      have A_199 := A_189.on x18
      have C_200 := C_190.on x18
      have E_201 := E_191.on x18
      have G_202 := G_192.on x18
      have I_203 := I_193.on x18
      have B204 := B194.trans (x18.mono B194.size)
      clear x22_0 x22_1 x22_2 x22_3 x22_4 o23_0 o23_1 x24_0 x24_1 x24_2 x24_3 x24_4 X_187 O_188 A_189 C_190 E_191 G_192 I_193 B194 x18
      clear rD
      obtain ⟨_, x25_0, x25_1, x25_2, x25_3, x25_4⟩ := id X_197
      obtain ⟨_, o26_0, o26_1⟩ := id O_198
      have T_205 := T_195.on ((Below.refl w18.heap.size w18).alloc (Nat.le_refl _) (.cells #[.int .i64 r3.k, .int .u8 r3.pr, .int .u32 (r3.si : Int), .int .i64 r3.sb, .int .u32 (r3.di : Int), .int .i64 r3.db, .int .u32 (r3.ex : Int), .int .u16 r3.fr, .int .u16 r3.to, .int .u32 (r3.ii : Int), .int .u16 r3.ip] 42))
      clear T_195
      have U_206 := U_196.on ((Below.refl w18.heap.size w18).alloc (Nat.le_refl _) (.cells #[.int .i64 r3.k, .int .u8 r3.pr, .int .u32 (r3.si : Int), .int .i64 r3.sb, .int .u32 (r3.di : Int), .int .i64 r3.db, .int .u32 (r3.ex : Int), .int .u16 r3.fr, .int .u16 r3.to, .int .u32 (r3.ii : Int), .int .u16 r3.ip] 42))
      clear U_196
      have X_207 := X_197.past (o := (.cells #[.int .i64 r3.k, .int .u8 r3.pr, .int .u32 (r3.si : Int), .int .i64 r3.sb, .int .u32 (r3.di : Int), .int .i64 r3.db, .int .u32 (r3.ex : Int), .int .u16 r3.fr, .int .u16 r3.to, .int .u32 (r3.ii : Int), .int .u16 r3.ip] 42))
      have O_208 := O_198.past (o := (.cells #[.int .i64 r3.k, .int .u8 r3.pr, .int .u32 (r3.si : Int), .int .i64 r3.sb, .int .u32 (r3.di : Int), .int .i64 r3.db, .int .u32 (r3.ex : Int), .int .u16 r3.fr, .int .u16 r3.to, .int .u32 (r3.ii : Int), .int .u16 r3.ip] 42))
      have A_209 := A_199.past (o := (.cells #[.int .i64 r3.k, .int .u8 r3.pr, .int .u32 (r3.si : Int), .int .i64 r3.sb, .int .u32 (r3.di : Int), .int .i64 r3.db, .int .u32 (r3.ex : Int), .int .u16 r3.fr, .int .u16 r3.to, .int .u32 (r3.ii : Int), .int .u16 r3.ip] 42))
      have C_210 := C_200.past (o := (.cells #[.int .i64 r3.k, .int .u8 r3.pr, .int .u32 (r3.si : Int), .int .i64 r3.sb, .int .u32 (r3.di : Int), .int .i64 r3.db, .int .u32 (r3.ex : Int), .int .u16 r3.fr, .int .u16 r3.to, .int .u32 (r3.ii : Int), .int .u16 r3.ip] 42))
      have E_211 := E_201.past (o := (.cells #[.int .i64 r3.k, .int .u8 r3.pr, .int .u32 (r3.si : Int), .int .i64 r3.sb, .int .u32 (r3.di : Int), .int .i64 r3.db, .int .u32 (r3.ex : Int), .int .u16 r3.fr, .int .u16 r3.to, .int .u32 (r3.ii : Int), .int .u16 r3.ip] 42))
      have G_212 := G_202.past (o := (.cells #[.int .i64 r3.k, .int .u8 r3.pr, .int .u32 (r3.si : Int), .int .i64 r3.sb, .int .u32 (r3.di : Int), .int .i64 r3.db, .int .u32 (r3.ex : Int), .int .u16 r3.fr, .int .u16 r3.to, .int .u32 (r3.ii : Int), .int .u16 r3.ip] 42))
      have I_213 := I_203.past (o := (.cells #[.int .i64 r3.k, .int .u8 r3.pr, .int .u32 (r3.si : Int), .int .i64 r3.sb, .int .u32 (r3.di : Int), .int .i64 r3.db, .int .u32 (r3.ex : Int), .int .u16 r3.fr, .int .u16 r3.to, .int .u32 (r3.ii : Int), .int .u16 r3.ip] 42))
      have K_214 := Box11.make w18 (.int .i64 r3.k) (.int .u8 r3.pr) (.int .u32 (r3.si : Int)) (.int .i64 r3.sb) (.int .u32 (r3.di : Int)) (.int .i64 r3.db) (.int .u32 (r3.ex : Int)) (.int .u16 r3.fr) (.int .u16 r3.to) (.int .u32 (r3.ii : Int)) (.int .u16 r3.ip) 42
      have B215 := B204.alloc B204.size (.cells #[.int .i64 r3.k, .int .u8 r3.pr, .int .u32 (r3.si : Int), .int .i64 r3.sb, .int .u32 (r3.di : Int), .int .i64 r3.db, .int .u32 (r3.ex : Int), .int .u16 r3.fr, .int .u16 r3.to, .int .u32 (r3.ii : Int), .int .u16 r3.ip] 42)
      clear X_197 O_198 A_199 C_200 E_201 G_202 I_203 B204
      go_upto_region 17 with fail
      clear x25_0 x25_1 x25_2 x25_3 x25_4 o26_0 o26_1
      obtain ⟨u19, hu19⟩ : ∃ x_ : World, x_ = w18.alloc (.cells #[.int .i64 r3.k, .int .u8 r3.pr, .int .u32 (r3.si : Int), .int .i64 r3.sb, .int .u32 (r3.di : Int), .int .i64 r3.db, .int .u32 (r3.ex : Int), .int .u16 r3.fr, .int .u16 r3.to, .int .u32 (r3.ii : Int), .int .u16 r3.ip] 42) := ⟨_, rfl⟩
      rw [← hu19] at X_207 O_208 A_209 C_210 E_211 G_212 I_213 K_214 T_205 U_206 B215 ⊢
      clear hu19
      simp only [List.append_eq, List.cons_append, List.nil_append]
      obtain ⟨zx, gx0, gx1, gx2, gx3, gx4⟩ := id X_207
      have FX0 : ∀ q_ : Later u19.heap.size u19, q_.u.cell? ⟨w11.heap.size, 0, none⟩ = some (.int .u8 xp) := fun q_ => q_.block zx gx0
      have FX1 : ∀ q_ : Later u19.heap.size u19, q_.u.cell? ⟨w11.heap.size, 1, none⟩ = some (.int .u32 (xa : Int)) := fun q_ => q_.block zx gx1
      have FX2 : ∀ q_ : Later u19.heap.size u19, q_.u.cell? ⟨w11.heap.size, 2, none⟩ = some (.int .u16 xm) := fun q_ => q_.block zx gx2
      have FX3 : ∀ q_ : Later u19.heap.size u19, q_.u.cell? ⟨w11.heap.size, 3, none⟩ = some (.int .u32 (xb : Int)) := fun q_ => q_.block zx gx3
      have FX4 : ∀ q_ : Later u19.heap.size u19, q_.u.cell? ⟨w11.heap.size, 4, none⟩ = some (.int .u16 xn) := fun q_ => q_.block zx gx4
      clear gx0 gx1 gx2 gx3 gx4 zx
      obtain ⟨zo, go0, go1⟩ := id O_208
      have FO0 : ∀ q_ : Later u19.heap.size u19, q_.u.cell? ⟨(w11.heap.size + 1), 0, none⟩ = some (.int .u32 (eo : Int)) := fun q_ => q_.block zo go0
      have FO1 : ∀ q_ : Later u19.heap.size u19, q_.u.cell? ⟨(w11.heap.size + 1), 1, none⟩ = some (.int .u16 xn) := fun q_ => q_.block zo go1
      clear go0 go1 zo
      obtain ⟨za, ga0, ga1, ga2, ga3, ga4, ga5, ga6, ga7, ga8, ga9, ga10⟩ := id A_209
      have FA0 : ∀ q_ : Later u19.heap.size u19, q_.u.cell? ⟨w13.heap.size, 0, none⟩ = some (.int .i64 r1.k) := fun q_ => q_.block za ga0
      have FA1 : ∀ q_ : Later u19.heap.size u19, q_.u.cell? ⟨w13.heap.size, 1, none⟩ = some (.int .u8 r1.pr) := fun q_ => q_.block za ga1
      have FA2 : ∀ q_ : Later u19.heap.size u19, q_.u.cell? ⟨w13.heap.size, 2, none⟩ = some (.int .u32 (r1.si : Int)) := fun q_ => q_.block za ga2
      have FA3 : ∀ q_ : Later u19.heap.size u19, q_.u.cell? ⟨w13.heap.size, 3, none⟩ = some (.int .i64 r1.sb) := fun q_ => q_.block za ga3
      have FA4 : ∀ q_ : Later u19.heap.size u19, q_.u.cell? ⟨w13.heap.size, 4, none⟩ = some (.int .u32 (r1.di : Int)) := fun q_ => q_.block za ga4
      have FA5 : ∀ q_ : Later u19.heap.size u19, q_.u.cell? ⟨w13.heap.size, 5, none⟩ = some (.int .i64 r1.db) := fun q_ => q_.block za ga5
      have FA6 : ∀ q_ : Later u19.heap.size u19, q_.u.cell? ⟨w13.heap.size, 6, none⟩ = some (.int .u32 (r1.ex : Int)) := fun q_ => q_.block za ga6
      have FA7 : ∀ q_ : Later u19.heap.size u19, q_.u.cell? ⟨w13.heap.size, 7, none⟩ = some (.int .u16 r1.fr) := fun q_ => q_.block za ga7
      have FA8 : ∀ q_ : Later u19.heap.size u19, q_.u.cell? ⟨w13.heap.size, 8, none⟩ = some (.int .u16 r1.to) := fun q_ => q_.block za ga8
      have FA9 : ∀ q_ : Later u19.heap.size u19, q_.u.cell? ⟨w13.heap.size, 9, none⟩ = some (.int .u32 (r1.ii : Int)) := fun q_ => q_.block za ga9
      have FA10 : ∀ q_ : Later u19.heap.size u19, q_.u.cell? ⟨w13.heap.size, 10, none⟩ = some (.int .u16 r1.ip) := fun q_ => q_.block za ga10
      clear ga0 ga1 ga2 ga3 ga4 ga5 ga6 ga7 ga8 ga9 ga10 za
      obtain ⟨zc, gc0, gc1, gc2, gc3, gc4, gc5, gc6, gc7, gc8, gc9, gc10⟩ := id C_210
      have FC0 : ∀ q_ : Later u19.heap.size u19, q_.u.cell? ⟨w14.heap.size, 0, none⟩ = some (.int .i64 r1.k) := fun q_ => q_.block zc gc0
      have FC1 : ∀ q_ : Later u19.heap.size u19, q_.u.cell? ⟨w14.heap.size, 1, none⟩ = some (.int .u8 r1.pr) := fun q_ => q_.block zc gc1
      have FC2 : ∀ q_ : Later u19.heap.size u19, q_.u.cell? ⟨w14.heap.size, 2, none⟩ = some (.int .u32 (r1.si : Int)) := fun q_ => q_.block zc gc2
      have FC3 : ∀ q_ : Later u19.heap.size u19, q_.u.cell? ⟨w14.heap.size, 3, none⟩ = some (.int .i64 r1.sb) := fun q_ => q_.block zc gc3
      have FC4 : ∀ q_ : Later u19.heap.size u19, q_.u.cell? ⟨w14.heap.size, 4, none⟩ = some (.int .u32 (r1.di : Int)) := fun q_ => q_.block zc gc4
      have FC5 : ∀ q_ : Later u19.heap.size u19, q_.u.cell? ⟨w14.heap.size, 5, none⟩ = some (.int .i64 r1.db) := fun q_ => q_.block zc gc5
      have FC6 : ∀ q_ : Later u19.heap.size u19, q_.u.cell? ⟨w14.heap.size, 6, none⟩ = some (.int .u32 (r1.ex : Int)) := fun q_ => q_.block zc gc6
      have FC7 : ∀ q_ : Later u19.heap.size u19, q_.u.cell? ⟨w14.heap.size, 7, none⟩ = some (.int .u16 r1.fr) := fun q_ => q_.block zc gc7
      have FC8 : ∀ q_ : Later u19.heap.size u19, q_.u.cell? ⟨w14.heap.size, 8, none⟩ = some (.int .u16 r1.to) := fun q_ => q_.block zc gc8
      have FC9 : ∀ q_ : Later u19.heap.size u19, q_.u.cell? ⟨w14.heap.size, 9, none⟩ = some (.int .u32 (r1.ii : Int)) := fun q_ => q_.block zc gc9
      have FC10 : ∀ q_ : Later u19.heap.size u19, q_.u.cell? ⟨w14.heap.size, 10, none⟩ = some (.int .u16 r1.ip) := fun q_ => q_.block zc gc10
      clear gc0 gc1 gc2 gc3 gc4 gc5 gc6 gc7 gc8 gc9 gc10 zc
      obtain ⟨ze, ge0, ge1, ge2, ge3, ge4, ge5, ge6, ge7, ge8, ge9, ge10⟩ := id E_211
      have FE0 : ∀ q_ : Later u19.heap.size u19, q_.u.cell? ⟨w15.heap.size, 0, none⟩ = some (.int .i64 r2.k) := fun q_ => q_.block ze ge0
      have FE1 : ∀ q_ : Later u19.heap.size u19, q_.u.cell? ⟨w15.heap.size, 1, none⟩ = some (.int .u8 r2.pr) := fun q_ => q_.block ze ge1
      have FE2 : ∀ q_ : Later u19.heap.size u19, q_.u.cell? ⟨w15.heap.size, 2, none⟩ = some (.int .u32 (r2.si : Int)) := fun q_ => q_.block ze ge2
      have FE3 : ∀ q_ : Later u19.heap.size u19, q_.u.cell? ⟨w15.heap.size, 3, none⟩ = some (.int .i64 r2.sb) := fun q_ => q_.block ze ge3
      have FE4 : ∀ q_ : Later u19.heap.size u19, q_.u.cell? ⟨w15.heap.size, 4, none⟩ = some (.int .u32 (r2.di : Int)) := fun q_ => q_.block ze ge4
      have FE5 : ∀ q_ : Later u19.heap.size u19, q_.u.cell? ⟨w15.heap.size, 5, none⟩ = some (.int .i64 r2.db) := fun q_ => q_.block ze ge5
      have FE6 : ∀ q_ : Later u19.heap.size u19, q_.u.cell? ⟨w15.heap.size, 6, none⟩ = some (.int .u32 (r2.ex : Int)) := fun q_ => q_.block ze ge6
      have FE7 : ∀ q_ : Later u19.heap.size u19, q_.u.cell? ⟨w15.heap.size, 7, none⟩ = some (.int .u16 r2.fr) := fun q_ => q_.block ze ge7
      have FE8 : ∀ q_ : Later u19.heap.size u19, q_.u.cell? ⟨w15.heap.size, 8, none⟩ = some (.int .u16 r2.to) := fun q_ => q_.block ze ge8
      have FE9 : ∀ q_ : Later u19.heap.size u19, q_.u.cell? ⟨w15.heap.size, 9, none⟩ = some (.int .u32 (r2.ii : Int)) := fun q_ => q_.block ze ge9
      have FE10 : ∀ q_ : Later u19.heap.size u19, q_.u.cell? ⟨w15.heap.size, 10, none⟩ = some (.int .u16 r2.ip) := fun q_ => q_.block ze ge10
      clear ge0 ge1 ge2 ge3 ge4 ge5 ge6 ge7 ge8 ge9 ge10 ze
      obtain ⟨zg, gg0, gg1, gg2, gg3, gg4, gg5, gg6, gg7, gg8, gg9, gg10⟩ := id G_212
      have FG0 : ∀ q_ : Later u19.heap.size u19, q_.u.cell? ⟨w16.heap.size, 0, none⟩ = some (.int .i64 r2.k) := fun q_ => q_.block zg gg0
      have FG1 : ∀ q_ : Later u19.heap.size u19, q_.u.cell? ⟨w16.heap.size, 1, none⟩ = some (.int .u8 r2.pr) := fun q_ => q_.block zg gg1
      have FG2 : ∀ q_ : Later u19.heap.size u19, q_.u.cell? ⟨w16.heap.size, 2, none⟩ = some (.int .u32 (r2.si : Int)) := fun q_ => q_.block zg gg2
      have FG3 : ∀ q_ : Later u19.heap.size u19, q_.u.cell? ⟨w16.heap.size, 3, none⟩ = some (.int .i64 r2.sb) := fun q_ => q_.block zg gg3
      have FG4 : ∀ q_ : Later u19.heap.size u19, q_.u.cell? ⟨w16.heap.size, 4, none⟩ = some (.int .u32 (r2.di : Int)) := fun q_ => q_.block zg gg4
      have FG5 : ∀ q_ : Later u19.heap.size u19, q_.u.cell? ⟨w16.heap.size, 5, none⟩ = some (.int .i64 r2.db) := fun q_ => q_.block zg gg5
      have FG6 : ∀ q_ : Later u19.heap.size u19, q_.u.cell? ⟨w16.heap.size, 6, none⟩ = some (.int .u32 (r2.ex : Int)) := fun q_ => q_.block zg gg6
      have FG7 : ∀ q_ : Later u19.heap.size u19, q_.u.cell? ⟨w16.heap.size, 7, none⟩ = some (.int .u16 r2.fr) := fun q_ => q_.block zg gg7
      have FG8 : ∀ q_ : Later u19.heap.size u19, q_.u.cell? ⟨w16.heap.size, 8, none⟩ = some (.int .u16 r2.to) := fun q_ => q_.block zg gg8
      have FG9 : ∀ q_ : Later u19.heap.size u19, q_.u.cell? ⟨w16.heap.size, 9, none⟩ = some (.int .u32 (r2.ii : Int)) := fun q_ => q_.block zg gg9
      have FG10 : ∀ q_ : Later u19.heap.size u19, q_.u.cell? ⟨w16.heap.size, 10, none⟩ = some (.int .u16 r2.ip) := fun q_ => q_.block zg gg10
      clear gg0 gg1 gg2 gg3 gg4 gg5 gg6 gg7 gg8 gg9 gg10 zg
      obtain ⟨zi, gi0, gi1, gi2, gi3, gi4, gi5, gi6, gi7, gi8, gi9, gi10⟩ := id I_213
      have FI0 : ∀ q_ : Later u19.heap.size u19, q_.u.cell? ⟨w17.heap.size, 0, none⟩ = some (.int .i64 r3.k) := fun q_ => q_.block zi gi0
      have FI1 : ∀ q_ : Later u19.heap.size u19, q_.u.cell? ⟨w17.heap.size, 1, none⟩ = some (.int .u8 r3.pr) := fun q_ => q_.block zi gi1
      have FI2 : ∀ q_ : Later u19.heap.size u19, q_.u.cell? ⟨w17.heap.size, 2, none⟩ = some (.int .u32 (r3.si : Int)) := fun q_ => q_.block zi gi2
      have FI3 : ∀ q_ : Later u19.heap.size u19, q_.u.cell? ⟨w17.heap.size, 3, none⟩ = some (.int .i64 r3.sb) := fun q_ => q_.block zi gi3
      have FI4 : ∀ q_ : Later u19.heap.size u19, q_.u.cell? ⟨w17.heap.size, 4, none⟩ = some (.int .u32 (r3.di : Int)) := fun q_ => q_.block zi gi4
      have FI5 : ∀ q_ : Later u19.heap.size u19, q_.u.cell? ⟨w17.heap.size, 5, none⟩ = some (.int .i64 r3.db) := fun q_ => q_.block zi gi5
      have FI6 : ∀ q_ : Later u19.heap.size u19, q_.u.cell? ⟨w17.heap.size, 6, none⟩ = some (.int .u32 (r3.ex : Int)) := fun q_ => q_.block zi gi6
      have FI7 : ∀ q_ : Later u19.heap.size u19, q_.u.cell? ⟨w17.heap.size, 7, none⟩ = some (.int .u16 r3.fr) := fun q_ => q_.block zi gi7
      have FI8 : ∀ q_ : Later u19.heap.size u19, q_.u.cell? ⟨w17.heap.size, 8, none⟩ = some (.int .u16 r3.to) := fun q_ => q_.block zi gi8
      have FI9 : ∀ q_ : Later u19.heap.size u19, q_.u.cell? ⟨w17.heap.size, 9, none⟩ = some (.int .u32 (r3.ii : Int)) := fun q_ => q_.block zi gi9
      have FI10 : ∀ q_ : Later u19.heap.size u19, q_.u.cell? ⟨w17.heap.size, 10, none⟩ = some (.int .u16 r3.ip) := fun q_ => q_.block zi gi10
      clear gi0 gi1 gi2 gi3 gi4 gi5 gi6 gi7 gi8 gi9 gi10 zi
      obtain ⟨zk, gk0, gk1, gk2, gk3, gk4, gk5, gk6, gk7, gk8, gk9, gk10⟩ := id K_214
      have FK0 : ∀ q_ : Later u19.heap.size u19, q_.u.cell? ⟨w18.heap.size, 0, none⟩ = some (.int .i64 r3.k) := fun q_ => q_.block zk gk0
      have FK1 : ∀ q_ : Later u19.heap.size u19, q_.u.cell? ⟨w18.heap.size, 1, none⟩ = some (.int .u8 r3.pr) := fun q_ => q_.block zk gk1
      have FK2 : ∀ q_ : Later u19.heap.size u19, q_.u.cell? ⟨w18.heap.size, 2, none⟩ = some (.int .u32 (r3.si : Int)) := fun q_ => q_.block zk gk2
      have FK3 : ∀ q_ : Later u19.heap.size u19, q_.u.cell? ⟨w18.heap.size, 3, none⟩ = some (.int .i64 r3.sb) := fun q_ => q_.block zk gk3
      have FK4 : ∀ q_ : Later u19.heap.size u19, q_.u.cell? ⟨w18.heap.size, 4, none⟩ = some (.int .u32 (r3.di : Int)) := fun q_ => q_.block zk gk4
      have FK5 : ∀ q_ : Later u19.heap.size u19, q_.u.cell? ⟨w18.heap.size, 5, none⟩ = some (.int .i64 r3.db) := fun q_ => q_.block zk gk5
      have FK6 : ∀ q_ : Later u19.heap.size u19, q_.u.cell? ⟨w18.heap.size, 6, none⟩ = some (.int .u32 (r3.ex : Int)) := fun q_ => q_.block zk gk6
      have FK7 : ∀ q_ : Later u19.heap.size u19, q_.u.cell? ⟨w18.heap.size, 7, none⟩ = some (.int .u16 r3.fr) := fun q_ => q_.block zk gk7
      have FK8 : ∀ q_ : Later u19.heap.size u19, q_.u.cell? ⟨w18.heap.size, 8, none⟩ = some (.int .u16 r3.to) := fun q_ => q_.block zk gk8
      have FK9 : ∀ q_ : Later u19.heap.size u19, q_.u.cell? ⟨w18.heap.size, 9, none⟩ = some (.int .u32 (r3.ii : Int)) := fun q_ => q_.block zk gk9
      have FK10 : ∀ q_ : Later u19.heap.size u19, q_.u.cell? ⟨w18.heap.size, 10, none⟩ = some (.int .u16 r3.ip) := fun q_ => q_.block zk gk10
      clear gk0 gk1 gk2 gk3 gk4 gk5 gk6 gk7 gk8 gk9 gk10 zk
      refine region_later (B := u19.heap.size) (by kernel_rfl) (by kernel_rfl) ?_
      repeat (go_big_quiet_step (first
        | (go_at_call 25; exact later_of _ (Nat.le_refl _) (uC _ (T_205.on (Later.h _))))
        | (go_at_call 26; exact later_of _ (Nat.le_refl _) (uD _ (U_206.on (Later.h _))))
        | (go_at_call_of 23 (xa : Int); exact later_of _ (Nat.le_refl _) (jC _ (T_205.on (Later.h _))))
        | (go_at_call_of 24 (xa : Int); exact later_of _ (Nat.le_refl _) (jD _ (U_206.on (Later.h _))))
        | (go_at_call_of 23 (eo : Int); exact later_of _ (Nat.le_refl _) (mC _ (T_205.on (Later.h _))))
        | (go_at_call_of 24 (eo : Int); exact later_of _ (Nat.le_refl _) (mD _ (U_206.on (Later.h _))))))
      refine later_end fun w40 x40 => ?_
      clear FX0 FX1 FX2 FX3 FX4 FO0 FO1 FA0 FA1 FA2 FA3 FA4 FA5 FA6 FA7 FA8 FA9 FA10 FC0 FC1 FC2 FC3 FC4 FC5 FC6 FC7 FC8 FC9 FC10 FE0 FE1 FE2 FE3 FE4 FE5 FE6 FE7 FE8 FE9 FE10 FG0 FG1 FG2 FG3 FG4 FG5 FG6 FG7 FG8 FG9 FG10 FI0 FI1 FI2 FI3 FI4 FI5 FI6 FI7 FI8 FI9 FI10 FK0 FK1 FK2 FK3 FK4 FK5 FK6 FK7 FK8 FK9 FK10
      have BZ := B215.trans (x40.mono B215.size)
      go_wp2
      go_ret
      exact ⟨rfl, BZ⟩
    have HI := Lib.hid hlt
    have e10 : decide ((i : Int) < (n : Int)) = true := by simp; omega
    have e11 : decide (i < n) = true := by simp; omega
    have e12 : (i : Int) < (n : Int) := by omega
    have hl2 : Hid (i < t.rs.length) := by show _ < _; rw [Hn.out]; exact hlt
    obtain ⟨r, hr⟩ : ∃ r, r = t.rs.getD i Ru.zero := ⟨_, rfl⟩
    have HR := Lib.hid hr
    obtain ⟨b9, rfl, hb9⟩ : ∃ b, a9 = some ⟨b, 0, none⟩ ∧ b < w1.heap.size := by
      rcases R9.out with h | ⟨b, h1, h2, _⟩
      · have := hl2.out; omega
      · exact ⟨b, h1, h2⟩
    obtain ⟨b8, rfl, hb8⟩ : ∃ b, a8 = some ⟨b, 0, none⟩ ∧ b < w1.heap.size := by
      rcases R8.out with h | ⟨b, h1, h2, _⟩
      · have := hl2.out; omega
      · exact ⟨b, h1, h2⟩
    have ca := cells_at R9.out hl2 HR bb
    have cb := cells_at R8.out hl2 HR bb
    have cq := BX.out.on bb
    have l9 : b9 < wr.heap.size := Nat.lt_of_lt_of_le hb9 bb.size
    have l8 : b8 < wr.heap.size := Nat.lt_of_lt_of_le hb8 bb.size
    clear hr hi hlt fw sC sD oC oD rC rD uC uD jC jD mC mD hb9 hb8
    go_upto_region 7 with fail
    obtain ⟨ga0_, ga1_, ga2_, ga3_, ga4_, ga5_, ga6_, ga7_, ga8_, ga9_, ga10_⟩ := ca
    have GA0 : ∀ q_ : Later wr.heap.size wr, q_.u.cell? ⟨b9, i * 11, none⟩ = some (.int .i64 r.k) := fun q_ => q_.block l9 ga0_
    have GA1 : ∀ q_ : Later wr.heap.size wr, q_.u.cell? ⟨b9, i * 11 + 1, none⟩ = some (.int .u8 r.pr) := fun q_ => q_.block l9 ga1_
    have GA2 : ∀ q_ : Later wr.heap.size wr, q_.u.cell? ⟨b9, i * 11 + 2, none⟩ = some (.int .u32 (r.si : Int)) := fun q_ => q_.block l9 ga2_
    have GA3 : ∀ q_ : Later wr.heap.size wr, q_.u.cell? ⟨b9, i * 11 + 3, none⟩ = some (.int .i64 r.sb) := fun q_ => q_.block l9 ga3_
    have GA4 : ∀ q_ : Later wr.heap.size wr, q_.u.cell? ⟨b9, i * 11 + 4, none⟩ = some (.int .u32 (r.di : Int)) := fun q_ => q_.block l9 ga4_
    have GA5 : ∀ q_ : Later wr.heap.size wr, q_.u.cell? ⟨b9, i * 11 + 5, none⟩ = some (.int .i64 r.db) := fun q_ => q_.block l9 ga5_
    have GA6 : ∀ q_ : Later wr.heap.size wr, q_.u.cell? ⟨b9, i * 11 + 6, none⟩ = some (.int .u32 (r.ex : Int)) := fun q_ => q_.block l9 ga6_
    have GA7 : ∀ q_ : Later wr.heap.size wr, q_.u.cell? ⟨b9, i * 11 + 7, none⟩ = some (.int .u16 r.fr) := fun q_ => q_.block l9 ga7_
    have GA8 : ∀ q_ : Later wr.heap.size wr, q_.u.cell? ⟨b9, i * 11 + 8, none⟩ = some (.int .u16 r.to) := fun q_ => q_.block l9 ga8_
    have GA9 : ∀ q_ : Later wr.heap.size wr, q_.u.cell? ⟨b9, i * 11 + 9, none⟩ = some (.int .u32 (r.ii : Int)) := fun q_ => q_.block l9 ga9_
    have GA10 : ∀ q_ : Later wr.heap.size wr, q_.u.cell? ⟨b9, i * 11 + 10, none⟩ = some (.int .u16 r.ip) := fun q_ => q_.block l9 ga10_
    clear ga0_ ga1_ ga2_ ga3_ ga4_ ga5_ ga6_ ga7_ ga8_ ga9_ ga10_
    obtain ⟨gb0_, gb1_, gb2_, gb3_, gb4_, gb5_, gb6_, gb7_, gb8_, gb9_, gb10_⟩ := cb
    have GB0 : ∀ q_ : Later wr.heap.size wr, q_.u.cell? ⟨b8, i * 11, none⟩ = some (.int .i64 r.k) := fun q_ => q_.block l8 gb0_
    have GB1 : ∀ q_ : Later wr.heap.size wr, q_.u.cell? ⟨b8, i * 11 + 1, none⟩ = some (.int .u8 r.pr) := fun q_ => q_.block l8 gb1_
    have GB2 : ∀ q_ : Later wr.heap.size wr, q_.u.cell? ⟨b8, i * 11 + 2, none⟩ = some (.int .u32 (r.si : Int)) := fun q_ => q_.block l8 gb2_
    have GB3 : ∀ q_ : Later wr.heap.size wr, q_.u.cell? ⟨b8, i * 11 + 3, none⟩ = some (.int .i64 r.sb) := fun q_ => q_.block l8 gb3_
    have GB4 : ∀ q_ : Later wr.heap.size wr, q_.u.cell? ⟨b8, i * 11 + 4, none⟩ = some (.int .u32 (r.di : Int)) := fun q_ => q_.block l8 gb4_
    have GB5 : ∀ q_ : Later wr.heap.size wr, q_.u.cell? ⟨b8, i * 11 + 5, none⟩ = some (.int .i64 r.db) := fun q_ => q_.block l8 gb5_
    have GB6 : ∀ q_ : Later wr.heap.size wr, q_.u.cell? ⟨b8, i * 11 + 6, none⟩ = some (.int .u32 (r.ex : Int)) := fun q_ => q_.block l8 gb6_
    have GB7 : ∀ q_ : Later wr.heap.size wr, q_.u.cell? ⟨b8, i * 11 + 7, none⟩ = some (.int .u16 r.fr) := fun q_ => q_.block l8 gb7_
    have GB8 : ∀ q_ : Later wr.heap.size wr, q_.u.cell? ⟨b8, i * 11 + 8, none⟩ = some (.int .u16 r.to) := fun q_ => q_.block l8 gb8_
    have GB9 : ∀ q_ : Later wr.heap.size wr, q_.u.cell? ⟨b8, i * 11 + 9, none⟩ = some (.int .u32 (r.ii : Int)) := fun q_ => q_.block l8 gb9_
    have GB10 : ∀ q_ : Later wr.heap.size wr, q_.u.cell? ⟨b8, i * 11 + 10, none⟩ = some (.int .u16 r.ip) := fun q_ => q_.block l8 gb10_
    clear gb0_ gb1_ gb2_ gb3_ gb4_ gb5_ gb6_ gb7_ gb8_ gb9_ gb10_
    obtain ⟨lq, _, _, _, q3_⟩ := cq
    have FQ3 : ∀ q_ : Later wr.heap.size wr, q_.u.cell? ⟨q, 3, none⟩ = some (.slice (some ⟨b8, 0, none⟩) n c8) := fun q_ => q_.block lq q3_
    refine region_later (B := wr.heap.size) (by kernel_rfl) (by kernel_rfl) ?_
    repeat (go_big_quiet_step (fail))
    refine later_end fun w80 x80 => ?_
    clear GA0 GA1 GA2 GA3 GA4 GA5 GA6 GA7 GA8 GA9 GA10 GB0 GB1 GB2 GB3 GB4 GB5 GB6 GB7 GB8 GB9 GB10 FQ3
    have BJ := bb.trans (x80.mono bb.size)
    clear bb x80
    go_wp2_with fail
    go_roundw
    case rel => exact ⟨i + 1, HI.out, by go_num, BJ⟩
    case measure => have := HI.out; simp [intOf]; omega
end Go.Proofs.Ytoogegpkgohffaa
