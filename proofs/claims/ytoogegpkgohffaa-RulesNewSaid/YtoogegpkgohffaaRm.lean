/- Texts of this proof, together: RulesNew, RulIn, RulesNewW. -/
import Derived.Test.YtoogegpkgohffaaRf
import Derived.Test.YtoogegpkgohffaaRe
import Derived.Test.YtoogegpkgohffaaRa
import Derived.WalkKit
import Derived.ProofKit
import Derived.OpenShut
import Derived.ShutString
import Derived.Below
namespace Go.Proofs.Ytoogegpkgohffaa
set_option linter.unusedVariables false
set_option linter.unusedSimpArgs false
open Go.ChangeShapes Go.WideShapes Go.ChangeAt Go.RowKit Go.PlainAid
attribute [local go_sem ↓] Go.wp_at_zero Go.wp_at_succ
namespace RulesNew
set_option maxHeartbeats 16000000 in
set_option maxRecDepth 100000 in
theorem walk (o ip : Nat) (bits : Int) (r : Ru) (w : World) (ho : o < 4294967296) (hi : ip < 4294967296) (hb : -9223372036854775808 ≤ bits ∧ bits ≤ 9223372036854775807) (hr : r.Ok) :
    Calls Try.prog 4 #[.int .u32 (o : Int), .agg #[.int .u32 (ip : Int), .int .i64 bits], .agg #[.int .i64 r.k, .int .u8 r.pr, .int .u32 (r.si : Int), .int .i64 r.sb, .int .u32 (r.di : Int), .int .i64 r.db, .int .u32 (r.ex : Int), .int .u16 r.fr, .int .u16 r.to, .int .u32 (r.ii : Int), .int .u16 r.ip]] w fun e w' => e = .returned (.bool true) ∧ Below w.heap.size w w' := by
  have cn := fun u => newC_ o ip bits u ho hi hb
  have dn := fun u => newD_ o ip bits u ho hi hb
  have rl := fun u => ruled_ u
  by_cases h : ruNewE o ip bits = 0
  rotate_left
  · have cn2 : ∀ u, Calls Try.prog 10 #[.int .u32 (o : Int), .agg #[.int .u32 (ip : Int), .int .i64 bits]] u fun e w' => e = .returned (.tuple #[.pointer none, .int .i64 2]) ∧ Below u.heap.size u w' := fun u => (cn u).mono fun e w' ⟨b, k⟩ => by
      rcases k with ⟨_, e⟩ | ⟨k, _⟩
      · exact ⟨e, b⟩
      · exact absurd k h
    have dn2 : ∀ u, Calls Try.prog 12 #[.int .u32 (o : Int), .agg #[.int .u32 (ip : Int), .int .i64 bits]] u fun e w' => e = .returned (.tuple #[.pointer none, .int .i64 2]) ∧ Below u.heap.size u w' := fun u => (dn u).mono fun e w' ⟨b, k⟩ => by
      rcases k with ⟨_, e⟩ | ⟨k, _⟩
      · exact ⟨e, b⟩
      · exact absurd k h
    clear cn dn h
    go_enter Try.func4, Try.ntmps4
    have B1 := Below.refl w.heap.size w
    go_upto_region 1 with fail
    have P_2 := Box2.make w (.int .u32 (ip : Int)) (.int .i64 bits) 31
    have B3 := B1.alloc B1.size (.cells #[.int .u32 (ip : Int), .int .i64 bits] 31)
    clear B1
    have P_4 := P_2.past (o := (.cells #[.int .i64 r.k, .int .u8 r.pr, .int .u32 (r.si : Int), .int .i64 r.sb, .int .u32 (r.di : Int), .int .i64 r.db, .int .u32 (r.ex : Int), .int .u16 r.fr, .int .u16 r.to, .int .u32 (r.ii : Int), .int .u16 r.ip] 42))
    have hs_ : (w.alloc (.cells #[.int .u32 (ip : Int), .int .i64 bits] 31)).heap.size = w.heap.size + 1 := by simp
    have R_5 := Box11.make (w.alloc (.cells #[.int .u32 (ip : Int), .int .i64 bits] 31)) (.int .i64 r.k) (.int .u8 r.pr) (.int .u32 (r.si : Int)) (.int .i64 r.sb) (.int .u32 (r.di : Int)) (.int .i64 r.db) (.int .u32 (r.ex : Int)) (.int .u16 r.fr) (.int .u16 r.to) (.int .u32 (r.ii : Int)) (.int .u16 r.ip) 42
    rw [hs_] at R_5
    clear hs_
    have B6 := B3.alloc B3.size (.cells #[.int .i64 r.k, .int .u8 r.pr, .int .u32 (r.si : Int), .int .i64 r.sb, .int .u32 (r.di : Int), .int .i64 r.db, .int .u32 (r.ex : Int), .int .u16 r.fr, .int .u16 r.to, .int .u32 (r.ii : Int), .int .u16 r.ip] 42)
    clear P_2 B3
    obtain ⟨u1, hu1⟩ : ∃ x_ : World, x_ = (w.alloc (.cells #[.int .u32 (ip : Int), .int .i64 bits] 31)).alloc (.cells #[.int .i64 r.k, .int .u8 r.pr, .int .u32 (r.si : Int), .int .i64 r.sb, .int .u32 (r.di : Int), .int .i64 r.db, .int .u32 (r.ex : Int), .int .u16 r.fr, .int .u16 r.to, .int .u32 (r.ii : Int), .int .u16 r.ip] 42) := ⟨_, rfl⟩
    rw [← hu1] at P_4 R_5 B6 ⊢
    clear hu1
    obtain ⟨_, p1_0, p1_1⟩ := id P_4
    obtain ⟨_, r2_0, r2_1, r2_2, r2_3, r2_4, r2_5, r2_6, r2_7, r2_8, r2_9, r2_10⟩ := id R_5
    go_wp2_with fail
    refine (cn2 _).mono ?_; rintro e w2 ⟨rfl, x2⟩
    have P_7 := P_4.on x2
    have R_8 := R_5.on x2
    have B9 := B6.trans (x2.mono B6.size)
    clear p1_0 p1_1 r2_0 r2_1 r2_2 r2_3 r2_4 r2_5 r2_6 r2_7 r2_8 r2_9 r2_10 P_4 R_5 B6 x2
    obtain ⟨_, p3_0, p3_1⟩ := id P_7
    obtain ⟨_, r4_0, r4_1, r4_2, r4_3, r4_4, r4_5, r4_6, r4_7, r4_8, r4_9, r4_10⟩ := id R_8
    go_wp2_with fail
    refine (dn2 _).mono ?_; rintro e w3 ⟨rfl, x3⟩
    have P_10 := P_7.on x3
    have R_11 := R_8.on x3
    have B12 := B9.trans (x3.mono B9.size)
    clear p3_0 p3_1 r4_0 r4_1 r4_2 r4_3 r4_4 r4_5 r4_6 r4_7 r4_8 r4_9 r4_10 P_7 R_8 B9 x3
    obtain ⟨_, p5_0, p5_1⟩ := id P_10
    obtain ⟨_, r6_0, r6_1, r6_2, r6_3, r6_4, r6_5, r6_6, r6_7, r6_8, r6_9, r6_10⟩ := id R_11
    go_wp2_with fail
    refine (rl _).mono ?_; rintro e w4 ⟨rfl, x4⟩
    have P_13 := P_10.on x4
    have R_14 := R_11.on x4
    have B15 := B12.trans (x4.mono B12.size)
    clear p5_0 p5_1 r6_0 r6_1 r6_2 r6_3 r6_4 r6_5 r6_6 r6_7 r6_8 r6_9 r6_10 P_10 R_11 B12 x4
    obtain ⟨_, r7_0, r7_1, r7_2, r7_3, r7_4, r7_5, r7_6, r7_7, r7_8, r7_9, r7_10⟩ := id R_14
    go_wp2
    go_ret
    exact ⟨rfl, B15⟩
  · have G0 : Tm.Good ⟨o, ip, bits, []⟩ := ⟨ho, hi, hb, by simp, by simp⟩
    have hf : hasV ip bits o = false := by
      unfold ruNewE at h
      split at h
      · omega
      · rename_i k
        cases e : hasV ip bits o with
        | false => rfl
        | true => exact absurd (.inr e) k
    have cn2 : ∀ u, Calls Try.prog 10 #[.int .u32 (o : Int), .agg #[.int .u32 (ip : Int), .int .i64 bits]] u fun e w' => ∃ p, e = .returned (.tuple #[.pointer (some ⟨p, 0, none⟩), .int .i64 0]) ∧ TabC w' u.heap.size p (.slice none 0 0) ⟨o, ip, bits, []⟩ ∧ Below u.heap.size u w' := fun u => (cn u).mono fun e w' ⟨b, k⟩ => by
      rcases k with ⟨k, _⟩ | ⟨_, p, e, T⟩
      · rw [h] at k; cases k
      · exact ⟨p, e, T, b⟩
    have dn2 : ∀ u, Calls Try.prog 12 #[.int .u32 (o : Int), .agg #[.int .u32 (ip : Int), .int .i64 bits]] u fun e w' => ∃ p, e = .returned (.tuple #[.pointer (some ⟨p, 0, none⟩), .int .i64 0]) ∧ TabD w' u.heap.size p (.slice none 0 0) ⟨o, ip, bits, []⟩ ∧ Below u.heap.size u w' := fun u => (dn u).mono fun e w' ⟨b, k⟩ => by
      rcases k with ⟨k, _⟩ | ⟨_, p, e, T⟩
      · rw [h] at k; cases k
      · exact ⟨p, e, T, b⟩
    clear cn dn h
    obtain ⟨t0, ht0⟩ : ∃ t : Tm, t = ⟨o, ip, bits, []⟩ := ⟨_, rfl⟩
    have eo : Hid (t0.own = o) := by rw [ht0]; rfl
    have ei : innerB t0 o = false := by rw [ht0]; exact hf
    rw [← ht0] at cn2 dn2 G0
    clear ht0 hf hb
    obtain ⟨t1, ht1⟩ : ∃ t, t = ruAddT t0 0 r := ⟨_, rfl⟩
    have G1 : t1.Good := by rw [ht1]; exact G0.add hr
    have KC : ∀ (B p : Nat) (v : Value) (u : World) (H : TabC u B p v t0), _ := fun B p v u H => checC_ t0 B p v u H G0 r hr
    have KD : ∀ (B p : Nat) (v : Value) (u : World) (H : TabD u B p v t0), _ := fun B p v u H => checD_ t0 B p v u H G0 r hr
    have AC : ∀ (B p : Nat) (v : Value) (u : World) (H : TabC u B p v t0), _ := fun B p v u H => addC_n t0 B p v u H G0 0 r hr (by omega) (by omega)
    have AD : ∀ (B p : Nat) (v : Value) (u : World) (H : TabD u B p v t0), _ := fun B p v u H => addD_n t0 B p v u H G0 0 r hr (by omega) (by omega)
    have IC : ∀ (a : Nat) (h : a < 4294967296) (B p : Nat) (v : Value) (u : World) (H : TabC u B p v t1), _ := fun a h B p v u H => inneC_ t1 B p v u H G1 a h
    have ID : ∀ (a : Nat) (h : a < 4294967296) (B p : Nat) (v : Value) (u : World) (H : TabD u B p v t1), _ := fun a h B p v u H => inneD_ t1 B p v u H G1 a h
    have OC : ∀ (a : Nat) (B p : Nat) (v : Value) (u : World) (H : TabC u B p v t1), _ := fun a B p v u H => outeC_ t1 B p v u H G1 a
    have OD : ∀ (a : Nat) (B p : Nat) (v : Value) (u : World) (H : TabD u B p v t1), _ := fun a B p v u H => outeD_ t1 B p v u H G1 a
    have oo : outerB t1 o = true := by rw [ht1, ← eo.out]; exact outer_own _ _ _
    have io : innerB t1 o = false := by rw [ht1, inner_add]; exact ei
    rw [← ht1] at AC AD
    have IC1 := IC r.ex hr.ex1
    have IC2 := IC r.ii hr.ii1
    have IC3 := IC o ho
    have ID1 := ID r.ex hr.ex1
    have ID2 := ID r.ii hr.ii1
    have OC1 := OC r.ex
    have OC2 := OC o
    have OD1 := OD r.ex
    rw [oo] at OC2
    rw [io] at IC3
    generalize ruCheckE t0 r = k1 at *
    generalize ruAddE t0 0 r = k2 at *
    generalize innerB t1 r.ex = b1 at *
    generalize innerB t1 r.ii = b2 at *
    generalize outerB t1 r.ex = b3 at *
    clear IC ID OC OD oo io ht1 ei G0 G1 hr ho hi
    go_enter Try.func4, Try.ntmps4
    have B1 := Below.refl w.heap.size w
    go_upto_region 1 with fail
    have P_2 := Box2.make w (.int .u32 (ip : Int)) (.int .i64 bits) 31
    have B3 := B1.alloc B1.size (.cells #[.int .u32 (ip : Int), .int .i64 bits] 31)
    clear B1
    have P_4 := P_2.past (o := (.cells #[.int .i64 r.k, .int .u8 r.pr, .int .u32 (r.si : Int), .int .i64 r.sb, .int .u32 (r.di : Int), .int .i64 r.db, .int .u32 (r.ex : Int), .int .u16 r.fr, .int .u16 r.to, .int .u32 (r.ii : Int), .int .u16 r.ip] 42))
    have hs_ : (w.alloc (.cells #[.int .u32 (ip : Int), .int .i64 bits] 31)).heap.size = w.heap.size + 1 := by simp
    have R_5 := Box11.make (w.alloc (.cells #[.int .u32 (ip : Int), .int .i64 bits] 31)) (.int .i64 r.k) (.int .u8 r.pr) (.int .u32 (r.si : Int)) (.int .i64 r.sb) (.int .u32 (r.di : Int)) (.int .i64 r.db) (.int .u32 (r.ex : Int)) (.int .u16 r.fr) (.int .u16 r.to) (.int .u32 (r.ii : Int)) (.int .u16 r.ip) 42
    rw [hs_] at R_5
    clear hs_
    have B6 := B3.alloc B3.size (.cells #[.int .i64 r.k, .int .u8 r.pr, .int .u32 (r.si : Int), .int .i64 r.sb, .int .u32 (r.di : Int), .int .i64 r.db, .int .u32 (r.ex : Int), .int .u16 r.fr, .int .u16 r.to, .int .u32 (r.ii : Int), .int .u16 r.ip] 42)
    clear P_2 B3
    obtain ⟨u1, hu1⟩ : ∃ x_ : World, x_ = (w.alloc (.cells #[.int .u32 (ip : Int), .int .i64 bits] 31)).alloc (.cells #[.int .i64 r.k, .int .u8 r.pr, .int .u32 (r.si : Int), .int .i64 r.sb, .int .u32 (r.di : Int), .int .i64 r.db, .int .u32 (r.ex : Int), .int .u16 r.fr, .int .u16 r.to, .int .u32 (r.ii : Int), .int .u16 r.ip] 42) := ⟨_, rfl⟩
    rw [← hu1] at P_4 R_5 B6 ⊢
    clear hu1
    have rz1 := Lib.hid R_5.1
    obtain ⟨_, p1_0, p1_1⟩ := id P_4
    obtain ⟨_, r2_0, r2_1, r2_2, r2_3, r2_4, r2_5, r2_6, r2_7, r2_8, r2_9, r2_10⟩ := id R_5
    go_wp2_with fail
    refine (cn2 _).mono ?_; rintro e w2 ⟨p, rfl, T0, x2⟩
    have hbT := B6.size
    have hx := x2
    have P_7 := P_4.on hx
    have R_8 := R_5.on hx
    have B9 := B6.trans (hx.mono B6.size)
    clear p1_0 p1_1 r2_0 r2_1 r2_2 r2_3 r2_4 r2_5 r2_6 r2_7 r2_8 r2_9 r2_10 P_4 R_5 B6 hx
    clear x2
    have rz2 := Lib.hid R_8.1
    have nfRT0 : ¬ footC p (.slice none 0 0) (w.heap.size + 1) := fun h => by have := T0.ge _ h; have := rz1.out; omega
    obtain ⟨_, p3_0, p3_1⟩ := id P_7
    obtain ⟨_, r4_0, r4_1, r4_2, r4_3, r4_4, r4_5, r4_6, r4_7, r4_8, r4_9, r4_10⟩ := id R_8
    go_wp2_with fail
    refine (dn2 _).mono ?_; rintro e w3 ⟨q, rfl, U0, x3⟩
    have hbU := B9.size
    have ap0 : Apart p (.slice none 0 0) q (.slice none 0 0) := Apart.of T0.lt U0.ge
    have hx := x3
    have T_10 := T0.on hx
    clear T0
    have P_11 := P_7.on hx
    have R_12 := R_8.on hx
    have B13 := B9.trans (hx.mono B9.size)
    clear p3_0 p3_1 r4_0 r4_1 r4_2 r4_3 r4_4 r4_5 r4_6 r4_7 r4_8 r4_9 r4_10 P_7 R_8 B9 hx
    clear x3
    have nfRU0 : ¬ footC q (.slice none 0 0) (w.heap.size + 1) := fun h => by have := U0.ge _ h; have := rz2.out; omega
    clear P_11
    obtain ⟨_, r5_0, r5_1, r5_2, r5_3, r5_4, r5_5, r5_6, r5_7, r5_8, r5_9, r5_10⟩ := id R_12
    go_upto_region 7 with fail
    clear r5_0 r5_1 r5_2 r5_3 r5_4 r5_5 r5_6 r5_7 r5_8 r5_9 r5_10
    simp only [List.append_eq, List.cons_append, List.nil_append]
    refine wp_region_held_drew (S := (fun w' => w'.cell? ⟨w.heap.size + 1, 0, none⟩ = some (.int .i64 r.k) ∧ w'.cell? ⟨w.heap.size + 1, 1, none⟩ = some (.int .u8 r.pr) ∧ w'.cell? ⟨w.heap.size + 1, 2, none⟩ = some (.int .u32 (r.si : Int)) ∧ w'.cell? ⟨w.heap.size + 1, 3, none⟩ = some (.int .i64 r.sb) ∧ w'.cell? ⟨w.heap.size + 1, 4, none⟩ = some (.int .u32 (r.di : Int)) ∧ w'.cell? ⟨w.heap.size + 1, 5, none⟩ = some (.int .i64 r.db) ∧ w'.cell? ⟨w.heap.size + 1, 6, none⟩ = some (.int .u32 (r.ex : Int)) ∧ w'.cell? ⟨w.heap.size + 1, 7, none⟩ = some (.int .u16 r.fr) ∧ w'.cell? ⟨w.heap.size + 1, 8, none⟩ = some (.int .u16 r.to) ∧ w'.cell? ⟨w.heap.size + 1, 9, none⟩ = some (.int .u32 (r.ii : Int)) ∧ w'.cell? ⟨w.heap.size + 1, 10, none⟩ = some (.int .u16 r.ip))) (by kernel_rfl) ?_ (fun hHeld => ?_)
    · exact ⟨R_12.2.1, R_12.2.2.1, R_12.2.2.2.1, R_12.2.2.2.2.1, R_12.2.2.2.2.2.1, R_12.2.2.2.2.2.2.1, R_12.2.2.2.2.2.2.2.1, R_12.2.2.2.2.2.2.2.2.1, R_12.2.2.2.2.2.2.2.2.2.1, R_12.2.2.2.2.2.2.2.2.2.2.1, R_12.2.2.2.2.2.2.2.2.2.2.2⟩
    have T_14 := T_10.drew
    clear T_10
    have U_15 := U0.drew
    clear U0
    have R_16 := R_12.on ((Below.refl _ _).drew)
    have B17 := B13.drew
    clear R_12 B13
    obtain ⟨u4, hu4⟩ : ∃ x_ : World, x_ = w3.drew := ⟨_, rfl⟩
    rw [← hu4] at R_16 T_14 U_15 B17 hHeld ⊢
    clear hu4
    refine wpAnyH_take (i := 0) (oi := _) (v := ?_) rfl (by kernel_rfl) (by kernel_rfl) (by kernel_rfl) (fun _ _ _ h => h) (Or.inl ⟨by kernel_rfl, ?_⟩) (by assumption) ?_
    rotate_left
    · intro w hSw
      clear hSw
      go_simp
      with_reducible rfl
    try simp only [Act.put, List.setIfInBounds_toArray, List.set_cons_zero, List.set_cons_succ]
    refine wpAnyH_take (i := 1) (oi := _) (v := ?_) rfl (by kernel_rfl) (by kernel_rfl) (by kernel_rfl) (fun _ _ _ h => h) (Or.inl ⟨by kernel_rfl, ?_⟩) (by assumption) ?_
    rotate_left
    · intro w hSw
      (try dsimp only at hSw)
      obtain ⟨hq0, hq1, hq2, hq3, hq4, hq5, hq6, hq7, hq8, hq9, hq10⟩ := hSw
      go_simp
      with_reducible rfl
    try simp only [Act.put, List.setIfInBounds_toArray, List.set_cons_zero, List.set_cons_succ]
    refine wpAnyH_take (i := 3) (oi := _) (v := ?_) rfl (by kernel_rfl) (by kernel_rfl) (by kernel_rfl) (fun _ _ _ h => h) (Or.inl ⟨by kernel_rfl, ?_⟩) (by assumption) ?_
    rotate_left
    · intro w hSw
      clear hSw
      go_simp
      with_reducible rfl
    try simp only [Act.put, List.setIfInBounds_toArray, List.set_cons_zero, List.set_cons_succ]
    refine wpAnyH_take (i := 4) (oi := _) (v := ?_) rfl (by kernel_rfl) (by kernel_rfl) (by kernel_rfl) (fun _ _ _ h => h) (Or.inl ⟨by kernel_rfl, ?_⟩) (by assumption) ?_
    rotate_left
    · intro w hSw
      (try dsimp only at hSw)
      obtain ⟨hq0, hq1, hq2, hq3, hq4, hq5, hq6, hq7, hq8, hq9, hq10⟩ := hSw
      go_simp
      with_reducible rfl
    try simp only [Act.put, List.setIfInBounds_toArray, List.set_cons_zero, List.set_cons_succ]
    refine wpAnyH_ready (rs := [2]) (by kernel_rfl) (by simp) ?_
    refine AllReadyH.cons (o := _) rfl (fun K hK => ?_) AllReadyH.nil
    go_simp
    refine (KC _ p _ _ T_14).mono ?_; rintro e w5 ⟨rfl, x5⟩
    have T_18 := T_14.on x5
    clear T_14
    have U_19 := U_15.on x5
    clear U_15
    have R_20 := R_16.on x5
    have B21 := B17.trans (x5.mono B17.size)
    clear R_16 B17 x5
    show K _ _
    refine hK.out _ _ ⟨R_20.2.1, R_20.2.2.1, R_20.2.2.2.1, R_20.2.2.2.2.1, R_20.2.2.2.2.2.1, R_20.2.2.2.2.2.2.1, R_20.2.2.2.2.2.2.2.1, R_20.2.2.2.2.2.2.2.2.1, R_20.2.2.2.2.2.2.2.2.2.1, R_20.2.2.2.2.2.2.2.2.2.2.1, R_20.2.2.2.2.2.2.2.2.2.2.2⟩ (fun hH1 => ?_)
    clear hK K hHeld
    have hHeld := hH1
    clear hH1
    try simp only [Act.put, List.setIfInBounds_toArray, List.set_cons_zero, List.set_cons_succ]
    refine wpAnyH_ready (rs := [5]) (by kernel_rfl) (by simp) ?_
    refine AllReadyH.cons (o := _) rfl (fun K hK => ?_) AllReadyH.nil
    go_simp
    refine (KD _ q _ _ U_19).mono ?_; rintro e w6 ⟨rfl, x6⟩
    have T_22 := T_18.on x6
    clear T_18
    have U_23 := U_19.on x6
    clear U_19
    have R_24 := R_20.on x6
    have B25 := B21.trans (x6.mono B21.size)
    clear R_20 B21 x6
    show K _ _
    refine hK.out _ _ ⟨R_24.2.1, R_24.2.2.1, R_24.2.2.2.1, R_24.2.2.2.2.1, R_24.2.2.2.2.2.1, R_24.2.2.2.2.2.2.1, R_24.2.2.2.2.2.2.2.1, R_24.2.2.2.2.2.2.2.2.1, R_24.2.2.2.2.2.2.2.2.2.1, R_24.2.2.2.2.2.2.2.2.2.2.1, R_24.2.2.2.2.2.2.2.2.2.2.2⟩ (fun hH2 => ?_)
    clear hK K hHeld
    have hHeld := hH2
    clear hH2
    try simp only [Act.put, List.setIfInBounds_toArray, List.set_cons_zero, List.set_cons_succ]
    refine wpAnyH_take (i := 6) (oi := _) (v := ?_) rfl (by kernel_rfl) (by kernel_rfl) (by kernel_rfl) (fun _ _ _ h => h) (Or.inl ⟨by kernel_rfl, ?_⟩) (by assumption) ?_
    rotate_left
    · intro w hSw
      clear hSw
      go_simp
      with_reducible rfl
    try simp only [Act.put, List.setIfInBounds_toArray, List.set_cons_zero, List.set_cons_succ]
    refine wpAnyH_take (i := 7) (oi := _) (v := ?_) rfl (by kernel_rfl) (by kernel_rfl) (by kernel_rfl) (fun _ _ _ h => h) (Or.inl ⟨by kernel_rfl, ?_⟩) (by assumption) ?_
    rotate_left
    · intro w hSw
      clear hSw
      go_simp
      with_reducible rfl
    try simp only [Act.put, List.setIfInBounds_toArray, List.set_cons_zero, List.set_cons_succ]
    refine wpAnyH_take (i := 8) (oi := _) (v := ?_) rfl (by kernel_rfl) (by kernel_rfl) (by kernel_rfl) (fun _ _ _ h => h) (Or.inl ⟨by kernel_rfl, ?_⟩) (by assumption) ?_
    rotate_left
    · intro w hSw
      clear hSw
      go_simp
      with_reducible rfl
    try simp only [Act.put, List.setIfInBounds_toArray, List.set_cons_zero, List.set_cons_succ]
    refine wpAnyH_take (i := 9) (oi := _) (v := ?_) rfl (by kernel_rfl) (by kernel_rfl) (by kernel_rfl) (fun _ _ _ h => h) (Or.inl ⟨by kernel_rfl, ?_⟩) (by assumption) ?_
    rotate_left
    · intro w hSw
      (try dsimp only at hSw)
      obtain ⟨hq0, hq1, hq2, hq3, hq4, hq5, hq6, hq7, hq8, hq9, hq10⟩ := hSw
      go_simp
      with_reducible rfl
    try simp only [Act.put, List.setIfInBounds_toArray, List.set_cons_zero, List.set_cons_succ]
    refine wpAnyH_take (i := 11) (oi := _) (v := ?_) rfl (by kernel_rfl) (by kernel_rfl) (by kernel_rfl) (fun _ _ _ h => h) (Or.inl ⟨by kernel_rfl, ?_⟩) (by assumption) ?_
    rotate_left
    · intro w hSw
      clear hSw
      go_simp
      with_reducible rfl
    try simp only [Act.put, List.setIfInBounds_toArray, List.set_cons_zero, List.set_cons_succ]
    refine wpAnyH_take (i := 12) (oi := _) (v := ?_) rfl (by kernel_rfl) (by kernel_rfl) (by kernel_rfl) (fun _ _ _ h => h) (Or.inl ⟨by kernel_rfl, ?_⟩) (by assumption) ?_
    rotate_left
    · intro w hSw
      (try dsimp only at hSw)
      obtain ⟨hq0, hq1, hq2, hq3, hq4, hq5, hq6, hq7, hq8, hq9, hq10⟩ := hSw
      go_simp
      with_reducible rfl
    try simp only [Act.put, List.setIfInBounds_toArray, List.set_cons_zero, List.set_cons_succ]
    refine wpAnyH_ready (rs := [10]) (by kernel_rfl) (by simp) ?_
    refine AllReadyH.cons (o := _) rfl (fun K hK => ?_) AllReadyH.nil
    go_simp
    refine (AC _ p _ _ T_22).mono ?_; rintro e w7 ⟨rfl, v7, T_26, x7, ho7⟩
    have R_27 := R_24.keep x7.size (x7.block _ R_24.1 nfRT0)
    have nfRT_28 := foot_newer nfRT0 R_24.1 ho7
    have apTU_29 := Apart.kept ap0 U_23.lt ho7
    have U_30 := U_23.beside x7 (Apart.symm ap0)
    have B31 := T_22.after hbT B25 x7
    clear nfRT0 R_24 B25 T_22 x7 ho7 ap0 U_23
    show K _ _
    refine hK.out _ _ ⟨R_27.2.1, R_27.2.2.1, R_27.2.2.2.1, R_27.2.2.2.2.1, R_27.2.2.2.2.2.1, R_27.2.2.2.2.2.2.1, R_27.2.2.2.2.2.2.2.1, R_27.2.2.2.2.2.2.2.2.1, R_27.2.2.2.2.2.2.2.2.2.1, R_27.2.2.2.2.2.2.2.2.2.2.1, R_27.2.2.2.2.2.2.2.2.2.2.2⟩ (fun hH3 => ?_)
    clear hK K hHeld
    have hHeld := hH3
    clear hH3
    try simp only [Act.put, List.setIfInBounds_toArray, List.set_cons_zero, List.set_cons_succ]
    refine wpAnyH_ready (rs := [13]) (by kernel_rfl) (by simp) ?_
    refine AllReadyH.cons (o := _) rfl (fun K hK => ?_) AllReadyH.nil
    go_simp
    refine (AD _ q _ _ U_30).mono ?_; rintro e w8 ⟨rfl, v8, U_32, x8, ho8⟩
    have R_33 := R_27.keep x8.size (x8.block _ R_27.1 nfRU0)
    have nfRU_34 := foot_newer nfRU0 R_27.1 ho8
    have apUT_35 := Apart.kept (Apart.symm apTU_29) T_26.lt ho8
    have T_36 := T_26.beside x8 (Apart.symm (Apart.symm apTU_29))
    have B37 := U_30.after hbU B31 x8
    clear nfRU0 R_27 B31 U_30 x8 ho8 apTU_29 T_26
    show K _ _
    refine hK.out _ _ ⟨R_33.2.1, R_33.2.2.1, R_33.2.2.2.1, R_33.2.2.2.2.1, R_33.2.2.2.2.2.1, R_33.2.2.2.2.2.2.1, R_33.2.2.2.2.2.2.2.1, R_33.2.2.2.2.2.2.2.2.1, R_33.2.2.2.2.2.2.2.2.2.1, R_33.2.2.2.2.2.2.2.2.2.2.1, R_33.2.2.2.2.2.2.2.2.2.2.2⟩ (fun hH4 => ?_)
    clear hK K hHeld
    have hHeld := hH4
    clear hH4
    try simp only [Act.put, List.setIfInBounds_toArray, List.set_cons_zero, List.set_cons_succ]
    refine wpAnyH_take (i := 14) (oi := _) (v := ?_) rfl (by kernel_rfl) (by kernel_rfl) (by kernel_rfl) (fun _ _ _ h => h) (Or.inl ⟨by kernel_rfl, ?_⟩) (by assumption) ?_
    rotate_left
    · intro w hSw
      clear hSw
      go_simp
      with_reducible rfl
    try simp only [Act.put, List.setIfInBounds_toArray, List.set_cons_zero, List.set_cons_succ]
    refine wpAnyH_take (i := 15) (oi := _) (v := ?_) rfl (by kernel_rfl) (by kernel_rfl) (by kernel_rfl) (fun _ _ _ h => h) (Or.inl ⟨by kernel_rfl, ?_⟩) (by assumption) ?_
    rotate_left
    · intro w hSw
      clear hSw
      go_simp
      with_reducible rfl
    try simp only [Act.put, List.setIfInBounds_toArray, List.set_cons_zero, List.set_cons_succ]
    refine wpAnyH_take (i := 16) (oi := _) (v := ?_) rfl (by kernel_rfl) (by kernel_rfl) (by kernel_rfl) (fun _ _ _ h => h) (Or.inl ⟨by kernel_rfl, ?_⟩) (by assumption) ?_
    rotate_left
    · intro w hSw
      clear hSw
      go_simp
      with_reducible rfl
    try simp only [Act.put, List.setIfInBounds_toArray, List.set_cons_zero, List.set_cons_succ]
    refine wpAnyH_take (i := 17) (oi := _) (v := ?_) rfl (by kernel_rfl) (by kernel_rfl) (by kernel_rfl) (fun _ _ _ h => h) (Or.inl ⟨by kernel_rfl, ?_⟩) (by assumption) ?_
    rotate_left
    · intro w hSw
      clear hSw
      go_simp
      with_reducible rfl
    try simp only [Act.put, List.setIfInBounds_toArray, List.set_cons_zero, List.set_cons_succ]
    refine wpAnyH_take (i := 18) (oi := _) (v := ?_) rfl (by kernel_rfl) (by kernel_rfl) (by kernel_rfl) (fun _ _ _ h => h) (Or.inl ⟨by kernel_rfl, ?_⟩) (by assumption) ?_
    rotate_left
    · intro w hSw
      clear hSw
      go_simp
      with_reducible rfl
    try simp only [Act.put, List.setIfInBounds_toArray, List.set_cons_zero, List.set_cons_succ]
    refine wpAnyH_take (i := 19) (oi := _) (v := ?_) rfl (by kernel_rfl) (by kernel_rfl) (by kernel_rfl) (fun _ _ _ h => h) (Or.inl ⟨by kernel_rfl, ?_⟩) (by assumption) ?_
    rotate_left
    · intro w hSw
      (try dsimp only at hSw)
      obtain ⟨hq0, hq1, hq2, hq3, hq4, hq5, hq6, hq7, hq8, hq9, hq10⟩ := hSw
      go_simp
      with_reducible rfl
    try simp only [Act.put, List.setIfInBounds_toArray, List.set_cons_zero, List.set_cons_succ]
    refine wpAnyH_take (i := 21) (oi := _) (v := ?_) rfl (by kernel_rfl) (by kernel_rfl) (by kernel_rfl) (fun _ _ _ h => h) (Or.inl ⟨by kernel_rfl, ?_⟩) (by assumption) ?_
    rotate_left
    · intro w hSw
      clear hSw
      go_simp
      with_reducible rfl
    try simp only [Act.put, List.setIfInBounds_toArray, List.set_cons_zero, List.set_cons_succ]
    refine wpAnyH_take (i := 22) (oi := _) (v := ?_) rfl (by kernel_rfl) (by kernel_rfl) (by kernel_rfl) (fun _ _ _ h => h) (Or.inl ⟨by kernel_rfl, ?_⟩) (by assumption) ?_
    rotate_left
    · intro w hSw
      clear hSw
      go_simp
      with_reducible rfl
    try simp only [Act.put, List.setIfInBounds_toArray, List.set_cons_zero, List.set_cons_succ]
    refine wpAnyH_take (i := 23) (oi := _) (v := ?_) rfl (by kernel_rfl) (by kernel_rfl) (by kernel_rfl) (fun _ _ _ h => h) (Or.inl ⟨by kernel_rfl, ?_⟩) (by assumption) ?_
    rotate_left
    · intro w hSw
      (try dsimp only at hSw)
      obtain ⟨hq0, hq1, hq2, hq3, hq4, hq5, hq6, hq7, hq8, hq9, hq10⟩ := hSw
      go_simp
      with_reducible rfl
    try simp only [Act.put, List.setIfInBounds_toArray, List.set_cons_zero, List.set_cons_succ]
    refine wpAnyH_ready (rs := [20]) (by kernel_rfl) (by simp) ?_
    refine AllReadyH.cons (o := _) rfl (fun K hK => ?_) AllReadyH.nil
    go_simp
    refine (IC1 _ p _ _ T_36).mono ?_; rintro e w9 ⟨rfl, x9⟩
    have T_38 := T_36.on x9
    clear T_36
    have U_39 := U_32.on x9
    clear U_32
    have R_40 := R_33.on x9
    have B41 := B37.trans (x9.mono B37.size)
    clear R_33 B37 x9
    show K _ _
    refine hK.out _ _ ⟨R_40.2.1, R_40.2.2.1, R_40.2.2.2.1, R_40.2.2.2.2.1, R_40.2.2.2.2.2.1, R_40.2.2.2.2.2.2.1, R_40.2.2.2.2.2.2.2.1, R_40.2.2.2.2.2.2.2.2.1, R_40.2.2.2.2.2.2.2.2.2.1, R_40.2.2.2.2.2.2.2.2.2.2.1, R_40.2.2.2.2.2.2.2.2.2.2.2⟩ (fun hH5 => ?_)
    clear hK K hHeld
    have hHeld := hH5
    clear hH5
    try simp only [Act.put, List.setIfInBounds_toArray, List.set_cons_zero, List.set_cons_succ]
    refine wpAnyH_ready (rs := [24]) (by kernel_rfl) (by simp) ?_
    refine AllReadyH.cons (o := _) rfl (fun K hK => ?_) AllReadyH.nil
    go_simp
    refine (ID1 _ q _ _ U_39).mono ?_; rintro e w10 ⟨rfl, x10⟩
    have T_42 := T_38.on x10
    clear T_38
    have U_43 := U_39.on x10
    clear U_39
    have R_44 := R_40.on x10
    have B45 := B41.trans (x10.mono B41.size)
    clear R_40 B41 x10
    show K _ _
    refine hK.out _ _ ⟨R_44.2.1, R_44.2.2.1, R_44.2.2.2.1, R_44.2.2.2.2.1, R_44.2.2.2.2.2.1, R_44.2.2.2.2.2.2.1, R_44.2.2.2.2.2.2.2.1, R_44.2.2.2.2.2.2.2.2.1, R_44.2.2.2.2.2.2.2.2.2.1, R_44.2.2.2.2.2.2.2.2.2.2.1, R_44.2.2.2.2.2.2.2.2.2.2.2⟩ (fun hH6 => ?_)
    clear hK K hHeld
    have hHeld := hH6
    clear hH6
    try simp only [Act.put, List.setIfInBounds_toArray, List.set_cons_zero, List.set_cons_succ]
    refine wpAnyH_take (i := 25) (oi := _) (v := ?_) rfl (by kernel_rfl) (by kernel_rfl) (by kernel_rfl) (fun _ _ _ h => h) (Or.inl ⟨by kernel_rfl, ?_⟩) (by assumption) ?_
    rotate_left
    · intro w hSw
      clear hSw
      go_simp
      with_reducible rfl
    try simp only [Act.put, List.setIfInBounds_toArray, List.set_cons_zero, List.set_cons_succ]
    refine wpAnyH_take (i := 26) (oi := _) (v := ?_) rfl (by kernel_rfl) (by kernel_rfl) (by kernel_rfl) (fun _ _ _ h => h) (Or.inl ⟨by kernel_rfl, ?_⟩) (by assumption) ?_
    rotate_left
    · intro w hSw
      clear hSw
      go_simp
      with_reducible rfl
    try simp only [Act.put, List.setIfInBounds_toArray, List.set_cons_zero, List.set_cons_succ]
    refine wpAnyH_take (i := 27) (oi := _) (v := ?_) rfl (by kernel_rfl) (by kernel_rfl) (by kernel_rfl) (fun _ _ _ h => h) (Or.inl ⟨by kernel_rfl, ?_⟩) (by assumption) ?_
    rotate_left
    · intro w hSw
      clear hSw
      go_simp
      with_reducible rfl
    try simp only [Act.put, List.setIfInBounds_toArray, List.set_cons_zero, List.set_cons_succ]
    refine wpAnyH_take (i := 28) (oi := _) (v := ?_) rfl (by kernel_rfl) (by kernel_rfl) (by kernel_rfl) (fun _ _ _ h => h) (Or.inl ⟨by kernel_rfl, ?_⟩) (by assumption) ?_
    rotate_left
    · intro w hSw
      clear hSw
      go_simp
      with_reducible rfl
    try simp only [Act.put, List.setIfInBounds_toArray, List.set_cons_zero, List.set_cons_succ]
    refine wpAnyH_take (i := 29) (oi := _) (v := ?_) rfl (by kernel_rfl) (by kernel_rfl) (by kernel_rfl) (fun _ _ _ h => h) (Or.inl ⟨by kernel_rfl, ?_⟩) (by assumption) ?_
    rotate_left
    · intro w hSw
      clear hSw
      go_simp
      with_reducible rfl
    try simp only [Act.put, List.setIfInBounds_toArray, List.set_cons_zero, List.set_cons_succ]
    refine wpAnyH_take (i := 30) (oi := _) (v := ?_) rfl (by kernel_rfl) (by kernel_rfl) (by kernel_rfl) (fun _ _ _ h => h) (Or.inl ⟨by kernel_rfl, ?_⟩) (by assumption) ?_
    rotate_left
    · intro w hSw
      clear hSw
      go_simp
      with_reducible rfl
    try simp only [Act.put, List.setIfInBounds_toArray, List.set_cons_zero, List.set_cons_succ]
    refine wpAnyH_take (i := 31) (oi := _) (v := ?_) rfl (by kernel_rfl) (by kernel_rfl) (by kernel_rfl) (fun _ _ _ h => h) (Or.inl ⟨by kernel_rfl, ?_⟩) (by assumption) ?_
    rotate_left
    · intro w hSw
      (try dsimp only at hSw)
      obtain ⟨hq0, hq1, hq2, hq3, hq4, hq5, hq6, hq7, hq8, hq9, hq10⟩ := hSw
      go_simp
      with_reducible rfl
    try simp only [Act.put, List.setIfInBounds_toArray, List.set_cons_zero, List.set_cons_succ]
    refine wpAnyH_take (i := 33) (oi := _) (v := ?_) rfl (by kernel_rfl) (by kernel_rfl) (by kernel_rfl) (fun _ _ _ h => h) (Or.inl ⟨by kernel_rfl, ?_⟩) (by assumption) ?_
    rotate_left
    · intro w hSw
      clear hSw
      go_simp
      with_reducible rfl
    try simp only [Act.put, List.setIfInBounds_toArray, List.set_cons_zero, List.set_cons_succ]
    refine wpAnyH_take (i := 34) (oi := _) (v := ?_) rfl (by kernel_rfl) (by kernel_rfl) (by kernel_rfl) (fun _ _ _ h => h) (Or.inl ⟨by kernel_rfl, ?_⟩) (by assumption) ?_
    rotate_left
    · intro w hSw
      clear hSw
      go_simp
      with_reducible rfl
    try simp only [Act.put, List.setIfInBounds_toArray, List.set_cons_zero, List.set_cons_succ]
    refine wpAnyH_take (i := 35) (oi := _) (v := ?_) rfl (by kernel_rfl) (by kernel_rfl) (by kernel_rfl) (fun _ _ _ h => h) (Or.inl ⟨by kernel_rfl, ?_⟩) (by assumption) ?_
    rotate_left
    · intro w hSw
      clear hSw
      go_simp
      with_reducible rfl
    try simp only [Act.put, List.setIfInBounds_toArray, List.set_cons_zero, List.set_cons_succ]
    refine wpAnyH_take (i := 36) (oi := _) (v := ?_) rfl (by kernel_rfl) (by kernel_rfl) (by kernel_rfl) (fun _ _ _ h => h) (Or.inl ⟨by kernel_rfl, ?_⟩) (by assumption) ?_
    rotate_left
    · intro w hSw
      (try dsimp only at hSw)
      obtain ⟨hq0, hq1, hq2, hq3, hq4, hq5, hq6, hq7, hq8, hq9, hq10⟩ := hSw
      go_simp
      with_reducible rfl
    try simp only [Act.put, List.setIfInBounds_toArray, List.set_cons_zero, List.set_cons_succ]
    refine wpAnyH_ready (rs := [32]) (by kernel_rfl) (by simp) ?_
    refine AllReadyH.cons (o := _) rfl (fun K hK => ?_) AllReadyH.nil
    go_simp
    refine (IC2 _ p _ _ T_42).mono ?_; rintro e w11 ⟨rfl, x11⟩
    have T_46 := T_42.on x11
    clear T_42
    have U_47 := U_43.on x11
    clear U_43
    have R_48 := R_44.on x11
    have B49 := B45.trans (x11.mono B45.size)
    clear R_44 B45 x11
    show K _ _
    refine hK.out _ _ ⟨R_48.2.1, R_48.2.2.1, R_48.2.2.2.1, R_48.2.2.2.2.1, R_48.2.2.2.2.2.1, R_48.2.2.2.2.2.2.1, R_48.2.2.2.2.2.2.2.1, R_48.2.2.2.2.2.2.2.2.1, R_48.2.2.2.2.2.2.2.2.2.1, R_48.2.2.2.2.2.2.2.2.2.2.1, R_48.2.2.2.2.2.2.2.2.2.2.2⟩ (fun hH7 => ?_)
    clear hK K hHeld
    have hHeld := hH7
    clear hH7
    try simp only [Act.put, List.setIfInBounds_toArray, List.set_cons_zero, List.set_cons_succ]
    refine wpAnyH_ready (rs := [37]) (by kernel_rfl) (by simp) ?_
    refine AllReadyH.cons (o := _) rfl (fun K hK => ?_) AllReadyH.nil
    go_simp
    refine (ID2 _ q _ _ U_47).mono ?_; rintro e w12 ⟨rfl, x12⟩
    have T_50 := T_46.on x12
    clear T_46
    have U_51 := U_47.on x12
    clear U_47
    have R_52 := R_48.on x12
    have B53 := B49.trans (x12.mono B49.size)
    clear R_48 B49 x12
    show K _ _
    refine hK.out _ _ ⟨R_52.2.1, R_52.2.2.1, R_52.2.2.2.1, R_52.2.2.2.2.1, R_52.2.2.2.2.2.1, R_52.2.2.2.2.2.2.1, R_52.2.2.2.2.2.2.2.1, R_52.2.2.2.2.2.2.2.2.1, R_52.2.2.2.2.2.2.2.2.2.1, R_52.2.2.2.2.2.2.2.2.2.2.1, R_52.2.2.2.2.2.2.2.2.2.2.2⟩ (fun hH8 => ?_)
    clear hK K hHeld
    have hHeld := hH8
    clear hH8
    try simp only [Act.put, List.setIfInBounds_toArray, List.set_cons_zero, List.set_cons_succ]
    refine wpAnyH_take (i := 38) (oi := _) (v := ?_) rfl (by kernel_rfl) (by kernel_rfl) (by kernel_rfl) (fun _ _ _ h => h) (Or.inl ⟨by kernel_rfl, ?_⟩) (by assumption) ?_
    rotate_left
    · intro w hSw
      clear hSw
      go_simp
      with_reducible rfl
    try simp only [Act.put, List.setIfInBounds_toArray, List.set_cons_zero, List.set_cons_succ]
    refine wpAnyH_take (i := 39) (oi := _) (v := ?_) rfl (by kernel_rfl) (by kernel_rfl) (by kernel_rfl) (fun _ _ _ h => h) (Or.inl ⟨by kernel_rfl, ?_⟩) (by assumption) ?_
    rotate_left
    · intro w hSw
      clear hSw
      go_simp
      with_reducible rfl
    try simp only [Act.put, List.setIfInBounds_toArray, List.set_cons_zero, List.set_cons_succ]
    refine wpAnyH_take (i := 40) (oi := _) (v := ?_) rfl (by kernel_rfl) (by kernel_rfl) (by kernel_rfl) (fun _ _ _ h => h) (Or.inl ⟨by kernel_rfl, ?_⟩) (by assumption) ?_
    rotate_left
    · intro w hSw
      clear hSw
      go_simp
      with_reducible rfl
    try simp only [Act.put, List.setIfInBounds_toArray, List.set_cons_zero, List.set_cons_succ]
    refine wpAnyH_take (i := 41) (oi := _) (v := ?_) rfl (by kernel_rfl) (by kernel_rfl) (by kernel_rfl) (fun _ _ _ h => h) (Or.inl ⟨by kernel_rfl, ?_⟩) (by assumption) ?_
    rotate_left
    · intro w hSw
      clear hSw
      go_simp
      with_reducible rfl
    try simp only [Act.put, List.setIfInBounds_toArray, List.set_cons_zero, List.set_cons_succ]
    refine wpAnyH_take (i := 42) (oi := _) (v := ?_) rfl (by kernel_rfl) (by kernel_rfl) (by kernel_rfl) (fun _ _ _ h => h) (Or.inl ⟨by kernel_rfl, ?_⟩) (by assumption) ?_
    rotate_left
    · intro w hSw
      clear hSw
      go_simp
      with_reducible rfl
    try simp only [Act.put, List.setIfInBounds_toArray, List.set_cons_zero, List.set_cons_succ]
    refine wpAnyH_take (i := 43) (oi := _) (v := ?_) rfl (by kernel_rfl) (by kernel_rfl) (by kernel_rfl) (fun _ _ _ h => h) (Or.inl ⟨by kernel_rfl, ?_⟩) (by assumption) ?_
    rotate_left
    · intro w hSw
      (try dsimp only at hSw)
      obtain ⟨hq0, hq1, hq2, hq3, hq4, hq5, hq6, hq7, hq8, hq9, hq10⟩ := hSw
      go_simp
      with_reducible rfl
    try simp only [Act.put, List.setIfInBounds_toArray, List.set_cons_zero, List.set_cons_succ]
    refine wpAnyH_take (i := 45) (oi := _) (v := ?_) rfl (by kernel_rfl) (by kernel_rfl) (by kernel_rfl) (fun _ _ _ h => h) (Or.inl ⟨by kernel_rfl, ?_⟩) (by assumption) ?_
    rotate_left
    · intro w hSw
      clear hSw
      go_simp
      with_reducible rfl
    try simp only [Act.put, List.setIfInBounds_toArray, List.set_cons_zero, List.set_cons_succ]
    refine wpAnyH_take (i := 46) (oi := _) (v := ?_) rfl (by kernel_rfl) (by kernel_rfl) (by kernel_rfl) (fun _ _ _ h => h) (Or.inl ⟨by kernel_rfl, ?_⟩) (by assumption) ?_
    rotate_left
    · intro w hSw
      clear hSw
      go_simp
      with_reducible rfl
    try simp only [Act.put, List.setIfInBounds_toArray, List.set_cons_zero, List.set_cons_succ]
    refine wpAnyH_take (i := 47) (oi := _) (v := ?_) rfl (by kernel_rfl) (by kernel_rfl) (by kernel_rfl) (fun _ _ _ h => h) (Or.inl ⟨by kernel_rfl, ?_⟩) (by assumption) ?_
    rotate_left
    · intro w hSw
      (try dsimp only at hSw)
      obtain ⟨hq0, hq1, hq2, hq3, hq4, hq5, hq6, hq7, hq8, hq9, hq10⟩ := hSw
      go_simp
      with_reducible rfl
    try simp only [Act.put, List.setIfInBounds_toArray, List.set_cons_zero, List.set_cons_succ]
    refine wpAnyH_ready (rs := [44]) (by kernel_rfl) (by simp) ?_
    refine AllReadyH.cons (o := _) rfl (fun K hK => ?_) AllReadyH.nil
    go_simp
    refine (OC1 _ p _ _ T_50).mono ?_; rintro e w13 ⟨rfl, x13⟩
    have T_54 := T_50.on x13
    clear T_50
    have U_55 := U_51.on x13
    clear U_51
    have R_56 := R_52.on x13
    have B57 := B53.trans (x13.mono B53.size)
    clear R_52 B53 x13
    show K _ _
    refine hK.out _ _ ⟨R_56.2.1, R_56.2.2.1, R_56.2.2.2.1, R_56.2.2.2.2.1, R_56.2.2.2.2.2.1, R_56.2.2.2.2.2.2.1, R_56.2.2.2.2.2.2.2.1, R_56.2.2.2.2.2.2.2.2.1, R_56.2.2.2.2.2.2.2.2.2.1, R_56.2.2.2.2.2.2.2.2.2.2.1, R_56.2.2.2.2.2.2.2.2.2.2.2⟩ (fun hH9 => ?_)
    clear hK K hHeld
    have hHeld := hH9
    clear hH9
    try simp only [Act.put, List.setIfInBounds_toArray, List.set_cons_zero, List.set_cons_succ]
    refine wpAnyH_ready (rs := [48]) (by kernel_rfl) (by simp) ?_
    refine AllReadyH.cons (o := _) rfl (fun K hK => ?_) AllReadyH.nil
    go_simp
    refine (OD1 _ q _ _ U_55).mono ?_; rintro e w14 ⟨rfl, x14⟩
    have T_58 := T_54.on x14
    clear T_54
    have U_59 := U_55.on x14
    clear U_55
    have R_60 := R_56.on x14
    have B61 := B57.trans (x14.mono B57.size)
    clear R_56 B57 x14
    show K _ _
    refine hK.out _ _ ⟨R_60.2.1, R_60.2.2.1, R_60.2.2.2.1, R_60.2.2.2.2.1, R_60.2.2.2.2.2.1, R_60.2.2.2.2.2.2.1, R_60.2.2.2.2.2.2.2.1, R_60.2.2.2.2.2.2.2.2.1, R_60.2.2.2.2.2.2.2.2.2.1, R_60.2.2.2.2.2.2.2.2.2.2.1, R_60.2.2.2.2.2.2.2.2.2.2.2⟩ (fun hH10 => ?_)
    clear hK K hHeld
    have hHeld := hH10
    clear hH10
    try simp only [Act.put, List.setIfInBounds_toArray, List.set_cons_zero, List.set_cons_succ]
    refine wpAnyH_take (i := 49) (oi := _) (v := ?_) rfl (by kernel_rfl) (by kernel_rfl) (by kernel_rfl) (fun _ _ _ h => h) (Or.inl ⟨by kernel_rfl, ?_⟩) (by assumption) ?_
    rotate_left
    · intro w hSw
      clear hSw
      go_simp
      with_reducible rfl
    try simp only [Act.put, List.setIfInBounds_toArray, List.set_cons_zero, List.set_cons_succ]
    refine wpAnyH_take (i := 50) (oi := _) (v := ?_) rfl (by kernel_rfl) (by kernel_rfl) (by kernel_rfl) (fun _ _ _ h => h) (Or.inl ⟨by kernel_rfl, ?_⟩) (by assumption) ?_
    rotate_left
    · intro w hSw
      clear hSw
      go_simp
      with_reducible rfl
    try simp only [Act.put, List.setIfInBounds_toArray, List.set_cons_zero, List.set_cons_succ]
    refine wpAnyH_take (i := 51) (oi := _) (v := ?_) rfl (by kernel_rfl) (by kernel_rfl) (by kernel_rfl) (fun _ _ _ h => h) (Or.inl ⟨by kernel_rfl, ?_⟩) (by assumption) ?_
    rotate_left
    · intro w hSw
      clear hSw
      go_simp
      with_reducible rfl
    try simp only [Act.put, List.setIfInBounds_toArray, List.set_cons_zero, List.set_cons_succ]
    refine wpAnyH_take (i := 52) (oi := _) (v := ?_) rfl (by kernel_rfl) (by kernel_rfl) (by kernel_rfl) (fun _ _ _ h => h) (Or.inl ⟨by kernel_rfl, ?_⟩) (by assumption) ?_
    rotate_left
    · intro w hSw
      clear hSw
      go_simp
      with_reducible rfl
    try simp only [Act.put, List.setIfInBounds_toArray, List.set_cons_zero, List.set_cons_succ]
    refine wpAnyH_take (i := 53) (oi := _) (v := ?_) rfl (by kernel_rfl) (by kernel_rfl) (by kernel_rfl) (fun _ _ _ h => h) (Or.inl ⟨by kernel_rfl, ?_⟩) (by assumption) ?_
    rotate_left
    · intro w hSw
      clear hSw
      go_simp
      with_reducible rfl
    try simp only [Act.put, List.setIfInBounds_toArray, List.set_cons_zero, List.set_cons_succ]
    refine wpAnyH_ready (rs := [54]) (by kernel_rfl) (by simp) ?_
    refine AllReadyH.cons (o := _) rfl (fun K hK => ?_) AllReadyH.nil
    go_simp
    refine (OC2 _ p _ _ T_58).mono ?_; rintro e w15 ⟨rfl, x15⟩
    have T_62 := T_58.on x15
    clear T_58
    have U_63 := U_59.on x15
    clear U_59
    have R_64 := R_60.on x15
    have B65 := B61.trans (x15.mono B61.size)
    clear R_60 B61 x15
    show K _ _
    refine hK.out _ _ ⟨R_64.2.1, R_64.2.2.1, R_64.2.2.2.1, R_64.2.2.2.2.1, R_64.2.2.2.2.2.1, R_64.2.2.2.2.2.2.1, R_64.2.2.2.2.2.2.2.1, R_64.2.2.2.2.2.2.2.2.1, R_64.2.2.2.2.2.2.2.2.2.1, R_64.2.2.2.2.2.2.2.2.2.2.1, R_64.2.2.2.2.2.2.2.2.2.2.2⟩ (fun hH11 => ?_)
    clear hK K hHeld
    have hHeld := hH11
    clear hH11
    try simp only [Act.put, List.setIfInBounds_toArray, List.set_cons_zero, List.set_cons_succ]
    refine wpAnyH_take (i := 55) (oi := _) (v := ?_) rfl (by kernel_rfl) (by kernel_rfl) (by kernel_rfl) (fun _ _ _ h => h) (Or.inl ⟨by kernel_rfl, ?_⟩) (by assumption) ?_
    rotate_left
    · intro w hSw
      clear hSw
      go_simp
      with_reducible rfl
    try simp only [Act.put, List.setIfInBounds_toArray, List.set_cons_zero, List.set_cons_succ]
    refine wpAnyH_take (i := 56) (oi := _) (v := ?_) rfl (by kernel_rfl) (by kernel_rfl) (by kernel_rfl) (fun _ _ _ h => h) (Or.inl ⟨by kernel_rfl, ?_⟩) (by assumption) ?_
    rotate_left
    · intro w hSw
      clear hSw
      go_simp
      with_reducible rfl
    try simp only [Act.put, List.setIfInBounds_toArray, List.set_cons_zero, List.set_cons_succ]
    refine wpAnyH_take (i := 57) (oi := _) (v := ?_) rfl (by kernel_rfl) (by kernel_rfl) (by kernel_rfl) (fun _ _ _ h => h) (Or.inl ⟨by kernel_rfl, ?_⟩) (by assumption) ?_
    rotate_left
    · intro w hSw
      clear hSw
      go_simp
      with_reducible rfl
    try simp only [Act.put, List.setIfInBounds_toArray, List.set_cons_zero, List.set_cons_succ]
    refine wpAnyH_take (i := 58) (oi := _) (v := ?_) rfl (by kernel_rfl) (by kernel_rfl) (by kernel_rfl) (fun _ _ _ h => h) (Or.inl ⟨by kernel_rfl, ?_⟩) (by assumption) ?_
    rotate_left
    · intro w hSw
      clear hSw
      go_simp
      with_reducible rfl
    try simp only [Act.put, List.setIfInBounds_toArray, List.set_cons_zero, List.set_cons_succ]
    refine wpAnyH_ready (rs := [59]) (by kernel_rfl) (by simp) ?_
    refine AllReadyH.cons (o := _) rfl (fun K hK => ?_) AllReadyH.nil
    go_simp
    refine (IC3 _ p _ _ T_62).mono ?_; rintro e w16 ⟨rfl, x16⟩
    have T_66 := T_62.on x16
    clear T_62
    have U_67 := U_63.on x16
    clear U_63
    have R_68 := R_64.on x16
    have B69 := B65.trans (x16.mono B65.size)
    clear R_64 B65 x16
    show K _ _
    refine hK.out _ _ ⟨R_68.2.1, R_68.2.2.1, R_68.2.2.2.1, R_68.2.2.2.2.1, R_68.2.2.2.2.2.1, R_68.2.2.2.2.2.2.1, R_68.2.2.2.2.2.2.2.1, R_68.2.2.2.2.2.2.2.2.1, R_68.2.2.2.2.2.2.2.2.2.1, R_68.2.2.2.2.2.2.2.2.2.2.1, R_68.2.2.2.2.2.2.2.2.2.2.2⟩ (fun hH12 => ?_)
    clear hK K hHeld
    have hHeld := hH12
    clear hH12
    try simp only [Act.put, List.setIfInBounds_toArray, List.set_cons_zero, List.set_cons_succ]
    refine wpAnyH_take (i := 60) (oi := _) (v := ?_) rfl (by kernel_rfl) (by kernel_rfl) (by kernel_rfl) (fun _ _ _ h => h) (Or.inl ⟨by kernel_rfl, ?_⟩) (by assumption) ?_
    rotate_left
    · intro w hSw
      clear hSw
      go_simp
      with_reducible rfl
    try simp only [Act.put, List.setIfInBounds_toArray, List.set_cons_zero, List.set_cons_succ]
    refine wpAnyH_take (i := 61) (oi := _) (v := ?_) rfl (by kernel_rfl) (by kernel_rfl) (by kernel_rfl) (fun _ _ _ h => h) (Or.inl ⟨by kernel_rfl, ?_⟩) (by assumption) ?_
    rotate_left
    · intro w hSw
      clear hSw
      go_simp
      with_reducible rfl
    try simp only [Act.put, List.setIfInBounds_toArray, List.set_cons_zero, List.set_cons_succ]
    refine wpAnyH_take (i := 62) (oi := _) (v := ?_) rfl (by kernel_rfl) (by kernel_rfl) (by kernel_rfl) (fun _ _ _ h => h) (Or.inl ⟨by kernel_rfl, ?_⟩) (by assumption) ?_
    rotate_left
    · intro w hSw
      clear hSw
      go_simp
      with_reducible rfl
    try simp only [Act.put, List.setIfInBounds_toArray, List.set_cons_zero, List.set_cons_succ]
    refine wpAnyH_ready (rs := [63]) (by kernel_rfl) (by simp) ?_
    refine AllReadyH.cons (o := _) rfl (fun K hK => ?_) AllReadyH.nil
    go_simp
    refine (rl _).mono ?_; rintro e w17 ⟨rfl, x17⟩
    have T_70 := T_66.on x17
    clear T_66
    have U_71 := U_67.on x17
    clear U_67
    have R_72 := R_68.on x17
    have B73 := B69.trans (x17.mono B69.size)
    clear R_68 B69 x17
    show K _ _
    refine hK.out _ _ ⟨R_72.2.1, R_72.2.2.1, R_72.2.2.2.1, R_72.2.2.2.2.1, R_72.2.2.2.2.2.1, R_72.2.2.2.2.2.2.1, R_72.2.2.2.2.2.2.2.1, R_72.2.2.2.2.2.2.2.2.1, R_72.2.2.2.2.2.2.2.2.2.1, R_72.2.2.2.2.2.2.2.2.2.2.1, R_72.2.2.2.2.2.2.2.2.2.2.2⟩ (fun hH13 => ?_)
    clear hK K hHeld
    have hHeld := hH13
    clear hH13
    try simp only [Act.put, List.setIfInBounds_toArray, List.set_cons_zero, List.set_cons_succ]
    refine wpAnyH_take (i := 64) (oi := _) (v := ?_) rfl (by kernel_rfl) (by kernel_rfl) (by kernel_rfl) (fun _ _ _ h => h) (Or.inl ⟨by kernel_rfl, ?_⟩) (by assumption) ?_
    rotate_left
    · intro w hSw
      clear hSw
      go_simp
      with_reducible rfl
    try simp only [Act.put, List.setIfInBounds_toArray, List.set_cons_zero, List.set_cons_succ]
    refine wpAnyH_take (i := 65) (oi := _) (v := ?_) rfl (by kernel_rfl) (by kernel_rfl) (by kernel_rfl) (fun _ _ _ h => h) (Or.inl ⟨by kernel_rfl, ?_⟩) (by assumption) ?_
    rotate_left
    · intro w hSw
      clear hSw
      go_simp
      with_reducible rfl
    try simp only [Act.put, List.setIfInBounds_toArray, List.set_cons_zero, List.set_cons_succ]
    try simp only [List.getElem_toArray, List.getElem_cons_succ, List.getElem_cons_zero, Act.put, List.setIfInBounds_toArray, List.set_cons_zero, List.set_cons_succ]
    refine wpAnyH_done (by kernel_rfl) ?_ _
    clear hHeld
    go_wp2
    go_ret
    exact ⟨rfl, B73⟩
end RulesNew
end Go.Proofs.Ytoogegpkgohffaa
namespace Go.Proofs.Ytoogegpkgohffaa
open Go.ChangeShapes Go.WideShapes Go.ChangeAt Go.RowKit
theorem ru_of {k pr si sb di db ex fr tx ii ip : Int} (h0 : (Lit.int .i64 k).wf = true) (h1 : (Lit.int .u8 pr).wf = true) (h2 : (Lit.int .u32 si).wf = true) (h3 : (Lit.int .i64 sb).wf = true) (h4 : (Lit.int .u32 di).wf = true) (h5 : (Lit.int .i64 db).wf = true) (h6 : (Lit.int .u32 ex).wf = true) (h7 : (Lit.int .u16 fr).wf = true) (h8 : (Lit.int .u16 tx).wf = true) (h9 : (Lit.int .u32 ii).wf = true) (h10 : (Lit.int .u16 ip).wf = true) :
    ∃ r : Ru, r.Ok ∧ r.k = k ∧ r.pr = pr ∧ (r.si : Int) = si ∧ r.sb = sb ∧ (r.di : Int) = di ∧ r.db = db ∧ (r.ex : Int) = ex ∧ r.fr = fr ∧ r.to = tx ∧ (r.ii : Int) = ii ∧ r.ip = ip := by
  obtain ⟨a0, b0⟩ := bounds_i64 h0
  obtain ⟨a1, b1⟩ := bounds_u8 h1
  obtain ⟨a2, b2⟩ := bounds_u32 h2
  obtain ⟨a3, b3⟩ := bounds_i64 h3
  obtain ⟨a4, b4⟩ := bounds_u32 h4
  obtain ⟨a5, b5⟩ := bounds_i64 h5
  obtain ⟨a6, b6⟩ := bounds_u32 h6
  obtain ⟨a7, b7⟩ := bounds_u16 h7
  obtain ⟨a8, b8⟩ := bounds_u16 h8
  obtain ⟨a9, b9⟩ := bounds_u32 h9
  obtain ⟨a10, b10⟩ := bounds_u16 h10
  obtain ⟨si, rfl⟩ := Int.eq_ofNat_of_zero_le a2
  obtain ⟨di, rfl⟩ := Int.eq_ofNat_of_zero_le a4
  obtain ⟨ex, rfl⟩ := Int.eq_ofNat_of_zero_le a6
  obtain ⟨ii, rfl⟩ := Int.eq_ofNat_of_zero_le a9
  refine ⟨⟨k, pr, si, sb, di, db, ex, fr, tx, ii, ip⟩, ?_, rfl, rfl, rfl, rfl, rfl, rfl, rfl, rfl, rfl, rfl, rfl⟩
  constructor <;> simp only <;> omega
end Go.Proofs.Ytoogegpkgohffaa
namespace Go.Proofs.Ytoogegpkgohffaa
open Go.ChangeShapes Go.WideShapes Go.ChangeAt Go.RowKit Go.PlainAid
theorem RulesNew.walkI (o ip bits k pr si sb di db ex fr tx ii jp : Int) (w : World) (g0 : (Lit.int .u32 o).wf = true) (g1 : (Lit.int .u32 ip).wf = true) (g2 : (Lit.int .i64 bits).wf = true) (h0 : (Lit.int .i64 k).wf = true) (h1 : (Lit.int .u8 pr).wf = true) (h2 : (Lit.int .u32 si).wf = true) (h3 : (Lit.int .i64 sb).wf = true) (h4 : (Lit.int .u32 di).wf = true) (h5 : (Lit.int .i64 db).wf = true) (h6 : (Lit.int .u32 ex).wf = true) (h7 : (Lit.int .u16 fr).wf = true) (h8 : (Lit.int .u16 tx).wf = true) (h9 : (Lit.int .u32 ii).wf = true) (h10 : (Lit.int .u16 jp).wf = true) :
    Calls Try.prog 4 #[.int .u32 o, .agg #[.int .u32 ip, .int .i64 bits], .agg #[.int .i64 k, .int .u8 pr, .int .u32 si, .int .i64 sb, .int .u32 di, .int .i64 db, .int .u32 ex, .int .u16 fr, .int .u16 tx, .int .u32 ii, .int .u16 jp]] w fun e w' => e = .returned (.bool true) ∧ Below w.heap.size w w' := by
  obtain ⟨r, ok, rfl, rfl, rfl, rfl, rfl, rfl, rfl, rfl, rfl, rfl, rfl⟩ := ru_of h0 h1 h2 h3 h4 h5 h6 h7 h8 h9 h10
  obtain ⟨o0, o1⟩ := bounds_u32 g0
  obtain ⟨i0, i1⟩ := bounds_u32 g1
  obtain ⟨o, rfl⟩ := Int.eq_ofNat_of_zero_le o0
  obtain ⟨ip, rfl⟩ := Int.eq_ofNat_of_zero_le i0
  exact RulesNew.walk o ip bits r w (by omega) (by omega) (bounds_i64 g2) ok
end Go.Proofs.Ytoogegpkgohffaa
