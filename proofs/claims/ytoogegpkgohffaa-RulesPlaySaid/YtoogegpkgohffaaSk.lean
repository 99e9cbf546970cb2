/- The code's table (layer 11): New, Add. -/
import Derived.Test.YtoogegpkgohffaaSh
import Derived.Test.YtoogegpkgohffaaSj
namespace Go.Proofs.Ytoogegpkgohffaa
set_option linter.unusedVariables false
set_option linter.unusedSimpArgs false
open Go.ChangeShapes Go.WideShapes Go.ChangeAt Go.RowKit Go.PlainAid
attribute [local go_sem ↓] Go.wp_at_zero Go.wp_at_succ
set_option maxHeartbeats 1000000 in
set_option maxRecDepth 100000 in
theorem newC_ (own ip : Nat) (bits : Int) (w : World) (ho : own < 4294967296) (hi : ip < 4294967296) (hb : -9223372036854775808 ≤ bits ∧ bits ≤ 9223372036854775807) :
    Calls Try.prog 10 #[.int .u32 (own : Int), .agg #[.int .u32 (ip : Int), .int .i64 bits]] w fun e w' => Below w.heap.size w w' ∧ ((ruNewE own ip bits = 2 ∧ e = .returned (.tuple #[.pointer none, .int .i64 2])) ∨ (ruNewE own ip bits = 0 ∧ ∃ p, e = .returned (.tuple #[.pointer (some ⟨p, 0, none⟩), .int .i64 0]) ∧ TabC w' w.heap.size p (.slice none 0 0) ⟨own, ip, bits, []⟩)) := by
  have c1 := fun u => may_ ip bits u hi hb
  have c2 := fun u => has_ ip bits own u hi ho hb
  obtain ⟨m, hm⟩ : ∃ v, mayV ip bits = v := ⟨_, rfl⟩
  obtain ⟨h, hh⟩ : ∃ v, hasV ip bits own = v := ⟨_, rfl⟩
  rw [hm] at c1
  rw [hh] at c2
  have key : m = false ∨ (m = true ∧ h = true) ∨ (m = true ∧ h = false) := by cases m <;> cases h <;> simp
  have HE := Lib.hid (And.intro hm hh)
  clear hm hh
  rcases key with rfl | ⟨rfl, rfl⟩ | ⟨rfl, rfl⟩
  · go_enter Try.func10, Try.ntmps10
    have B1 := Below.refl w.heap.size w
    go_upto_region 1 with fail
    have Q_2 := Box2.make w (.int .u32 (ip : Int)) (.int .i64 bits) 31
    have B3 := B1.alloc B1.size (.cells #[.int .u32 (ip : Int), .int .i64 bits] 31)
    clear B1
    obtain ⟨u1, hu1⟩ : ∃ x_ : World, x_ = w.alloc (.cells #[.int .u32 (ip : Int), .int .i64 bits] 31) := ⟨_, rfl⟩
    rw [← hu1] at Q_2 B3 ⊢
    clear hu1
    obtain ⟨_, q1_0, q1_1⟩ := id Q_2
    go_wp2_with fail
    refine (c1 _).mono ?_; rintro e w2 ⟨rfl, x2⟩
    have Q_4 := Q_2.on x2
    have B5 := B3.trans (x2.mono B3.size)
    clear q1_0 q1_1 Q_2 B3 x2
    obtain ⟨_, q2_0, q2_1⟩ := id Q_4
    go_wp2
    go_ret2
    exact ⟨B5, .inl ⟨by unfold ruNewE; rw [HE.out.1]; simp, rfl⟩⟩
  · go_enter Try.func10, Try.ntmps10
    have B1 := Below.refl w.heap.size w
    go_upto_region 1 with fail
    have Q_2 := Box2.make w (.int .u32 (ip : Int)) (.int .i64 bits) 31
    have B3 := B1.alloc B1.size (.cells #[.int .u32 (ip : Int), .int .i64 bits] 31)
    clear B1
    obtain ⟨u1, hu1⟩ : ∃ x_ : World, x_ = w.alloc (.cells #[.int .u32 (ip : Int), .int .i64 bits] 31) := ⟨_, rfl⟩
    rw [← hu1] at Q_2 B3 ⊢
    clear hu1
    obtain ⟨_, q1_0, q1_1⟩ := id Q_2
    go_wp2_with fail
    refine (c1 _).mono ?_; rintro e w2 ⟨rfl, x2⟩
    have Q_4 := Q_2.on x2
    have B5 := B3.trans (x2.mono B3.size)
    clear q1_0 q1_1 Q_2 B3 x2
    obtain ⟨_, q2_0, q2_1⟩ := id Q_4
    go_wp2_with fail
    refine (c2 _).mono ?_; rintro e w3 ⟨rfl, x3⟩
    have Q_6 := Q_4.on x3
    have B7 := B5.trans (x3.mono B5.size)
    clear q2_0 q2_1 Q_4 B5 x3
    obtain ⟨_, q3_0, q3_1⟩ := id Q_6
    go_wp2
    go_ret2
    exact ⟨B7, .inl ⟨by unfold ruNewE; rw [HE.out.2]; simp, rfl⟩⟩
  · go_enter Try.func10, Try.ntmps10
    have B1 := Below.refl w.heap.size w
    go_upto_region 1 with fail
    have Q_2 := Box2.make w (.int .u32 (ip : Int)) (.int .i64 bits) 31
    have B3 := B1.alloc B1.size (.cells #[.int .u32 (ip : Int), .int .i64 bits] 31)
    clear B1
    obtain ⟨u1, hu1⟩ : ∃ x_ : World, x_ = w.alloc (.cells #[.int .u32 (ip : Int), .int .i64 bits] 31) := ⟨_, rfl⟩
    rw [← hu1] at Q_2 B3 ⊢
    clear hu1
    obtain ⟨_, q1_0, q1_1⟩ := id Q_2
    go_wp2_with fail
    refine (c1 _).mono ?_; rintro e w2 ⟨rfl, x2⟩
    have Q_4 := Q_2.on x2
    have B5 := B3.trans (x2.mono B3.size)
    clear q1_0 q1_1 Q_2 B3 x2
    obtain ⟨_, q2_0, q2_1⟩ := id Q_4
    go_wp2_with fail
    refine (c2 _).mono ?_; rintro e w3 ⟨rfl, x3⟩
    have Q_6 := Q_4.on x3
    have B7 := B5.trans (x3.mono B5.size)
    clear q2_0 q2_1 Q_4 B5 x3
    obtain ⟨_, q3_0, q3_1⟩ := id Q_6
    go_wp2
    go_ret2
    exact ⟨B7.alloc B7.size (.cells #[.bool true, .int .u32 (own : Int), .int .u32 (ip : Int), .int .i64 bits, .slice none 0 0] 62), .inr ⟨by unfold ruNewE; rw [HE.out.1, HE.out.2]; simp, _, rfl, ⟨Box5.make _ _ _ _ _ _ _, World.ownsRow_nil _ _ _ _, B7.size, by simp [Value.ownBlock], fun i => by simp [go_sem]⟩⟩⟩
set_option maxHeartbeats 4000000 in
set_option maxRecDepth 100000 in
theorem addC_ (t : Tm) (B p : Nat) (v : Value) (i : Int) (x : Ru) (w : World) (H : TabC w B p v t) (hB : B ≤ w.heap.size) (hl : t.rs.length ≤ 32) (h1 : t.ip < 4294967296) (h2 : -9223372036854775808 ≤ t.bits ∧ t.bits ≤ 9223372036854775807) (hr : x.Ok) (i0 : -9223372036854775808 ≤ i) (i1 : i ≤ 9223372036854775807) :
    Calls Try.prog 15 #[.pointer (some ⟨p, 0, none⟩), .int .i64 i, .agg #[.int .i64 x.k, .int .u8 x.pr, .int .u32 (x.si : Int), .int .i64 x.sb, .int .u32 (x.di : Int), .int .i64 x.db, .int .u32 (x.ex : Int), .int .u16 x.fr, .int .u16 x.to, .int .u32 (x.ii : Int), .int .u16 x.ip]] w fun e w' => e = .returned (.int .i64 (ruAddE t i x)) ∧ ∃ v', TabC w' B p v' (ruAddT t i x) ∧ Beside (footC p v) w w' ∧ (v'.ownBlock = v.ownBlock ∨ ∃ g, v'.ownBlock = some g ∧ w.heap.size ≤ g) := by
  have HZ := Lib.hid H
  obtain ⟨a, cap, rfl⟩ := H.row.slice
  have T0 := H.box
  have RZ := Lib.hid H.row.at.2
  clear H
  have eg : ∀ args w, (callFunc 42 args).run Try.prog w = .ok (.enter 42 args) w := enters_of Try.func42 (by kernel_rfl) rfl
  have ck := fun (u : World) (T : Box5 u p (.bool true) (.int .u32 (t.own : Int)) (.int .u32 (t.ip : Int)) (.int .i64 t.bits) (.slice a t.rs.length cap)) => check_ t x p _ u T h1 h2 hr
  have cf := fun (u : World) (T : Box5 u p (.bool true) (.int .u32 (t.own : Int)) (.int .u32 (t.ip : Int)) (.int .i64 t.bits) (.slice a t.rs.length cap)) (R : RulesAt u a t.rs) (hP : Pred 42 #[.pointer (some ⟨w.heap.size, 0, none⟩), .pointer (some ⟨(w.heap.size + 1), 0, none⟩)] (fun r => clashRu t r x) t.rs u) => firstC_ 42 #[.pointer (some ⟨w.heap.size, 0, none⟩), .pointer (some ⟨(w.heap.size + 1), 0, none⟩)] (fun r => clashRu t r x) t p cap a u eg T R (by omega) hP
  have HL := Lib.hid hl
  clear eg h1 h2
  by_cases hm : mayRu t x = false
  · have HV : Hid (ruAddE t i x = 2 ∧ ruAddT t i x = t) := by
      have e : ruAddE t i x = 2 := by unfold ruAddE; rw [if_pos (.inl hm)]
      exact ⟨e, by unfold ruAddT; rw [if_neg (by rw [e]; omega)]⟩
    have hc : ruCheckE t x = 2 := by unfold ruCheckE; rw [if_neg (by rw [hm]; simp)]
    rw [hc] at ck
    clear hc hm
    go_enter Try.func15, Try.ntmps15
    have B1 := Below.refl w.heap.size w
    go_upto_region 1 with fail
    have T_2 := T0.past (o := (.cells #[.pointer (some ⟨p, 0, none⟩)] 24))
    have C_3 := Box1.make w (.pointer (some ⟨p, 0, none⟩)) 24
    have B4 := B1.alloc B1.size (.cells #[.pointer (some ⟨p, 0, none⟩)] 24)
    clear T0 B1
    have T_5 := T_2.past (o := (.cells #[.int .i64 x.k, .int .u8 x.pr, .int .u32 (x.si : Int), .int .i64 x.sb, .int .u32 (x.di : Int), .int .i64 x.db, .int .u32 (x.ex : Int), .int .u16 x.fr, .int .u16 x.to, .int .u32 (x.ii : Int), .int .u16 x.ip] 42))
    have C_6 := C_3.past (o := (.cells #[.int .i64 x.k, .int .u8 x.pr, .int .u32 (x.si : Int), .int .i64 x.sb, .int .u32 (x.di : Int), .int .i64 x.db, .int .u32 (x.ex : Int), .int .u16 x.fr, .int .u16 x.to, .int .u32 (x.ii : Int), .int .u16 x.ip] 42))
    have hs_ : (w.alloc (.cells #[.pointer (some ⟨p, 0, none⟩)] 24)).heap.size = w.heap.size + 1 := by simp
    have X_7 := Box11.make (w.alloc (.cells #[.pointer (some ⟨p, 0, none⟩)] 24)) (.int .i64 x.k) (.int .u8 x.pr) (.int .u32 (x.si : Int)) (.int .i64 x.sb) (.int .u32 (x.di : Int)) (.int .i64 x.db) (.int .u32 (x.ex : Int)) (.int .u16 x.fr) (.int .u16 x.to) (.int .u32 (x.ii : Int)) (.int .u16 x.ip) 42
    rw [hs_] at X_7
    clear hs_
    have B8 := B4.alloc B4.size (.cells #[.int .i64 x.k, .int .u8 x.pr, .int .u32 (x.si : Int), .int .i64 x.sb, .int .u32 (x.di : Int), .int .i64 x.db, .int .u32 (x.ex : Int), .int .u16 x.fr, .int .u16 x.to, .int .u32 (x.ii : Int), .int .u16 x.ip] 42)
    clear T_2 C_3 B4
    obtain ⟨u1, hu1⟩ : ∃ x_ : World, x_ = (w.alloc (.cells #[.pointer (some ⟨p, 0, none⟩)] 24)).alloc (.cells #[.int .i64 x.k, .int .u8 x.pr, .int .u32 (x.si : Int), .int .i64 x.sb, .int .u32 (x.di : Int), .int .i64 x.db, .int .u32 (x.ex : Int), .int .u16 x.fr, .int .u16 x.to, .int .u32 (x.ii : Int), .int .u16 x.ip] 42) := ⟨_, rfl⟩
    rw [← hu1] at T_5 C_6 X_7 B8 ⊢
    clear hu1
    obtain ⟨_, c1_0⟩ := id C_6
    obtain ⟨_, x2_0, x2_1, x2_2, x2_3, x2_4, x2_5, x2_6, x2_7, x2_8, x2_9, x2_10⟩ := id X_7
    obtain ⟨_, t3_0, t3_1, t3_2, t3_3, t3_4⟩ := id T_5
    go_wp2_with fail
    refine (ck _ T_5).mono ?_; rintro e w2 ⟨rfl, x2⟩
    have T_9 := T_5.on x2
    have C_10 := C_6.on x2
    have X_11 := X_7.on x2
    have B12 := B8.trans (x2.mono B8.size)
    clear c1_0 x2_0 x2_1 x2_2 x2_3 x2_4 x2_5 x2_6 x2_7 x2_8 x2_9 x2_10 t3_0 t3_1 t3_2 t3_3 t3_4 T_5 C_6 X_7 B8 x2
    obtain ⟨_, c4_0⟩ := id C_10
    obtain ⟨_, x5_0, x5_1, x5_2, x5_3, x5_4, x5_5, x5_6, x5_7, x5_8, x5_9, x5_10⟩ := id X_11
    obtain ⟨_, t6_0, t6_1, t6_2, t6_3, t6_4⟩ := id T_9
    go_wp2
    go_ret
    rw [HV.out.1, HV.out.2]
    exact ⟨rfl, _, HZ.out.on B12, Beside.of B12, .inl rfl⟩
  have hm' : mayRu t x = true := by simpa using hm
  have hc : ruCheckE t x = 0 := by unfold ruCheckE; rw [if_pos hm']
  rw [hc] at ck
  clear hc hm
  generalize findRu t.rs (fun r => clashRu t r x) = q at *
  obtain ⟨ok, hok⟩ : ∃ o, hitRu t.rs (fun r => clashRu t r x) = o := ⟨_, rfl⟩
  rw [hok] at cf
  have hany : t.rs.any (fun r => clashRu t r x) = ok := hok
  clear hok
  by_cases h : i < 0
  · have HV : Hid (ruAddE t i x = 2 ∧ ruAddT t i x = t) := by
      have e : ruAddE t i x = 2 := by unfold ruAddE; rw [if_pos (.inr (.inl h))]
      exact ⟨e, by unfold ruAddT; rw [if_neg (by rw [e]; omega)]⟩
    have e1 : decide (i < 0) = true := by simpa using h
    clear h hm' hany
    go_enter Try.func15, Try.ntmps15
    have B1 := Below.refl w.heap.size w
    go_upto_region 1 with fail
    have T_2 := T0.past (o := (.cells #[.pointer (some ⟨p, 0, none⟩)] 24))
    have C_3 := Box1.make w (.pointer (some ⟨p, 0, none⟩)) 24
    have B4 := B1.alloc B1.size (.cells #[.pointer (some ⟨p, 0, none⟩)] 24)
    clear T0 B1
    have T_5 := T_2.past (o := (.cells #[.int .i64 x.k, .int .u8 x.pr, .int .u32 (x.si : Int), .int .i64 x.sb, .int .u32 (x.di : Int), .int .i64 x.db, .int .u32 (x.ex : Int), .int .u16 x.fr, .int .u16 x.to, .int .u32 (x.ii : Int), .int .u16 x.ip] 42))
    have C_6 := C_3.past (o := (.cells #[.int .i64 x.k, .int .u8 x.pr, .int .u32 (x.si : Int), .int .i64 x.sb, .int .u32 (x.di : Int), .int .i64 x.db, .int .u32 (x.ex : Int), .int .u16 x.fr, .int .u16 x.to, .int .u32 (x.ii : Int), .int .u16 x.ip] 42))
    have hs_ : (w.alloc (.cells #[.pointer (some ⟨p, 0, none⟩)] 24)).heap.size = w.heap.size + 1 := by simp
    have X_7 := Box11.make (w.alloc (.cells #[.pointer (some ⟨p, 0, none⟩)] 24)) (.int .i64 x.k) (.int .u8 x.pr) (.int .u32 (x.si : Int)) (.int .i64 x.sb) (.int .u32 (x.di : Int)) (.int .i64 x.db) (.int .u32 (x.ex : Int)) (.int .u16 x.fr) (.int .u16 x.to) (.int .u32 (x.ii : Int)) (.int .u16 x.ip) 42
    rw [hs_] at X_7
    clear hs_
    have B8 := B4.alloc B4.size (.cells #[.int .i64 x.k, .int .u8 x.pr, .int .u32 (x.si : Int), .int .i64 x.sb, .int .u32 (x.di : Int), .int .i64 x.db, .int .u32 (x.ex : Int), .int .u16 x.fr, .int .u16 x.to, .int .u32 (x.ii : Int), .int .u16 x.ip] 42)
    clear T_2 C_3 B4
    obtain ⟨u1, hu1⟩ : ∃ x_ : World, x_ = (w.alloc (.cells #[.pointer (some ⟨p, 0, none⟩)] 24)).alloc (.cells #[.int .i64 x.k, .int .u8 x.pr, .int .u32 (x.si : Int), .int .i64 x.sb, .int .u32 (x.di : Int), .int .i64 x.db, .int .u32 (x.ex : Int), .int .u16 x.fr, .int .u16 x.to, .int .u32 (x.ii : Int), .int .u16 x.ip] 42) := ⟨_, rfl⟩
    rw [← hu1] at T_5 C_6 X_7 B8 ⊢
    clear hu1
    obtain ⟨_, c1_0⟩ := id C_6
    obtain ⟨_, x2_0, x2_1, x2_2, x2_3, x2_4, x2_5, x2_6, x2_7, x2_8, x2_9, x2_10⟩ := id X_7
    obtain ⟨_, t3_0, t3_1, t3_2, t3_3, t3_4⟩ := id T_5
    go_wp2_with fail
    refine (ck _ T_5).mono ?_; rintro e w2 ⟨rfl, x2⟩
    have T_9 := T_5.on x2
    have C_10 := C_6.on x2
    have X_11 := X_7.on x2
    have B12 := B8.trans (x2.mono B8.size)
    clear c1_0 x2_0 x2_1 x2_2 x2_3 x2_4 x2_5 x2_6 x2_7 x2_8 x2_9 x2_10 t3_0 t3_1 t3_2 t3_3 t3_4 T_5 C_6 X_7 B8 x2
    obtain ⟨_, c4_0⟩ := id C_10
    obtain ⟨_, x5_0, x5_1, x5_2, x5_3, x5_4, x5_5, x5_6, x5_7, x5_8, x5_9, x5_10⟩ := id X_11
    obtain ⟨_, t6_0, t6_1, t6_2, t6_3, t6_4⟩ := id T_9
    go_wp2_with fail
    refine (cf _ T_9 (RZ.out.on B12) (addP_ t x p _ _ _ t.rs _ T_9 C_10 X_11)).mono ?_; rintro e w3 ⟨rfl, x3⟩
    have T_13 := T_9.on x3
    have C_14 := C_10.on x3
    have X_15 := X_11.on x3
    have B16 := B12.trans (x3.mono B12.size)
    clear c4_0 x5_0 x5_1 x5_2 x5_3 x5_4 x5_5 x5_6 x5_7 x5_8 x5_9 x5_10 t6_0 t6_1 t6_2 t6_3 t6_4 T_9 C_10 X_11 B12 x3
    go_upto_region 5 with fail
    have T_17 := T_13.past (o := (.cells #[.int .i64 q.k, .int .u8 q.pr, .int .u32 (q.si : Int), .int .i64 q.sb, .int .u32 (q.di : Int), .int .i64 q.db, .int .u32 (q.ex : Int), .int .u16 q.fr, .int .u16 q.to, .int .u32 (q.ii : Int), .int .u16 q.ip] 42))
    have C_18 := C_14.past (o := (.cells #[.int .i64 q.k, .int .u8 q.pr, .int .u32 (q.si : Int), .int .i64 q.sb, .int .u32 (q.di : Int), .int .i64 q.db, .int .u32 (q.ex : Int), .int .u16 q.fr, .int .u16 q.to, .int .u32 (q.ii : Int), .int .u16 q.ip] 42))
    have X_19 := X_15.past (o := (.cells #[.int .i64 q.k, .int .u8 q.pr, .int .u32 (q.si : Int), .int .i64 q.sb, .int .u32 (q.di : Int), .int .i64 q.db, .int .u32 (q.ex : Int), .int .u16 q.fr, .int .u16 q.to, .int .u32 (q.ii : Int), .int .u16 q.ip] 42))
    have B20 := B16.alloc B16.size (.cells #[.int .i64 q.k, .int .u8 q.pr, .int .u32 (q.si : Int), .int .i64 q.sb, .int .u32 (q.di : Int), .int .i64 q.db, .int .u32 (q.ex : Int), .int .u16 q.fr, .int .u16 q.to, .int .u32 (q.ii : Int), .int .u16 q.ip] 42)
    clear T_13 C_14 X_15 B16
    obtain ⟨u4, hu4⟩ : ∃ x_ : World, x_ = w3.alloc (.cells #[.int .i64 q.k, .int .u8 q.pr, .int .u32 (q.si : Int), .int .i64 q.sb, .int .u32 (q.di : Int), .int .i64 q.db, .int .u32 (q.ex : Int), .int .u16 q.fr, .int .u16 q.to, .int .u32 (q.ii : Int), .int .u16 q.ip] 42) := ⟨_, rfl⟩
    rw [← hu4] at T_17 C_18 X_19 B20 ⊢
    clear hu4
    obtain ⟨_, c7_0⟩ := id C_18
    obtain ⟨_, t8_0, t8_1, t8_2, t8_3, t8_4⟩ := id T_17
    go_wp2
    go_ret
    rw [HV.out.1, HV.out.2]
    exact ⟨rfl, _, HZ.out.on B20, Beside.of B20, .inl rfl⟩
  have g1 : decide (i < 0) = false := by simpa using h
  have g1n : ¬ (i < 0) := h
  by_cases h : (t.rs.length : Int) < i
  · have HV : Hid (ruAddE t i x = 2 ∧ ruAddT t i x = t) := by
      have e : ruAddE t i x = 2 := by unfold ruAddE; rw [if_pos (.inr (.inr h))]
      exact ⟨e, by unfold ruAddT; rw [if_neg (by rw [e]; omega)]⟩
    have e1 : decide ((t.rs.length : Int) < i) = true := by simpa using h
    clear hm' hany
    go_enter Try.func15, Try.ntmps15
    have B1 := Below.refl w.heap.size w
    go_upto_region 1 with fail
    have T_2 := T0.past (o := (.cells #[.pointer (some ⟨p, 0, none⟩)] 24))
    have C_3 := Box1.make w (.pointer (some ⟨p, 0, none⟩)) 24
    have B4 := B1.alloc B1.size (.cells #[.pointer (some ⟨p, 0, none⟩)] 24)
    clear T0 B1
    have T_5 := T_2.past (o := (.cells #[.int .i64 x.k, .int .u8 x.pr, .int .u32 (x.si : Int), .int .i64 x.sb, .int .u32 (x.di : Int), .int .i64 x.db, .int .u32 (x.ex : Int), .int .u16 x.fr, .int .u16 x.to, .int .u32 (x.ii : Int), .int .u16 x.ip] 42))
    have C_6 := C_3.past (o := (.cells #[.int .i64 x.k, .int .u8 x.pr, .int .u32 (x.si : Int), .int .i64 x.sb, .int .u32 (x.di : Int), .int .i64 x.db, .int .u32 (x.ex : Int), .int .u16 x.fr, .int .u16 x.to, .int .u32 (x.ii : Int), .int .u16 x.ip] 42))
    have hs_ : (w.alloc (.cells #[.pointer (some ⟨p, 0, none⟩)] 24)).heap.size = w.heap.size + 1 := by simp
    have X_7 := Box11.make (w.alloc (.cells #[.pointer (some ⟨p, 0, none⟩)] 24)) (.int .i64 x.k) (.int .u8 x.pr) (.int .u32 (x.si : Int)) (.int .i64 x.sb) (.int .u32 (x.di : Int)) (.int .i64 x.db) (.int .u32 (x.ex : Int)) (.int .u16 x.fr) (.int .u16 x.to) (.int .u32 (x.ii : Int)) (.int .u16 x.ip) 42
    rw [hs_] at X_7
    clear hs_
    have B8 := B4.alloc B4.size (.cells #[.int .i64 x.k, .int .u8 x.pr, .int .u32 (x.si : Int), .int .i64 x.sb, .int .u32 (x.di : Int), .int .i64 x.db, .int .u32 (x.ex : Int), .int .u16 x.fr, .int .u16 x.to, .int .u32 (x.ii : Int), .int .u16 x.ip] 42)
    clear T_2 C_3 B4
    obtain ⟨u1, hu1⟩ : ∃ x_ : World, x_ = (w.alloc (.cells #[.pointer (some ⟨p, 0, none⟩)] 24)).alloc (.cells #[.int .i64 x.k, .int .u8 x.pr, .int .u32 (x.si : Int), .int .i64 x.sb, .int .u32 (x.di : Int), .int .i64 x.db, .int .u32 (x.ex : Int), .int .u16 x.fr, .int .u16 x.to, .int .u32 (x.ii : Int), .int .u16 x.ip] 42) := ⟨_, rfl⟩
    rw [← hu1] at T_5 C_6 X_7 B8 ⊢
    clear hu1
    obtain ⟨_, c1_0⟩ := id C_6
    obtain ⟨_, x2_0, x2_1, x2_2, x2_3, x2_4, x2_5, x2_6, x2_7, x2_8, x2_9, x2_10⟩ := id X_7
    obtain ⟨_, t3_0, t3_1, t3_2, t3_3, t3_4⟩ := id T_5
    go_wp2_with fail
    refine (ck _ T_5).mono ?_; rintro e w2 ⟨rfl, x2⟩
    have T_9 := T_5.on x2
    have C_10 := C_6.on x2
    have X_11 := X_7.on x2
    have B12 := B8.trans (x2.mono B8.size)
    clear c1_0 x2_0 x2_1 x2_2 x2_3 x2_4 x2_5 x2_6 x2_7 x2_8 x2_9 x2_10 t3_0 t3_1 t3_2 t3_3 t3_4 T_5 C_6 X_7 B8 x2
    obtain ⟨_, c4_0⟩ := id C_10
    obtain ⟨_, x5_0, x5_1, x5_2, x5_3, x5_4, x5_5, x5_6, x5_7, x5_8, x5_9, x5_10⟩ := id X_11
    obtain ⟨_, t6_0, t6_1, t6_2, t6_3, t6_4⟩ := id T_9
    go_wp2_with fail
    refine (cf _ T_9 (RZ.out.on B12) (addP_ t x p _ _ _ t.rs _ T_9 C_10 X_11)).mono ?_; rintro e w3 ⟨rfl, x3⟩
    have T_13 := T_9.on x3
    have C_14 := C_10.on x3
    have X_15 := X_11.on x3
    have B16 := B12.trans (x3.mono B12.size)
    clear c4_0 x5_0 x5_1 x5_2 x5_3 x5_4 x5_5 x5_6 x5_7 x5_8 x5_9 x5_10 t6_0 t6_1 t6_2 t6_3 t6_4 T_9 C_10 X_11 B12 x3
    go_upto_region 5 with fail
    have T_17 := T_13.past (o := (.cells #[.int .i64 q.k, .int .u8 q.pr, .int .u32 (q.si : Int), .int .i64 q.sb, .int .u32 (q.di : Int), .int .i64 q.db, .int .u32 (q.ex : Int), .int .u16 q.fr, .int .u16 q.to, .int .u32 (q.ii : Int), .int .u16 q.ip] 42))
    have C_18 := C_14.past (o := (.cells #[.int .i64 q.k, .int .u8 q.pr, .int .u32 (q.si : Int), .int .i64 q.sb, .int .u32 (q.di : Int), .int .i64 q.db, .int .u32 (q.ex : Int), .int .u16 q.fr, .int .u16 q.to, .int .u32 (q.ii : Int), .int .u16 q.ip] 42))
    have X_19 := X_15.past (o := (.cells #[.int .i64 q.k, .int .u8 q.pr, .int .u32 (q.si : Int), .int .i64 q.sb, .int .u32 (q.di : Int), .int .i64 q.db, .int .u32 (q.ex : Int), .int .u16 q.fr, .int .u16 q.to, .int .u32 (q.ii : Int), .int .u16 q.ip] 42))
    have B20 := B16.alloc B16.size (.cells #[.int .i64 q.k, .int .u8 q.pr, .int .u32 (q.si : Int), .int .i64 q.sb, .int .u32 (q.di : Int), .int .i64 q.db, .int .u32 (q.ex : Int), .int .u16 q.fr, .int .u16 q.to, .int .u32 (q.ii : Int), .int .u16 q.ip] 42)
    clear T_13 C_14 X_15 B16
    obtain ⟨u4, hu4⟩ : ∃ x_ : World, x_ = w3.alloc (.cells #[.int .i64 q.k, .int .u8 q.pr, .int .u32 (q.si : Int), .int .i64 q.sb, .int .u32 (q.di : Int), .int .i64 q.db, .int .u32 (q.ex : Int), .int .u16 q.fr, .int .u16 q.to, .int .u32 (q.ii : Int), .int .u16 q.ip] 42) := ⟨_, rfl⟩
    rw [← hu4] at T_17 C_18 X_19 B20 ⊢
    clear hu4
    obtain ⟨_, c7_0⟩ := id C_18
    obtain ⟨_, t8_0, t8_1, t8_2, t8_3, t8_4⟩ := id T_17
    go_wp2
    go_ret
    rw [HV.out.1, HV.out.2]
    exact ⟨rfl, _, HZ.out.on B20, Beside.of B20, .inl rfl⟩
  have g2 : decide ((t.rs.length : Int) < i) = false := by simpa using h
  have g2n : ¬ ((t.rs.length : Int) < i) := h
  have g3 : ¬ (mayRu t x = false ∨ i < 0 ∨ (t.rs.length : Int) < i) := by rw [hm']; intro k; rcases k with k | k | k; exact absurd k (by decide); exact g1n k; exact g2n k
  clear h hm'
  by_cases h : 31 < t.rs.length
  · have HV : Hid (ruAddE t i x = 5 ∧ ruAddT t i x = t) := by
      have e : ruAddE t i x = 5 := by unfold ruAddE; rw [if_neg g3, if_pos h]
      exact ⟨e, by unfold ruAddT; rw [if_neg (by rw [e]; omega)]⟩
    have e1 : decide ((32 : Int) ≤ (t.rs.length : Int)) = true := by simp; omega
    have e2 : decide (32 ≤ t.rs.length) = true := by simp; omega
    clear g3 hany
    go_enter Try.func15, Try.ntmps15
    have B1 := Below.refl w.heap.size w
    go_upto_region 1 with fail
    have T_2 := T0.past (o := (.cells #[.pointer (some ⟨p, 0, none⟩)] 24))
    have C_3 := Box1.make w (.pointer (some ⟨p, 0, none⟩)) 24
    have B4 := B1.alloc B1.size (.cells #[.pointer (some ⟨p, 0, none⟩)] 24)
    clear T0 B1
    have T_5 := T_2.past (o := (.cells #[.int .i64 x.k, .int .u8 x.pr, .int .u32 (x.si : Int), .int .i64 x.sb, .int .u32 (x.di : Int), .int .i64 x.db, .int .u32 (x.ex : Int), .int .u16 x.fr, .int .u16 x.to, .int .u32 (x.ii : Int), .int .u16 x.ip] 42))
    have C_6 := C_3.past (o := (.cells #[.int .i64 x.k, .int .u8 x.pr, .int .u32 (x.si : Int), .int .i64 x.sb, .int .u32 (x.di : Int), .int .i64 x.db, .int .u32 (x.ex : Int), .int .u16 x.fr, .int .u16 x.to, .int .u32 (x.ii : Int), .int .u16 x.ip] 42))
    have hs_ : (w.alloc (.cells #[.pointer (some ⟨p, 0, none⟩)] 24)).heap.size = w.heap.size + 1 := by simp
    have X_7 := Box11.make (w.alloc (.cells #[.pointer (some ⟨p, 0, none⟩)] 24)) (.int .i64 x.k) (.int .u8 x.pr) (.int .u32 (x.si : Int)) (.int .i64 x.sb) (.int .u32 (x.di : Int)) (.int .i64 x.db) (.int .u32 (x.ex : Int)) (.int .u16 x.fr) (.int .u16 x.to) (.int .u32 (x.ii : Int)) (.int .u16 x.ip) 42
    rw [hs_] at X_7
    clear hs_
    have B8 := B4.alloc B4.size (.cells #[.int .i64 x.k, .int .u8 x.pr, .int .u32 (x.si : Int), .int .i64 x.sb, .int .u32 (x.di : Int), .int .i64 x.db, .int .u32 (x.ex : Int), .int .u16 x.fr, .int .u16 x.to, .int .u32 (x.ii : Int), .int .u16 x.ip] 42)
    clear T_2 C_3 B4
    obtain ⟨u1, hu1⟩ : ∃ x_ : World, x_ = (w.alloc (.cells #[.pointer (some ⟨p, 0, none⟩)] 24)).alloc (.cells #[.int .i64 x.k, .int .u8 x.pr, .int .u32 (x.si : Int), .int .i64 x.sb, .int .u32 (x.di : Int), .int .i64 x.db, .int .u32 (x.ex : Int), .int .u16 x.fr, .int .u16 x.to, .int .u32 (x.ii : Int), .int .u16 x.ip] 42) := ⟨_, rfl⟩
    rw [← hu1] at T_5 C_6 X_7 B8 ⊢
    clear hu1
    obtain ⟨_, c1_0⟩ := id C_6
    obtain ⟨_, x2_0, x2_1, x2_2, x2_3, x2_4, x2_5, x2_6, x2_7, x2_8, x2_9, x2_10⟩ := id X_7
    obtain ⟨_, t3_0, t3_1, t3_2, t3_3, t3_4⟩ := id T_5
    go_wp2_with fail
    refine (ck _ T_5).mono ?_; rintro e w2 ⟨rfl, x2⟩
    have T_9 := T_5.on x2
    have C_10 := C_6.on x2
    have X_11 := X_7.on x2
    have B12 := B8.trans (x2.mono B8.size)
    clear c1_0 x2_0 x2_1 x2_2 x2_3 x2_4 x2_5 x2_6 x2_7 x2_8 x2_9 x2_10 t3_0 t3_1 t3_2 t3_3 t3_4 T_5 C_6 X_7 B8 x2
    obtain ⟨_, c4_0⟩ := id C_10
    obtain ⟨_, x5_0, x5_1, x5_2, x5_3, x5_4, x5_5, x5_6, x5_7, x5_8, x5_9, x5_10⟩ := id X_11
    obtain ⟨_, t6_0, t6_1, t6_2, t6_3, t6_4⟩ := id T_9
    go_wp2_with fail
    refine (cf _ T_9 (RZ.out.on B12) (addP_ t x p _ _ _ t.rs _ T_9 C_10 X_11)).mono ?_; rintro e w3 ⟨rfl, x3⟩
    have T_13 := T_9.on x3
    have C_14 := C_10.on x3
    have X_15 := X_11.on x3
    have B16 := B12.trans (x3.mono B12.size)
    clear c4_0 x5_0 x5_1 x5_2 x5_3 x5_4 x5_5 x5_6 x5_7 x5_8 x5_9 x5_10 t6_0 t6_1 t6_2 t6_3 t6_4 T_9 C_10 X_11 B12 x3
    go_upto_region 5 with fail
    have T_17 := T_13.past (o := (.cells #[.int .i64 q.k, .int .u8 q.pr, .int .u32 (q.si : Int), .int .i64 q.sb, .int .u32 (q.di : Int), .int .i64 q.db, .int .u32 (q.ex : Int), .int .u16 q.fr, .int .u16 q.to, .int .u32 (q.ii : Int), .int .u16 q.ip] 42))
    have C_18 := C_14.past (o := (.cells #[.int .i64 q.k, .int .u8 q.pr, .int .u32 (q.si : Int), .int .i64 q.sb, .int .u32 (q.di : Int), .int .i64 q.db, .int .u32 (q.ex : Int), .int .u16 q.fr, .int .u16 q.to, .int .u32 (q.ii : Int), .int .u16 q.ip] 42))
    have X_19 := X_15.past (o := (.cells #[.int .i64 q.k, .int .u8 q.pr, .int .u32 (q.si : Int), .int .i64 q.sb, .int .u32 (q.di : Int), .int .i64 q.db, .int .u32 (q.ex : Int), .int .u16 q.fr, .int .u16 q.to, .int .u32 (q.ii : Int), .int .u16 q.ip] 42))
    have B20 := B16.alloc B16.size (.cells #[.int .i64 q.k, .int .u8 q.pr, .int .u32 (q.si : Int), .int .i64 q.sb, .int .u32 (q.di : Int), .int .i64 q.db, .int .u32 (q.ex : Int), .int .u16 q.fr, .int .u16 q.to, .int .u32 (q.ii : Int), .int .u16 q.ip] 42)
    clear T_13 C_14 X_15 B16
    obtain ⟨u4, hu4⟩ : ∃ x_ : World, x_ = w3.alloc (.cells #[.int .i64 q.k, .int .u8 q.pr, .int .u32 (q.si : Int), .int .i64 q.sb, .int .u32 (q.di : Int), .int .i64 q.db, .int .u32 (q.ex : Int), .int .u16 q.fr, .int .u16 q.to, .int .u32 (q.ii : Int), .int .u16 q.ip] 42) := ⟨_, rfl⟩
    rw [← hu4] at T_17 C_18 X_19 B20 ⊢
    clear hu4
    obtain ⟨_, c7_0⟩ := id C_18
    obtain ⟨_, t8_0, t8_1, t8_2, t8_3, t8_4⟩ := id T_17
    go_wp2
    go_ret
    rw [HV.out.1, HV.out.2]
    exact ⟨rfl, _, HZ.out.on B20, Beside.of B20, .inl rfl⟩
  have g4 : decide ((32 : Int) ≤ (t.rs.length : Int)) = false := by simp; omega
  have g5 : decide (32 ≤ t.rs.length) = false := by simp; omega
  have g4n : ¬ ((32 : Int) ≤ (t.rs.length : Int)) := by omega
  have g6 := h
  clear h
  cases ok with
  | true =>
    have HV : Hid (ruAddE t i x = 11 ∧ ruAddT t i x = t) := by
      have e : ruAddE t i x = 11 := by unfold ruAddE; rw [if_neg g3, if_neg g6, if_pos hany]
      exact ⟨e, by unfold ruAddT; rw [if_neg (by rw [e]; omega)]⟩
    clear g3 g6 hany
    go_enter Try.func15, Try.ntmps15
    have B1 := Below.refl w.heap.size w
    go_upto_region 1 with fail
    have T_2 := T0.past (o := (.cells #[.pointer (some ⟨p, 0, none⟩)] 24))
    have C_3 := Box1.make w (.pointer (some ⟨p, 0, none⟩)) 24
    have B4 := B1.alloc B1.size (.cells #[.pointer (some ⟨p, 0, none⟩)] 24)
    clear T0 B1
    have T_5 := T_2.past (o := (.cells #[.int .i64 x.k, .int .u8 x.pr, .int .u32 (x.si : Int), .int .i64 x.sb, .int .u32 (x.di : Int), .int .i64 x.db, .int .u32 (x.ex : Int), .int .u16 x.fr, .int .u16 x.to, .int .u32 (x.ii : Int), .int .u16 x.ip] 42))
    have C_6 := C_3.past (o := (.cells #[.int .i64 x.k, .int .u8 x.pr, .int .u32 (x.si : Int), .int .i64 x.sb, .int .u32 (x.di : Int), .int .i64 x.db, .int .u32 (x.ex : Int), .int .u16 x.fr, .int .u16 x.to, .int .u32 (x.ii : Int), .int .u16 x.ip] 42))
    have hs_ : (w.alloc (.cells #[.pointer (some ⟨p, 0, none⟩)] 24)).heap.size = w.heap.size + 1 := by simp
    have X_7 := Box11.make (w.alloc (.cells #[.pointer (some ⟨p, 0, none⟩)] 24)) (.int .i64 x.k) (.int .u8 x.pr) (.int .u32 (x.si : Int)) (.int .i64 x.sb) (.int .u32 (x.di : Int)) (.int .i64 x.db) (.int .u32 (x.ex : Int)) (.int .u16 x.fr) (.int .u16 x.to) (.int .u32 (x.ii : Int)) (.int .u16 x.ip) 42
    rw [hs_] at X_7
    clear hs_
    have B8 := B4.alloc B4.size (.cells #[.int .i64 x.k, .int .u8 x.pr, .int .u32 (x.si : Int), .int .i64 x.sb, .int .u32 (x.di : Int), .int .i64 x.db, .int .u32 (x.ex : Int), .int .u16 x.fr, .int .u16 x.to, .int .u32 (x.ii : Int), .int .u16 x.ip] 42)
    clear T_2 C_3 B4
    obtain ⟨u1, hu1⟩ : ∃ x_ : World, x_ = (w.alloc (.cells #[.pointer (some ⟨p, 0, none⟩)] 24)).alloc (.cells #[.int .i64 x.k, .int .u8 x.pr, .int .u32 (x.si : Int), .int .i64 x.sb, .int .u32 (x.di : Int), .int .i64 x.db, .int .u32 (x.ex : Int), .int .u16 x.fr, .int .u16 x.to, .int .u32 (x.ii : Int), .int .u16 x.ip] 42) := ⟨_, rfl⟩
    rw [← hu1] at T_5 C_6 X_7 B8 ⊢
    clear hu1
    obtain ⟨_, c1_0⟩ := id C_6
    obtain ⟨_, x2_0, x2_1, x2_2, x2_3, x2_4, x2_5, x2_6, x2_7, x2_8, x2_9, x2_10⟩ := id X_7
    obtain ⟨_, t3_0, t3_1, t3_2, t3_3, t3_4⟩ := id T_5
    go_wp2_with fail
    refine (ck _ T_5).mono ?_; rintro e w2 ⟨rfl, x2⟩
    have T_9 := T_5.on x2
    have C_10 := C_6.on x2
    have X_11 := X_7.on x2
    have B12 := B8.trans (x2.mono B8.size)
    clear c1_0 x2_0 x2_1 x2_2 x2_3 x2_4 x2_5 x2_6 x2_7 x2_8 x2_9 x2_10 t3_0 t3_1 t3_2 t3_3 t3_4 T_5 C_6 X_7 B8 x2
    obtain ⟨_, c4_0⟩ := id C_10
    obtain ⟨_, x5_0, x5_1, x5_2, x5_3, x5_4, x5_5, x5_6, x5_7, x5_8, x5_9, x5_10⟩ := id X_11
    obtain ⟨_, t6_0, t6_1, t6_2, t6_3, t6_4⟩ := id T_9
    go_wp2_with fail
    refine (cf _ T_9 (RZ.out.on B12) (addP_ t x p _ _ _ t.rs _ T_9 C_10 X_11)).mono ?_; rintro e w3 ⟨rfl, x3⟩
    have T_13 := T_9.on x3
    have C_14 := C_10.on x3
    have X_15 := X_11.on x3
    have B16 := B12.trans (x3.mono B12.size)
    clear c4_0 x5_0 x5_1 x5_2 x5_3 x5_4 x5_5 x5_6 x5_7 x5_8 x5_9 x5_10 t6_0 t6_1 t6_2 t6_3 t6_4 T_9 C_10 X_11 B12 x3
    go_upto_region 5 with fail
    have T_17 := T_13.past (o := (.cells #[.int .i64 q.k, .int .u8 q.pr, .int .u32 (q.si : Int), .int .i64 q.sb, .int .u32 (q.di : Int), .int .i64 q.db, .int .u32 (q.ex : Int), .int .u16 q.fr, .int .u16 q.to, .int .u32 (q.ii : Int), .int .u16 q.ip] 42))
    have C_18 := C_14.past (o := (.cells #[.int .i64 q.k, .int .u8 q.pr, .int .u32 (q.si : Int), .int .i64 q.sb, .int .u32 (q.di : Int), .int .i64 q.db, .int .u32 (q.ex : Int), .int .u16 q.fr, .int .u16 q.to, .int .u32 (q.ii : Int), .int .u16 q.ip] 42))
    have X_19 := X_15.past (o := (.cells #[.int .i64 q.k, .int .u8 q.pr, .int .u32 (q.si : Int), .int .i64 q.sb, .int .u32 (q.di : Int), .int .i64 q.db, .int .u32 (q.ex : Int), .int .u16 q.fr, .int .u16 q.to, .int .u32 (q.ii : Int), .int .u16 q.ip] 42))
    have B20 := B16.alloc B16.size (.cells #[.int .i64 q.k, .int .u8 q.pr, .int .u32 (q.si : Int), .int .i64 q.sb, .int .u32 (q.di : Int), .int .i64 q.db, .int .u32 (q.ex : Int), .int .u16 q.fr, .int .u16 q.to, .int .u32 (q.ii : Int), .int .u16 q.ip] 42)
    clear T_13 C_14 X_15 B16
    obtain ⟨u4, hu4⟩ : ∃ x_ : World, x_ = w3.alloc (.cells #[.int .i64 q.k, .int .u8 q.pr, .int .u32 (q.si : Int), .int .i64 q.sb, .int .u32 (q.di : Int), .int .i64 q.db, .int .u32 (q.ex : Int), .int .u16 q.fr, .int .u16 q.to, .int .u32 (q.ii : Int), .int .u16 q.ip] 42) := ⟨_, rfl⟩
    rw [← hu4] at T_17 C_18 X_19 B20 ⊢
    clear hu4
    obtain ⟨_, c7_0⟩ := id C_18
    obtain ⟨_, t8_0, t8_1, t8_2, t8_3, t8_4⟩ := id T_17
    go_wp2
    go_ret
    rw [HV.out.1, HV.out.2]
    exact ⟨rfl, _, HZ.out.on B20, Beside.of B20, .inl rfl⟩
  | false =>
    obtain ⟨k, rfl⟩ : ∃ k : Nat, i = (k : Int) := ⟨i.toNat, by omega⟩
    have hk : k ≤ t.rs.length := by omega
    have HV : Hid (ruAddE t (k : Int) x = 0 ∧ ruAddT t (k : Int) x = { t with rs := t.rs.take k ++ x :: t.rs.drop k }) := by
      have e : ruAddE t (k : Int) x = 0 := by unfold ruAddE; rw [if_neg g3, if_neg g6, if_neg (by rw [hany]; decide)]
      exact ⟨e, by unfold ruAddT; rw [if_pos e, Int.toNat_natCast]⟩
    clear g3 g6 hany
    go_enter Try.func15, Try.ntmps15
    have B1 := Below.refl w.heap.size w
    go_upto_region 1 with fail
    have T_2 := T0.past (o := (.cells #[.pointer (some ⟨p, 0, none⟩)] 24))
    have C_3 := Box1.make w (.pointer (some ⟨p, 0, none⟩)) 24
    have B4 := B1.alloc B1.size (.cells #[.pointer (some ⟨p, 0, none⟩)] 24)
    clear T0 B1
    have T_5 := T_2.past (o := (.cells #[.int .i64 x.k, .int .u8 x.pr, .int .u32 (x.si : Int), .int .i64 x.sb, .int .u32 (x.di : Int), .int .i64 x.db, .int .u32 (x.ex : Int), .int .u16 x.fr, .int .u16 x.to, .int .u32 (x.ii : Int), .int .u16 x.ip] 42))
    have C_6 := C_3.past (o := (.cells #[.int .i64 x.k, .int .u8 x.pr, .int .u32 (x.si : Int), .int .i64 x.sb, .int .u32 (x.di : Int), .int .i64 x.db, .int .u32 (x.ex : Int), .int .u16 x.fr, .int .u16 x.to, .int .u32 (x.ii : Int), .int .u16 x.ip] 42))
    have hs_ : (w.alloc (.cells #[.pointer (some ⟨p, 0, none⟩)] 24)).heap.size = w.heap.size + 1 := by simp
    have X_7 := Box11.make (w.alloc (.cells #[.pointer (some ⟨p, 0, none⟩)] 24)) (.int .i64 x.k) (.int .u8 x.pr) (.int .u32 (x.si : Int)) (.int .i64 x.sb) (.int .u32 (x.di : Int)) (.int .i64 x.db) (.int .u32 (x.ex : Int)) (.int .u16 x.fr) (.int .u16 x.to) (.int .u32 (x.ii : Int)) (.int .u16 x.ip) 42
    rw [hs_] at X_7
    clear hs_
    have B8 := B4.alloc B4.size (.cells #[.int .i64 x.k, .int .u8 x.pr, .int .u32 (x.si : Int), .int .i64 x.sb, .int .u32 (x.di : Int), .int .i64 x.db, .int .u32 (x.ex : Int), .int .u16 x.fr, .int .u16 x.to, .int .u32 (x.ii : Int), .int .u16 x.ip] 42)
    clear T_2 C_3 B4
    obtain ⟨u1, hu1⟩ : ∃ x_ : World, x_ = (w.alloc (.cells #[.pointer (some ⟨p, 0, none⟩)] 24)).alloc (.cells #[.int .i64 x.k, .int .u8 x.pr, .int .u32 (x.si : Int), .int .i64 x.sb, .int .u32 (x.di : Int), .int .i64 x.db, .int .u32 (x.ex : Int), .int .u16 x.fr, .int .u16 x.to, .int .u32 (x.ii : Int), .int .u16 x.ip] 42) := ⟨_, rfl⟩
    rw [← hu1] at T_5 C_6 X_7 B8 ⊢
    clear hu1
    obtain ⟨_, c1_0⟩ := id C_6
    obtain ⟨_, x2_0, x2_1, x2_2, x2_3, x2_4, x2_5, x2_6, x2_7, x2_8, x2_9, x2_10⟩ := id X_7
    obtain ⟨_, t3_0, t3_1, t3_2, t3_3, t3_4⟩ := id T_5
    go_wp2_with fail
    refine (ck _ T_5).mono ?_; rintro e w2 ⟨rfl, x2⟩
    have T_9 := T_5.on x2
    have C_10 := C_6.on x2
    have X_11 := X_7.on x2
    have B12 := B8.trans (x2.mono B8.size)
    clear c1_0 x2_0 x2_1 x2_2 x2_3 x2_4 x2_5 x2_6 x2_7 x2_8 x2_9 x2_10 t3_0 t3_1 t3_2 t3_3 t3_4 T_5 C_6 X_7 B8 x2
    obtain ⟨_, c4_0⟩ := id C_10
    obtain ⟨_, x5_0, x5_1, x5_2, x5_3, x5_4, x5_5, x5_6, x5_7, x5_8, x5_9, x5_10⟩ := id X_11
    obtain ⟨_, t6_0, t6_1, t6_2, t6_3, t6_4⟩ := id T_9
    go_wp2_with fail
    refine (cf _ T_9 (RZ.out.on B12) (addP_ t x p _ _ _ t.rs _ T_9 C_10 X_11)).mono ?_; rintro e w3 ⟨rfl, x3⟩
    have T_13 := T_9.on x3
    have C_14 := C_10.on x3
    have X_15 := X_11.on x3
    have B16 := B12.trans (x3.mono B12.size)
    clear c4_0 x5_0 x5_1 x5_2 x5_3 x5_4 x5_5 x5_6 x5_7 x5_8 x5_9 x5_10 t6_0 t6_1 t6_2 t6_3 t6_4 T_9 C_10 X_11 B12 x3
    go_upto_region 5 with fail
    have T_17 := T_13.past (o := (.cells #[.int .i64 q.k, .int .u8 q.pr, .int .u32 (q.si : Int), .int .i64 q.sb, .int .u32 (q.di : Int), .int .i64 q.db, .int .u32 (q.ex : Int), .int .u16 q.fr, .int .u16 q.to, .int .u32 (q.ii : Int), .int .u16 q.ip] 42))
    have C_18 := C_14.past (o := (.cells #[.int .i64 q.k, .int .u8 q.pr, .int .u32 (q.si : Int), .int .i64 q.sb, .int .u32 (q.di : Int), .int .i64 q.db, .int .u32 (q.ex : Int), .int .u16 q.fr, .int .u16 q.to, .int .u32 (q.ii : Int), .int .u16 q.ip] 42))
    have X_19 := X_15.past (o := (.cells #[.int .i64 q.k, .int .u8 q.pr, .int .u32 (q.si : Int), .int .i64 q.sb, .int .u32 (q.di : Int), .int .i64 q.db, .int .u32 (q.ex : Int), .int .u16 q.fr, .int .u16 q.to, .int .u32 (q.ii : Int), .int .u16 q.ip] 42))
    have B20 := B16.alloc B16.size (.cells #[.int .i64 q.k, .int .u8 q.pr, .int .u32 (q.si : Int), .int .i64 q.sb, .int .u32 (q.di : Int), .int .i64 q.db, .int .u32 (q.ex : Int), .int .u16 q.fr, .int .u16 q.to, .int .u32 (q.ii : Int), .int .u16 q.ip] 42)
    clear T_13 C_14 X_15 B16
    obtain ⟨u4, hu4⟩ : ∃ x_ : World, x_ = w3.alloc (.cells #[.int .i64 q.k, .int .u8 q.pr, .int .u32 (q.si : Int), .int .i64 q.sb, .int .u32 (q.di : Int), .int .i64 q.db, .int .u32 (q.ex : Int), .int .u16 q.fr, .int .u16 q.to, .int .u32 (q.ii : Int), .int .u16 q.ip] 42) := ⟨_, rfl⟩
    rw [← hu4] at T_17 C_18 X_19 B20 ⊢
    clear hu4
    obtain ⟨_, c7_0⟩ := id C_18
    obtain ⟨_, t8_0, t8_1, t8_2, t8_3, t8_4⟩ := id T_17
    go_upto_region 11 with fail
    clear c7_0 t8_0 t8_1 t8_2 t8_3 t8_4
    obtain ⟨_, c9_0⟩ := id C_18
    obtain ⟨_, x10_0, x10_1, x10_2, x10_3, x10_4, x10_5, x10_6, x10_7, x10_8, x10_9, x10_10⟩ := id X_19
    obtain ⟨_, t11_0, t11_1, t11_2, t11_3, t11_4⟩ := id T_17
    have H1 := HZ.out.on B20
    have HH := Lib.hid H1
    clear H1
    have zw : w.heap.size + 1 < u4.heap.size := X_19.1
    have KC := Lib.hid C_18
    have KX := Lib.hid X_19
    refine region_till 11 (fun w' => w'.cell? ⟨w.heap.size, 0, none⟩ = some (.pointer (some ⟨p, 0, none⟩)) ∧ w'.cell? ⟨w.heap.size + 1, 0, none⟩ = some (.int .i64 x.k) ∧ w'.cell? ⟨w.heap.size + 1, 1, none⟩ = some (.int .u8 x.pr) ∧ w'.cell? ⟨w.heap.size + 1, 2, none⟩ = some (.int .u32 (x.si : Int)) ∧ w'.cell? ⟨w.heap.size + 1, 3, none⟩ = some (.int .i64 x.sb) ∧ w'.cell? ⟨w.heap.size + 1, 4, none⟩ = some (.int .u32 (x.di : Int)) ∧ w'.cell? ⟨w.heap.size + 1, 5, none⟩ = some (.int .i64 x.db) ∧ w'.cell? ⟨w.heap.size + 1, 6, none⟩ = some (.int .u32 (x.ex : Int)) ∧ w'.cell? ⟨w.heap.size + 1, 7, none⟩ = some (.int .u16 x.fr) ∧ w'.cell? ⟨w.heap.size + 1, 8, none⟩ = some (.int .u16 x.to) ∧ w'.cell? ⟨w.heap.size + 1, 9, none⟩ = some (.int .u32 (x.ii : Int)) ∧ w'.cell? ⟨w.heap.size + 1, 10, none⟩ = some (.int .u16 x.ip) ∧ w'.cell? ⟨p, 4, none⟩ = some (.slice a t.rs.length cap)) (by kernel_rfl) ?_ (fun hHeld => ?_)
    · simp [c9_0, x10_0, x10_1, x10_2, x10_3, x10_4, x10_5, x10_6, x10_7, x10_8, x10_9, x10_10, t11_0, t11_1, t11_2, t11_3, t11_4]
    clear c9_0 x10_0 x10_1 x10_2 x10_3 x10_4 x10_5 x10_6 x10_7 x10_8 x10_9 x10_10 t11_0 t11_1 t11_2 t11_3 t11_4
    refine till_take (i := 0) (oi := _) (v := ?_) rfl (by kernel_rfl) (by kernel_rfl) (by kernel_rfl) (by kernel_rfl) (by rfl) (fun _ _ _ h => h) (Or.inl ⟨by rfl, ?_⟩) (by assumption) ?_
    rotate_left
    · intro w hSw
      (try dsimp only at hSw)
      obtain ⟨q0, q1, q2, q3, q4, q5, q6, q7, q8, q9, q10, q11, q12⟩ := hSw
      go_simp
      with_reducible rfl
    try simp only [Act.put, List.setIfInBounds_toArray, List.set_cons_zero, List.set_cons_succ]
    refine till_take (i := 1) (oi := _) (v := ?_) rfl (by kernel_rfl) (by kernel_rfl) (by kernel_rfl) (by kernel_rfl) (by rfl) (fun _ _ _ h => h) (Or.inl ⟨by rfl, ?_⟩) (by assumption) ?_
    rotate_left
    · intro w hSw
      (try dsimp only at hSw)
      obtain ⟨q0, q1, q2, q3, q4, q5, q6, q7, q8, q9, q10, q11, q12⟩ := hSw
      go_simp
      with_reducible rfl
    try simp only [Act.put, List.setIfInBounds_toArray, List.set_cons_zero, List.set_cons_succ]
    refine till_take (i := 2) (oi := _) (v := ?_) rfl (by kernel_rfl) (by kernel_rfl) (by kernel_rfl) (by kernel_rfl) (by rfl) (fun _ _ _ h => h) (Or.inl ⟨by rfl, ?_⟩) (by assumption) ?_
    rotate_left
    · intro w hSw
      (try dsimp only at hSw)
      go_simp
      with_reducible rfl
    try simp only [Act.put, List.setIfInBounds_toArray, List.set_cons_zero, List.set_cons_succ]
    refine till_take (i := 3) (oi := _) (v := ?_) rfl (by kernel_rfl) (by kernel_rfl) (by kernel_rfl) (by kernel_rfl) (by rfl) (fun _ _ _ h => h) (Or.inl ⟨by rfl, ?_⟩) (by assumption) ?_
    rotate_left
    · intro w hSw
      (try dsimp only at hSw)
      go_simp
      with_reducible rfl
    try simp only [Act.put, List.setIfInBounds_toArray, List.set_cons_zero, List.set_cons_succ]
    refine till_take (i := 4) (oi := _) (v := ?_) rfl (by kernel_rfl) (by kernel_rfl) (by kernel_rfl) (by kernel_rfl) (by rfl) (fun _ _ _ h => h) (Or.inl ⟨by rfl, ?_⟩) (by assumption) ?_
    rotate_left
    · intro w hSw
      (try dsimp only at hSw)
      obtain ⟨q0, q1, q2, q3, q4, q5, q6, q7, q8, q9, q10, q11, q12⟩ := hSw
      go_simp
      with_reducible rfl
    try simp only [Act.put, List.setIfInBounds_toArray, List.set_cons_zero, List.set_cons_succ]
    refine till_take (i := 5) (oi := _) (v := ?_) rfl (by kernel_rfl) (by kernel_rfl) (by kernel_rfl) (by kernel_rfl) (by rfl) (fun _ _ _ h => h) (Or.inl ⟨by rfl, ?_⟩) (by assumption) ?_
    rotate_left
    · intro w hSw
      (try dsimp only at hSw)
      go_simp
      with_reducible rfl
    try simp only [Act.put, List.setIfInBounds_toArray, List.set_cons_zero, List.set_cons_succ]
    refine till_take (i := 6) (oi := _) (v := ?_) rfl (by kernel_rfl) (by kernel_rfl) (by kernel_rfl) (by kernel_rfl) (by rfl) (fun _ _ _ h => h) (Or.inl ⟨by rfl, ?_⟩) (by assumption) ?_
    rotate_left
    · intro w hSw
      (try dsimp only at hSw)
      obtain ⟨q0, q1, q2, q3, q4, q5, q6, q7, q8, q9, q10, q11, q12⟩ := hSw
      go_simp
      with_reducible rfl
    try simp only [Act.put, List.setIfInBounds_toArray, List.set_cons_zero, List.set_cons_succ]
    refine till_ready (rs := [7]) (by kernel_rfl) (by simp) ?_
    refine TillAll.cons (o := _) rfl (by rfl) (fun K hK => ?_) TillAll.nil
    go_simp
    have b1 : Below u4.heap.size u4 (u4.alloc (.cells #[.int .i64 x.k, .int .u8 x.pr, .int .u32 (x.si : Int), .int .i64 x.sb, .int .u32 (x.di : Int), .int .i64 x.db, .int .u32 (x.ex : Int), .int .u16 x.fr, .int .u16 x.to, .int .u32 (x.ii : Int), .int .u16 x.ip] 42)).drew := ((Below.refl _ _).alloc (Nat.le_refl _) _).drew
    obtain ⟨uA, huA⟩ : ∃ z : World, z = (u4.alloc (.cells #[.int .i64 x.k, .int .u8 x.pr, .int .u32 (x.si : Int), .int .i64 x.sb, .int .u32 (x.di : Int), .int .i64 x.db, .int .u32 (x.ex : Int), .int .u16 x.fr, .int .u16 x.to, .int .u32 (x.ii : Int), .int .u16 x.ip] 42)).drew := ⟨_, rfl⟩
    have hA1 : uA.heap[u4.heap.size]? = some (.cells x.vals.toArray 42 (0, 0)) := by rw [huA]; exact heap_alloc_new u4 _
    rw [← huA] at b1 ⊢
    clear huA hHeld
    have C2 := KC.out.on b1
    have X2 := KX.out.on b1
    have H2 := HH.out.on b1
    have su : u4.heap.size < uA.heap.size := (Array.getElem?_eq_some_iff.1 hA1).1
    refine hK.out _ _ ⟨C2.2, X2.2.1, X2.2.2.1, X2.2.2.2.1, X2.2.2.2.2.1, X2.2.2.2.2.2.1, X2.2.2.2.2.2.2.1, X2.2.2.2.2.2.2.2.1, X2.2.2.2.2.2.2.2.2.1, X2.2.2.2.2.2.2.2.2.2.1, X2.2.2.2.2.2.2.2.2.2.2.1, X2.2.2.2.2.2.2.2.2.2.2.2, H2.box.2.2.2.2.2⟩ (fun _ => ?_)
    clear hK K
    try simp only [Act.put, List.setIfInBounds_toArray, List.set_cons_zero, List.set_cons_succ]
    refine till_ready (rs := [8]) (by kernel_rfl) (by simp) ?_
    refine TillAll.cons (o := _) rfl (by rfl) (fun K hK => ?_) TillAll.nil
    go_simp
    have hvb : ∀ g, Value.ownBlock (.slice a t.rs.length cap) = some g → g < u4.heap.size := fun g hg => (HH.out.row.lt g hg).2
    refine (insert_ B _ t.rs x k u4.heap.size _ H2.row (by omega) hk (Nat.le_trans hB (Nat.le_trans B20.size (Nat.le_of_lt su))) hA1 (fun e => by have := hvb _ e; omega)).mono ?_
    rintro e w9 ⟨v9, rfl, r9, g9, o9⟩
    have BG := Beside.grown g9
    have zg := g9.size
    have np : ¬ (Value.ownBlock (.slice a t.rs.length cap) = some p) := H2.ne
    have T9 := H2.box.keep zg (g9.block p H2.box.1 (fun e => np e.symm))
    have F9 : ∀ i, w9.frozen? ⟨p, i, none⟩ = false := fun i => (BG.frozen (p := ⟨p, i, none⟩) H2.box.1 np).trans (H2.fz i)
    have nb : ∀ j, w.heap.size ≤ j → j < u4.heap.size → ¬ (Value.ownBlock (.slice a t.rs.length cap) = some j) := fun j hj _ e => by have := (HZ.out.row.lt j e).2; omega
    have C9 : w9.cell? ⟨w.heap.size, 0, none⟩ = some (.pointer (some ⟨p, 0, none⟩)) := (BG.cell (p := ⟨w.heap.size, 0, none⟩) (by show w.heap.size < uA.heap.size; omega) (nb _ (Nat.le_refl _) (by omega))).trans C2.2
    have X9 := fun (j : Nat) (y : Value) (h : uA.cell? ⟨w.heap.size + 1, j, none⟩ = some y) => (BG.cell (p := ⟨w.heap.size + 1, j, none⟩) (by show w.heap.size + 1 < uA.heap.size; omega) (nb _ (Nat.le_succ _) zw)).trans h
    obtain ⟨a9, c9, rfl⟩ := r9.slice
    generalize hN9 : (t.rs.take k ++ x :: t.rs.drop k).length = N9 at r9 o9 ⊢
    have KN := Lib.hid hN9
    clear hN9
    show K _ w9
    refine hK.out _ _ ⟨C9, X9 _ _ X2.2.1, X9 _ _ X2.2.2.1, X9 _ _ X2.2.2.2.1, X9 _ _ X2.2.2.2.2.1, X9 _ _ X2.2.2.2.2.2.1, X9 _ _ X2.2.2.2.2.2.2.1, X9 _ _ X2.2.2.2.2.2.2.2.1, X9 _ _ X2.2.2.2.2.2.2.2.2.1, X9 _ _ X2.2.2.2.2.2.2.2.2.2.1, X9 _ _ X2.2.2.2.2.2.2.2.2.2.2.1, X9 _ _ X2.2.2.2.2.2.2.2.2.2.2.2, T9.2.2.2.2.2⟩ (fun hS9 => ?_)
    clear hK K X9 C9
    try simp only [Act.put, List.setIfInBounds_toArray, List.set_cons_zero, List.set_cons_succ]
    refine till_ready (rs := [9]) (by kernel_rfl) (by simp) ?_
    refine TillAll.cons (o := _) rfl (by rfl) (fun K hK => ?_) TillAll.nil
    go_simp
    refine hK.out _ _ hS9 (fun _ => ?_)
    clear hK K
    try simp only [Act.put, List.setIfInBounds_toArray, List.set_cons_zero, List.set_cons_succ]
    refine till_take (i := 10) (oi := _) (v := ?_) rfl (by kernel_rfl) (by kernel_rfl) (by kernel_rfl) (by kernel_rfl) (by rfl) (fun _ _ _ h => h) (Or.inl ⟨by rfl, ?_⟩) (by assumption) ?_
    rotate_left
    · intro w hSw
      (try dsimp only at hSw)
      go_simp
      with_reducible rfl
    try simp only [Act.put, List.setIfInBounds_toArray, List.set_cons_zero, List.set_cons_succ]
    have KT := Lib.hid T9
    have KF := Lib.hid F9
    have K9 := Lib.hid (And.intro H2 (And.intro r9 (And.intro BG (And.intro o9 (And.intro b1 su)))))
    clear H2 r9 BG g9 o9 b1 X2 C2 hA1 nb hvb np zg
    obtain ⟨_, t0, t1, t2, t3, t4⟩ := id T9
    clear hS9
    refine till_last (by kernel_rfl) (by kernel_rfl) rfl (fun K hK => ?_)
    go_simp
    refine hK.out _ _ ?_
    clear hK K
    go_wp2
    go_ret
    rw [HV.out.1, HV.out.2]
    obtain ⟨H2, r9, BG, o9, b1, su⟩ := K9.out
    have bA : Below w.heap.size w uA := B20.trans (b1.mono B20.size)
    have b9 : Beside (footC p (.slice a t.rs.length cap)) w w9 := (Beside.of bA).seq BG (fun _ _ e => .inr e)
    refine ⟨rfl, _, TabC.stored (t := t) KT.out KF.out H2.low r9 (fun e => ?_) rfl rfl rfl, b9.setCell (p := ⟨p, 4, none⟩) (.inl rfl) _, ?_⟩
    · rcases o9 with o9 | ⟨g, o9, hg⟩
      · exact H2.ne (o9.symm.trans e)
      · rw [e] at o9
        have := H2.box.1
        have : p = g := by simpa using o9
        omega
    · rcases o9 with o9 | ⟨g, o9, hg⟩
      · exact .inl o9
      · exact .inr ⟨g, o9, Nat.le_trans bA.size hg⟩
end Go.Proofs.Ytoogegpkgohffaa
