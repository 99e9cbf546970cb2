/- Texts of this proof, together: RulZ, RulesNone, RulesNoneW. -/
import Derived.Test.YtoogegpkgohffaaRd
import Derived.Test.YtoogegpkgohffaaRf
namespace Go.Proofs.Ytoogegpkgohffaa
set_option linter.unusedVariables false
set_option linter.unusedSimpArgs false
open Go.ChangeShapes Go.WideShapes Go.ChangeAt Go.RowKit Go.PlainAid
attribute [local go_sem ↓] Go.wp_at_zero Go.wp_at_succ
/-- A table that is none: whenever it is asked, from now on. -/
def None (w : World) (V : Value) : Prop := (∀ u, Below w.heap.size w u → Calls Try.prog 38 #[V] u fun e w' => e = .returned (.bool true) ∧ Below u.heap.size u w')
theorem None.on {w w' : World} {V : Value} (h : None w V) (b : Below w.heap.size w w') : None w' V := fun u c => h u (b.trans (c.mono b.size))
set_option maxHeartbeats 1000000 in
set_option maxRecDepth 100000 in
theorem none_nil (w : World) : None w (.pointer none) := by
  intro u hb
  go_enter Try.func38, Try.ntmps38
  have B1 := Below.refl u.heap.size u
  go_wp2
  go_ret
  exact ⟨rfl, B1⟩
set_option maxHeartbeats 1000000 in
set_option maxRecDepth 100000 in
theorem none_zero (p : Nat) (v1 v2 v3 v4 : Value) (w : World) (T0 : Box5 w p (.bool false) v1 v2 v3 v4) : None w (.pointer (some ⟨p, 0, none⟩)) := by
  intro u hb
  have T1 := T0.on hb
  go_enter Try.func38, Try.ntmps38
  have B1 := Below.refl u.heap.size u
  obtain ⟨_, t1_0, t1_1, t1_2, t1_3, t1_4⟩ := id T1
  go_wp2
  go_ret
  exact ⟨rfl, B1⟩
set_option maxHeartbeats 1000000 in
set_option maxRecDepth 100000 in
theorem checkN (r : Ru) (V : Option Addr) (w : World) (hn : None w (.pointer V)) :
    Calls Try.prog 13 #[.pointer V, .agg #[.int .i64 r.k, .int .u8 r.pr, .int .u32 (r.si : Int), .int .i64 r.sb, .int .u32 (r.di : Int), .int .i64 r.db, .int .u32 (r.ex : Int), .int .u16 r.fr, .int .u16 r.to, .int .u32 (r.ii : Int), .int .u16 r.ip]] w fun e w' => e = .returned (.int .i64 1) ∧ Below w.heap.size w w' := by
  have n := fun (u : World) (b : Below w.heap.size w u) => hn u b
  clear hn
  go_enter Try.func13, Try.ntmps13
  have B1 := Below.refl w.heap.size w
  go_upto_region 1 with fail
  have R_2 := Box11.make w (.int .i64 r.k) (.int .u8 r.pr) (.int .u32 (r.si : Int)) (.int .i64 r.sb) (.int .u32 (r.di : Int)) (.int .i64 r.db) (.int .u32 (r.ex : Int)) (.int .u16 r.fr) (.int .u16 r.to) (.int .u32 (r.ii : Int)) (.int .u16 r.ip) 42
  have B3 := B1.alloc B1.size (.cells #[.int .i64 r.k, .int .u8 r.pr, .int .u32 (r.si : Int), .int .i64 r.sb, .int .u32 (r.di : Int), .int .i64 r.db, .int .u32 (r.ex : Int), .int .u16 r.fr, .int .u16 r.to, .int .u32 (r.ii : Int), .int .u16 r.ip] 42)
  clear B1
  obtain ⟨u1, hu1⟩ : ∃ x_ : World, x_ = w.alloc (.cells #[.int .i64 r.k, .int .u8 r.pr, .int .u32 (r.si : Int), .int .i64 r.sb, .int .u32 (r.di : Int), .int .i64 r.db, .int .u32 (r.ex : Int), .int .u16 r.fr, .int .u16 r.to, .int .u32 (r.ii : Int), .int .u16 r.ip] 42) := ⟨_, rfl⟩
  rw [← hu1] at R_2 B3 ⊢
  clear hu1
  obtain ⟨_, r1_0, r1_1, r1_2, r1_3, r1_4, r1_5, r1_6, r1_7, r1_8, r1_9, r1_10⟩ := id R_2
  go_wp2_with fail
  refine (n _ B3).mono ?_; rintro e w2 ⟨rfl, x2⟩
  have R_4 := R_2.on x2
  have B5 := B3.trans (x2.mono B3.size)
  clear r1_0 r1_1 r1_2 r1_3 r1_4 r1_5 r1_6 r1_7 r1_8 r1_9 r1_10 R_2 B3 x2
  obtain ⟨_, r2_0, r2_1, r2_2, r2_3, r2_4, r2_5, r2_6, r2_7, r2_8, r2_9, r2_10⟩ := id R_4
  go_wp2
  go_ret
  exact ⟨rfl, B5⟩
set_option maxHeartbeats 1000000 in
set_option maxRecDepth 100000 in
theorem deleteN (i : Int) (V : Option Addr) (w : World) (hn : None w (.pointer V)) :
    Calls Try.prog 17 #[.pointer V, .int .i64 i] w fun e w' => e = .returned (.int .i64 1) ∧ Below w.heap.size w w' := by
  have n := fun (u : World) (b : Below w.heap.size w u) => hn u b
  clear hn
  go_enter Try.func17, Try.ntmps17
  have B1 := Below.refl w.heap.size w
  go_upto_region 1 with fail
  go_wp2_with fail
  refine (n _ B1).mono ?_; rintro e w1 ⟨rfl, x1⟩
  have B2 := B1.trans (x1.mono B1.size)
  clear B1 x1
  go_wp2
  go_ret
  exact ⟨rfl, B2⟩
set_option maxHeartbeats 1000000 in
set_option maxRecDepth 100000 in
theorem listN  (V : Option Addr) (w : World) (hn : None w (.pointer V)) :
    Calls Try.prog 21 #[.pointer V] w fun e w' => e = .returned (.slice none 0 0) ∧ Below w.heap.size w w' := by
  have n := fun (u : World) (b : Below w.heap.size w u) => hn u b
  clear hn
  go_enter Try.func21, Try.ntmps21
  have B1 := Below.refl w.heap.size w
  go_upto_region 1 with fail
  go_wp2_with fail
  refine (n _ B1).mono ?_; rintro e w1 ⟨rfl, x1⟩
  have B2 := B1.trans (x1.mono B1.size)
  clear B1 x1
  go_wp2
  go_ret
  exact ⟨rfl, B2⟩
set_option maxHeartbeats 1000000 in
set_option maxRecDepth 100000 in
theorem copyN  (V : Option Addr) (w : World) (hn : None w (.pointer V)) :
    Calls Try.prog 19 #[.pointer V] w fun e w' => e = .returned (.pointer none) ∧ Below w.heap.size w w' := by
  have n := fun (u : World) (b : Below w.heap.size w u) => hn u b
  clear hn
  go_enter Try.func19, Try.ntmps19
  have B1 := Below.refl w.heap.size w
  go_upto_region 1 with fail
  go_wp2_with fail
  refine (n _ B1).mono ?_; rintro e w1 ⟨rfl, x1⟩
  have B2 := B1.trans (x1.mono B1.size)
  clear B1 x1
  go_wp2
  go_ret
  exact ⟨rfl, B2⟩
set_option maxHeartbeats 1000000 in
set_option maxRecDepth 100000 in
theorem innerN (a : Int) (V : Option Addr) (w : World) (hn : None w (.pointer V)) :
    Calls Try.prog 23 #[.pointer V, .int .u32 a] w fun e w' => e = .returned (.bool false) ∧ Below w.heap.size w w' := by
  have n := fun (u : World) (b : Below w.heap.size w u) => hn u b
  clear hn
  go_enter Try.func23, Try.ntmps23
  have B1 := Below.refl w.heap.size w
  go_upto_region 1 with fail
  go_wp2_with fail
  refine (n _ B1).mono ?_; rintro e w1 ⟨rfl, x1⟩
  have B2 := B1.trans (x1.mono B1.size)
  clear B1 x1
  go_wp2
  go_ret
  exact ⟨rfl, B2⟩
set_option maxHeartbeats 1000000 in
set_option maxRecDepth 100000 in
theorem outerN (a : Int) (V : Option Addr) (w : World) (hn : None w (.pointer V)) :
    Calls Try.prog 25 #[.pointer V, .int .u32 a] w fun e w' => e = .returned (.bool false) ∧ Below w.heap.size w w' := by
  have n := fun (u : World) (b : Below w.heap.size w u) => hn u b
  clear hn
  go_enter Try.func25, Try.ntmps25
  have B1 := Below.refl w.heap.size w
  go_upto_region 1 with fail
  have C_2 := Box1.make w (.pointer V) 24
  have B3 := B1.alloc B1.size (.cells #[.pointer V] 24)
  clear B1
  have C_4 := C_2.past (o := (.cells #[.int .u32 a] 29))
  have hs_ : (w.alloc (.cells #[.pointer V] 24)).heap.size = w.heap.size + 1 := by simp
  have A_5 := Box1.make (w.alloc (.cells #[.pointer V] 24)) (.int .u32 a) 29
  rw [hs_] at A_5
  clear hs_
  have B6 := B3.alloc B3.size (.cells #[.int .u32 a] 29)
  clear C_2 B3
  obtain ⟨u1, hu1⟩ : ∃ x_ : World, x_ = (w.alloc (.cells #[.pointer V] 24)).alloc (.cells #[.int .u32 a] 29) := ⟨_, rfl⟩
  rw [← hu1] at C_4 A_5 B6 ⊢
  clear hu1
  obtain ⟨_, c1_0⟩ := id C_4
  obtain ⟨_, a2_0⟩ := id A_5
  go_wp2_with fail
  refine (n _ B6).mono ?_; rintro e w2 ⟨rfl, x2⟩
  have C_7 := C_4.on x2
  have A_8 := A_5.on x2
  have B9 := B6.trans (x2.mono B6.size)
  clear c1_0 a2_0 C_4 A_5 B6 x2
  obtain ⟨_, c3_0⟩ := id C_7
  obtain ⟨_, a4_0⟩ := id A_8
  go_wp2
  go_ret
  exact ⟨rfl, B9⟩
set_option maxHeartbeats 4000000 in
set_option maxRecDepth 100000 in
theorem firstZ_ (g : Nat) (lb : Array Value) (V : Option Addr) (w : World) (hn : None w (.pointer V)) :
    Calls Try.prog 41 #[.pointer V, .func (.func g) #[] lb] w fun e w' => e = .returned (.tuple #[.agg #[.int .i64 0, .int .u8 0, .int .u32 0, .int .i64 0, .int .u32 0, .int .i64 0, .int .u32 0, .int .u16 0, .int .u16 0, .int .u32 0, .int .u16 0], .bool false]) ∧ Below w.heap.size w w' := by
  have n := fun (u : World) (b : Below w.heap.size w u) => hn u b
  clear hn
  go_enter Try.func41, Try.ntmps41
  have B1 := Below.refl w.heap.size w
  go_upto_region 1 with fail
  have Z_2 := Box11.make w (.int .i64 0) (.int .u8 0) (.int .u32 0) (.int .i64 0) (.int .u32 0) (.int .i64 0) (.int .u32 0) (.int .u16 0) (.int .u16 0) (.int .u32 0) (.int .u16 0) 42
  have B3 := B1.alloc B1.size (.cells #[.int .i64 0, .int .u8 0, .int .u32 0, .int .i64 0, .int .u32 0, .int .i64 0, .int .u32 0, .int .u16 0, .int .u16 0, .int .u32 0, .int .u16 0] 42)
  clear B1
  have fzZ_4 : ∀ i, (w.alloc (.cells #[.int .i64 0, .int .u8 0, .int .u32 0, .int .i64 0, .int .u32 0, .int .i64 0, .int .u32 0, .int .u16 0, .int .u16 0, .int .u32 0, .int .u16 0] 42)).frozen? ⟨w.heap.size, i, none⟩ = false := by intro i; simp [go_sem]
  obtain ⟨u1, hu1⟩ : ∃ x_ : World, x_ = w.alloc (.cells #[.int .i64 0, .int .u8 0, .int .u32 0, .int .i64 0, .int .u32 0, .int .i64 0, .int .u32 0, .int .u16 0, .int .u16 0, .int .u32 0, .int .u16 0] 42) := ⟨_, rfl⟩
  rw [← hu1] at Z_2 fzZ_4 B3 ⊢
  clear hu1
  go_wp2_with fail
  refine (n _ B3).mono ?_; rintro e w2 ⟨rfl, x2⟩
  have fzZ_5 : ∀ i, w2.frozen? ⟨w.heap.size, i, none⟩ = false := fun i => (x2.frozen (p := ⟨_, i, none⟩) Z_2.1).trans (fzZ_4 i)
  clear fzZ_4
  have Z_6 := Z_2.on x2
  have B7 := B3.trans (x2.mono B3.size)
  clear Z_2 B3 x2
  obtain ⟨_, z1_0, z1_1, z1_2, z1_3, z1_4, z1_5, z1_6, z1_7, z1_8, z1_9, z1_10⟩ := id Z_6
  go_wp2
  refine box11_ (b := w.heap.size) Z_6.some B7 (Nat.le_refl _) fun X x0_ x1_ x2_ x3_ x4_ x5_ x6_ x7_ x8_ x9_ x10_ BX _ _ => ?_
  refine bodyPost_ret (v := .tuple #[.agg #[.int .i64 0, .int .u8 0, .int .u32 0, .int .i64 0, .int .u32 0, .int .i64 0, .int .u32 0, .int .u16 0, .int .u16 0, .int .u32 0, .int .u16 0], .bool false]) (by simp [results, Try.results41, go_sem, x0_, x1_, x2_, x3_, x4_, x5_, x6_, x7_, x8_, x9_, x10_]) rfl ?_
  exact ⟨rfl, BX⟩
set_option maxHeartbeats 4000000 in
set_option maxRecDepth 100000 in
theorem staticN (pr ep ea : Int) (V : Option Addr) (w : World) (hn : None w (.pointer V)) :
    Calls Try.prog 27 #[.pointer V, .int .u8 pr, .agg #[.int .u32 ea, .int .u16 ep]] w fun e w' => e = .returned (.tuple #[.agg #[.int .i64 0, .int .u8 0, .int .u32 0, .int .i64 0, .int .u32 0, .int .i64 0, .int .u32 0, .int .u16 0, .int .u16 0, .int .u32 0, .int .u16 0], .bool false]) ∧ Below w.heap.size w w' := by
  have n := fun (u : World) (b : Below w.heap.size w u) => hn u b
  clear hn
  have c := fun (u : World) (b : Below w.heap.size w u) => firstZ_ 54 #[.pointer (some ⟨w.heap.size, 0, none⟩), .pointer (some ⟨(w.heap.size + 1), 0, none⟩)] V u (fun u2 b2 => n u2 (b.trans (b2.mono b.size)))
  clear n
  go_enter Try.func27, Try.ntmps27
  have B1 := Below.refl w.heap.size w
  go_upto_region 1 with fail
  have C_2 := Box1.make w (.int .u8 pr) 5
  have B3 := B1.alloc B1.size (.cells #[.int .u8 pr] 5)
  clear B1
  have C_4 := C_2.past (o := (.cells #[.int .u32 ea, .int .u16 ep] 40))
  have hs_ : (w.alloc (.cells #[.int .u8 pr] 5)).heap.size = w.heap.size + 1 := by simp
  have E_5 := Box2.make (w.alloc (.cells #[.int .u8 pr] 5)) (.int .u32 ea) (.int .u16 ep) 40
  rw [hs_] at E_5
  clear hs_
  have B6 := B3.alloc B3.size (.cells #[.int .u32 ea, .int .u16 ep] 40)
  clear C_2 B3
  have C_7 := C_4.past (o := (.cells #[.int .i64 0, .int .u8 0, .int .u32 0, .int .i64 0, .int .u32 0, .int .i64 0, .int .u32 0, .int .u16 0, .int .u16 0, .int .u32 0, .int .u16 0] 42))
  have E_8 := E_5.past (o := (.cells #[.int .i64 0, .int .u8 0, .int .u32 0, .int .i64 0, .int .u32 0, .int .i64 0, .int .u32 0, .int .u16 0, .int .u16 0, .int .u32 0, .int .u16 0] 42))
  have hs_ : ((w.alloc (.cells #[.int .u8 pr] 5)).alloc (.cells #[.int .u32 ea, .int .u16 ep] 40)).heap.size = w.heap.size + 2 := by simp
  have Z_9 := Box11.make ((w.alloc (.cells #[.int .u8 pr] 5)).alloc (.cells #[.int .u32 ea, .int .u16 ep] 40)) (.int .i64 0) (.int .u8 0) (.int .u32 0) (.int .i64 0) (.int .u32 0) (.int .i64 0) (.int .u32 0) (.int .u16 0) (.int .u16 0) (.int .u32 0) (.int .u16 0) 42
  rw [hs_] at Z_9
  clear hs_
  have B10 := B6.alloc B6.size (.cells #[.int .i64 0, .int .u8 0, .int .u32 0, .int .i64 0, .int .u32 0, .int .i64 0, .int .u32 0, .int .u16 0, .int .u16 0, .int .u32 0, .int .u16 0] 42)
  clear C_4 E_5 B6
  have fzZ_11 : ∀ i, (((w.alloc (.cells #[.int .u8 pr] 5)).alloc (.cells #[.int .u32 ea, .int .u16 ep] 40)).alloc (.cells #[.int .i64 0, .int .u8 0, .int .u32 0, .int .i64 0, .int .u32 0, .int .i64 0, .int .u32 0, .int .u16 0, .int .u16 0, .int .u32 0, .int .u16 0] 42)).frozen? ⟨(w.heap.size + 2), i, none⟩ = false := by intro i; simp [go_sem]
  obtain ⟨u1, hu1⟩ : ∃ x_ : World, x_ = ((w.alloc (.cells #[.int .u8 pr] 5)).alloc (.cells #[.int .u32 ea, .int .u16 ep] 40)).alloc (.cells #[.int .i64 0, .int .u8 0, .int .u32 0, .int .i64 0, .int .u32 0, .int .i64 0, .int .u32 0, .int .u16 0, .int .u16 0, .int .u32 0, .int .u16 0] 42) := ⟨_, rfl⟩
  rw [← hu1] at C_7 E_8 Z_9 fzZ_11 B10 ⊢
  clear hu1
  go_wp2_with fail
  refine (c _ B10).mono ?_; rintro e w2 ⟨rfl, x2⟩
  have fzZ_12 : ∀ i, w2.frozen? ⟨(w.heap.size + 2), i, none⟩ = false := fun i => (x2.frozen (p := ⟨_, i, none⟩) Z_9.1).trans (fzZ_11 i)
  clear fzZ_11
  have C_13 := C_7.on x2
  have E_14 := E_8.on x2
  have Z_15 := Z_9.on x2
  have B16 := B10.trans (x2.mono B10.size)
  clear C_7 E_8 Z_9 B10 x2
  obtain ⟨_, z1_0, z1_1, z1_2, z1_3, z1_4, z1_5, z1_6, z1_7, z1_8, z1_9, z1_10⟩ := id Z_15
  go_wp2
  refine box11_ (b := w.heap.size + 2) Z_15.some B16 (Nat.le_add_right _ _) fun X x0_ x1_ x2_ x3_ x4_ x5_ x6_ x7_ x8_ x9_ x10_ BX _ _ => ?_
  refine bodyPost_ret (v := .tuple #[.agg #[.int .i64 0, .int .u8 0, .int .u32 0, .int .i64 0, .int .u32 0, .int .i64 0, .int .u32 0, .int .u16 0, .int .u16 0, .int .u32 0, .int .u16 0], .bool false]) (by simp [results, Try.results27, go_sem, x0_, x1_, x2_, x3_, x4_, x5_, x6_, x7_, x8_, x9_, x10_]) rfl ?_
  exact ⟨rfl, BX⟩
set_option maxHeartbeats 4000000 in
set_option maxRecDepth 100000 in
theorem ownN_ (pr ep ea : Int) (V : Option Addr) (w : World) (hn : None w (.pointer V)) :
    Calls Try.prog 28 #[.pointer V, .int .u8 pr, .agg #[.int .u32 ea, .int .u16 ep]] w fun e w' => e = .returned (.tuple #[.agg #[.int .i64 0, .int .u8 0, .int .u32 0, .int .i64 0, .int .u32 0, .int .i64 0, .int .u32 0, .int .u16 0, .int .u16 0, .int .u32 0, .int .u16 0], .bool false]) ∧ Below w.heap.size w w' := by
  have n := fun (u : World) (b : Below w.heap.size w u) => hn u b
  clear hn
  have c := fun (u : World) (b : Below w.heap.size w u) => firstZ_ 57 #[.pointer (some ⟨w.heap.size, 0, none⟩), .pointer (some ⟨(w.heap.size + 1), 0, none⟩)] V u (fun u2 b2 => n u2 (b.trans (b2.mono b.size)))
  clear n
  go_enter Try.func28, Try.ntmps28
  have B1 := Below.refl w.heap.size w
  go_upto_region 1 with fail
  have C_2 := Box1.make w (.int .u8 pr) 5
  have B3 := B1.alloc B1.size (.cells #[.int .u8 pr] 5)
  clear B1
  have C_4 := C_2.past (o := (.cells #[.int .u32 ea, .int .u16 ep] 40))
  have hs_ : (w.alloc (.cells #[.int .u8 pr] 5)).heap.size = w.heap.size + 1 := by simp
  have E_5 := Box2.make (w.alloc (.cells #[.int .u8 pr] 5)) (.int .u32 ea) (.int .u16 ep) 40
  rw [hs_] at E_5
  clear hs_
  have B6 := B3.alloc B3.size (.cells #[.int .u32 ea, .int .u16 ep] 40)
  clear C_2 B3
  have C_7 := C_4.past (o := (.cells #[.int .i64 0, .int .u8 0, .int .u32 0, .int .i64 0, .int .u32 0, .int .i64 0, .int .u32 0, .int .u16 0, .int .u16 0, .int .u32 0, .int .u16 0] 42))
  have E_8 := E_5.past (o := (.cells #[.int .i64 0, .int .u8 0, .int .u32 0, .int .i64 0, .int .u32 0, .int .i64 0, .int .u32 0, .int .u16 0, .int .u16 0, .int .u32 0, .int .u16 0] 42))
  have hs_ : ((w.alloc (.cells #[.int .u8 pr] 5)).alloc (.cells #[.int .u32 ea, .int .u16 ep] 40)).heap.size = w.heap.size + 2 := by simp
  have Z_9 := Box11.make ((w.alloc (.cells #[.int .u8 pr] 5)).alloc (.cells #[.int .u32 ea, .int .u16 ep] 40)) (.int .i64 0) (.int .u8 0) (.int .u32 0) (.int .i64 0) (.int .u32 0) (.int .i64 0) (.int .u32 0) (.int .u16 0) (.int .u16 0) (.int .u32 0) (.int .u16 0) 42
  rw [hs_] at Z_9
  clear hs_
  have B10 := B6.alloc B6.size (.cells #[.int .i64 0, .int .u8 0, .int .u32 0, .int .i64 0, .int .u32 0, .int .i64 0, .int .u32 0, .int .u16 0, .int .u16 0, .int .u32 0, .int .u16 0] 42)
  clear C_4 E_5 B6
  have fzZ_11 : ∀ i, (((w.alloc (.cells #[.int .u8 pr] 5)).alloc (.cells #[.int .u32 ea, .int .u16 ep] 40)).alloc (.cells #[.int .i64 0, .int .u8 0, .int .u32 0, .int .i64 0, .int .u32 0, .int .i64 0, .int .u32 0, .int .u16 0, .int .u16 0, .int .u32 0, .int .u16 0] 42)).frozen? ⟨(w.heap.size + 2), i, none⟩ = false := by intro i; simp [go_sem]
  obtain ⟨u1, hu1⟩ : ∃ x_ : World, x_ = ((w.alloc (.cells #[.int .u8 pr] 5)).alloc (.cells #[.int .u32 ea, .int .u16 ep] 40)).alloc (.cells #[.int .i64 0, .int .u8 0, .int .u32 0, .int .i64 0, .int .u32 0, .int .i64 0, .int .u32 0, .int .u16 0, .int .u16 0, .int .u32 0, .int .u16 0] 42) := ⟨_, rfl⟩
  rw [← hu1] at C_7 E_8 Z_9 fzZ_11 B10 ⊢
  clear hu1
  go_wp2_with fail
  refine (c _ B10).mono ?_; rintro e w2 ⟨rfl, x2⟩
  have fzZ_12 : ∀ i, w2.frozen? ⟨(w.heap.size + 2), i, none⟩ = false := fun i => (x2.frozen (p := ⟨_, i, none⟩) Z_9.1).trans (fzZ_11 i)
  clear fzZ_11
  have C_13 := C_7.on x2
  have E_14 := E_8.on x2
  have Z_15 := Z_9.on x2
  have B16 := B10.trans (x2.mono B10.size)
  clear C_7 E_8 Z_9 B10 x2
  obtain ⟨_, z1_0, z1_1, z1_2, z1_3, z1_4, z1_5, z1_6, z1_7, z1_8, z1_9, z1_10⟩ := id Z_15
  go_wp2
  refine box11_ (b := w.heap.size + 2) Z_15.some B16 (Nat.le_add_right _ _) fun X x0_ x1_ x2_ x3_ x4_ x5_ x6_ x7_ x8_ x9_ x10_ BX _ _ => ?_
  refine bodyPost_ret (v := .tuple #[.agg #[.int .i64 0, .int .u8 0, .int .u32 0, .int .i64 0, .int .u32 0, .int .i64 0, .int .u32 0, .int .u16 0, .int .u16 0, .int .u32 0, .int .u16 0], .bool false]) (by simp [results, Try.results28, go_sem, x0_, x1_, x2_, x3_, x4_, x5_, x6_, x7_, x8_, x9_, x10_]) rfl ?_
  exact ⟨rfl, BX⟩
set_option maxHeartbeats 4000000 in
set_option maxRecDepth 100000 in
theorem sourceN (pr sp dp sa da : Int) (V : Option Addr) (w : World) (hn : None w (.pointer V)) :
    Calls Try.prog 29 #[.pointer V, .agg #[.int .u8 pr, .int .u32 sa, .int .u16 sp, .int .u32 da, .int .u16 dp]] w fun e w' => e = .returned (.tuple #[.agg #[.int .i64 0, .int .u8 0, .int .u32 0, .int .i64 0, .int .u32 0, .int .i64 0, .int .u32 0, .int .u16 0, .int .u16 0, .int .u32 0, .int .u16 0], .bool false]) ∧ Below w.heap.size w w' := by
  have n := fun (u : World) (b : Below w.heap.size w u) => hn u b
  clear hn
  have c := fun (u : World) (b : Below w.heap.size w u) => firstZ_ 58 #[.pointer (some ⟨w.heap.size, 0, none⟩)] V u (fun u2 b2 => n u2 (b.trans (b2.mono b.size)))
  clear n
  go_enter Try.func29, Try.ntmps29
  have B1 := Below.refl w.heap.size w
  go_upto_region 1 with fail
  have X_2 := Box5.make w (.int .u8 pr) (.int .u32 sa) (.int .u16 sp) (.int .u32 da) (.int .u16 dp) 57
  have B3 := B1.alloc B1.size (.cells #[.int .u8 pr, .int .u32 sa, .int .u16 sp, .int .u32 da, .int .u16 dp] 57)
  clear B1
  have X_4 := X_2.past (o := (.cells #[.int .i64 0, .int .u8 0, .int .u32 0, .int .i64 0, .int .u32 0, .int .i64 0, .int .u32 0, .int .u16 0, .int .u16 0, .int .u32 0, .int .u16 0] 42))
  have hs_ : (w.alloc (.cells #[.int .u8 pr, .int .u32 sa, .int .u16 sp, .int .u32 da, .int .u16 dp] 57)).heap.size = w.heap.size + 1 := by simp
  have Z_5 := Box11.make (w.alloc (.cells #[.int .u8 pr, .int .u32 sa, .int .u16 sp, .int .u32 da, .int .u16 dp] 57)) (.int .i64 0) (.int .u8 0) (.int .u32 0) (.int .i64 0) (.int .u32 0) (.int .i64 0) (.int .u32 0) (.int .u16 0) (.int .u16 0) (.int .u32 0) (.int .u16 0) 42
  rw [hs_] at Z_5
  clear hs_
  have B6 := B3.alloc B3.size (.cells #[.int .i64 0, .int .u8 0, .int .u32 0, .int .i64 0, .int .u32 0, .int .i64 0, .int .u32 0, .int .u16 0, .int .u16 0, .int .u32 0, .int .u16 0] 42)
  clear X_2 B3
  have fzZ_7 : ∀ i, ((w.alloc (.cells #[.int .u8 pr, .int .u32 sa, .int .u16 sp, .int .u32 da, .int .u16 dp] 57)).alloc (.cells #[.int .i64 0, .int .u8 0, .int .u32 0, .int .i64 0, .int .u32 0, .int .i64 0, .int .u32 0, .int .u16 0, .int .u16 0, .int .u32 0, .int .u16 0] 42)).frozen? ⟨(w.heap.size + 1), i, none⟩ = false := by intro i; simp [go_sem]
  obtain ⟨u1, hu1⟩ : ∃ x_ : World, x_ = (w.alloc (.cells #[.int .u8 pr, .int .u32 sa, .int .u16 sp, .int .u32 da, .int .u16 dp] 57)).alloc (.cells #[.int .i64 0, .int .u8 0, .int .u32 0, .int .i64 0, .int .u32 0, .int .i64 0, .int .u32 0, .int .u16 0, .int .u16 0, .int .u32 0, .int .u16 0] 42) := ⟨_, rfl⟩
  rw [← hu1] at X_4 Z_5 fzZ_7 B6 ⊢
  clear hu1
  go_wp2_with fail
  refine (c _ B6).mono ?_; rintro e w2 ⟨rfl, x2⟩
  have fzZ_8 : ∀ i, w2.frozen? ⟨(w.heap.size + 1), i, none⟩ = false := fun i => (x2.frozen (p := ⟨_, i, none⟩) Z_5.1).trans (fzZ_7 i)
  clear fzZ_7
  have X_9 := X_4.on x2
  have Z_10 := Z_5.on x2
  have B11 := B6.trans (x2.mono B6.size)
  clear X_4 Z_5 B6 x2
  obtain ⟨_, z1_0, z1_1, z1_2, z1_3, z1_4, z1_5, z1_6, z1_7, z1_8, z1_9, z1_10⟩ := id Z_10
  go_upto_region 2 with fail
  clear z1_0 z1_1 z1_2 z1_3 z1_4 z1_5 z1_6 z1_7 z1_8 z1_9 z1_10
  refine box11f_ (b := w.heap.size + 1) Z_10.some B11 (Nat.le_succ _) fun uX x0_ x1_ x2_ x3_ x4_ x5_ x6_ x7_ x8_ x9_ x10_ BX_ far_ sz_ fzz_ => ?_
  have Z_z : Box11 uX (w.heap.size + 1) (.int .i64 0) (.int .u8 0) (.int .u32 0) (.int .i64 0) (.int .u32 0) (.int .i64 0) (.int .u32 0) (.int .u16 0) (.int .u16 0) (.int .u32 0) (.int .u16 0) := ⟨by rw [sz_]; exact Z_10.1, x0_, x1_, x2_, x3_, x4_, x5_, x6_, x7_, x8_, x9_, x10_⟩
  have fz_z : ∀ i, uX.frozen? ⟨(w.heap.size + 1), i, none⟩ = false := fun i => (fzz_ _).trans (fzZ_8 i)
  clear far_ sz_ fzz_ x0_ x1_ x2_ x3_ x4_ x5_ x6_ x7_ x8_ x9_ x10_ X_9 Z_10 fzZ_8 B11
  obtain ⟨_, z2_0, z2_1, z2_2, z2_3, z2_4, z2_5, z2_6, z2_7, z2_8, z2_9, z2_10⟩ := id Z_z
  go_wp2
  refine box11_ (b := w.heap.size + 1) Z_z.some BX_ (Nat.le_succ _) fun X x0_ x1_ x2_ x3_ x4_ x5_ x6_ x7_ x8_ x9_ x10_ BX _ _ => ?_
  refine bodyPost_ret (v := .tuple #[.agg #[.int .i64 0, .int .u8 0, .int .u32 0, .int .i64 0, .int .u32 0, .int .i64 0, .int .u32 0, .int .u16 0, .int .u16 0, .int .u32 0, .int .u16 0], .bool false]) (by simp [results, Try.results29, go_sem, x0_, x1_, x2_, x3_, x4_, x5_, x6_, x7_, x8_, x9_, x10_]) rfl ?_
  exact ⟨rfl, BX⟩
set_option maxHeartbeats 1000000 in
set_option maxRecDepth 100000 in
theorem addN (i : Int) (r : Ru) (V : Option Addr) (w : World) (hn : None w (.pointer V)) :
    Calls Try.prog 15 #[.pointer V, .int .i64 i, .agg #[.int .i64 r.k, .int .u8 r.pr, .int .u32 (r.si : Int), .int .i64 r.sb, .int .u32 (r.di : Int), .int .i64 r.db, .int .u32 (r.ex : Int), .int .u16 r.fr, .int .u16 r.to, .int .u32 (r.ii : Int), .int .u16 r.ip]] w fun e w' => e = .returned (.int .i64 1) ∧ Below w.heap.size w w' := by
  have n := fun (u : World) (b : Below w.heap.size w u) => hn u b
  clear hn
  have c := fun (u : World) (b : Below w.heap.size w u) => checkN r V u (fun u2 b2 => n u2 (b.trans (b2.mono b.size)))
  clear n
  go_enter Try.func15, Try.ntmps15
  have B1 := Below.refl w.heap.size w
  go_upto_region 1 with fail
  have C_2 := Box1.make w (.pointer V) 24
  have B3 := B1.alloc B1.size (.cells #[.pointer V] 24)
  clear B1
  have C_4 := C_2.past (o := (.cells #[.int .i64 r.k, .int .u8 r.pr, .int .u32 (r.si : Int), .int .i64 r.sb, .int .u32 (r.di : Int), .int .i64 r.db, .int .u32 (r.ex : Int), .int .u16 r.fr, .int .u16 r.to, .int .u32 (r.ii : Int), .int .u16 r.ip] 42))
  have hs_ : (w.alloc (.cells #[.pointer V] 24)).heap.size = w.heap.size + 1 := by simp
  have X_5 := Box11.make (w.alloc (.cells #[.pointer V] 24)) (.int .i64 r.k) (.int .u8 r.pr) (.int .u32 (r.si : Int)) (.int .i64 r.sb) (.int .u32 (r.di : Int)) (.int .i64 r.db) (.int .u32 (r.ex : Int)) (.int .u16 r.fr) (.int .u16 r.to) (.int .u32 (r.ii : Int)) (.int .u16 r.ip) 42
  rw [hs_] at X_5
  clear hs_
  have B6 := B3.alloc B3.size (.cells #[.int .i64 r.k, .int .u8 r.pr, .int .u32 (r.si : Int), .int .i64 r.sb, .int .u32 (r.di : Int), .int .i64 r.db, .int .u32 (r.ex : Int), .int .u16 r.fr, .int .u16 r.to, .int .u32 (r.ii : Int), .int .u16 r.ip] 42)
  clear C_2 B3
  obtain ⟨u1, hu1⟩ : ∃ x_ : World, x_ = (w.alloc (.cells #[.pointer V] 24)).alloc (.cells #[.int .i64 r.k, .int .u8 r.pr, .int .u32 (r.si : Int), .int .i64 r.sb, .int .u32 (r.di : Int), .int .i64 r.db, .int .u32 (r.ex : Int), .int .u16 r.fr, .int .u16 r.to, .int .u32 (r.ii : Int), .int .u16 r.ip] 42) := ⟨_, rfl⟩
  rw [← hu1] at C_4 X_5 B6 ⊢
  clear hu1
  obtain ⟨_, c1_0⟩ := id C_4
  obtain ⟨_, x2_0, x2_1, x2_2, x2_3, x2_4, x2_5, x2_6, x2_7, x2_8, x2_9, x2_10⟩ := id X_5
  go_wp2_with fail
  refine (c _ B6).mono ?_; rintro e w2 ⟨rfl, x2⟩
  have C_7 := C_4.on x2
  have X_8 := X_5.on x2
  have B9 := B6.trans (x2.mono B6.size)
  clear c1_0 x2_0 x2_1 x2_2 x2_3 x2_4 x2_5 x2_6 x2_7 x2_8 x2_9 x2_10 C_4 X_5 B6 x2
  obtain ⟨_, c3_0⟩ := id C_7
  obtain ⟨_, x4_0, x4_1, x4_2, x4_3, x4_4, x4_5, x4_6, x4_7, x4_8, x4_9, x4_10⟩ := id X_8
  go_wp2
  go_ret
  exact ⟨rfl, B9⟩
end Go.Proofs.Ytoogegpkgohffaa
namespace Go.Proofs.Ytoogegpkgohffaa
set_option linter.unusedVariables false
set_option linter.unusedSimpArgs false
open Go.ChangeShapes Go.WideShapes Go.ChangeAt Go.RowKit Go.PlainAid
attribute [local go_sem ↓] Go.wp_at_zero Go.wp_at_succ
namespace RulesNone
set_option maxHeartbeats 4000000 in
set_option maxRecDepth 100000 in
theorem walk (r : Ru) (i xp sa sp da dp : Int) (w : World) :
    Calls Try.prog 5 #[.agg #[.int .i64 r.k, .int .u8 r.pr, .int .u32 (r.si : Int), .int .i64 r.sb, .int .u32 (r.di : Int), .int .i64 r.db, .int .u32 (r.ex : Int), .int .u16 r.fr, .int .u16 r.to, .int .u32 (r.ii : Int), .int .u16 r.ip], .int .i64 i, .agg #[.int .u8 xp, .int .u32 sa, .int .u16 sp, .int .u32 da, .int .u16 dp]] w fun e w' => e = .returned (.bool true) ∧ Below w.heap.size w w' := by
  have rl := fun u => ruled_ u
  go_enter Try.func5, Try.ntmps5
  have B1 := Below.refl w.heap.size w
  go_upto_region 1 with fail
  have R_2 := Box11.make w (.int .i64 r.k) (.int .u8 r.pr) (.int .u32 (r.si : Int)) (.int .i64 r.sb) (.int .u32 (r.di : Int)) (.int .i64 r.db) (.int .u32 (r.ex : Int)) (.int .u16 r.fr) (.int .u16 r.to) (.int .u32 (r.ii : Int)) (.int .u16 r.ip) 42
  have B3 := B1.alloc B1.size (.cells #[.int .i64 r.k, .int .u8 r.pr, .int .u32 (r.si : Int), .int .i64 r.sb, .int .u32 (r.di : Int), .int .i64 r.db, .int .u32 (r.ex : Int), .int .u16 r.fr, .int .u16 r.to, .int .u32 (r.ii : Int), .int .u16 r.ip] 42)
  clear B1
  have R_4 := R_2.past (o := (.cells #[.int .u8 xp, .int .u32 sa, .int .u16 sp, .int .u32 da, .int .u16 dp] 57))
  have hs_ : (w.alloc (.cells #[.int .i64 r.k, .int .u8 r.pr, .int .u32 (r.si : Int), .int .i64 r.sb, .int .u32 (r.di : Int), .int .i64 r.db, .int .u32 (r.ex : Int), .int .u16 r.fr, .int .u16 r.to, .int .u32 (r.ii : Int), .int .u16 r.ip] 42)).heap.size = w.heap.size + 1 := by simp
  have X_5 := Box5.make (w.alloc (.cells #[.int .i64 r.k, .int .u8 r.pr, .int .u32 (r.si : Int), .int .i64 r.sb, .int .u32 (r.di : Int), .int .i64 r.db, .int .u32 (r.ex : Int), .int .u16 r.fr, .int .u16 r.to, .int .u32 (r.ii : Int), .int .u16 r.ip] 42)) (.int .u8 xp) (.int .u32 sa) (.int .u16 sp) (.int .u32 da) (.int .u16 dp) 57
  rw [hs_] at X_5
  clear hs_
  have B6 := B3.alloc B3.size (.cells #[.int .u8 xp, .int .u32 sa, .int .u16 sp, .int .u32 da, .int .u16 dp] 57)
  clear R_2 B3
  obtain ⟨u1, hu1⟩ : ∃ x_ : World, x_ = (w.alloc (.cells #[.int .i64 r.k, .int .u8 r.pr, .int .u32 (r.si : Int), .int .i64 r.sb, .int .u32 (r.di : Int), .int .i64 r.db, .int .u32 (r.ex : Int), .int .u16 r.fr, .int .u16 r.to, .int .u32 (r.ii : Int), .int .u16 r.ip] 42)).alloc (.cells #[.int .u8 xp, .int .u32 sa, .int .u16 sp, .int .u32 da, .int .u16 dp] 57) := ⟨_, rfl⟩
  rw [← hu1] at R_4 X_5 B6 ⊢
  clear hu1
  go_wp2_with fail
  go_loopw [7, 8] (fun v si wr => ∃ (n : Nat) (V : Option Addr), n ≤ 2 ∧ si = .int .i64 (n : Int) ∧ v = .pointer V ∧ Below u1.heap.size u1 wr ∧ None wr (.pointer V)) (fun _ si _ => 2 - (intOf si).toNat)
  case atStart => exact ⟨0, none, by omega, rfl, rfl, Below.refl _ _, none_nil _⟩
  case round =>
    obtain ⟨n, V, hn, rfl, rfl, bb, hN⟩ := hrel
    by_cases hlt : n < 2
    rotate_left
    · have e10 : decide ((n : Int) < 2) = false := by simp; omega
      have BB := B6.trans (bb.mono B6.size)
      clear hN hn hlt
      go_wp2_with fail
      refine (rl _).mono ?_; rintro e w9 ⟨rfl, x9⟩
      go_wp2
      go_ret
      exact ⟨rfl, BB.trans (x9.mono BB.size)⟩
    have e10 : decide ((n : Int) < 2) = true := by simp; omega
    have e13 : (n : Int) + 1 ≤ 100000 := by omega
    have HI := Lib.hid hlt
    have HN := Lib.hid hN
    have HB := Lib.hid bb
    have R0 := R_4.on bb
    have X0 := X_5.on bb
    clear hN hn hlt bb R_4 X_5 B6 rl
    have B51 := Below.refl wr.heap.size wr
    obtain ⟨_, r1_0, r1_1, r1_2, r1_3, r1_4, r1_5, r1_6, r1_7, r1_8, r1_9, r1_10⟩ := id R0
    obtain ⟨_, x2_0, x2_1, x2_2, x2_3, x2_4⟩ := id X0
    go_wp2_with fail
    refine (staticN r.pr r.ip (r.ii : Int) V _ (HN.out.on B51)).mono ?_; rintro e w21 ⟨rfl, x21⟩
    have R_52 := R0.on x21
    have X_53 := X0.on x21
    have B54 := B51.trans (x21.mono B51.size)
    clear r1_0 r1_1 r1_2 r1_3 r1_4 r1_5 r1_6 r1_7 r1_8 r1_9 r1_10 x2_0 x2_1 x2_2 x2_3 x2_4 R0 X0 B51 x21
    obtain ⟨_, r3_0, r3_1, r3_2, r3_3, r3_4, r3_5, r3_6, r3_7, r3_8, r3_9, r3_10⟩ := id R_52
    obtain ⟨_, x4_0, x4_1, x4_2, x4_3, x4_4⟩ := id X_53
    have R_55 := R_52.past (o := (.cells #[.int .i64 0, .int .u8 0, .int .u32 0, .int .i64 0, .int .u32 0, .int .i64 0, .int .u32 0, .int .u16 0, .int .u16 0, .int .u32 0, .int .u16 0] 42))
    have X_56 := X_53.past (o := (.cells #[.int .i64 0, .int .u8 0, .int .u32 0, .int .i64 0, .int .u32 0, .int .i64 0, .int .u32 0, .int .u16 0, .int .u16 0, .int .u32 0, .int .u16 0] 42))
    have B57 := B54.alloc B54.size (.cells #[.int .i64 0, .int .u8 0, .int .u32 0, .int .i64 0, .int .u32 0, .int .i64 0, .int .u32 0, .int .u16 0, .int .u16 0, .int .u32 0, .int .u16 0] 42)
    clear R_52 X_53 B54
    obtain ⟨_, r5_0, r5_1, r5_2, r5_3, r5_4, r5_5, r5_6, r5_7, r5_8, r5_9, r5_10⟩ := id R_55
    obtain ⟨_, x6_0, x6_1, x6_2, x6_3, x6_4⟩ := id X_56
    go_wp2_with fail
    refine (ownN_ r.pr r.ip (r.ii : Int) V _ (HN.out.on B57)).mono ?_; rintro e w22 ⟨rfl, x22⟩
    have R_58 := R_55.on x22
    have X_59 := X_56.on x22
    have B60 := B57.trans (x22.mono B57.size)
    clear r3_0 r3_1 r3_2 r3_3 r3_4 r3_5 r3_6 r3_7 r3_8 r3_9 r3_10 x4_0 x4_1 x4_2 x4_3 x4_4 r5_0 r5_1 r5_2 r5_3 r5_4 r5_5 r5_6 r5_7 r5_8 r5_9 r5_10 x6_0 x6_1 x6_2 x6_3 x6_4 R_55 X_56 B57 x22
    obtain ⟨_, r7_0, r7_1, r7_2, r7_3, r7_4, r7_5, r7_6, r7_7, r7_8, r7_9, r7_10⟩ := id R_58
    obtain ⟨_, x8_0, x8_1, x8_2, x8_3, x8_4⟩ := id X_59
    have R_61 := R_58.past (o := (.cells #[.int .i64 0, .int .u8 0, .int .u32 0, .int .i64 0, .int .u32 0, .int .i64 0, .int .u32 0, .int .u16 0, .int .u16 0, .int .u32 0, .int .u16 0] 42))
    have X_62 := X_59.past (o := (.cells #[.int .i64 0, .int .u8 0, .int .u32 0, .int .i64 0, .int .u32 0, .int .i64 0, .int .u32 0, .int .u16 0, .int .u16 0, .int .u32 0, .int .u16 0] 42))
    have B63 := B60.alloc B60.size (.cells #[.int .i64 0, .int .u8 0, .int .u32 0, .int .i64 0, .int .u32 0, .int .i64 0, .int .u32 0, .int .u16 0, .int .u16 0, .int .u32 0, .int .u16 0] 42)
    clear R_58 X_59 B60
    obtain ⟨_, r9_0, r9_1, r9_2, r9_3, r9_4, r9_5, r9_6, r9_7, r9_8, r9_9, r9_10⟩ := id R_61
    obtain ⟨_, x10_0, x10_1, x10_2, x10_3, x10_4⟩ := id X_62
    go_wp2_with fail
    refine (sourceN xp sp dp sa da V _ (HN.out.on B63)).mono ?_; rintro e w23 ⟨rfl, x23⟩
    have R_64 := R_61.on x23
    have X_65 := X_62.on x23
    have B66 := B63.trans (x23.mono B63.size)
    clear r7_0 r7_1 r7_2 r7_3 r7_4 r7_5 r7_6 r7_7 r7_8 r7_9 r7_10 x8_0 x8_1 x8_2 x8_3 x8_4 r9_0 r9_1 r9_2 r9_3 r9_4 r9_5 r9_6 r9_7 r9_8 r9_9 r9_10 x10_0 x10_1 x10_2 x10_3 x10_4 R_61 X_62 B63 x23
    obtain ⟨_, r11_0, r11_1, r11_2, r11_3, r11_4, r11_5, r11_6, r11_7, r11_8, r11_9, r11_10⟩ := id R_64
    obtain ⟨_, x12_0, x12_1, x12_2, x12_3, x12_4⟩ := id X_65
    have R_67 := R_64.past (o := (.cells #[.int .i64 0, .int .u8 0, .int .u32 0, .int .i64 0, .int .u32 0, .int .i64 0, .int .u32 0, .int .u16 0, .int .u16 0, .int .u32 0, .int .u16 0] 42))
    have X_68 := X_65.past (o := (.cells #[.int .i64 0, .int .u8 0, .int .u32 0, .int .i64 0, .int .u32 0, .int .i64 0, .int .u32 0, .int .u16 0, .int .u16 0, .int .u32 0, .int .u16 0] 42))
    have B69 := B66.alloc B66.size (.cells #[.int .i64 0, .int .u8 0, .int .u32 0, .int .i64 0, .int .u32 0, .int .i64 0, .int .u32 0, .int .u16 0, .int .u16 0, .int .u32 0, .int .u16 0] 42)
    clear R_64 X_65 B66
    clear X_68
    obtain ⟨_, r13_0, r13_1, r13_2, r13_3, r13_4, r13_5, r13_6, r13_7, r13_8, r13_9, r13_10⟩ := id R_67
    go_wp2_with fail
    refine (checkN r V _ (HN.out.on B69)).mono ?_; rintro e w24 ⟨rfl, x24⟩
    have R_70 := R_67.on x24
    have B71 := B69.trans (x24.mono B69.size)
    clear r11_0 r11_1 r11_2 r11_3 r11_4 r11_5 r11_6 r11_7 r11_8 r11_9 r11_10 x12_0 x12_1 x12_2 x12_3 x12_4 r13_0 r13_1 r13_2 r13_3 r13_4 r13_5 r13_6 r13_7 r13_8 r13_9 r13_10 R_67 B69 x24
    obtain ⟨_, r14_0, r14_1, r14_2, r14_3, r14_4, r14_5, r14_6, r14_7, r14_8, r14_9, r14_10⟩ := id R_70
    go_wp2_with fail
    refine (addN i r V _ (HN.out.on B71)).mono ?_; rintro e w25 ⟨rfl, x25⟩
    have R_72 := R_70.on x25
    have B73 := B71.trans (x25.mono B71.size)
    clear r14_0 r14_1 r14_2 r14_3 r14_4 r14_5 r14_6 r14_7 r14_8 r14_9 r14_10 R_70 B71 x25
    obtain ⟨_, r15_0, r15_1, r15_2, r15_3, r15_4, r15_5, r15_6, r15_7, r15_8, r15_9, r15_10⟩ := id R_72
    go_wp2_with fail
    refine (deleteN i V _ (HN.out.on B73)).mono ?_; rintro e w26 ⟨rfl, x26⟩
    have R_74 := R_72.on x26
    have B75 := B73.trans (x26.mono B73.size)
    clear r15_0 r15_1 r15_2 r15_3 r15_4 r15_5 r15_6 r15_7 r15_8 r15_9 r15_10 R_72 B73 x26
    obtain ⟨_, r16_0, r16_1, r16_2, r16_3, r16_4, r16_5, r16_6, r16_7, r16_8, r16_9, r16_10⟩ := id R_74
    go_wp2_with fail
    refine (listN V _ (HN.out.on B75)).mono ?_; rintro e w27 ⟨rfl, x27⟩
    have R_76 := R_74.on x27
    have B77 := B75.trans (x27.mono B75.size)
    clear r16_0 r16_1 r16_2 r16_3 r16_4 r16_5 r16_6 r16_7 r16_8 r16_9 r16_10 R_74 B75 x27
    obtain ⟨_, r17_0, r17_1, r17_2, r17_3, r17_4, r17_5, r17_6, r17_7, r17_8, r17_9, r17_10⟩ := id R_76
    go_wp2_with fail
    refine (copyN V _ (HN.out.on B77)).mono ?_; rintro e w28 ⟨rfl, x28⟩
    have R_78 := R_76.on x28
    have B79 := B77.trans (x28.mono B77.size)
    clear r17_0 r17_1 r17_2 r17_3 r17_4 r17_5 r17_6 r17_7 r17_8 r17_9 r17_10 R_76 B77 x28
    obtain ⟨_, r18_0, r18_1, r18_2, r18_3, r18_4, r18_5, r18_6, r18_7, r18_8, r18_9, r18_10⟩ := id R_78
    go_wp2_with fail
    refine (innerN (r.ex : Int) V _ (HN.out.on B79)).mono ?_; rintro e w29 ⟨rfl, x29⟩
    have R_80 := R_78.on x29
    have B81 := B79.trans (x29.mono B79.size)
    clear r18_0 r18_1 r18_2 r18_3 r18_4 r18_5 r18_6 r18_7 r18_8 r18_9 r18_10 R_78 B79 x29
    obtain ⟨_, r19_0, r19_1, r19_2, r19_3, r19_4, r19_5, r19_6, r19_7, r19_8, r19_9, r19_10⟩ := id R_80
    go_wp2_with fail
    refine (outerN (r.ex : Int) V _ (HN.out.on B81)).mono ?_; rintro e w30 ⟨rfl, x30⟩
    have R_82 := R_80.on x30
    have B83 := B81.trans (x30.mono B81.size)
    clear r19_0 r19_1 r19_2 r19_3 r19_4 r19_5 r19_6 r19_7 r19_8 r19_9 r19_10 R_80 B81 x30
    obtain ⟨_, r20_0, r20_1, r20_2, r20_3, r20_4, r20_5, r20_6, r20_7, r20_8, r20_9, r20_10⟩ := id R_82
    go_wp2_with fail
    refine (outerN 0 V _ (HN.out.on B83)).mono ?_; rintro e w31 ⟨rfl, x31⟩
    have R_84 := R_82.on x31
    have B85 := B83.trans (x31.mono B83.size)
    clear r20_0 r20_1 r20_2 r20_3 r20_4 r20_5 r20_6 r20_7 r20_8 r20_9 r20_10 R_82 B83 x31
    go_wp2_with fail
    go_roundw
    case rel =>
      exact ⟨n + 1, _, HI.out, by go_num, rfl, (HB.out.trans (B85.mono HB.out.size)).alloc (Nat.le_trans HB.out.size B85.size) _, none_zero _ _ _ _ _ _ (Box5.make _ _ _ _ _ _ _)⟩
    case measure => have := HI.out; simp [intOf]; omega
end RulesNone
end Go.Proofs.Ytoogegpkgohffaa
namespace Go.Proofs.Ytoogegpkgohffaa
open Go.ChangeShapes Go.WideShapes Go.ChangeAt Go.RowKit Go.PlainAid
theorem ru_of {k pr si sb di db ex fr tx ii ip : Int} (h0 : (Lit.int .i64 k).wf = true) (h1 : (Lit.int .u8 pr).wf = true) (h2 : (Lit.int .u32 si).wf = true) (h3 : (Lit.int .i64 sb).wf = true) (h4 : (Lit.int .u32 di).wf = true) (h5 : (Lit.int .i64 db).wf = true) (h6 : (Lit.int .u32 ex).wf = true) (h7 : (Lit.int .u16 fr).wf = true) (h8 : (Lit.int .u16 tx).wf = true) (h9 : (Lit.int .u32 ii).wf = true) (h10 : (Lit.int .u16 ip).wf = true) :
    ∃ r : Ru, r.Ok ∧ r.k = k ∧ r.pr = pr ∧ (r.si : Int) = si ∧ r.sb = sb ∧ (r.di : Int) = di ∧ r.db = db ∧ (r.ex : Int) = ex ∧ r.fr = fr ∧ r.to = tx ∧ (r.ii : Int) = ii ∧ r.ip = ip := by
  obtain ⟨a0, b0⟩ := bounds_i64 h0
  obtain ⟨a1, b1⟩ := bounds_u8 h1
  obtain ⟨a2, b2⟩ := bounds_u32 h2
  obtain ⟨a3, b3⟩ := bounds_i64 h3
  obtain ⟨a4, b4⟩ := bounds_u32 h4
  obtain ⟨a5, b5⟩ := bounds_i64 h5
  obtain ⟨a6, b6⟩ := bounds_u32 h6
  obtain ⟨a7, b7⟩ := bounds_u16 h7
  obtain ⟨a8, b8⟩ := bounds_u16 h8
  obtain ⟨a9, b9⟩ := bounds_u32 h9
  obtain ⟨a10, b10⟩ := bounds_u16 h10
  obtain ⟨si, rfl⟩ := Int.eq_ofNat_of_zero_le a2
  obtain ⟨di, rfl⟩ := Int.eq_ofNat_of_zero_le a4
  obtain ⟨ex, rfl⟩ := Int.eq_ofNat_of_zero_le a6
  obtain ⟨ii, rfl⟩ := Int.eq_ofNat_of_zero_le a9
  refine ⟨⟨k, pr, si, sb, di, db, ex, fr, tx, ii, ip⟩, ?_, rfl, rfl, rfl, rfl, rfl, rfl, rfl, rfl, rfl, rfl, rfl⟩
  constructor <;> simp only <;> omega
theorem RulesNone.walkI (k pr si sb di db ex fr tx ii ip i xp sa sp da dp : Int) (w : World) (h0 : (Lit.int .i64 k).wf = true) (h1 : (Lit.int .u8 pr).wf = true) (h2 : (Lit.int .u32 si).wf = true) (h3 : (Lit.int .i64 sb).wf = true) (h4 : (Lit.int .u32 di).wf = true) (h5 : (Lit.int .i64 db).wf = true) (h6 : (Lit.int .u32 ex).wf = true) (h7 : (Lit.int .u16 fr).wf = true) (h8 : (Lit.int .u16 tx).wf = true) (h9 : (Lit.int .u32 ii).wf = true) (h10 : (Lit.int .u16 ip).wf = true)
    (_ : (Lit.int .i64 i).wf = true) (_ : (Lit.int .u8 xp).wf = true) (_ : (Lit.int .u32 sa).wf = true) (_ : (Lit.int .u16 sp).wf = true) (_ : (Lit.int .u32 da).wf = true) (_ : (Lit.int .u16 dp).wf = true) :
    Calls Try.prog 5 #[.agg #[.int .i64 k, .int .u8 pr, .int .u32 si, .int .i64 sb, .int .u32 di, .int .i64 db, .int .u32 ex, .int .u16 fr, .int .u16 tx, .int .u32 ii, .int .u16 ip], .int .i64 i, .agg #[.int .u8 xp, .int .u32 sa, .int .u16 sp, .int .u32 da, .int .u16 dp]] w fun e w' => e = .returned (.bool true) ∧ Below w.heap.size w w' := by
  obtain ⟨r, _, rfl, rfl, rfl, rfl, rfl, rfl, rfl, rfl, rfl, rfl, rfl⟩ := ru_of h0 h1 h2 h3 h4 h5 h6 h7 h8 h9 h10
  exact RulesNone.walk r i xp sa sp da dp w
end Go.Proofs.Ytoogegpkgohffaa
