/- Contracts of the document's answers for layer 8: Parse. -/
import Derived.Test.YtidkgnanfhdhdaaGreatDoorGm
import Derived.Test.YtidkgnanfhdhdaaGreatDoorGo
import Derived.Test.YtidkgnanfhdhdaaGreatDoorGc
import Derived.Test.YtidkgnanfhdhdaaGreatDoorGk
import Derived.BigRegion
namespace Go.Proofs.YtidkgnanfhdhdaaGreatDoor
set_option linter.unusedVariables false
set_option linter.unusedSimpArgs false
open Go.ChangeShapes Go.WideShapes Go.ChangeAt Go.RowKit Go.PlainAid

/-- A box of 3 cells. -/
def Box3 (w : World) (b : Nat) (v0 v1 v2 : Value) : Prop :=
  b < w.heap.size ∧ w.cell? ⟨b, 0, none⟩ = some v0 ∧ w.cell? ⟨b, 1, none⟩ = some v1 ∧ w.cell? ⟨b, 2, none⟩ = some v2
theorem Box3.on {w w' : World} {b : Nat} {v0 v1 v2 : Value} (h : Box3 w b v0 v1 v2) (hb : Below w.heap.size w w') : Box3 w' b v0 v1 v2 := by
  obtain ⟨h, h0, h1, h2⟩ := h
  exact ⟨Nat.lt_of_lt_of_le h hb.size, (hb.cell (p := ⟨b, 0, none⟩) h).trans h0, (hb.cell (p := ⟨b, 1, none⟩) h).trans h1, (hb.cell (p := ⟨b, 2, none⟩) h).trans h2⟩
theorem Box3.make (w : World) (v0 v1 v2 : Value) (t : TypeId) : Box3 (w.alloc (.cells #[v0, v1, v2] t)) w.heap.size v0 v1 v2 :=
  ⟨by simp, by simp [go_sem], by simp [go_sem], by simp [go_sem]⟩
theorem Box3.past {w : World} {o : Obj} {b : Nat} {v0 v1 v2 : Value} (h : Box3 w b v0 v1 v2) : Box3 (w.alloc o) b v0 v1 v2 := h.on ((Below.refl _ _).alloc (Nat.le_refl _) _)
theorem Box3.far {W X : World} {a b : Nat} {v0 v1 v2 : Value} (h : Box3 W a v0 v1 v2) (hf : ∀ p : Addr, ¬ b = p.block → X.cell? p = W.cell? p) (hn : ¬ b = a) : Box3 X a v0 v1 v2 := by
  obtain ⟨h, h0, h1, h2⟩ := h
  have k0 := (hf ⟨a, 0, none⟩ hn).trans h0
  exact ⟨World.block_lt_of_cell? _ _ k0, k0, (hf ⟨a, 1, none⟩ hn).trans h1, (hf ⟨a, 2, none⟩ hn).trans h2⟩
theorem Box3.some {W : World} {a : Nat} {v0 v1 v2 : Value} (h : Box3 W a v0 v1 v2) : ∀ j, j < 3 → (W.cell? ⟨a, j, none⟩).isSome = true := by
  obtain ⟨h, h0, h1, h2⟩ := h
  intro j hj
  match j, hj with
  | 0, _ => rw [h0]; rfl
  | 1, _ => rw [h1]; rfl
  | 2, _ => rw [h2]; rfl

theorem point_ways (l : List UInt8) : (∃ a n, pointV l = some (a, n) ∧ pointA l = a ∧ pointN l = n ∧ pointE l = 0 ∧ a < 4294967296 ∧ n ≤ 65535) ∨ (pointV l = none ∧ pointA l = 0 ∧ pointN l = 0 ∧ pointE l = 3) := by
  rcases pair_cases 65535 58 l with ⟨a, n, h1, h2, h3, h4⟩ | ⟨h1, h2, h3, h4⟩
  · exact .inl ⟨a, n, h1, h2, h3, h4, ((pointV_iff _ _ _).1 h1).1, ((pointV_iff _ _ _).1 h1).2.1⟩
  · exact .inr ⟨h1, h2, h3, h4⟩
theorem tup_none' {l : List UInt8} (h : tupR l = none) : Hid (tupP l = 0 ∧ tupA l = 0 ∧ tupM l = 0 ∧ tupB l = 0 ∧ tupN l = 0 ∧ tupE l = 3) := tup_none h
theorem tup_some' {l : List UInt8} {p a m b n : Nat} (h : tupR l = some (p, a, m, b, n)) : Hid (tupP l = p ∧ tupA l = a ∧ tupM l = m ∧ tupB l = b ∧ tupN l = n ∧ tupE l = 0) := tup_some h
/-- One of the three words. -/
def hitB (nm : List UInt8) (p m n : Nat) : Bool := decide (twL p = nm) && tmay p m n
theorem hit_yes {l r nm s d : List UInt8} {p a m b n : Nat} (hc : cutZ 32 l = (r, d, true)) (hc2 : cutZ 32 r = (nm, s, true)) (h1 : pointV s = some (a, m)) (h2 : pointV d = some (b, n)) (h : hitB nm p m n = true) : tupR l = some (p, a, m, b, n) := by
  unfold hitB at h
  simp only [Bool.and_eq_true, decide_eq_true_eq] at h
  unfold tupR
  rw [hc]
  simp only
  rw [if_neg (by decide), hc2]
  simp only
  rw [if_neg (by decide), tupMid_iff]
  exact ⟨h.2, h.1.symm, (pointV_iff _ _ _).1 h1, (pointV_iff _ _ _).1 h2⟩
theorem hit_no {l r nm s d : List UInt8} {a m b n : Nat} (hc : cutZ 32 l = (r, d, true)) (hc2 : cutZ 32 r = (nm, s, true)) (h1 : pointV s = some (a, m)) (h2 : pointV d = some (b, n)) (k1 : hitB nm 1 m n = false) (k2 : hitB nm 6 m n = false) (k3 : hitB nm 17 m n = false) : tupR l = none := by
  cases e : tupR l with
  | none => rfl
  | some t =>
    exfalso
    obtain ⟨p, a', m', b', n'⟩ := t
    unfold tupR at e
    rw [hc] at e
    simp only at e
    rw [if_neg (by decide), hc2] at e
    simp only at e
    rw [if_neg (by decide), tupMid_iff] at e
    obtain ⟨hm, hx, g1, g2⟩ := e
    have g1' := (pointV_iff _ _ _).2 g1
    have g2' := (pointV_iff _ _ _).2 g2
    rw [h1] at g1'
    rw [h2] at g2'
    injection g1' with g1'
    injection g2' with g2'
    injection g1' with g3 g4
    injection g2' with g5 g6
    subst g4
    subst g6
    have hk : hitB nm p m n = true := by unfold hitB; rw [hm, ← hx]; simp
    rcases tmay_three hm with rfl | rfl | rfl
    · rw [k1] at hk; cases hk
    · rw [k2] at hk; cases hk
    · rw [k3] at hk; cases hk
attribute [local go_sem ↓] Go.wp_at_zero Go.wp_at_succ
set_option maxHeartbeats 8000000 in
set_option maxRecDepth 100000 in
theorem rparse8_ (l : List UInt8) (w : World) (hl : l.length ≤ 1000000) :
    Calls Tryz.prog 10 #[.string (str l)] w fun e w' => e = .returned (.tuple #[.agg #[.int .u8 (tupP l : Nat), .int .u32 (tupA l : Nat), .int .u16 (tupM l : Nat), .int .u32 (tupB l : Nat), .int .u16 (tupN l : Nat)], .int .i64 (tupE l)]) ∧ Below w.heap.size w w' := by
  obtain ⟨r, d, y, hc⟩ : ∃ r d y, cutZ 32 l = (r, d, y) := ⟨_, _, _, rfl⟩
  obtain ⟨nm, s, z, hc2⟩ : ∃ nm s z, cutZ 32 r = (nm, s, z) := ⟨_, _, _, rfl⟩
  have hcl := cutZ_len 32 l
  have hcl2 := cutZ_len 32 r
  have c1 := fun w => cutz_ l 32 w (by unfold maxLen; omega)
  have c2 := fun w => cutz_ r 32 w (by rw [hc] at hcl; simp only at hcl; unfold maxLen; omega)
  rw [hc] at hcl c1
  rw [hc2] at hcl2 c2
  simp only at hcl hcl2 c1 c2
  have c3 := fun w => rpoint_ s w (by unfold maxLen; omega)
  have c4 := fun w => rpoint_ d w (by unfold maxLen; omega)
  have hnm : (str nm).size ≤ 1000000 := by rw [str_size]; omega
  clear hcl hcl2 hl
  by_cases hgood : y = true ∧ z = true ∧ pointE s = 0 ∧ pointE d = 0
  rotate_left
  · have HN : Hid (tupP l = 0 ∧ tupA l = 0 ∧ tupM l = 0 ∧ tupB l = 0 ∧ tupN l = 0 ∧ tupE l = 3) := by
      refine tup_none' ?_
      cases e : tupR l with
      | none => rfl
      | some t =>
        exfalso
        obtain ⟨p, a', m', b', n'⟩ := t
        unfold tupR at e
        rw [hc] at e
        simp only at e
        cases y with
        | false => simp at e
        | true =>
          rw [if_neg (by decide), hc2] at e
          simp only at e
          cases z with
          | false => simp at e
          | true =>
            rw [if_neg (by decide), tupMid_iff] at e
            obtain ⟨_, _, g1, g2⟩ := e
            have e1 := (point_val ((pointV_iff _ _ _).2 g1)).2.2
            have e2 := (point_val ((pointV_iff _ _ _).2 g2)).2.2
            exact hgood ⟨rfl, rfl, e1, e2⟩
    have key : ∃ b1 b2 : Bool, (pointE s != 0) = b1 ∧ (pointE d != 0) = b2 ∧ (y = false ∨ (y = true ∧ z = false) ∨ (y = true ∧ z = true ∧ b1 = true) ∨ (y = true ∧ z = true ∧ b1 = false ∧ b2 = true)) := by
      refine ⟨_, _, rfl, rfl, ?_⟩
      cases y <;> cases z <;> simp_all
      by_cases h : pointE s = 0
      · exact .inr ⟨h, hgood h⟩
      · exact .inl h
    obtain ⟨b1, b2, k1, k2, hw⟩ := key
    clear hgood hc hc2
    generalize pointA s = a at *
    generalize pointN s = m at *
    generalize pointE s = es at *
    generalize pointA d = b at *
    generalize pointN d = n at *
    generalize pointE d = ed at *
    rcases hw with rfl | ⟨rfl, rfl⟩ | ⟨rfl, rfl, rfl⟩ | ⟨rfl, rfl, rfl, rfl⟩
    all_goals
      go_enter Tryz.func10, Tryz.ntmps10
      have B1 := Below.refl w.heap.size w
      go_wp2_with fail
      have R_2 := Box5.make w (.int .u8 0) (.int .u32 0) (.int .u16 0) (.int .u32 0) (.int .u16 0) 29
      have B3 := B1.alloc B1.size (.cells #[.int .u8 0, .int .u32 0, .int .u16 0, .int .u32 0, .int .u16 0] 29)
      clear B1
      have fzR_4 : ∀ i, (w.alloc (.cells #[.int .u8 0, .int .u32 0, .int .u16 0, .int .u32 0, .int .u16 0] 29)).frozen? ⟨w.heap.size, i, none⟩ = false := by intro i; simp [go_sem]
      refine (c1 _).mono ?_; rintro e w1 ⟨rfl, x1⟩
      have fzR_5 : ∀ i, w1.frozen? ⟨w.heap.size, i, none⟩ = false := fun i => (x1.frozen (p := ⟨_, i, none⟩) R_2.1).trans (fzR_4 i)
      clear fzR_4
      have R_6 := R_2.on x1
      have B7 := B3.trans (x1.mono B3.size)
      clear R_2 B3 x1
      have Le := Lib.hid (show w.heap.size < w1.heap.size from R_6.1)
      go_wp2_with fail
      refine (c2 _).mono ?_; rintro e w2 ⟨rfl, x2⟩
      have fzR_8 : ∀ i, w2.frozen? ⟨w.heap.size, i, none⟩ = false := fun i => (x2.frozen (p := ⟨_, i, none⟩) R_6.1).trans (fzR_5 i)
      clear fzR_5
      have R_9 := R_6.on x2
      have B10 := B7.trans (x2.mono B7.size)
      clear R_6 B7 x2
      go_wp2_with fail
      refine (c3 _).mono ?_; rintro e w3 ⟨rfl, x3⟩
      have fzR_11 : ∀ i, w3.frozen? ⟨w.heap.size, i, none⟩ = false := fun i => (x3.frozen (p := ⟨_, i, none⟩) R_9.1).trans (fzR_8 i)
      clear fzR_8
      have R_12 := R_9.on x3
      have B13 := B10.trans (x3.mono B10.size)
      clear R_9 B10 x3
      have fzR_14 : ∀ i, (w3.alloc (.cells #[.int .u32 (a : Int), .int .u16 (m : Int)] 27)).frozen? ⟨w.heap.size, i, none⟩ = false := fun i => (((Below.refl w3.heap.size w3).alloc (Nat.le_refl _) (.cells #[.int .u32 (a : Int), .int .u16 (m : Int)] 27)).frozen (p := ⟨_, i, none⟩) R_12.1).trans (fzR_11 i)
      clear fzR_11
      have R_15 := R_12.past (o := (.cells #[.int .u32 (a : Int), .int .u16 (m : Int)] 27))
      have B16 := B13.alloc B13.size (.cells #[.int .u32 (a : Int), .int .u16 (m : Int)] 27)
      clear R_12 B13
      go_wp2_with fail
      refine (c4 _).mono ?_; rintro e w4 ⟨rfl, x4⟩
      have fzR_17 : ∀ i, w4.frozen? ⟨w.heap.size, i, none⟩ = false := fun i => (x4.frozen (p := ⟨_, i, none⟩) R_15.1).trans (fzR_14 i)
      clear fzR_14
      have R_18 := R_15.on x4
      have B19 := B16.trans (x4.mono B16.size)
      clear R_15 B16 x4
      have fzR_20 : ∀ i, (w4.alloc (.cells #[.int .u32 (b : Int), .int .u16 (n : Int)] 27)).frozen? ⟨w.heap.size, i, none⟩ = false := fun i => (((Below.refl w4.heap.size w4).alloc (Nat.le_refl _) (.cells #[.int .u32 (b : Int), .int .u16 (n : Int)] 27)).frozen (p := ⟨_, i, none⟩) R_18.1).trans (fzR_17 i)
      clear fzR_17
      have R_21 := R_18.past (o := (.cells #[.int .u32 (b : Int), .int .u16 (n : Int)] 27))
      have B22 := B19.alloc B19.size (.cells #[.int .u32 (b : Int), .int .u16 (n : Int)] 27)
      clear R_18 B19
      clear c1 c2 c3 c4
      obtain ⟨_, r1_0, r1_1, r1_2, r1_3, r1_4⟩ := id R_21
      go_wp2
      refine box5_ (b := w.heap.size) R_21.some B22 (Nat.le_refl _) fun Z y0 y1 y2 y3 y4 BZ _ _ => ?_
      refine bodyPost_ret (v := .tuple #[.agg #[.int .u8 0, .int .u32 0, .int .u16 0, .int .u32 0, .int .u16 0], .int .i64 3]) (by simp [results, Tryz.results10, go_sem, y0, y1, y2, y3, y4]) rfl ?_
      rw [HN.out.1, HN.out.2.1, HN.out.2.2.1, HN.out.2.2.2.1, HN.out.2.2.2.2.1, HN.out.2.2.2.2.2]
      exact ⟨rfl, BZ⟩
  obtain ⟨rfl, rfl, ge1, ge2⟩ := hgood
  rcases point_ways s with ⟨a, m, g1, g2, g3, g4, ha, hm⟩ | ⟨_, _, _, g4⟩
  rotate_left
  · omega
  rcases point_ways d with ⟨b, n, j1, j2, j3, j4, hb, hn⟩ | ⟨_, _, _, j4⟩
  rotate_left
  · omega
  rw [g2, g3, g4] at c3
  rw [j2, j3, j4] at c4
  clear g2 g3 g4 j2 j3 j4 ge1 ge2
  have HY := Lib.hid (fun p (h : hitB nm p m n = true) => tup_some' (hit_yes hc hc2 g1 j1 h))
  have HN := Lib.hid (fun h1 h2 h3 => tup_none' (hit_no hc hc2 g1 j1 h1 h2 h3))
  clear hc hc2 g1 j1
  have cw1 := fun u => rword8_ 1 u
  have cw2 := fun u => rword8_ 6 u
  have cw3 := fun u => rword8_ 17 u
  rw [show tword 1 = str (twL 1) from rfl] at cw1
  rw [show tword 6 = str (twL 6) from rfl] at cw2
  rw [show tword 17 = str (twL 17) from rfl] at cw3
  have cm1 := fun u => rmay8_ 1 a m b n u
  have cm2 := fun u => rmay8_ 6 a m b n u
  have cm3 := fun u => rmay8_ 17 a m b n u
  go_enter Tryz.func10, Tryz.ntmps10
  have B1 := Below.refl w.heap.size w
  go_wp2_with fail
  have R_2 := Box5.make w (.int .u8 0) (.int .u32 0) (.int .u16 0) (.int .u32 0) (.int .u16 0) 29
  have B3 := B1.alloc B1.size (.cells #[.int .u8 0, .int .u32 0, .int .u16 0, .int .u32 0, .int .u16 0] 29)
  clear B1
  have fzR_4 : ∀ i, (w.alloc (.cells #[.int .u8 0, .int .u32 0, .int .u16 0, .int .u32 0, .int .u16 0] 29)).frozen? ⟨w.heap.size, i, none⟩ = false := by intro i; simp [go_sem]
  refine (c1 _).mono ?_; rintro e w1 ⟨rfl, x1⟩
  have fzR_5 : ∀ i, w1.frozen? ⟨w.heap.size, i, none⟩ = false := fun i => (x1.frozen (p := ⟨_, i, none⟩) R_2.1).trans (fzR_4 i)
  clear fzR_4
  have R_6 := R_2.on x1
  have B7 := B3.trans (x1.mono B3.size)
  clear R_2 B3 x1
  have Le := Lib.hid (show w.heap.size < w1.heap.size from R_6.1)
  go_wp2_with fail
  refine (c2 _).mono ?_; rintro e w2 ⟨rfl, x2⟩
  have fzR_8 : ∀ i, w2.frozen? ⟨w.heap.size, i, none⟩ = false := fun i => (x2.frozen (p := ⟨_, i, none⟩) R_6.1).trans (fzR_5 i)
  clear fzR_5
  have R_9 := R_6.on x2
  have B10 := B7.trans (x2.mono B7.size)
  clear R_6 B7 x2
  go_wp2_with fail
  refine (c3 _).mono ?_; rintro e w3 ⟨rfl, x3⟩
  have fzR_11 : ∀ i, w3.frozen? ⟨w.heap.size, i, none⟩ = false := fun i => (x3.frozen (p := ⟨_, i, none⟩) R_9.1).trans (fzR_8 i)
  clear fzR_8
  have R_12 := R_9.on x3
  have B13 := B10.trans (x3.mono B10.size)
  clear R_9 B10 x3
  have fzR_14 : ∀ i, (w3.alloc (.cells #[.int .u32 (a : Int), .int .u16 (m : Int)] 27)).frozen? ⟨w.heap.size, i, none⟩ = false := fun i => (((Below.refl w3.heap.size w3).alloc (Nat.le_refl _) (.cells #[.int .u32 (a : Int), .int .u16 (m : Int)] 27)).frozen (p := ⟨_, i, none⟩) R_12.1).trans (fzR_11 i)
  clear fzR_11
  have R_15 := R_12.past (o := (.cells #[.int .u32 (a : Int), .int .u16 (m : Int)] 27))
  have A_16 := Box2.make w3 (.int .u32 (a : Int)) (.int .u16 (m : Int)) 27
  have B17 := B13.alloc B13.size (.cells #[.int .u32 (a : Int), .int .u16 (m : Int)] 27)
  clear R_12 B13
  go_wp2_with fail
  refine (c4 _).mono ?_; rintro e w4 ⟨rfl, x4⟩
  have fzR_18 : ∀ i, w4.frozen? ⟨w.heap.size, i, none⟩ = false := fun i => (x4.frozen (p := ⟨_, i, none⟩) R_15.1).trans (fzR_14 i)
  clear fzR_14
  have R_19 := R_15.on x4
  have A_20 := A_16.on x4
  have B21 := B17.trans (x4.mono B17.size)
  clear R_15 A_16 B17 x4
  have fzR_22 : ∀ i, (w4.alloc (.cells #[.int .u32 (b : Int), .int .u16 (n : Int)] 27)).frozen? ⟨w.heap.size, i, none⟩ = false := fun i => (((Below.refl w4.heap.size w4).alloc (Nat.le_refl _) (.cells #[.int .u32 (b : Int), .int .u16 (n : Int)] 27)).frozen (p := ⟨_, i, none⟩) R_19.1).trans (fzR_18 i)
  clear fzR_18
  have R_23 := R_19.past (o := (.cells #[.int .u32 (b : Int), .int .u16 (n : Int)] 27))
  have A_24 := A_20.past (o := (.cells #[.int .u32 (b : Int), .int .u16 (n : Int)] 27))
  have D_25 := Box2.make w4 (.int .u32 (b : Int)) (.int .u16 (n : Int)) 27
  have B26 := B21.alloc B21.size (.cells #[.int .u32 (b : Int), .int .u16 (n : Int)] 27)
  clear R_19 A_20 B21
  have fzR_27 : ∀ i, ((w4.alloc (.cells #[.int .u32 (b : Int), .int .u16 (n : Int)] 27)).alloc (.cells #[.int .u8 1, .int .u8 6, .int .u8 17] 88)).frozen? ⟨w.heap.size, i, none⟩ = false := fun i => (((Below.refl (w4.alloc (.cells #[.int .u32 (b : Int), .int .u16 (n : Int)] 27)).heap.size (w4.alloc (.cells #[.int .u32 (b : Int), .int .u16 (n : Int)] 27))).alloc (Nat.le_refl _) (.cells #[.int .u8 1, .int .u8 6, .int .u8 17] 88)).frozen (p := ⟨_, i, none⟩) R_23.1).trans (fzR_22 i)
  clear fzR_22
  have R_28 := R_23.past (o := (.cells #[.int .u8 1, .int .u8 6, .int .u8 17] 88))
  have A_29 := A_24.past (o := (.cells #[.int .u8 1, .int .u8 6, .int .u8 17] 88))
  have D_30 := D_25.past (o := (.cells #[.int .u8 1, .int .u8 6, .int .u8 17] 88))
  have hs_ : (w4.alloc (.cells #[.int .u32 (b : Int), .int .u16 (n : Int)] 27)).heap.size = w4.heap.size + 1 := by simp
  have P_31 := Box3.make (w4.alloc (.cells #[.int .u32 (b : Int), .int .u16 (n : Int)] 27)) (.int .u8 1) (.int .u8 6) (.int .u8 17) 88
  rw [hs_] at P_31
  clear hs_
  have B32 := B26.alloc B26.size (.cells #[.int .u8 1, .int .u8 6, .int .u8 17] 88)
  clear R_23 A_24 D_25 B26
  clear c1 c2 c3 c4
  go_wp2_with fail
  obtain ⟨u5, hu5⟩ : ∃ x, x = (w4.alloc (.cells #[.int .u32 (b : Int), .int .u16 (n : Int)] 27)).alloc (.cells #[.int .u8 1, .int .u8 6, .int .u8 17] 88) := ⟨_, rfl⟩
  rw [← hu5] at R_28 A_29 D_30 P_31 fzR_27 B32 ⊢
  clear hu5
  go_loopw [15] (fun si wr => (si = .int .i64 0 ∨ (si = .int .i64 1 ∧ hitB nm 1 m n = false) ∨ (si = .int .i64 2 ∧ hitB nm 1 m n = false ∧ hitB nm 6 m n = false) ∨ (si = .int .i64 3 ∧ hitB nm 1 m n = false ∧ hitB nm 6 m n = false ∧ hitB nm 17 m n = false)) ∧ Below u5.heap.size u5 wr) (fun si _ => 3 - (intOf si).toNat)
  case atStart => exact ⟨.inl rfl, Below.refl _ _⟩
  case round =>
    obtain ⟨hs, bb⟩ := hrel
    rcases hs with rfl | ⟨rfl, k1⟩ | ⟨rfl, k1, k2⟩ | ⟨rfl, k1, k2, k3⟩
    · -- round 0
      have R_200 := R_28.on bb
      have A_200 := A_29.on bb
      have D_200 := D_30.on bb
      have P_200 := P_31.on bb
      have fz_200 : ∀ i, wr.frozen? ⟨w.heap.size, i, none⟩ = false := fun i => (bb.frozen (p := ⟨_, i, none⟩) R_28.1).trans (fzR_27 i)
      clear R_28 A_29 D_30 P_31 fzR_27
      obtain ⟨_, a1_0, a1_1⟩ := id A_200
      obtain ⟨_, d2_0, d2_1⟩ := id D_200
      obtain ⟨_, p3_0, p3_1, p3_2⟩ := id P_200
      go_wp2_with fail
      go_region
      clear a1_0 a1_1 d2_0 d2_1 p3_0 p3_1 p3_2
      have fzR_201 : ∀ i, (wr.alloc (.cells #[.int .u8 1, .int .u32 (a : Int), .int .u16 (m : Int), .int .u32 (b : Int), .int .u16 (n : Int)] 29)).frozen? ⟨w.heap.size, i, none⟩ = false := fun i => (((Below.refl wr.heap.size wr).alloc (Nat.le_refl _) (.cells #[.int .u8 1, .int .u32 (a : Int), .int .u16 (m : Int), .int .u32 (b : Int), .int .u16 (n : Int)] 29)).frozen (p := ⟨_, i, none⟩) R_200.1).trans (fz_200 i)
      clear fz_200
      have R_202 := R_200.past (o := (.cells #[.int .u8 1, .int .u32 (a : Int), .int .u16 (m : Int), .int .u32 (b : Int), .int .u16 (n : Int)] 29))
      have A_203 := A_200.past (o := (.cells #[.int .u8 1, .int .u32 (a : Int), .int .u16 (m : Int), .int .u32 (b : Int), .int .u16 (n : Int)] 29))
      have D_204 := D_200.past (o := (.cells #[.int .u8 1, .int .u32 (a : Int), .int .u16 (m : Int), .int .u32 (b : Int), .int .u16 (n : Int)] 29))
      have P_205 := P_200.past (o := (.cells #[.int .u8 1, .int .u32 (a : Int), .int .u16 (m : Int), .int .u32 (b : Int), .int .u16 (n : Int)] 29))
      have T_206 := Box5.make wr (.int .u8 1) (.int .u32 (a : Int)) (.int .u16 (m : Int)) (.int .u32 (b : Int)) (.int .u16 (n : Int)) 29
      have B207 := bb.alloc bb.size (.cells #[.int .u8 1, .int .u32 (a : Int), .int .u16 (m : Int), .int .u32 (b : Int), .int .u16 (n : Int)] 29)
      clear R_200 A_200 D_200 P_200 bb
      have fzR_208 : ∀ i, (wr.alloc (.cells #[.int .u8 1, .int .u32 (a : Int), .int .u16 (m : Int), .int .u32 (b : Int), .int .u16 (n : Int)] 29)).drew.frozen? ⟨w.heap.size, i, none⟩ = false := fun i => ((Below.refl (wr.alloc (.cells #[.int .u8 1, .int .u32 (a : Int), .int .u16 (m : Int), .int .u32 (b : Int), .int .u16 (n : Int)] 29)).heap.size (wr.alloc (.cells #[.int .u8 1, .int .u32 (a : Int), .int .u16 (m : Int), .int .u32 (b : Int), .int .u16 (n : Int)] 29))).drew.frozen (p := ⟨_, i, none⟩) R_202.1).trans (fzR_201 i)
      clear fzR_201
      have R_209 := R_202.on ((Below.refl _ _).drew)
      have A_210 := A_203.on ((Below.refl _ _).drew)
      have D_211 := D_204.on ((Below.refl _ _).drew)
      have P_212 := P_205.on ((Below.refl _ _).drew)
      have T_213 := T_206.on ((Below.refl _ _).drew)
      have B214 := B207.drew
      clear R_202 A_203 D_204 P_205 T_206 B207
      obtain ⟨u1, hu1⟩ : ∃ x, x = (wr.alloc (.cells #[.int .u8 1, .int .u32 (a : Int), .int .u16 (m : Int), .int .u32 (b : Int), .int .u16 (n : Int)] 29)).drew := ⟨_, rfl⟩
      rw [← hu1] at R_209 A_210 D_211 P_212 T_213 fzR_208 B214 ⊢
      clear hu1
      obtain ⟨_, p4_0, p4_1, p4_2⟩ := id P_212
      go_wp2_with fail
      refine (cw1 _).mono ?_; rintro e w2 ⟨rfl, rfl⟩
      clear p4_0 p4_1 p4_2
      by_cases he : twL 1 = nm
      · have e1 : ((str (twL 1)).toList == (str nm).toList) = true := by rw [he]; simp
        by_cases hq : tmay 1 m n = true
        · have HZ := HY.out 1 (by unfold hitB; rw [decide_eq_true he]; exact hq)
          have cm := cm1
          rw [hq] at cm
          clear hq he
          obtain ⟨_, t5_0, t5_1, t5_2, t5_3, t5_4⟩ := id T_213
          go_wp2_with fail
          refine (cm _).mono ?_; rintro e w3 ⟨rfl, x3⟩
          have fzR_215 : ∀ i, w3.frozen? ⟨w.heap.size, i, none⟩ = false := fun i => (x3.frozen (p := ⟨_, i, none⟩) R_209.1).trans (fzR_208 i)
          clear fzR_208
          have R_216 := R_209.on x3
          have A_217 := A_210.on x3
          have D_218 := D_211.on x3
          have P_219 := P_212.on x3
          have T_220 := T_213.on x3
          have B221 := B214.trans (x3.mono B214.size)
          clear t5_0 t5_1 t5_2 t5_3 t5_4 R_209 A_210 D_211 P_212 T_213 B214 x3
          obtain ⟨_, t6_0, t6_1, t6_2, t6_3, t6_4⟩ := id T_220
          obtain ⟨_, r7_0, r7_1, r7_2, r7_3, r7_4⟩ := id R_216
          go_wp2
          have BW := B32.trans (B221.mono B32.size)
          refine box5_ (b := w.heap.size) R_216.some BW (Nat.le_refl _) fun Z y0 y1 y2 y3 y4 BZ _ _ => ?_
          refine bodyPost_ret (v := .tuple #[.agg #[.int .u8 1, .int .u32 (a : Int), .int .u16 (m : Int), .int .u32 (b : Int), .int .u16 (n : Int)], .int .i64 0]) (by simp [results, Tryz.results10, go_sem, y0, y1, y2, y3, y4]) rfl ?_
          rw [HZ.out.1, HZ.out.2.1, HZ.out.2.2.1, HZ.out.2.2.2.1, HZ.out.2.2.2.2.1, HZ.out.2.2.2.2.2]
          exact ⟨rfl, BZ⟩
        · have kk := Lib.hid (show hitB nm 1 m n = false by unfold hitB; simp [hq])
          have hq2 : tmay 1 m n = false := by simpa using hq
          have cm := cm1
          rw [hq2] at cm
          clear hq hq2 he
          obtain ⟨_, t5_0, t5_1, t5_2, t5_3, t5_4⟩ := id T_213
          go_wp2_with fail
          refine (cm _).mono ?_; rintro e w3 ⟨rfl, x3⟩
          have fzR_215 : ∀ i, w3.frozen? ⟨w.heap.size, i, none⟩ = false := fun i => (x3.frozen (p := ⟨_, i, none⟩) R_209.1).trans (fzR_208 i)
          clear fzR_208
          have R_216 := R_209.on x3
          have A_217 := A_210.on x3
          have D_218 := D_211.on x3
          have P_219 := P_212.on x3
          have T_220 := T_213.on x3
          have B221 := B214.trans (x3.mono B214.size)
          clear t5_0 t5_1 t5_2 t5_3 t5_4 R_209 A_210 D_211 P_212 T_213 B214 x3
          go_wp2_with fail
          go_roundw
          case rel => exact ⟨.inr (.inl ⟨rfl, kk.out⟩), B221⟩
          case measure => simp [intOf]
      · have kk := Lib.hid (show hitB nm 1 m n = false by unfold hitB; simp [he])
        have e1 : ((str (twL 1)).toList == (str nm).toList) = false := by rw [str_toList, str_toList]; simpa using he
        clear he
        go_wp2_with fail
        go_roundw
        case rel => exact ⟨.inr (.inl ⟨rfl, kk.out⟩), B214⟩
        case measure => simp [intOf]
    · -- round 1
      have k1 := Lib.hid k1
      have R_200 := R_28.on bb
      have A_200 := A_29.on bb
      have D_200 := D_30.on bb
      have P_200 := P_31.on bb
      have fz_200 : ∀ i, wr.frozen? ⟨w.heap.size, i, none⟩ = false := fun i => (bb.frozen (p := ⟨_, i, none⟩) R_28.1).trans (fzR_27 i)
      clear R_28 A_29 D_30 P_31 fzR_27
      obtain ⟨_, a1_0, a1_1⟩ := id A_200
      obtain ⟨_, d2_0, d2_1⟩ := id D_200
      obtain ⟨_, p3_0, p3_1, p3_2⟩ := id P_200
      go_wp2_with fail
      go_region
      clear a1_0 a1_1 d2_0 d2_1 p3_0 p3_1 p3_2
      have fzR_201 : ∀ i, (wr.alloc (.cells #[.int .u8 6, .int .u32 (a : Int), .int .u16 (m : Int), .int .u32 (b : Int), .int .u16 (n : Int)] 29)).frozen? ⟨w.heap.size, i, none⟩ = false := fun i => (((Below.refl wr.heap.size wr).alloc (Nat.le_refl _) (.cells #[.int .u8 6, .int .u32 (a : Int), .int .u16 (m : Int), .int .u32 (b : Int), .int .u16 (n : Int)] 29)).frozen (p := ⟨_, i, none⟩) R_200.1).trans (fz_200 i)
      clear fz_200
      have R_202 := R_200.past (o := (.cells #[.int .u8 6, .int .u32 (a : Int), .int .u16 (m : Int), .int .u32 (b : Int), .int .u16 (n : Int)] 29))
      have A_203 := A_200.past (o := (.cells #[.int .u8 6, .int .u32 (a : Int), .int .u16 (m : Int), .int .u32 (b : Int), .int .u16 (n : Int)] 29))
      have D_204 := D_200.past (o := (.cells #[.int .u8 6, .int .u32 (a : Int), .int .u16 (m : Int), .int .u32 (b : Int), .int .u16 (n : Int)] 29))
      have P_205 := P_200.past (o := (.cells #[.int .u8 6, .int .u32 (a : Int), .int .u16 (m : Int), .int .u32 (b : Int), .int .u16 (n : Int)] 29))
      have T_206 := Box5.make wr (.int .u8 6) (.int .u32 (a : Int)) (.int .u16 (m : Int)) (.int .u32 (b : Int)) (.int .u16 (n : Int)) 29
      have B207 := bb.alloc bb.size (.cells #[.int .u8 6, .int .u32 (a : Int), .int .u16 (m : Int), .int .u32 (b : Int), .int .u16 (n : Int)] 29)
      clear R_200 A_200 D_200 P_200 bb
      have fzR_208 : ∀ i, (wr.alloc (.cells #[.int .u8 6, .int .u32 (a : Int), .int .u16 (m : Int), .int .u32 (b : Int), .int .u16 (n : Int)] 29)).drew.frozen? ⟨w.heap.size, i, none⟩ = false := fun i => ((Below.refl (wr.alloc (.cells #[.int .u8 6, .int .u32 (a : Int), .int .u16 (m : Int), .int .u32 (b : Int), .int .u16 (n : Int)] 29)).heap.size (wr.alloc (.cells #[.int .u8 6, .int .u32 (a : Int), .int .u16 (m : Int), .int .u32 (b : Int), .int .u16 (n : Int)] 29))).drew.frozen (p := ⟨_, i, none⟩) R_202.1).trans (fzR_201 i)
      clear fzR_201
      have R_209 := R_202.on ((Below.refl _ _).drew)
      have A_210 := A_203.on ((Below.refl _ _).drew)
      have D_211 := D_204.on ((Below.refl _ _).drew)
      have P_212 := P_205.on ((Below.refl _ _).drew)
      have T_213 := T_206.on ((Below.refl _ _).drew)
      have B214 := B207.drew
      clear R_202 A_203 D_204 P_205 T_206 B207
      obtain ⟨u1, hu1⟩ : ∃ x, x = (wr.alloc (.cells #[.int .u8 6, .int .u32 (a : Int), .int .u16 (m : Int), .int .u32 (b : Int), .int .u16 (n : Int)] 29)).drew := ⟨_, rfl⟩
      rw [← hu1] at R_209 A_210 D_211 P_212 T_213 fzR_208 B214 ⊢
      clear hu1
      obtain ⟨_, p4_0, p4_1, p4_2⟩ := id P_212
      go_wp2_with fail
      refine (cw2 _).mono ?_; rintro e w2 ⟨rfl, rfl⟩
      clear p4_0 p4_1 p4_2
      by_cases he : twL 6 = nm
      · have e1 : ((str (twL 6)).toList == (str nm).toList) = true := by rw [he]; simp
        by_cases hq : tmay 6 m n = true
        · have HZ := HY.out 6 (by unfold hitB; rw [decide_eq_true he]; exact hq)
          have cm := cm2
          rw [hq] at cm
          clear hq he
          obtain ⟨_, t5_0, t5_1, t5_2, t5_3, t5_4⟩ := id T_213
          go_wp2_with fail
          refine (cm _).mono ?_; rintro e w3 ⟨rfl, x3⟩
          have fzR_215 : ∀ i, w3.frozen? ⟨w.heap.size, i, none⟩ = false := fun i => (x3.frozen (p := ⟨_, i, none⟩) R_209.1).trans (fzR_208 i)
          clear fzR_208
          have R_216 := R_209.on x3
          have A_217 := A_210.on x3
          have D_218 := D_211.on x3
          have P_219 := P_212.on x3
          have T_220 := T_213.on x3
          have B221 := B214.trans (x3.mono B214.size)
          clear t5_0 t5_1 t5_2 t5_3 t5_4 R_209 A_210 D_211 P_212 T_213 B214 x3
          obtain ⟨_, t6_0, t6_1, t6_2, t6_3, t6_4⟩ := id T_220
          obtain ⟨_, r7_0, r7_1, r7_2, r7_3, r7_4⟩ := id R_216
          go_wp2
          have BW := B32.trans (B221.mono B32.size)
          refine box5_ (b := w.heap.size) R_216.some BW (Nat.le_refl _) fun Z y0 y1 y2 y3 y4 BZ _ _ => ?_
          refine bodyPost_ret (v := .tuple #[.agg #[.int .u8 6, .int .u32 (a : Int), .int .u16 (m : Int), .int .u32 (b : Int), .int .u16 (n : Int)], .int .i64 0]) (by simp [results, Tryz.results10, go_sem, y0, y1, y2, y3, y4]) rfl ?_
          rw [HZ.out.1, HZ.out.2.1, HZ.out.2.2.1, HZ.out.2.2.2.1, HZ.out.2.2.2.2.1, HZ.out.2.2.2.2.2]
          exact ⟨rfl, BZ⟩
        · have kk := Lib.hid (show hitB nm 6 m n = false by unfold hitB; simp [hq])
          have hq2 : tmay 6 m n = false := by simpa using hq
          have cm := cm2
          rw [hq2] at cm
          clear hq hq2 he
          obtain ⟨_, t5_0, t5_1, t5_2, t5_3, t5_4⟩ := id T_213
          go_wp2_with fail
          refine (cm _).mono ?_; rintro e w3 ⟨rfl, x3⟩
          have fzR_215 : ∀ i, w3.frozen? ⟨w.heap.size, i, none⟩ = false := fun i => (x3.frozen (p := ⟨_, i, none⟩) R_209.1).trans (fzR_208 i)
          clear fzR_208
          have R_216 := R_209.on x3
          have A_217 := A_210.on x3
          have D_218 := D_211.on x3
          have P_219 := P_212.on x3
          have T_220 := T_213.on x3
          have B221 := B214.trans (x3.mono B214.size)
          clear t5_0 t5_1 t5_2 t5_3 t5_4 R_209 A_210 D_211 P_212 T_213 B214 x3
          go_wp2_with fail
          go_roundw
          case rel => exact ⟨.inr (.inr (.inl ⟨rfl, k1.out, kk.out⟩)), B221⟩
          case measure => simp [intOf]
      · have kk := Lib.hid (show hitB nm 6 m n = false by unfold hitB; simp [he])
        have e1 : ((str (twL 6)).toList == (str nm).toList) = false := by rw [str_toList, str_toList]; simpa using he
        clear he
        go_wp2_with fail
        go_roundw
        case rel => exact ⟨.inr (.inr (.inl ⟨rfl, k1.out, kk.out⟩)), B214⟩
        case measure => simp [intOf]
    · -- round 2
      have k1 := Lib.hid k1
      have k2 := Lib.hid k2
      have R_200 := R_28.on bb
      have A_200 := A_29.on bb
      have D_200 := D_30.on bb
      have P_200 := P_31.on bb
      have fz_200 : ∀ i, wr.frozen? ⟨w.heap.size, i, none⟩ = false := fun i => (bb.frozen (p := ⟨_, i, none⟩) R_28.1).trans (fzR_27 i)
      clear R_28 A_29 D_30 P_31 fzR_27
      obtain ⟨_, a1_0, a1_1⟩ := id A_200
      obtain ⟨_, d2_0, d2_1⟩ := id D_200
      obtain ⟨_, p3_0, p3_1, p3_2⟩ := id P_200
      go_wp2_with fail
      go_region
      clear a1_0 a1_1 d2_0 d2_1 p3_0 p3_1 p3_2
      have fzR_201 : ∀ i, (wr.alloc (.cells #[.int .u8 17, .int .u32 (a : Int), .int .u16 (m : Int), .int .u32 (b : Int), .int .u16 (n : Int)] 29)).frozen? ⟨w.heap.size, i, none⟩ = false := fun i => (((Below.refl wr.heap.size wr).alloc (Nat.le_refl _) (.cells #[.int .u8 17, .int .u32 (a : Int), .int .u16 (m : Int), .int .u32 (b : Int), .int .u16 (n : Int)] 29)).frozen (p := ⟨_, i, none⟩) R_200.1).trans (fz_200 i)
      clear fz_200
      have R_202 := R_200.past (o := (.cells #[.int .u8 17, .int .u32 (a : Int), .int .u16 (m : Int), .int .u32 (b : Int), .int .u16 (n : Int)] 29))
      have A_203 := A_200.past (o := (.cells #[.int .u8 17, .int .u32 (a : Int), .int .u16 (m : Int), .int .u32 (b : Int), .int .u16 (n : Int)] 29))
      have D_204 := D_200.past (o := (.cells #[.int .u8 17, .int .u32 (a : Int), .int .u16 (m : Int), .int .u32 (b : Int), .int .u16 (n : Int)] 29))
      have P_205 := P_200.past (o := (.cells #[.int .u8 17, .int .u32 (a : Int), .int .u16 (m : Int), .int .u32 (b : Int), .int .u16 (n : Int)] 29))
      have T_206 := Box5.make wr (.int .u8 17) (.int .u32 (a : Int)) (.int .u16 (m : Int)) (.int .u32 (b : Int)) (.int .u16 (n : Int)) 29
      have B207 := bb.alloc bb.size (.cells #[.int .u8 17, .int .u32 (a : Int), .int .u16 (m : Int), .int .u32 (b : Int), .int .u16 (n : Int)] 29)
      clear R_200 A_200 D_200 P_200 bb
      have fzR_208 : ∀ i, (wr.alloc (.cells #[.int .u8 17, .int .u32 (a : Int), .int .u16 (m : Int), .int .u32 (b : Int), .int .u16 (n : Int)] 29)).drew.frozen? ⟨w.heap.size, i, none⟩ = false := fun i => ((Below.refl (wr.alloc (.cells #[.int .u8 17, .int .u32 (a : Int), .int .u16 (m : Int), .int .u32 (b : Int), .int .u16 (n : Int)] 29)).heap.size (wr.alloc (.cells #[.int .u8 17, .int .u32 (a : Int), .int .u16 (m : Int), .int .u32 (b : Int), .int .u16 (n : Int)] 29))).drew.frozen (p := ⟨_, i, none⟩) R_202.1).trans (fzR_201 i)
      clear fzR_201
      have R_209 := R_202.on ((Below.refl _ _).drew)
      have A_210 := A_203.on ((Below.refl _ _).drew)
      have D_211 := D_204.on ((Below.refl _ _).drew)
      have P_212 := P_205.on ((Below.refl _ _).drew)
      have T_213 := T_206.on ((Below.refl _ _).drew)
      have B214 := B207.drew
      clear R_202 A_203 D_204 P_205 T_206 B207
      obtain ⟨u1, hu1⟩ : ∃ x, x = (wr.alloc (.cells #[.int .u8 17, .int .u32 (a : Int), .int .u16 (m : Int), .int .u32 (b : Int), .int .u16 (n : Int)] 29)).drew := ⟨_, rfl⟩
      rw [← hu1] at R_209 A_210 D_211 P_212 T_213 fzR_208 B214 ⊢
      clear hu1
      obtain ⟨_, p4_0, p4_1, p4_2⟩ := id P_212
      go_wp2_with fail
      refine (cw3 _).mono ?_; rintro e w2 ⟨rfl, rfl⟩
      clear p4_0 p4_1 p4_2
      by_cases he : twL 17 = nm
      · have e1 : ((str (twL 17)).toList == (str nm).toList) = true := by rw [he]; simp
        by_cases hq : tmay 17 m n = true
        · have HZ := HY.out 17 (by unfold hitB; rw [decide_eq_true he]; exact hq)
          have cm := cm3
          rw [hq] at cm
          clear hq he
          obtain ⟨_, t5_0, t5_1, t5_2, t5_3, t5_4⟩ := id T_213
          go_wp2_with fail
          refine (cm _).mono ?_; rintro e w3 ⟨rfl, x3⟩
          have fzR_215 : ∀ i, w3.frozen? ⟨w.heap.size, i, none⟩ = false := fun i => (x3.frozen (p := ⟨_, i, none⟩) R_209.1).trans (fzR_208 i)
          clear fzR_208
          have R_216 := R_209.on x3
          have A_217 := A_210.on x3
          have D_218 := D_211.on x3
          have P_219 := P_212.on x3
          have T_220 := T_213.on x3
          have B221 := B214.trans (x3.mono B214.size)
          clear t5_0 t5_1 t5_2 t5_3 t5_4 R_209 A_210 D_211 P_212 T_213 B214 x3
          obtain ⟨_, t6_0, t6_1, t6_2, t6_3, t6_4⟩ := id T_220
          obtain ⟨_, r7_0, r7_1, r7_2, r7_3, r7_4⟩ := id R_216
          go_wp2
          have BW := B32.trans (B221.mono B32.size)
          refine box5_ (b := w.heap.size) R_216.some BW (Nat.le_refl _) fun Z y0 y1 y2 y3 y4 BZ _ _ => ?_
          refine bodyPost_ret (v := .tuple #[.agg #[.int .u8 17, .int .u32 (a : Int), .int .u16 (m : Int), .int .u32 (b : Int), .int .u16 (n : Int)], .int .i64 0]) (by simp [results, Tryz.results10, go_sem, y0, y1, y2, y3, y4]) rfl ?_
          rw [HZ.out.1, HZ.out.2.1, HZ.out.2.2.1, HZ.out.2.2.2.1, HZ.out.2.2.2.2.1, HZ.out.2.2.2.2.2]
          exact ⟨rfl, BZ⟩
        · have kk := Lib.hid (show hitB nm 17 m n = false by unfold hitB; simp [hq])
          have hq2 : tmay 17 m n = false := by simpa using hq
          have cm := cm3
          rw [hq2] at cm
          clear hq hq2 he
          obtain ⟨_, t5_0, t5_1, t5_2, t5_3, t5_4⟩ := id T_213
          go_wp2_with fail
          refine (cm _).mono ?_; rintro e w3 ⟨rfl, x3⟩
          have fzR_215 : ∀ i, w3.frozen? ⟨w.heap.size, i, none⟩ = false := fun i => (x3.frozen (p := ⟨_, i, none⟩) R_209.1).trans (fzR_208 i)
          clear fzR_208
          have R_216 := R_209.on x3
          have A_217 := A_210.on x3
          have D_218 := D_211.on x3
          have P_219 := P_212.on x3
          have T_220 := T_213.on x3
          have B221 := B214.trans (x3.mono B214.size)
          clear t5_0 t5_1 t5_2 t5_3 t5_4 R_209 A_210 D_211 P_212 T_213 B214 x3
          go_wp2_with fail
          go_roundw
          case rel => exact ⟨.inr (.inr (.inr ⟨rfl, k1.out, k2.out, kk.out⟩)), B221⟩
          case measure => simp [intOf]
      · have kk := Lib.hid (show hitB nm 17 m n = false by unfold hitB; simp [he])
        have e1 : ((str (twL 17)).toList == (str nm).toList) = false := by rw [str_toList, str_toList]; simpa using he
        clear he
        go_wp2_with fail
        go_roundw
        case rel => exact ⟨.inr (.inr (.inr ⟨rfl, k1.out, k2.out, kk.out⟩)), B214⟩
        case measure => simp [intOf]
    · -- the end
      have R_200 := R_28.on bb
      have A_200 := A_29.on bb
      have D_200 := D_30.on bb
      have P_200 := P_31.on bb
      have fz_200 : ∀ i, wr.frozen? ⟨w.heap.size, i, none⟩ = false := fun i => (bb.frozen (p := ⟨_, i, none⟩) R_28.1).trans (fzR_27 i)
      clear R_28 A_29 D_30 P_31 fzR_27
      have HZ := HN.out k1 k2 k3
      clear k1 k2 k3
      obtain ⟨_, r1_0, r1_1, r1_2, r1_3, r1_4⟩ := id R_200
      go_wp2
      have BW := B32.trans (bb.mono B32.size)
      refine box5_ (b := w.heap.size) R_200.some BW (Nat.le_refl _) fun Z y0 y1 y2 y3 y4 BZ _ _ => ?_
      refine bodyPost_ret (v := .tuple #[.agg #[.int .u8 0, .int .u32 0, .int .u16 0, .int .u32 0, .int .u16 0], .int .i64 3]) (by simp [results, Tryz.results10, go_sem, y0, y1, y2, y3, y4]) rfl ?_
      rw [HZ.out.1, HZ.out.2.1, HZ.out.2.2.1, HZ.out.2.2.2.1, HZ.out.2.2.2.2.1, HZ.out.2.2.2.2.2]
      exact ⟨rfl, BZ⟩
end Go.Proofs.YtidkgnanfhdhdaaGreatDoor
