/- Contracts of the document's answers for layer 4: Parse. -/
import Derived.Test.YtfiokjenfmpmlaaIpB
import Derived.Deep.RegionHeld3
import Derived.Deep.DrawnRows
namespace Go.Proofs.Ytfiokjenfmpmlaa
set_option linter.unusedVariables false
set_option linter.unusedSimpArgs false
open Go.ChangeShapes Go.WideShapes Go.ChangeAt Go.RowKit Go.PlainAid
attribute [local go_sem ↓] Go.wp_at_zero Go.wp_at_succ
/-- How many bytes a header says that it has. -/
def ownN (s : ByteArray) : Nat := (bt s 0 % 16).toNat * 4
/-- Why a packet is not taken; 0: it is. -/
def pR (s : ByteArray) : Int :=
  if s.size < 20 then 1 else if ¬ bt s 0 / 16 = 4 then 2
  else if ownN s < 20 ∨ s.size < ownN s ∨ g16 s 2 < (ownN s : Int) ∨ (s.size : Int) < g16 s 2 ∨ 2048 < g16 s 2 then 3
  else if holdsV [s.extract 0 (ownN s)] = false then 4 else if ¬ g16 s 6 = 0 ∧ ¬ g16 s 6 = 16384 then 5 else 0
def pI (s : ByteArray) (v : Int) : Int := if pR s = 0 then v else 0
def pF (s : ByteArray) : Bool := if pR s = 0 then decide (0 < g16 s 6) else false
def pO (s : ByteArray) : ByteArray := if pR s = 0 then s.extract 20 (ownN s) else ⟨#[]⟩
def pP (s : ByteArray) : ByteArray := if pR s = 0 then s.extract (ownN s) (g16 s 2).toNat else ⟨#[]⟩
theorem p_no {s : ByteArray} (h : ¬ pR s = 0) : (∀ v, pI s v = 0) ∧ pF s = false ∧ pO s = ⟨#[]⟩ ∧ pP s = ⟨#[]⟩ := by
  unfold pI pF pO pP
  simp [h]
theorem p_yes {s : ByteArray} (h : pR s = 0) : (∀ v, pI s v = v) ∧ pF s = decide (0 < g16 s 6) ∧ pO s = s.extract 20 (ownN s) ∧ pP s = s.extract (ownN s) (g16 s 2).toNat := by
  unfold pI pF pO pP
  simp [h]
theorem bcell4_ {W w1 : World} (hb : Below W.heap.size W w1) : (∀ b o, b < W.heap.size → w1.cell? ⟨b, o, none⟩ = W.cell? ⟨b, o, none⟩) ∧ (∀ b o, b < W.heap.size → w1.frozen? ⟨b, o, none⟩ = W.frozen? ⟨b, o, none⟩) :=
  ⟨fun b o h => hb.cell (p := ⟨b, o, none⟩) h, fun b o h => hb.frozen (p := ⟨b, o, none⟩) h⟩
/-- A box of eight cells that is written whole. -/
theorem box8_ {W0 W : World} {b n : Nat} {v0 v1 v2 v3 v4 v5 v6 v7 : Value} {M : World → Prop} (h : ∀ j, j < 8 → (W.cell? ⟨b, j, none⟩).isSome = true) (hb : Below n W0 W) (hn : n ≤ b)
    (k : ∀ X : World, X.cell? ⟨b, 0, none⟩ = some v0 → X.cell? ⟨b, 1, none⟩ = some v1 → X.cell? ⟨b, 2, none⟩ = some v2 → X.cell? ⟨b, 3, none⟩ = some v3 → X.cell? ⟨b, 4, none⟩ = some v4 → X.cell? ⟨b, 5, none⟩ = some v5 → X.cell? ⟨b, 6, none⟩ = some v6 → X.cell? ⟨b, 7, none⟩ = some v7 → Below n W0 X → (∀ a : Addr, ¬ b = a.block → X.cell? a = W.cell? a) → M X) :
    M ((((((((W.setCell ⟨b, 0, none⟩ v0).setCell ⟨b, 1, none⟩ v1).setCell ⟨b, 2, none⟩ v2).setCell ⟨b, 3, none⟩ v3).setCell ⟨b, 4, none⟩ v4).setCell ⟨b, 5, none⟩ v5).setCell ⟨b, 6, none⟩ v6).setCell ⟨b, 7, none⟩ v7) := by
  have c := World.cell?_setCells_in b [v0, v1, v2, v3, v4, v5, v6, v7] 0 W (by intro j hj; rw [Nat.zero_add]; exact h j hj)
  refine k _ (c 0 (by simp)) (c 1 (by simp)) (c 2 (by simp)) (c 3 (by simp)) (c 4 (by simp)) (c 5 (by simp)) (c 6 (by simp)) (c 7 (by simp)) ?_ ?_
  rotate_left
  · intro a ha
    rw [World.cell?_setCell_far _ _ _ _ ha, World.cell?_setCell_far _ _ _ _ ha, World.cell?_setCell_far _ _ _ _ ha, World.cell?_setCell_far _ _ _ _ ha, World.cell?_setCell_far _ _ _ _ ha, World.cell?_setCell_far _ _ _ _ ha, World.cell?_setCell_far _ _ _ _ ha, World.cell?_setCell_far _ _ _ _ ha]
  exact (((((((hb.setCell hn _).setCell hn _).setCell hn _).setCell hn _).setCell hn _).setCell hn _).setCell hn _).setCell hn _
theorem box8d_ {W0 W : World} {b n : Nat} {v0 v1 v2 v3 v4 v5 v6 v7 : Value} {M : World → Prop} (h : ∀ j, j < 8 → (W.cell? ⟨b, j, none⟩).isSome = true) (hb : Below n W0 W) (hn : n ≤ b)
    (k : ∀ X : World, X.cell? ⟨b, 0, none⟩ = some v0 → X.cell? ⟨b, 1, none⟩ = some v1 → X.cell? ⟨b, 2, none⟩ = some v2 → X.cell? ⟨b, 3, none⟩ = some v3 → X.cell? ⟨b, 4, none⟩ = some v4 → X.cell? ⟨b, 5, none⟩ = some v5 → X.cell? ⟨b, 6, none⟩ = some v6 → X.cell? ⟨b, 7, none⟩ = some v7 → Below n W0 X → (∀ a : Addr, ¬ b = a.block → X.cell? a = W.cell? a) → M X) :
    M ((((((((W.setCell ⟨b, 0, none⟩ v0).setCell ⟨b, 1, none⟩ v1).setCell ⟨b, 2, none⟩ v2).setCell ⟨b, 3, none⟩ v3).setCell ⟨b, 4, none⟩ v4).setCell ⟨b, 5, none⟩ v5).setCell ⟨b, 6, none⟩ v6).setCell ⟨b, 7, none⟩ v7).drew := by
  refine box8_ (M := fun X => M X.drew) h hb hn fun X x0 x1 x2 x3 x4 x5 x6 x7 B f => ?_
  exact k X.drew x0 x1 x2 x3 x4 x5 x6 x7 B.drew f
theorem box8_is {W w1 : World} {b : Nat} {v0 v1 v2 v3 v4 v5 v6 v7 : Value} {t : TypeId} (hb : b = W.heap.size) (hc : ∀ b o, b < (W.alloc (.cells #[v0, v1, v2, v3, v4, v5, v6, v7] t)).heap.size → w1.cell? ⟨b, o, none⟩ = (W.alloc (.cells #[v0, v1, v2, v3, v4, v5, v6, v7] t)).cell? ⟨b, o, none⟩) : ∀ j, j < 8 → (w1.cell? ⟨b, j, none⟩).isSome = true := by
  subst hb
  intro j hj
  rw [hc _ _ (by simp)]
  match j, hj with
  | 0, _ => simp [go_sem]
  | 1, _ => simp [go_sem]
  | 2, _ => simp [go_sem]
  | 3, _ => simp [go_sem]
  | 4, _ => simp [go_sem]
  | 5, _ => simp [go_sem]
  | 6, _ => simp [go_sem]
  | 7, _ => simp [go_sem]
theorem new8_ {W : World} {v0 v1 v2 v3 v4 v5 v6 v7 : Value} {t : TypeId} {M : World → Prop}
    (k : ∀ X : World, X.cell? ⟨W.heap.size, 0, none⟩ = some v0 → X.cell? ⟨W.heap.size, 1, none⟩ = some v1 → X.cell? ⟨W.heap.size, 2, none⟩ = some v2 → X.cell? ⟨W.heap.size, 3, none⟩ = some v3 → X.cell? ⟨W.heap.size, 4, none⟩ = some v4 → X.cell? ⟨W.heap.size, 5, none⟩ = some v5 → X.cell? ⟨W.heap.size, 6, none⟩ = some v6 → X.cell? ⟨W.heap.size, 7, none⟩ = some v7 → Below W.heap.size W X → W.heap.size < X.heap.size → M X) :
    M (W.alloc (.cells #[v0, v1, v2, v3, v4, v5, v6, v7] t)).drew :=
  k _ (by simp [go_sem]) (by simp [go_sem]) (by simp [go_sem]) (by simp [go_sem]) (by simp [go_sem]) (by simp [go_sem]) (by simp [go_sem]) (by simp [go_sem]) ((Below.refl _ _).alloc (Nat.le_refl _) _).drew (by simp)
set_option maxHeartbeats 4000000 in
set_option maxRecDepth 100000 in
theorem rparse4_ (s : ByteArray) (w : World) (hs : s.size < maxLen) :
    Calls Try.prog 10 #[.string s] w fun e w' => e = .returned (.tuple #[.agg #[.int .u8 (pI s (bt s 1)), .int .u16 (pI s (g16 s 4)), .bool (pF s), .int .u8 (pI s (bt s 8)), .int .u8 (pI s (bt s 9)), .int .u32 (pI s (g32 s 12)), .int .u32 (pI s (g32 s 16)), .string (pO s)], .string (pP s), .int .i64 (pR s)]) ∧ Below w.heap.size w w' := by
  have hs' := hs
  unfold maxLen at hs
  have hs2 : (s.size : Int) ≤ 9223372036854775807 := by omega
  have hb := get_bt s
  have b0 := bt_nonneg s 0
  have b1 := bt_le s 0
  have hno : ∀ r : Int, ¬ r = 0 → pR s = r → Hid ((∀ v, pI s v = 0) ∧ pF s = false ∧ pO s = ⟨#[]⟩ ∧ pP s = ⟨#[]⟩ ∧ pR s = r) := by
    intro r h0 h
    obtain ⟨h1, h2, h3, h4⟩ := p_no (s := s) (by rw [h]; exact h0)
    exact ⟨h1, h2, h3, h4, h⟩
  by_cases h20 : s.size < 20
  · have HN := hno 1 (by omega) (by unfold pR; rw [if_pos h20])
    have e1 : decide (s.size < 20) = true := by simpa using h20
    have e2 : decide ((s.size : Int) < 20) = true := by simp; omega
    clear hno
    go_enter Try.func10, Try.ntmps10
    go_wp2
    refine bodyPost_ret (v := .tuple #[.agg #[.int .u8 0, .int .u16 0, .bool false, .int .u8 0, .int .u8 0, .int .u32 0, .int .u32 0, .string ⟨#[]⟩], .string ⟨#[]⟩, .int .i64 1]) (by simp [results, Try.results10, go_sem]) rfl ?_
    rw [HN.out.1, HN.out.1, HN.out.1, HN.out.1, HN.out.1, HN.out.1, HN.out.2.1, HN.out.2.2.1, HN.out.2.2.2.1, HN.out.2.2.2.2]
    exact ⟨rfl, (Below.refl _ _).alloc (Nat.le_refl _) _⟩
  have e1 : decide (s.size < 20) = false := by simpa using h20
  have e2 : decide ((s.size : Int) < 20) = false := by simp; omega
  have i0 : (0 : Int) < (s.size : Int) := by omega
  by_cases hv : bt s 0 / 16 = 4
  rotate_left
  · have HN := hno 2 (by omega) (by unfold pR; rw [if_neg h20, if_pos hv])
    have e3 : (bt s 0 / 16 == 4) = false := by simpa using hv
    clear hno
    go_enter Try.func10, Try.ntmps10
    go_wp2
    refine bodyPost_ret (v := .tuple #[.agg #[.int .u8 0, .int .u16 0, .bool false, .int .u8 0, .int .u8 0, .int .u32 0, .int .u32 0, .string ⟨#[]⟩], .string ⟨#[]⟩, .int .i64 2]) (by simp [results, Try.results10, go_sem]) rfl ?_
    rw [HN.out.1, HN.out.1, HN.out.1, HN.out.1, HN.out.1, HN.out.1, HN.out.2.1, HN.out.2.2.1, HN.out.2.2.2.1, HN.out.2.2.2.2]
    exact ⟨rfl, (Below.refl _ _).alloc (Nat.le_refl _) _⟩
  have e3 : (bt s 0 / 16 == 4) = true := by simpa using hv
  obtain ⟨n, hn⟩ : ∃ n, n = ownN s := ⟨_, rfl⟩
  have e4 : bt s 0 % 16 * 4 = (n : Int) := by rw [hn]; unfold ownN; omega
  have n60 : n ≤ 60 := by omega
  have z0 := g16_nonneg s 2
  have z1 := g16_le s 2
  obtain ⟨m, hm⟩ : ∃ m : Nat, g16 s 2 = (m : Int) := ⟨(g16 s 2).toNat, by omega⟩
  rw [hm] at z0 z1
  have cn : ∀ (B : Nat) (u : World) (k : Nat), k + 2 ≤ s.size → ∀ (x : Later B u), Calls Try.prog 19 #[.string s, .int .i64 (k : Int)] x.u fun e w'' => e = .returned (.int .i64 (g16 s k)) ∧ ∃ y : Later B u, w'' = y.u := fun B u k hk x => later_same x (number4_ s k _ (by unfold maxLen; omega) hk)
  have cn2 : ∀ (B : Nat) (u : World) (x : Later B u), Calls Try.prog 19 #[.string s, .int .i64 2] x.u fun e w'' => e = .returned (.int .i64 (m : Int)) ∧ ∃ y : Later B u, w'' = y.u := fun B u x => by rw [← hm]; exact cn B u 2 (by omega) x
  have hR : pR s = if n < 20 ∨ s.size < n ∨ m < n ∨ s.size < m ∨ 2048 < m then 3
      else if holdsV [s.extract 0 n] = false then 4 else if ¬ g16 s 6 = 0 ∧ ¬ g16 s 6 = 16384 then 5 else 0 := by
    unfold pR; rw [if_neg h20, if_neg (not_not_intro hv), ← hn, hm]; simp only [Int.ofNat_lt, show ((2048 : Int) < (m : Int)) ↔ 2048 < m by omega]
  by_cases c0 : n < 20
  · have HN := hno 3 (by omega) (by rw [hR, if_pos (by omega)])
    have q00 : decide (n < 20) = true := by simp; omega
    have q01 : decide ((n : Int) < 20) = true := by simp; omega
    clear hno hR hn hm
    go_enter Try.func10, Try.ntmps10
    go_wp2_with fail
    obtain ⟨w1, hw1⟩ : ∃ w1, w1 = w.alloc (.cells #[.int .u8 0, .int .u16 0, .bool false, .int .u8 0, .int .u8 0, .int .u32 0, .int .u32 0, .string ⟨#[]⟩] 30) := ⟨_, rfl⟩
    rw [← hw1]
    refine region_later (B := w1.heap.size) (by kernel_rfl) (by kernel_rfl) ?_
    repeat (go_big_quiet_step (first | (go_at_call 19; exact cn2 _ _ _)))
    refine later_end fun w2 b2 => ?_
    subst hw1
    obtain ⟨hc, hf⟩ := bcell4_ b2
    have hz : w.heap.size < w2.heap.size := by have := b2.size; simp at this; omega
    have B2 : Below w.heap.size w w2 := ((Below.refl _ _).alloc (Nat.le_refl _) _).trans (b2.mono (by simp))
    have hz2 := B2.size
    go_wp2
    refine box8_ (b := w.heap.size) (box8_is rfl hc) B2 (Nat.le_refl _) fun w9 x0 x1 x2 x3 x4 x5 x6 x7 B9 _ => ?_
    clear hc hf b2 B2
    refine bodyPost_ret (v := .tuple #[.agg #[.int .u8 0, .int .u16 0, .bool false, .int .u8 0, .int .u8 0, .int .u32 0, .int .u32 0, .string ⟨#[]⟩], .string ⟨#[]⟩, .int .i64 3]) (by simp [results, Try.results10, go_sem, x0, x1, x2, x3, x4, x5, x6, x7]) rfl ?_
    rw [HN.out.1, HN.out.1, HN.out.1, HN.out.1, HN.out.1, HN.out.1, HN.out.2.1, HN.out.2.2.1, HN.out.2.2.2.1, HN.out.2.2.2.2]
    exact ⟨rfl, B9⟩
  have q00 : decide (n < 20) = false := by simp; omega
  have q01 : decide ((n : Int) < 20) = false := by simp; omega
  by_cases c1 : s.size < n
  · have HN := hno 3 (by omega) (by rw [hR, if_pos (by omega)])
    have q10 : decide (s.size < n) = true := by simp; omega
    clear hno hR hn hm
    go_enter Try.func10, Try.ntmps10
    go_wp2_with fail
    obtain ⟨w1, hw1⟩ : ∃ w1, w1 = w.alloc (.cells #[.int .u8 0, .int .u16 0, .bool false, .int .u8 0, .int .u8 0, .int .u32 0, .int .u32 0, .string ⟨#[]⟩] 30) := ⟨_, rfl⟩
    rw [← hw1]
    refine region_later (B := w1.heap.size) (by kernel_rfl) (by kernel_rfl) ?_
    repeat (go_big_quiet_step (first | (go_at_call 19; exact cn2 _ _ _)))
    refine later_end fun w2 b2 => ?_
    subst hw1
    obtain ⟨hc, hf⟩ := bcell4_ b2
    have hz : w.heap.size < w2.heap.size := by have := b2.size; simp at this; omega
    have B2 : Below w.heap.size w w2 := ((Below.refl _ _).alloc (Nat.le_refl _) _).trans (b2.mono (by simp))
    have hz2 := B2.size
    go_wp2
    refine box8_ (b := w.heap.size) (box8_is rfl hc) B2 (Nat.le_refl _) fun w9 x0 x1 x2 x3 x4 x5 x6 x7 B9 _ => ?_
    clear hc hf b2 B2
    refine bodyPost_ret (v := .tuple #[.agg #[.int .u8 0, .int .u16 0, .bool false, .int .u8 0, .int .u8 0, .int .u32 0, .int .u32 0, .string ⟨#[]⟩], .string ⟨#[]⟩, .int .i64 3]) (by simp [results, Try.results10, go_sem, x0, x1, x2, x3, x4, x5, x6, x7]) rfl ?_
    rw [HN.out.1, HN.out.1, HN.out.1, HN.out.1, HN.out.1, HN.out.1, HN.out.2.1, HN.out.2.2.1, HN.out.2.2.2.1, HN.out.2.2.2.2]
    exact ⟨rfl, B9⟩
  have q10 : decide (s.size < n) = false := by simp; omega
  by_cases c2 : m < n
  · have HN := hno 3 (by omega) (by rw [hR, if_pos (by omega)])
    have q20 : decide (m < n) = true := by simp; omega
    clear hno hR hn hm
    go_enter Try.func10, Try.ntmps10
    go_wp2_with fail
    obtain ⟨w1, hw1⟩ : ∃ w1, w1 = w.alloc (.cells #[.int .u8 0, .int .u16 0, .bool false, .int .u8 0, .int .u8 0, .int .u32 0, .int .u32 0, .string ⟨#[]⟩] 30) := ⟨_, rfl⟩
    rw [← hw1]
    refine region_later (B := w1.heap.size) (by kernel_rfl) (by kernel_rfl) ?_
    repeat (go_big_quiet_step (first | (go_at_call 19; exact cn2 _ _ _)))
    refine later_end fun w2 b2 => ?_
    subst hw1
    obtain ⟨hc, hf⟩ := bcell4_ b2
    have hz : w.heap.size < w2.heap.size := by have := b2.size; simp at this; omega
    have B2 : Below w.heap.size w w2 := ((Below.refl _ _).alloc (Nat.le_refl _) _).trans (b2.mono (by simp))
    have hz2 := B2.size
    go_wp2
    refine box8_ (b := w.heap.size) (box8_is rfl hc) B2 (Nat.le_refl _) fun w9 x0 x1 x2 x3 x4 x5 x6 x7 B9 _ => ?_
    clear hc hf b2 B2
    refine bodyPost_ret (v := .tuple #[.agg #[.int .u8 0, .int .u16 0, .bool false, .int .u8 0, .int .u8 0, .int .u32 0, .int .u32 0, .string ⟨#[]⟩], .string ⟨#[]⟩, .int .i64 3]) (by simp [results, Try.results10, go_sem, x0, x1, x2, x3, x4, x5, x6, x7]) rfl ?_
    rw [HN.out.1, HN.out.1, HN.out.1, HN.out.1, HN.out.1, HN.out.1, HN.out.2.1, HN.out.2.2.1, HN.out.2.2.2.1, HN.out.2.2.2.2]
    exact ⟨rfl, B9⟩
  have q20 : decide (m < n) = false := by simp; omega
  by_cases c3 : s.size < m
  · have HN := hno 3 (by omega) (by rw [hR, if_pos (by omega)])
    have q30 : decide (s.size < m) = true := by simp; omega
    clear hno hR hn hm
    go_enter Try.func10, Try.ntmps10
    go_wp2_with fail
    obtain ⟨w1, hw1⟩ : ∃ w1, w1 = w.alloc (.cells #[.int .u8 0, .int .u16 0, .bool false, .int .u8 0, .int .u8 0, .int .u32 0, .int .u32 0, .string ⟨#[]⟩] 30) := ⟨_, rfl⟩
    rw [← hw1]
    refine region_later (B := w1.heap.size) (by kernel_rfl) (by kernel_rfl) ?_
    repeat (go_big_quiet_step (first | (go_at_call 19; exact cn2 _ _ _)))
    refine later_end fun w2 b2 => ?_
    subst hw1
    obtain ⟨hc, hf⟩ := bcell4_ b2
    have hz : w.heap.size < w2.heap.size := by have := b2.size; simp at this; omega
    have B2 : Below w.heap.size w w2 := ((Below.refl _ _).alloc (Nat.le_refl _) _).trans (b2.mono (by simp))
    have hz2 := B2.size
    go_wp2
    refine box8_ (b := w.heap.size) (box8_is rfl hc) B2 (Nat.le_refl _) fun w9 x0 x1 x2 x3 x4 x5 x6 x7 B9 _ => ?_
    clear hc hf b2 B2
    refine bodyPost_ret (v := .tuple #[.agg #[.int .u8 0, .int .u16 0, .bool false, .int .u8 0, .int .u8 0, .int .u32 0, .int .u32 0, .string ⟨#[]⟩], .string ⟨#[]⟩, .int .i64 3]) (by simp [results, Try.results10, go_sem, x0, x1, x2, x3, x4, x5, x6, x7]) rfl ?_
    rw [HN.out.1, HN.out.1, HN.out.1, HN.out.1, HN.out.1, HN.out.1, HN.out.2.1, HN.out.2.2.1, HN.out.2.2.2.1, HN.out.2.2.2.2]
    exact ⟨rfl, B9⟩
  have q30 : decide (s.size < m) = false := by simp; omega
  by_cases c4 : 2048 < m
  · have HN := hno 3 (by omega) (by rw [hR, if_pos (by omega)])
    have q40 : decide (2048 < m) = true := by simp; omega
    have q41 : decide ((2048 : Int) < (m : Int)) = true := by simp; omega
    clear hno hR hn hm
    go_enter Try.func10, Try.ntmps10
    go_wp2_with fail
    obtain ⟨w1, hw1⟩ : ∃ w1, w1 = w.alloc (.cells #[.int .u8 0, .int .u16 0, .bool false, .int .u8 0, .int .u8 0, .int .u32 0, .int .u32 0, .string ⟨#[]⟩] 30) := ⟨_, rfl⟩
    rw [← hw1]
    refine region_later (B := w1.heap.size) (by kernel_rfl) (by kernel_rfl) ?_
    repeat (go_big_quiet_step (first | (go_at_call 19; exact cn2 _ _ _)))
    refine later_end fun w2 b2 => ?_
    subst hw1
    obtain ⟨hc, hf⟩ := bcell4_ b2
    have hz : w.heap.size < w2.heap.size := by have := b2.size; simp at this; omega
    have B2 : Below w.heap.size w w2 := ((Below.refl _ _).alloc (Nat.le_refl _) _).trans (b2.mono (by simp))
    have hz2 := B2.size
    go_wp2
    refine box8_ (b := w.heap.size) (box8_is rfl hc) B2 (Nat.le_refl _) fun w9 x0 x1 x2 x3 x4 x5 x6 x7 B9 _ => ?_
    clear hc hf b2 B2
    refine bodyPost_ret (v := .tuple #[.agg #[.int .u8 0, .int .u16 0, .bool false, .int .u8 0, .int .u8 0, .int .u32 0, .int .u32 0, .string ⟨#[]⟩], .string ⟨#[]⟩, .int .i64 3]) (by simp [results, Try.results10, go_sem, x0, x1, x2, x3, x4, x5, x6, x7]) rfl ?_
    rw [HN.out.1, HN.out.1, HN.out.1, HN.out.1, HN.out.1, HN.out.1, HN.out.2.1, HN.out.2.2.1, HN.out.2.2.2.1, HN.out.2.2.2.2]
    exact ⟨rfl, B9⟩
  have q40 : decide (2048 < m) = false := by simp; omega
  have q41 : decide ((2048 : Int) < (m : Int)) = false := by simp; omega
  have u0 : n ≤ s.size := by omega
  have u1 : (n : Int) ≤ (s.size : Int) := by omega
  have hsz : (s.extract 0 n).size = n := by rw [ByteArray.size_extract]; omega
  have ch : ∀ (u : World) (b : Nat), b < u.heap.size → u.cell? ⟨b, 0, none⟩ = some (.string (s.extract 0 n)) → Calls Try.prog 20 #[.slice (some ⟨b, 0, none⟩) 1 1] u fun e w' => e = .returned (.bool (holdsV [s.extract 0 n])) ∧ u = w' :=
    fun u b hb h0 => rholds_ _ 1 1 [s.extract 0 n] u (rowS1 hb h0 (by unfold maxLen; omega)) (by intro x hx; simp at hx; subst hx; unfold maxLen; omega)
  rw [if_neg (by omega)] at hR
  obtain ⟨hv4, hhv⟩ : ∃ b, b = holdsV [s.extract 0 n] := ⟨_, rfl⟩
  rw [← hhv] at ch hR
  obtain ⟨X, hX⟩ : ∃ X, X = s.extract 0 n := ⟨_, rfl⟩
  rw [← hX] at ch
  have HX := Lib.hid hsz
  clear hsz
  cases hv4
  · have HN := hno 4 (by omega) (by rw [hR, if_pos rfl])
    have hX' := hX.symm
    clear hno hR hn hm hhv hX
    go_enter Try.func10, Try.ntmps10
    go_wp2_with fail
    obtain ⟨w1, hw1⟩ : ∃ w1, w1 = w.alloc (.cells #[.int .u8 0, .int .u16 0, .bool false, .int .u8 0, .int .u8 0, .int .u32 0, .int .u32 0, .string ⟨#[]⟩] 30) := ⟨_, rfl⟩
    rw [← hw1]
    refine region_later (B := w1.heap.size) (by kernel_rfl) (by kernel_rfl) ?_
    repeat (go_big_quiet_step (first | (go_at_call 19; exact cn2 _ _ _)))
    refine later_end fun w2 b2 => ?_
    subst hw1
    obtain ⟨hc, hf⟩ := bcell4_ b2
    have hz : w.heap.size < w2.heap.size := by have := b2.size; simp at this; omega
    have B2 : Below w.heap.size w w2 := ((Below.refl _ _).alloc (Nat.le_refl _) _).trans (b2.mono (by simp))
    have hz2 := B2.size
    go_wp2_with fail
    refine (ch _ _ (by simp) (by simp [go_sem])).mono ?_; rintro e w3 ⟨rfl, rfl⟩
    obtain ⟨w3, hw3⟩ : ∃ w3, w3 = w2.alloc (.cells #[.string X] 9) := ⟨_, rfl⟩
    have hs3 : w.heap.size < w3.heap.size := by rw [hw3]; simp; omega
    have B3 : Below w.heap.size w w3 := by rw [hw3]; exact B2.alloc hz2 _
    have b3 : Below (w.alloc (.cells #[.int .u8 0, .int .u16 0, .bool false, .int .u8 0, .int .u8 0, .int .u32 0, .int .u32 0, .string ⟨#[]⟩] 30)).heap.size (w.alloc (.cells #[.int .u8 0, .int .u16 0, .bool false, .int .u8 0, .int .u8 0, .int .u32 0, .int .u32 0, .string ⟨#[]⟩] 30)) w3 := by rw [hw3]; exact b2.alloc b2.size _
    clear hc hf b2
    obtain ⟨hc, hf⟩ := bcell4_ b3
    rw [← hw3]
    clear hw3 B2 ch hz hz2
    go_wp2
    refine box8_ (b := w.heap.size) (box8_is rfl hc) B3 (Nat.le_refl _) fun w9 x0 x1 x2 x3 x4 x5 x6 x7 B9 _ => ?_
    clear hc hf b3 B3
    refine bodyPost_ret (v := .tuple #[.agg #[.int .u8 0, .int .u16 0, .bool false, .int .u8 0, .int .u8 0, .int .u32 0, .int .u32 0, .string ⟨#[]⟩], .string ⟨#[]⟩, .int .i64 4]) (by simp [results, Try.results10, go_sem, x0, x1, x2, x3, x4, x5, x6, x7]) rfl ?_
    rw [HN.out.1, HN.out.1, HN.out.1, HN.out.1, HN.out.1, HN.out.1, HN.out.2.1, HN.out.2.2.1, HN.out.2.2.2.1, HN.out.2.2.2.2]
    exact ⟨rfl, B9⟩
  rw [if_neg (by simp)] at hR
  have c6 := fun u => number4_ s 6 u (by unfold maxLen; omega) (by omega)
  have y0 := g16_nonneg s 6
  have y1 := g16_le s 6
  by_cases hf : ¬ g16 s 6 = 0 ∧ ¬ g16 s 6 = 16384
  · have HN := hno 5 (by omega) (by rw [hR, if_pos hf])
    obtain ⟨f0, f1⟩ := hf
    have f2 : (g16 s 6 != 0) = true := by simpa using f0
    have f3 : (g16 s 6 != 16384) = true := by simpa using f1
    have hX' := hX.symm
    clear hno hR hn hm hhv hX f0 f1
    go_enter Try.func10, Try.ntmps10
    go_wp2_with fail
    obtain ⟨w1, hw1⟩ : ∃ w1, w1 = w.alloc (.cells #[.int .u8 0, .int .u16 0, .bool false, .int .u8 0, .int .u8 0, .int .u32 0, .int .u32 0, .string ⟨#[]⟩] 30) := ⟨_, rfl⟩
    rw [← hw1]
    refine region_later (B := w1.heap.size) (by kernel_rfl) (by kernel_rfl) ?_
    repeat (go_big_quiet_step (first | (go_at_call 19; exact cn2 _ _ _)))
    refine later_end fun w2 b2 => ?_
    subst hw1
    obtain ⟨hc, hf⟩ := bcell4_ b2
    have hz : w.heap.size < w2.heap.size := by have := b2.size; simp at this; omega
    have B2 : Below w.heap.size w w2 := ((Below.refl _ _).alloc (Nat.le_refl _) _).trans (b2.mono (by simp))
    have hz2 := B2.size
    go_wp2_with fail
    refine (ch _ _ (by simp) (by simp [go_sem])).mono ?_; rintro e w3 ⟨rfl, rfl⟩
    obtain ⟨w3, hw3⟩ : ∃ w3, w3 = w2.alloc (.cells #[.string X] 9) := ⟨_, rfl⟩
    have hs3 : w.heap.size < w3.heap.size := by rw [hw3]; simp; omega
    have B3 : Below w.heap.size w w3 := by rw [hw3]; exact B2.alloc hz2 _
    have b3 : Below (w.alloc (.cells #[.int .u8 0, .int .u16 0, .bool false, .int .u8 0, .int .u8 0, .int .u32 0, .int .u32 0, .string ⟨#[]⟩] 30)).heap.size (w.alloc (.cells #[.int .u8 0, .int .u16 0, .bool false, .int .u8 0, .int .u8 0, .int .u32 0, .int .u32 0, .string ⟨#[]⟩] 30)) w3 := by rw [hw3]; exact b2.alloc b2.size _
    clear hc hf b2
    obtain ⟨hc, hf⟩ := bcell4_ b3
    rw [← hw3]
    clear hw3 B2 ch hz hz2
    go_wp2_with fail
    refine (c6 _).mono ?_; rintro e w4 ⟨rfl, rfl⟩
    go_wp2
    refine box8_ (b := w.heap.size) (box8_is rfl hc) B3 (Nat.le_refl _) fun w9 x0 x1 x2 x3 x4 x5 x6 x7 B9 _ => ?_
    clear hc hf b3 B3
    refine bodyPost_ret (v := .tuple #[.agg #[.int .u8 0, .int .u16 0, .bool false, .int .u8 0, .int .u8 0, .int .u32 0, .int .u32 0, .string ⟨#[]⟩], .string ⟨#[]⟩, .int .i64 5]) (by simp [results, Try.results10, go_sem, x0, x1, x2, x3, x4, x5, x6, x7]) rfl ?_
    rw [HN.out.1, HN.out.1, HN.out.1, HN.out.1, HN.out.1, HN.out.1, HN.out.2.1, HN.out.2.2.1, HN.out.2.2.2.1, HN.out.2.2.2.2]
    exact ⟨rfl, B9⟩
  rw [if_neg hf] at hR
  obtain ⟨hI, hF, hO, hP⟩ := p_yes (s := s) hR
  rw [← hn] at hO hP
  have hm2 : (g16 s 2).toNat = m := by omega
  rw [hm2] at hP
  have HN : Hid ((∀ v, pI s v = v) ∧ pF s = decide (0 < g16 s 6) ∧ pO s = s.extract 20 n ∧ pP s = s.extract n m ∧ pR s = 0) := ⟨hI, hF, hO, hP, hR⟩
  have hX' := hX.symm
  have m0 : n ≤ m := by omega
  have m1 : m ≤ s.size := by omega
  have i1 : (1 : Int) < (s.size : Int) := by omega
  have i8 : (8 : Int) < (s.size : Int) := by omega
  have i9 : (9 : Int) < (s.size : Int) := by omega
  have j1 : 1 < s.size := by omega
  have j8 : 8 < s.size := by omega
  have j9 : 9 < s.size := by omega
  have n20 : 20 ≤ n := by omega
  have n21 : (20 : Int) ≤ (n : Int) := by omega
  have e16 : IntKind.u16.wrap (g16 s 4) = g16 s 4 := by
    have := g16_nonneg s 4
    have := g16_le s 4
    exact IntWalk.u16_in _ (by omega)
  have w4 := fun u => number4_ s 4 u (by unfold maxLen; omega) (by omega)
  have w12 := fun u => addr4_ s 12 u (by unfold maxLen; omega) (by omega)
  have w16 := fun u => addr4_ s 16 u (by unfold maxLen; omega) (by omega)
  clear hno hR hI hF hO hP hn hhv hX hm2 hm cn
  by_cases f0 : g16 s 6 = 0
  · have f4 : decide ((0 : Int) < 0) = false := by decide
    rw [f0] at c6 HN
    clear hf y0 y1
    go_enter Try.func10, Try.ntmps10
    go_wp2_with fail
    obtain ⟨w1, hw1⟩ : ∃ w1, w1 = w.alloc (.cells #[.int .u8 0, .int .u16 0, .bool false, .int .u8 0, .int .u8 0, .int .u32 0, .int .u32 0, .string ⟨#[]⟩] 30) := ⟨_, rfl⟩
    rw [← hw1]
    refine region_later (B := w1.heap.size) (by kernel_rfl) (by kernel_rfl) ?_
    repeat (go_big_quiet_step (first | (go_at_call 19; exact cn2 _ _ _)))
    refine later_end fun w2 b2 => ?_
    subst hw1
    obtain ⟨hc, hf⟩ := bcell4_ b2
    have hz : w.heap.size < w2.heap.size := by have := b2.size; simp at this; omega
    have B2 : Below w.heap.size w w2 := ((Below.refl _ _).alloc (Nat.le_refl _) _).trans (b2.mono (by simp))
    have hz2 := B2.size
    go_wp2_with fail
    refine (ch _ _ (by simp) (by simp [go_sem])).mono ?_; rintro e w3 ⟨rfl, rfl⟩
    obtain ⟨w3, hw3⟩ : ∃ w3, w3 = w2.alloc (.cells #[.string X] 9) := ⟨_, rfl⟩
    have hs3 : w.heap.size < w3.heap.size := by rw [hw3]; simp; omega
    have B3 : Below w.heap.size w w3 := by rw [hw3]; exact B2.alloc hz2 _
    have b3 : Below (w.alloc (.cells #[.int .u8 0, .int .u16 0, .bool false, .int .u8 0, .int .u8 0, .int .u32 0, .int .u32 0, .string ⟨#[]⟩] 30)).heap.size (w.alloc (.cells #[.int .u8 0, .int .u16 0, .bool false, .int .u8 0, .int .u8 0, .int .u32 0, .int .u32 0, .string ⟨#[]⟩] 30)) w3 := by rw [hw3]; exact b2.alloc b2.size _
    clear hc hf b2
    obtain ⟨hc, hf⟩ := bcell4_ b3
    rw [← hw3]
    clear hw3 B2 ch hz hz2
    go_wp2_with fail
    refine (c6 _).mono ?_; rintro e w4 ⟨rfl, rfl⟩
    go_wp2_with fail
    clear cn2 b0 b1 hc hf HX hX' i0 e1 e2 e3 e4
    have hne : ¬ w.heap.size = w3.heap.size := by omega
    refine wp_region_noPanic ?_
    refine wp_region_held_drew (S := (fun w' => True)) (by kernel_rfl) trivial (fun hHeld => ?_)
    refine wpAnyH_take (i := 0) (oi := _) (v := ?_) rfl (by kernel_rfl) (by kernel_rfl) (by kernel_rfl) (fun _ _ _ h => h) (Or.inl ⟨by rfl, ?_⟩) (by assumption) ?_
    rotate_left
    · intro w hSw
      (try dsimp only at hSw)
      go_simp
      with_reducible rfl
    try simp only [Act.put, List.setIfInBounds_toArray, List.set_cons_zero, List.set_cons_succ]
    refine wpAnyH_take (i := 2) (oi := _) (v := ?_) rfl (by kernel_rfl) (by kernel_rfl) (by kernel_rfl) (fun _ _ _ h => h) (Or.inl ⟨by rfl, ?_⟩) (by assumption) ?_
    rotate_left
    · intro w hSw
      (try dsimp only at hSw)
      go_simp
      with_reducible rfl
    try simp only [Act.put, List.setIfInBounds_toArray, List.set_cons_zero, List.set_cons_succ]
    refine wpAnyH_take (i := 5) (oi := _) (v := ?_) rfl (by kernel_rfl) (by kernel_rfl) (by kernel_rfl) (fun _ _ _ h => h) (Or.inl ⟨by rfl, ?_⟩) (by assumption) ?_
    rotate_left
    · intro w hSw
      (try dsimp only at hSw)
      go_simp
      with_reducible rfl
    try simp only [Act.put, List.setIfInBounds_toArray, List.set_cons_zero, List.set_cons_succ]
    refine wpAnyH_take (i := 6) (oi := _) (v := ?_) rfl (by kernel_rfl) (by kernel_rfl) (by kernel_rfl) (fun _ _ _ h => h) (Or.inl ⟨by rfl, ?_⟩) (by assumption) ?_
    rotate_left
    · intro w hSw
      (try dsimp only at hSw)
      go_simp
      with_reducible rfl
    try simp only [Act.put, List.setIfInBounds_toArray, List.set_cons_zero, List.set_cons_succ]
    refine wpAnyH_take (i := 7) (oi := _) (v := ?_) rfl (by kernel_rfl) (by kernel_rfl) (by kernel_rfl) (fun _ _ _ h => h) (Or.inl ⟨by rfl, ?_⟩) (by assumption) ?_
    rotate_left
    · intro w hSw
      (try dsimp only at hSw)
      go_simp
      with_reducible rfl
    try simp only [Act.put, List.setIfInBounds_toArray, List.set_cons_zero, List.set_cons_succ]
    refine wpAnyH_take (i := 9) (oi := _) (v := ?_) rfl (by kernel_rfl) (by kernel_rfl) (by kernel_rfl) (fun _ _ _ h => h) (Or.inl ⟨by rfl, ?_⟩) (by assumption) ?_
    rotate_left
    · intro w hSw
      (try dsimp only at hSw)
      go_simp
      with_reducible rfl
    try simp only [Act.put, List.setIfInBounds_toArray, List.set_cons_zero, List.set_cons_succ]
    refine wpAnyH_take (i := 11) (oi := _) (v := ?_) rfl (by kernel_rfl) (by kernel_rfl) (by kernel_rfl) (fun _ _ _ h => h) (Or.inl ⟨by rfl, ?_⟩) (by assumption) ?_
    rotate_left
    · intro w hSw
      (try dsimp only at hSw)
      go_simp
      with_reducible rfl
    try simp only [Act.put, List.setIfInBounds_toArray, List.set_cons_zero, List.set_cons_succ]
    refine wpAnyH_take (i := 13) (oi := _) (v := ?_) rfl (by kernel_rfl) (by kernel_rfl) (by kernel_rfl) (fun _ _ _ h => h) (Or.inl ⟨by rfl, ?_⟩) (by assumption) ?_
    rotate_left
    · intro w hSw
      (try dsimp only at hSw)
      go_simp
      with_reducible rfl
    try simp only [Act.put, List.setIfInBounds_toArray, List.set_cons_zero, List.set_cons_succ]
    refine wpAnyH_take (i := 15) (oi := _) (v := ?_) rfl (by kernel_rfl) (by kernel_rfl) (by kernel_rfl) (fun _ _ _ h => h) (Or.inl ⟨by rfl, ?_⟩) (by assumption) ?_
    rotate_left
    · intro w hSw
      (try dsimp only at hSw)
      go_simp
      with_reducible rfl
    try simp only [Act.put, List.setIfInBounds_toArray, List.set_cons_zero, List.set_cons_succ]
    refine wpAnyH_take (i := 16) (oi := _) (v := ?_) rfl (by kernel_rfl) (by kernel_rfl) (by kernel_rfl) (fun _ _ _ h => h) (Or.inl ⟨by rfl, ?_⟩) (by assumption) ?_
    rotate_left
    · intro w hSw
      (try dsimp only at hSw)
      go_simp
      with_reducible rfl
    try simp only [Act.put, List.setIfInBounds_toArray, List.set_cons_zero, List.set_cons_succ]
    refine wpAnyH_take (i := 17) (oi := _) (v := ?_) rfl (by kernel_rfl) (by kernel_rfl) (by kernel_rfl) (fun _ _ _ h => h) (Or.inl ⟨by rfl, ?_⟩) (by assumption) ?_
    rotate_left
    · intro w hSw
      (try dsimp only at hSw)
      go_simp
      with_reducible rfl
    try simp only [Act.put, List.setIfInBounds_toArray, List.set_cons_zero, List.set_cons_succ]
    refine wpAnyH_take (i := 1) (oi := _) (v := ?_) rfl (by kernel_rfl) (by kernel_rfl) (by kernel_rfl) (fun _ _ _ h => h) (Or.inl ⟨by rfl, ?_⟩) (by assumption) ?_
    rotate_left
    · intro w hSw
      (try dsimp only at hSw)
      go_simp
      with_reducible rfl
    try simp only [Act.put, List.setIfInBounds_toArray, List.set_cons_zero, List.set_cons_succ]
    refine wpAnyH_take (i := 8) (oi := _) (v := ?_) rfl (by kernel_rfl) (by kernel_rfl) (by kernel_rfl) (fun _ _ _ h => h) (Or.inl ⟨by rfl, ?_⟩) (by assumption) ?_
    rotate_left
    · intro w hSw
      (try dsimp only at hSw)
      go_simp
      with_reducible rfl
    try simp only [Act.put, List.setIfInBounds_toArray, List.set_cons_zero, List.set_cons_succ]
    refine wpAnyH_take (i := 10) (oi := _) (v := ?_) rfl (by kernel_rfl) (by kernel_rfl) (by kernel_rfl) (fun _ _ _ h => h) (Or.inl ⟨by rfl, ?_⟩) (by assumption) ?_
    rotate_left
    · intro w hSw
      (try dsimp only at hSw)
      go_simp
      with_reducible rfl
    try simp only [Act.put, List.setIfInBounds_toArray, List.set_cons_zero, List.set_cons_succ]
    refine wpAnyH_ready (rs := [3, 19]) (by kernel_rfl) (by simp) ?_
    refine AllReadyH.cons (o := _) rfl (fun K hK => ?_) ?_
    · go_simp
      refine (w4 _).mono ?_
      rintro e w5 ⟨rfl, rfl⟩
      show K _ _
      refine hK.out _ _ trivial (fun _ => ?_)
      clear hK K
      try simp only [Act.put, List.setIfInBounds_toArray, List.set_cons_zero, List.set_cons_succ]
      refine wpAnyH_take (i := 4) (oi := _) (v := ?_) rfl (by kernel_rfl) (by kernel_rfl) (by kernel_rfl) (fun _ _ _ h => h) (Or.inl ⟨by rfl, ?_⟩) (by assumption) ?_
      rotate_left
      · intro w hSw
        (try dsimp only at hSw)
        go_simp
        with_reducible rfl
      try simp only [Act.put, List.setIfInBounds_toArray, List.set_cons_zero, List.set_cons_succ]
      refine wpAnyH_ready (rs := [12, 19]) (by kernel_rfl) (by simp) ?_
      refine AllReadyH.cons (o := _) rfl (fun K hK => ?_) ?_
      · go_simp
        refine (w12 _).mono ?_
        rintro e w5 ⟨rfl, rfl⟩
        show K _ _
        refine hK.out _ _ trivial (fun _ => ?_)
        clear hK K
        try simp only [Act.put, List.setIfInBounds_toArray, List.set_cons_zero, List.set_cons_succ]
        refine wpAnyH_ready (rs := [14, 19]) (by kernel_rfl) (by simp) ?_
        refine AllReadyH.cons (o := _) rfl (fun K hK => ?_) ?_
        · go_simp
          refine (w16 _).mono ?_
          rintro e w5 ⟨rfl, rfl⟩
          show K _ _
          refine hK.out _ _ trivial (fun _ => ?_)
          clear hK K
          try simp only [Act.put, List.setIfInBounds_toArray, List.set_cons_zero, List.set_cons_succ]
          refine wpAnyH_take (i := 18) (oi := _) (v := ?_) rfl (by kernel_rfl) (by kernel_rfl) (by kernel_rfl) (fun _ _ _ h => h) (Or.inl ⟨by rfl, ?_⟩) (by assumption) ?_
          rotate_left
          · intro w hSw
            (try dsimp only at hSw)
            go_simp
            with_reducible rfl
          try simp only [Act.put, List.setIfInBounds_toArray, List.set_cons_zero, List.set_cons_succ]
          refine wpAnyH_ready (rs := [19]) (by kernel_rfl) (by simp) ?_
          refine AllReadyH.cons (o := _) rfl (fun K hK => ?_) ?_
          · go_simp
            refine hK.out _ _ trivial (fun _ => ?_)
            clear hK K
            try simp only [Act.put, List.setIfInBounds_toArray, List.set_cons_zero, List.set_cons_succ]
            refine wpAnyH_ready (rs := [20]) (by kernel_rfl) (by simp) ?_
            refine AllReadyH.cons (o := _) rfl (fun K hK => ?_) ?_
            · go_simp
              refine hK.out _ _ trivial (fun _ => ?_)
              clear hK K
              try simp only [Act.put, List.setIfInBounds_toArray, List.set_cons_zero, List.set_cons_succ]
              refine wpAnyH_done (by kernel_rfl) (NoPanic.normal ?_) _
              refine new8_ fun w9 x0 x1 x2 x3 x4 x5 x6 x7 B9 s9 => ?_
              have b9 := b3.trans (B9.mono b3.size)
              obtain ⟨hc, hf⟩ := bcell4_ b9
              have B := B3.trans (B9.mono B3.size)
              clear b9 B9 b3 B3
              go_wp2_with fail
              refine wp_region_noPanic ?_
              refine wp_region_held_drew (S := (fun w' => w'.cell? ⟨w3.heap.size, 0, none⟩ = some (.int .u8 (bt s 1)) ∧ w'.cell? ⟨w3.heap.size, 1, none⟩ = some (.int .u16 (g16 s 4)) ∧ w'.cell? ⟨w3.heap.size, 2, none⟩ = some (.bool false) ∧ w'.cell? ⟨w3.heap.size, 3, none⟩ = some (.int .u8 (bt s 8)) ∧ w'.cell? ⟨w3.heap.size, 4, none⟩ = some (.int .u8 (bt s 9)) ∧ w'.cell? ⟨w3.heap.size, 5, none⟩ = some (.int .u32 (g32 s 12)) ∧ w'.cell? ⟨w3.heap.size, 6, none⟩ = some (.int .u32 (g32 s 16)) ∧ w'.cell? ⟨w3.heap.size, 7, none⟩ = some (.string (s.extract 20 n)))) (by kernel_rfl) ?_ (fun hHeld => ?_)
              · simp [x0, x1, x2, x3, x4, x5, x6, x7]
              refine wpAnyH_take (i := 0) (oi := _) (v := ?_) rfl (by kernel_rfl) (by kernel_rfl) (by kernel_rfl) (fun _ _ _ h => h) (Or.inl ⟨by rfl, ?_⟩) (by assumption) ?_
              rotate_left
              · intro w hSw
                (try dsimp only at hSw)
                obtain ⟨g0, g1, g2, g3, g4, g5, g6, g7⟩ := hSw
                go_simp
                with_reducible rfl
              try simp only [Act.put, List.setIfInBounds_toArray, List.set_cons_zero, List.set_cons_succ]
              refine wpAnyH_take (i := 1) (oi := _) (v := ?_) rfl (by kernel_rfl) (by kernel_rfl) (by kernel_rfl) (fun _ _ _ h => h) (Or.inl ⟨by rfl, ?_⟩) (by assumption) ?_
              rotate_left
              · intro w hSw
                (try dsimp only at hSw)
                obtain ⟨g0, g1, g2, g3, g4, g5, g6, g7⟩ := hSw
                go_simp
                with_reducible rfl
              try simp only [Act.put, List.setIfInBounds_toArray, List.set_cons_zero, List.set_cons_succ]
              refine wpAnyH_take (i := 2) (oi := _) (v := ?_) rfl (by kernel_rfl) (by kernel_rfl) (by kernel_rfl) (fun _ _ _ h => h) (Or.inl ⟨by rfl, ?_⟩) (by assumption) ?_
              rotate_left
              · intro w hSw
                (try dsimp only at hSw)
                obtain ⟨g0, g1, g2, g3, g4, g5, g6, g7⟩ := hSw
                go_simp
                with_reducible rfl
              try simp only [Act.put, List.setIfInBounds_toArray, List.set_cons_zero, List.set_cons_succ]
              refine wpAnyH_take (i := 3) (oi := _) (v := ?_) rfl (by kernel_rfl) (by kernel_rfl) (by kernel_rfl) (fun _ _ _ h => h) (Or.inl ⟨by rfl, ?_⟩) (by assumption) ?_
              rotate_left
              · intro w hSw
                (try dsimp only at hSw)
                obtain ⟨g0, g1, g2, g3, g4, g5, g6, g7⟩ := hSw
                go_simp
                with_reducible rfl
              try simp only [Act.put, List.setIfInBounds_toArray, List.set_cons_zero, List.set_cons_succ]
              refine wpAnyH_take (i := 4) (oi := _) (v := ?_) rfl (by kernel_rfl) (by kernel_rfl) (by kernel_rfl) (fun _ _ _ h => h) (Or.inl ⟨by rfl, ?_⟩) (by assumption) ?_
              rotate_left
              · intro w hSw
                (try dsimp only at hSw)
                obtain ⟨g0, g1, g2, g3, g4, g5, g6, g7⟩ := hSw
                go_simp
                with_reducible rfl
              try simp only [Act.put, List.setIfInBounds_toArray, List.set_cons_zero, List.set_cons_succ]
              refine wpAnyH_ready (rs := [5]) (by kernel_rfl) (by simp) ?_
              refine AllReadyH.cons (o := _) rfl (fun K hK => ?_) AllReadyH.nil
              go_simp
              refine box8d_ (b := w.heap.size) (box8_is rfl hc) B (Nat.le_refl _) fun wz y0 y1 y2 y3 y4 y5 y6 y7 BZ far => ?_
              have hS2 : wz.cell? ⟨w3.heap.size, 0, none⟩ = some (.int .u8 (bt s 1)) ∧ wz.cell? ⟨w3.heap.size, 1, none⟩ = some (.int .u16 (g16 s 4)) ∧ wz.cell? ⟨w3.heap.size, 2, none⟩ = some (.bool false) ∧ wz.cell? ⟨w3.heap.size, 3, none⟩ = some (.int .u8 (bt s 8)) ∧ wz.cell? ⟨w3.heap.size, 4, none⟩ = some (.int .u8 (bt s 9)) ∧ wz.cell? ⟨w3.heap.size, 5, none⟩ = some (.int .u32 (g32 s 12)) ∧ wz.cell? ⟨w3.heap.size, 6, none⟩ = some (.int .u32 (g32 s 16)) ∧ wz.cell? ⟨w3.heap.size, 7, none⟩ = some (.string (s.extract 20 n)) :=
                ⟨(far _ hne).trans x0, (far _ hne).trans x1, (far _ hne).trans x2, (far _ hne).trans x3, (far _ hne).trans x4, (far _ hne).trans x5, (far _ hne).trans x6, (far _ hne).trans x7⟩
              refine hK.out _ _ hS2 (fun hHeld2 => ?_)
              clear hK K hHeld hHeld2 far hc hf x0 x1 x2 x3 x4 x5 x6 x7 B
              try simp only [Act.put, List.setIfInBounds_toArray, List.set_cons_zero, List.set_cons_succ]
              refine wpAnyH_ready (rs := [6]) (by kernel_rfl) (by simp) ?_
              refine AllReadyH.cons (o := _) rfl (fun K hK => ?_) AllReadyH.nil
              go_simp
              refine hK.out _ _ hS2 (fun _ => ?_)
              clear hK K
              try simp only [Act.put, List.setIfInBounds_toArray, List.set_cons_zero, List.set_cons_succ]
              refine wpAnyH_ready (rs := [7]) (by kernel_rfl) (by simp) ?_
              refine AllReadyH.cons (o := _) rfl (fun K hK => ?_) AllReadyH.nil
              go_simp
              refine hK.out _ _ hS2 (fun _ => ?_)
              clear hK K
              try simp only [Act.put, List.setIfInBounds_toArray, List.set_cons_zero, List.set_cons_succ]
              refine wpAnyH_done (by kernel_rfl) (NoPanic.normal ?_) _
              clear hS2
              go_wp2
              refine bodyPost_ret (v := .tuple #[.agg #[.int .u8 (bt s 1), .int .u16 (g16 s 4), .bool false, .int .u8 (bt s 8), .int .u8 (bt s 9), .int .u32 (g32 s 12), .int .u32 (g32 s 16), .string (s.extract 20 n)], .string (s.extract n m), .int .i64 0]) (by simp [results, Try.results10, go_sem, y0, y1, y2, y3, y4, y5, y6, y7]) rfl ?_
              rw [HN.out.1, HN.out.1, HN.out.1, HN.out.1, HN.out.1, HN.out.1, HN.out.2.1, HN.out.2.2.1, HN.out.2.2.2.1, HN.out.2.2.2.2]
              exact ⟨rfl, BZ⟩
            exact AllReadyH.nil
          exact AllReadyH.nil
        refine AllReadyH.cons (o := _) rfl (fun K hK => ?_) ?_
        · go_simp
          refine hK.out _ _ trivial (fun _ => ?_)
          clear hK K
          try simp only [Act.put, List.setIfInBounds_toArray, List.set_cons_zero, List.set_cons_succ]
          refine wpAnyH_ready (rs := [14]) (by kernel_rfl) (by simp) ?_
          refine AllReadyH.cons (o := _) rfl (fun K hK => ?_) ?_
          · go_simp
            refine (w16 _).mono ?_
            rintro e w5 ⟨rfl, rfl⟩
            show K _ _
            refine hK.out _ _ trivial (fun _ => ?_)
            clear hK K
            try simp only [Act.put, List.setIfInBounds_toArray, List.set_cons_zero, List.set_cons_succ]
            refine wpAnyH_take (i := 18) (oi := _) (v := ?_) rfl (by kernel_rfl) (by kernel_rfl) (by kernel_rfl) (fun _ _ _ h => h) (Or.inl ⟨by rfl, ?_⟩) (by assumption) ?_
            rotate_left
            · intro w hSw
              (try dsimp only at hSw)
              go_simp
              with_reducible rfl
            try simp only [Act.put, List.setIfInBounds_toArray, List.set_cons_zero, List.set_cons_succ]
            refine wpAnyH_ready (rs := [20]) (by kernel_rfl) (by simp) ?_
            refine AllReadyH.cons (o := _) rfl (fun K hK => ?_) ?_
            · go_simp
              refine hK.out _ _ trivial (fun _ => ?_)
              clear hK K
              try simp only [Act.put, List.setIfInBounds_toArray, List.set_cons_zero, List.set_cons_succ]
              refine wpAnyH_done (by kernel_rfl) (NoPanic.normal ?_) _
              refine new8_ fun w9 x0 x1 x2 x3 x4 x5 x6 x7 B9 s9 => ?_
              have b9 := b3.trans (B9.mono b3.size)
              obtain ⟨hc, hf⟩ := bcell4_ b9
              have B := B3.trans (B9.mono B3.size)
              clear b9 B9 b3 B3
              go_wp2_with fail
              refine wp_region_noPanic ?_
              refine wp_region_held_drew (S := (fun w' => w'.cell? ⟨w3.heap.size, 0, none⟩ = some (.int .u8 (bt s 1)) ∧ w'.cell? ⟨w3.heap.size, 1, none⟩ = some (.int .u16 (g16 s 4)) ∧ w'.cell? ⟨w3.heap.size, 2, none⟩ = some (.bool false) ∧ w'.cell? ⟨w3.heap.size, 3, none⟩ = some (.int .u8 (bt s 8)) ∧ w'.cell? ⟨w3.heap.size, 4, none⟩ = some (.int .u8 (bt s 9)) ∧ w'.cell? ⟨w3.heap.size, 5, none⟩ = some (.int .u32 (g32 s 12)) ∧ w'.cell? ⟨w3.heap.size, 6, none⟩ = some (.int .u32 (g32 s 16)) ∧ w'.cell? ⟨w3.heap.size, 7, none⟩ = some (.string (s.extract 20 n)))) (by kernel_rfl) ?_ (fun hHeld => ?_)
              · simp [x0, x1, x2, x3, x4, x5, x6, x7]
              refine wpAnyH_take (i := 0) (oi := _) (v := ?_) rfl (by kernel_rfl) (by kernel_rfl) (by kernel_rfl) (fun _ _ _ h => h) (Or.inl ⟨by rfl, ?_⟩) (by assumption) ?_
              rotate_left
              · intro w hSw
                (try dsimp only at hSw)
                obtain ⟨g0, g1, g2, g3, g4, g5, g6, g7⟩ := hSw
                go_simp
                with_reducible rfl
              try simp only [Act.put, List.setIfInBounds_toArray, List.set_cons_zero, List.set_cons_succ]
              refine wpAnyH_take (i := 1) (oi := _) (v := ?_) rfl (by kernel_rfl) (by kernel_rfl) (by kernel_rfl) (fun _ _ _ h => h) (Or.inl ⟨by rfl, ?_⟩) (by assumption) ?_
              rotate_left
              · intro w hSw
                (try dsimp only at hSw)
                obtain ⟨g0, g1, g2, g3, g4, g5, g6, g7⟩ := hSw
                go_simp
                with_reducible rfl
              try simp only [Act.put, List.setIfInBounds_toArray, List.set_cons_zero, List.set_cons_succ]
              refine wpAnyH_take (i := 2) (oi := _) (v := ?_) rfl (by kernel_rfl) (by kernel_rfl) (by kernel_rfl) (fun _ _ _ h => h) (Or.inl ⟨by rfl, ?_⟩) (by assumption) ?_
              rotate_left
              · intro w hSw
                (try dsimp only at hSw)
                obtain ⟨g0, g1, g2, g3, g4, g5, g6, g7⟩ := hSw
                go_simp
                with_reducible rfl
              try simp only [Act.put, List.setIfInBounds_toArray, List.set_cons_zero, List.set_cons_succ]
              refine wpAnyH_take (i := 3) (oi := _) (v := ?_) rfl (by kernel_rfl) (by kernel_rfl) (by kernel_rfl) (fun _ _ _ h => h) (Or.inl ⟨by rfl, ?_⟩) (by assumption) ?_
              rotate_left
              · intro w hSw
                (try dsimp only at hSw)
                obtain ⟨g0, g1, g2, g3, g4, g5, g6, g7⟩ := hSw
                go_simp
                with_reducible rfl
              try simp only [Act.put, List.setIfInBounds_toArray, List.set_cons_zero, List.set_cons_succ]
              refine wpAnyH_take (i := 4) (oi := _) (v := ?_) rfl (by kernel_rfl) (by kernel_rfl) (by kernel_rfl) (fun _ _ _ h => h) (Or.inl ⟨by rfl, ?_⟩) (by assumption) ?_
              rotate_left
              · intro w hSw
                (try dsimp only at hSw)
                obtain ⟨g0, g1, g2, g3, g4, g5, g6, g7⟩ := hSw
                go_simp
                with_reducible rfl
              try simp only [Act.put, List.setIfInBounds_toArray, List.set_cons_zero, List.set_cons_succ]
              refine wpAnyH_ready (rs := [5]) (by kernel_rfl) (by simp) ?_
              refine AllReadyH.cons (o := _) rfl (fun K hK => ?_) AllReadyH.nil
              go_simp
              refine box8d_ (b := w.heap.size) (box8_is rfl hc) B (Nat.le_refl _) fun wz y0 y1 y2 y3 y4 y5 y6 y7 BZ far => ?_
              have hS2 : wz.cell? ⟨w3.heap.size, 0, none⟩ = some (.int .u8 (bt s 1)) ∧ wz.cell? ⟨w3.heap.size, 1, none⟩ = some (.int .u16 (g16 s 4)) ∧ wz.cell? ⟨w3.heap.size, 2, none⟩ = some (.bool false) ∧ wz.cell? ⟨w3.heap.size, 3, none⟩ = some (.int .u8 (bt s 8)) ∧ wz.cell? ⟨w3.heap.size, 4, none⟩ = some (.int .u8 (bt s 9)) ∧ wz.cell? ⟨w3.heap.size, 5, none⟩ = some (.int .u32 (g32 s 12)) ∧ wz.cell? ⟨w3.heap.size, 6, none⟩ = some (.int .u32 (g32 s 16)) ∧ wz.cell? ⟨w3.heap.size, 7, none⟩ = some (.string (s.extract 20 n)) :=
                ⟨(far _ hne).trans x0, (far _ hne).trans x1, (far _ hne).trans x2, (far _ hne).trans x3, (far _ hne).trans x4, (far _ hne).trans x5, (far _ hne).trans x6, (far _ hne).trans x7⟩
              refine hK.out _ _ hS2 (fun hHeld2 => ?_)
              clear hK K hHeld hHeld2 far hc hf x0 x1 x2 x3 x4 x5 x6 x7 B
              try simp only [Act.put, List.setIfInBounds_toArray, List.set_cons_zero, List.set_cons_succ]
              refine wpAnyH_ready (rs := [6]) (by kernel_rfl) (by simp) ?_
              refine AllReadyH.cons (o := _) rfl (fun K hK => ?_) AllReadyH.nil
              go_simp
              refine hK.out _ _ hS2 (fun _ => ?_)
              clear hK K
              try simp only [Act.put, List.setIfInBounds_toArray, List.set_cons_zero, List.set_cons_succ]
              refine wpAnyH_ready (rs := [7]) (by kernel_rfl) (by simp) ?_
              refine AllReadyH.cons (o := _) rfl (fun K hK => ?_) AllReadyH.nil
              go_simp
              refine hK.out _ _ hS2 (fun _ => ?_)
              clear hK K
              try simp only [Act.put, List.setIfInBounds_toArray, List.set_cons_zero, List.set_cons_succ]
              refine wpAnyH_done (by kernel_rfl) (NoPanic.normal ?_) _
              clear hS2
              go_wp2
              refine bodyPost_ret (v := .tuple #[.agg #[.int .u8 (bt s 1), .int .u16 (g16 s 4), .bool false, .int .u8 (bt s 8), .int .u8 (bt s 9), .int .u32 (g32 s 12), .int .u32 (g32 s 16), .string (s.extract 20 n)], .string (s.extract n m), .int .i64 0]) (by simp [results, Try.results10, go_sem, y0, y1, y2, y3, y4, y5, y6, y7]) rfl ?_
              rw [HN.out.1, HN.out.1, HN.out.1, HN.out.1, HN.out.1, HN.out.1, HN.out.2.1, HN.out.2.2.1, HN.out.2.2.2.1, HN.out.2.2.2.2]
              exact ⟨rfl, BZ⟩
            exact AllReadyH.nil
          exact AllReadyH.nil
        exact AllReadyH.nil
      refine AllReadyH.cons (o := _) rfl (fun K hK => ?_) ?_
      · go_simp
        refine hK.out _ _ trivial (fun _ => ?_)
        clear hK K
        try simp only [Act.put, List.setIfInBounds_toArray, List.set_cons_zero, List.set_cons_succ]
        refine wpAnyH_ready (rs := [12]) (by kernel_rfl) (by simp) ?_
        refine AllReadyH.cons (o := _) rfl (fun K hK => ?_) ?_
        · go_simp
          refine (w12 _).mono ?_
          rintro e w5 ⟨rfl, rfl⟩
          show K _ _
          refine hK.out _ _ trivial (fun _ => ?_)
          clear hK K
          try simp only [Act.put, List.setIfInBounds_toArray, List.set_cons_zero, List.set_cons_succ]
          refine wpAnyH_ready (rs := [14]) (by kernel_rfl) (by simp) ?_
          refine AllReadyH.cons (o := _) rfl (fun K hK => ?_) ?_
          · go_simp
            refine (w16 _).mono ?_
            rintro e w5 ⟨rfl, rfl⟩
            show K _ _
            refine hK.out _ _ trivial (fun _ => ?_)
            clear hK K
            try simp only [Act.put, List.setIfInBounds_toArray, List.set_cons_zero, List.set_cons_succ]
            refine wpAnyH_take (i := 18) (oi := _) (v := ?_) rfl (by kernel_rfl) (by kernel_rfl) (by kernel_rfl) (fun _ _ _ h => h) (Or.inl ⟨by rfl, ?_⟩) (by assumption) ?_
            rotate_left
            · intro w hSw
              (try dsimp only at hSw)
              go_simp
              with_reducible rfl
            try simp only [Act.put, List.setIfInBounds_toArray, List.set_cons_zero, List.set_cons_succ]
            refine wpAnyH_ready (rs := [20]) (by kernel_rfl) (by simp) ?_
            refine AllReadyH.cons (o := _) rfl (fun K hK => ?_) ?_
            · go_simp
              refine hK.out _ _ trivial (fun _ => ?_)
              clear hK K
              try simp only [Act.put, List.setIfInBounds_toArray, List.set_cons_zero, List.set_cons_succ]
              refine wpAnyH_done (by kernel_rfl) (NoPanic.normal ?_) _
              refine new8_ fun w9 x0 x1 x2 x3 x4 x5 x6 x7 B9 s9 => ?_
              have b9 := b3.trans (B9.mono b3.size)
              obtain ⟨hc, hf⟩ := bcell4_ b9
              have B := B3.trans (B9.mono B3.size)
              clear b9 B9 b3 B3
              go_wp2_with fail
              refine wp_region_noPanic ?_
              refine wp_region_held_drew (S := (fun w' => w'.cell? ⟨w3.heap.size, 0, none⟩ = some (.int .u8 (bt s 1)) ∧ w'.cell? ⟨w3.heap.size, 1, none⟩ = some (.int .u16 (g16 s 4)) ∧ w'.cell? ⟨w3.heap.size, 2, none⟩ = some (.bool false) ∧ w'.cell? ⟨w3.heap.size, 3, none⟩ = some (.int .u8 (bt s 8)) ∧ w'.cell? ⟨w3.heap.size, 4, none⟩ = some (.int .u8 (bt s 9)) ∧ w'.cell? ⟨w3.heap.size, 5, none⟩ = some (.int .u32 (g32 s 12)) ∧ w'.cell? ⟨w3.heap.size, 6, none⟩ = some (.int .u32 (g32 s 16)) ∧ w'.cell? ⟨w3.heap.size, 7, none⟩ = some (.string (s.extract 20 n)))) (by kernel_rfl) ?_ (fun hHeld => ?_)
              · simp [x0, x1, x2, x3, x4, x5, x6, x7]
              refine wpAnyH_take (i := 0) (oi := _) (v := ?_) rfl (by kernel_rfl) (by kernel_rfl) (by kernel_rfl) (fun _ _ _ h => h) (Or.inl ⟨by rfl, ?_⟩) (by assumption) ?_
              rotate_left
              · intro w hSw
                (try dsimp only at hSw)
                obtain ⟨g0, g1, g2, g3, g4, g5, g6, g7⟩ := hSw
                go_simp
                with_reducible rfl
              try simp only [Act.put, List.setIfInBounds_toArray, List.set_cons_zero, List.set_cons_succ]
              refine wpAnyH_take (i := 1) (oi := _) (v := ?_) rfl (by kernel_rfl) (by kernel_rfl) (by kernel_rfl) (fun _ _ _ h => h) (Or.inl ⟨by rfl, ?_⟩) (by assumption) ?_
              rotate_left
              · intro w hSw
                (try dsimp only at hSw)
                obtain ⟨g0, g1, g2, g3, g4, g5, g6, g7⟩ := hSw
                go_simp
                with_reducible rfl
              try simp only [Act.put, List.setIfInBounds_toArray, List.set_cons_zero, List.set_cons_succ]
              refine wpAnyH_take (i := 2) (oi := _) (v := ?_) rfl (by kernel_rfl) (by kernel_rfl) (by kernel_rfl) (fun _ _ _ h => h) (Or.inl ⟨by rfl, ?_⟩) (by assumption) ?_
              rotate_left
              · intro w hSw
                (try dsimp only at hSw)
                obtain ⟨g0, g1, g2, g3, g4, g5, g6, g7⟩ := hSw
                go_simp
                with_reducible rfl
              try simp only [Act.put, List.setIfInBounds_toArray, List.set_cons_zero, List.set_cons_succ]
              refine wpAnyH_take (i := 3) (oi := _) (v := ?_) rfl (by kernel_rfl) (by kernel_rfl) (by kernel_rfl) (fun _ _ _ h => h) (Or.inl ⟨by rfl, ?_⟩) (by assumption) ?_
              rotate_left
              · intro w hSw
                (try dsimp only at hSw)
                obtain ⟨g0, g1, g2, g3, g4, g5, g6, g7⟩ := hSw
                go_simp
                with_reducible rfl
              try simp only [Act.put, List.setIfInBounds_toArray, List.set_cons_zero, List.set_cons_succ]
              refine wpAnyH_take (i := 4) (oi := _) (v := ?_) rfl (by kernel_rfl) (by kernel_rfl) (by kernel_rfl) (fun _ _ _ h => h) (Or.inl ⟨by rfl, ?_⟩) (by assumption) ?_
              rotate_left
              · intro w hSw
                (try dsimp only at hSw)
                obtain ⟨g0, g1, g2, g3, g4, g5, g6, g7⟩ := hSw
                go_simp
                with_reducible rfl
              try simp only [Act.put, List.setIfInBounds_toArray, List.set_cons_zero, List.set_cons_succ]
              refine wpAnyH_ready (rs := [5]) (by kernel_rfl) (by simp) ?_
              refine AllReadyH.cons (o := _) rfl (fun K hK => ?_) AllReadyH.nil
              go_simp
              refine box8d_ (b := w.heap.size) (box8_is rfl hc) B (Nat.le_refl _) fun wz y0 y1 y2 y3 y4 y5 y6 y7 BZ far => ?_
              have hS2 : wz.cell? ⟨w3.heap.size, 0, none⟩ = some (.int .u8 (bt s 1)) ∧ wz.cell? ⟨w3.heap.size, 1, none⟩ = some (.int .u16 (g16 s 4)) ∧ wz.cell? ⟨w3.heap.size, 2, none⟩ = some (.bool false) ∧ wz.cell? ⟨w3.heap.size, 3, none⟩ = some (.int .u8 (bt s 8)) ∧ wz.cell? ⟨w3.heap.size, 4, none⟩ = some (.int .u8 (bt s 9)) ∧ wz.cell? ⟨w3.heap.size, 5, none⟩ = some (.int .u32 (g32 s 12)) ∧ wz.cell? ⟨w3.heap.size, 6, none⟩ = some (.int .u32 (g32 s 16)) ∧ wz.cell? ⟨w3.heap.size, 7, none⟩ = some (.string (s.extract 20 n)) :=
                ⟨(far _ hne).trans x0, (far _ hne).trans x1, (far _ hne).trans x2, (far _ hne).trans x3, (far _ hne).trans x4, (far _ hne).trans x5, (far _ hne).trans x6, (far _ hne).trans x7⟩
              refine hK.out _ _ hS2 (fun hHeld2 => ?_)
              clear hK K hHeld hHeld2 far hc hf x0 x1 x2 x3 x4 x5 x6 x7 B
              try simp only [Act.put, List.setIfInBounds_toArray, List.set_cons_zero, List.set_cons_succ]
              refine wpAnyH_ready (rs := [6]) (by kernel_rfl) (by simp) ?_
              refine AllReadyH.cons (o := _) rfl (fun K hK => ?_) AllReadyH.nil
              go_simp
              refine hK.out _ _ hS2 (fun _ => ?_)
              clear hK K
              try simp only [Act.put, List.setIfInBounds_toArray, List.set_cons_zero, List.set_cons_succ]
              refine wpAnyH_ready (rs := [7]) (by kernel_rfl) (by simp) ?_
              refine AllReadyH.cons (o := _) rfl (fun K hK => ?_) AllReadyH.nil
              go_simp
              refine hK.out _ _ hS2 (fun _ => ?_)
              clear hK K
              try simp only [Act.put, List.setIfInBounds_toArray, List.set_cons_zero, List.set_cons_succ]
              refine wpAnyH_done (by kernel_rfl) (NoPanic.normal ?_) _
              clear hS2
              go_wp2
              refine bodyPost_ret (v := .tuple #[.agg #[.int .u8 (bt s 1), .int .u16 (g16 s 4), .bool false, .int .u8 (bt s 8), .int .u8 (bt s 9), .int .u32 (g32 s 12), .int .u32 (g32 s 16), .string (s.extract 20 n)], .string (s.extract n m), .int .i64 0]) (by simp [results, Try.results10, go_sem, y0, y1, y2, y3, y4, y5, y6, y7]) rfl ?_
              rw [HN.out.1, HN.out.1, HN.out.1, HN.out.1, HN.out.1, HN.out.1, HN.out.2.1, HN.out.2.2.1, HN.out.2.2.2.1, HN.out.2.2.2.2]
              exact ⟨rfl, BZ⟩
            exact AllReadyH.nil
          exact AllReadyH.nil
        exact AllReadyH.nil
      exact AllReadyH.nil
    refine AllReadyH.cons (o := _) rfl (fun K hK => ?_) ?_
    · go_simp
      refine hK.out _ _ trivial (fun _ => ?_)
      clear hK K
      try simp only [Act.put, List.setIfInBounds_toArray, List.set_cons_zero, List.set_cons_succ]
      refine wpAnyH_ready (rs := [3]) (by kernel_rfl) (by simp) ?_
      refine AllReadyH.cons (o := _) rfl (fun K hK => ?_) ?_
      · go_simp
        refine (w4 _).mono ?_
        rintro e w5 ⟨rfl, rfl⟩
        show K _ _
        refine hK.out _ _ trivial (fun _ => ?_)
        clear hK K
        try simp only [Act.put, List.setIfInBounds_toArray, List.set_cons_zero, List.set_cons_succ]
        refine wpAnyH_take (i := 4) (oi := _) (v := ?_) rfl (by kernel_rfl) (by kernel_rfl) (by kernel_rfl) (fun _ _ _ h => h) (Or.inl ⟨by rfl, ?_⟩) (by assumption) ?_
        rotate_left
        · intro w hSw
          (try dsimp only at hSw)
          go_simp
          with_reducible rfl
        try simp only [Act.put, List.setIfInBounds_toArray, List.set_cons_zero, List.set_cons_succ]
        refine wpAnyH_ready (rs := [12]) (by kernel_rfl) (by simp) ?_
        refine AllReadyH.cons (o := _) rfl (fun K hK => ?_) ?_
        · go_simp
          refine (w12 _).mono ?_
          rintro e w5 ⟨rfl, rfl⟩
          show K _ _
          refine hK.out _ _ trivial (fun _ => ?_)
          clear hK K
          try simp only [Act.put, List.setIfInBounds_toArray, List.set_cons_zero, List.set_cons_succ]
          refine wpAnyH_ready (rs := [14]) (by kernel_rfl) (by simp) ?_
          refine AllReadyH.cons (o := _) rfl (fun K hK => ?_) ?_
          · go_simp
            refine (w16 _).mono ?_
            rintro e w5 ⟨rfl, rfl⟩
            show K _ _
            refine hK.out _ _ trivial (fun _ => ?_)
            clear hK K
            try simp only [Act.put, List.setIfInBounds_toArray, List.set_cons_zero, List.set_cons_succ]
            refine wpAnyH_take (i := 18) (oi := _) (v := ?_) rfl (by kernel_rfl) (by kernel_rfl) (by kernel_rfl) (fun _ _ _ h => h) (Or.inl ⟨by rfl, ?_⟩) (by assumption) ?_
            rotate_left
            · intro w hSw
              (try dsimp only at hSw)
              go_simp
              with_reducible rfl
            try simp only [Act.put, List.setIfInBounds_toArray, List.set_cons_zero, List.set_cons_succ]
            refine wpAnyH_ready (rs := [20]) (by kernel_rfl) (by simp) ?_
            refine AllReadyH.cons (o := _) rfl (fun K hK => ?_) ?_
            · go_simp
              refine hK.out _ _ trivial (fun _ => ?_)
              clear hK K
              try simp only [Act.put, List.setIfInBounds_toArray, List.set_cons_zero, List.set_cons_succ]
              refine wpAnyH_done (by kernel_rfl) (NoPanic.normal ?_) _
              refine new8_ fun w9 x0 x1 x2 x3 x4 x5 x6 x7 B9 s9 => ?_
              have b9 := b3.trans (B9.mono b3.size)
              obtain ⟨hc, hf⟩ := bcell4_ b9
              have B := B3.trans (B9.mono B3.size)
              clear b9 B9 b3 B3
              go_wp2_with fail
              refine wp_region_noPanic ?_
              refine wp_region_held_drew (S := (fun w' => w'.cell? ⟨w3.heap.size, 0, none⟩ = some (.int .u8 (bt s 1)) ∧ w'.cell? ⟨w3.heap.size, 1, none⟩ = some (.int .u16 (g16 s 4)) ∧ w'.cell? ⟨w3.heap.size, 2, none⟩ = some (.bool false) ∧ w'.cell? ⟨w3.heap.size, 3, none⟩ = some (.int .u8 (bt s 8)) ∧ w'.cell? ⟨w3.heap.size, 4, none⟩ = some (.int .u8 (bt s 9)) ∧ w'.cell? ⟨w3.heap.size, 5, none⟩ = some (.int .u32 (g32 s 12)) ∧ w'.cell? ⟨w3.heap.size, 6, none⟩ = some (.int .u32 (g32 s 16)) ∧ w'.cell? ⟨w3.heap.size, 7, none⟩ = some (.string (s.extract 20 n)))) (by kernel_rfl) ?_ (fun hHeld => ?_)
              · simp [x0, x1, x2, x3, x4, x5, x6, x7]
              refine wpAnyH_take (i := 0) (oi := _) (v := ?_) rfl (by kernel_rfl) (by kernel_rfl) (by kernel_rfl) (fun _ _ _ h => h) (Or.inl ⟨by rfl, ?_⟩) (by assumption) ?_
              rotate_left
              · intro w hSw
                (try dsimp only at hSw)
                obtain ⟨g0, g1, g2, g3, g4, g5, g6, g7⟩ := hSw
                go_simp
                with_reducible rfl
              try simp only [Act.put, List.setIfInBounds_toArray, List.set_cons_zero, List.set_cons_succ]
              refine wpAnyH_take (i := 1) (oi := _) (v := ?_) rfl (by kernel_rfl) (by kernel_rfl) (by kernel_rfl) (fun _ _ _ h => h) (Or.inl ⟨by rfl, ?_⟩) (by assumption) ?_
              rotate_left
              · intro w hSw
                (try dsimp only at hSw)
                obtain ⟨g0, g1, g2, g3, g4, g5, g6, g7⟩ := hSw
                go_simp
                with_reducible rfl
              try simp only [Act.put, List.setIfInBounds_toArray, List.set_cons_zero, List.set_cons_succ]
              refine wpAnyH_take (i := 2) (oi := _) (v := ?_) rfl (by kernel_rfl) (by kernel_rfl) (by kernel_rfl) (fun _ _ _ h => h) (Or.inl ⟨by rfl, ?_⟩) (by assumption) ?_
              rotate_left
              · intro w hSw
                (try dsimp only at hSw)
                obtain ⟨g0, g1, g2, g3, g4, g5, g6, g7⟩ := hSw
                go_simp
                with_reducible rfl
              try simp only [Act.put, List.setIfInBounds_toArray, List.set_cons_zero, List.set_cons_succ]
              refine wpAnyH_take (i := 3) (oi := _) (v := ?_) rfl (by kernel_rfl) (by kernel_rfl) (by kernel_rfl) (fun _ _ _ h => h) (Or.inl ⟨by rfl, ?_⟩) (by assumption) ?_
              rotate_left
              · intro w hSw
                (try dsimp only at hSw)
                obtain ⟨g0, g1, g2, g3, g4, g5, g6, g7⟩ := hSw
                go_simp
                with_reducible rfl
              try simp only [Act.put, List.setIfInBounds_toArray, List.set_cons_zero, List.set_cons_succ]
              refine wpAnyH_take (i := 4) (oi := _) (v := ?_) rfl (by kernel_rfl) (by kernel_rfl) (by kernel_rfl) (fun _ _ _ h => h) (Or.inl ⟨by rfl, ?_⟩) (by assumption) ?_
              rotate_left
              · intro w hSw
                (try dsimp only at hSw)
                obtain ⟨g0, g1, g2, g3, g4, g5, g6, g7⟩ := hSw
                go_simp
                with_reducible rfl
              try simp only [Act.put, List.setIfInBounds_toArray, List.set_cons_zero, List.set_cons_succ]
              refine wpAnyH_ready (rs := [5]) (by kernel_rfl) (by simp) ?_
              refine AllReadyH.cons (o := _) rfl (fun K hK => ?_) AllReadyH.nil
              go_simp
              refine box8d_ (b := w.heap.size) (box8_is rfl hc) B (Nat.le_refl _) fun wz y0 y1 y2 y3 y4 y5 y6 y7 BZ far => ?_
              have hS2 : wz.cell? ⟨w3.heap.size, 0, none⟩ = some (.int .u8 (bt s 1)) ∧ wz.cell? ⟨w3.heap.size, 1, none⟩ = some (.int .u16 (g16 s 4)) ∧ wz.cell? ⟨w3.heap.size, 2, none⟩ = some (.bool false) ∧ wz.cell? ⟨w3.heap.size, 3, none⟩ = some (.int .u8 (bt s 8)) ∧ wz.cell? ⟨w3.heap.size, 4, none⟩ = some (.int .u8 (bt s 9)) ∧ wz.cell? ⟨w3.heap.size, 5, none⟩ = some (.int .u32 (g32 s 12)) ∧ wz.cell? ⟨w3.heap.size, 6, none⟩ = some (.int .u32 (g32 s 16)) ∧ wz.cell? ⟨w3.heap.size, 7, none⟩ = some (.string (s.extract 20 n)) :=
                ⟨(far _ hne).trans x0, (far _ hne).trans x1, (far _ hne).trans x2, (far _ hne).trans x3, (far _ hne).trans x4, (far _ hne).trans x5, (far _ hne).trans x6, (far _ hne).trans x7⟩
              refine hK.out _ _ hS2 (fun hHeld2 => ?_)
              clear hK K hHeld hHeld2 far hc hf x0 x1 x2 x3 x4 x5 x6 x7 B
              try simp only [Act.put, List.setIfInBounds_toArray, List.set_cons_zero, List.set_cons_succ]
              refine wpAnyH_ready (rs := [6]) (by kernel_rfl) (by simp) ?_
              refine AllReadyH.cons (o := _) rfl (fun K hK => ?_) AllReadyH.nil
              go_simp
              refine hK.out _ _ hS2 (fun _ => ?_)
              clear hK K
              try simp only [Act.put, List.setIfInBounds_toArray, List.set_cons_zero, List.set_cons_succ]
              refine wpAnyH_ready (rs := [7]) (by kernel_rfl) (by simp) ?_
              refine AllReadyH.cons (o := _) rfl (fun K hK => ?_) AllReadyH.nil
              go_simp
              refine hK.out _ _ hS2 (fun _ => ?_)
              clear hK K
              try simp only [Act.put, List.setIfInBounds_toArray, List.set_cons_zero, List.set_cons_succ]
              refine wpAnyH_done (by kernel_rfl) (NoPanic.normal ?_) _
              clear hS2
              go_wp2
              refine bodyPost_ret (v := .tuple #[.agg #[.int .u8 (bt s 1), .int .u16 (g16 s 4), .bool false, .int .u8 (bt s 8), .int .u8 (bt s 9), .int .u32 (g32 s 12), .int .u32 (g32 s 16), .string (s.extract 20 n)], .string (s.extract n m), .int .i64 0]) (by simp [results, Try.results10, go_sem, y0, y1, y2, y3, y4, y5, y6, y7]) rfl ?_
              rw [HN.out.1, HN.out.1, HN.out.1, HN.out.1, HN.out.1, HN.out.1, HN.out.2.1, HN.out.2.2.1, HN.out.2.2.2.1, HN.out.2.2.2.2]
              exact ⟨rfl, BZ⟩
            exact AllReadyH.nil
          exact AllReadyH.nil
        exact AllReadyH.nil
      exact AllReadyH.nil
    exact AllReadyH.nil
  · have f1 : g16 s 6 = 16384 := by omega
    have f4 : decide ((0 : Int) < 16384) = true := by decide
    rw [f1] at c6 HN
    clear hf y0 y1 f0
    go_enter Try.func10, Try.ntmps10
    go_wp2_with fail
    obtain ⟨w1, hw1⟩ : ∃ w1, w1 = w.alloc (.cells #[.int .u8 0, .int .u16 0, .bool false, .int .u8 0, .int .u8 0, .int .u32 0, .int .u32 0, .string ⟨#[]⟩] 30) := ⟨_, rfl⟩
    rw [← hw1]
    refine region_later (B := w1.heap.size) (by kernel_rfl) (by kernel_rfl) ?_
    repeat (go_big_quiet_step (first | (go_at_call 19; exact cn2 _ _ _)))
    refine later_end fun w2 b2 => ?_
    subst hw1
    obtain ⟨hc, hf⟩ := bcell4_ b2
    have hz : w.heap.size < w2.heap.size := by have := b2.size; simp at this; omega
    have B2 : Below w.heap.size w w2 := ((Below.refl _ _).alloc (Nat.le_refl _) _).trans (b2.mono (by simp))
    have hz2 := B2.size
    go_wp2_with fail
    refine (ch _ _ (by simp) (by simp [go_sem])).mono ?_; rintro e w3 ⟨rfl, rfl⟩
    obtain ⟨w3, hw3⟩ : ∃ w3, w3 = w2.alloc (.cells #[.string X] 9) := ⟨_, rfl⟩
    have hs3 : w.heap.size < w3.heap.size := by rw [hw3]; simp; omega
    have B3 : Below w.heap.size w w3 := by rw [hw3]; exact B2.alloc hz2 _
    have b3 : Below (w.alloc (.cells #[.int .u8 0, .int .u16 0, .bool false, .int .u8 0, .int .u8 0, .int .u32 0, .int .u32 0, .string ⟨#[]⟩] 30)).heap.size (w.alloc (.cells #[.int .u8 0, .int .u16 0, .bool false, .int .u8 0, .int .u8 0, .int .u32 0, .int .u32 0, .string ⟨#[]⟩] 30)) w3 := by rw [hw3]; exact b2.alloc b2.size _
    clear hc hf b2
    obtain ⟨hc, hf⟩ := bcell4_ b3
    rw [← hw3]
    clear hw3 B2 ch hz hz2
    go_wp2_with fail
    refine (c6 _).mono ?_; rintro e w4 ⟨rfl, rfl⟩
    go_wp2_with fail
    clear cn2 b0 b1 hc hf HX hX' i0 e1 e2 e3 e4
    have hne : ¬ w.heap.size = w3.heap.size := by omega
    refine wp_region_noPanic ?_
    refine wp_region_held_drew (S := (fun w' => True)) (by kernel_rfl) trivial (fun hHeld => ?_)
    refine wpAnyH_take (i := 0) (oi := _) (v := ?_) rfl (by kernel_rfl) (by kernel_rfl) (by kernel_rfl) (fun _ _ _ h => h) (Or.inl ⟨by rfl, ?_⟩) (by assumption) ?_
    rotate_left
    · intro w hSw
      (try dsimp only at hSw)
      go_simp
      with_reducible rfl
    try simp only [Act.put, List.setIfInBounds_toArray, List.set_cons_zero, List.set_cons_succ]
    refine wpAnyH_take (i := 2) (oi := _) (v := ?_) rfl (by kernel_rfl) (by kernel_rfl) (by kernel_rfl) (fun _ _ _ h => h) (Or.inl ⟨by rfl, ?_⟩) (by assumption) ?_
    rotate_left
    · intro w hSw
      (try dsimp only at hSw)
      go_simp
      with_reducible rfl
    try simp only [Act.put, List.setIfInBounds_toArray, List.set_cons_zero, List.set_cons_succ]
    refine wpAnyH_take (i := 5) (oi := _) (v := ?_) rfl (by kernel_rfl) (by kernel_rfl) (by kernel_rfl) (fun _ _ _ h => h) (Or.inl ⟨by rfl, ?_⟩) (by assumption) ?_
    rotate_left
    · intro w hSw
      (try dsimp only at hSw)
      go_simp
      with_reducible rfl
    try simp only [Act.put, List.setIfInBounds_toArray, List.set_cons_zero, List.set_cons_succ]
    refine wpAnyH_take (i := 6) (oi := _) (v := ?_) rfl (by kernel_rfl) (by kernel_rfl) (by kernel_rfl) (fun _ _ _ h => h) (Or.inl ⟨by rfl, ?_⟩) (by assumption) ?_
    rotate_left
    · intro w hSw
      (try dsimp only at hSw)
      go_simp
      with_reducible rfl
    try simp only [Act.put, List.setIfInBounds_toArray, List.set_cons_zero, List.set_cons_succ]
    refine wpAnyH_take (i := 7) (oi := _) (v := ?_) rfl (by kernel_rfl) (by kernel_rfl) (by kernel_rfl) (fun _ _ _ h => h) (Or.inl ⟨by rfl, ?_⟩) (by assumption) ?_
    rotate_left
    · intro w hSw
      (try dsimp only at hSw)
      go_simp
      with_reducible rfl
    try simp only [Act.put, List.setIfInBounds_toArray, List.set_cons_zero, List.set_cons_succ]
    refine wpAnyH_take (i := 9) (oi := _) (v := ?_) rfl (by kernel_rfl) (by kernel_rfl) (by kernel_rfl) (fun _ _ _ h => h) (Or.inl ⟨by rfl, ?_⟩) (by assumption) ?_
    rotate_left
    · intro w hSw
      (try dsimp only at hSw)
      go_simp
      with_reducible rfl
    try simp only [Act.put, List.setIfInBounds_toArray, List.set_cons_zero, List.set_cons_succ]
    refine wpAnyH_take (i := 11) (oi := _) (v := ?_) rfl (by kernel_rfl) (by kernel_rfl) (by kernel_rfl) (fun _ _ _ h => h) (Or.inl ⟨by rfl, ?_⟩) (by assumption) ?_
    rotate_left
    · intro w hSw
      (try dsimp only at hSw)
      go_simp
      with_reducible rfl
    try simp only [Act.put, List.setIfInBounds_toArray, List.set_cons_zero, List.set_cons_succ]
    refine wpAnyH_take (i := 13) (oi := _) (v := ?_) rfl (by kernel_rfl) (by kernel_rfl) (by kernel_rfl) (fun _ _ _ h => h) (Or.inl ⟨by rfl, ?_⟩) (by assumption) ?_
    rotate_left
    · intro w hSw
      (try dsimp only at hSw)
      go_simp
      with_reducible rfl
    try simp only [Act.put, List.setIfInBounds_toArray, List.set_cons_zero, List.set_cons_succ]
    refine wpAnyH_take (i := 15) (oi := _) (v := ?_) rfl (by kernel_rfl) (by kernel_rfl) (by kernel_rfl) (fun _ _ _ h => h) (Or.inl ⟨by rfl, ?_⟩) (by assumption) ?_
    rotate_left
    · intro w hSw
      (try dsimp only at hSw)
      go_simp
      with_reducible rfl
    try simp only [Act.put, List.setIfInBounds_toArray, List.set_cons_zero, List.set_cons_succ]
    refine wpAnyH_take (i := 16) (oi := _) (v := ?_) rfl (by kernel_rfl) (by kernel_rfl) (by kernel_rfl) (fun _ _ _ h => h) (Or.inl ⟨by rfl, ?_⟩) (by assumption) ?_
    rotate_left
    · intro w hSw
      (try dsimp only at hSw)
      go_simp
      with_reducible rfl
    try simp only [Act.put, List.setIfInBounds_toArray, List.set_cons_zero, List.set_cons_succ]
    refine wpAnyH_take (i := 17) (oi := _) (v := ?_) rfl (by kernel_rfl) (by kernel_rfl) (by kernel_rfl) (fun _ _ _ h => h) (Or.inl ⟨by rfl, ?_⟩) (by assumption) ?_
    rotate_left
    · intro w hSw
      (try dsimp only at hSw)
      go_simp
      with_reducible rfl
    try simp only [Act.put, List.setIfInBounds_toArray, List.set_cons_zero, List.set_cons_succ]
    refine wpAnyH_take (i := 1) (oi := _) (v := ?_) rfl (by kernel_rfl) (by kernel_rfl) (by kernel_rfl) (fun _ _ _ h => h) (Or.inl ⟨by rfl, ?_⟩) (by assumption) ?_
    rotate_left
    · intro w hSw
      (try dsimp only at hSw)
      go_simp
      with_reducible rfl
    try simp only [Act.put, List.setIfInBounds_toArray, List.set_cons_zero, List.set_cons_succ]
    refine wpAnyH_take (i := 8) (oi := _) (v := ?_) rfl (by kernel_rfl) (by kernel_rfl) (by kernel_rfl) (fun _ _ _ h => h) (Or.inl ⟨by rfl, ?_⟩) (by assumption) ?_
    rotate_left
    · intro w hSw
      (try dsimp only at hSw)
      go_simp
      with_reducible rfl
    try simp only [Act.put, List.setIfInBounds_toArray, List.set_cons_zero, List.set_cons_succ]
    refine wpAnyH_take (i := 10) (oi := _) (v := ?_) rfl (by kernel_rfl) (by kernel_rfl) (by kernel_rfl) (fun _ _ _ h => h) (Or.inl ⟨by rfl, ?_⟩) (by assumption) ?_
    rotate_left
    · intro w hSw
      (try dsimp only at hSw)
      go_simp
      with_reducible rfl
    try simp only [Act.put, List.setIfInBounds_toArray, List.set_cons_zero, List.set_cons_succ]
    refine wpAnyH_ready (rs := [3, 19]) (by kernel_rfl) (by simp) ?_
    refine AllReadyH.cons (o := _) rfl (fun K hK => ?_) ?_
    · go_simp
      refine (w4 _).mono ?_
      rintro e w5 ⟨rfl, rfl⟩
      show K _ _
      refine hK.out _ _ trivial (fun _ => ?_)
      clear hK K
      try simp only [Act.put, List.setIfInBounds_toArray, List.set_cons_zero, List.set_cons_succ]
      refine wpAnyH_take (i := 4) (oi := _) (v := ?_) rfl (by kernel_rfl) (by kernel_rfl) (by kernel_rfl) (fun _ _ _ h => h) (Or.inl ⟨by rfl, ?_⟩) (by assumption) ?_
      rotate_left
      · intro w hSw
        (try dsimp only at hSw)
        go_simp
        with_reducible rfl
      try simp only [Act.put, List.setIfInBounds_toArray, List.set_cons_zero, List.set_cons_succ]
      refine wpAnyH_ready (rs := [12, 19]) (by kernel_rfl) (by simp) ?_
      refine AllReadyH.cons (o := _) rfl (fun K hK => ?_) ?_
      · go_simp
        refine (w12 _).mono ?_
        rintro e w5 ⟨rfl, rfl⟩
        show K _ _
        refine hK.out _ _ trivial (fun _ => ?_)
        clear hK K
        try simp only [Act.put, List.setIfInBounds_toArray, List.set_cons_zero, List.set_cons_succ]
        refine wpAnyH_ready (rs := [14, 19]) (by kernel_rfl) (by simp) ?_
        refine AllReadyH.cons (o := _) rfl (fun K hK => ?_) ?_
        · go_simp
          refine (w16 _).mono ?_
          rintro e w5 ⟨rfl, rfl⟩
          show K _ _
          refine hK.out _ _ trivial (fun _ => ?_)
          clear hK K
          try simp only [Act.put, List.setIfInBounds_toArray, List.set_cons_zero, List.set_cons_succ]
          refine wpAnyH_take (i := 18) (oi := _) (v := ?_) rfl (by kernel_rfl) (by kernel_rfl) (by kernel_rfl) (fun _ _ _ h => h) (Or.inl ⟨by rfl, ?_⟩) (by assumption) ?_
          rotate_left
          · intro w hSw
            (try dsimp only at hSw)
            go_simp
            with_reducible rfl
          try simp only [Act.put, List.setIfInBounds_toArray, List.set_cons_zero, List.set_cons_succ]
          refine wpAnyH_ready (rs := [19]) (by kernel_rfl) (by simp) ?_
          refine AllReadyH.cons (o := _) rfl (fun K hK => ?_) ?_
          · go_simp
            refine hK.out _ _ trivial (fun _ => ?_)
            clear hK K
            try simp only [Act.put, List.setIfInBounds_toArray, List.set_cons_zero, List.set_cons_succ]
            refine wpAnyH_ready (rs := [20]) (by kernel_rfl) (by simp) ?_
            refine AllReadyH.cons (o := _) rfl (fun K hK => ?_) ?_
            · go_simp
              refine hK.out _ _ trivial (fun _ => ?_)
              clear hK K
              try simp only [Act.put, List.setIfInBounds_toArray, List.set_cons_zero, List.set_cons_succ]
              refine wpAnyH_done (by kernel_rfl) (NoPanic.normal ?_) _
              refine new8_ fun w9 x0 x1 x2 x3 x4 x5 x6 x7 B9 s9 => ?_
              have b9 := b3.trans (B9.mono b3.size)
              obtain ⟨hc, hf⟩ := bcell4_ b9
              have B := B3.trans (B9.mono B3.size)
              clear b9 B9 b3 B3
              go_wp2_with fail
              refine wp_region_noPanic ?_
              refine wp_region_held_drew (S := (fun w' => w'.cell? ⟨w3.heap.size, 0, none⟩ = some (.int .u8 (bt s 1)) ∧ w'.cell? ⟨w3.heap.size, 1, none⟩ = some (.int .u16 (g16 s 4)) ∧ w'.cell? ⟨w3.heap.size, 2, none⟩ = some (.bool true) ∧ w'.cell? ⟨w3.heap.size, 3, none⟩ = some (.int .u8 (bt s 8)) ∧ w'.cell? ⟨w3.heap.size, 4, none⟩ = some (.int .u8 (bt s 9)) ∧ w'.cell? ⟨w3.heap.size, 5, none⟩ = some (.int .u32 (g32 s 12)) ∧ w'.cell? ⟨w3.heap.size, 6, none⟩ = some (.int .u32 (g32 s 16)) ∧ w'.cell? ⟨w3.heap.size, 7, none⟩ = some (.string (s.extract 20 n)))) (by kernel_rfl) ?_ (fun hHeld => ?_)
              · simp [x0, x1, x2, x3, x4, x5, x6, x7]
              refine wpAnyH_take (i := 0) (oi := _) (v := ?_) rfl (by kernel_rfl) (by kernel_rfl) (by kernel_rfl) (fun _ _ _ h => h) (Or.inl ⟨by rfl, ?_⟩) (by assumption) ?_
              rotate_left
              · intro w hSw
                (try dsimp only at hSw)
                obtain ⟨g0, g1, g2, g3, g4, g5, g6, g7⟩ := hSw
                go_simp
                with_reducible rfl
              try simp only [Act.put, List.setIfInBounds_toArray, List.set_cons_zero, List.set_cons_succ]
              refine wpAnyH_take (i := 1) (oi := _) (v := ?_) rfl (by kernel_rfl) (by kernel_rfl) (by kernel_rfl) (fun _ _ _ h => h) (Or.inl ⟨by rfl, ?_⟩) (by assumption) ?_
              rotate_left
              · intro w hSw
                (try dsimp only at hSw)
                obtain ⟨g0, g1, g2, g3, g4, g5, g6, g7⟩ := hSw
                go_simp
                with_reducible rfl
              try simp only [Act.put, List.setIfInBounds_toArray, List.set_cons_zero, List.set_cons_succ]
              refine wpAnyH_take (i := 2) (oi := _) (v := ?_) rfl (by kernel_rfl) (by kernel_rfl) (by kernel_rfl) (fun _ _ _ h => h) (Or.inl ⟨by rfl, ?_⟩) (by assumption) ?_
              rotate_left
              · intro w hSw
                (try dsimp only at hSw)
                obtain ⟨g0, g1, g2, g3, g4, g5, g6, g7⟩ := hSw
                go_simp
                with_reducible rfl
              try simp only [Act.put, List.setIfInBounds_toArray, List.set_cons_zero, List.set_cons_succ]
              refine wpAnyH_take (i := 3) (oi := _) (v := ?_) rfl (by kernel_rfl) (by kernel_rfl) (by kernel_rfl) (fun _ _ _ h => h) (Or.inl ⟨by rfl, ?_⟩) (by assumption) ?_
              rotate_left
              · intro w hSw
                (try dsimp only at hSw)
                obtain ⟨g0, g1, g2, g3, g4, g5, g6, g7⟩ := hSw
                go_simp
                with_reducible rfl
              try simp only [Act.put, List.setIfInBounds_toArray, List.set_cons_zero, List.set_cons_succ]
              refine wpAnyH_take (i := 4) (oi := _) (v := ?_) rfl (by kernel_rfl) (by kernel_rfl) (by kernel_rfl) (fun _ _ _ h => h) (Or.inl ⟨by rfl, ?_⟩) (by assumption) ?_
              rotate_left
              · intro w hSw
                (try dsimp only at hSw)
                obtain ⟨g0, g1, g2, g3, g4, g5, g6, g7⟩ := hSw
                go_simp
                with_reducible rfl
              try simp only [Act.put, List.setIfInBounds_toArray, List.set_cons_zero, List.set_cons_succ]
              refine wpAnyH_ready (rs := [5]) (by kernel_rfl) (by simp) ?_
              refine AllReadyH.cons (o := _) rfl (fun K hK => ?_) AllReadyH.nil
              go_simp
              refine box8d_ (b := w.heap.size) (box8_is rfl hc) B (Nat.le_refl _) fun wz y0 y1 y2 y3 y4 y5 y6 y7 BZ far => ?_
              have hS2 : wz.cell? ⟨w3.heap.size, 0, none⟩ = some (.int .u8 (bt s 1)) ∧ wz.cell? ⟨w3.heap.size, 1, none⟩ = some (.int .u16 (g16 s 4)) ∧ wz.cell? ⟨w3.heap.size, 2, none⟩ = some (.bool true) ∧ wz.cell? ⟨w3.heap.size, 3, none⟩ = some (.int .u8 (bt s 8)) ∧ wz.cell? ⟨w3.heap.size, 4, none⟩ = some (.int .u8 (bt s 9)) ∧ wz.cell? ⟨w3.heap.size, 5, none⟩ = some (.int .u32 (g32 s 12)) ∧ wz.cell? ⟨w3.heap.size, 6, none⟩ = some (.int .u32 (g32 s 16)) ∧ wz.cell? ⟨w3.heap.size, 7, none⟩ = some (.string (s.extract 20 n)) :=
                ⟨(far _ hne).trans x0, (far _ hne).trans x1, (far _ hne).trans x2, (far _ hne).trans x3, (far _ hne).trans x4, (far _ hne).trans x5, (far _ hne).trans x6, (far _ hne).trans x7⟩
              refine hK.out _ _ hS2 (fun hHeld2 => ?_)
              clear hK K hHeld hHeld2 far hc hf x0 x1 x2 x3 x4 x5 x6 x7 B
              try simp only [Act.put, List.setIfInBounds_toArray, List.set_cons_zero, List.set_cons_succ]
              refine wpAnyH_ready (rs := [6]) (by kernel_rfl) (by simp) ?_
              refine AllReadyH.cons (o := _) rfl (fun K hK => ?_) AllReadyH.nil
              go_simp
              refine hK.out _ _ hS2 (fun _ => ?_)
              clear hK K
              try simp only [Act.put, List.setIfInBounds_toArray, List.set_cons_zero, List.set_cons_succ]
              refine wpAnyH_ready (rs := [7]) (by kernel_rfl) (by simp) ?_
              refine AllReadyH.cons (o := _) rfl (fun K hK => ?_) AllReadyH.nil
              go_simp
              refine hK.out _ _ hS2 (fun _ => ?_)
              clear hK K
              try simp only [Act.put, List.setIfInBounds_toArray, List.set_cons_zero, List.set_cons_succ]
              refine wpAnyH_done (by kernel_rfl) (NoPanic.normal ?_) _
              clear hS2
              go_wp2
              refine bodyPost_ret (v := .tuple #[.agg #[.int .u8 (bt s 1), .int .u16 (g16 s 4), .bool true, .int .u8 (bt s 8), .int .u8 (bt s 9), .int .u32 (g32 s 12), .int .u32 (g32 s 16), .string (s.extract 20 n)], .string (s.extract n m), .int .i64 0]) (by simp [results, Try.results10, go_sem, y0, y1, y2, y3, y4, y5, y6, y7]) rfl ?_
              rw [HN.out.1, HN.out.1, HN.out.1, HN.out.1, HN.out.1, HN.out.1, HN.out.2.1, HN.out.2.2.1, HN.out.2.2.2.1, HN.out.2.2.2.2]
              exact ⟨rfl, BZ⟩
            exact AllReadyH.nil
          exact AllReadyH.nil
        refine AllReadyH.cons (o := _) rfl (fun K hK => ?_) ?_
        · go_simp
          refine hK.out _ _ trivial (fun _ => ?_)
          clear hK K
          try simp only [Act.put, List.setIfInBounds_toArray, List.set_cons_zero, List.set_cons_succ]
          refine wpAnyH_ready (rs := [14]) (by kernel_rfl) (by simp) ?_
          refine AllReadyH.cons (o := _) rfl (fun K hK => ?_) ?_
          · go_simp
            refine (w16 _).mono ?_
            rintro e w5 ⟨rfl, rfl⟩
            show K _ _
            refine hK.out _ _ trivial (fun _ => ?_)
            clear hK K
            try simp only [Act.put, List.setIfInBounds_toArray, List.set_cons_zero, List.set_cons_succ]
            refine wpAnyH_take (i := 18) (oi := _) (v := ?_) rfl (by kernel_rfl) (by kernel_rfl) (by kernel_rfl) (fun _ _ _ h => h) (Or.inl ⟨by rfl, ?_⟩) (by assumption) ?_
            rotate_left
            · intro w hSw
              (try dsimp only at hSw)
              go_simp
              with_reducible rfl
            try simp only [Act.put, List.setIfInBounds_toArray, List.set_cons_zero, List.set_cons_succ]
            refine wpAnyH_ready (rs := [20]) (by kernel_rfl) (by simp) ?_
            refine AllReadyH.cons (o := _) rfl (fun K hK => ?_) ?_
            · go_simp
              refine hK.out _ _ trivial (fun _ => ?_)
              clear hK K
              try simp only [Act.put, List.setIfInBounds_toArray, List.set_cons_zero, List.set_cons_succ]
              refine wpAnyH_done (by kernel_rfl) (NoPanic.normal ?_) _
              refine new8_ fun w9 x0 x1 x2 x3 x4 x5 x6 x7 B9 s9 => ?_
              have b9 := b3.trans (B9.mono b3.size)
              obtain ⟨hc, hf⟩ := bcell4_ b9
              have B := B3.trans (B9.mono B3.size)
              clear b9 B9 b3 B3
              go_wp2_with fail
              refine wp_region_noPanic ?_
              refine wp_region_held_drew (S := (fun w' => w'.cell? ⟨w3.heap.size, 0, none⟩ = some (.int .u8 (bt s 1)) ∧ w'.cell? ⟨w3.heap.size, 1, none⟩ = some (.int .u16 (g16 s 4)) ∧ w'.cell? ⟨w3.heap.size, 2, none⟩ = some (.bool true) ∧ w'.cell? ⟨w3.heap.size, 3, none⟩ = some (.int .u8 (bt s 8)) ∧ w'.cell? ⟨w3.heap.size, 4, none⟩ = some (.int .u8 (bt s 9)) ∧ w'.cell? ⟨w3.heap.size, 5, none⟩ = some (.int .u32 (g32 s 12)) ∧ w'.cell? ⟨w3.heap.size, 6, none⟩ = some (.int .u32 (g32 s 16)) ∧ w'.cell? ⟨w3.heap.size, 7, none⟩ = some (.string (s.extract 20 n)))) (by kernel_rfl) ?_ (fun hHeld => ?_)
              · simp [x0, x1, x2, x3, x4, x5, x6, x7]
              refine wpAnyH_take (i := 0) (oi := _) (v := ?_) rfl (by kernel_rfl) (by kernel_rfl) (by kernel_rfl) (fun _ _ _ h => h) (Or.inl ⟨by rfl, ?_⟩) (by assumption) ?_
              rotate_left
              · intro w hSw
                (try dsimp only at hSw)
                obtain ⟨g0, g1, g2, g3, g4, g5, g6, g7⟩ := hSw
                go_simp
                with_reducible rfl
              try simp only [Act.put, List.setIfInBounds_toArray, List.set_cons_zero, List.set_cons_succ]
              refine wpAnyH_take (i := 1) (oi := _) (v := ?_) rfl (by kernel_rfl) (by kernel_rfl) (by kernel_rfl) (fun _ _ _ h => h) (Or.inl ⟨by rfl, ?_⟩) (by assumption) ?_
              rotate_left
              · intro w hSw
                (try dsimp only at hSw)
                obtain ⟨g0, g1, g2, g3, g4, g5, g6, g7⟩ := hSw
                go_simp
                with_reducible rfl
              try simp only [Act.put, List.setIfInBounds_toArray, List.set_cons_zero, List.set_cons_succ]
              refine wpAnyH_take (i := 2) (oi := _) (v := ?_) rfl (by kernel_rfl) (by kernel_rfl) (by kernel_rfl) (fun _ _ _ h => h) (Or.inl ⟨by rfl, ?_⟩) (by assumption) ?_
              rotate_left
              · intro w hSw
                (try dsimp only at hSw)
                obtain ⟨g0, g1, g2, g3, g4, g5, g6, g7⟩ := hSw
                go_simp
                with_reducible rfl
              try simp only [Act.put, List.setIfInBounds_toArray, List.set_cons_zero, List.set_cons_succ]
              refine wpAnyH_take (i := 3) (oi := _) (v := ?_) rfl (by kernel_rfl) (by kernel_rfl) (by kernel_rfl) (fun _ _ _ h => h) (Or.inl ⟨by rfl, ?_⟩) (by assumption) ?_
              rotate_left
              · intro w hSw
                (try dsimp only at hSw)
                obtain ⟨g0, g1, g2, g3, g4, g5, g6, g7⟩ := hSw
                go_simp
                with_reducible rfl
              try simp only [Act.put, List.setIfInBounds_toArray, List.set_cons_zero, List.set_cons_succ]
              refine wpAnyH_take (i := 4) (oi := _) (v := ?_) rfl (by kernel_rfl) (by kernel_rfl) (by kernel_rfl) (fun _ _ _ h => h) (Or.inl ⟨by rfl, ?_⟩) (by assumption) ?_
              rotate_left
              · intro w hSw
                (try dsimp only at hSw)
                obtain ⟨g0, g1, g2, g3, g4, g5, g6, g7⟩ := hSw
                go_simp
                with_reducible rfl
              try simp only [Act.put, List.setIfInBounds_toArray, List.set_cons_zero, List.set_cons_succ]
              refine wpAnyH_ready (rs := [5]) (by kernel_rfl) (by simp) ?_
              refine AllReadyH.cons (o := _) rfl (fun K hK => ?_) AllReadyH.nil
              go_simp
              refine box8d_ (b := w.heap.size) (box8_is rfl hc) B (Nat.le_refl _) fun wz y0 y1 y2 y3 y4 y5 y6 y7 BZ far => ?_
              have hS2 : wz.cell? ⟨w3.heap.size, 0, none⟩ = some (.int .u8 (bt s 1)) ∧ wz.cell? ⟨w3.heap.size, 1, none⟩ = some (.int .u16 (g16 s 4)) ∧ wz.cell? ⟨w3.heap.size, 2, none⟩ = some (.bool true) ∧ wz.cell? ⟨w3.heap.size, 3, none⟩ = some (.int .u8 (bt s 8)) ∧ wz.cell? ⟨w3.heap.size, 4, none⟩ = some (.int .u8 (bt s 9)) ∧ wz.cell? ⟨w3.heap.size, 5, none⟩ = some (.int .u32 (g32 s 12)) ∧ wz.cell? ⟨w3.heap.size, 6, none⟩ = some (.int .u32 (g32 s 16)) ∧ wz.cell? ⟨w3.heap.size, 7, none⟩ = some (.string (s.extract 20 n)) :=
                ⟨(far _ hne).trans x0, (far _ hne).trans x1, (far _ hne).trans x2, (far _ hne).trans x3, (far _ hne).trans x4, (far _ hne).trans x5, (far _ hne).trans x6, (far _ hne).trans x7⟩
              refine hK.out _ _ hS2 (fun hHeld2 => ?_)
              clear hK K hHeld hHeld2 far hc hf x0 x1 x2 x3 x4 x5 x6 x7 B
              try simp only [Act.put, List.setIfInBounds_toArray, List.set_cons_zero, List.set_cons_succ]
              refine wpAnyH_ready (rs := [6]) (by kernel_rfl) (by simp) ?_
              refine AllReadyH.cons (o := _) rfl (fun K hK => ?_) AllReadyH.nil
              go_simp
              refine hK.out _ _ hS2 (fun _ => ?_)
              clear hK K
              try simp only [Act.put, List.setIfInBounds_toArray, List.set_cons_zero, List.set_cons_succ]
              refine wpAnyH_ready (rs := [7]) (by kernel_rfl) (by simp) ?_
              refine AllReadyH.cons (o := _) rfl (fun K hK => ?_) AllReadyH.nil
              go_simp
              refine hK.out _ _ hS2 (fun _ => ?_)
              clear hK K
              try simp only [Act.put, List.setIfInBounds_toArray, List.set_cons_zero, List.set_cons_succ]
              refine wpAnyH_done (by kernel_rfl) (NoPanic.normal ?_) _
              clear hS2
              go_wp2
              refine bodyPost_ret (v := .tuple #[.agg #[.int .u8 (bt s 1), .int .u16 (g16 s 4), .bool true, .int .u8 (bt s 8), .int .u8 (bt s 9), .int .u32 (g32 s 12), .int .u32 (g32 s 16), .string (s.extract 20 n)], .string (s.extract n m), .int .i64 0]) (by simp [results, Try.results10, go_sem, y0, y1, y2, y3, y4, y5, y6, y7]) rfl ?_
              rw [HN.out.1, HN.out.1, HN.out.1, HN.out.1, HN.out.1, HN.out.1, HN.out.2.1, HN.out.2.2.1, HN.out.2.2.2.1, HN.out.2.2.2.2]
              exact ⟨rfl, BZ⟩
            exact AllReadyH.nil
          exact AllReadyH.nil
        exact AllReadyH.nil
      refine AllReadyH.cons (o := _) rfl (fun K hK => ?_) ?_
      · go_simp
        refine hK.out _ _ trivial (fun _ => ?_)
        clear hK K
        try simp only [Act.put, List.setIfInBounds_toArray, List.set_cons_zero, List.set_cons_succ]
        refine wpAnyH_ready (rs := [12]) (by kernel_rfl) (by simp) ?_
        refine AllReadyH.cons (o := _) rfl (fun K hK => ?_) ?_
        · go_simp
          refine (w12 _).mono ?_
          rintro e w5 ⟨rfl, rfl⟩
          show K _ _
          refine hK.out _ _ trivial (fun _ => ?_)
          clear hK K
          try simp only [Act.put, List.setIfInBounds_toArray, List.set_cons_zero, List.set_cons_succ]
          refine wpAnyH_ready (rs := [14]) (by kernel_rfl) (by simp) ?_
          refine AllReadyH.cons (o := _) rfl (fun K hK => ?_) ?_
          · go_simp
            refine (w16 _).mono ?_
            rintro e w5 ⟨rfl, rfl⟩
            show K _ _
            refine hK.out _ _ trivial (fun _ => ?_)
            clear hK K
            try simp only [Act.put, List.setIfInBounds_toArray, List.set_cons_zero, List.set_cons_succ]
            refine wpAnyH_take (i := 18) (oi := _) (v := ?_) rfl (by kernel_rfl) (by kernel_rfl) (by kernel_rfl) (fun _ _ _ h => h) (Or.inl ⟨by rfl, ?_⟩) (by assumption) ?_
            rotate_left
            · intro w hSw
              (try dsimp only at hSw)
              go_simp
              with_reducible rfl
            try simp only [Act.put, List.setIfInBounds_toArray, List.set_cons_zero, List.set_cons_succ]
            refine wpAnyH_ready (rs := [20]) (by kernel_rfl) (by simp) ?_
            refine AllReadyH.cons (o := _) rfl (fun K hK => ?_) ?_
            · go_simp
              refine hK.out _ _ trivial (fun _ => ?_)
              clear hK K
              try simp only [Act.put, List.setIfInBounds_toArray, List.set_cons_zero, List.set_cons_succ]
              refine wpAnyH_done (by kernel_rfl) (NoPanic.normal ?_) _
              refine new8_ fun w9 x0 x1 x2 x3 x4 x5 x6 x7 B9 s9 => ?_
              have b9 := b3.trans (B9.mono b3.size)
              obtain ⟨hc, hf⟩ := bcell4_ b9
              have B := B3.trans (B9.mono B3.size)
              clear b9 B9 b3 B3
              go_wp2_with fail
              refine wp_region_noPanic ?_
              refine wp_region_held_drew (S := (fun w' => w'.cell? ⟨w3.heap.size, 0, none⟩ = some (.int .u8 (bt s 1)) ∧ w'.cell? ⟨w3.heap.size, 1, none⟩ = some (.int .u16 (g16 s 4)) ∧ w'.cell? ⟨w3.heap.size, 2, none⟩ = some (.bool true) ∧ w'.cell? ⟨w3.heap.size, 3, none⟩ = some (.int .u8 (bt s 8)) ∧ w'.cell? ⟨w3.heap.size, 4, none⟩ = some (.int .u8 (bt s 9)) ∧ w'.cell? ⟨w3.heap.size, 5, none⟩ = some (.int .u32 (g32 s 12)) ∧ w'.cell? ⟨w3.heap.size, 6, none⟩ = some (.int .u32 (g32 s 16)) ∧ w'.cell? ⟨w3.heap.size, 7, none⟩ = some (.string (s.extract 20 n)))) (by kernel_rfl) ?_ (fun hHeld => ?_)
              · simp [x0, x1, x2, x3, x4, x5, x6, x7]
              refine wpAnyH_take (i := 0) (oi := _) (v := ?_) rfl (by kernel_rfl) (by kernel_rfl) (by kernel_rfl) (fun _ _ _ h => h) (Or.inl ⟨by rfl, ?_⟩) (by assumption) ?_
              rotate_left
              · intro w hSw
                (try dsimp only at hSw)
                obtain ⟨g0, g1, g2, g3, g4, g5, g6, g7⟩ := hSw
                go_simp
                with_reducible rfl
              try simp only [Act.put, List.setIfInBounds_toArray, List.set_cons_zero, List.set_cons_succ]
              refine wpAnyH_take (i := 1) (oi := _) (v := ?_) rfl (by kernel_rfl) (by kernel_rfl) (by kernel_rfl) (fun _ _ _ h => h) (Or.inl ⟨by rfl, ?_⟩) (by assumption) ?_
              rotate_left
              · intro w hSw
                (try dsimp only at hSw)
                obtain ⟨g0, g1, g2, g3, g4, g5, g6, g7⟩ := hSw
                go_simp
                with_reducible rfl
              try simp only [Act.put, List.setIfInBounds_toArray, List.set_cons_zero, List.set_cons_succ]
              refine wpAnyH_take (i := 2) (oi := _) (v := ?_) rfl (by kernel_rfl) (by kernel_rfl) (by kernel_rfl) (fun _ _ _ h => h) (Or.inl ⟨by rfl, ?_⟩) (by assumption) ?_
              rotate_left
              · intro w hSw
                (try dsimp only at hSw)
                obtain ⟨g0, g1, g2, g3, g4, g5, g6, g7⟩ := hSw
                go_simp
                with_reducible rfl
              try simp only [Act.put, List.setIfInBounds_toArray, List.set_cons_zero, List.set_cons_succ]
              refine wpAnyH_take (i := 3) (oi := _) (v := ?_) rfl (by kernel_rfl) (by kernel_rfl) (by kernel_rfl) (fun _ _ _ h => h) (Or.inl ⟨by rfl, ?_⟩) (by assumption) ?_
              rotate_left
              · intro w hSw
                (try dsimp only at hSw)
                obtain ⟨g0, g1, g2, g3, g4, g5, g6, g7⟩ := hSw
                go_simp
                with_reducible rfl
              try simp only [Act.put, List.setIfInBounds_toArray, List.set_cons_zero, List.set_cons_succ]
              refine wpAnyH_take (i := 4) (oi := _) (v := ?_) rfl (by kernel_rfl) (by kernel_rfl) (by kernel_rfl) (fun _ _ _ h => h) (Or.inl ⟨by rfl, ?_⟩) (by assumption) ?_
              rotate_left
              · intro w hSw
                (try dsimp only at hSw)
                obtain ⟨g0, g1, g2, g3, g4, g5, g6, g7⟩ := hSw
                go_simp
                with_reducible rfl
              try simp only [Act.put, List.setIfInBounds_toArray, List.set_cons_zero, List.set_cons_succ]
              refine wpAnyH_ready (rs := [5]) (by kernel_rfl) (by simp) ?_
              refine AllReadyH.cons (o := _) rfl (fun K hK => ?_) AllReadyH.nil
              go_simp
              refine box8d_ (b := w.heap.size) (box8_is rfl hc) B (Nat.le_refl _) fun wz y0 y1 y2 y3 y4 y5 y6 y7 BZ far => ?_
              have hS2 : wz.cell? ⟨w3.heap.size, 0, none⟩ = some (.int .u8 (bt s 1)) ∧ wz.cell? ⟨w3.heap.size, 1, none⟩ = some (.int .u16 (g16 s 4)) ∧ wz.cell? ⟨w3.heap.size, 2, none⟩ = some (.bool true) ∧ wz.cell? ⟨w3.heap.size, 3, none⟩ = some (.int .u8 (bt s 8)) ∧ wz.cell? ⟨w3.heap.size, 4, none⟩ = some (.int .u8 (bt s 9)) ∧ wz.cell? ⟨w3.heap.size, 5, none⟩ = some (.int .u32 (g32 s 12)) ∧ wz.cell? ⟨w3.heap.size, 6, none⟩ = some (.int .u32 (g32 s 16)) ∧ wz.cell? ⟨w3.heap.size, 7, none⟩ = some (.string (s.extract 20 n)) :=
                ⟨(far _ hne).trans x0, (far _ hne).trans x1, (far _ hne).trans x2, (far _ hne).trans x3, (far _ hne).trans x4, (far _ hne).trans x5, (far _ hne).trans x6, (far _ hne).trans x7⟩
              refine hK.out _ _ hS2 (fun hHeld2 => ?_)
              clear hK K hHeld hHeld2 far hc hf x0 x1 x2 x3 x4 x5 x6 x7 B
              try simp only [Act.put, List.setIfInBounds_toArray, List.set_cons_zero, List.set_cons_succ]
              refine wpAnyH_ready (rs := [6]) (by kernel_rfl) (by simp) ?_
              refine AllReadyH.cons (o := _) rfl (fun K hK => ?_) AllReadyH.nil
              go_simp
              refine hK.out _ _ hS2 (fun _ => ?_)
              clear hK K
              try simp only [Act.put, List.setIfInBounds_toArray, List.set_cons_zero, List.set_cons_succ]
              refine wpAnyH_ready (rs := [7]) (by kernel_rfl) (by simp) ?_
              refine AllReadyH.cons (o := _) rfl (fun K hK => ?_) AllReadyH.nil
              go_simp
              refine hK.out _ _ hS2 (fun _ => ?_)
              clear hK K
              try simp only [Act.put, List.setIfInBounds_toArray, List.set_cons_zero, List.set_cons_succ]
              refine wpAnyH_done (by kernel_rfl) (NoPanic.normal ?_) _
              clear hS2
              go_wp2
              refine bodyPost_ret (v := .tuple #[.agg #[.int .u8 (bt s 1), .int .u16 (g16 s 4), .bool true, .int .u8 (bt s 8), .int .u8 (bt s 9), .int .u32 (g32 s 12), .int .u32 (g32 s 16), .string (s.extract 20 n)], .string (s.extract n m), .int .i64 0]) (by simp [results, Try.results10, go_sem, y0, y1, y2, y3, y4, y5, y6, y7]) rfl ?_
              rw [HN.out.1, HN.out.1, HN.out.1, HN.out.1, HN.out.1, HN.out.1, HN.out.2.1, HN.out.2.2.1, HN.out.2.2.2.1, HN.out.2.2.2.2]
              exact ⟨rfl, BZ⟩
            exact AllReadyH.nil
          exact AllReadyH.nil
        exact AllReadyH.nil
      exact AllReadyH.nil
    refine AllReadyH.cons (o := _) rfl (fun K hK => ?_) ?_
    · go_simp
      refine hK.out _ _ trivial (fun _ => ?_)
      clear hK K
      try simp only [Act.put, List.setIfInBounds_toArray, List.set_cons_zero, List.set_cons_succ]
      refine wpAnyH_ready (rs := [3]) (by kernel_rfl) (by simp) ?_
      refine AllReadyH.cons (o := _) rfl (fun K hK => ?_) ?_
      · go_simp
        refine (w4 _).mono ?_
        rintro e w5 ⟨rfl, rfl⟩
        show K _ _
        refine hK.out _ _ trivial (fun _ => ?_)
        clear hK K
        try simp only [Act.put, List.setIfInBounds_toArray, List.set_cons_zero, List.set_cons_succ]
        refine wpAnyH_take (i := 4) (oi := _) (v := ?_) rfl (by kernel_rfl) (by kernel_rfl) (by kernel_rfl) (fun _ _ _ h => h) (Or.inl ⟨by rfl, ?_⟩) (by assumption) ?_
        rotate_left
        · intro w hSw
          (try dsimp only at hSw)
          go_simp
          with_reducible rfl
        try simp only [Act.put, List.setIfInBounds_toArray, List.set_cons_zero, List.set_cons_succ]
        refine wpAnyH_ready (rs := [12]) (by kernel_rfl) (by simp) ?_
        refine AllReadyH.cons (o := _) rfl (fun K hK => ?_) ?_
        · go_simp
          refine (w12 _).mono ?_
          rintro e w5 ⟨rfl, rfl⟩
          show K _ _
          refine hK.out _ _ trivial (fun _ => ?_)
          clear hK K
          try simp only [Act.put, List.setIfInBounds_toArray, List.set_cons_zero, List.set_cons_succ]
          refine wpAnyH_ready (rs := [14]) (by kernel_rfl) (by simp) ?_
          refine AllReadyH.cons (o := _) rfl (fun K hK => ?_) ?_
          · go_simp
            refine (w16 _).mono ?_
            rintro e w5 ⟨rfl, rfl⟩
            show K _ _
            refine hK.out _ _ trivial (fun _ => ?_)
            clear hK K
            try simp only [Act.put, List.setIfInBounds_toArray, List.set_cons_zero, List.set_cons_succ]
            refine wpAnyH_take (i := 18) (oi := _) (v := ?_) rfl (by kernel_rfl) (by kernel_rfl) (by kernel_rfl) (fun _ _ _ h => h) (Or.inl ⟨by rfl, ?_⟩) (by assumption) ?_
            rotate_left
            · intro w hSw
              (try dsimp only at hSw)
              go_simp
              with_reducible rfl
            try simp only [Act.put, List.setIfInBounds_toArray, List.set_cons_zero, List.set_cons_succ]
            refine wpAnyH_ready (rs := [20]) (by kernel_rfl) (by simp) ?_
            refine AllReadyH.cons (o := _) rfl (fun K hK => ?_) ?_
            · go_simp
              refine hK.out _ _ trivial (fun _ => ?_)
              clear hK K
              try simp only [Act.put, List.setIfInBounds_toArray, List.set_cons_zero, List.set_cons_succ]
              refine wpAnyH_done (by kernel_rfl) (NoPanic.normal ?_) _
              refine new8_ fun w9 x0 x1 x2 x3 x4 x5 x6 x7 B9 s9 => ?_
              have b9 := b3.trans (B9.mono b3.size)
              obtain ⟨hc, hf⟩ := bcell4_ b9
              have B := B3.trans (B9.mono B3.size)
              clear b9 B9 b3 B3
              go_wp2_with fail
              refine wp_region_noPanic ?_
              refine wp_region_held_drew (S := (fun w' => w'.cell? ⟨w3.heap.size, 0, none⟩ = some (.int .u8 (bt s 1)) ∧ w'.cell? ⟨w3.heap.size, 1, none⟩ = some (.int .u16 (g16 s 4)) ∧ w'.cell? ⟨w3.heap.size, 2, none⟩ = some (.bool true) ∧ w'.cell? ⟨w3.heap.size, 3, none⟩ = some (.int .u8 (bt s 8)) ∧ w'.cell? ⟨w3.heap.size, 4, none⟩ = some (.int .u8 (bt s 9)) ∧ w'.cell? ⟨w3.heap.size, 5, none⟩ = some (.int .u32 (g32 s 12)) ∧ w'.cell? ⟨w3.heap.size, 6, none⟩ = some (.int .u32 (g32 s 16)) ∧ w'.cell? ⟨w3.heap.size, 7, none⟩ = some (.string (s.extract 20 n)))) (by kernel_rfl) ?_ (fun hHeld => ?_)
              · simp [x0, x1, x2, x3, x4, x5, x6, x7]
              refine wpAnyH_take (i := 0) (oi := _) (v := ?_) rfl (by kernel_rfl) (by kernel_rfl) (by kernel_rfl) (fun _ _ _ h => h) (Or.inl ⟨by rfl, ?_⟩) (by assumption) ?_
              rotate_left
              · intro w hSw
                (try dsimp only at hSw)
                obtain ⟨g0, g1, g2, g3, g4, g5, g6, g7⟩ := hSw
                go_simp
                with_reducible rfl
              try simp only [Act.put, List.setIfInBounds_toArray, List.set_cons_zero, List.set_cons_succ]
              refine wpAnyH_take (i := 1) (oi := _) (v := ?_) rfl (by kernel_rfl) (by kernel_rfl) (by kernel_rfl) (fun _ _ _ h => h) (Or.inl ⟨by rfl, ?_⟩) (by assumption) ?_
              rotate_left
              · intro w hSw
                (try dsimp only at hSw)
                obtain ⟨g0, g1, g2, g3, g4, g5, g6, g7⟩ := hSw
                go_simp
                with_reducible rfl
              try simp only [Act.put, List.setIfInBounds_toArray, List.set_cons_zero, List.set_cons_succ]
              refine wpAnyH_take (i := 2) (oi := _) (v := ?_) rfl (by kernel_rfl) (by kernel_rfl) (by kernel_rfl) (fun _ _ _ h => h) (Or.inl ⟨by rfl, ?_⟩) (by assumption) ?_
              rotate_left
              · intro w hSw
                (try dsimp only at hSw)
                obtain ⟨g0, g1, g2, g3, g4, g5, g6, g7⟩ := hSw
                go_simp
                with_reducible rfl
              try simp only [Act.put, List.setIfInBounds_toArray, List.set_cons_zero, List.set_cons_succ]
              refine wpAnyH_take (i := 3) (oi := _) (v := ?_) rfl (by kernel_rfl) (by kernel_rfl) (by kernel_rfl) (fun _ _ _ h => h) (Or.inl ⟨by rfl, ?_⟩) (by assumption) ?_
              rotate_left
              · intro w hSw
                (try dsimp only at hSw)
                obtain ⟨g0, g1, g2, g3, g4, g5, g6, g7⟩ := hSw
                go_simp
                with_reducible rfl
              try simp only [Act.put, List.setIfInBounds_toArray, List.set_cons_zero, List.set_cons_succ]
              refine wpAnyH_take (i := 4) (oi := _) (v := ?_) rfl (by kernel_rfl) (by kernel_rfl) (by kernel_rfl) (fun _ _ _ h => h) (Or.inl ⟨by rfl, ?_⟩) (by assumption) ?_
              rotate_left
              · intro w hSw
                (try dsimp only at hSw)
                obtain ⟨g0, g1, g2, g3, g4, g5, g6, g7⟩ := hSw
                go_simp
                with_reducible rfl
              try simp only [Act.put, List.setIfInBounds_toArray, List.set_cons_zero, List.set_cons_succ]
              refine wpAnyH_ready (rs := [5]) (by kernel_rfl) (by simp) ?_
              refine AllReadyH.cons (o := _) rfl (fun K hK => ?_) AllReadyH.nil
              go_simp
              refine box8d_ (b := w.heap.size) (box8_is rfl hc) B (Nat.le_refl _) fun wz y0 y1 y2 y3 y4 y5 y6 y7 BZ far => ?_
              have hS2 : wz.cell? ⟨w3.heap.size, 0, none⟩ = some (.int .u8 (bt s 1)) ∧ wz.cell? ⟨w3.heap.size, 1, none⟩ = some (.int .u16 (g16 s 4)) ∧ wz.cell? ⟨w3.heap.size, 2, none⟩ = some (.bool true) ∧ wz.cell? ⟨w3.heap.size, 3, none⟩ = some (.int .u8 (bt s 8)) ∧ wz.cell? ⟨w3.heap.size, 4, none⟩ = some (.int .u8 (bt s 9)) ∧ wz.cell? ⟨w3.heap.size, 5, none⟩ = some (.int .u32 (g32 s 12)) ∧ wz.cell? ⟨w3.heap.size, 6, none⟩ = some (.int .u32 (g32 s 16)) ∧ wz.cell? ⟨w3.heap.size, 7, none⟩ = some (.string (s.extract 20 n)) :=
                ⟨(far _ hne).trans x0, (far _ hne).trans x1, (far _ hne).trans x2, (far _ hne).trans x3, (far _ hne).trans x4, (far _ hne).trans x5, (far _ hne).trans x6, (far _ hne).trans x7⟩
              refine hK.out _ _ hS2 (fun hHeld2 => ?_)
              clear hK K hHeld hHeld2 far hc hf x0 x1 x2 x3 x4 x5 x6 x7 B
              try simp only [Act.put, List.setIfInBounds_toArray, List.set_cons_zero, List.set_cons_succ]
              refine wpAnyH_ready (rs := [6]) (by kernel_rfl) (by simp) ?_
              refine AllReadyH.cons (o := _) rfl (fun K hK => ?_) AllReadyH.nil
              go_simp
              refine hK.out _ _ hS2 (fun _ => ?_)
              clear hK K
              try simp only [Act.put, List.setIfInBounds_toArray, List.set_cons_zero, List.set_cons_succ]
              refine wpAnyH_ready (rs := [7]) (by kernel_rfl) (by simp) ?_
              refine AllReadyH.cons (o := _) rfl (fun K hK => ?_) AllReadyH.nil
              go_simp
              refine hK.out _ _ hS2 (fun _ => ?_)
              clear hK K
              try simp only [Act.put, List.setIfInBounds_toArray, List.set_cons_zero, List.set_cons_succ]
              refine wpAnyH_done (by kernel_rfl) (NoPanic.normal ?_) _
              clear hS2
              go_wp2
              refine bodyPost_ret (v := .tuple #[.agg #[.int .u8 (bt s 1), .int .u16 (g16 s 4), .bool true, .int .u8 (bt s 8), .int .u8 (bt s 9), .int .u32 (g32 s 12), .int .u32 (g32 s 16), .string (s.extract 20 n)], .string (s.extract n m), .int .i64 0]) (by simp [results, Try.results10, go_sem, y0, y1, y2, y3, y4, y5, y6, y7]) rfl ?_
              rw [HN.out.1, HN.out.1, HN.out.1, HN.out.1, HN.out.1, HN.out.1, HN.out.2.1, HN.out.2.2.1, HN.out.2.2.2.1, HN.out.2.2.2.2]
              exact ⟨rfl, BZ⟩
            exact AllReadyH.nil
          exact AllReadyH.nil
        exact AllReadyH.nil
      exact AllReadyH.nil
    exact AllReadyH.nil
end Go.Proofs.Ytfiokjenfmpmlaa
