/- Texts of this proof, together: EmbO, EmbS. -/
import Derived.Test.YtbpicngbjggblaaGreatDoorGz
import Derived.Test.YtbpicngbjggblaaGreatDoorHb
namespace Go.Proofs.YtbpicngbjggblaaGreatDoor
set_option linter.unusedVariables false
set_option linter.unusedSimpArgs false
open Go.ChangeShapes Go.WideShapes Go.ChangeAt Go.RowKit Go.PlainAid
theorem two_bt {X Y : ByteArray} {p q : Nat} (h : g16 X p = g16 Y q) : bt X p = bt Y q ∧ bt X (p + 1) = bt Y (q + 1) := by
  have a0 := bt_nonneg X p; have a1 := bt_le X p; have a2 := bt_nonneg X (p + 1); have a3 := bt_le X (p + 1)
  have b0 := bt_nonneg Y q; have b1 := bt_le Y q; have b2 := bt_nonneg Y (q + 1); have b3 := bt_le Y (q + 1)
  unfold g16 at h
  omega
theorem si_17 {D : ByteArray} (h : bt D 9 = 17) : siD D = ownN D + 6 := by unfold siD; rw [if_pos h]
theorem si_1 {D : ByteArray} (h : bt D 9 = 1) : siD D = ownN D + 2 := by unfold siD; rw [if_neg (by omega), if_pos h]
theorem si_6 {D : ByteArray} (h : bt D 9 = 6) : siD D = if ownN D + 18 ≤ D.size then ownN D + 16 else 0 := by unfold siD; rw [if_neg (by omega), if_neg (by omega)]
/-- Words of inner bytes that stay. -/
theorem em_word {D X : ByteArray} (h : lkR D = 0) {a m b n : Int} (hc : okC a m b n) (E : EmF D X a m b n) (j : Nat) (hj : if bt D 9 = 1 then ¬ j = 1 ∧ ¬ j = 2 else ¬ j = 0 ∧ ¬ j = 1 ∧ (bt D 9 = 17 → ¬ j = 3) ∧ (bt D 9 = 6 → ownN D + 18 ≤ D.size → ¬ j = 8)) : g16 (inL X) (2 * j) = g16 (inL D) (2 * j) := by
  obtain ⟨h0, h1, h2, h3, h4, h5⟩ := lk_zero h
  have zL := inL_size (D := D) (by omega)
  rw [E.load]
  rcases h5 with k | k | k
  · rw [k] at hj ⊢
    rw [if_neg (by decide)] at hj
    obtain ⟨j0, j1, _, j8⟩ := hj
    by_cases hz : 18 ≤ (inL D).size
    · obtain ⟨_, W⟩ := emL_6 (ask := inAsk D) hz (okC_of D) hc
      rw [W, if_neg (j8 rfl (by omega)), if_neg j0, if_neg j1]
    · obtain ⟨_, W⟩ := emL_6s (ask := inAsk D) (oa := g32 D 12) (ob := g32 D 16) (by omega) (by omega : (inL D).size < 18) hc
      rw [W, if_neg j0, if_neg j1]
  · rw [k] at hj ⊢
    rw [if_neg (by decide)] at hj
    obtain ⟨j0, j1, j3, _⟩ := hj
    obtain ⟨_, W⟩ := emL_17 (ask := inAsk D) (L := inL D) (by omega) (okC_of D) hc
    rw [W, if_neg (j3 rfl), if_neg j0, if_neg j1]
  · rw [k.1] at hj ⊢
    rw [if_pos rfl] at hj
    obtain ⟨_, W⟩ := emL_1 (ask := inAsk D) (L := inL D) (oa := g32 D 12) (ob := g32 D 16) (by omega) hc
    rw [W, if_neg hj.1, if_neg hj.2]
theorem em_zone {D X : ByteArray} (h : lkR D = 0) {a m b n : Int} (hc : okC a m b n) (E : EmF D X a m b n) (i : Nat) : bt D i = bt X i ∨ i = 10 ∨ i = 11 ∨ (12 ≤ i ∧ i < 20) ∨ (¬ bt D 9 = 1 ∧ ownN D ≤ i ∧ i < ownN D + 4) ∨ (bt D 9 = 1 ∧ ownN D + 4 ≤ i ∧ i < ownN D + 6) ∨ (0 < siD D ∧ (i = siD D ∨ i = siD D + 1)) := by
  obtain ⟨h0, h1, h2, h3, h4, h5⟩ := lk_zero h
  have o4 := E.own4
  have ev : i = 2 * (i / 2) ∨ i = 2 * (i / 2) + 1 := by omega
  by_cases d0 : i < 10
  · left
    have w := two_bt (E.wlow (i / 2) (by omega))
    rcases ev with e | e
    · rw [e]; exact w.1.symm
    · rw [e]; exact w.2.symm
  by_cases d1 : i < 20
  · omega
  by_cases d2 : i < ownN D
  · left
    have w := two_bt (E.whigh (i / 2) (by omega) (by omega))
    rcases ev with e | e
    · rw [e]; exact w.1.symm
    · rw [e]; exact w.2.symm
  obtain ⟨j, hj⟩ : ∃ j, i = ownN D + 2 * j ∨ i = ownN D + 2 * j + 1 := ⟨(i - ownN D) / 2, by omega⟩
  by_cases sp : if bt D 9 = 1 then ¬ j = 1 ∧ ¬ j = 2 else ¬ j = 0 ∧ ¬ j = 1 ∧ (bt D 9 = 17 → ¬ j = 3) ∧ (bt D 9 = 6 → ownN D + 18 ≤ D.size → ¬ j = 8)
  · left
    have w := em_word h hc E j sp
    rw [inL_g16, inL_g16, E.own] at w
    have w2 := two_bt w
    rcases hj with e | e
    · rw [e]; exact w2.1.symm
    · rw [e]; exact w2.2.symm
  · right
    rcases h5 with k | k | k
    · rw [if_neg (by omega)] at sp
      have s6 := si_6 k
      by_cases z : ownN D + 18 ≤ D.size
      · rw [if_pos z] at s6
        have : j = 0 ∨ j = 1 ∨ j = 8 := by
          refine Classical.byContradiction fun n => sp ⟨by omega, by omega, by omega, fun _ _ => by omega⟩
        omega
      · have : j = 0 ∨ j = 1 := by
          refine Classical.byContradiction fun n => sp ⟨by omega, by omega, by omega, fun _ e => absurd e z⟩
        omega
    · rw [if_neg (by omega)] at sp
      have s6 := si_17 k
      have : j = 0 ∨ j = 1 ∨ j = 3 := by
        refine Classical.byContradiction fun n => sp ⟨by omega, by omega, fun _ => by omega, by omega⟩
      omega
    · rw [if_pos k.1] at sp
      have s6 := si_1 k.1
      have : j = 1 ∨ j = 2 := by
        refine Classical.byContradiction fun n => sp ⟨by omega, by omega⟩
      have := k.1
      omega
theorem em_none {D X : ByteArray} (h : lkR D = 0) {a m b n : Int} (hc : okC a m b n) (E : EmF D X a m b n) (k : bt D 9 = 17) (z0 : bt D (ownN D + 6) = 0) (z1 : bt D (ownN D + 6 + 1) = 0) : bt X (ownN D + 6) = 0 ∧ bt X (ownN D + 6 + 1) = 0 := by
  obtain ⟨h0, h1, h2, h3, h4, h5⟩ := lk_zero h
  have zL := inL_size (D := D) (by omega)
  have g : g16 (inL D) 6 = 0 := by rw [inL_g16]; unfold g16; rw [z0, z1]; rfl
  have u : uSum (inL D) (g32 D 12) (g32 D 16) a m b n = 0 := by unfold uSum; rw [if_pos g]
  obtain ⟨_, W⟩ := emL_17 (ask := inAsk D) (L := inL D) (by omega) (okC_of D) hc
  have w : g16 (inL X) 6 = 0 := by
    rw [E.load, k]
    exact (W 3).trans ((if_pos rfl).trans u)
  rw [inL_g16, E.own] at w
  have a0 := bt_nonneg X (ownN D + 6); have a2 := bt_nonneg X (ownN D + 6 + 1)
  unfold g16 at w
  omega
theorem si_in {D : ByteArray} (h : lkR D = 0) (hk : 0 < siD D) : siD D + 2 ≤ D.size ∧ ((bt D 9 = 1 ∧ siD D = ownN D + 2) ∨ (¬ bt D 9 = 1 ∧ ownN D + 4 ≤ siD D)) ∧ (bt D 9 = 17 → siD D = ownN D + 6) := by
  obtain ⟨h0, h1, h2, h3, h4, h5⟩ := lk_zero h
  rcases h5 with k | k | k
  · have s6 := si_6 k
    by_cases z : ownN D + 18 ≤ D.size
    · rw [if_pos z] at s6; omega
    · rw [if_neg z] at s6; omega
  · have := si_17 k; omega
  · have := si_1 k.1
    have := k.1
    omega
theorem si_none {D : ByteArray} (h : lkR D = 0) (hk : ¬ 0 < siD D) : siD D = 0 ∧ bt D 9 = 6 := by
  obtain ⟨h0, h1, h2, h3, h4, h5⟩ := lk_zero h
  rcases h5 with k | k | k
  · exact ⟨by omega, k⟩
  · have := si_17 k; omega
  · have := si_1 k.1; omega
end Go.Proofs.YtbpicngbjggblaaGreatDoor

namespace Go.Proofs.YtbpicngbjggblaaGreatDoor
set_option linter.unusedVariables false
set_option linter.unusedSimpArgs false
open Go.ChangeShapes Go.WideShapes Go.ChangeAt Go.RowKit Go.PlainAid
/-- Inner bytes, translated, and translated back. -/
theorem emL_back {pr : Int} {ask : Bool} {L : ByteArray} (hp : pr = 6 ∨ pr = 17 ∨ pr = 1) (h : 8 ≤ L.size) {oa ob c k d l m0 n0 : Int} (ho : okC oa 0 ob 0) (hd : okC c k d l) (hb : okC oa m0 ob n0) (h1 : pr = 1 → (if ask = true then m0 else n0) = g16 L 4) (h2 : ¬ pr = 1 → m0 = g16 L 0 ∧ n0 = g16 L 2) :
    Alike (ekq pr L) (emL pr ask (emL pr ask L oa ob c k d l) c d oa m0 ob n0) L := by
  rcases hp with rfl | rfl | rfl
  · obtain ⟨rfl, rfl⟩ := h2 (by decide)
    by_cases hz : 18 ≤ L.size
    · obtain ⟨z0, W0⟩ := emL_6 (ask := ask) hz ho hd
      obtain ⟨z1, W1⟩ := emL_6 (ask := ask) (L := emL 6 ask L oa ob c k d l) (by omega) (okC_ad hd) hb
      have m0 := pSum_mod L 16 oa ob c k d l
      have m1 := pSum_mod (emL 6 ask L oa ob c k d l) 16 c d oa (g16 L 0) ob (g16 L 2)
      have b1 := pSum_bd (L := emL 6 ask L oa ob c k d l) (k := 16) (okC_ad hd) hb
      have e8 : g16 (emL 6 ask L oa ob c k d l) 16 = _ := (W0 8).trans (if_pos rfl)
      have e0 : g16 (emL 6 ask L oa ob c k d l) 0 = k := (W0 0).trans (by simp)
      have e1 : g16 (emL 6 ask L oa ob c k d l) 2 = l := (W0 1).trans (by simp)
      rw [e8, e0, e1] at m1
      have ek : ekq 6 L = 8 := by unfold ekq; rw [if_neg (by decide), if_pos rfl, if_pos hz]
      rw [ek]
      refine Alike.of (z1.trans z0) (fun j hj => ?_) ?_ (by omega)
      · rw [W1, if_neg hj]
        split
        · next e => rw [e]
        · split
          · next e => rw [e]
          · rw [W0, if_neg hj, if_neg (by assumption), if_neg (by assumption)]
      · rw [W1, if_pos rfl]
        refine pw_eq b1.1 b1.2 (g16_nonneg _ _) (g16_le _ _) ?_
        show _ = g16 L 16 % 65535
        omega
    · obtain ⟨z0, W0⟩ := emL_6s (ask := ask) (oa := oa) (ob := ob) (by omega) (by omega : L.size < 18) hd
      obtain ⟨z1, W1⟩ := emL_6s (ask := ask) (oa := c) (ob := d) (L := emL 6 ask L oa ob c k d l) (by omega) (by omega) hb
      have ek : ekq 6 L = 0 := by unfold ekq; rw [if_neg (by decide), if_pos rfl, if_neg hz]
      rw [ek]
      have key : ∀ j, g16 (emL 6 ask (emL 6 ask L oa ob c k d l) c d oa (g16 L 0) ob (g16 L 2)) (2 * j) = g16 L (2 * j) := by
        intro j
        rw [W1]
        split
        · next e => rw [e]
        · split
          · next e => rw [e]
          · rw [W0, if_neg (by assumption), if_neg (by assumption)]
      exact ⟨z1.trans z0, fun j _ => key j, by rw [key 0]⟩
  · obtain ⟨rfl, rfl⟩ := h2 (by decide)
    obtain ⟨z0, W0⟩ := emL_17 (ask := ask) h ho hd
    obtain ⟨z1, W1⟩ := emL_17 (ask := ask) (L := emL 17 ask L oa ob c k d l) (by omega) (okC_ad hd) hb
    have m0 := pSum_mod L 6 oa ob c k d l
    have m1 := pSum_mod (emL 17 ask L oa ob c k d l) 6 c d oa (g16 L 0) ob (g16 L 2)
    have b0 := pSum_bd (L := L) (k := 6) ho hd
    have b1 := pSum_bd (L := emL 17 ask L oa ob c k d l) (k := 6) (okC_ad hd) hb
    have u1 := uSum_bd (L := emL 17 ask L oa ob c k d l) (okC_ad hd) hb
    have e3 : g16 (emL 17 ask L oa ob c k d l) 6 = _ := (W0 3).trans (if_pos rfl)
    have e0 : g16 (emL 17 ask L oa ob c k d l) 0 = k := (W0 0).trans (by simp)
    have e1 : g16 (emL 17 ask L oa ob c k d l) 2 = l := (W0 1).trans (by simp)
    rw [e0, e1] at m1
    have ek : ekq 17 L = 3 := by unfold ekq; rw [if_pos rfl]
    rw [ek]
    refine Alike.of (z1.trans z0) (fun j hj => ?_) ?_ (by omega)
    · rw [W1, if_neg hj]
      split
      · next e => rw [e]
      · split
        · next e => rw [e]
        · rw [W0, if_neg hj, if_neg (by assumption), if_neg (by assumption)]
    · rw [W1, if_pos rfl]
      refine pw_eq u1.1 u1.2 (g16_nonneg _ _) (g16_le _ _) ?_
      unfold uSum
      rw [e3] at m1 ⊢
      show _ = g16 L 6 % 65535
      by_cases hz : g16 L 6 = 0
      · have e : uSum L oa ob c k d l = 0 := by unfold uSum; rw [if_pos hz]
        rw [if_pos e, hz]
      · have e : ¬ uSum L oa ob c k d l = 0 := by unfold uSum; rw [if_neg hz]; split <;> omega
        have md : uSum L oa ob c k d l % 65535 = pSum L 6 oa ob c k d l % 65535 := by unfold uSum; rw [if_neg hz]; split <;> omega
        rw [if_neg e]
        split <;> omega
  · have g4 := h1 rfl
    obtain ⟨z0, W0⟩ := emL_1 (ask := ask) (oa := oa) (ob := ob) h hd
    obtain ⟨z1, W1⟩ := emL_1 (ask := ask) (oa := c) (ob := d) (L := emL 1 ask L oa ob c k d l) (by omega) hb
    have e1 : g16 (emL 1 ask L oa ob c k d l) 2 = _ := (W0 1).trans (if_pos rfl)
    have e2 : g16 (emL 1 ask L oa ob c k d l) 4 = (if ask = true then k else l) := (W0 2).trans (by simp)
    rw [e1, e2, g4] at W1
    obtain ⟨d0, d1, d2, d3, d4, d5, d6, d7⟩ := hd
    obtain ⟨x, hx, x0, x1⟩ : ∃ x, (if ask = true then k else l) = x ∧ 0 ≤ x ∧ x ≤ 65535 := ⟨_, rfl, by split <;> omega, by split <;> omega⟩
    rw [hx] at W0 W1
    have q0 := g16_nonneg L 2
    have q1 := g16_le L 2
    have q2 := g16_nonneg L 4
    have q3 := g16_le L 4
    have m0 := updW_mod (n := g16 L 2) (f := g16 L 4) (t := x)
    have m1 := updW_mod (n := updW (g16 L 2) (g16 L 4) x) (f := x) (t := g16 L 4)
    have b0 := updW_bd q0 q1 q2 q3 x0 x1
    have b1 := updW_bd b0.1 b0.2 x0 x1 q2 q3
    have ek : ekq 1 L = 1 := by unfold ekq; rw [if_neg (by decide), if_neg (by decide)]
    rw [ek]
    refine Alike.of (z1.trans z0) (fun j hj => ?_) ?_ (by omega)
    · rw [W1, if_neg hj]
      split
      · next e => rw [e]
      · rw [W0, if_neg hj, if_neg (by assumption)]
    · rw [W1, if_pos rfl]
      refine pw_eq b1.1 b1.2 q0 q1 ?_
      show _ = g16 L 2 % 65535
      omega
theorem emL_askB {pr : Int} (h : pr = 6 ∨ pr = 17) (x y : Bool) (L : ByteArray) (oa ob a m b n : Int) : emL pr x L oa ob a m b n = emL pr y L oa ob a m b n := by
  rcases h with rfl | rfl
  · simp [emL]
  · simp [emL]
theorem em_w5 {D : ByteArray} (h : lkR D = 0) {a m b n : Int} (hc : okC a m b n) : g16 (emD D a m b n) 10 = emS D a b := by
  obtain ⟨h0, h1, h2, h3, _, _⟩ := lk_zero h
  have z := emH_size (a := a) (b := b) h2 (by omega)
  have w : g16 (emH D a b) 10 = _ := emH_word (j := 5) h2 (by omega) (okC_ad hc) (by omega)
  unfold emD
  rw [g16_app_l _ _ _ (by omega), w]
  simp
/-- Of 65535 and 0 the one for the other. -/
theorem pw_mod {x y : Int} (x0 : 0 ≤ x) (x1 : x ≤ 65535) (y0 : 0 ≤ y) (y1 : y ≤ 65535) (h : pw x = pw y) : x % 65535 = y % 65535 := by
  unfold pw at h
  split at h <;> split at h <;> omega
theorem tot_mod (X Y : ByteArray) (h : ∀ j, g16 X (2 * j) % 65535 = g16 Y (2 * j) % 65535) : ∀ i, tot X i % 65535 = tot Y i % 65535
  | 0 => rfl
  | i + 1 => by
    have e := tot_mod X Y h i
    have k := h i
    show (tot X i + g16 X (2 * i)) % 65535 = (tot Y i + g16 Y (2 * i)) % 65535
    omega
structure DaB (D Y : ByteArray) : Prop where
  size : Y.size = D.size
  words : ∀ j, ¬ j = 5 → ¬ (0 < ekq (bt D 9) (inL D) ∧ 2 * j = ownN D + 2 * ekq (bt D 9) (inL D)) → g16 Y (2 * j) = g16 D (2 * j)
  w5 : pw (g16 Y 10) = pw (g16 D 10)
  wk : pw (g16 Y (ownN D + 2 * ekq (bt D 9) (inL D))) = pw (g16 D (ownN D + 2 * ekq (bt D 9) (inL D)))
theorem DaB.tot {D Y : ByteArray} (h : DaB D Y) : totT Y % 65535 = totT D % 65535 := by
  have o4 := ownN_four D
  unfold totT half
  rw [h.size]
  refine tot_mod Y D (fun j => ?_) _
  by_cases c5 : j = 5
  · subst c5
    exact pw_mod (g16_nonneg _ _) (g16_le _ _) (g16_nonneg _ _) (g16_le _ _) h.w5
  · by_cases ck : 0 < ekq (bt D 9) (inL D) ∧ 2 * j = ownN D + 2 * ekq (bt D 9) (inL D)
    · rw [ck.2]
      exact pw_mod (g16_nonneg _ _) (g16_le _ _) (g16_nonneg _ _) (g16_le _ _) h.wk
    · rw [h.words j c5 ck]
theorem in_bd (D : ByteArray) : 0 ≤ inM D ∧ inM D ≤ 65535 ∧ 0 ≤ inN D ∧ inN D ≤ 65535 := by
  have g0 := fun k => g16_nonneg D k
  have g1 := fun k => g16_le D k
  have a0 := g0 (ownN D); have a1 := g1 (ownN D); have a2 := g0 (ownN D + 2); have a3 := g1 (ownN D + 2); have a4 := g0 (ownN D + 4); have a5 := g1 (ownN D + 4)
  unfold inM inN
  split
  · split <;> omega
  · omega
theorem okC_in (D : ByteArray) : okC (g32 D 12) (inM D) (g32 D 16) (inN D) := by
  have q := okC_of D
  have i := in_bd D
  exact ⟨q.1, q.2.1, i.1, i.2.1, q.2.2.2.2.1, q.2.2.2.2.2.1, i.2.2.1, i.2.2.2⟩
/-- Data, translated, and translated back. -/
theorem emD_back {D : ByteArray} (h : lkR D = 0) {c k d l : Int} (hd : okC c k d l) : DaB D (emD (emD D c k d l) (g32 D 12) (inM D) (g32 D 16) (inN D)) := by
  obtain ⟨h0, h1, h2, h3, h4, h5⟩ := lk_zero h
  have hk := okC_in D
  have E := em_facts h hd
  have w5 := em_w5 h hd
  obtain ⟨X, hX⟩ : ∃ X, emD D c k d l = X := ⟨_, rfl⟩
  rw [hX] at E w5 ⊢
  have E' := em_facts E.look hk
  have w5' := em_w5 E.look hk
  obtain ⟨Y, hY⟩ : ∃ Y, emD X (g32 D 12) (inM D) (g32 D 16) (inN D) = Y := ⟨_, rfl⟩
  rw [hY] at E' w5' ⊢
  clear hX hY
  have zL := inL_size (D := D) (by omega)
  have oY : ownN Y = ownN D := E'.own.trans E.own
  have o4 := ownN_four D
  have al : Alike (ekq (bt D 9) (inL D)) (inL Y) (inL D) := by
    rw [E'.load, E.b9, E.load, E.a12, E.a16]
    have base := fun x => emL_back (pr := bt D 9) (ask := x) (L := inL D) (oa := g32 D 12) (ob := g32 D 16) (m0 := inM D) (n0 := inN D) (by rcases h5 with k | k | k; exact .inl k; exact .inr (.inl k); exact .inr (.inr k.1)) (by omega) (okC_of D) hd hk
    by_cases k1 : bt D 9 = 1
    · rw [E.ask k1]
      refine base (inAsk D) (fun _ => ?_) (fun n => absurd k1 n)
      rw [inL_g16]
      unfold inM inN
      rw [if_pos k1, if_pos k1]
      cases inAsk D <;> simp
    · have k2 : bt D 9 = 6 ∨ bt D 9 = 17 := by rcases h5 with k | k | k; exact .inl k; exact .inr k; exact absurd k.1 k1
      rw [emL_askB k2 (inAsk X) (inAsk D)]
      refine base (inAsk D) (fun n => absurd n k1) (fun _ => ?_)
      rw [inL_g16, inL_g16]
      unfold inM inN
      rw [if_neg k1, if_neg k1]
      exact ⟨rfl, rfl⟩
  have lo : ∀ i, g16 Y (ownN D + i) = g16 (inL Y) i := fun i => by rw [inL_g16, oY]
  refine ⟨E'.size.trans E.size, fun j c5 ck => ?_, ?_, ?_⟩
  · by_cases d0 : j < 5
    · rw [E'.wlow j d0, E.wlow j d0]
    by_cases d1 : j < 10
    · have a1 := E'.a12
      have a2 := E'.a16
      rw [g32_two, g32_two] at a1 a2
      have l1 := g16_nonneg Y (12 + 2); have l2 := g16_le Y (12 + 2); have l3 := g16_nonneg D (12 + 2); have l4 := g16_le D (12 + 2)
      have m1 := g16_nonneg Y (16 + 2); have m2 := g16_le Y (16 + 2); have m3 := g16_nonneg D (16 + 2); have m4 := g16_le D (16 + 2)
      have hj : j = 6 ∨ j = 7 ∨ j = 8 ∨ j = 9 := by omega
      rcases hj with rfl | rfl | rfl | rfl
      · show g16 Y 12 = g16 D 12; omega
      · show g16 Y (12 + 2) = g16 D (12 + 2); omega
      · show g16 Y 16 = g16 D 16; omega
      · show g16 Y (16 + 2) = g16 D (16 + 2); omega
    by_cases d2 : 2 * j < ownN D
    · rw [E'.whigh j (by omega) (by rw [E.own]; exact d2), E.whigh j (by omega) d2]
    obtain ⟨i, hi⟩ : ∃ i, 2 * j = ownN D + 2 * i := ⟨j - ownN D / 2, by omega⟩
    rw [hi, lo, ← inL_g16]
    refine al.2.1 i ?_
    rintro ⟨n1, n2⟩
    exact ck ⟨n1, by omega⟩
  · rw [w5']
    have md := emS_mod X (g32 D 12) (g32 D 16)
    have md0 := emS_mod D c d
    have bd := emS_bd (D := X) (a := g32 D 12) (b := g32 D 16) (okC_ad hk)
    rw [w5] at md
    have a1 : c = g16 X 12 * 65536 + g16 X 14 := E.a12.symm.trans (g32_two X 12)
    have a2 : d = g16 X 16 * 65536 + g16 X 18 := E.a16.symm.trans (g32_two X 16)
    have t1 : g32 D 12 = g16 D 12 * 65536 + g16 D 14 := g32_two D 12
    have t2 : g32 D 16 = g16 D 16 * 65536 + g16 D 18 := g32_two D 16
    have q := fun z => And.intro (g16_nonneg X z) (g16_le X z)
    have q' := fun z => And.intro (g16_nonneg D z) (g16_le D z)
    have q1 := q 14; have q2 := q 18; have q3 := q' 14; have q4 := q' 18
    refine pw_eq bd.1 bd.2 (g16_nonneg _ _) (g16_le _ _) ?_
    omega
  · rw [lo, ← inL_g16]
    exact al.2.2
end Go.Proofs.YtbpicngbjggblaaGreatDoor
