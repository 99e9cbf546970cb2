/- Plain mathematics, and what is kept, of SumsHold. -/
import Derived.Test.YtdddgbpiabimbaaDoorOwn16
import Derived.Test.YtdddgbpiabimbaaDoorSumsVoid
namespace Go.Proofs.YtdddgbpiabimbaaDoor.SumsHold
set_option linter.unusedVariables false
open Go.ChangeShapes Go.WideShapes Go.ChangeAt Go.RowKit Go.PlainAid
theorem updV_one (v x y : Int) (x0 : 0 ≤ x) (x1 : x ≤ 65535) (y0 : 0 ≤ y) (y1 : y ≤ 65535) : updV v (strOfNums (wordL [x])) (strOfNums (wordL [y])) = updW v x y := by
  have hx : ∀ n ∈ [x], 0 ≤ n ∧ n ≤ 65535 := by intro n hn; simp at hn; omega
  have hy : ∀ n ∈ [y], 0 ≤ n ∧ n ≤ 65535 := by intro n hn; simp at hn; omega
  have e1 : (strOfNums (wordL [x])).size = 2 := by rw [size_W]; rfl
  have e2 : (strOfNums (wordL [y])).size = 2 := by rw [size_W]; rfl
  unfold updV
  rw [if_neg (by rw [e1, e2]; omega), e1]
  show updW v (g16 (strOfNums (wordL [x])) (2 * 0)) (g16 (strOfNums (wordL [y])) (2 * 0)) = _
  rw [g16_W _ hx, g16_W _ hy]
  rfl
theorem holdsV_W (zs : List Int) (h : ∀ n ∈ zs, 0 ≤ n ∧ n ≤ 65535) : holdsV [strOfNums (wordL zs)] = decide (zs.sum ≠ 0 ∧ zs.sum % 65535 = 0) := by
  have hn := sum_nonneg zs h
  unfold holdsV
  rw [sumV_cl, totTs1, totT_W _ h]
  rw [Bool.eq_iff_iff, decide_eq_true_iff, decide_eq_true_iff]
  unfold cl
  split <;> omega
/-- The row that is made, and the sum that goes along, after some words. -/
structure Inv (w wr : World) (g len k fr : Nat) (ys : List Int) (i : Nat) (u : Int) (ns : List Int) : Prop where
  u0 : 0 ≤ u
  u1 : u ≤ 65535
  wf : ∀ n ∈ ns, 0 ≤ n ∧ n ≤ 65535
  own : OwnR .u16 wr g len ns
  bel : Below w.heap.size w wr
  same : (u + ns.sum - ns.getD k 0) % 65535 = ys.sum % 65535
  rest : ∀ j, i ≤ j → fr + j < len → ns.getD (fr + j) 0 = ys.getD (fr + j) 0
theorem Inv.step {w wr w' : World} {g len k fr : Nat} {ys : List Int} {i : Nat} {u : Int} {ns : List Int} (h : Inv w wr g len k fr ys i u ns) {y : Int} (y0 : 0 ≤ y) (y1 : y ≤ 65535) (x0 : 0 ≤ ys.getD (fr + i) 0) (x1 : ys.getD (fr + i) 0 ≤ 65535)
    (hi : fr + i < len) (hne : fr + i ≠ k) (hk : k < len) (hb : Below wr.heap.size wr w') (hg : w.heap.size ≤ g) :
    Inv w (w'.setCell ⟨g, fr + i, none⟩ (.int .u16 y)) g len k fr ys (i + 1) (updW u (ys.getD (fr + i) 0) y) (ns.set (fr + i) y) := by
  obtain ⟨u0, u1, wf, own, bel, same, rest⟩ := h
  have b := updW_bd u0 u1 x0 x1 y0 y1
  have hl := own.1
  have hx := rest i (Nat.le_refl _) hi
  refine ⟨b.1, b.2, wf_set wf _ y0 y1, (own.kept hb).set _ hi _, (bel.trans (hb.mono bel.size)).setCell hg _, ?_, fun j hj hjl => ?_⟩
  · have hm := updW_mod (n := u) (f := ys.getD (fr + i) 0) (t := y)
    have e : (ns.set (fr + i) y).getD k 0 = ns.getD k 0 := by simp [List.getD, hne]
    rw [sum_set ns _ y (by omega), e, hx]
    omega
  · rw [← rest j (by omega) hjl]
    have hij : ¬ i = j := by omega
    simp [List.getD, hij]
theorem Inv.skip {w wr : World} {g len k fr : Nat} {ys : List Int} {i : Nat} {u : Int} {ns : List Int} (h : Inv w wr g len k fr ys i u ns) : Inv w wr g len k fr ys (i + 1) u ns :=
  ⟨h.u0, h.u1, h.wf, h.own, h.bel, h.same, fun j hj hjl => h.rest j (by omega) hjl⟩
/-- At the end: unless one is nothing but 0, both hold, or neither. -/
theorem fin1 {ys ns : List Int} {k : Nat} {u : Int} (hy : ∀ n ∈ ys, 0 ≤ n ∧ n ≤ 65535) (hn : ∀ n ∈ ns, 0 ≤ n ∧ n ≤ 65535) (u0 : 0 ≤ u) (u1 : u ≤ 65535) (hk : k < ns.length)
    (same : (u + ns.sum - ns.getD k 0) % 65535 = ys.sum % 65535) (v1 : voidV (strOfNums (wordL ys)) = false) (v2 : voidV (strOfNums (wordL (ns.set k u))) = false) :
    holdsV [strOfNums (wordL ys)] = holdsV [strOfNums (wordL (ns.set k u))] := by
  have hs := wf_set hn k u0 u1
  rw [voidV_W _ hy, decide_eq_false_iff_not] at v1
  rw [voidV_W _ hs, decide_eq_false_iff_not] at v2
  rw [holdsV_W _ hy, holdsV_W _ hs]
  rw [sum_set ns k u hk] at *
  rw [Bool.eq_iff_iff, decide_eq_true_iff, decide_eq_true_iff]
  omega
theorem fin2 {zs : List Int} {k : Nat} (h : ∀ n ∈ zs, 0 ≤ n ∧ n ≤ 65535) (hk : k < zs.length) : holdsV [strOfNums (wordL (zs.set k (sumV [strOfNums (wordL (zs.set k 0))])))] = true := by
  have h0 := wf_set h k (v := 0) (by omega) (by omega)
  have hb := sumV_bd [strOfNums (wordL (zs.set k 0))]
  have e : sumV [strOfNums (wordL (zs.set k 0))] = 65535 - cl (zs.set k 0).sum := by rw [sumV_cl, totTs1, totT_W _ h0]
  rw [holdsV_W _ (wf_set h k hb.1 hb.2), sum_set _ _ _ hk, decide_eq_true_iff, e]
  have hn := sum_nonneg _ h0
  have hc := cl_bd hn
  have hm := cl_mod hn
  have hz := cl_zero hn
  have es := sum_set zs k 0 hk
  generalize (zs.set k 0).sum = R at *
  generalize cl R = c at *
  generalize zs.getD k 0 = x at *
  generalize zs.sum = S at *
  by_cases hR : R = 0
  · have := hz.2 hR
    omega
  · have : c ≠ 0 := fun h => hR (hz.1 h)
    omega
end Go.Proofs.YtdddgbpiabimbaaDoor.SumsHold
