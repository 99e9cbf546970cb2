/- Plain: a message with another ID (layer 7). -/
import Derived.Test.YtlcgpjeggelbaaaDoorIcmpQ
import Derived.Test.YtlcgpjeggelbaaaDoorSumsVoid
import Derived.Test.YtlcgpjeggelbaaaDoorSumsQ
namespace Go.Proofs.YtlcgpjeggelbaaaDoor
set_option linter.unusedVariables false
set_option linter.unusedSimpArgs false
open Go.ChangeShapes Go.WideShapes Go.ChangeAt Go.RowKit Go.PlainAid
theorem tot_none (s : ByteArray) : ∀ i, tot s i = 0 → ∀ k, k < 2 * i → bt s k = 0
  | 0, _, k, hk => by omega
  | i + 1, h, k, hk => by
    have h0 := tot_nonneg s i
    have g0 := g16_nonneg s (2 * i)
    have h' : tot s i + g16 s (2 * i) = 0 := h
    have hg : g16 s (2 * i) = 0 := by omega
    have b0 := bt_nonneg s (2 * i)
    have b1 := bt_nonneg s (2 * i + 1)
    unfold g16 at hg
    by_cases hk2 : k < 2 * i
    · exact tot_none s i (by omega) k hk2
    · rcases (show k = 2 * i ∨ k = 2 * i + 1 by omega) with rfl | rfl <;> omega
theorem void_tot (s : ByteArray) (h : voidV s = false) : 0 < totT s := by
  have h0 := totT_nonneg s
  by_cases hz : totT s = 0
  · have : voidV s = true := (voidV_iff s).2 fun k hk => tot_none s (half s) hz k (by unfold half; omega)
    rw [h] at this; cases this
  · omega
theorem icB_tot (ty co su : Int) (r d : ByteArray) (t0 : 0 ≤ ty) (t1 : ty ≤ 255) (c0 : 0 ≤ co) (c1 : co ≤ 255) (s0 : 0 ≤ su) (s1 : su ≤ 65535) (hr : r.size = 4) : totT (icB ty co su r d) = 256 * ty + co + su + totT r + totT d := by
  have zH : (strOfNums (wordL [256 * ty + co, su])).size = 4 := by rw [size_W]; rfl
  unfold icB
  rw [totT_app _ _ 4 (by rw [ByteArray.size_append, zH, hr]), totT_app _ _ 2 (by rw [zH]), totT_W _ (by intro n hn; simp at hn; omega)]
  simp only [List.sum_cons, List.sum_nil]
  omega
theorem wi_tot (r : ByteArray) (k : Int) (hr : r.size = 4) (k0 : 0 ≤ k) (k1 : k ≤ 65535) : totT (wiM r k) = k + totT (r.extract 2 4) := by
  have zW : (strOfNums (wordL [k])).size = 2 := by rw [size_W]; rfl
  unfold wiM
  rw [if_pos (by omega), hr, totT_app _ _ 1 (by rw [zW]), totT_W _ (by intro n hn; simp at hn; omega)]
  simp
theorem rest_tot (r : ByteArray) (hr : r.size = 4) : totT r = idM r + totT (r.extract 2 4) := by
  have e := ext_join r 0 2 4 (by omega) (by omega)
  have e2 := ext_all r
  rw [hr] at e2
  rw [e2] at e
  have hW := word_of r 0 (by omega)
  rw [Nat.zero_add] at hW
  have hI : idM r = g16 r 0 := by unfold idM; rw [if_pos (by omega)]
  have a0 := g16_nonneg r 0; have a1 := g16_le r 0
  have := totT_app (r.extract 0 2) (r.extract 2 4) 1 (by rw [size_extract' r 0 2 (by omega) (by omega)])
  rw [e] at this
  rw [this, hW, totT_W _ (by intro n hn; simp at hn; omega), hI]
  simp
theorem holds_tot (s : ByteArray) (h : 0 < totT s) : holdsV [s] = decide (totT s % 65535 = 0) := by
  unfold holdsV
  rw [sumV_cl, totTs1, Bool.eq_iff_iff, decide_eq_true_iff, decide_eq_true_iff]
  unfold cl
  split <;> omega
/-- A message with another ID, whose sum goes along. -/
theorem with_id (ty co su : Int) (r d : ByteArray) (q : Int) (t0 : 0 ≤ ty) (t1 : ty ≤ 255) (c0 : 0 ≤ co) (c1 : co ≤ 255) (s0 : 0 ≤ su) (s1 : su ≤ 65535) (hr : r.size = 4) (q0 : 0 ≤ q) (q1 : q ≤ 65535)
    (v1 : voidV (icB ty co su r d) = false) (v2 : voidV (icB ty co (updW su (idM r) q) (wiM r q) d) = false) :
    ckM (icB ty co (updW su (idM r) q) (wiM r q) d) = ckM (icB ty co su r d) := by
  obtain ⟨j0, j1⟩ := idM_bd r
  obtain ⟨u0, u1⟩ := updW_bd s0 s1 j0 j1 q0 q1
  have hm := updW_mod (n := su) (f := idM r) (t := q)
  have hw : (wiM r q).size = 4 := by rw [wiM_size, hr]
  have p1 := (icB_parts ty co su r d t0 t1 c0 c1 s0 s1 hr).1
  have p2 := (icB_parts ty co (updW su (idM r) q) (wiM r q) d t0 t1 c0 c1 u0 u1 hw).1
  have T1 := void_tot _ v1
  have T2 := void_tot _ v2
  have E1 := icB_tot ty co su r d t0 t1 c0 c1 s0 s1 hr
  have E2 := icB_tot ty co (updW su (idM r) q) (wiM r q) d t0 t1 c0 c1 u0 u1 hw
  rw [wi_tot r q hr q0 q1] at E2
  rw [rest_tot r hr] at E1
  generalize icB ty co su r d = A at *
  generalize icB ty co (updW su (idM r) q) (wiM r q) d = B at *
  generalize updW su (idM r) q = u at *
  generalize totT (r.extract 2 4) = E at *
  generalize totT d = D at *
  generalize idM r = j at *
  have h1 := holds_tot A T1
  have h2 := holds_tot B T2
  have hab : decide (totT B % 65535 = 0) = decide (totT A % 65535 = 0) := by
    rw [decide_eq_decide]
    clear h1 h2 v1 v2
    omega
  unfold ckM
  rw [h1, h2, hab, p1, p2]
theorem with_tail (ty co su u : Int) (r d : ByteArray) (q : Int) (hr : r.size = 4) : (icB ty co u (wiM r q) d).size = (icB ty co su r d).size ∧ (icB ty co u (wiM r q) d).extract 6 (icB ty co u (wiM r q) d).size = (icB ty co su r d).extract 6 (icB ty co su r d).size := by
  have zH : ∀ v, (strOfNums (wordL [256 * ty + co, v])).size = 4 := by intro v; rw [size_W]; rfl
  have zW : (strOfNums (wordL [q])).size = 2 := by rw [size_W]; rfl
  have hW := word_of r 0 (by omega)
  rw [Nat.zero_add] at hW
  have e := ext_join r 0 2 4 (by omega) (by omega)
  have e2 := ext_all r
  rw [hr] at e2
  rw [e2] at e
  have zr := size_extract' r 0 2 (by omega) (by omega)
  have z2 := size_extract' r 2 4 (by omega) (by omega)
  have f1 : icB ty co u (wiM r q) d = (strOfNums (wordL [256 * ty + co, u]) ++ strOfNums (wordL [q])) ++ (r.extract 2 4 ++ d) := by
    unfold icB wiM
    rw [if_pos (by omega), hr]
    simp only [ByteArray.append_assoc]
  have f2 : icB ty co su r d = (strOfNums (wordL [256 * ty + co, su]) ++ r.extract 0 2) ++ (r.extract 2 4 ++ d) := by
    conv => lhs; unfold icB; rw [← e]
    simp only [ByteArray.append_assoc]
  have g1 := ext_app_r (strOfNums (wordL [256 * ty + co, u]) ++ strOfNums (wordL [q])) (r.extract 2 4 ++ d) 0 (r.extract 2 4 ++ d).size
  have g2 := ext_app_r (strOfNums (wordL [256 * ty + co, su]) ++ r.extract 0 2) (r.extract 2 4 ++ d) 0 (r.extract 2 4 ++ d).size
  rw [← f1, ByteArray.size_append, zH, zW, ext_all] at g1
  rw [← f2, ByteArray.size_append, zH, zr, ext_all] at g2
  have s1 : (icB ty co u (wiM r q) d).size = 6 + (r.extract 2 4 ++ d).size := by rw [f1, ByteArray.size_append, ByteArray.size_append, zH, zW]
  have s2 : (icB ty co su r d).size = 6 + (r.extract 2 4 ++ d).size := by rw [f2, ByteArray.size_append, ByteArray.size_append, zH, zr]
  refine ⟨by rw [s1, s2], ?_⟩
  rw [s1, s2]
  exact g1.trans g2.symm
end Go.Proofs.YtlcgpjeggelbaaaDoor
