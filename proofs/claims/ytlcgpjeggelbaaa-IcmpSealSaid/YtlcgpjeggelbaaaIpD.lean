/- Plain facts on a header's sum (layer 4). -/
import Derived.Test.YtlcgpjeggelbaaaIpC
import Derived.Test.YtlcgpjeggelbaaaSumsR
namespace Go.Proofs.Ytlcgpjeggelbaaa
set_option linter.unusedVariables false
set_option linter.unusedSimpArgs false
theorem g16_app_l (a b : ByteArray) (j : Nat) (h : j + 1 < a.size) : g16 (a ++ b) j = g16 a j := by
  unfold g16; rw [bt_append_left a b j (by omega), bt_append_left a b (j + 1) h]
theorem g16_app_r (a b : ByteArray) (j : Nat) : g16 (a ++ b) (a.size + j) = g16 b j := by
  unfold g16; rw [bt_append_right, Nat.add_assoc, bt_append_right]
theorem tot_app_l (a b : ByteArray) : ∀ i, 2 * i ≤ a.size → tot (a ++ b) i = tot a i
  | 0, _ => rfl
  | i + 1, h => by
    show tot (a ++ b) i + g16 (a ++ b) (2 * i) = tot a i + g16 a (2 * i)
    rw [tot_app_l a b i (by omega), g16_app_l a b (2 * i) (by omega)]
theorem tot_app_r (a b : ByteArray) (k : Nat) (h : a.size = 2 * k) : ∀ i, tot (a ++ b) (k + i) = tot a k + tot b i
  | 0 => by
    show tot (a ++ b) k = tot a k + 0
    rw [tot_app_l a b k (by omega)]; omega
  | i + 1 => by
    show tot (a ++ b) (k + i) + g16 (a ++ b) (2 * (k + i)) = tot a k + (tot b i + g16 b (2 * i))
    rw [tot_app_r a b k h i, show 2 * (k + i) = a.size + 2 * i by omega, g16_app_r]
    omega
theorem totT_app (a b : ByteArray) (k : Nat) (h : a.size = 2 * k) : totT (a ++ b) = totT a + totT b := by
  unfold totT
  rw [show half (a ++ b) = k + half b by unfold half; rw [ByteArray.size_append]; omega, show half a = k by unfold half; omega]
  exact tot_app_r a b k h _
theorem hdrW_wf {a id : Int} {fl : Bool} {tt pr sr ds : Int} {n : Nat} {size sum : Int} (a0 : 0 ≤ a) (a1 : a ≤ 255) (i0 : 0 ≤ id) (i1 : id ≤ 65535) (t0 : 0 ≤ tt) (t1 : tt ≤ 255) (p0 : 0 ≤ pr) (p1 : pr ≤ 255)
    (s0 : 0 ≤ sr) (s1 : sr ≤ 4294967295) (d0 : 0 ≤ ds) (d1 : ds ≤ 4294967295) (hn : n ≤ 40) (z0 : 0 ≤ size) (z1 : size ≤ 65535) (m0 : 0 ≤ sum) (m1 : sum ≤ 65535) : ∀ x ∈ hdrW a id fl tt pr sr ds n size sum, 0 ≤ x ∧ x ≤ 65535 := by
  intro x hx
  simp only [hdrW, List.mem_cons, List.not_mem_nil, or_false] at hx
  rcases hx with h | h | h | h | h | h | h | h | h | h
  all_goals first
    | (cases fl <;> simp at h <;> omega)
    | omega
theorem hdrB_tot (a id : Int) (fl : Bool) (tt pr sr ds : Int) (o : ByteArray) (size sum : Int) (a0 : 0 ≤ a) (a1 : a ≤ 255) (i0 : 0 ≤ id) (i1 : id ≤ 65535) (t0 : 0 ≤ tt) (t1 : tt ≤ 255) (p0 : 0 ≤ pr) (p1 : pr ≤ 255)
    (s0 : 0 ≤ sr) (s1 : sr ≤ 4294967295) (d0 : 0 ≤ ds) (d1 : ds ≤ 4294967295) (ho : o.size ≤ 40) (z0 : 0 ≤ size) (z1 : size ≤ 65535) (m0 : 0 ≤ sum) (m1 : sum ≤ 65535) :
    totT (hdrB a id fl tt pr sr ds o size sum) = totT (hdrB a id fl tt pr sr ds o size 0) + sum := by
  unfold hdrB
  rw [totT_app _ _ 10 (by rw [size_W]; rfl), totT_app _ _ 10 (by rw [size_W]; rfl), totT_W _ (hdrW_wf a0 a1 i0 i1 t0 t1 p0 p1 s0 s1 d0 d1 ho z0 z1 m0 m1), totT_W _ (hdrW_wf a0 a1 i0 i1 t0 t1 p0 p1 s0 s1 d0 d1 ho z0 z1 (Int.le_refl 0) (by omega))]
  simp only [hdrW, List.sum_cons, List.sum_nil]
  omega
theorem hdrB_pos (a id : Int) (fl : Bool) (tt pr sr ds : Int) (o : ByteArray) (size : Int) (a0 : 0 ≤ a) (a1 : a ≤ 255) (i0 : 0 ≤ id) (i1 : id ≤ 65535) (t0 : 0 ≤ tt) (t1 : tt ≤ 255) (p0 : 0 ≤ pr) (p1 : pr ≤ 255)
    (s0 : 0 ≤ sr) (s1 : sr ≤ 4294967295) (d0 : 0 ≤ ds) (d1 : ds ≤ 4294967295) (ho : o.size ≤ 40) (z0 : 0 ≤ size) (z1 : size ≤ 65535) : 0 < totT (hdrB a id fl tt pr sr ds o size 0) := by
  unfold hdrB
  rw [totT_app _ _ 10 (by rw [size_W]; rfl), totT_W _ (hdrW_wf a0 a1 i0 i1 t0 t1 p0 p1 s0 s1 d0 d1 ho z0 z1 (Int.le_refl 0) (by omega))]
  have := totT_nonneg o
  simp only [hdrW, List.sum_cons, List.sum_nil]
  cases fl <;> simp <;> omega
theorem cl_full {t : Int} (h : 0 < t) : cl (t + (65535 - cl t)) = 65535 := by
  have h1 := cl_bd (t := t) (by omega)
  have h2 := cl_mod (t := t) (by omega)
  have h3 : ¬ cl t = 0 := fun e => by have := (cl_zero (t := t) (by omega)).1 e; omega
  unfold cl at *
  split at * <;> split at * <;> omega
/-- A header with its sum holds. -/
theorem hdrS_holds (a id : Int) (fl : Bool) (tt pr sr ds : Int) (o : ByteArray) (size : Int) (a0 : 0 ≤ a) (a1 : a ≤ 255) (i0 : 0 ≤ id) (i1 : id ≤ 65535) (t0 : 0 ≤ tt) (t1 : tt ≤ 255) (p0 : 0 ≤ pr) (p1 : pr ≤ 255)
    (s0 : 0 ≤ sr) (s1 : sr ≤ 4294967295) (d0 : 0 ≤ ds) (d1 : ds ≤ 4294967295) (ho : o.size ≤ 40) (z0 : 0 ≤ size) (z1 : size ≤ 65535) : holdsV [hdrS a id fl tt pr sr ds o size] = true := by
  have hb := sumV_bd [hdrB a id fl tt pr sr ds o size 0]
  have hp := hdrB_pos a id fl tt pr sr ds o size a0 a1 i0 i1 t0 t1 p0 p1 s0 s1 d0 d1 ho z0 z1
  have ht := hdrB_tot a id fl tt pr sr ds o size _ a0 a1 i0 i1 t0 t1 p0 p1 s0 s1 d0 d1 ho z0 z1 hb.1 hb.2
  unfold holdsV hdrS
  rw [decide_eq_true_iff, sumV_cl, totTs1, ht, sumV_cl [hdrB a id fl tt pr sr ds o size 0], totTs1, cl_full hp]
  rfl
end Go.Proofs.Ytlcgpjeggelbaaa
