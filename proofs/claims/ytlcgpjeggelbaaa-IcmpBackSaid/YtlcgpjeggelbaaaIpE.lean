/- Plain facts: what is parsed of what was put (layer 4). -/
import Derived.Test.YtlcgpjeggelbaaaIpD
namespace Go.Proofs.Ytlcgpjeggelbaaa
set_option linter.unusedVariables false
set_option linter.unusedSimpArgs false
open Go.ChangeShapes Go.WideShapes Go.ChangeAt Go.RowKit Go.PlainAid
theorem bt_hi (s : ByteArray) (k : Nat) : bt s k = g16 s k / 256 := by
  have := bt_nonneg s (k + 1); have := bt_le s (k + 1); unfold g16; omega
theorem bt_lo (s : ByteArray) (k : Nat) : bt s (k + 1) = g16 s k % 256 := by
  have := bt_nonneg s (k + 1); have := bt_le s (k + 1); unfold g16; omega
theorem g32_two (s : ByteArray) (k : Nat) : g32 s k = g16 s k * 65536 + g16 s (k + 2) := by
  unfold g32 g16; rw [show k + 2 + 1 = k + 3 by omega]; omega
theorem hdrB_word (a id : Int) (fl : Bool) (tt pr sr ds : Int) (o q : ByteArray) (size sum : Int) (i : Nat) (hi : i < 10) (h : ∀ x ∈ hdrW a id fl tt pr sr ds o.size size sum, 0 ≤ x ∧ x ≤ 65535) :
    g16 (hdrB a id fl tt pr sr ds o size sum ++ q) (2 * i) = (hdrW a id fl tt pr sr ds o.size size sum).getD i 0 := by
  have hz : (strOfNums (wordL (hdrW a id fl tt pr sr ds o.size size sum))).size = 20 := by rw [size_W]; rfl
  rw [g16_app_l _ _ _ (by rw [hdrB_size]; omega)]
  unfold hdrB
  rw [g16_app_l _ _ _ (by omega), g16_W _ h]
theorem ext_app_l (a b : ByteArray) : (a ++ b).extract 0 a.size = a := by
  apply ba_ext
  rw [data_extract, data_append, ← len_data a]
  simp
theorem ext_app_r (a b : ByteArray) (i j : Nat) : (a ++ b).extract (a.size + i) (a.size + j) = b.extract i j := by
  apply ba_ext
  rw [data_extract, data_extract, data_append, ← len_data a]
  rw [List.take_length_add_append, List.drop_append]
  simp
theorem ext_all (a : ByteArray) : a.extract 0 a.size = a := by
  apply ba_ext
  rw [data_extract, ← len_data a, List.take_length, List.drop_zero]
/-- What is parsed of a header with its sum, and what stands behind it. -/
theorem parse_put (a id : Int) (fl : Bool) (tt pr sr ds : Int) (o p q : ByteArray) (a0 : 0 ≤ a) (a1 : a ≤ 255) (i0 : 0 ≤ id) (i1 : id ≤ 65535) (t0 : 0 ≤ tt) (t1 : tt ≤ 255) (p0 : 0 ≤ pr) (p1 : pr ≤ 255)
    (s0 : 0 ≤ sr) (s1 : sr ≤ 4294967295) (d0 : 0 ≤ ds) (d1 : ds ≤ 4294967295) (ho : o.size ≤ 40) (h4 : o.size % 4 = 0) (hz : o.size + p.size ≤ 2028) :
    let t := hdrS a id fl tt pr sr ds o (20 + (o.size : Int) + (p.size : Int)) ++ (p ++ q)
    ownN t = 20 + o.size ∧ g16 t 2 = ((20 + o.size + p.size : Nat) : Int) ∧ pR t = 0 ∧ bt t 1 = a ∧ g16 t 4 = id ∧ decide (0 < g16 t 6) = fl ∧ bt t 8 = tt ∧ bt t 9 = pr ∧ g32 t 12 = sr ∧ g32 t 16 = ds ∧
      t.extract 20 (ownN t) = o ∧ t.extract (ownN t) (20 + o.size + p.size) = p := by
  intro t
  obtain ⟨z, hzz⟩ : ∃ z : Int, z = 20 + (o.size : Int) + (p.size : Int) := ⟨_, rfl⟩
  have hsm := sumV_bd [hdrB a id fl tt pr sr ds o z 0]
  obtain ⟨sm, hsmm⟩ : ∃ x, x = sumV [hdrB a id fl tt pr sr ds o z 0] := ⟨_, rfl⟩
  have HS : hdrS a id fl tt pr sr ds o z = hdrB a id fl tt pr sr ds o z sm := by unfold hdrS; rw [hsmm]
  have HH := hdrS_holds a id fl tt pr sr ds o z a0 a1 i0 i1 t0 t1 p0 p1 s0 s1 d0 d1 ho (by omega) (by omega)
  rw [← hsmm] at hsm
  have hwf := hdrW_wf (fl := fl) (n := o.size) a0 a1 i0 i1 t0 t1 p0 p1 s0 s1 d0 d1 ho (size := z) (sum := sm) (by omega) (by omega) hsm.1 hsm.2
  have ht : t = hdrB a id fl tt pr sr ds o z sm ++ (p ++ q) := by rw [← HS, hzz]
  have hts : t.size = 20 + o.size + p.size + q.size := by rw [ht, ByteArray.size_append, hdrB_size, ByteArray.size_append]; omega
  have hx : t.extract 0 (20 + o.size) = hdrS a id fl tt pr sr ds o z := by
    rw [HS, ht]
    have := ext_app_l (hdrB a id fl tt pr sr ds o z sm) (p ++ q)
    rw [hdrB_size] at this
    exact this
  have w : ∀ i, i < 10 → g16 t (2 * i) = (hdrW a id fl tt pr sr ds o.size z sm).getD i 0 := fun i hi => by rw [ht]; exact hdrB_word a id fl tt pr sr ds o _ z sm i hi hwf
  have w0 : g16 t 0 = 256 * (69 + (o.size : Int) / 4) + a := w 0 (by omega)
  have w1 : g16 t 2 = z := w 1 (by omega)
  have w2 : g16 t 4 = id := w 2 (by omega)
  have w3 : g16 t 6 = if fl then 16384 else 0 := w 3 (by omega)
  have w4 : g16 t 8 = 256 * tt + pr := w 4 (by omega)
  have w6 : g16 t 12 = sr / 65536 := w 6 (by omega)
  have w7 : g16 t 14 = sr % 65536 := w 7 (by omega)
  have w8 : g16 t 16 = ds / 65536 := w 8 (by omega)
  have w9 : g16 t 18 = ds % 65536 := w 9 (by omega)
  have v0 : bt t 0 = 69 + (o.size : Int) / 4 := by rw [bt_hi, w0]; omega
  have hown : ownN t = 20 + o.size := by unfold ownN; rw [v0]; omega
  have hopt : t.extract 20 (20 + o.size) = o := by
    rw [ht]
    unfold hdrB
    rw [ByteArray.append_assoc]
    have hz2 : (strOfNums (wordL (hdrW a id fl tt pr sr ds o.size z sm))).size = 20 := by rw [size_W]; rfl
    have := ext_app_r (strOfNums (wordL (hdrW a id fl tt pr sr ds o.size z sm))) (o ++ (p ++ q)) 0 o.size
    rw [hz2, Nat.add_zero, ext_app_l] at this
    exact this
  have hpay : t.extract (20 + o.size) (20 + o.size + p.size) = p := by
    rw [ht]
    have := ext_app_r (hdrB a id fl tt pr sr ds o z sm) (p ++ q) 0 p.size
    rw [hdrB_size, Nat.add_zero, ext_app_l] at this
    exact this
  refine ⟨hown, by rw [w1]; omega, ?_, ?_, w2, ?_, ?_, ?_, ?_, ?_, by rw [hown]; exact hopt, by rw [hown]; exact hpay⟩
  · unfold pR
    rw [if_neg (by omega), if_neg (by rw [v0]; omega), hown, if_neg (by rw [w1]; omega), hx, if_neg (by rw [HH]; simp), if_neg (by rw [w3]; cases fl <;> simp)]
  · rw [show (1 : Nat) = 0 + 1 by rfl, bt_lo, w0]; omega
  · rw [w3]; cases fl <;> simp
  · rw [bt_hi, w4]; omega
  · rw [show (9 : Nat) = 8 + 1 by rfl, bt_lo, w4]; omega
  · rw [g32_two, w6, w7]; omega
  · rw [g32_two, w8, w9]; omega
end Go.Proofs.Ytlcgpjeggelbaaa
