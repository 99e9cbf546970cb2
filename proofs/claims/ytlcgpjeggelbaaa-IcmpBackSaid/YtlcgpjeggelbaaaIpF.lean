/- Plain facts: what is put of what was parsed (layer 4). -/
import Derived.Test.YtlcgpjeggelbaaaIpE
namespace Go.Proofs.Ytlcgpjeggelbaaa
set_option linter.unusedVariables false
set_option linter.unusedSimpArgs false
open Go.ChangeShapes Go.WideShapes Go.ChangeAt Go.RowKit Go.PlainAid
theorem ba_bt {a b : ByteArray} (hz : a.size = b.size) (h : ∀ i, i < a.size → bt a i = bt b i) : a = b := by
  apply ba_ext
  apply List.ext_getElem (by rw [len_data, len_data, hz])
  intro i h1 h2
  have := h i (by rw [← len_data]; exact h1)
  rw [bt_eq, bt_eq, getD_lt _ _ _ h1, getD_lt _ _ _ h2] at this
  exact UInt8.toNat_inj.1 (by omega)
theorem ba_g16 {a b : ByteArray} (k : Nat) (ha : a.size = 2 * k) (hb : b.size = 2 * k) (h : ∀ i, i < k → g16 a (2 * i) = g16 b (2 * i)) : a = b := by
  refine ba_bt (by omega) fun i hi => ?_
  rcases (show i = 2 * (i / 2) ∨ i = 2 * (i / 2) + 1 by omega) with e | e
  · rw [e, bt_hi, bt_hi, h _ (by omega)]
  · rw [e, bt_lo, bt_lo, h _ (by omega)]
theorem bt_ext0 (s : ByteArray) (n i : Nat) (hi : i < n) (hn : n ≤ s.size) : bt (s.extract 0 n) i = bt s i := by
  rw [bt_eq, bt_eq, data_extract, List.drop_zero, getD_lt _ _ _ (by rw [List.length_take, len_data]; omega), getD_lt _ _ _ (by rw [len_data]; omega), List.getElem_take]
theorem g16_ext0 (s : ByteArray) (n i : Nat) (hi : i + 1 < n) (hn : n ≤ s.size) : g16 (s.extract 0 n) i = g16 s i := by
  unfold g16; rw [bt_ext0 s n i (by omega) hn, bt_ext0 s n (i + 1) hi hn]
theorem ext_join (s : ByteArray) (i j k : Nat) (h1 : i ≤ j) (h2 : j ≤ k) : s.extract i j ++ s.extract j k = s.extract i k := by
  apply ba_ext
  rw [data_append, data_extract, data_extract, data_extract]
  rw [show s.data.toList.take j = (s.data.toList.take k).take j by rw [List.take_take, Nat.min_eq_left h2]]
  generalize s.data.toList.take k = l
  conv => rhs; rw [← List.take_append_drop j l, List.drop_append]
  congr 1
  by_cases h : j ≤ l.length
  · rw [List.length_take, Nat.min_eq_left h, show i - j = 0 by omega, List.drop_zero]
  · rw [List.drop_eq_nil_of_le (by omega : l.length ≤ j), List.drop_nil]
theorem bt_ext (s : ByteArray) (a b i : Nat) (hi : i < b - a) (hn : b ≤ s.size) : bt (s.extract a b) i = bt s (a + i) := by
  rw [bt_eq, bt_eq, data_extract, getD_lt _ _ _ (by rw [List.length_drop, List.length_take, len_data]; omega), getD_lt _ _ _ (by rw [len_data]; omega), List.getElem_drop, List.getElem_take]
/-- Two headers that differ in their sums alone. -/
theorem hdrB_sums (a id : Int) (fl : Bool) (tt pr sr ds : Int) (o q : ByteArray) (size x y : Int) (hx : ∀ z ∈ hdrW a id fl tt pr sr ds o.size size x, 0 ≤ z ∧ z ≤ 65535) (hy : ∀ z ∈ hdrW a id fl tt pr sr ds o.size size y, 0 ≤ z ∧ z ≤ 65535)
    (i : Nat) (h0 : ¬ i = 10) (h1 : ¬ i = 11) : bt (hdrB a id fl tt pr sr ds o size x ++ q) i = bt (hdrB a id fl tt pr sr ds o size y ++ q) i := by
  by_cases h : i < 20
  · have key : ∀ k, k < 10 → ¬ k = 5 → g16 (hdrB a id fl tt pr sr ds o size x ++ q) (2 * k) = g16 (hdrB a id fl tt pr sr ds o size y ++ q) (2 * k) := by
      intro k hk h5
      rw [hdrB_word a id fl tt pr sr ds o q size x k hk hx, hdrB_word a id fl tt pr sr ds o q size y k hk hy]
      match k, hk with
      | 0, _ => rfl
      | 1, _ => rfl
      | 2, _ => rfl
      | 3, _ => rfl
      | 4, _ => rfl
      | 5, _ => exact absurd rfl h5
      | 6, _ => rfl
      | 7, _ => rfl
      | 8, _ => rfl
      | 9, _ => rfl
    rcases (show i = 2 * (i / 2) ∨ i = 2 * (i / 2) + 1 by omega) with e | e
    · rw [e, bt_hi, bt_hi, key _ (by omega) (by omega)]
    · rw [e, bt_lo, bt_lo, key _ (by omega) (by omega)]
  · have far : ∀ v, bt (hdrB a id fl tt pr sr ds o size v ++ q) i = bt (o ++ q) (i - 20) := by
      intro v
      have hz : (strOfNums (wordL (hdrW a id fl tt pr sr ds o.size size v))).size = 20 := by rw [size_W]; rfl
      unfold hdrB
      rw [ByteArray.append_assoc]
      have := bt_append_right (strOfNums (wordL (hdrW a id fl tt pr sr ds o.size size v))) (o ++ q) (i - 20)
      rw [hz, show 20 + (i - 20) = i by omega] at this
      exact this
    rw [far, far]
/-- The twenty bytes that a header begins with, of what is parsed. -/
theorem hdr_of (s : ByteArray) (n m : Nat) (fl : Bool) (h0 : 20 ≤ n) (h4 : n % 4 = 0) (h60 : n ≤ 60) (hn : n ≤ s.size) (v0 : bt s 0 = 64 + (n : Int) / 4) (w1 : g16 s 2 = (m : Int)) (w3 : g16 s 6 = if fl then 16384 else 0) :
    hdrB (bt s 1) (g16 s 4) fl (bt s 8) (bt s 9) (g32 s 12) (g32 s 16) (s.extract 20 n) (m : Int) (g16 s 10) = s.extract 0 n := by
  have ho : (s.extract 20 n).size = n - 20 := size_extract' s 20 n h0 hn
  have d := g16_le s; have d0 := g16_nonneg s
  have e := bt_le s; have e0 := bt_nonneg s
  have k12 : g32 s 12 = g16 s 12 * 65536 + g16 s 14 := g32_two s 12
  have k16 : g32 s 16 = g16 s 16 * 65536 + g16 s 18 := g32_two s 16
  have hwf : ∀ x ∈ hdrW (bt s 1) (g16 s 4) fl (bt s 8) (bt s 9) (g32 s 12) (g32 s 16) (s.extract 20 n).size (m : Int) (g16 s 10), 0 ≤ x ∧ x ≤ 65535 := by
    have := d 12; have := d0 12; have := d 14; have := d0 14; have := d 16; have := d0 16; have := d 18; have := d0 18
    have := d 2; have := d0 2
    exact hdrW_wf (e0 1) (e 1) (d0 4) (d 4) (e0 8) (e 8) (e0 9) (e 9) (by omega) (by omega) (by omega) (by omega) (by omega) (by omega) (by omega) (d0 10) (d 10)
  rw [← ext_join s 0 20 n (by omega) h0]
  unfold hdrB
  congr 1
  refine ba_g16 10 (by rw [size_W]; rfl) (size_extract' s 0 20 (by omega) (by omega)) fun i hi => ?_
  rw [g16_W _ hwf, g16_ext0 s 20 _ (by omega) (by omega)]
  rw [ho]
  have q0 := bt_hi s 0; have q1 := bt_lo s 0; have q8 := bt_hi s 8; have q9 := bt_lo s 8
  simp only [Nat.zero_add, Nat.reduceAdd] at q1 q9
  have := d 12; have := d0 12; have := d 14; have := d0 14; have := d 16; have := d0 16; have := d 18; have := d0 18
  match i, hi with
  | 0, _ => show 256 * (69 + ((n - 20 : Nat) : Int) / 4) + bt s 1 = g16 s 0; omega
  | 1, _ => exact w1.symm
  | 2, _ => rfl
  | 3, _ => exact w3.symm
  | 4, _ => show 256 * bt s 8 + bt s 9 = g16 s 8; omega
  | 5, _ => rfl
  | 6, _ => show g32 s 12 / 65536 = g16 s 12; omega
  | 7, _ => show g32 s 12 % 65536 = g16 s 14; omega
  | 8, _ => show g32 s 16 / 65536 = g16 s 16; omega
  | 9, _ => show g32 s 16 % 65536 = g16 s 18; omega
/-- What is put of what was parsed. -/
theorem put_parsed (s : ByteArray) (m : Nat) (h : pR s = 0) (hm : g16 s 2 = (m : Int)) :
    let n := ownN s
    let t := hdrS (bt s 1) (g16 s 4) (decide (0 < g16 s 6)) (bt s 8) (bt s 9) (g32 s 12) (g32 s 16) (s.extract 20 n) (20 + ((s.extract 20 n).size : Int) + ((s.extract n m).size : Int)) ++ s.extract n m
    20 ≤ n ∧ n ≤ m ∧ m ≤ s.size ∧ putE (s.extract 20 n).size (s.extract n m).size = 0 ∧ t.size = m ∧
      (¬ g16 s 10 = 65535 → t = s.extract 0 m) ∧ (g16 s 10 = 65535 → g16 t 10 = 0 ∧ t.extract 0 10 = s.extract 0 10 ∧ t.extract 12 m = s.extract 12 m) := by
  intro n t
  have d := g16_le s; have d0 := g16_nonneg s
  have e := bt_le s; have e0 := bt_nonneg s
  have k12 : g32 s 12 = g16 s 12 * 65536 + g16 s 14 := g32_two s 12
  have k16 : g32 s 16 = g16 s 16 * 65536 + g16 s 18 := g32_two s 16
  have b12 := d 12; have c12 := d0 12; have b14 := d 14; have c14 := d0 14; have b16 := d 16; have c16 := d0 16; have b18 := d 18; have c18 := d0 18
  have hn : n = ownN s := rfl
  have e4 : (bt s 0 % 16) * 4 = (n : Int) := by rw [hn]; unfold ownN; have := e0 0; omega
  unfold pR at h
  by_cases h1 : s.size < 20
  · rw [if_pos h1] at h; omega
  rw [if_neg h1] at h
  by_cases h2 : bt s 0 / 16 = 4
  rotate_left
  · rw [if_pos h2] at h; omega
  rw [if_neg (not_not_intro h2), ← hn] at h
  by_cases h3 : n < 20 ∨ s.size < n ∨ g16 s 2 < (n : Int) ∨ (s.size : Int) < g16 s 2 ∨ 2048 < g16 s 2
  · rw [if_pos h3] at h; omega
  rw [if_neg h3] at h
  by_cases hh : holdsV [s.extract 0 n] = false
  · rw [if_pos hh] at h; omega
  rw [if_neg hh] at h
  by_cases h5 : ¬ g16 s 6 = 0 ∧ ¬ g16 s 6 = 16384
  · rw [if_pos h5] at h; omega
  clear h
  rw [hm] at h3
  have hfl : g16 s 6 = if decide (0 < g16 s 6) = true then 16384 else 0 := by
    by_cases h6 : g16 s 6 = 0
    · rw [h6]; rfl
    · have : g16 s 6 = 16384 := by omega
      rw [this]; rfl
  have n0 : 20 ≤ n := by omega
  have n4 : n % 4 = 0 := by omega
  have n60 : n ≤ 60 := by omega
  have v0 : bt s 0 = 64 + (n : Int) / 4 := by omega
  have zo : (s.extract 20 n).size = n - 20 := size_extract' s 20 n n0 (by omega)
  have zp : (s.extract n m).size = m - n := size_extract' s n m (by omega) (by omega)
  have HO := hdr_of s n m (decide (0 < g16 s 6)) n0 n4 n60 (by omega) v0 hm hfl
  have HT := hdrB_tot (bt s 1) (g16 s 4) (decide (0 < g16 s 6)) (bt s 8) (bt s 9) (g32 s 12) (g32 s 16) (s.extract 20 n) (m : Int) (g16 s 10) (e0 1) (e 1) (d0 4) (d 4) (e0 8) (e 8) (e0 9) (e 9) (by omega) (by omega) (by omega) (by omega) (by omega) (by omega) (by omega) (d0 10) (d 10)
  have HP := hdrB_pos (bt s 1) (g16 s 4) (decide (0 < g16 s 6)) (bt s 8) (bt s 9) (g32 s 12) (g32 s 16) (s.extract 20 n) (m : Int) (e0 1) (e 1) (d0 4) (d 4) (e0 8) (e 8) (e0 9) (e 9) (by omega) (by omega) (by omega) (by omega) (by omega) (by omega) (by omega)
  have hz : 20 + ((s.extract 20 n).size : Int) + ((s.extract n m).size : Int) = (m : Int) := by omega
  have ht : t = hdrB (bt s 1) (g16 s 4) (decide (0 < g16 s 6)) (bt s 8) (bt s 9) (g32 s 12) (g32 s 16) (s.extract 20 n) (m : Int) (sumV [hdrB (bt s 1) (g16 s 4) (decide (0 < g16 s 6)) (bt s 8) (bt s 9) (g32 s 12) (g32 s 16) (s.extract 20 n) (m : Int) 0]) ++ s.extract n m := by
    show hdrS _ _ _ _ _ _ _ _ _ ++ _ = _
    rw [hz]; rfl
  have hsum : sumV [hdrB (bt s 1) (g16 s 4) (decide (0 < g16 s 6)) (bt s 8) (bt s 9) (g32 s 12) (g32 s 16) (s.extract 20 n) (m : Int) 0] = if g16 s 10 = 65535 then 0 else g16 s 10 := by
    have hh2 : sumV [s.extract 0 n] = 0 := by simpa [holdsV] using hh
    rw [sumV_cl, totTs1, ← HO, HT] at hh2
    rw [sumV_cl, totTs1]
    have x := d 10; have x0 := d0 10
    generalize totT (hdrB (bt s 1) (g16 s 4) (decide (0 < g16 s 6)) (bt s 8) (bt s 9) (g32 s 12) (g32 s 16) (s.extract 20 n) (m : Int) 0) = T at *
    generalize g16 s 10 = c at *
    unfold cl at *
    rw [if_neg (by omega)] at hh2 ⊢
    split <;> omega
  refine ⟨n0, by omega, by omega, by unfold putE; rw [zo, zp, if_neg (by omega), if_neg (by omega)], ?_, ?_, ?_⟩
  · rw [ht, ByteArray.size_append, hdrB_size, zo, zp]; omega
  · intro hc
    rw [ht, hsum, if_neg hc, HO]
    exact ext_join s 0 n m (by omega) (by omega)
  · intro hc
    have W : ∀ v : Int, 0 ≤ v → v ≤ 65535 → ∀ z ∈ hdrW (bt s 1) (g16 s 4) (decide (0 < g16 s 6)) (bt s 8) (bt s 9) (g32 s 12) (g32 s 16) (s.extract 20 n).size (m : Int) v, 0 ≤ z ∧ z ≤ 65535 := fun v v0 v1 =>
      hdrW_wf (e0 1) (e 1) (d0 4) (d 4) (e0 8) (e 8) (e0 9) (e 9) (by omega) (by omega) (by omega) (by omega) (by omega) (by omega) (by omega) v0 v1
    rw [hsum, if_pos hc] at ht
    have hb : ∀ i, i < m → ¬ i = 10 → ¬ i = 11 → bt t i = bt s i := by
      intro i hi g0 g1
      rw [ht, hdrB_sums _ _ _ _ _ _ _ _ _ _ 0 (g16 s 10) (W 0 (by omega) (by omega)) (W _ (d0 10) (d 10)) i g0 g1, HO, ext_join s 0 n m (by omega) (by omega), bt_ext0 s m i hi (by omega)]
    have zt : t.size = m := by rw [ht, ByteArray.size_append, hdrB_size, zo, zp]; omega
    refine ⟨?_, ?_, ?_⟩
    · rw [ht, show (10 : Nat) = 2 * 5 by rfl, hdrB_word _ _ _ _ _ _ _ _ _ _ 0 5 (by omega) (W 0 (by omega) (by omega))]
      rfl
    · refine ba_bt (by rw [size_extract' t 0 10 (by omega) (by omega), size_extract' s 0 10 (by omega) (by omega)]) fun i hi => ?_
      rw [size_extract' t 0 10 (by omega) (by omega)] at hi
      rw [bt_ext t 0 10 i hi (by omega), bt_ext s 0 10 i hi (by omega), hb _ (by omega) (by omega) (by omega)]
    · refine ba_bt (by rw [size_extract' t 12 m (by omega) (by omega), size_extract' s 12 m (by omega) (by omega)]) fun i hi => ?_
      rw [size_extract' t 12 m (by omega) (by omega)] at hi
      rw [bt_ext t 12 m i hi (by omega), bt_ext s 12 m i hi (by omega), hb _ (by omega) (by omega) (by omega)]
end Go.Proofs.Ytlcgpjeggelbaaa
