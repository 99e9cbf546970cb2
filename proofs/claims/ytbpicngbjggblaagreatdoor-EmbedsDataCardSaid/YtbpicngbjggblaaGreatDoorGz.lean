/- Texts of this proof, together: EmbP, EmbQ, EmbR. -/
import Derived.Test.YtbpicngbjggblaaGreatDoorGs
namespace Go.Proofs.YtbpicngbjggblaaGreatDoor
set_option linter.unusedVariables false
set_option linter.unusedSimpArgs false
open Go.ChangeShapes Go.WideShapes Go.ChangeAt Go.RowKit Go.PlainAid
/-- Why Data is about nothing; the ports that are told; the inner bytes. -/
def lkR (D : ByteArray) : Int :=
  if D.size < 20 ∨ ¬ bt D 0 / 16 = 4 then 15 else if ownN D < 20 ∨ D.size < ownN D + 8 ∨ ¬ g16 D 6 % 8192 = 0 then 15
  else if bt D 9 = 6 ∨ bt D 9 = 17 then 0 else if ¬ bt D 9 = 1 then 6 else if qIs (bt D (ownN D)) (bt D (ownN D + 1)) = true then 0 else 15
def inAsk (D : ByteArray) : Bool := qAsk (bt D (ownN D)) (bt D (ownN D + 1))
def inM (D : ByteArray) : Int := if bt D 9 = 1 then (if inAsk D = true then g16 D (ownN D + 4) else 0) else g16 D (ownN D)
def inN (D : ByteArray) : Int := if bt D 9 = 1 then (if inAsk D = true then 0 else g16 D (ownN D + 4)) else g16 D (ownN D + 2)
def inL (D : ByteArray) : ByteArray := D.extract (ownN D) D.size
/-- The inner bytes, the inner header, the Data, translated. -/
def emL (pr : Int) (ask : Bool) (L : ByteArray) (oa ob a m b n : Int) : ByteArray :=
  if pr = 17 then ptC L 6 m n (uSum L oa ob a m b n) else if pr = 6 then (if 18 ≤ L.size then ptC L 16 m n (pSum L 16 oa ob a m b n) else withB L 0 (strOfNums (wordL [m, n]))) else icC L (if ask = true then m else n)
def emS (D : ByteArray) (a b : Int) : Int := updL (g16 D 10) (adL (g32 D 12) (g32 D 16) a b)
def emH (D : ByteArray) (a b : Int) : ByteArray := withB (withB (D.extract 0 (ownN D)) 12 (strOfNums (wordL (adW a b)))) 10 (strOfNums (wordL [emS D a b]))
def emD (D : ByteArray) (a m b n : Int) : ByteArray := emH D a b ++ emL (bt D 9) (inAsk D) (inL D) (g32 D 12) (g32 D 16) a m b n
theorem lk_zero {D : ByteArray} (h : lkR D = 0) : 20 ≤ D.size ∧ bt D 0 / 16 = 4 ∧ 20 ≤ ownN D ∧ ownN D + 8 ≤ D.size ∧ g16 D 6 % 8192 = 0 ∧ (bt D 9 = 6 ∨ bt D 9 = 17 ∨ (bt D 9 = 1 ∧ qIs (bt D (ownN D)) (bt D (ownN D + 1)) = true)) := by
  unfold lkR at h
  split at h
  · omega
  · split at h
    · omega
    · split at h
      · next h1 h2 h3 => exact ⟨by omega, by omega, by omega, by omega, by omega, h3.elim .inl (fun k => .inr (.inl k))⟩
      · split at h
        · omega
        · split at h
          · next h1 h2 h3 h4 h5 => exact ⟨by omega, by omega, by omega, by omega, by omega, .inr (.inr ⟨by omega, h5⟩)⟩
          · omega
theorem lk_is {D : ByteArray} (h0 : 20 ≤ D.size) (h1 : bt D 0 / 16 = 4) (h2 : 20 ≤ ownN D) (h3 : ownN D + 8 ≤ D.size) (h4 : g16 D 6 % 8192 = 0) (h5 : bt D 9 = 6 ∨ bt D 9 = 17 ∨ (bt D 9 = 1 ∧ qIs (bt D (ownN D)) (bt D (ownN D + 1)) = true)) : lkR D = 0 := by
  unfold lkR
  rw [if_neg (by omega), if_neg (by omega)]
  rcases h5 with h | h | ⟨h, k⟩
  · rw [if_pos (.inl h)]
  · rw [if_pos (.inr h)]
  · rw [if_neg (by omega), if_neg (by omega), if_pos k]
/-- The inner bytes' words. -/
theorem inL_size {D : ByteArray} (h : ownN D ≤ D.size) : (inL D).size = D.size - ownN D := size_extract' D _ _ h (Nat.le_refl _)
theorem inL_bt (D : ByteArray) (y : Nat) : bt (inL D) y = bt D (ownN D + y) := by
  unfold inL
  by_cases c : ownN D + y < D.size
  · rw [bt_ext D _ _ _ (by omega) (Nat.le_refl _)]
  · rw [bt_out D _ (by omega)]
    by_cases d : ownN D ≤ D.size
    · rw [bt_out _ _ (by rw [size_extract' D _ _ d (Nat.le_refl _)]; omega)]
    · have z : (D.extract (ownN D) D.size).size = 0 := by rw [ByteArray.size_extract]; omega
      rw [bt_out _ _ (by omega)]
theorem inL_g16 (D : ByteArray) (y : Nat) : g16 (inL D) y = g16 D (ownN D + y) := by
  unfold g16
  rw [inL_bt, inL_bt, Nat.add_assoc]
theorem withB_W0 {L : ByteArray} {m n : Int} (h : 4 ≤ L.size) (m0 : 0 ≤ m) (m1 : m ≤ 65535) (n0 : 0 ≤ n) (n1 : n ≤ 65535) (j : Nat) : g16 (withB L 0 (strOfNums (wordL [m, n]))) (2 * j) = if j = 0 then m else if j = 1 then n else g16 L (2 * j) := by
  have k1 := g16_with L [m, n] 0 j (two_wf m0 m1 n0 n1) (by simp only [List.length_cons, List.length_nil]; omega)
  rw [show 2 * 0 = 0 by rfl] at k1
  rw [k1]
  by_cases c0 : j = 0
  · subst c0; rw [if_pos (by simp), if_pos rfl]; simp
  · by_cases c1 : j = 1
    · subst c1; rw [if_pos (by simp), if_neg (by omega), if_pos rfl]; simp
    · rw [if_neg (by simp only [List.length_cons, List.length_nil]; omega), if_neg c0, if_neg c1]
/-- Its words. -/
theorem emL_17 {L : ByteArray} {ask : Bool} {oa ob a m b n : Int} (h : 8 ≤ L.size) (ho : okC oa 0 ob 0) (hc : okC a m b n) : (emL 17 ask L oa ob a m b n).size = L.size ∧ ∀ j, g16 (emL 17 ask L oa ob a m b n) (2 * j) = if j = 3 then uSum L oa ob a m b n else if j = 0 then m else if j = 1 then n else g16 L (2 * j) := by
  have bd := uSum_bd (L := L) ho hc
  obtain ⟨h0, h1, h2, h3, h4, h5, h6, h7⟩ := hc
  unfold emL
  rw [if_pos rfl]
  exact ⟨ptC_size (q := 3) (by omega) (by omega), fun j => ptC_word (q := 3) (by omega) (by omega) h2 h3 h6 h7 bd.1 bd.2 j⟩
theorem emL_6 {L : ByteArray} {ask : Bool} {oa ob a m b n : Int} (h : 18 ≤ L.size) (ho : okC oa 0 ob 0) (hc : okC a m b n) : (emL 6 ask L oa ob a m b n).size = L.size ∧ ∀ j, g16 (emL 6 ask L oa ob a m b n) (2 * j) = if j = 8 then pSum L 16 oa ob a m b n else if j = 0 then m else if j = 1 then n else g16 L (2 * j) := by
  have bd := pSum_bd (L := L) (k := 16) ho hc
  obtain ⟨h0, h1, h2, h3, h4, h5, h6, h7⟩ := hc
  unfold emL
  rw [if_neg (by omega), if_pos rfl, if_pos h]
  exact ⟨ptC_size (q := 8) (by omega) (by omega), fun j => ptC_word (q := 8) (by omega) (by omega) h2 h3 h6 h7 bd.1 bd.2 j⟩
theorem emL_6s {L : ByteArray} {ask : Bool} {oa ob a m b n : Int} (h4 : 4 ≤ L.size) (h : L.size < 18) (hc : okC a m b n) : (emL 6 ask L oa ob a m b n).size = L.size ∧ ∀ j, g16 (emL 6 ask L oa ob a m b n) (2 * j) = if j = 0 then m else if j = 1 then n else g16 L (2 * j) := by
  obtain ⟨h0, h1, h2, h3, _, h5, h6, h7⟩ := hc
  unfold emL
  rw [if_neg (by omega), if_pos rfl, if_neg (by omega)]
  exact ⟨size_withW L [m, n] 0 (by simp only [List.length_cons, List.length_nil]; omega), fun j => withB_W0 h4 h2 h3 h6 h7 j⟩
theorem emL_1 {L : ByteArray} {ask : Bool} {oa ob a m b n : Int} (h : 8 ≤ L.size) (hc : okC a m b n) : (emL 1 ask L oa ob a m b n).size = L.size ∧ ∀ j, g16 (emL 1 ask L oa ob a m b n) (2 * j) = if j = 1 then updW (g16 L 2) (g16 L 4) (if ask = true then m else n) else if j = 2 then (if ask = true then m else n) else g16 L (2 * j) := by
  obtain ⟨h0, h1, h2, h3, h4, h5, h6, h7⟩ := hc
  unfold emL
  rw [if_neg (by omega), if_neg (by omega)]
  exact ⟨icC_size h, fun j => icC_word h (by split <;> omega) (by split <;> omega) j⟩
/-- A sum that goes along with two texts. -/
theorem updWs_mod10 (n : Int) (f t : ByteArray) : ∀ i, (updWs n f t i + tot t i) % 65535 = (n + tot f i) % 65535
  | 0 => by simp [updWs, tot]
  | i + 1 => by
    have k := updWs_mod10 n f t i
    have m := updW_mod (n := updWs n f t i) (f := g16 f (2 * i)) (t := g16 t (2 * i))
    show (updW (updWs n f t i) (g16 f (2 * i)) (g16 t (2 * i)) + (tot t i + g16 t (2 * i))) % 65535 = (n + (tot f i + g16 f (2 * i))) % 65535
    omega
theorem updV_mod10 {n : Int} {f t : ByteArray} (hz : f.size = t.size) (h2 : f.size % 2 = 0) : (updV n f t + totT t) % 65535 = (n + totT f) % 65535 := by
  unfold updV
  rw [if_neg (by omega)]
  have e1 : totT f = tot f (f.size / 2) := by unfold totT half; rw [show (f.size + 1) / 2 = f.size / 2 by omega]
  have e2 : totT t = tot t (f.size / 2) := by unfold totT half; rw [show (t.size + 1) / 2 = f.size / 2 by omega]
  rw [e1, e2]
  exact updWs_mod10 n f t _
theorem adL_ok {oa ob a b : Int} (ho : okC oa 0 ob 0) (hc : okC a 0 b 0) : okL (adL oa ob a b) := by
  obtain ⟨o0, o1, _, _, o4, o5, _, _⟩ := ho
  obtain ⟨h0, h1, _, _, h4, h5, _, _⟩ := hc
  intro x hx
  simp only [adL, List.mem_cons, List.not_mem_nil, or_false] at hx
  rcases hx with rfl | rfl | rfl | rfl <;> (simp only; omega)
theorem emS_bd {D : ByteArray} {a b : Int} (hc : okC a 0 b 0) : 0 ≤ emS D a b ∧ emS D a b ≤ 65535 := updL_bd _ _ (adL_ok (okC_of D) hc) (g16_nonneg _ _) (g16_le _ _)
theorem emS_mod (D : ByteArray) (a b : Int) : (emS D a b + (a / 65536 + a % 65536 + b / 65536 + b % 65536)) % 65535 = (g16 D 10 + (g16 D 12 + g16 D 14 + g16 D 16 + g16 D 18)) % 65535 := by
  have h := updL_mod (adL (g32 D 12) (g32 D 16) a b) (g16 D 10)
  have l1 := g16_nonneg D (12 + 2); have l2 := g16_le D (12 + 2)
  have m1 := g16_nonneg D (16 + 2); have m2 := g16_le D (16 + 2)
  have e1 : sumT (adL (g32 D 12) (g32 D 16) a b) = a / 65536 + a % 65536 + b / 65536 + b % 65536 := by simp [sumT, adL]; omega
  have e2 : sumF (adL (g32 D 12) (g32 D 16) a b) = g16 D 12 + g16 D (12 + 2) + g16 D 16 + g16 D (16 + 2) := by
    simp only [sumF, adL, List.map_cons, List.map_nil, List.sum_cons, List.sum_nil]
    rw [g32_two, g32_two]
    omega
  rw [e1, e2] at h
  have e3 : g16 D (12 + 2) = g16 D 14 := rfl
  have e4 : g16 D (16 + 2) = g16 D 18 := rfl
  rw [e3, e4] at h
  have e0 : emS D a b = updL (g16 D 10) (adL (g32 D 12) (g32 D 16) a b) := rfl
  rw [e0]
  clear e0 e1 e2 e3 e4 l1 l2 m1 m2
  omega
theorem emH_size {D : ByteArray} {a b : Int} (h : 20 ≤ ownN D) (h2 : ownN D ≤ D.size) : (emH D a b).size = ownN D := by
  have zo := size_extract' D 0 (ownN D) (Nat.zero_le _) h2
  have e1 : (withB (D.extract 0 (ownN D)) 12 (strOfNums (wordL (adW a b)))).size = ownN D := by rw [size_withW _ _ _ (by rw [zo]; show 12 + 2 * 4 ≤ _; omega), zo]; omega
  unfold emH
  rw [size_withW _ _ _ (by rw [e1]; show 10 + 2 * 1 ≤ _; omega), e1]
theorem emH_word {D : ByteArray} {a b : Int} (h : 20 ≤ ownN D) (h2 : ownN D ≤ D.size) (hc : okC a 0 b 0) (j : Nat) (hj : 2 * j + 1 < ownN D) :
    g16 (emH D a b) (2 * j) = if j = 5 then emS D a b else if 6 ≤ j ∧ j < 10 then (adW a b).getD (j - 6) 0 else g16 D (2 * j) := by
  have bd := emS_bd (D := D) hc
  have zo := size_extract' D 0 (ownN D) (Nat.zero_le _) h2
  have e1 : (withB (D.extract 0 (ownN D)) 12 (strOfNums (wordL (adW a b)))).size = ownN D := by rw [size_withW _ _ _ (by rw [zo]; show 12 + 2 * 4 ≤ _; omega), zo]; omega
  have k2 : g16 (withB (D.extract 0 (ownN D)) 12 (strOfNums (wordL (adW a b)))) (2 * j) = _ := g16_with _ (adW a b) 6 j (adW_wf hc) (by rw [zo]; show 2 * 6 + 2 * 4 ≤ _; omega)
  have k3 : g16 (emH D a b) (2 * j) = _ := g16_with _ [emS D a b] 5 j (one_wf bd.1 bd.2) (by rw [e1]; show 2 * 5 + 2 * 1 ≤ _; omega)
  rw [k3, k2, g16_ext0 D _ _ hj h2]
  have l1 : [emS D a b].length = 1 := rfl
  have l4 : (adW a b).length = 4 := rfl
  rw [l1, l4]
  by_cases c5 : j = 5
  · subst c5; rw [if_pos (by omega), if_pos rfl]; simp
  rw [if_neg (by omega), if_neg c5]
theorem tot_le (x : ByteArray) (k : Nat) : ∀ i, tot x k ≤ tot x (k + i)
  | 0 => Int.le_refl _
  | i + 1 => by
    have := tot_le x k i
    have := g16_nonneg x (2 * (k + i))
    show _ ≤ tot x (k + i) + g16 x (2 * (k + i))
    omega
theorem totT_ge (x : ByteArray) (k : Nat) (h : 2 * k ≤ x.size) : tot x k ≤ totT x := by
  unfold totT half
  have := tot_le x k ((x.size + 1) / 2 - k)
  rw [show k + ((x.size + 1) / 2 - k) = (x.size + 1) / 2 by omega] at this
  exact this
theorem g16_out (x : ByteArray) (k : Nat) (h : x.size ≤ k) : g16 x k = 0 := by unfold g16; rw [bt_out x k h, bt_out x (k + 1) (by omega)]; rfl
theorem emH_holds {D : ByteArray} {a b : Int} (h1 : bt D 0 / 16 = 4) (h : 20 ≤ ownN D) (h2 : ownN D ≤ D.size) (hc : okC a 0 b 0) : holdsV [emH D a b] = holdsV [D.extract 0 (ownN D)] := by
  have zH := emH_size (a := a) (b := b) h h2
  have zo := size_extract' D 0 (ownN D) (Nat.zero_le _) h2
  have o4 := ownN_four D
  have W := fun j hj => emH_word h h2 hc j hj
  have G : ∀ j, 2 * j + 1 < ownN D → g16 (D.extract 0 (ownN D)) (2 * j) = g16 D (2 * j) := fun j hj => g16_ext0 D _ _ hj h2
  have T := totT_same (emH D a b) (D.extract 0 (ownN D)) (by omega) 10 (by omega) (fun j hj => by
    by_cases c : 2 * j < ownN D
    · rw [W j (by omega), G j (by omega), if_neg (by omega), if_neg (by omega)]
    · rw [g16_out _ _ (by omega), g16_out _ _ (by omega)])
  have L1 := totT_ge (emH D a b) 10 (by omega)
  have L2 := totT_ge (D.extract 0 (ownN D)) 10 (by omega)
  have md := emS_mod D a b
  have bd := emS_bd (D := D) hc
  have w0 : g16 (emH D a b) 0 = g16 D 0 := (W 0 (by omega)).trans (by simp)
  have w1 : g16 (emH D a b) 2 = g16 D 2 := (W 1 (by omega)).trans (by simp)
  have w2 : g16 (emH D a b) 4 = g16 D 4 := (W 2 (by omega)).trans (by simp)
  have w3 : g16 (emH D a b) 6 = g16 D 6 := (W 3 (by omega)).trans (by simp)
  have w4 : g16 (emH D a b) 8 = g16 D 8 := (W 4 (by omega)).trans (by simp)
  have w5 : g16 (emH D a b) 10 = emS D a b := (W 5 (by omega)).trans (by simp)
  have w6 : g16 (emH D a b) 12 = a / 65536 := (W 6 (by omega)).trans (by simp [adW])
  have w7 : g16 (emH D a b) 14 = a % 65536 := (W 7 (by omega)).trans (by simp [adW])
  have w8 : g16 (emH D a b) 16 = b / 65536 := (W 8 (by omega)).trans (by simp [adW])
  have w9 : g16 (emH D a b) 18 = b % 65536 := (W 9 (by omega)).trans (by simp [adW])
  have v0 : g16 (D.extract 0 (ownN D)) 0 = g16 D 0 := G 0 (by omega)
  have v1 : g16 (D.extract 0 (ownN D)) 2 = g16 D 2 := G 1 (by omega)
  have v2 : g16 (D.extract 0 (ownN D)) 4 = g16 D 4 := G 2 (by omega)
  have v3 : g16 (D.extract 0 (ownN D)) 6 = g16 D 6 := G 3 (by omega)
  have v4 : g16 (D.extract 0 (ownN D)) 8 = g16 D 8 := G 4 (by omega)
  have v5 : g16 (D.extract 0 (ownN D)) 10 = g16 D 10 := G 5 (by omega)
  have v6 : g16 (D.extract 0 (ownN D)) 12 = g16 D 12 := G 6 (by omega)
  have v7 : g16 (D.extract 0 (ownN D)) 14 = g16 D 14 := G 7 (by omega)
  have v8 : g16 (D.extract 0 (ownN D)) 16 = g16 D 16 := G 8 (by omega)
  have v9 : g16 (D.extract 0 (ownN D)) 18 = g16 D 18 := G 9 (by omega)
  rw [tot10, tot10, w0, w1, w2, w3, w4, w5, w6, w7, w8, w9, v0, v1, v2, v3, v4, v5, v6, v7, v8, v9] at T
  rw [tot10, w0, w1, w2, w3, w4, w5, w6, w7, w8, w9] at L1
  rw [tot10, v0, v1, v2, v3, v4, v5, v6, v7, v8, v9] at L2
  have g0 : 16384 ≤ g16 D 0 := by have := bt_nonneg D (0 + 1); unfold g16; omega
  have g := fun k => g16_nonneg D k
  have g2 := g 2; have g4 := g 4; have g6 := g 6; have g8 := g 8; have g10 := g 10; have g12 := g 12; have g14 := g 14; have g16_ := g 16; have g18 := g 18
  obtain ⟨q0, q1, _, _, q4, q5, _⟩ := hc
  rw [holds1, holds1]
  clear W G g w0 w1 w2 w3 w4 w5 w6 w7 w8 w9 v0 v1 v2 v3 v4 v5 v6 v7 v8 v9 zH zo
  generalize totT (emH D a b) = X at *
  generalize totT (D.extract 0 (ownN D)) = Y at *
  have e : (X ≠ 0 ∧ X % 65535 = 0) ↔ (Y ≠ 0 ∧ Y % 65535 = 0) := by omega
  rw [decide_eq_decide.2 e]
theorem emL_size {D : ByteArray} (h : lkR D = 0) {oa ob a m b n : Int} (ho : okC oa 0 ob 0) (hc : okC a m b n) : (emL (bt D 9) (inAsk D) (inL D) oa ob a m b n).size = (inL D).size := by
  obtain ⟨h0, h1, h2, h3, h4, h5⟩ := lk_zero h
  have z := inL_size (D := D) (by omega)
  rcases h5 with k | k | ⟨k, q⟩
  · rw [k]
    by_cases c : 18 ≤ (inL D).size
    · exact (emL_6 c ho hc).1
    · exact (emL_6s (by omega) (by omega) hc).1
  · rw [k]; exact (emL_17 (by omega) ho hc).1
  · rw [k]; exact (emL_1 (by omega) hc).1
structure EmF (D X : ByteArray) (a m b n : Int) : Prop where
  size : X.size = D.size
  own : ownN X = ownN D
  own4 : ownN D % 4 = 0
  b9 : bt X 9 = bt D 9
  look : lkR X = 0
  a12 : g32 X 12 = a
  a16 : g32 X 16 = b
  wlow : ∀ j, j < 5 → g16 X (2 * j) = g16 D (2 * j)
  whigh : ∀ j, 10 ≤ j → 2 * j < ownN D → g16 X (2 * j) = g16 D (2 * j)
  load : inL X = emL (bt D 9) (inAsk D) (inL D) (g32 D 12) (g32 D 16) a m b n
  ask : bt D 9 = 1 → inAsk X = inAsk D
  inm : inM X = if bt D 9 = 1 then (if inAsk D = true then m else 0) else m
  inn : inN X = if bt D 9 = 1 then (if inAsk D = true then 0 else n) else n
  holds : holdsV [X.extract 0 (ownN D)] = holdsV [D.extract 0 (ownN D)]
theorem em_facts {D : ByteArray} (h : lkR D = 0) {a m b n : Int} (hc : okC a m b n) : EmF D (emD D a m b n) a m b n := by
  obtain ⟨h0, h1, h2, h3, h4, h5⟩ := lk_zero h
  have o4 := ownN_four D
  have ho := okC_of D
  have hcd := okC_ad hc
  have zH := emH_size (D := D) (a := a) (b := b) h2 (by omega)
  have W := fun j hj => emH_word (D := D) h2 (by omega) hcd j hj
  have zL := inL_size (D := D) (by omega)
  have zE := emL_size h ho hc
  have e : emD D a m b n = emH D a b ++ emL (bt D 9) (inAsk D) (inL D) (g32 D 12) (g32 D 16) a m b n := rfl
  -- the first words of the inner bytes
  have f0 : bt D 9 = 1 → g16 (emL (bt D 9) (inAsk D) (inL D) (g32 D 12) (g32 D 16) a m b n) 0 = g16 (inL D) 0 ∧ g16 (emL (bt D 9) (inAsk D) (inL D) (g32 D 12) (g32 D 16) a m b n) 4 = (if inAsk D = true then m else n) := by
    intro k
    rw [k]
    have E := (emL_1 (L := inL D) (ask := inAsk D) (oa := g32 D 12) (ob := g32 D 16) (by omega) hc).2
    exact ⟨(E 0).trans (by simp), (E 2).trans (by simp)⟩
  have f1 : ¬ bt D 9 = 1 → g16 (emL (bt D 9) (inAsk D) (inL D) (g32 D 12) (g32 D 16) a m b n) 0 = m ∧ g16 (emL (bt D 9) (inAsk D) (inL D) (g32 D 12) (g32 D 16) a m b n) 2 = n := by
    intro k
    rcases h5 with k6 | k17 | ⟨k1, _⟩
    · rw [k6]
      by_cases c : 18 ≤ (inL D).size
      · have E := (emL_6 (ask := inAsk D) c ho hc).2
        exact ⟨(E 0).trans (by simp), (E 1).trans (by simp)⟩
      · have E := (emL_6s (L := inL D) (ask := inAsk D) (oa := g32 D 12) (ob := g32 D 16) (by omega) (by omega) hc).2
        exact ⟨(E 0).trans (by simp), (E 1).trans (by simp)⟩
    · rw [k17]
      have E := (emL_17 (L := inL D) (ask := inAsk D) (by omega) ho hc).2
      exact ⟨(E 0).trans (by simp), (E 1).trans (by simp)⟩
    · exact absurd k1 k
  obtain ⟨Y, hY⟩ : ∃ Y, emL (bt D 9) (inAsk D) (inL D) (g32 D 12) (g32 D 16) a m b n = Y := ⟨_, rfl⟩
  obtain ⟨X, hX⟩ : ∃ X, emH D a b = X := ⟨_, rfl⟩
  rw [hX, hY] at e
  rw [hX] at zH W
  rw [hY] at zE f0 f1
  rw [e]
  have zt : (X ++ Y).size = D.size := by rw [ByteArray.size_append]; omega
  have gl : ∀ i, i + 1 < ownN D → g16 (X ++ Y) i = g16 X i := fun i hi => g16_app_l X Y i (by omega)
  have low : ∀ j, j < 5 → g16 (X ++ Y) (2 * j) = g16 D (2 * j) := by
    intro j hj
    rw [gl _ (by omega), W j (by omega), if_neg (by omega), if_neg (by omega)]
  have d0 := (bt_w0 0 (low 0 (by omega))).1
  have d9 : bt (X ++ Y) 9 = bt D 9 := (bt_w0 8 (low 4 (by omega))).2
  have ow : ownN (X ++ Y) = ownN D := by unfold ownN; rw [d0]
  have ld : inL (X ++ Y) = Y := by
    unfold inL
    rw [ow, zt]
    have k := ext_app_r X Y 0 Y.size
    rw [zH, Nat.add_zero, ext_all, show ownN D + Y.size = D.size by omega] at k
    exact k
  have gq : ∀ y, g16 (X ++ Y) (ownN D + y) = g16 Y y := by
    intro y
    have k := inL_g16 (X ++ Y) y
    rw [ld, ow] at k
    exact k.symm
  have hh : (X ++ Y).extract 0 (ownN D) = X := by rw [← zH]; exact ext_app_l X Y
  have bq : bt D 9 = 1 → bt (X ++ Y) (ownN D) = bt D (ownN D) ∧ bt (X ++ Y) (ownN D + 1) = bt D (ownN D + 1) := by
    intro k
    have k0 : g16 (X ++ Y) (ownN D) = g16 D (ownN D) := by
      have g := gq 0
      rw [Nat.add_zero, (f0 k).1, inL_g16, Nat.add_zero] at g
      exact g
    exact bt_w0 _ k0
  have ak : bt D 9 = 1 → inAsk (X ++ Y) = inAsk D := by
    intro k
    unfold inAsk
    rw [ow, (bq k).1, (bq k).2]
  refine ⟨zt, ow, o4, d9, ?_, ?_, ?_, low, ?_, by rw [ld, hY], ?_, ?_, ?_, ?_⟩
  · refine lk_is (by omega) (by rw [d0]; exact h1) (by omega) (by omega) (by rw [show (6 : Nat) = 2 * 3 by rfl, low 3 (by omega)]; exact h4) ?_
    rw [d9, ow]
    rcases h5 with k | k | ⟨k, q⟩
    · exact .inl k
    · exact .inr (.inl k)
    · exact .inr (.inr ⟨k, by rw [(bq k).1, (bq k).2]; exact q⟩)
  · obtain ⟨q0, q1, _⟩ := hc
    have w6 : g16 (X ++ Y) 12 = a / 65536 := (gl 12 (by omega)).trans ((W 6 (by omega)).trans (by simp [adW]))
    have w7 : g16 (X ++ Y) (12 + 2) = a % 65536 := (gl (12 + 2) (by omega)).trans ((W 7 (by omega)).trans (by simp [adW]))
    rw [g32_two, w6, w7]; omega
  · obtain ⟨q0, q1, _, _, q4, q5, _⟩ := hc
    have w8 : g16 (X ++ Y) 16 = b / 65536 := (gl 16 (by omega)).trans ((W 8 (by omega)).trans (by simp [adW]))
    have w9 : g16 (X ++ Y) (16 + 2) = b % 65536 := (gl (16 + 2) (by omega)).trans ((W 9 (by omega)).trans (by simp [adW]))
    rw [g32_two, w8, w9]; omega
  · intro j hj hjo
    rw [gl _ (by omega), W j (by omega), if_neg (by omega), if_neg (by omega)]
  · exact ak
  · unfold inM
    rw [d9, ow]
    by_cases k : bt D 9 = 1
    · rw [if_pos k, if_pos k, ak k, gq 4, (f0 k).2]
      cases inAsk D <;> simp
    · rw [if_neg k, if_neg k]
      have g := gq 0
      rw [Nat.add_zero, (f1 k).1] at g
      exact g
  · unfold inN
    rw [d9, ow]
    by_cases k : bt D 9 = 1
    · rw [if_pos k, if_pos k, ak k, gq 4, (f0 k).2]
      cases inAsk D <;> simp
    · rw [if_neg k, if_neg k, gq 2, (f1 k).2]
  · rw [hh, ← hX]
    exact emH_holds h1 h2 (by omega) hcd
def eD (s : ByteArray) : ByteArray := mD (pP s)
def inR (s : ByteArray) : Int := if seenR s = 0 then (if oK (bt s 9) (pP s) = 3 then lkR (eD s) else 15) else seenR s
def trR (s : ByteArray) : Int := if inR s = 0 then (if bt s 8 < 2 then 8 else 0) else inR s
def evB (D : ByteArray) : ByteArray := D.extract 0 (2 * (D.size / 2))
def msV (s D : ByteArray) : Int := updV (g16 (pP s) 2) (evB (eD s)) (evB D)
def trB (s : ByteArray) (a m b n c k d l : Int) : ByteArray := if trR s = 0 then withB (withB (rwB s a m b n) (ownN s + 2) (strOfNums (wordL [msV s (emD (eD s) c k d l)]))) (ownN s + 8) (emD (eD s) c k d l) else ⟨#[]⟩
theorem in_zero {s : ByteArray} (h : inR s = 0) : seenR s = 0 ∧ oK (bt s 9) (pP s) = 3 ∧ lkR (eD s) = 0 := by
  unfold inR at h
  split at h
  · next h1 =>
    split at h
    · next h2 => exact ⟨h1, h2, h⟩
    · omega
  · omega
theorem tr_zero {s : ByteArray} (h : trR s = 0) : inR s = 0 ∧ 2 ≤ bt s 8 := by
  unfold trR at h
  split at h
  · next h1 =>
    split at h
    · omega
    · exact ⟨h1, by omega⟩
  · omega
theorem err_kind {s : ByteArray} (hs : seenR s = 0) (h : oK (bt s 9) (pP s) = 3) : bt s 9 = 1 ∧ mOk (pP s) = true ∧ qIs (bt (pP s) 0) (bt (pP s) 1) = false ∧ erM (bt (pP s) 0) = true := by
  obtain ⟨hp, ho⟩ := seen_ip hs
  rcases oR_cases ho with ⟨k, t1⟩ | ⟨k, t1⟩ | ⟨k, t1, q⟩
  · rw [k] at h; unfold oK at h; rw [if_neg (by omega : ¬ (6 : Int) = 1)] at h; split at h <;> omega
  · rw [k] at h; unfold oK at h; rw [if_neg (by omega : ¬ (17 : Int) = 1)] at h; split at h <;> omega
  · rw [k] at h
    unfold oK at h
    rw [if_pos rfl] at h
    cases hq : qIs (bt (pP s) 0) (bt (pP s) 1) with
    | true => rw [hq, if_pos rfl] at h; omega
    | false => rw [hq, Bool.false_or] at q; exact ⟨k, t1, rfl, q⟩
theorem eD_is {s : ByteArray} (h : mOk (pP s) = true) : eD s = (pP s).extract 8 (pP s).size ∧ (eD s).size = (pP s).size - 8 := by
  obtain ⟨z, _, _, e⟩ := mOk_yes h
  exact ⟨e, by unfold eD; rw [e]; exact size_extract' _ _ _ z (Nat.le_refl _)⟩
/-- The last byte, where it stands alone. -/
theorem em_last {D : ByteArray} (h : lkR D = 0) {a m b n : Int} (hc : okC a m b n) (q : Nat) (hq : D.size = 2 * q + 1) : g16 (emD D a m b n) (2 * q) = g16 D (2 * q) := by
  obtain ⟨h0, h1, h2, h3, h4, h5⟩ := lk_zero h
  have E := em_facts h hc
  have o4 := ownN_four D
  obtain ⟨i, hi⟩ : ∃ i, 2 * q = ownN D + 2 * i := ⟨q - ownN D / 2, by omega⟩
  have e1 : g16 (emD D a m b n) (ownN D + 2 * i) = g16 (inL (emD D a m b n)) (2 * i) := by rw [inL_g16, E.own]
  have e2 : g16 D (ownN D + 2 * i) = g16 (inL D) (2 * i) := (inL_g16 D _).symm
  have zL := inL_size (D := D) (by omega)
  rw [hi, e1, e2, E.load]
  have ho := okC_of D
  rcases h5 with k | k | ⟨k, q⟩
  · rw [k]
    by_cases c : 18 ≤ (inL D).size
    · rw [(emL_6 c ho hc).2 i, if_neg (by omega), if_neg (by omega), if_neg (by omega)]
    · rw [(emL_6s (by omega) (by omega) hc).2 i, if_neg (by omega), if_neg (by omega)]
  · rw [k, (emL_17 (by omega) ho hc).2 i, if_neg (by omega), if_neg (by omega), if_neg (by omega)]
  · rw [k, (emL_1 (by omega) hc).2 i, if_neg (by omega), if_neg (by omega)]
theorem tot_ev (D : ByteArray) : totT D = totT (evB D) + (if D.size % 2 = 1 then g16 D (2 * (D.size / 2)) else 0) := by
  have z := size_extract' D 0 (2 * (D.size / 2)) (Nat.zero_le _) (by omega)
  have e : ∀ i, i ≤ D.size / 2 → tot (evB D) i = tot D i := by
    intro i
    induction i with
    | zero => intro _; rfl
    | succ i ih =>
      intro hi
      show tot (evB D) i + g16 (evB D) (2 * i) = tot D i + g16 D (2 * i)
      rw [ih (by omega)]
      unfold evB
      rw [g16_ext0 D _ _ (by omega) (by omega)]
  have zz : half (evB D) = D.size / 2 := by unfold half evB; rw [z]; omega
  have e1 : totT (evB D) = tot D (D.size / 2) := by unfold totT; rw [zz]; exact e _ (Nat.le_refl _)
  rw [e1]
  unfold totT half
  split
  · next c => rw [show (D.size + 1) / 2 = D.size / 2 + 1 by omega]; rfl
  · next c => rw [show (D.size + 1) / 2 = D.size / 2 by omega]; omega
theorem tot_em {D : ByteArray} (h : lkR D = 0) {a m b n : Int} (hc : okC a m b n) (v : Int) : (updV v (evB D) (evB (emD D a m b n)) + totT (emD D a m b n)) % 65535 = (v + totT D) % 65535 := by
  have E := em_facts h hc
  have z1 : (evB D).size = 2 * (D.size / 2) := size_extract' D 0 _ (Nat.zero_le _) (by omega)
  have z2 : (evB (emD D a m b n)).size = 2 * (D.size / 2) := by unfold evB; rw [E.size]; exact size_extract' _ 0 _ (Nat.zero_le _) (by rw [E.size]; omega)
  have md := updV_mod10 (n := v) (f := evB D) (t := evB (emD D a m b n)) (by rw [z1, z2]) (by rw [z1]; omega)
  have t1 := tot_ev D
  have t2 := tot_ev (emD D a m b n)
  rw [E.size] at t2
  by_cases c : D.size % 2 = 1
  · have l := em_last h hc (D.size / 2) (by omega)
    rw [if_pos c] at t1 t2
    rw [l] at t2
    omega
  · rw [if_neg c] at t1 t2
    omega
structure TrF (s u : ByteArray) (a b : Int) (D : ByteArray) (v : ByteArray) (N : Nat) : Prop where
  size : u.size = N
  own : ownN u = ownN s
  b8 : bt u 8 = bt s 8 - 1
  b9 : bt u 9 = bt s 9
  a12 : g32 u 12 = a
  a16 : g32 u 16 = b
  low : ∀ i, i < ownN s + 2 → bt u i = bt v i
  mid : ∀ i, ownN s + 4 ≤ i → i < ownN s + 8 → bt u i = bt v i
  w2 : g16 u (ownN s + 2) = msV s D
  high : ∀ y, bt u (ownN s + 8 + y) = bt D y
  ip : pR u = 0
  len : g16 u 2 = (N : Int)
  seen : seenR u = 0
  kind : oK (bt u 9) (pP u) = 3
  data : eD u = D
  inr : inR u = 0
  ck : ckM (pP u) = ckM (pP s)
  holds : holdsV [u.extract 0 (ownN s)] = true
theorem tr_facts {s : ByteArray} (h : trR s = 0) {a m b n c k d l : Int} (hc : okC a m b n) (hd : okC c k d l) : ∃ N : Nat, RwF s (rwB s a m b n) a m b n N ∧ TrF s (trB s a m b n c k d l) a b (emD (eD s) c k d l) (rwB s a m b n) N := by
  obtain ⟨hi, h8⟩ := tr_zero h
  obtain ⟨hs, hk, hl⟩ := in_zero hi
  obtain ⟨k9, t1, qf, er⟩ := err_kind hs hk
  obtain ⟨N, R⟩ := rw_facts (rw_is hs h8) hc
  refine ⟨N, R, ?_⟩
  obtain ⟨eE, eZ⟩ := eD_is t1
  have zM := mOk_size t1
  have E := em_facts hl hd
  have o0 := R.own0
  have pv : pP (rwB s a m b n) = pP s := by rw [R.load, k9, ld_err qf]
  have zw := R.sizeW
  rw [R.own, pv, R.size] at zw
  have bl : ∀ y, bt (rwB s a m b n) (ownN s + y) = bt (pP s) y := by
    intro y
    have z : y = 2 * (y / 2) ∨ y = 2 * (y / 2) + 1 := by omega
    have w := R.wload (y / 2)
    rw [k9, ld_err qf] at w
    rcases z with z | z
    · rw [z, bt_hi, w, ← bt_hi]
    · rw [z, ← Nat.add_assoc, bt_lo, w, ← bt_lo]
  have vb : 0 ≤ msV s (emD (eD s) c k d l) ∧ msV s (emD (eD s) c k d l) ≤ 65535 := updV_bd _ _ (g16_nonneg _ _) (g16_le _ _)
  have tm := tot_em hl hd (g16 (pP s) 2)
  have eu : trB s a m b n c k d l = withB (withB (rwB s a m b n) (ownN s + 2) (strOfNums (wordL [msV s (emD (eD s) c k d l)]))) (ownN s + 8) (emD (eD s) c k d l) := by unfold trB; rw [if_pos h]
  have ex : updV (g16 (pP s) 2) (evB (eD s)) (evB (emD (eD s) c k d l)) = msV s (emD (eD s) c k d l) := rfl
  rw [ex] at tm
  obtain ⟨x, hx⟩ : ∃ x, msV s (emD (eD s) c k d l) = x := ⟨_, rfl⟩
  obtain ⟨D, hD⟩ : ∃ D, emD (eD s) c k d l = D := ⟨_, rfl⟩
  obtain ⟨v, hv⟩ : ∃ v, rwB s a m b n = v := ⟨_, rfl⟩
  rw [hx] at vb eu tm
  rw [hD] at E tm eu hx
  rw [hv] at R bl eu
  rw [hD, hv, eu]
  have zD := E.size
  have zx : (strOfNums (wordL [x])).size = 2 := by rw [size_W]; rfl
  have vz := R.size
  have z1 : (withB v (ownN s + 2) (strOfNums (wordL [x]))).size = N := by rw [size_withB _ _ _ (by rw [zx]; omega), vz]
  have zu : (withB (withB v (ownN s + 2) (strOfNums (wordL [x]))) (ownN s + 8) D).size = N := by rw [size_withB _ _ _ (by rw [z1]; omega), z1]
  have bu : ∀ i, bt (withB (withB v (ownN s + 2) (strOfNums (wordL [x]))) (ownN s + 8) D) i = if ownN s + 8 ≤ i ∧ i < ownN s + 8 + D.size then bt D (i - (ownN s + 8)) else if ownN s + 2 ≤ i ∧ i < ownN s + 2 + 2 then bt (strOfNums (wordL [x])) (i - (ownN s + 2)) else bt v i := by
    intro i
    rw [bt_with _ _ _ _ (by rw [z1]; omega), bt_with _ _ _ _ (by rw [zx]; omega), zx]
  obtain ⟨u, hu⟩ : ∃ u, withB (withB v (ownN s + 2) (strOfNums (wordL [x]))) (ownN s + 8) D = u := ⟨_, rfl⟩
  rw [hu] at zu bu
  rw [hu]
  clear hu z1 eu
  have low : ∀ i, i < ownN s + 2 → bt u i = bt v i := fun i hi => by rw [bu, if_neg (by omega), if_neg (by omega)]
  have mid : ∀ i, ownN s + 4 ≤ i → i < ownN s + 8 → bt u i = bt v i := fun i h1 h2 => by rw [bu, if_neg (by omega), if_neg (by omega)]
  have high : ∀ y, bt u (ownN s + 8 + y) = bt D y := by
    intro y
    by_cases cy : y < D.size
    · rw [bu, if_pos (by omega), show ownN s + 8 + y - (ownN s + 8) = y by omega]
    · rw [bt_out u _ (by omega), bt_out D _ (by omega)]
  have w2 : g16 u (ownN s + 2) = x := by
    have g := g16_W [x] (one_wf vb.1 vb.2) 0
    have b2 : bt u (ownN s + 2) = bt (strOfNums (wordL [x])) (2 * 0) := by rw [bu, if_neg (by omega), if_pos (by omega), show ownN s + 2 - (ownN s + 2) = 2 * 0 by omega]
    have b3 : bt u (ownN s + 2 + 1) = bt (strOfNums (wordL [x])) (2 * 0 + 1) := by rw [bu, if_neg (by omega), if_pos (by omega), show ownN s + 2 + 1 - (ownN s + 2) = 2 * 0 + 1 by omega]
    unfold g16 at g ⊢
    rw [b2, b3]
    exact g
  have glow : ∀ i, i + 1 < ownN s + 2 → g16 u i = g16 v i := fun i hi => by unfold g16; rw [low i (by omega), low (i + 1) (by omega)]
  have d0 : bt u 0 = bt s 0 := (low 0 (by omega)).trans R.b0
  have ow : ownN u = ownN s := by unfold ownN; rw [d0]
  have lw : g16 u 2 = (N : Int) := (glow 2 (by omega)).trans R.w1
  have b9 : bt u 9 = bt s 9 := (low 9 (by omega)).trans R.b9
  have hh : u.extract 0 (ownN s) = v.extract 0 (ownN s) := by
    have za := size_extract' u 0 (ownN s) (Nat.zero_le _) (by omega)
    have zb := size_extract' v 0 (ownN s) (Nat.zero_le _) (by omega)
    refine ba_bt (by omega) fun i hi => ?_
    rw [za] at hi
    rw [bt_ext0 u _ _ (by omega) (by omega), bt_ext0 v _ _ (by omega) (by omega), low i (by omega)]
  obtain ⟨f1, f2, f3, f4, f5, f6, f7, f8, f9⟩ := ip_facts R.ip
  have H : holdsV [u.extract 0 (ownN s)] = true := by rw [hh]; exact R.holds
  have ip : pR u = 0 := by
    refine ip_zero (by omega) (by rw [low 0 (by omega)]; exact f2) (by rw [ow]; exact o0) (by rw [ow]; omega) (by rw [ow, lw]; omega) (by rw [lw, zu]; exact Int.le_refl _) ?_ (by rw [ow]; exact H) ?_
    · rw [lw]; have := R.w1; omega
    · rw [glow 6 (by omega)]; exact f9
  have bp : ∀ y, bt (pP u) y = bt u (ownN s + y) := by
    intro y
    rw [(p_yes ip).2.2.2, ow, lw, Int.toNat_natCast]
    by_cases cy : ownN s + y < N
    · rw [bt_ext u _ _ _ (by omega) (by omega)]
    · rw [bt_out u _ (by omega)]
      exact bt_out _ _ (by rw [size_extract' u _ _ (by omega) (by omega)]; omega)
  have zp : (pP u).size = (pP s).size := by rw [(p_yes ip).2.2.2, ow, lw, Int.toNat_natCast, size_extract' u _ _ (by omega) (by omega)]; omega
  have t2 : mOk (pP u) = true := by unfold mOk at t1 ⊢; rw [zp]; exact t1
  have p0 : bt (pP u) 0 = bt (pP s) 0 := by rw [bp, low _ (by omega), bl]
  have p1 : bt (pP u) 1 = bt (pP s) 1 := by rw [bp, low _ (by omega), bl]
  have dt : eD u = D := by
    obtain ⟨e1, e2⟩ := eD_is t2
    refine ba_bt (by omega) fun i hi => ?_
    rw [e2] at hi
    rw [e1, bt_ext _ _ _ _ (by omega) (Nat.le_refl _), bp, show ownN s + (8 + i) = ownN s + 8 + i by omega, high]
  have se : seenR u = 0 := seen_of ip (by unfold oR; rw [b9, k9, if_neg (by omega), if_neg (by omega), if_pos rfl, if_pos t2, p0, p1, er]; simp)
  have kd : oK (bt u 9) (pP u) = 3 := by unfold oK; rw [b9, k9, if_pos rfl, p0, p1, qf]; simp
  refine ⟨zu, ow, (low 8 (by omega)).trans R.b8, b9, ?_, ?_, low, mid, w2.trans hx.symm, high, ip, lw, se, kd, dt, ?_, ?_, H⟩
  · rw [g32_two, glow 12 (by omega), glow (12 + 2) (by omega), ← g32_two]; exact R.a12
  · rw [g32_two, glow 16 (by omega), glow (16 + 2) (by omega), ← g32_two]; exact R.a16
  · unfold inR
    rw [if_pos se, if_pos kd, dt]
    exact E.look
  · -- the sum
    have g0 : g16 (pP u) 0 = g16 (pP s) 0 := by unfold g16; rw [p0, p1]
    have g2 : g16 (pP u) 2 = x := by
      unfold g16 at w2 ⊢
      rw [bp, bp]
      exact w2
    have gm : ∀ y, 4 ≤ y → y + 1 < 8 → g16 (pP u) y = g16 (pP s) y := by
      intro y y1 y2
      unfold g16
      rw [bp, bp, mid _ (by omega) (by omega), mid _ (by omega) (by omega), bl, bl]
    have g4 := gm 4 (by omega) (by omega)
    have g6 := gm 6 (by omega) (by omega)
    have sp : ∀ (L : ByteArray), 8 ≤ L.size → totT L = 0 + g16 L 0 + g16 L 2 + g16 L 4 + g16 L 6 + totT (L.extract 8 L.size) := by
      intro L hL
      have e := ext_join L 0 8 L.size (by omega) hL
      rw [ext_all] at e
      have z8 := size_extract' L 0 8 (by omega) hL
      have ta := totT_app (L.extract 0 8) (L.extract 8 L.size) 4 (by omega)
      rw [e] at ta
      have t8 : totT (L.extract 0 8) = tot (L.extract 0 8) 4 := by unfold totT half; rw [z8]
      rw [ta, t8, tot4, g16_ext0 L 8 0 (by omega) hL, g16_ext0 L 8 2 (by omega) hL, g16_ext0 L 8 4 (by omega) hL, g16_ext0 L 8 6 (by omega) hL]
    have s1 := sp (pP s) zM
    have s2 := sp (pP u) (by omega)
    rw [← eE] at s1
    rw [← (eD_is t2).1, dt, g0, g2, g4, g6] at s2
    have n1 := totT_nonneg (eD s)
    have n2 := totT_nonneg D
    have q0 : 256 ≤ g16 (pP s) 0 := by
      have := bt_nonneg (pP s) (0 + 1)
      unfold erM at er
      simp only [Bool.or_eq_true, decide_eq_true_eq] at er
      unfold g16
      omega
    have q2 := g16_nonneg (pP s) 2; have q4 := g16_nonneg (pP s) 4; have q6 := g16_nonneg (pP s) 6
    unfold ckM
    rw [holds1, holds1, zp]
    have ee : (totT (pP u) ≠ 0 ∧ totT (pP u) % 65535 = 0) ↔ (totT (pP s) ≠ 0 ∧ totT (pP s) % 65535 = 0) := by omega
    rw [decide_eq_decide.2 ee]
end Go.Proofs.YtbpicngbjggblaaGreatDoor
