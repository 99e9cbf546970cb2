/- Texts of this proof, together: RewP, RewQ, RewR, RewS, RewT, RewU, RewX, RewV, RewW. -/
import Derived.Test.YtbpicngbjggblaaGreatDoorGj
import Derived.Test.YtbpicngbjggblaaGreatDoorGa
import Derived.Test.YtbpicngbjggblaaGreatDoorGm
import Derived.Test.YtbpicngbjggblaaGreatDoorGh
import Derived.Test.YtbpicngbjggblaaGreatDoorGx
namespace Go.Proofs.YtbpicngbjggblaaGreatDoor
set_option linter.unusedVariables false
set_option linter.unusedSimpArgs false
open Go.ChangeShapes Go.WideShapes Go.ChangeAt Go.RowKit Go.PlainAid
theorem bt_out (s : ByteArray) (k : Nat) (h : s.size ≤ k) : bt s k = 0 := by unfold bt; rw [dif_neg (by omega)]
theorem bt_with (s p : ByteArray) (k i : Nat) (h : k + p.size ≤ s.size) : bt (withB s k p) i = if k ≤ i ∧ i < k + p.size then bt p (i - k) else bt s i := by
  rw [bt_eq, bt_eq s, bt_eq p, data_withB s k p h]
  have l := len_data s
  have lp := len_data p
  have lt : (s.data.toList.take k).length = k := by rw [List.length_take]; omega
  by_cases c0 : i < k
  · rw [if_neg (by omega), List.append_assoc, getD_app_l _ _ _ _ (by omega)]
    simp [List.getD, List.getElem?_take, c0]
  · by_cases c1 : i < k + p.size
    · rw [if_pos ⟨by omega, c1⟩, List.append_assoc, getD_app_r _ _ _ _ (by omega), lt, getD_app_l _ _ _ _ (by omega)]
    · rw [if_neg (by omega), getD_app_r _ _ _ _ (by rw [List.length_append, lt]; omega)]
      rw [List.length_append, lt, lp]
      simp only [List.getD, List.getElem?_drop]
      rw [show k + p.size + (i - (k + p.size)) = i by omega]
theorem g16_with (s : ByteArray) (zs : List Int) (q j : Nat) (hz : ∀ n ∈ zs, 0 ≤ n ∧ n ≤ 65535) (h : 2 * q + 2 * zs.length ≤ s.size) : g16 (withB s (2 * q) (strOfNums (wordL zs))) (2 * j) = if q ≤ j ∧ j < q + zs.length then zs.getD (j - q) 0 else g16 s (2 * j) := by
  have hp := size_W zs
  by_cases c : q ≤ j ∧ j < q + zs.length
  · rw [if_pos c, ← g16_W zs hz (j - q)]
    unfold g16
    rw [bt_with _ _ _ _ (by omega), bt_with _ _ _ _ (by omega), if_pos (by omega), if_pos (by omega), show 2 * j - 2 * q = 2 * (j - q) by omega, show 2 * j + 1 - 2 * q = 2 * (j - q) + 1 by omega]
  · rw [if_neg c]
    unfold g16
    rw [bt_with _ _ _ _ (by omega), bt_with _ _ _ _ (by omega), if_neg (by omega), if_neg (by omega)]
theorem size_withW (s : ByteArray) (zs : List Int) (k : Nat) (h : k + 2 * zs.length ≤ s.size) : (withB s k (strOfNums (wordL zs))).size = s.size := size_withB s k _ (by rw [size_W]; omega)
/-- One byte of a word. -/
theorem g16_with1 (s : ByteArray) (v : Int) (q j : Nat) (v0 : 0 ≤ v) (v1 : v ≤ 255) (h : 2 * q + 1 ≤ s.size) : g16 (withB s (2 * q) (strOfNums [v])) (2 * j) = if j = q then v * 256 + bt s (2 * q + 1) else g16 s (2 * j) := by
  have hp : (strOfNums [v]).size = 1 := by rw [strOfNums_size]; rfl
  have hv : ∀ x ∈ [v], 0 ≤ x ∧ x ≤ 255 := by intro x hx; simp at hx; omega
  unfold g16
  rw [bt_with _ _ _ _ (by omega), bt_with _ _ _ _ (by omega), hp]
  by_cases c : j = q
  · subst c
    rw [if_pos (by omega), if_neg (by omega), if_pos rfl, bt_nums _ _ hv, show 2 * j - 2 * j = 0 by omega]
    rfl
  · rw [if_neg (by omega), if_neg (by omega), if_neg c]
theorem ba_w {a b : ByteArray} (hz : a.size = b.size) (h : ∀ j, 2 * j < a.size → g16 a (2 * j) = g16 b (2 * j)) : a = b := by
  refine ba_bt hz fun i hi => ?_
  have e : i = 2 * (i / 2) ∨ i = 2 * (i / 2) + 1 := by omega
  rcases e with e | e
  · rw [e, bt_hi, bt_hi, h _ (by omega)]
  · rw [e, bt_lo, bt_lo, h _ (by omega)]
theorem tot_same (x y : ByteArray) (k : Nat) (h : ∀ j, k ≤ j → g16 x (2 * j) = g16 y (2 * j)) : ∀ i, tot x (k + i) - tot x k = tot y (k + i) - tot y k
  | 0 => by simp
  | i + 1 => by
    have e := tot_same x y k h i
    show tot x (k + i) + g16 x (2 * (k + i)) - tot x k = tot y (k + i) + g16 y (2 * (k + i)) - tot y k
    rw [h (k + i) (by omega)]; omega
theorem totT_same (x y : ByteArray) (hz : x.size = y.size) (k : Nat) (hk : 2 * k ≤ x.size) (h : ∀ j, k ≤ j → g16 x (2 * j) = g16 y (2 * j)) : totT x - tot x k = totT y - tot y k := by
  unfold totT half
  rw [hz]
  obtain ⟨i, hi⟩ : ∃ i, (y.size + 1) / 2 = k + i := ⟨(y.size + 1) / 2 - k, by omega⟩
  rw [hi]
  exact tot_same x y k h i
/-- A sum that goes along with several words. -/
def updL : Int → List (Int × Int) → Int
  | n, [] => n
  | n, x :: r => updL (updW n x.1 x.2) r
def okL (l : List (Int × Int)) : Prop := ∀ x ∈ l, 0 ≤ x.1 ∧ x.1 ≤ 65535 ∧ 0 ≤ x.2 ∧ x.2 ≤ 65535
theorem updL_bd : ∀ (l : List (Int × Int)) (n : Int), okL l → 0 ≤ n → n ≤ 65535 → 0 ≤ updL n l ∧ updL n l ≤ 65535
  | [], n, _, h0, h1 => ⟨h0, h1⟩
  | x :: r, n, h, h0, h1 => by
    obtain ⟨a, b, c, d⟩ := h x (by simp)
    have k := updW_bd h0 h1 a b c d
    exact updL_bd r _ (fun y hy => h y (by simp [hy])) k.1 k.2
def sumF (l : List (Int × Int)) : Int := (l.map Prod.fst).sum
def sumT (l : List (Int × Int)) : Int := (l.map Prod.snd).sum
theorem updL_mod : ∀ (l : List (Int × Int)) (n : Int), (updL n l + sumT l) % 65535 = (n + sumF l) % 65535
  | [], n => rfl
  | x :: r, n => by
    have k := updL_mod r (updW n x.1 x.2)
    have m := updW_mod (n := n) (f := x.1) (t := x.2)
    show (updL (updW n x.1 x.2) r + sumT (x :: r)) % 65535 = (n + sumF (x :: r)) % 65535
    have e1 : sumT (x :: r) = x.2 + sumT r := by simp [sumT]
    have e2 : sumF (x :: r) = x.1 + sumF r := by simp [sumF]
    rw [e1, e2]
    omega
theorem updL_snoc : ∀ (l : List (Int × Int)) (n : Int) (x : Int × Int), updL n (l ++ [x]) = updW (updL n l) x.1 x.2
  | [], n, x => rfl
  | y :: r, n, x => updL_snoc r _ x
theorem updV_L (n : Int) (fs ts : List Int) (hl : fs.length = ts.length) (hf : ∀ x ∈ fs, 0 ≤ x ∧ x ≤ 65535) (ht : ∀ x ∈ ts, 0 ≤ x ∧ x ≤ 65535) : updV n (strOfNums (wordL fs)) (strOfNums (wordL ts)) = updL n (fs.zip ts) := by
  have key : ∀ i, i ≤ fs.length → updWs n (strOfNums (wordL fs)) (strOfNums (wordL ts)) i = updL n ((fs.zip ts).take i) := by
    intro i
    induction i with
    | zero => intro _; simp [updWs, updL]
    | succ i ih =>
      intro hi
      have hz : i < (fs.zip ts).length := by rw [List.length_zip]; omega
      show updW (updWs n _ _ i) (g16 _ (2 * i)) (g16 _ (2 * i)) = _
      rw [ih (by omega), g16_W fs hf, g16_W ts ht, List.take_add_one, List.getElem?_eq_getElem hz]
      show _ = updL n (List.take i (fs.zip ts) ++ [(fs.zip ts)[i]])
      rw [updL_snoc, List.getElem_zip]
      simp [List.getD, show i < fs.length by omega, show i < ts.length by omega]
  unfold updV
  rw [if_neg (by rw [size_W, size_W, hl]; omega), size_W, show 2 * fs.length / 2 = fs.length by omega, key _ (Nat.le_refl _), List.take_of_length_le (by rw [List.length_zip]; omega)]
/-- Words of a text. -/
def wsOf (s : ByteArray) (q : Nat) : Nat → List Int
  | 0 => []
  | k + 1 => g16 s (2 * q) :: wsOf s (q + 1) k
theorem wsOf_wf (s : ByteArray) : ∀ (k q : Nat), ∀ x ∈ wsOf s q k, 0 ≤ x ∧ x ≤ 65535
  | 0, q, x, h => by cases h
  | k + 1, q, x, h => by
    rcases List.mem_cons.1 h with rfl | h
    · exact ⟨g16_nonneg _ _, g16_le _ _⟩
    · exact wsOf_wf s k (q + 1) x h
theorem wsOf_len (s : ByteArray) : ∀ (k q : Nat), (wsOf s q k).length = k
  | 0, q => rfl
  | k + 1, q => by show (wsOf s (q + 1) k).length + 1 = k + 1; rw [wsOf_len s k]
theorem wsOf_get (s : ByteArray) : ∀ (k q i : Nat), i < k → (wsOf s q k).getD i 0 = g16 s (2 * (q + i))
  | 0, q, i, h => by omega
  | k + 1, q, 0, h => rfl
  | k + 1, q, i + 1, h => by
    show (wsOf s (q + 1) k).getD i 0 = _
    rw [wsOf_get s k (q + 1) i (by omega), show q + 1 + i = q + (i + 1) by omega]
theorem ext_words (s : ByteArray) (q k : Nat) (h : 2 * q + 2 * k ≤ s.size) : s.extract (2 * q) (2 * q + 2 * k) = strOfNums (wordL (wsOf s q k)) := by
  have hz := size_extract' s (2 * q) (2 * q + 2 * k) (by omega) h
  refine ba_w (by rw [hz, size_W, wsOf_len]; omega) fun j hj => ?_
  rw [hz] at hj
  rw [g16_W _ (wsOf_wf s k q), wsOf_get s k q j (by omega)]
  unfold g16
  rw [bt_ext s _ _ _ (by omega) h, bt_ext s _ _ _ (by omega) h, show 2 * q + 2 * j = 2 * (q + j) by omega, show 2 * q + (2 * j + 1) = 2 * (q + j) + 1 by omega]
theorem W_app (a b : List Int) : strOfNums (wordL a) ++ strOfNums (wordL b) = strOfNums (wordL (a ++ b)) := by
  rw [show wordL (a ++ b) = wordL a ++ wordL b by simp [wordL]]
  apply ba_ext
  simp [strOfNums]
def adW (a b : Int) : List Int := [a / 65536, a % 65536, b / 65536, b % 65536]
def adL (oa ob a b : Int) : List (Int × Int) := [(oa / 65536, a / 65536), (oa % 65536, a % 65536), (ob / 65536, b / 65536), (ob % 65536, b % 65536)]
/-- What ports' sum goes along with; the sum (of TCP; of UDP); what is carried, changed. -/
def ptL (L : ByteArray) (oa ob a m b n : Int) : List (Int × Int) := adL oa ob a b ++ [(g16 L 0, m), (g16 L 2, n)]
def pSum (L : ByteArray) (k : Nat) (oa ob a m b n : Int) : Int := updL (g16 L k) (ptL L oa ob a m b n)
def uSum (L : ByteArray) (oa ob a m b n : Int) : Int := if g16 L 6 = 0 then 0 else if pSum L 6 oa ob a m b n = 0 then 65535 else pSum L 6 oa ob a m b n
def ptC (L : ByteArray) (k : Nat) (m n v : Int) : ByteArray := withB (withB L 0 (strOfNums (wordL [m, n]))) k (strOfNums (wordL [v]))
def icC (L : ByteArray) (id : Int) : ByteArray := withB (withB L 4 (strOfNums (wordL [id]))) 2 (strOfNums (wordL [updW (g16 L 2) (g16 L 4) id]))
def ldC (pr : Int) (L : ByteArray) (oa ob a m b n : Int) : ByteArray :=
  if pr = 6 then ptC L 16 m n (pSum L 16 oa ob a m b n) else if pr = 17 then ptC L 6 m n (uSum L oa ob a m b n)
  else if qIs (bt L 0) (bt L 1) = true then icC L (if qAsk (bt L 0) (bt L 1) = true then m else n) else L
/-- Numbers that addresses and ports may be. -/
def okC (a m b n : Int) : Prop := 0 ≤ a ∧ a ≤ 4294967295 ∧ 0 ≤ m ∧ m ≤ 65535 ∧ 0 ≤ b ∧ b ≤ 4294967295 ∧ 0 ≤ n ∧ n ≤ 65535
theorem ptL_ok {L : ByteArray} {oa ob a m b n : Int} (ho : okC oa 0 ob 0) (h : okC a m b n) : okL (ptL L oa ob a m b n) := by
  have g0 := g16_nonneg L 0
  have g1 := g16_le L 0
  have g2 := g16_nonneg L 2
  have g3 := g16_le L 2
  obtain ⟨o0, o1, _, _, o4, o5, _, _⟩ := ho
  obtain ⟨h0, h1, h2, h3, h4, h5, h6, h7⟩ := h
  intro x hx
  simp only [ptL, adL, List.cons_append, List.nil_append, List.mem_cons, List.not_mem_nil, or_false] at hx
  rcases hx with rfl | rfl | rfl | rfl | rfl | rfl <;> (simp only; omega)
theorem pSum_bd {L : ByteArray} {k : Nat} {oa ob a m b n : Int} (ho : okC oa 0 ob 0) (h : okC a m b n) : 0 ≤ pSum L k oa ob a m b n ∧ pSum L k oa ob a m b n ≤ 65535 := updL_bd _ _ (ptL_ok ho h) (g16_nonneg _ _) (g16_le _ _)
theorem uSum_bd {L : ByteArray} {oa ob a m b n : Int} (ho : okC oa 0 ob 0) (h : okC a m b n) : 0 ≤ uSum L oa ob a m b n ∧ uSum L oa ob a m b n ≤ 65535 := by
  have := pSum_bd (L := L) (k := 6) ho h
  unfold uSum
  split
  · omega
  · split <;> omega
theorem one_wf {v : Int} (h0 : 0 ≤ v) (h1 : v ≤ 65535) : ∀ x ∈ [v], 0 ≤ x ∧ x ≤ 65535 := by intro x hx; simp at hx; omega
theorem two_wf {u v : Int} (a0 : 0 ≤ u) (a1 : u ≤ 65535) (h0 : 0 ≤ v) (h1 : v ≤ 65535) : ∀ x ∈ [u, v], 0 ≤ x ∧ x ≤ 65535 := by intro x hx; simp at hx; omega
/-- The words of what TCP and UDP carry, changed. -/
theorem ptC_size {L : ByteArray} {q : Nat} {m n v : Int} (h : 2 * q + 2 ≤ L.size) (h4 : 4 ≤ L.size) : (ptC L (2 * q) m n v).size = L.size := by
  unfold ptC
  have e := size_withW L [m, n] 0 (by simpa using h4)
  rw [size_withW _ [v] _ (by rw [e]; simpa using h), e]
theorem ptC_word {L : ByteArray} {q : Nat} {m n v : Int} (hq : 2 ≤ q) (h : 2 * q + 2 ≤ L.size) (m0 : 0 ≤ m) (m1 : m ≤ 65535) (n0 : 0 ≤ n) (n1 : n ≤ 65535) (v0 : 0 ≤ v) (v1 : v ≤ 65535) (j : Nat) :
    g16 (ptC L (2 * q) m n v) (2 * j) = if j = q then v else if j = 0 then m else if j = 1 then n else g16 L (2 * j) := by
  have e := size_withW L [m, n] 0 (by simp only [List.length_cons, List.length_nil]; omega)
  have k1 := g16_with L [m, n] 0 j (two_wf m0 m1 n0 n1) (by simp only [List.length_cons, List.length_nil]; omega)
  have k2 := g16_with (withB L 0 (strOfNums (wordL [m, n]))) [v] q j (one_wf v0 v1) (by rw [e]; simp only [List.length_cons, List.length_nil]; omega)
  unfold ptC
  rw [k2]
  by_cases c : j = q
  · subst c
    rw [if_pos (by simp), if_pos rfl]
    simp
  · rw [if_neg (by simp only [List.length_cons, List.length_nil]; omega), if_neg c, k1]
    clear k1 k2 e
    by_cases c0 : j = 0
    · subst c0; rw [if_pos (by simp), if_pos rfl]; simp
    · by_cases c1 : j = 1
      · subst c1; rw [if_pos (by simp), if_neg (by omega), if_pos rfl]; simp
      · rw [if_neg (by simp only [List.length_cons, List.length_nil]; omega), if_neg c0, if_neg c1]
theorem icC_size {L : ByteArray} {id : Int} (h : 8 ≤ L.size) : (icC L id).size = L.size := by
  unfold icC
  have e := size_withW L [id] 4 (by simp only [List.length_cons, List.length_nil]; omega)
  rw [size_withW _ _ 2 (by rw [e]; simp only [List.length_cons, List.length_nil]; omega), e]
theorem icC_word {L : ByteArray} {id : Int} (h : 8 ≤ L.size) (i0 : 0 ≤ id) (i1 : id ≤ 65535) (j : Nat) :
    g16 (icC L id) (2 * j) = if j = 1 then updW (g16 L 2) (g16 L 4) id else if j = 2 then id else g16 L (2 * j) := by
  have b := updW_bd (g16_nonneg L 2) (g16_le L 2) (g16_nonneg L 4) (g16_le L 4) i0 i1
  have e := size_withW L [id] 4 (by simp only [List.length_cons, List.length_nil]; omega)
  have k1 := g16_with L [id] 2 j (one_wf i0 i1) (by simp only [List.length_cons, List.length_nil]; omega)
  have k2 := g16_with (withB L 4 (strOfNums (wordL [id]))) [updW (g16 L 2) (g16 L 4) id] 1 j (one_wf b.1 b.2) (by rw [e]; simp only [List.length_cons, List.length_nil]; omega)
  unfold icC
  rw [show (2 : Nat) = 2 * 1 by rfl] at *
  rw [show (4 : Nat) = 2 * 2 by rfl] at *
  rw [k2]
  by_cases c : j = 1
  · subst c
    rw [if_pos (by simp), if_pos rfl]
    simp
  · rw [if_neg (by simp only [List.length_cons, List.length_nil]; omega), if_neg c, k1]
    by_cases c2 : j = 2
    · subst c2
      rw [if_pos (by simp), if_pos rfl]; simp
    · rw [if_neg (by simp only [List.length_cons, List.length_nil]; omega), if_neg c2]
theorem holds1 (s : ByteArray) : holdsV [s] = decide (totT s ≠ 0 ∧ totT s % 65535 = 0) := by
  have h2 := totT_nonneg s
  unfold holdsV
  rw [sumV_cl, totTs1, Bool.eq_iff_iff, decide_eq_true_iff, decide_eq_true_iff]
  unfold cl
  split <;> omega
theorem tot4 (x : ByteArray) : tot x 4 = 0 + g16 x 0 + g16 x 2 + g16 x 4 + g16 x 6 := rfl
theorem oR_cases {pr : Int} {L : ByteArray} (h : oR pr L = 0) : (pr = 6 ∧ tOk L = true) ∨ (pr = 17 ∧ uOk L = true) ∨ (pr = 1 ∧ mOk L = true ∧ (qIs (bt L 0) (bt L 1) || erM (bt L 0)) = true) := by
  unfold oR at h
  split at h
  · next e => split at h
              · next k => exact .inl ⟨e, k⟩
              · omega
  · split at h
    · next e => split at h
                · next k => exact .inr (.inl ⟨e, k⟩)
                · omega
    · split at h
      · next e => split at h
                  · next k => split at h
                              · next q => exact .inr (.inr ⟨e, k, q⟩)
                              · omega
                  · omega
      · omega
def cM (pr : Int) (L : ByteArray) (m : Int) : Int := if pr = 1 then (if qAsk (bt L 0) (bt L 1) = true then m else 0) else m
def cN (pr : Int) (L : ByteArray) (n : Int) : Int := if pr = 1 then (if (qIs (bt L 0) (bt L 1) && !qAsk (bt L 0) (bt L 1)) = true then n else 0) else n
theorem ldC_tcp (L : ByteArray) (oa ob a m b n : Int) : ldC 6 L oa ob a m b n = ptC L 16 m n (pSum L 16 oa ob a m b n) := by unfold ldC; rw [if_pos rfl]
theorem ldC_udp (L : ByteArray) (oa ob a m b n : Int) : ldC 17 L oa ob a m b n = ptC L 6 m n (uSum L oa ob a m b n) := by unfold ldC; rw [if_neg (by omega), if_pos rfl]
theorem ldC_ic (L : ByteArray) (oa ob a m b n : Int) : ldC 1 L oa ob a m b n = if qIs (bt L 0) (bt L 1) = true then icC L (if qAsk (bt L 0) (bt L 1) = true then m else n) else L := by unfold ldC; rw [if_neg (by omega), if_neg (by omega)]
theorem tOk_size {L : ByteArray} (h : tOk L = true) : 20 ≤ L.size := (tOk_yes h).1
theorem uOk_size {L : ByteArray} (h : uOk L = true) : 8 ≤ L.size := (uOk_yes h).1
theorem mOk_size {L : ByteArray} (h : mOk L = true) : 8 ≤ L.size := (mOk_yes h).1
theorem ld_size {pr : Int} {L : ByteArray} (h : oR pr L = 0) (oa ob a m b n : Int) : (ldC pr L oa ob a m b n).size = L.size := by
  rcases oR_cases h with ⟨rfl, k⟩ | ⟨rfl, k⟩ | ⟨rfl, k, q⟩
  · rw [ldC_tcp]; exact ptC_size (q := 8) (by have := tOk_size k; omega) (by have := tOk_size k; omega)
  · rw [ldC_udp]; exact ptC_size (q := 3) (by have := uOk_size k; omega) (by have := uOk_size k; omega)
  · rw [ldC_ic]
    split
    · exact icC_size (mOk_size k)
    · rfl
/-- The words of it. -/
theorem ld_tcp {L : ByteArray} (k : tOk L = true) {oa ob a m b n : Int} (ho : okC oa 0 ob 0) (hc : okC a m b n) (j : Nat) : g16 (ldC 6 L oa ob a m b n) (2 * j) = if j = 8 then pSum L 16 oa ob a m b n else if j = 0 then m else if j = 1 then n else g16 L (2 * j) := by
  have z := tOk_size k
  have bd := pSum_bd (L := L) (k := 16) ho hc
  obtain ⟨h0, h1, h2, h3, h4, h5, h6, h7⟩ := hc
  rw [ldC_tcp]
  exact ptC_word (q := 8) (by omega) (by omega) h2 h3 h6 h7 bd.1 bd.2 j
theorem ld_udp {L : ByteArray} (k : uOk L = true) {oa ob a m b n : Int} (ho : okC oa 0 ob 0) (hc : okC a m b n) (j : Nat) : g16 (ldC 17 L oa ob a m b n) (2 * j) = if j = 3 then uSum L oa ob a m b n else if j = 0 then m else if j = 1 then n else g16 L (2 * j) := by
  have z := uOk_size k
  have bd := uSum_bd (L := L) ho hc
  obtain ⟨h0, h1, h2, h3, h4, h5, h6, h7⟩ := hc
  rw [ldC_udp]
  exact ptC_word (q := 3) (by omega) (by omega) h2 h3 h6 h7 bd.1 bd.2 j
theorem ld_ic {L : ByteArray} (k : mOk L = true) (q : qIs (bt L 0) (bt L 1) = true) {oa ob a m b n : Int} (hc : okC a m b n) (j : Nat) : g16 (ldC 1 L oa ob a m b n) (2 * j) = if j = 1 then updW (g16 L 2) (g16 L 4) (if qAsk (bt L 0) (bt L 1) = true then m else n) else if j = 2 then (if qAsk (bt L 0) (bt L 1) = true then m else n) else g16 L (2 * j) := by
  obtain ⟨h0, h1, h2, h3, h4, h5, h6, h7⟩ := hc
  rw [ldC_ic, if_pos q]
  exact icC_word (mOk_size k) (by split <;> omega) (by split <;> omega) j
theorem ld_err {L : ByteArray} (q : qIs (bt L 0) (bt L 1) = false) (oa ob a m b n : Int) : ldC 1 L oa ob a m b n = L := by rw [ldC_ic, if_neg (by rw [q]; decide)]
theorem bt_w0 {X Y : ByteArray} (j : Nat) (h : g16 X j = g16 Y j) : bt X j = bt Y j ∧ bt X (j + 1) = bt Y (j + 1) := by
  rw [bt_hi, bt_hi, bt_lo, bt_lo, h]; exact ⟨rfl, rfl⟩
theorem mR_word {L : ByteArray} (k : mOk L = true) : idM (mR L) = g16 L 4 := by
  obtain ⟨z, _, e, _⟩ := mOk_yes k
  rw [e]
  unfold idM
  rw [if_pos (by rw [size_extract' L 4 8 (by omega) z]; omega)]
  unfold g16
  rw [bt_ext L 4 8 0 (by omega) z, bt_ext L 4 8 (0 + 1) (by omega) z]
/-- What is seen of it. -/
theorem ld_seen {pr : Int} {L : ByteArray} (h : oR pr L = 0) {oa ob a m b n : Int} (ho : okC oa 0 ob 0) (hc : okC a m b n) :
    oR pr (ldC pr L oa ob a m b n) = 0 ∧ oM pr (ldC pr L oa ob a m b n) = cM pr L m ∧ oN pr (ldC pr L oa ob a m b n) = cN pr L n ∧ oK pr (ldC pr L oa ob a m b n) = oK pr L ∧ oF pr (ldC pr L oa ob a m b n) = oF pr L ∧ oA pr (ldC pr L oa ob a m b n) = oA pr L := by
  have Z := ld_size h oa ob a m b n
  rcases oR_cases h with ⟨rfl, k⟩ | ⟨rfl, k⟩ | ⟨rfl, k, q⟩
  · have W := ld_tcp k ho hc
    generalize ldC 6 L oa ob a m b n = X at *
    have e6 := bt_w0 12 ((W 6).trans (by simp) : g16 X 12 = g16 L 12)
    have e0 : g16 X 0 = m := (W 0).trans (by simp)
    have e1 : g16 X 2 = n := (W 1).trans (by simp)
    have t : tOk X = true := by unfold tOk tOwn at k ⊢; rw [Z, e6.1]; exact k
    refine ⟨by unfold oR; rw [if_pos rfl, if_pos t], ?_, ?_, ?_, ?_, ?_⟩
    · unfold oM cM; rw [if_neg (by omega), if_neg (by omega), e0]
    · unfold oN cN; rw [if_neg (by omega), if_neg (by omega), e1]
    · unfold oK; rw [e6.2, if_neg (by omega : ¬ (6 : Int) = 1), if_neg (by omega : ¬ (6 : Int) = 1)]
    · unfold oF; rw [e6.2]
    · unfold oA; simp
  · have W := ld_udp k ho hc
    generalize ldC 17 L oa ob a m b n = X at *
    have e0 : g16 X 0 = m := (W 0).trans (by simp)
    have e1 : g16 X 2 = n := (W 1).trans (by simp)
    have e2 : g16 X 4 = g16 L 4 := (W 2).trans (by simp)
    have t : uOk X = true := by unfold uOk at k ⊢; rw [Z, e2]; exact k
    refine ⟨by unfold oR; rw [if_neg (by omega), if_pos rfl, if_pos t], ?_, ?_, ?_, ?_, ?_⟩
    · unfold oM cM; rw [if_neg (by omega), if_neg (by omega), e0]
    · unfold oN cN; rw [if_neg (by omega), if_neg (by omega), e1]
    · unfold oK; rw [if_neg (by omega), if_neg (by omega), if_neg (by omega), if_neg (by omega)]
    · unfold oF; rw [if_neg (by omega), if_neg (by omega)]
    · unfold oA; simp
  · cases hq : qIs (bt L 0) (bt L 1) with
    | false =>
      rw [ld_err hq]
      have ha : qAsk (bt L 0) (bt L 1) = false := by
        cases e : qAsk (bt L 0) (bt L 1) with
        | false => rfl
        | true => rw [q_sub e] at hq; cases hq
      refine ⟨h, ?_, ?_, rfl, rfl, rfl⟩
      · unfold oM cM; rw [ha]; simp
      · unfold oN cN; rw [hq]; simp
    | true =>
      have W := ld_ic (oa := oa) (ob := ob) k hq hc
      generalize ldC 1 L oa ob a m b n = X at *
      have e0 := bt_w0 0 ((W 0).trans (by simp) : g16 X 0 = g16 L 0)
      have e2 : g16 X 4 = (if qAsk (bt L 0) (bt L 1) = true then m else n) := (W 2).trans (by simp)
      rw [show (0 : Nat) + 1 = 1 by rfl] at e0
      have t : mOk X = true := by unfold mOk at k ⊢; rw [Z]; exact k
      have i := mR_word t
      rw [e2] at i
      refine ⟨?_, ?_, ?_, ?_, ?_, ?_⟩
      · unfold oR; rw [if_neg (by omega), if_neg (by omega), if_pos rfl, if_pos t, e0.1, e0.2, if_pos q]
      · unfold oM cM; rw [if_pos rfl, if_pos rfl, e0.1, e0.2, i]
        cases qAsk (bt L 0) (bt L 1) <;> simp
      · unfold oN cN; rw [if_pos rfl, if_pos rfl, e0.1, e0.2, i]
        cases qAsk (bt L 0) (bt L 1) <;> simp
      · unfold oK; rw [if_pos rfl, if_pos rfl, e0.1, e0.2]
      · unfold oF; rw [if_neg (by omega), if_neg (by omega)]
      · unfold oA; rw [e0.1, e0.2]
/-- Alike, but for a word that may be 0 in the place of 65535. -/
def pw (v : Int) : Int := if v = 65535 then 0 else v
def Alike (k : Nat) (X Y : ByteArray) : Prop := X.size = Y.size ∧ (∀ j, ¬ (0 < k ∧ j = k) → g16 X (2 * j) = g16 Y (2 * j)) ∧ pw (g16 X (2 * k)) = pw (g16 Y (2 * k))
theorem Alike.trans {k : Nat} {X Y Z : ByteArray} (h : Alike k X Y) (h' : Alike k Y Z) : Alike k X Z := ⟨h.1.trans h'.1, fun j hj => (h.2.1 j hj).trans (h'.2.1 j hj), h.2.2.trans h'.2.2⟩
theorem Alike.refl (k : Nat) (X : ByteArray) : Alike k X X := ⟨rfl, fun _ _ => rfl, rfl⟩
theorem Alike.of {k : Nat} {X Y : ByteArray} (h0 : X.size = Y.size) (h1 : ∀ j, ¬ j = k → g16 X (2 * j) = g16 Y (2 * j)) (h2 : pw (g16 X (2 * k)) = pw (g16 Y (2 * k))) (hk : 0 < k) : Alike k X Y := ⟨h0, fun j hj => h1 j (fun e => hj ⟨hk, e⟩), h2⟩
theorem okC_ad {a m b n : Int} (h : okC a m b n) : okC a 0 b 0 := ⟨h.1, h.2.1, by omega, by omega, h.2.2.2.2.1, h.2.2.2.2.2.1, by omega, by omega⟩
/-- A header, changed. -/
def hL (s : ByteArray) (a b : Int) : List (Int × Int) := [(g16 s 8, g16 s 8 - 256), (g16 s 12, a / 65536), (g16 s 14, a % 65536), (g16 s 16, b / 65536), (g16 s 18, b % 65536)]
def hSum (s : ByteArray) (a b : Int) : Int := updL (g16 s 10) (hL s a b)
def headC (s : ByteArray) (a b : Int) : ByteArray := withB (withB (withB s 8 (strOfNums [bt s 8 - 1])) 12 (strOfNums (wordL (adW a b)))) 10 (strOfNums (wordL [hSum s a b]))
/-- Why a packet is not changed; the packet, changed. -/
def rwR (s : ByteArray) : Int := if seenR s = 0 then (if bt s 8 < 2 then 8 else 0) else seenR s
def rwB (s : ByteArray) (a m b n : Int) : ByteArray := if rwR s = 0 then headC (s.extract 0 (ownN s)) a b ++ ldC (bt s 9) (pP s) (g32 s 12) (g32 s 16) a m b n else ⟨#[]⟩
theorem rw_no {s : ByteArray} (h : ¬ rwR s = 0) (a m b n : Int) : rwB s a m b n = ⟨#[]⟩ := by unfold rwB; rw [if_neg h]
theorem rw_zero {s : ByteArray} (h : rwR s = 0) : seenR s = 0 ∧ 2 ≤ bt s 8 := by
  unfold rwR at h
  split at h
  · next k =>
    split at h
    · omega
    · exact ⟨k, by omega⟩
  · omega
theorem rw_is {s : ByteArray} (h : seenR s = 0) (h2 : 2 ≤ bt s 8) : rwR s = 0 := by unfold rwR; rw [if_pos h, if_neg (by omega)]
theorem g16_hi {s : ByteArray} (h : 2 ≤ bt s 8) : 512 ≤ g16 s 8 := by have := bt_nonneg s (8 + 1); unfold g16; omega
theorem hL_ok {s : ByteArray} {a b : Int} (h : 2 ≤ bt s 8) (hc : okC a 0 b 0) : okL (hL s a b) := by
  have := g16_hi h
  obtain ⟨h0, h1, h2, h3, h4, h5, h6, h7⟩ := hc
  intro x hx
  have g := fun k => And.intro (g16_nonneg s k) (g16_le s k)
  have g8 := g 8
  have g12 := g 12
  have g14 := g 14
  have g16_ := g 16
  have g18 := g 18
  simp only [hL, List.mem_cons, List.not_mem_nil, or_false] at hx
  rcases hx with rfl | rfl | rfl | rfl | rfl <;> (simp only; omega)
theorem hSum_bd {s : ByteArray} {a b : Int} (h : 2 ≤ bt s 8) (hc : okC a 0 b 0) : 0 ≤ hSum s a b ∧ hSum s a b ≤ 65535 := updL_bd _ _ (hL_ok h hc) (g16_nonneg _ _) (g16_le _ _)
theorem hSum_mod (s : ByteArray) (a b : Int) : (hSum s a b + (g16 s 8 - 256 + a / 65536 + a % 65536 + b / 65536 + b % 65536)) % 65535 = (g16 s 10 + (g16 s 8 + g16 s 12 + g16 s 14 + g16 s 16 + g16 s 18)) % 65535 := by
  have h := updL_mod (hL s a b) (g16 s 10)
  have e1 : sumT (hL s a b) = g16 s 8 - 256 + a / 65536 + a % 65536 + b / 65536 + b % 65536 := by simp [sumT, hL]; omega
  have e2 : sumF (hL s a b) = g16 s 8 + g16 s 12 + g16 s 14 + g16 s 16 + g16 s 18 := by simp [sumF, hL]; omega
  rw [e1, e2] at h
  exact h
theorem adW_wf {a b : Int} (hc : okC a 0 b 0) : ∀ x ∈ adW a b, 0 ≤ x ∧ x ≤ 65535 := by
  obtain ⟨h0, h1, h2, h3, h4, h5, h6, h7⟩ := hc
  intro x hx
  simp only [adW, List.mem_cons, List.not_mem_nil, or_false] at hx
  rcases hx with rfl | rfl | rfl | rfl <;> omega
theorem headC_size {s : ByteArray} {a b : Int} (h : 20 ≤ s.size) : (headC s a b).size = s.size := by
  have e1 : (withB s 8 (strOfNums [bt s 8 - 1])).size = s.size := size_withB s 8 _ (by rw [strOfNums_size]; show 8 + 1 ≤ _; omega)
  have e2 : (withB (withB s 8 (strOfNums [bt s 8 - 1])) 12 (strOfNums (wordL (adW a b)))).size = s.size := by rw [size_withW _ _ _ (by rw [e1]; show 12 + 2 * 4 ≤ _; omega), e1]
  unfold headC
  rw [size_withW _ _ _ (by rw [e2]; show 10 + 2 * 1 ≤ _; omega), e2]
theorem headC_word {s : ByteArray} {a b : Int} (h : 20 ≤ s.size) (ht : 2 ≤ bt s 8) (hc : okC a 0 b 0) (j : Nat) :
    g16 (headC s a b) (2 * j) = if j = 5 then hSum s a b else if 6 ≤ j ∧ j < 10 then (adW a b).getD (j - 6) 0 else if j = 4 then g16 s 8 - 256 else g16 s (2 * j) := by
  have bd := hSum_bd ht hc
  have t0 := bt_le s 8
  have e1 : (withB s 8 (strOfNums [bt s 8 - 1])).size = s.size := size_withB s 8 _ (by rw [strOfNums_size]; show 8 + 1 ≤ _; omega)
  have e2 : (withB (withB s 8 (strOfNums [bt s 8 - 1])) 12 (strOfNums (wordL (adW a b)))).size = s.size := by rw [size_withW _ _ _ (by rw [e1]; show 12 + 2 * 4 ≤ _; omega), e1]
  have k1 : g16 (withB s 8 (strOfNums [bt s 8 - 1])) (2 * j) = _ := g16_with1 s (bt s 8 - 1) 4 j (by omega) (by omega) (by omega)
  have k2 : g16 (withB (withB s 8 (strOfNums [bt s 8 - 1])) 12 (strOfNums (wordL (adW a b)))) (2 * j) = _ := g16_with _ (adW a b) 6 j (adW_wf hc) (by rw [e1]; show 2 * 6 + 2 * 4 ≤ _; omega)
  have k3 : g16 (headC s a b) (2 * j) = _ := g16_with _ [hSum s a b] 5 j (one_wf bd.1 bd.2) (by rw [e2]; show 2 * 5 + 2 * 1 ≤ _; omega)
  rw [k3, k2, k1]
  clear k1 k2 k3 e1 e2
  have l1 : [hSum s a b].length = 1 := rfl
  have l4 : (adW a b).length = 4 := rfl
  rw [l1, l4]
  by_cases c5 : j = 5
  · subst c5; rw [if_pos (by omega), if_pos rfl]; simp
  rw [if_neg (by omega), if_neg c5]
  by_cases c6 : 6 ≤ j ∧ j < 10
  · rw [if_pos (by omega), if_pos c6]
  rw [if_neg (by omega), if_neg c6]
  by_cases c4 : j = 4
  · subst c4
    rw [if_pos rfl, if_pos rfl]
    show (bt s 8 - 1) * 256 + bt s 9 = bt s 8 * 256 + bt s 9 - 256
    omega
  · rw [if_neg c4, if_neg c4]
theorem tot10 (x : ByteArray) : tot x 10 = 0 + g16 x 0 + g16 x 2 + g16 x 4 + g16 x 6 + g16 x 8 + g16 x 10 + g16 x 12 + g16 x 14 + g16 x 16 + g16 x 18 := rfl
theorem headC_all {s : ByteArray} {a b : Int} (h : 20 ≤ s.size) (ht : 2 ≤ bt s 8) (hc : okC a 0 b 0) :
    g16 (headC s a b) 0 = g16 s 0 ∧ g16 (headC s a b) 2 = g16 s 2 ∧ g16 (headC s a b) 4 = g16 s 4 ∧ g16 (headC s a b) 6 = g16 s 6 ∧ g16 (headC s a b) 8 = g16 s 8 - 256 ∧ g16 (headC s a b) 10 = hSum s a b ∧ g16 (headC s a b) 12 = a / 65536 ∧ g16 (headC s a b) 14 = a % 65536 ∧ g16 (headC s a b) 16 = b / 65536 ∧ g16 (headC s a b) 18 = b % 65536 := by
  have W := headC_word h ht hc
  exact ⟨(W 0).trans (by simp), (W 1).trans (by simp), (W 2).trans (by simp), (W 3).trans (by simp), (W 4).trans (by simp), (W 5).trans (by simp), (W 6).trans (by simp [adW]), (W 7).trans (by simp [adW]), (W 8).trans (by simp [adW]), (W 9).trans (by simp [adW])⟩
theorem headC_holds {s : ByteArray} {a b : Int} (h : 20 ≤ s.size) (ht : 2 ≤ bt s 8) (hc : okC a 0 b 0) (h0 : 0 < g16 s 0) (hh : holdsV [s] = true) : holdsV [headC s a b] = true := by
  have W := headC_word h ht hc
  have T := totT_same (headC s a b) s (headC_size h) 10 (by rw [headC_size h]; omega) (fun j hj => by rw [W j, if_neg (by omega), if_neg (by omega), if_neg (by omega)])
  obtain ⟨w0, w1, w2, w3, w4, w5, w6, w7, w8, w9⟩ := headC_all h ht hc
  rw [tot10, tot10, w0, w1, w2, w3, w4, w5, w6, w7, w8, w9] at T
  have md := hSum_mod s a b
  have p := totT_nonneg (headC s a b)
  rw [holds1, decide_eq_true_iff] at hh ⊢
  have hx : tot (headC s a b) 10 ≤ totT (headC s a b) := by
    have k := totT_same (headC s a b) (headC s a b) rfl 10 (by rw [headC_size h]; omega) (fun _ _ => rfl)
    have z : half (headC s a b) = 10 + (half (headC s a b) - 10) := by unfold half; rw [headC_size h]; omega
    unfold totT
    rw [z]
    generalize half (headC s a b) - 10 = r
    clear k z T W md p hh w0 w1 w2 w3 w4 w5 w6 w7 w8 w9
    induction r with
    | zero => exact Int.le_refl _
    | succ r ih => have := g16_nonneg (headC s a b) (2 * (10 + r)); show _ ≤ tot (headC s a b) (10 + r) + g16 (headC s a b) (2 * (10 + r)); omega
  rw [tot10, w0, w1, w2, w3, w4, w5, w6, w7, w8, w9] at hx
  have bd := hSum_bd ht hc
  have q1 := g16_nonneg s 2
  have q2 := g16_nonneg s 4
  have q3 := g16_nonneg s 6
  have q4 := g16_hi ht
  obtain ⟨c0, c1, c2, c3, c4, c5, c6, c7⟩ := hc
  refine ⟨by omega, ?_⟩
  omega
structure RwF (s t : ByteArray) (a m b n : Int) (N : Nat) : Prop where
  len : g16 s 2 = (N : Int)
  le : N ≤ s.size
  size : t.size = N
  own0 : 20 ≤ ownN s
  own1 : ownN s ≤ N
  own4 : ownN s % 4 = 0
  own : ownN t = ownN s
  b0 : bt t 0 = bt s 0
  b8 : bt t 8 = bt s 8 - 1
  b9 : bt t 9 = bt s 9
  w1 : g16 t 2 = (N : Int)
  a12 : g32 t 12 = a
  a16 : g32 t 16 = b
  wlow : ∀ j, j < 4 → g16 t (2 * j) = g16 s (2 * j)
  whigh : ∀ j, 10 ≤ j → 2 * j < ownN s → g16 t (2 * j) = g16 s (2 * j)
  wload : ∀ i, g16 t (ownN s + 2 * i) = g16 (ldC (bt s 9) (pP s) (g32 s 12) (g32 s 16) a m b n) (2 * i)
  load : pP t = ldC (bt s 9) (pP s) (g32 s 12) (g32 s 16) a m b n
  holds : holdsV [t.extract 0 (ownN s)] = true
  ip : pR t = 0
  seen : seenR t = 0
theorem ownN_four (s : ByteArray) : ownN s % 4 = 0 := by unfold ownN; omega
theorem okC_of (s : ByteArray) : okC (g32 s 12) 0 (g32 s 16) 0 := by
  have := g16_nonneg s 12; have := g16_le s 12; have := g16_nonneg s (12 + 2); have := g16_le s (12 + 2)
  have := g16_nonneg s 16; have := g16_le s 16; have := g16_nonneg s (16 + 2); have := g16_le s (16 + 2)
  have e1 := g32_two s 12
  have e2 := g32_two s 16
  exact ⟨by omega, by omega, by omega, by omega, by omega, by omega, by omega, by omega⟩
theorem rw_facts {s : ByteArray} (h : rwR s = 0) {a m b n : Int} (hc : okC a m b n) : ∃ N : Nat, RwF s (rwB s a m b n) a m b n N := by
  obtain ⟨hs, ht⟩ := rw_zero h
  obtain ⟨hp, ho⟩ := seen_ip hs
  obtain ⟨f1, f2, f3, f4, f5, f6, f7, f8, f9⟩ := ip_facts hp
  obtain ⟨N, hN⟩ : ∃ N : Nat, g16 s 2 = (N : Int) := ⟨(g16 s 2).toNat, by have := g16_nonneg s 2; omega⟩
  refine ⟨N, ?_⟩
  rw [hN] at f5 f6 f7
  have hq := okC_of s
  have pz : (pP s).size = N - ownN s := by
    obtain ⟨_, _, _, y4⟩ := p_yes hp
    rw [y4, hN, Int.toNat_natCast]
    exact size_extract' s (ownN s) N (by omega) (by omega)
  have Z := ld_size ho (g32 s 12) (g32 s 16) a m b n
  have S := ld_seen ho hq hc
  have o4 := ownN_four s
  have zh := size_extract' s 0 (ownN s) (Nat.zero_le _) f4
  have bh : ∀ i, i < ownN s → bt (s.extract 0 (ownN s)) i = bt s i := fun i hi => bt_ext0 s _ i hi f4
  have gh : ∀ i, i + 1 < ownN s → g16 (s.extract 0 (ownN s)) i = g16 s i := fun i hi => g16_ext0 s _ i hi f4
  have t8 : 2 ≤ bt (s.extract 0 (ownN s)) 8 := by rw [bh 8 (by omega)]; exact ht
  have zx := headC_size (s := s.extract 0 (ownN s)) (a := a) (b := b) (by omega)
  have A := headC_all (s := s.extract 0 (ownN s)) (by omega) t8 (okC_ad hc)
  have W := headC_word (s := s.extract 0 (ownN s)) (by omega) t8 (okC_ad hc)
  have b0p := bt_nonneg s (0 + 1)
  have hg0 : 0 < g16 s 0 := by unfold g16; omega
  have H := headC_holds (s := s.extract 0 (ownN s)) (by omega) t8 (okC_ad hc) (by rw [gh 0 (by omega)]; exact hg0) f8
  obtain ⟨w0, w1, w2, w3, w4, w5, w6, w7, w8, w9⟩ := A
  rw [gh 0 (by omega)] at w0
  rw [gh 2 (by omega)] at w1
  rw [gh 4 (by omega)] at w2
  rw [gh 6 (by omega)] at w3
  rw [gh 8 (by omega)] at w4
  have e : rwB s a m b n = headC (s.extract 0 (ownN s)) a b ++ ldC (bt s 9) (pP s) (g32 s 12) (g32 s 16) a m b n := by unfold rwB; rw [if_pos h]
  obtain ⟨Y, hY⟩ : ∃ Y, ldC (bt s 9) (pP s) (g32 s 12) (g32 s 16) a m b n = Y := ⟨_, rfl⟩
  obtain ⟨X, hX⟩ : ∃ X, headC (s.extract 0 (ownN s)) a b = X := ⟨_, rfl⟩
  rw [hX] at zx W H w0 w1 w2 w3 w4 w5 w6 w7 w8 w9 e
  rw [hY] at Z S e
  rw [e]
  have zX : X.size = ownN s := by omega
  have zt : (X ++ Y).size = N := by rw [ByteArray.size_append]; omega
  have gl : ∀ i, i + 1 < ownN s → g16 (X ++ Y) i = g16 X i := fun i hi => g16_app_l X Y i (by omega)
  have c0 : g16 (X ++ Y) 0 = g16 s 0 := by rw [gl 0 (by omega), w0]
  have c1 : g16 (X ++ Y) 2 = (N : Int) := by rw [gl 2 (by omega), w1, hN]
  have c3 : g16 (X ++ Y) 6 = g16 s 6 := by rw [gl 6 (by omega), w3]
  have c4 : g16 (X ++ Y) 8 = g16 s 8 - 256 := by rw [gl 8 (by omega), w4]
  have d0 := (bt_w0 0 c0).1
  have d8 : bt (X ++ Y) 8 = bt s 8 - 1 := by rw [bt_hi, bt_hi s, c4]; omega
  have d9 : bt (X ++ Y) 9 = bt s 9 := by
    have e1 := bt_lo (X ++ Y) 8
    have e2 := bt_lo s 8
    rw [c4] at e1
    rw [show (9 : Nat) = 8 + 1 by rfl, e1, e2]; omega
  have ow : ownN (X ++ Y) = ownN s := by unfold ownN; rw [d0]
  have hh : (X ++ Y).extract 0 (ownN s) = X := by rw [← zX]; exact ext_app_l X Y
  have ip : pR (X ++ Y) = 0 := by
    refine ip_zero (by omega) (by rw [d0]; exact f2) (by omega) (by omega) (by rw [ow, c1]; omega) (by rw [c1, zt]; exact Int.le_refl _) (by rw [c1]; omega) (by rw [ow, hh]; exact H) (by rw [c3]; exact f9)
  have pl : pP (X ++ Y) = Y := by
    obtain ⟨_, _, _, y4⟩ := p_yes ip
    rw [y4, ow, c1, Int.toNat_natCast]
    have k := ext_app_r X Y 0 Y.size
    rw [zX, Nat.add_zero, ext_all, show ownN s + Y.size = N by omega] at k
    exact k
  refine ⟨hN, by omega, zt, f3, by omega, o4, ow, d0, d8, d9, c1, ?_, ?_, ?_, ?_, ?_, ?_, by rw [hh]; exact H, ip, seen_of ip ?_⟩
  · rw [g32_two, gl 12 (by omega), w6, gl (12 + 2) (by omega), w7]
    obtain ⟨q0, q1, _⟩ := hc
    omega
  · rw [g32_two, gl 16 (by omega), w8, gl (16 + 2) (by omega), w9]
    obtain ⟨q0, q1, _, _, q4, q5, _⟩ := hc
    omega
  · intro j hj
    rw [gl _ (by omega), W, if_neg (by omega), if_neg (by omega), if_neg (by omega), gh _ (by omega)]
  · intro j hj hjo
    rw [gl _ (by omega), W, if_neg (by omega), if_neg (by omega), if_neg (by omega), gh _ (by omega)]
  · intro i
    rw [hY, ← zX]
    exact g16_app_r X Y (2 * i)
  · rw [hY]; exact pl
  · rw [pl, d9]; exact S.1
theorem ext_addrs {s : ByteArray} (h : 20 ≤ s.size) : s.extract 12 20 = strOfNums (wordL (adW (g32 s 12) (g32 s 16))) := by
  have k : s.extract 12 20 = strOfNums (wordL (wsOf s 6 4)) := ext_words s 6 4 (by omega)
  rw [k]
  have e : wsOf s 6 4 = adW (g32 s 12) (g32 s 16) := by
    have l1 := g16_nonneg s (12 + 2); have l2 := g16_le s (12 + 2)
    have m1 := g16_nonneg s (16 + 2); have m2 := g16_le s (16 + 2)
    show [g16 s 12, g16 s (12 + 2), g16 s 16, g16 s (16 + 2)] = _
    unfold adW
    rw [g32_two, g32_two]
    have e1 : (g16 s 12 * 65536 + g16 s (12 + 2)) / 65536 = g16 s 12 := by omega
    have e2 : (g16 s 12 * 65536 + g16 s (12 + 2)) % 65536 = g16 s (12 + 2) := by omega
    have e3 : (g16 s 16 * 65536 + g16 s (16 + 2)) / 65536 = g16 s 16 := by omega
    have e4 : (g16 s 16 * 65536 + g16 s (16 + 2)) % 65536 = g16 s (16 + 2) := by omega
    rw [e1, e2, e3, e4]
  rw [e]
/-- A header's sum, text by text. -/
def h1B (s : ByteArray) : ByteArray := withB s 8 (strOfNums [bt s 8 - 1])
def h2B (s : ByteArray) (a b : Int) : ByteArray := withB (h1B s) 12 (strOfNums (wordL (adW a b)))
theorem h1B_size {s : ByteArray} (h : 20 ≤ s.size) : (h1B s).size = s.size := size_withB s 8 _ (by rw [strOfNums_size]; show 8 + 1 ≤ _; omega)
theorem h2B_size {s : ByteArray} {a b : Int} (h : 20 ≤ s.size) : (h2B s a b).size = s.size := by
  unfold h2B
  rw [size_withW _ _ _ (by rw [h1B_size h]; show 12 + 2 * 4 ≤ _; omega), h1B_size h]
theorem h2B_word {s : ByteArray} {a b : Int} (h : 20 ≤ s.size) (ht : 2 ≤ bt s 8) (hc : okC a 0 b 0) (j : Nat) : g16 (h2B s a b) (2 * j) = if 6 ≤ j ∧ j < 10 then (adW a b).getD (j - 6) 0 else if j = 4 then g16 s 8 - 256 else g16 s (2 * j) := by
  have t0 := bt_le s 8
  have k1 : g16 (h1B s) (2 * j) = _ := g16_with1 s (bt s 8 - 1) 4 j (by omega) (by omega) (by omega)
  have k2 : g16 (h2B s a b) (2 * j) = _ := g16_with _ (adW a b) 6 j (adW_wf hc) (by rw [h1B_size h]; show 2 * 6 + 2 * 4 ≤ _; omega)
  rw [k2, k1]
  have l4 : (adW a b).length = 4 := rfl
  rw [l4]
  by_cases c6 : 6 ≤ j ∧ j < 10
  · rw [if_pos (by omega), if_pos c6]
  rw [if_neg (by omega), if_neg c6]
  by_cases c4 : j = 4
  · subst c4
    rw [if_pos rfl, if_pos rfl]
    show (bt s 8 - 1) * 256 + bt s 9 = bt s 8 * 256 + bt s 9 - 256
    omega
  · rw [if_neg c4, if_neg c4]
theorem ws5 (x : ByteArray) : wsOf x 4 1 ++ wsOf x 6 4 = [g16 x 8, g16 x 12, g16 x 14, g16 x 16, g16 x 18] := rfl
theorem hSum_V {s : ByteArray} {a b : Int} (h : 20 ≤ s.size) (ht : 2 ≤ bt s 8) (hc : okC a 0 b 0) : updV (g16 s 10) (s.extract 8 10 ++ s.extract 12 20) ((h2B s a b).extract 8 10 ++ (h2B s a b).extract 12 20) = hSum s a b := by
  have W := fun j => h2B_word h ht hc j
  have z := h2B_size (a := a) (b := b) h
  have k1 : s.extract 8 10 = strOfNums (wordL (wsOf s 4 1)) := ext_words s 4 1 (by omega)
  have k2 : s.extract 12 20 = strOfNums (wordL (wsOf s 6 4)) := ext_words s 6 4 (by omega)
  have k3 : (h2B s a b).extract 8 10 = strOfNums (wordL (wsOf (h2B s a b) 4 1)) := ext_words _ 4 1 (by rw [z]; omega)
  have k4 : (h2B s a b).extract 12 20 = strOfNums (wordL (wsOf (h2B s a b) 6 4)) := ext_words _ 6 4 (by rw [z]; omega)
  have wf : ∀ (x : ByteArray), ∀ y ∈ wsOf x 4 1 ++ wsOf x 6 4, 0 ≤ y ∧ y ≤ 65535 := fun x y hy => (List.mem_append.1 hy).elim (wsOf_wf x 1 4 y) (wsOf_wf x 4 6 y)
  rw [k1, k2, k3, k4, W_app, W_app, updV_L _ (wsOf s 4 1 ++ wsOf s 6 4) (wsOf (h2B s a b) 4 1 ++ wsOf (h2B s a b) 6 4) (by rw [List.length_append, List.length_append, wsOf_len, wsOf_len, wsOf_len, wsOf_len]) (wf _) (wf _)]
  have w4 : g16 (h2B s a b) 8 = g16 s 8 - 256 := (W 4).trans (by simp)
  have w6 : g16 (h2B s a b) 12 = a / 65536 := (W 6).trans (by simp [adW])
  have w7 : g16 (h2B s a b) 14 = a % 65536 := (W 7).trans (by simp [adW])
  have w8 : g16 (h2B s a b) 16 = b / 65536 := (W 8).trans (by simp [adW])
  have w9 : g16 (h2B s a b) 18 = b % 65536 := (W 9).trans (by simp [adW])
  rw [ws5, ws5, w4, w6, w7, w8, w9]
  clear W z k1 k2 k3 k4 wf w4 w6 w7 w8 w9
  unfold hSum hL
  simp only [List.zip_cons_cons, List.zip_nil_right]
/-- The sum of what has ports, text by text. -/
theorem pSum_V {L : ByteArray} {k : Nat} {oa ob a m b n : Int} (h : 4 ≤ L.size) (ho : okC oa 0 ob 0) (hc : okC a m b n) : updV (g16 L k) (strOfNums (wordL (adW oa ob)) ++ L.extract 0 4) (strOfNums (wordL (adW a b)) ++ strOfNums (wordL [m, n])) = pSum L k oa ob a m b n := by
  have k1 : L.extract 0 4 = strOfNums (wordL (wsOf L 0 2)) := ext_words L 0 2 (by omega)
  have hw := hc
  obtain ⟨h0, h1, h2, h3, h4, h5, h6, h7⟩ := hc
  rw [k1, W_app, W_app, updV_L _ (adW oa ob ++ wsOf L 0 2) (adW a b ++ [m, n]) (by rw [List.length_append, List.length_append, wsOf_len]; rfl) (fun y hy => (List.mem_append.1 hy).elim (adW_wf ho y) (wsOf_wf L 2 0 y)) (fun y hy => (List.mem_append.1 hy).elim (adW_wf (okC_ad hw) y) (two_wf h2 h3 h6 h7 y))]
  rfl
theorem RwF.sizeW {s t : ByteArray} {a m b n : Int} {N : Nat} (R : RwF s t a m b n N) : t.size = ownN t + (pP t).size := by
  obtain ⟨_, _, _, y4⟩ := p_yes R.ip
  rw [y4, R.w1, Int.toNat_natCast, R.own, size_extract' t (ownN s) N R.own1 (by rw [R.size]; exact Nat.le_refl _), R.size]
  have := R.own1
  omega
end Go.Proofs.YtbpicngbjggblaaGreatDoor
