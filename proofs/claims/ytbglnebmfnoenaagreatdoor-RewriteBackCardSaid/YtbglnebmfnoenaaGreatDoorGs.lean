/- Texts of this proof, together: RewP, RewQ, RewR, RewS, RewT, RewU, RewV, RewX, RewW. -/
import Derived.Test.YtbglnebmfnoenaaGreatDoorGj
import Derived.Test.YtbglnebmfnoenaaGreatDoorGa
import Derived.Test.YtbglnebmfnoenaaGreatDoorGm
import Derived.Test.YtbglnebmfnoenaaGreatDoorGh
import Derived.Test.YtbglnebmfnoenaaGreatDoorGx
namespace Go.Proofs.YtbglnebmfnoenaaGreatDoor
set_option linter.unusedVariables false
set_option linter.unusedSimpArgs false
open Go.ChangeShapes Go.WideShapes Go.ChangeAt Go.RowKit Go.PlainAid
theorem bt_out (s : ByteArray) (k : Nat) (h : s.size ≤ k) : bt s k = 0 := by unfold bt; rw [dif_neg (by omega)]
theorem bt_with (s p : ByteArray) (k i : Nat) (h : k + p.size ≤ s.size) : bt (withB s k p) i = if k ≤ i ∧ i < k + p.size then bt p (i - k) else bt s i := by
  rw [bt_eq, bt_eq s, bt_eq p, data_withB s k p h]
  have l := len_data s
  have lp := len_data p
  have lt : (s.data.toList.take k).length = k := by rw [List.length_take]; omega
  by_cases c0 : i < k
  · rw [if_neg (by omega), List.append_assoc, getD_app_l _ _ _ _ (by omega)]
    simp [List.getD, List.getElem?_take, c0]
  · by_cases c1 : i < k + p.size
    · rw [if_pos ⟨by omega, c1⟩, List.append_assoc, getD_app_r _ _ _ _ (by omega), lt, getD_app_l _ _ _ _ (by omega)]
    · rw [if_neg (by omega), getD_app_r _ _ _ _ (by rw [List.length_append, lt]; omega)]
      rw [List.length_append, lt, lp]
      simp only [List.getD, List.getElem?_drop]
      rw [show k + p.size + (i - (k + p.size)) = i by omega]
theorem g16_with (s : ByteArray) (zs : List Int) (q j : Nat) (hz : ∀ n ∈ zs, 0 ≤ n ∧ n ≤ 65535) (h : 2 * q + 2 * zs.length ≤ s.size) : g16 (withB s (2 * q) (strOfNums (wordL zs))) (2 * j) = if q ≤ j ∧ j < q + zs.length then zs.getD (j - q) 0 else g16 s (2 * j) := by
  have hp := size_W zs
  by_cases c : q ≤ j ∧ j < q + zs.length
  · rw [if_pos c, ← g16_W zs hz (j - q)]
    unfold g16
    rw [bt_with _ _ _ _ (by omega), bt_with _ _ _ _ (by omega), if_pos (by omega), if_pos (by omega), show 2 * j - 2 * q = 2 * (j - q) by omega, show 2 * j + 1 - 2 * q = 2 * (j - q) + 1 by omega]
  · rw [if_neg c]
    unfold g16
    rw [bt_with _ _ _ _ (by omega), bt_with _ _ _ _ (by omega), if_neg (by omega), if_neg (by omega)]
theorem size_withW (s : ByteArray) (zs : List Int) (k : Nat) (h : k + 2 * zs.length ≤ s.size) : (withB s k (strOfNums (wordL zs))).size = s.size := size_withB s k _ (by rw [size_W]; omega)
/-- One byte of a word. -/
theorem g16_with1 (s : ByteArray) (v : Int) (q j : Nat) (v0 : 0 ≤ v) (v1 : v ≤ 255) (h : 2 * q + 1 ≤ s.size) : g16 (withB s (2 * q) (strOfNums [v])) (2 * j) = if j = q then v * 256 + bt s (2 * q + 1) else g16 s (2 * j) := by
  have hp : (strOfNums [v]).size = 1 := by rw [strOfNums_size]; rfl
  have hv : ∀ x ∈ [v], 0 ≤ x ∧ x ≤ 255 := by intro x hx; simp at hx; omega
  unfold g16
  rw [bt_with _ _ _ _ (by omega), bt_with _ _ _ _ (by omega), hp]
  by_cases c : j = q
  · subst c
    rw [if_pos (by omega), if_neg (by omega), if_pos rfl, bt_nums _ _ hv, show 2 * j - 2 * j = 0 by omega]
    rfl
  · rw [if_neg (by omega), if_neg (by omega), if_neg c]
theorem ba_w {a b : ByteArray} (hz : a.size = b.size) (h : ∀ j, 2 * j < a.size → g16 a (2 * j) = g16 b (2 * j)) : a = b := by
  refine ba_bt hz fun i hi => ?_
  have e : i = 2 * (i / 2) ∨ i = 2 * (i / 2) + 1 := by omega
  rcases e with e | e
  · rw [e, bt_hi, bt_hi, h _ (by omega)]
  · rw [e, bt_lo, bt_lo, h _ (by omega)]
theorem tot_same (x y : ByteArray) (k : Nat) (h : ∀ j, k ≤ j → g16 x (2 * j) = g16 y (2 * j)) : ∀ i, tot x (k + i) - tot x k = tot y (k + i) - tot y k
  | 0 => by simp
  | i + 1 => by
    have e := tot_same x y k h i
    show tot x (k + i) + g16 x (2 * (k + i)) - tot x k = tot y (k + i) + g16 y (2 * (k + i)) - tot y k
    rw [h (k + i) (by omega)]; omega
theorem totT_same (x y : ByteArray) (hz : x.size = y.size) (k : Nat) (hk : 2 * k ≤ x.size) (h : ∀ j, k ≤ j → g16 x (2 * j) = g16 y (2 * j)) : totT x - tot x k = totT y - tot y k := by
  unfold totT half
  rw [hz]
  obtain ⟨i, hi⟩ : ∃ i, (y.size + 1) / 2 = k + i := ⟨(y.size + 1) / 2 - k, by omega⟩
  rw [hi]
  exact tot_same x y k h i
/-- A sum that goes along with several words. -/
def updL : Int → List (Int × Int) → Int
  | n, [] => n
  | n, x :: r => updL (updW n x.1 x.2) r
def okL (l : List (Int × Int)) : Prop := ∀ x ∈ l, 0 ≤ x.1 ∧ x.1 ≤ 65535 ∧ 0 ≤ x.2 ∧ x.2 ≤ 65535
theorem updL_bd : ∀ (l : List (Int × Int)) (n : Int), okL l → 0 ≤ n → n ≤ 65535 → 0 ≤ updL n l ∧ updL n l ≤ 65535
  | [], n, _, h0, h1 => ⟨h0, h1⟩
  | x :: r, n, h, h0, h1 => by
    obtain ⟨a, b, c, d⟩ := h x (by simp)
    have k := updW_bd h0 h1 a b c d
    exact updL_bd r _ (fun y hy => h y (by simp [hy])) k.1 k.2
def sumF (l : List (Int × Int)) : Int := (l.map Prod.fst).sum
def sumT (l : List (Int × Int)) : Int := (l.map Prod.snd).sum
theorem updL_mod : ∀ (l : List (Int × Int)) (n : Int), (updL n l + sumT l) % 65535 = (n + sumF l) % 65535
  | [], n => rfl
  | x :: r, n => by
    have k := updL_mod r (updW n x.1 x.2)
    have m := updW_mod (n := n) (f := x.1) (t := x.2)
    show (updL (updW n x.1 x.2) r + sumT (x :: r)) % 65535 = (n + sumF (x :: r)) % 65535
    have e1 : sumT (x :: r) = x.2 + sumT r := by simp [sumT]
    have e2 : sumF (x :: r) = x.1 + sumF r := by simp [sumF]
    rw [e1, e2]
    omega
theorem updL_snoc : ∀ (l : List (Int × Int)) (n : Int) (x : Int × Int), updL n (l ++ [x]) = updW (updL n l) x.1 x.2
  | [], n, x => rfl
  | y :: r, n, x => updL_snoc r _ x
theorem updV_L (n : Int) (fs ts : List Int) (hl : fs.length = ts.length) (hf : ∀ x ∈ fs, 0 ≤ x ∧ x ≤ 65535) (ht : ∀ x ∈ ts, 0 ≤ x ∧ x ≤ 65535) : updV n (strOfNums (wordL fs)) (strOfNums (wordL ts)) = updL n (fs.zip ts) := by
  have key : ∀ i, i ≤ fs.length → updWs n (strOfNums (wordL fs)) (strOfNums (wordL ts)) i = updL n ((fs.zip ts).take i) := by
    intro i
    induction i with
    | zero => intro _; simp [updWs, updL]
    | succ i ih =>
      intro hi
      have hz : i < (fs.zip ts).length := by rw [List.length_zip]; omega
      show updW (updWs n _ _ i) (g16 _ (2 * i)) (g16 _ (2 * i)) = _
      rw [ih (by omega), g16_W fs hf, g16_W ts ht, List.take_add_one, List.getElem?_eq_getElem hz]
      show _ = updL n (List.take i (fs.zip ts) ++ [(fs.zip ts)[i]])
      rw [updL_snoc, List.getElem_zip]
      simp [List.getD, show i < fs.length by omega, show i < ts.length by omega]
  unfold updV
  rw [if_neg (by rw [size_W, size_W, hl]; omega), size_W, show 2 * fs.length / 2 = fs.length by omega, key _ (Nat.le_refl _), List.take_of_length_le (by rw [List.length_zip]; omega)]
/-- Words of a text. -/
def wsOf (s : ByteArray) (q : Nat) : Nat → List Int
  | 0 => []
  | k + 1 => g16 s (2 * q) :: wsOf s (q + 1) k
theorem wsOf_wf (s : ByteArray) : ∀ (k q : Nat), ∀ x ∈ wsOf s q k, 0 ≤ x ∧ x ≤ 65535
  | 0, q, x, h => by cases h
  | k + 1, q, x, h => by
    rcases List.mem_cons.1 h with rfl | h
    · exact ⟨g16_nonneg _ _, g16_le _ _⟩
    · exact wsOf_wf s k (q + 1) x h
theorem wsOf_len (s : ByteArray) : ∀ (k q : Nat), (wsOf s q k).length = k
  | 0, q => rfl
  | k + 1, q => by show (wsOf s (q + 1) k).length + 1 = k + 1; rw [wsOf_len s k]
theorem wsOf_get (s : ByteArray) : ∀ (k q i : Nat), i < k → (wsOf s q k).getD i 0 = g16 s (2 * (q + i))
  | 0, q, i, h => by omega
  | k + 1, q, 0, h => rfl
  | k + 1, q, i + 1, h => by
    show (wsOf s (q + 1) k).getD i 0 = _
    rw [wsOf_get s k (q + 1) i (by omega), show q + 1 + i = q + (i + 1) by omega]
theorem ext_words (s : ByteArray) (q k : Nat) (h : 2 * q + 2 * k ≤ s.size) : s.extract (2 * q) (2 * q + 2 * k) = strOfNums (wordL (wsOf s q k)) := by
  have hz := size_extract' s (2 * q) (2 * q + 2 * k) (by omega) h
  refine ba_w (by rw [hz, size_W, wsOf_len]; omega) fun j hj => ?_
  rw [hz] at hj
  rw [g16_W _ (wsOf_wf s k q), wsOf_get s k q j (by omega)]
  unfold g16
  rw [bt_ext s _ _ _ (by omega) h, bt_ext s _ _ _ (by omega) h, show 2 * q + 2 * j = 2 * (q + j) by omega, show 2 * q + (2 * j + 1) = 2 * (q + j) + 1 by omega]
theorem W_app (a b : List Int) : strOfNums (wordL a) ++ strOfNums (wordL b) = strOfNums (wordL (a ++ b)) := by
  rw [show wordL (a ++ b) = wordL a ++ wordL b by simp [wordL]]
  apply ba_ext
  simp [strOfNums]
end Go.Proofs.YtbglnebmfnoenaaGreatDoor

namespace Go.Proofs.YtbglnebmfnoenaaGreatDoor
set_option linter.unusedVariables false
set_option linter.unusedSimpArgs false
open Go.ChangeShapes Go.WideShapes Go.ChangeAt Go.RowKit Go.PlainAid
def adW (a b : Int) : List Int := [a / 65536, a % 65536, b / 65536, b % 65536]
def adL (oa ob a b : Int) : List (Int × Int) := [(oa / 65536, a / 65536), (oa % 65536, a % 65536), (ob / 65536, b / 65536), (ob % 65536, b % 65536)]
/-- What ports' sum goes along with; the sum (of TCP; of UDP); what is carried, changed. -/
def ptL (L : ByteArray) (oa ob a m b n : Int) : List (Int × Int) := adL oa ob a b ++ [(g16 L 0, m), (g16 L 2, n)]
def pSum (L : ByteArray) (k : Nat) (oa ob a m b n : Int) : Int := updL (g16 L k) (ptL L oa ob a m b n)
def uSum (L : ByteArray) (oa ob a m b n : Int) : Int := if g16 L 6 = 0 then 0 else if pSum L 6 oa ob a m b n = 0 then 65535 else pSum L 6 oa ob a m b n
def ptC (L : ByteArray) (k : Nat) (m n v : Int) : ByteArray := withB (withB L 0 (strOfNums (wordL [m, n]))) k (strOfNums (wordL [v]))
def icC (L : ByteArray) (id : Int) : ByteArray := withB (withB L 4 (strOfNums (wordL [id]))) 2 (strOfNums (wordL [updW (g16 L 2) (g16 L 4) id]))
def ldC (pr : Int) (L : ByteArray) (oa ob a m b n : Int) : ByteArray :=
  if pr = 6 then ptC L 16 m n (pSum L 16 oa ob a m b n) else if pr = 17 then ptC L 6 m n (uSum L oa ob a m b n)
  else if qIs (bt L 0) (bt L 1) = true then icC L (if qAsk (bt L 0) (bt L 1) = true then m else n) else L
/-- Numbers that addresses and ports may be. -/
def okC (a m b n : Int) : Prop := 0 ≤ a ∧ a ≤ 4294967295 ∧ 0 ≤ m ∧ m ≤ 65535 ∧ 0 ≤ b ∧ b ≤ 4294967295 ∧ 0 ≤ n ∧ n ≤ 65535
theorem ptL_ok {L : ByteArray} {oa ob a m b n : Int} (ho : okC oa 0 ob 0) (h : okC a m b n) : okL (ptL L oa ob a m b n) := by
  have g0 := g16_nonneg L 0
  have g1 := g16_le L 0
  have g2 := g16_nonneg L 2
  have g3 := g16_le L 2
  obtain ⟨o0, o1, _, _, o4, o5, _, _⟩ := ho
  obtain ⟨h0, h1, h2, h3, h4, h5, h6, h7⟩ := h
  intro x hx
  simp only [ptL, adL, List.cons_append, List.nil_append, List.mem_cons, List.not_mem_nil, or_false] at hx
  rcases hx with rfl | rfl | rfl | rfl | rfl | rfl <;> (simp only; omega)
theorem pSum_bd {L : ByteArray} {k : Nat} {oa ob a m b n : Int} (ho : okC oa 0 ob 0) (h : okC a m b n) : 0 ≤ pSum L k oa ob a m b n ∧ pSum L k oa ob a m b n ≤ 65535 := updL_bd _ _ (ptL_ok ho h) (g16_nonneg _ _) (g16_le _ _)
theorem pSum_mod (L : ByteArray) (k : Nat) (oa ob a m b n : Int) : (pSum L k oa ob a m b n + (a / 65536 + a % 65536 + b / 65536 + b % 65536 + m + n)) % 65535 = (g16 L k + (oa / 65536 + oa % 65536 + ob / 65536 + ob % 65536 + g16 L 0 + g16 L 2)) % 65535 := by
  have h := updL_mod (ptL L oa ob a m b n) (g16 L k)
  have e1 : sumT (ptL L oa ob a m b n) = a / 65536 + a % 65536 + b / 65536 + b % 65536 + m + n := by simp [sumT, ptL, adL]; omega
  have e2 : sumF (ptL L oa ob a m b n) = oa / 65536 + oa % 65536 + ob / 65536 + ob % 65536 + g16 L 0 + g16 L 2 := by simp [sumF, ptL, adL]; omega
  rw [e1, e2] at h
  exact h
theorem uSum_bd {L : ByteArray} {oa ob a m b n : Int} (ho : okC oa 0 ob 0) (h : okC a m b n) : 0 ≤ uSum L oa ob a m b n ∧ uSum L oa ob a m b n ≤ 65535 := by
  have := pSum_bd (L := L) (k := 6) ho h
  unfold uSum
  split
  · omega
  · split <;> omega
theorem one_wf {v : Int} (h0 : 0 ≤ v) (h1 : v ≤ 65535) : ∀ x ∈ [v], 0 ≤ x ∧ x ≤ 65535 := by intro x hx; simp at hx; omega
theorem two_wf {u v : Int} (a0 : 0 ≤ u) (a1 : u ≤ 65535) (h0 : 0 ≤ v) (h1 : v ≤ 65535) : ∀ x ∈ [u, v], 0 ≤ x ∧ x ≤ 65535 := by intro x hx; simp at hx; omega
/-- The words of what TCP and UDP carry, changed. -/
theorem ptC_size {L : ByteArray} {q : Nat} {m n v : Int} (h : 2 * q + 2 ≤ L.size) (h4 : 4 ≤ L.size) : (ptC L (2 * q) m n v).size = L.size := by
  unfold ptC
  have e := size_withW L [m, n] 0 (by simpa using h4)
  rw [size_withW _ [v] _ (by rw [e]; simpa using h), e]
theorem ptC_word {L : ByteArray} {q : Nat} {m n v : Int} (hq : 2 ≤ q) (h : 2 * q + 2 ≤ L.size) (m0 : 0 ≤ m) (m1 : m ≤ 65535) (n0 : 0 ≤ n) (n1 : n ≤ 65535) (v0 : 0 ≤ v) (v1 : v ≤ 65535) (j : Nat) :
    g16 (ptC L (2 * q) m n v) (2 * j) = if j = q then v else if j = 0 then m else if j = 1 then n else g16 L (2 * j) := by
  have e := size_withW L [m, n] 0 (by simp only [List.length_cons, List.length_nil]; omega)
  have k1 := g16_with L [m, n] 0 j (two_wf m0 m1 n0 n1) (by simp only [List.length_cons, List.length_nil]; omega)
  have k2 := g16_with (withB L 0 (strOfNums (wordL [m, n]))) [v] q j (one_wf v0 v1) (by rw [e]; simp only [List.length_cons, List.length_nil]; omega)
  unfold ptC
  rw [k2]
  by_cases c : j = q
  · subst c
    rw [if_pos (by simp), if_pos rfl]
    simp
  · rw [if_neg (by simp only [List.length_cons, List.length_nil]; omega), if_neg c, k1]
    clear k1 k2 e
    by_cases c0 : j = 0
    · subst c0; rw [if_pos (by simp), if_pos rfl]; simp
    · by_cases c1 : j = 1
      · subst c1; rw [if_pos (by simp), if_neg (by omega), if_pos rfl]; simp
      · rw [if_neg (by simp only [List.length_cons, List.length_nil]; omega), if_neg c0, if_neg c1]
theorem icC_size {L : ByteArray} {id : Int} (h : 8 ≤ L.size) : (icC L id).size = L.size := by
  unfold icC
  have e := size_withW L [id] 4 (by simp only [List.length_cons, List.length_nil]; omega)
  rw [size_withW _ _ 2 (by rw [e]; simp only [List.length_cons, List.length_nil]; omega), e]
theorem icC_word {L : ByteArray} {id : Int} (h : 8 ≤ L.size) (i0 : 0 ≤ id) (i1 : id ≤ 65535) (j : Nat) :
    g16 (icC L id) (2 * j) = if j = 1 then updW (g16 L 2) (g16 L 4) id else if j = 2 then id else g16 L (2 * j) := by
  have b := updW_bd (g16_nonneg L 2) (g16_le L 2) (g16_nonneg L 4) (g16_le L 4) i0 i1
  have e := size_withW L [id] 4 (by simp only [List.length_cons, List.length_nil]; omega)
  have k1 := g16_with L [id] 2 j (one_wf i0 i1) (by simp only [List.length_cons, List.length_nil]; omega)
  have k2 := g16_with (withB L 4 (strOfNums (wordL [id]))) [updW (g16 L 2) (g16 L 4) id] 1 j (one_wf b.1 b.2) (by rw [e]; simp only [List.length_cons, List.length_nil]; omega)
  unfold icC
  rw [show (2 : Nat) = 2 * 1 by rfl] at *
  rw [show (4 : Nat) = 2 * 2 by rfl] at *
  rw [k2]
  by_cases c : j = 1
  · subst c
    rw [if_pos (by simp), if_pos rfl]
    simp
  · rw [if_neg (by simp only [List.length_cons, List.length_nil]; omega), if_neg c, k1]
    by_cases c2 : j = 2
    · subst c2
      rw [if_pos (by simp), if_pos rfl]; simp
    · rw [if_neg (by simp only [List.length_cons, List.length_nil]; omega), if_neg c2]
end Go.Proofs.YtbglnebmfnoenaaGreatDoor

namespace Go.Proofs.YtbglnebmfnoenaaGreatDoor
set_option linter.unusedVariables false
set_option linter.unusedSimpArgs false
open Go.ChangeShapes Go.WideShapes Go.ChangeAt Go.RowKit Go.PlainAid
theorem holds2 (p s : ByteArray) : holdsV [p, s] = decide (totT p + totT s ≠ 0 ∧ (totT p + totT s) % 65535 = 0) := by
  have h1 := totT_nonneg p
  have h2 := totT_nonneg s
  unfold holdsV
  rw [sumV_cl, totTs2, Bool.eq_iff_iff, decide_eq_true_iff, decide_eq_true_iff]
  unfold cl
  split <;> omega
theorem holds1 (s : ByteArray) : holdsV [s] = decide (totT s ≠ 0 ∧ totT s % 65535 = 0) := by
  have h2 := totT_nonneg s
  unfold holdsV
  rw [sumV_cl, totTs1, Bool.eq_iff_iff, decide_eq_true_iff, decide_eq_true_iff]
  unfold cl
  split <;> omega
theorem tot9 (x : ByteArray) : tot x 9 = 0 + g16 x 0 + g16 x 2 + g16 x 4 + g16 x 6 + g16 x 8 + g16 x 10 + g16 x 12 + g16 x 14 + g16 x 16 := rfl
theorem tot4 (x : ByteArray) : tot x 4 = 0 + g16 x 0 + g16 x 2 + g16 x 4 + g16 x 6 := rfl
theorem tot3 (x : ByteArray) : tot x 3 = 0 + g16 x 0 + g16 x 2 + g16 x 4 := rfl
theorem tcp_tot {L : ByteArray} {m n v : Int} (h : 20 ≤ L.size) (m0 : 0 ≤ m) (m1 : m ≤ 65535) (n0 : 0 ≤ n) (n1 : n ≤ 65535) (v0 : 0 ≤ v) (v1 : v ≤ 65535) :
    totT (ptC L 16 m n v) = totT L - g16 L 0 - g16 L 2 - g16 L 16 + m + n + v := by
  have W := fun j => ptC_word (L := L) (q := 8) (by omega) (by omega) m0 m1 n0 n1 v0 v1 j
  have Z := ptC_size (L := L) (q := 8) (m := m) (n := n) (v := v) (by omega) (by omega)
  rw [show (2 * 8 : Nat) = 16 by rfl] at W Z
  have T := totT_same (ptC L 16 m n v) L Z 9 (by omega) (fun j hj => by rw [W j, if_neg (by omega), if_neg (by omega), if_neg (by omega)])
  rw [tot9, tot9] at T
  have w0 : g16 (ptC L 16 m n v) 0 = m := (W 0).trans (by simp)
  have w1 : g16 (ptC L 16 m n v) 2 = n := (W 1).trans (by simp)
  have w2 : g16 (ptC L 16 m n v) 4 = g16 L 4 := (W 2).trans (by simp)
  have w3 : g16 (ptC L 16 m n v) 6 = g16 L 6 := (W 3).trans (by simp)
  have w4 : g16 (ptC L 16 m n v) 8 = g16 L 8 := (W 4).trans (by simp)
  have w5 : g16 (ptC L 16 m n v) 10 = g16 L 10 := (W 5).trans (by simp)
  have w6 : g16 (ptC L 16 m n v) 12 = g16 L 12 := (W 6).trans (by simp)
  have w7 : g16 (ptC L 16 m n v) 14 = g16 L 14 := (W 7).trans (by simp)
  have w8 : g16 (ptC L 16 m n v) 16 = v := (W 8).trans (by simp)
  rw [w0, w1, w2, w3, w4, w5, w6, w7, w8] at T
  omega
theorem udp_tot {L : ByteArray} {m n v : Int} (h : 8 ≤ L.size) (m0 : 0 ≤ m) (m1 : m ≤ 65535) (n0 : 0 ≤ n) (n1 : n ≤ 65535) (v0 : 0 ≤ v) (v1 : v ≤ 65535) :
    totT (ptC L 6 m n v) = totT L - g16 L 0 - g16 L 2 - g16 L 6 + m + n + v := by
  have W := fun j => ptC_word (L := L) (q := 3) (by omega) (by omega) m0 m1 n0 n1 v0 v1 j
  have Z := ptC_size (L := L) (q := 3) (m := m) (n := n) (v := v) (by omega) (by omega)
  rw [show (2 * 3 : Nat) = 6 by rfl] at W Z
  have T := totT_same (ptC L 6 m n v) L Z 4 (by omega) (fun j hj => by rw [W j, if_neg (by omega), if_neg (by omega), if_neg (by omega)])
  rw [tot4, tot4] at T
  have w0 : g16 (ptC L 6 m n v) 0 = m := (W 0).trans (by simp)
  have w1 : g16 (ptC L 6 m n v) 2 = n := (W 1).trans (by simp)
  have w2 : g16 (ptC L 6 m n v) 4 = g16 L 4 := (W 2).trans (by simp)
  have w3 : g16 (ptC L 6 m n v) 6 = v := (W 3).trans (by simp)
  rw [w0, w1, w2, w3] at T
  omega
theorem ic_tot {L : ByteArray} {id : Int} (h : 8 ≤ L.size) (i0 : 0 ≤ id) (i1 : id ≤ 65535) :
    totT (icC L id) = totT L - g16 L 2 - g16 L 4 + updW (g16 L 2) (g16 L 4) id + id := by
  have W := fun j => icC_word (L := L) h i0 i1 j
  have Z := icC_size (L := L) (id := id) h
  have T := totT_same (icC L id) L Z 3 (by omega) (fun j hj => by rw [W j, if_neg (by omega), if_neg (by omega)])
  rw [tot3, tot3] at T
  have w0 : g16 (icC L id) 0 = g16 L 0 := (W 0).trans (by simp)
  have w1 : g16 (icC L id) 2 = updW (g16 L 2) (g16 L 4) id := (W 1).trans (by simp)
  have w2 : g16 (icC L id) 4 = id := (W 2).trans (by simp)
  rw [w0, w1, w2] at T
  omega
/-- As right as it was. -/
theorem ckT_kept {L : ByteArray} {oa ob a m b n : Int} (ho : okC oa 0 ob 0) (hc : okC a m b n) (h : 20 ≤ L.size) : ckT a b (ptC L 16 m n (pSum L 16 oa ob a m b n)) = ckT oa ob L := by
  have bd := pSum_bd (L := L) (k := 16) ho hc
  have md := pSum_mod L 16 oa ob a m b n
  have Z := ptC_size (L := L) (q := 8) (m := m) (n := n) (v := pSum L 16 oa ob a m b n) (by omega) (by omega)
  rw [show (2 * 8 : Nat) = 16 by rfl] at Z
  obtain ⟨o0, o1, _, _, o4, o5, _, _⟩ := ho
  obtain ⟨h0, h1, h2, h3, h4, h5, h6, h7⟩ := hc
  have T := tcp_tot (v := pSum L 16 oa ob a m b n) h h2 h3 h6 h7 bd.1 bd.2
  have P := pseuB_tot (pr := 6) (n := (L.size : Int)) o0 o1 o4 o5 (by omega) (by omega) (by omega)
  have P' := pseuB_tot (pr := 6) (n := (L.size : Int)) h0 h1 h4 h5 (by omega) (by omega) (by omega)
  have q1 := totT_nonneg L
  have q2 := totT_nonneg (ptC L 16 m n (pSum L 16 oa ob a m b n))
  unfold ckT
  rw [holds2, holds2, Z]
  have e : (totT (pseuB a b 6 L.size) + totT (ptC L 16 m n (pSum L 16 oa ob a m b n)) ≠ 0 ∧ (totT (pseuB a b 6 L.size) + totT (ptC L 16 m n (pSum L 16 oa ob a m b n))) % 65535 = 0) ↔ (totT (pseuB oa ob 6 L.size) + totT L ≠ 0 ∧ (totT (pseuB oa ob 6 L.size) + totT L) % 65535 = 0) := by
    generalize totT (ptC L 16 m n (pSum L 16 oa ob a m b n)) = X at *
    generalize totT (pseuB a b 6 L.size) = Y at *
    generalize totT (pseuB oa ob 6 L.size) = Y' at *
    generalize totT L = X' at *
    generalize pSum L 16 oa ob a m b n = v at *
    omega
  rw [decide_eq_decide.2 e]
theorem ckU_kept {L : ByteArray} {oa ob a m b n : Int} (ho : okC oa 0 ob 0) (hc : okC a m b n) (h : 8 ≤ L.size) : ckU a b (ptC L 6 m n (uSum L oa ob a m b n)) = ckU oa ob L := by
  have bd := uSum_bd (L := L) ho hc
  have bp := pSum_bd (L := L) (k := 6) ho hc
  have md := pSum_mod L 6 oa ob a m b n
  have Z := ptC_size (L := L) (q := 3) (m := m) (n := n) (v := uSum L oa ob a m b n) (by omega) (by omega)
  obtain ⟨o0, o1, _, _, o4, o5, _, _⟩ := ho
  obtain ⟨h0, h1, h2, h3, h4, h5, h6, h7⟩ := hc
  have w3 := (ptC_word (L := L) (q := 3) (by omega) (by omega) h2 h3 h6 h7 bd.1 bd.2 3).trans (if_pos rfl)
  rw [show (2 * 3 : Nat) = 6 by rfl] at Z w3
  have T := udp_tot (v := uSum L oa ob a m b n) h h2 h3 h6 h7 bd.1 bd.2
  have P := pseuB_tot (pr := 17) (n := (L.size : Int)) o0 o1 o4 o5 (by omega) (by omega) (by omega)
  have P' := pseuB_tot (pr := 17) (n := (L.size : Int)) h0 h1 h4 h5 (by omega) (by omega) (by omega)
  have q1 := totT_nonneg L
  have q2 := totT_nonneg (ptC L 6 m n (uSum L oa ob a m b n))
  unfold ckU
  rw [holds2, holds2, Z, w3]
  by_cases hz : g16 L 6 = 0
  · have e : uSum L oa ob a m b n = 0 := by unfold uSum; rw [if_pos hz]
    rw [decide_eq_true hz, decide_eq_true e]
    simp
  have e0 : ¬ uSum L oa ob a m b n = 0 := by unfold uSum; rw [if_neg hz]; split <;> omega
  have md2 : uSum L oa ob a m b n % 65535 = pSum L 6 oa ob a m b n % 65535 := by unfold uSum; rw [if_neg hz]; split <;> omega
  rw [decide_eq_false hz, decide_eq_false e0]
  have e : (totT (pseuB a b 17 L.size) + totT (ptC L 6 m n (uSum L oa ob a m b n)) ≠ 0 ∧ (totT (pseuB a b 17 L.size) + totT (ptC L 6 m n (uSum L oa ob a m b n))) % 65535 = 0) ↔ (totT (pseuB oa ob 17 L.size) + totT L ≠ 0 ∧ (totT (pseuB oa ob 17 L.size) + totT L) % 65535 = 0) := by
    generalize totT (ptC L 6 m n (uSum L oa ob a m b n)) = X at *
    generalize totT (pseuB a b 17 L.size) = Y at *
    generalize totT (pseuB oa ob 17 L.size) = Y' at *
    generalize totT L = X' at *
    generalize uSum L oa ob a m b n = u at *
    generalize pSum L 6 oa ob a m b n = v at *
    omega
  rw [decide_eq_decide.2 e]
theorem ckM_kept {L : ByteArray} {id : Int} (h : 8 ≤ L.size) (i0 : 0 ≤ id) (i1 : id ≤ 65535) (v1 : ¬ totT L = 0) (v2 : ¬ totT (icC L id) = 0) : ckM (icC L id) = ckM L := by
  have T := ic_tot h i0 i1
  have Z := icC_size (L := L) (id := id) h
  have md := updW_mod (n := g16 L 2) (f := g16 L 4) (t := id)
  unfold ckM
  rw [holds1, holds1, Z]
  have e : (totT (icC L id) ≠ 0 ∧ totT (icC L id) % 65535 = 0) ↔ (totT L ≠ 0 ∧ totT L % 65535 = 0) := by omega
  rw [decide_eq_decide.2 e]
end Go.Proofs.YtbglnebmfnoenaaGreatDoor

namespace Go.Proofs.YtbglnebmfnoenaaGreatDoor
set_option linter.unusedVariables false
set_option linter.unusedSimpArgs false
open Go.ChangeShapes Go.WideShapes Go.ChangeAt Go.RowKit Go.PlainAid
theorem oR_cases {pr : Int} {L : ByteArray} (h : oR pr L = 0) : (pr = 6 ∧ tOk L = true) ∨ (pr = 17 ∧ uOk L = true) ∨ (pr = 1 ∧ mOk L = true ∧ (qIs (bt L 0) (bt L 1) || erM (bt L 0)) = true) := by
  unfold oR at h
  split at h
  · next e => split at h
              · next k => exact .inl ⟨e, k⟩
              · omega
  · split at h
    · next e => split at h
                · next k => exact .inr (.inl ⟨e, k⟩)
                · omega
    · split at h
      · next e => split at h
                  · next k => split at h
                              · next q => exact .inr (.inr ⟨e, k, q⟩)
                              · omega
                  · omega
      · omega
/-- The word that holds the sum, if one does; ports that are told. -/
def kq (pr : Int) (L : ByteArray) : Nat := if pr = 6 then 8 else if pr = 17 then 3 else if qIs (bt L 0) (bt L 1) = true then 1 else 0
def cM (pr : Int) (L : ByteArray) (m : Int) : Int := if pr = 1 then (if qAsk (bt L 0) (bt L 1) = true then m else 0) else m
def cN (pr : Int) (L : ByteArray) (n : Int) : Int := if pr = 1 then (if (qIs (bt L 0) (bt L 1) && !qAsk (bt L 0) (bt L 1)) = true then n else 0) else n
/-- Does a word hold a port? -/
def ptW (pr : Int) (L : ByteArray) (j : Nat) : Bool := if pr = 1 then qIs (bt L 0) (bt L 1) && decide (j = 2) else decide (j < 2)
theorem ldC_tcp (L : ByteArray) (oa ob a m b n : Int) : ldC 6 L oa ob a m b n = ptC L 16 m n (pSum L 16 oa ob a m b n) := by unfold ldC; rw [if_pos rfl]
theorem ldC_udp (L : ByteArray) (oa ob a m b n : Int) : ldC 17 L oa ob a m b n = ptC L 6 m n (uSum L oa ob a m b n) := by unfold ldC; rw [if_neg (by omega), if_pos rfl]
theorem ldC_ic (L : ByteArray) (oa ob a m b n : Int) : ldC 1 L oa ob a m b n = if qIs (bt L 0) (bt L 1) = true then icC L (if qAsk (bt L 0) (bt L 1) = true then m else n) else L := by unfold ldC; rw [if_neg (by omega), if_neg (by omega)]
theorem tOk_size {L : ByteArray} (h : tOk L = true) : 20 ≤ L.size := (tOk_yes h).1
theorem uOk_size {L : ByteArray} (h : uOk L = true) : 8 ≤ L.size := (uOk_yes h).1
theorem mOk_size {L : ByteArray} (h : mOk L = true) : 8 ≤ L.size := (mOk_yes h).1
theorem ld_size {pr : Int} {L : ByteArray} (h : oR pr L = 0) (oa ob a m b n : Int) : (ldC pr L oa ob a m b n).size = L.size := by
  rcases oR_cases h with ⟨rfl, k⟩ | ⟨rfl, k⟩ | ⟨rfl, k, q⟩
  · rw [ldC_tcp]; exact ptC_size (q := 8) (by have := tOk_size k; omega) (by have := tOk_size k; omega)
  · rw [ldC_udp]; exact ptC_size (q := 3) (by have := uOk_size k; omega) (by have := uOk_size k; omega)
  · rw [ldC_ic]
    split
    · exact icC_size (mOk_size k)
    · rfl
/-- The words of it. -/
theorem ld_tcp {L : ByteArray} (k : tOk L = true) {oa ob a m b n : Int} (ho : okC oa 0 ob 0) (hc : okC a m b n) (j : Nat) : g16 (ldC 6 L oa ob a m b n) (2 * j) = if j = 8 then pSum L 16 oa ob a m b n else if j = 0 then m else if j = 1 then n else g16 L (2 * j) := by
  have z := tOk_size k
  have bd := pSum_bd (L := L) (k := 16) ho hc
  obtain ⟨h0, h1, h2, h3, h4, h5, h6, h7⟩ := hc
  rw [ldC_tcp]
  exact ptC_word (q := 8) (by omega) (by omega) h2 h3 h6 h7 bd.1 bd.2 j
theorem ld_udp {L : ByteArray} (k : uOk L = true) {oa ob a m b n : Int} (ho : okC oa 0 ob 0) (hc : okC a m b n) (j : Nat) : g16 (ldC 17 L oa ob a m b n) (2 * j) = if j = 3 then uSum L oa ob a m b n else if j = 0 then m else if j = 1 then n else g16 L (2 * j) := by
  have z := uOk_size k
  have bd := uSum_bd (L := L) ho hc
  obtain ⟨h0, h1, h2, h3, h4, h5, h6, h7⟩ := hc
  rw [ldC_udp]
  exact ptC_word (q := 3) (by omega) (by omega) h2 h3 h6 h7 bd.1 bd.2 j
theorem ld_ic {L : ByteArray} (k : mOk L = true) (q : qIs (bt L 0) (bt L 1) = true) {oa ob a m b n : Int} (hc : okC a m b n) (j : Nat) : g16 (ldC 1 L oa ob a m b n) (2 * j) = if j = 1 then updW (g16 L 2) (g16 L 4) (if qAsk (bt L 0) (bt L 1) = true then m else n) else if j = 2 then (if qAsk (bt L 0) (bt L 1) = true then m else n) else g16 L (2 * j) := by
  obtain ⟨h0, h1, h2, h3, h4, h5, h6, h7⟩ := hc
  rw [ldC_ic, if_pos q]
  exact icC_word (mOk_size k) (by split <;> omega) (by split <;> omega) j
theorem ld_err {L : ByteArray} (q : qIs (bt L 0) (bt L 1) = false) (oa ob a m b n : Int) : ldC 1 L oa ob a m b n = L := by rw [ldC_ic, if_neg (by rw [q]; decide)]
theorem ld_word {pr : Int} {L : ByteArray} (h : oR pr L = 0) {oa ob a m b n : Int} (ho : okC oa 0 ob 0) (hc : okC a m b n) (j : Nat) (h1 : ¬ (0 < kq pr L ∧ j = kq pr L)) (h2 : ptW pr L j = false) : g16 (ldC pr L oa ob a m b n) (2 * j) = g16 L (2 * j) := by
  rcases oR_cases h with ⟨rfl, k⟩ | ⟨rfl, k⟩ | ⟨rfl, k, q⟩
  · unfold kq at h1
    rw [if_pos rfl] at h1
    unfold ptW at h2
    rw [if_neg (by omega), decide_eq_false_iff_not] at h2
    rw [ld_tcp k ho hc, if_neg (by omega), if_neg (by omega), if_neg (by omega)]
  · unfold kq at h1
    rw [if_neg (by omega), if_pos rfl] at h1
    unfold ptW at h2
    rw [if_neg (by omega), decide_eq_false_iff_not] at h2
    rw [ld_udp k ho hc, if_neg (by omega), if_neg (by omega), if_neg (by omega)]
  · cases hq : qIs (bt L 0) (bt L 1) with
    | false => rw [ld_err hq]
    | true =>
      unfold kq at h1
      rw [if_neg (by omega), if_neg (by omega), if_pos hq] at h1
      unfold ptW at h2
      rw [if_pos rfl, hq, Bool.true_and, decide_eq_false_iff_not] at h2
      rw [ld_ic k hq hc, if_neg (by omega), if_neg (by omega)]
theorem bt_w0 {X Y : ByteArray} (j : Nat) (h : g16 X j = g16 Y j) : bt X j = bt Y j ∧ bt X (j + 1) = bt Y (j + 1) := by
  rw [bt_hi, bt_hi, bt_lo, bt_lo, h]; exact ⟨rfl, rfl⟩
theorem mR_word {L : ByteArray} (k : mOk L = true) : idM (mR L) = g16 L 4 := by
  obtain ⟨z, _, e, _⟩ := mOk_yes k
  rw [e]
  unfold idM
  rw [if_pos (by rw [size_extract' L 4 8 (by omega) z]; omega)]
  unfold g16
  rw [bt_ext L 4 8 0 (by omega) z, bt_ext L 4 8 (0 + 1) (by omega) z]
/-- What is seen of it. -/
theorem ld_seen {pr : Int} {L : ByteArray} (h : oR pr L = 0) {oa ob a m b n : Int} (ho : okC oa 0 ob 0) (hc : okC a m b n) :
    oR pr (ldC pr L oa ob a m b n) = 0 ∧ oM pr (ldC pr L oa ob a m b n) = cM pr L m ∧ oN pr (ldC pr L oa ob a m b n) = cN pr L n ∧ oK pr (ldC pr L oa ob a m b n) = oK pr L ∧ oF pr (ldC pr L oa ob a m b n) = oF pr L ∧ oA pr (ldC pr L oa ob a m b n) = oA pr L := by
  have Z := ld_size h oa ob a m b n
  rcases oR_cases h with ⟨rfl, k⟩ | ⟨rfl, k⟩ | ⟨rfl, k, q⟩
  · have W := ld_tcp k ho hc
    generalize ldC 6 L oa ob a m b n = X at *
    have e6 := bt_w0 12 ((W 6).trans (by simp) : g16 X 12 = g16 L 12)
    have e0 : g16 X 0 = m := (W 0).trans (by simp)
    have e1 : g16 X 2 = n := (W 1).trans (by simp)
    have t : tOk X = true := by unfold tOk tOwn at k ⊢; rw [Z, e6.1]; exact k
    refine ⟨by unfold oR; rw [if_pos rfl, if_pos t], ?_, ?_, ?_, ?_, ?_⟩
    · unfold oM cM; rw [if_neg (by omega), if_neg (by omega), e0]
    · unfold oN cN; rw [if_neg (by omega), if_neg (by omega), e1]
    · unfold oK; rw [e6.2, if_neg (by omega : ¬ (6 : Int) = 1), if_neg (by omega : ¬ (6 : Int) = 1)]
    · unfold oF; rw [e6.2]
    · unfold oA; simp
  · have W := ld_udp k ho hc
    generalize ldC 17 L oa ob a m b n = X at *
    have e0 : g16 X 0 = m := (W 0).trans (by simp)
    have e1 : g16 X 2 = n := (W 1).trans (by simp)
    have e2 : g16 X 4 = g16 L 4 := (W 2).trans (by simp)
    have t : uOk X = true := by unfold uOk at k ⊢; rw [Z, e2]; exact k
    refine ⟨by unfold oR; rw [if_neg (by omega), if_pos rfl, if_pos t], ?_, ?_, ?_, ?_, ?_⟩
    · unfold oM cM; rw [if_neg (by omega), if_neg (by omega), e0]
    · unfold oN cN; rw [if_neg (by omega), if_neg (by omega), e1]
    · unfold oK; rw [if_neg (by omega), if_neg (by omega), if_neg (by omega), if_neg (by omega)]
    · unfold oF; rw [if_neg (by omega), if_neg (by omega)]
    · unfold oA; simp
  · cases hq : qIs (bt L 0) (bt L 1) with
    | false =>
      rw [ld_err hq]
      have ha : qAsk (bt L 0) (bt L 1) = false := by
        cases e : qAsk (bt L 0) (bt L 1) with
        | false => rfl
        | true => rw [q_sub e] at hq; cases hq
      refine ⟨h, ?_, ?_, rfl, rfl, rfl⟩
      · unfold oM cM; rw [ha]; simp
      · unfold oN cN; rw [hq]; simp
    | true =>
      have W := ld_ic (oa := oa) (ob := ob) k hq hc
      generalize ldC 1 L oa ob a m b n = X at *
      have e0 := bt_w0 0 ((W 0).trans (by simp) : g16 X 0 = g16 L 0)
      have e2 : g16 X 4 = (if qAsk (bt L 0) (bt L 1) = true then m else n) := (W 2).trans (by simp)
      rw [show (0 : Nat) + 1 = 1 by rfl] at e0
      have t : mOk X = true := by unfold mOk at k ⊢; rw [Z]; exact k
      have i := mR_word t
      rw [e2] at i
      refine ⟨?_, ?_, ?_, ?_, ?_, ?_⟩
      · unfold oR; rw [if_neg (by omega), if_neg (by omega), if_pos rfl, if_pos t, e0.1, e0.2, if_pos q]
      · unfold oM cM; rw [if_pos rfl, if_pos rfl, e0.1, e0.2, i]
        cases qAsk (bt L 0) (bt L 1) <;> simp
      · unfold oN cN; rw [if_pos rfl, if_pos rfl, e0.1, e0.2, i]
        cases qAsk (bt L 0) (bt L 1) <;> simp
      · unfold oK; rw [if_pos rfl, if_pos rfl, e0.1, e0.2]
      · unfold oF; rw [if_neg (by omega), if_neg (by omega)]
      · unfold oA; rw [e0.1, e0.2]
/-- Alike, but for a word that may be 0 in the place of 65535. -/
def pw (v : Int) : Int := if v = 65535 then 0 else v
theorem pw_eq {x y : Int} (x0 : 0 ≤ x) (x1 : x ≤ 65535) (y0 : 0 ≤ y) (y1 : y ≤ 65535) (h : x % 65535 = y % 65535) : pw x = pw y := by
  unfold pw
  split <;> split <;> omega
def Alike (k : Nat) (X Y : ByteArray) : Prop := X.size = Y.size ∧ (∀ j, ¬ (0 < k ∧ j = k) → g16 X (2 * j) = g16 Y (2 * j)) ∧ pw (g16 X (2 * k)) = pw (g16 Y (2 * k))
theorem Alike.trans {k : Nat} {X Y Z : ByteArray} (h : Alike k X Y) (h' : Alike k Y Z) : Alike k X Z := ⟨h.1.trans h'.1, fun j hj => (h.2.1 j hj).trans (h'.2.1 j hj), h.2.2.trans h'.2.2⟩
theorem Alike.refl (k : Nat) (X : ByteArray) : Alike k X X := ⟨rfl, fun _ _ => rfl, rfl⟩
theorem Alike.of {k : Nat} {X Y : ByteArray} (h0 : X.size = Y.size) (h1 : ∀ j, ¬ j = k → g16 X (2 * j) = g16 Y (2 * j)) (h2 : pw (g16 X (2 * k)) = pw (g16 Y (2 * k))) (hk : 0 < k) : Alike k X Y := ⟨h0, fun j hj => h1 j (fun e => hj ⟨hk, e⟩), h2⟩
theorem okC_ad {a m b n : Int} (h : okC a m b n) : okC a 0 b 0 := ⟨h.1, h.2.1, by omega, by omega, h.2.2.2.2.1, h.2.2.2.2.2.1, by omega, by omega⟩
theorem ld_kq {pr : Int} {L : ByteArray} (h : oR pr L = 0) {oa ob a m b n : Int} (ho : okC oa 0 ob 0) (hc : okC a m b n) : kq pr (ldC pr L oa ob a m b n) = kq pr L := by
  rcases oR_cases h with ⟨rfl, k⟩ | ⟨rfl, k⟩ | ⟨rfl, k, q⟩
  · unfold kq; rw [if_pos rfl, if_pos rfl]
  · unfold kq; rw [if_neg (by omega), if_pos rfl, if_neg (by omega), if_pos rfl]
  · cases hq : qIs (bt L 0) (bt L 1) with
    | false => rw [ld_err hq]
    | true =>
      have W := ld_ic (oa := oa) (ob := ob) k hq hc
      have e0 := bt_w0 0 ((W 0).trans (by simp) : g16 (ldC 1 L oa ob a m b n) 0 = g16 L 0)
      rw [show (0 : Nat) + 1 = 1 by rfl] at e0
      unfold kq
      rw [e0.1, e0.2]
/-- Changed twice: as changed the second way at once. -/
theorem ld_twice {pr : Int} {L : ByteArray} (h : oR pr L = 0) {oa ob a m b n c k d l : Int} (ho : okC oa 0 ob 0) (hc : okC a m b n) (hd : okC c k d l) :
    Alike (kq pr L) (ldC pr (ldC pr L oa ob a m b n) a b c k d l) (ldC pr L oa ob c k d l) := by
  have S := (ld_seen h ho hc).1
  have Z : (ldC pr (ldC pr L oa ob a m b n) a b c k d l).size = (ldC pr L oa ob c k d l).size := by rw [ld_size S, ld_size h, ld_size h]
  rcases oR_cases h with ⟨rfl, t⟩ | ⟨rfl, t⟩ | ⟨rfl, t, q⟩
  · obtain ⟨_, t'⟩ : (6 : Int) = 6 ∧ tOk (ldC 6 L oa ob a m b n) = true := by
      rcases oR_cases S with k | k | k
      · exact k
      · omega
      · omega
    have W0 := ld_tcp t ho hc
    have W1 := ld_tcp t' (okC_ad hc) hd
    have W2 := ld_tcp t ho hd
    have m0 := pSum_mod L 16 oa ob a m b n
    have m1 := pSum_mod (ldC 6 L oa ob a m b n) 16 a b c k d l
    have m2 := pSum_mod L 16 oa ob c k d l
    have b1 := pSum_bd (L := ldC 6 L oa ob a m b n) (k := 16) (okC_ad hc) hd
    have b2 := pSum_bd (L := L) (k := 16) ho hd
    have e8 : g16 (ldC 6 L oa ob a m b n) 16 = _ := (W0 8).trans (if_pos rfl)
    have e0 : g16 (ldC 6 L oa ob a m b n) 0 = m := (W0 0).trans (by simp)
    have e1 : g16 (ldC 6 L oa ob a m b n) 2 = n := (W0 1).trans (by simp)
    rw [e8, e0, e1] at m1
    show Alike 8 _ _
    refine Alike.of Z (fun j hj => ?_) ?_ (by omega)
    · rw [W1, W2, if_neg hj, if_neg hj]
      split
      · rfl
      · split
        · rfl
        · rw [W0, if_neg hj, if_neg (by assumption), if_neg (by assumption)]
    · rw [W1, W2, if_pos rfl, if_pos rfl]
      refine pw_eq b1.1 b1.2 b2.1 b2.2 ?_
      omega
  · obtain ⟨_, t'⟩ : (17 : Int) = 17 ∧ uOk (ldC 17 L oa ob a m b n) = true := by
      rcases oR_cases S with k | k | k
      · omega
      · exact k
      · omega
    have W0 := ld_udp t ho hc
    have W1 := ld_udp t' (okC_ad hc) hd
    have W2 := ld_udp t ho hd
    have m0 := pSum_mod L 6 oa ob a m b n
    have m1 := pSum_mod (ldC 17 L oa ob a m b n) 6 a b c k d l
    have m2 := pSum_mod L 6 oa ob c k d l
    have b0 := pSum_bd (L := L) (k := 6) ho hc
    have b1 := pSum_bd (L := ldC 17 L oa ob a m b n) (k := 6) (okC_ad hc) hd
    have b2 := pSum_bd (L := L) (k := 6) ho hd
    have u1 := uSum_bd (L := ldC 17 L oa ob a m b n) (okC_ad hc) hd
    have u2 := uSum_bd (L := L) ho hd
    have e3 : g16 (ldC 17 L oa ob a m b n) 6 = _ := (W0 3).trans (if_pos rfl)
    have e0 : g16 (ldC 17 L oa ob a m b n) 0 = m := (W0 0).trans (by simp)
    have e1 : g16 (ldC 17 L oa ob a m b n) 2 = n := (W0 1).trans (by simp)
    rw [e0, e1] at m1
    show Alike 3 _ _
    refine Alike.of Z (fun j hj => ?_) ?_ (by omega)
    · rw [W1, W2, if_neg hj, if_neg hj]
      split
      · rfl
      · split
        · rfl
        · rw [W0, if_neg hj, if_neg (by assumption), if_neg (by assumption)]
    · rw [W1, W2, if_pos rfl, if_pos rfl]
      refine pw_eq u1.1 u1.2 u2.1 u2.2 ?_
      unfold uSum
      rw [e3] at m1 ⊢
      by_cases hz : g16 L 6 = 0
      · have e : uSum L oa ob a m b n = 0 := by unfold uSum; rw [if_pos hz]
        rw [if_pos hz, if_pos e]
      · have e : ¬ uSum L oa ob a m b n = 0 := by unfold uSum; rw [if_neg hz]; split <;> omega
        have md : uSum L oa ob a m b n % 65535 = pSum L 6 oa ob a m b n % 65535 := by unfold uSum; rw [if_neg hz]; split <;> omega
        rw [if_neg hz, if_neg e]
        split <;> split <;> omega
  · cases hq : qIs (bt L 0) (bt L 1) with
    | false => rw [ld_err hq, ld_err hq, ld_err hq]; exact Alike.refl _ _
    | true =>
      have W0 := ld_ic (oa := oa) (ob := ob) t hq hc
      have W2 := ld_ic (oa := oa) (ob := ob) t hq hd
      have e0 := bt_w0 0 ((W0 0).trans (by simp) : g16 (ldC 1 L oa ob a m b n) 0 = g16 L 0)
      rw [show (0 : Nat) + 1 = 1 by rfl] at e0
      have t' : mOk (ldC 1 L oa ob a m b n) = true := by unfold mOk at t ⊢; rw [ld_size h]; exact t
      have W1 := ld_ic (oa := a) (ob := b) t' (by rw [e0.1, e0.2]; exact hq) hd
      have e1 : g16 (ldC 1 L oa ob a m b n) 2 = _ := (W0 1).trans (if_pos rfl)
      have e2 : g16 (ldC 1 L oa ob a m b n) 4 = (if qAsk (bt L 0) (bt L 1) = true then m else n) := (W0 2).trans (by simp)
      rw [e0.1, e0.2, e1, e2] at W1
      obtain ⟨c0, c1, c2, c3, c4, c5, c6, c7⟩ := hc
      obtain ⟨d0, d1, d2, d3, d4, d5, d6, d7⟩ := hd
      obtain ⟨x, hx, x0, x1⟩ : ∃ x, (if qAsk (bt L 0) (bt L 1) = true then m else n) = x ∧ 0 ≤ x ∧ x ≤ 65535 := ⟨_, rfl, by split <;> omega, by split <;> omega⟩
      obtain ⟨y, hy, y0, y1⟩ : ∃ y, (if qAsk (bt L 0) (bt L 1) = true then k else l) = y ∧ 0 ≤ y ∧ y ≤ 65535 := ⟨_, rfl, by split <;> omega, by split <;> omega⟩
      rw [hx] at W0
      rw [hx, hy] at W1
      rw [hy] at W2
      have g0 := g16_nonneg L 2
      have g1 := g16_le L 2
      have g2 := g16_nonneg L 4
      have g3 := g16_le L 4
      have m0 := updW_mod (n := g16 L 2) (f := g16 L 4) (t := x)
      have m1 := updW_mod (n := updW (g16 L 2) (g16 L 4) x) (f := x) (t := y)
      have m2 := updW_mod (n := g16 L 2) (f := g16 L 4) (t := y)
      have b0 := updW_bd g0 g1 g2 g3 x0 x1
      have b1 := updW_bd b0.1 b0.2 x0 x1 y0 y1
      have b2 := updW_bd g0 g1 g2 g3 y0 y1
      have ek : kq 1 L = 1 := by unfold kq; rw [if_neg (by omega), if_neg (by omega), if_pos hq]
      rw [ek]
      refine Alike.of Z (fun j hj => ?_) ?_ (by omega)
      · rw [W1, W2, if_neg hj, if_neg hj]
        split
        · rfl
        · rw [W0, if_neg hj, if_neg (by assumption)]
      · rw [W1, W2, if_pos rfl, if_pos rfl]
        refine pw_eq b1.1 b1.2 b2.1 b2.2 ?_
        omega
/-- Changed to what it is. -/
theorem ld_self {pr : Int} {L : ByteArray} (h : oR pr L = 0) {oa ob : Int} (ho : okC oa 0 ob 0) : Alike (kq pr L) (ldC pr L oa ob oa (oM pr L) ob (oN pr L)) L := by
  have Z := ld_size h oa ob oa (oM pr L) ob (oN pr L)
  have p0 := g16_nonneg L 0
  have p1 := g16_le L 0
  have p2 := g16_nonneg L 2
  have p3 := g16_le L 2
  have p4 := g16_nonneg L 4
  have p5 := g16_le L 4
  have hs : okC oa (g16 L 0) ob (g16 L 2) := ⟨ho.1, ho.2.1, p0, p1, ho.2.2.2.2.1, ho.2.2.2.2.2.1, p2, p3⟩
  rcases oR_cases h with ⟨rfl, t⟩ | ⟨rfl, t⟩ | ⟨rfl, t, q⟩
  · have eM : oM 6 L = g16 L 0 := by unfold oM; rw [if_neg (by omega)]
    have eN : oN 6 L = g16 L 2 := by unfold oN; rw [if_neg (by omega)]
    rw [eM, eN] at Z ⊢
    have W := ld_tcp t ho hs
    have md := pSum_mod L 16 oa ob oa (g16 L 0) ob (g16 L 2)
    have bd := pSum_bd (L := L) (k := 16) ho hs
    show Alike 8 _ _
    refine Alike.of Z (fun j hj => ?_) ?_ (by omega)
    · rw [W, if_neg hj]
      split
      · next e => subst e; rfl
      · split
        · next e => subst e; rfl
        · rfl
    · rw [W, if_pos rfl]
      exact pw_eq bd.1 bd.2 (g16_nonneg _ _) (g16_le _ _) (by show _ = g16 L 16 % 65535; omega)
  · have eM : oM 17 L = g16 L 0 := by unfold oM; rw [if_neg (by omega)]
    have eN : oN 17 L = g16 L 2 := by unfold oN; rw [if_neg (by omega)]
    rw [eM, eN] at Z ⊢
    have W := ld_udp t ho hs
    have md := pSum_mod L 6 oa ob oa (g16 L 0) ob (g16 L 2)
    have bd := pSum_bd (L := L) (k := 6) ho hs
    have bu := uSum_bd (L := L) ho hs
    show Alike 3 _ _
    refine Alike.of Z (fun j hj => ?_) ?_ (by omega)
    · rw [W, if_neg hj]
      split
      · next e => subst e; rfl
      · split
        · next e => subst e; rfl
        · rfl
    · rw [W, if_pos rfl]
      refine pw_eq bu.1 bu.2 (g16_nonneg _ _) (g16_le _ _) ?_
      show _ = g16 L 6 % 65535
      unfold uSum
      split
      · omega
      · split <;> omega
  · cases hq : qIs (bt L 0) (bt L 1) with
    | false => rw [ld_err hq]; exact Alike.refl _ _
    | true =>
      have i := mR_word t
      have eM : oM 1 L = if qAsk (bt L 0) (bt L 1) = true then g16 L 4 else 0 := by unfold oM; rw [if_pos rfl, i]
      have eN : oN 1 L = if qAsk (bt L 0) (bt L 1) = true then 0 else g16 L 4 := by unfold oN; rw [if_pos rfl, i, hq]; cases qAsk (bt L 0) (bt L 1) <;> simp
      have hs2 : okC oa (oM 1 L) ob (oN 1 L) := by
        rw [eM, eN]
        refine ⟨ho.1, ho.2.1, ?_, ?_, ho.2.2.2.2.1, ho.2.2.2.2.2.1, ?_, ?_⟩ <;> split <;> omega
      have W := ld_ic (oa := oa) (ob := ob) t hq hs2
      have ex : (if qAsk (bt L 0) (bt L 1) = true then oM 1 L else oN 1 L) = g16 L 4 := by rw [eM, eN]; cases qAsk (bt L 0) (bt L 1) <;> simp
      rw [ex] at W
      have md := updW_mod (n := g16 L 2) (f := g16 L 4) (t := g16 L 4)
      have bd := updW_bd p2 p3 p4 p5 p4 p5
      have ek : kq 1 L = 1 := by unfold kq; rw [if_neg (by omega), if_neg (by omega), if_pos hq]
      rw [ek]
      refine Alike.of Z (fun j hj => ?_) ?_ (by omega)
      · rw [W, if_neg hj]
        split
        · next e => subst e; rfl
        · rfl
      · rw [W, if_pos rfl]
        exact pw_eq bd.1 bd.2 (g16_nonneg _ _) (g16_le _ _) (by show _ = g16 L 2 % 65535; omega)
end Go.Proofs.YtbglnebmfnoenaaGreatDoor

namespace Go.Proofs.YtbglnebmfnoenaaGreatDoor
set_option linter.unusedVariables false
set_option linter.unusedSimpArgs false
open Go.ChangeShapes Go.WideShapes Go.ChangeAt Go.RowKit Go.PlainAid
/-- A header, changed. -/
def hL (s : ByteArray) (a b : Int) : List (Int × Int) := [(g16 s 8, g16 s 8 - 256), (g16 s 12, a / 65536), (g16 s 14, a % 65536), (g16 s 16, b / 65536), (g16 s 18, b % 65536)]
def hSum (s : ByteArray) (a b : Int) : Int := updL (g16 s 10) (hL s a b)
def headC (s : ByteArray) (a b : Int) : ByteArray := withB (withB (withB s 8 (strOfNums [bt s 8 - 1])) 12 (strOfNums (wordL (adW a b)))) 10 (strOfNums (wordL [hSum s a b]))
/-- Why a packet is not changed; the packet, changed. -/
def rwR (s : ByteArray) : Int := if seenR s = 0 then (if bt s 8 < 2 then 8 else 0) else seenR s
def rwB (s : ByteArray) (a m b n : Int) : ByteArray := if rwR s = 0 then headC (s.extract 0 (ownN s)) a b ++ ldC (bt s 9) (pP s) (g32 s 12) (g32 s 16) a m b n else ⟨#[]⟩
theorem rw_no {s : ByteArray} (h : ¬ rwR s = 0) (a m b n : Int) : rwB s a m b n = ⟨#[]⟩ := by unfold rwB; rw [if_neg h]
theorem rw_zero {s : ByteArray} (h : rwR s = 0) : seenR s = 0 ∧ 2 ≤ bt s 8 := by
  unfold rwR at h
  split at h
  · next k =>
    split at h
    · omega
    · exact ⟨k, by omega⟩
  · omega
theorem rw_is {s : ByteArray} (h : seenR s = 0) (h2 : 2 ≤ bt s 8) : rwR s = 0 := by unfold rwR; rw [if_pos h, if_neg (by omega)]
theorem g16_hi {s : ByteArray} (h : 2 ≤ bt s 8) : 512 ≤ g16 s 8 := by have := bt_nonneg s (8 + 1); unfold g16; omega
theorem hL_ok {s : ByteArray} {a b : Int} (h : 2 ≤ bt s 8) (hc : okC a 0 b 0) : okL (hL s a b) := by
  have := g16_hi h
  obtain ⟨h0, h1, h2, h3, h4, h5, h6, h7⟩ := hc
  intro x hx
  have g := fun k => And.intro (g16_nonneg s k) (g16_le s k)
  have g8 := g 8
  have g12 := g 12
  have g14 := g 14
  have g16_ := g 16
  have g18 := g 18
  simp only [hL, List.mem_cons, List.not_mem_nil, or_false] at hx
  rcases hx with rfl | rfl | rfl | rfl | rfl <;> (simp only; omega)
theorem hSum_bd {s : ByteArray} {a b : Int} (h : 2 ≤ bt s 8) (hc : okC a 0 b 0) : 0 ≤ hSum s a b ∧ hSum s a b ≤ 65535 := updL_bd _ _ (hL_ok h hc) (g16_nonneg _ _) (g16_le _ _)
theorem hSum_mod (s : ByteArray) (a b : Int) : (hSum s a b + (g16 s 8 - 256 + a / 65536 + a % 65536 + b / 65536 + b % 65536)) % 65535 = (g16 s 10 + (g16 s 8 + g16 s 12 + g16 s 14 + g16 s 16 + g16 s 18)) % 65535 := by
  have h := updL_mod (hL s a b) (g16 s 10)
  have e1 : sumT (hL s a b) = g16 s 8 - 256 + a / 65536 + a % 65536 + b / 65536 + b % 65536 := by simp [sumT, hL]; omega
  have e2 : sumF (hL s a b) = g16 s 8 + g16 s 12 + g16 s 14 + g16 s 16 + g16 s 18 := by simp [sumF, hL]; omega
  rw [e1, e2] at h
  exact h
theorem adW_wf {a b : Int} (hc : okC a 0 b 0) : ∀ x ∈ adW a b, 0 ≤ x ∧ x ≤ 65535 := by
  obtain ⟨h0, h1, h2, h3, h4, h5, h6, h7⟩ := hc
  intro x hx
  simp only [adW, List.mem_cons, List.not_mem_nil, or_false] at hx
  rcases hx with rfl | rfl | rfl | rfl <;> omega
theorem headC_size {s : ByteArray} {a b : Int} (h : 20 ≤ s.size) : (headC s a b).size = s.size := by
  have e1 : (withB s 8 (strOfNums [bt s 8 - 1])).size = s.size := size_withB s 8 _ (by rw [strOfNums_size]; show 8 + 1 ≤ _; omega)
  have e2 : (withB (withB s 8 (strOfNums [bt s 8 - 1])) 12 (strOfNums (wordL (adW a b)))).size = s.size := by rw [size_withW _ _ _ (by rw [e1]; show 12 + 2 * 4 ≤ _; omega), e1]
  unfold headC
  rw [size_withW _ _ _ (by rw [e2]; show 10 + 2 * 1 ≤ _; omega), e2]
theorem headC_word {s : ByteArray} {a b : Int} (h : 20 ≤ s.size) (ht : 2 ≤ bt s 8) (hc : okC a 0 b 0) (j : Nat) :
    g16 (headC s a b) (2 * j) = if j = 5 then hSum s a b else if 6 ≤ j ∧ j < 10 then (adW a b).getD (j - 6) 0 else if j = 4 then g16 s 8 - 256 else g16 s (2 * j) := by
  have bd := hSum_bd ht hc
  have t0 := bt_le s 8
  have e1 : (withB s 8 (strOfNums [bt s 8 - 1])).size = s.size := size_withB s 8 _ (by rw [strOfNums_size]; show 8 + 1 ≤ _; omega)
  have e2 : (withB (withB s 8 (strOfNums [bt s 8 - 1])) 12 (strOfNums (wordL (adW a b)))).size = s.size := by rw [size_withW _ _ _ (by rw [e1]; show 12 + 2 * 4 ≤ _; omega), e1]
  have k1 : g16 (withB s 8 (strOfNums [bt s 8 - 1])) (2 * j) = _ := g16_with1 s (bt s 8 - 1) 4 j (by omega) (by omega) (by omega)
  have k2 : g16 (withB (withB s 8 (strOfNums [bt s 8 - 1])) 12 (strOfNums (wordL (adW a b)))) (2 * j) = _ := g16_with _ (adW a b) 6 j (adW_wf hc) (by rw [e1]; show 2 * 6 + 2 * 4 ≤ _; omega)
  have k3 : g16 (headC s a b) (2 * j) = _ := g16_with _ [hSum s a b] 5 j (one_wf bd.1 bd.2) (by rw [e2]; show 2 * 5 + 2 * 1 ≤ _; omega)
  rw [k3, k2, k1]
  clear k1 k2 k3 e1 e2
  have l1 : [hSum s a b].length = 1 := rfl
  have l4 : (adW a b).length = 4 := rfl
  rw [l1, l4]
  by_cases c5 : j = 5
  · subst c5; rw [if_pos (by omega), if_pos rfl]; simp
  rw [if_neg (by omega), if_neg c5]
  by_cases c6 : 6 ≤ j ∧ j < 10
  · rw [if_pos (by omega), if_pos c6]
  rw [if_neg (by omega), if_neg c6]
  by_cases c4 : j = 4
  · subst c4
    rw [if_pos rfl, if_pos rfl]
    show (bt s 8 - 1) * 256 + bt s 9 = bt s 8 * 256 + bt s 9 - 256
    omega
  · rw [if_neg c4, if_neg c4]
theorem tot10 (x : ByteArray) : tot x 10 = 0 + g16 x 0 + g16 x 2 + g16 x 4 + g16 x 6 + g16 x 8 + g16 x 10 + g16 x 12 + g16 x 14 + g16 x 16 + g16 x 18 := rfl
theorem headC_all {s : ByteArray} {a b : Int} (h : 20 ≤ s.size) (ht : 2 ≤ bt s 8) (hc : okC a 0 b 0) :
    g16 (headC s a b) 0 = g16 s 0 ∧ g16 (headC s a b) 2 = g16 s 2 ∧ g16 (headC s a b) 4 = g16 s 4 ∧ g16 (headC s a b) 6 = g16 s 6 ∧ g16 (headC s a b) 8 = g16 s 8 - 256 ∧ g16 (headC s a b) 10 = hSum s a b ∧ g16 (headC s a b) 12 = a / 65536 ∧ g16 (headC s a b) 14 = a % 65536 ∧ g16 (headC s a b) 16 = b / 65536 ∧ g16 (headC s a b) 18 = b % 65536 := by
  have W := headC_word h ht hc
  exact ⟨(W 0).trans (by simp), (W 1).trans (by simp), (W 2).trans (by simp), (W 3).trans (by simp), (W 4).trans (by simp), (W 5).trans (by simp), (W 6).trans (by simp [adW]), (W 7).trans (by simp [adW]), (W 8).trans (by simp [adW]), (W 9).trans (by simp [adW])⟩
theorem headC_holds {s : ByteArray} {a b : Int} (h : 20 ≤ s.size) (ht : 2 ≤ bt s 8) (hc : okC a 0 b 0) (h0 : 0 < g16 s 0) (hh : holdsV [s] = true) : holdsV [headC s a b] = true := by
  have W := headC_word h ht hc
  have T := totT_same (headC s a b) s (headC_size h) 10 (by rw [headC_size h]; omega) (fun j hj => by rw [W j, if_neg (by omega), if_neg (by omega), if_neg (by omega)])
  obtain ⟨w0, w1, w2, w3, w4, w5, w6, w7, w8, w9⟩ := headC_all h ht hc
  rw [tot10, tot10, w0, w1, w2, w3, w4, w5, w6, w7, w8, w9] at T
  have md := hSum_mod s a b
  have p := totT_nonneg (headC s a b)
  rw [holds1, decide_eq_true_iff] at hh ⊢
  have hx : tot (headC s a b) 10 ≤ totT (headC s a b) := by
    have k := totT_same (headC s a b) (headC s a b) rfl 10 (by rw [headC_size h]; omega) (fun _ _ => rfl)
    have z : half (headC s a b) = 10 + (half (headC s a b) - 10) := by unfold half; rw [headC_size h]; omega
    unfold totT
    rw [z]
    generalize half (headC s a b) - 10 = r
    clear k z T W md p hh w0 w1 w2 w3 w4 w5 w6 w7 w8 w9
    induction r with
    | zero => exact Int.le_refl _
    | succ r ih => have := g16_nonneg (headC s a b) (2 * (10 + r)); show _ ≤ tot (headC s a b) (10 + r) + g16 (headC s a b) (2 * (10 + r)); omega
  rw [tot10, w0, w1, w2, w3, w4, w5, w6, w7, w8, w9] at hx
  have bd := hSum_bd ht hc
  have q1 := g16_nonneg s 2
  have q2 := g16_nonneg s 4
  have q3 := g16_nonneg s 6
  have q4 := g16_hi ht
  obtain ⟨c0, c1, c2, c3, c4, c5, c6, c7⟩ := hc
  refine ⟨by omega, ?_⟩
  omega
end Go.Proofs.YtbglnebmfnoenaaGreatDoor

namespace Go.Proofs.YtbglnebmfnoenaaGreatDoor
set_option linter.unusedVariables false
set_option linter.unusedSimpArgs false
open Go.ChangeShapes Go.WideShapes Go.ChangeAt Go.RowKit Go.PlainAid
structure RwF (s t : ByteArray) (a m b n : Int) (N : Nat) : Prop where
  len : g16 s 2 = (N : Int)
  le : N ≤ s.size
  size : t.size = N
  own0 : 20 ≤ ownN s
  own1 : ownN s ≤ N
  own4 : ownN s % 4 = 0
  own : ownN t = ownN s
  b0 : bt t 0 = bt s 0
  b8 : bt t 8 = bt s 8 - 1
  b9 : bt t 9 = bt s 9
  w1 : g16 t 2 = (N : Int)
  a12 : g32 t 12 = a
  a16 : g32 t 16 = b
  wlow : ∀ j, j < 4 → g16 t (2 * j) = g16 s (2 * j)
  whigh : ∀ j, 10 ≤ j → 2 * j < ownN s → g16 t (2 * j) = g16 s (2 * j)
  wload : ∀ i, g16 t (ownN s + 2 * i) = g16 (ldC (bt s 9) (pP s) (g32 s 12) (g32 s 16) a m b n) (2 * i)
  load : pP t = ldC (bt s 9) (pP s) (g32 s 12) (g32 s 16) a m b n
  holds : holdsV [t.extract 0 (ownN s)] = true
  ip : pR t = 0
  seen : seenR t = 0
theorem ownN_four (s : ByteArray) : ownN s % 4 = 0 := by unfold ownN; omega
theorem okC_of (s : ByteArray) : okC (g32 s 12) 0 (g32 s 16) 0 := by
  have := g16_nonneg s 12; have := g16_le s 12; have := g16_nonneg s (12 + 2); have := g16_le s (12 + 2)
  have := g16_nonneg s 16; have := g16_le s 16; have := g16_nonneg s (16 + 2); have := g16_le s (16 + 2)
  have e1 := g32_two s 12
  have e2 := g32_two s 16
  exact ⟨by omega, by omega, by omega, by omega, by omega, by omega, by omega, by omega⟩
theorem rw_facts {s : ByteArray} (h : rwR s = 0) {a m b n : Int} (hc : okC a m b n) : ∃ N : Nat, RwF s (rwB s a m b n) a m b n N := by
  obtain ⟨hs, ht⟩ := rw_zero h
  obtain ⟨hp, ho⟩ := seen_ip hs
  obtain ⟨f1, f2, f3, f4, f5, f6, f7, f8, f9⟩ := ip_facts hp
  obtain ⟨N, hN⟩ : ∃ N : Nat, g16 s 2 = (N : Int) := ⟨(g16 s 2).toNat, by have := g16_nonneg s 2; omega⟩
  refine ⟨N, ?_⟩
  rw [hN] at f5 f6 f7
  have hq := okC_of s
  have pz : (pP s).size = N - ownN s := by
    obtain ⟨_, _, _, y4⟩ := p_yes hp
    rw [y4, hN, Int.toNat_natCast]
    exact size_extract' s (ownN s) N (by omega) (by omega)
  have Z := ld_size ho (g32 s 12) (g32 s 16) a m b n
  have S := ld_seen ho hq hc
  have o4 := ownN_four s
  have zh := size_extract' s 0 (ownN s) (Nat.zero_le _) f4
  have bh : ∀ i, i < ownN s → bt (s.extract 0 (ownN s)) i = bt s i := fun i hi => bt_ext0 s _ i hi f4
  have gh : ∀ i, i + 1 < ownN s → g16 (s.extract 0 (ownN s)) i = g16 s i := fun i hi => g16_ext0 s _ i hi f4
  have t8 : 2 ≤ bt (s.extract 0 (ownN s)) 8 := by rw [bh 8 (by omega)]; exact ht
  have zx := headC_size (s := s.extract 0 (ownN s)) (a := a) (b := b) (by omega)
  have A := headC_all (s := s.extract 0 (ownN s)) (by omega) t8 (okC_ad hc)
  have W := headC_word (s := s.extract 0 (ownN s)) (by omega) t8 (okC_ad hc)
  have b0p := bt_nonneg s (0 + 1)
  have hg0 : 0 < g16 s 0 := by unfold g16; omega
  have H := headC_holds (s := s.extract 0 (ownN s)) (by omega) t8 (okC_ad hc) (by rw [gh 0 (by omega)]; exact hg0) f8
  obtain ⟨w0, w1, w2, w3, w4, w5, w6, w7, w8, w9⟩ := A
  rw [gh 0 (by omega)] at w0
  rw [gh 2 (by omega)] at w1
  rw [gh 4 (by omega)] at w2
  rw [gh 6 (by omega)] at w3
  rw [gh 8 (by omega)] at w4
  have e : rwB s a m b n = headC (s.extract 0 (ownN s)) a b ++ ldC (bt s 9) (pP s) (g32 s 12) (g32 s 16) a m b n := by unfold rwB; rw [if_pos h]
  obtain ⟨Y, hY⟩ : ∃ Y, ldC (bt s 9) (pP s) (g32 s 12) (g32 s 16) a m b n = Y := ⟨_, rfl⟩
  obtain ⟨X, hX⟩ : ∃ X, headC (s.extract 0 (ownN s)) a b = X := ⟨_, rfl⟩
  rw [hX] at zx W H w0 w1 w2 w3 w4 w5 w6 w7 w8 w9 e
  rw [hY] at Z S e
  rw [e]
  have zX : X.size = ownN s := by omega
  have zt : (X ++ Y).size = N := by rw [ByteArray.size_append]; omega
  have gl : ∀ i, i + 1 < ownN s → g16 (X ++ Y) i = g16 X i := fun i hi => g16_app_l X Y i (by omega)
  have c0 : g16 (X ++ Y) 0 = g16 s 0 := by rw [gl 0 (by omega), w0]
  have c1 : g16 (X ++ Y) 2 = (N : Int) := by rw [gl 2 (by omega), w1, hN]
  have c3 : g16 (X ++ Y) 6 = g16 s 6 := by rw [gl 6 (by omega), w3]
  have c4 : g16 (X ++ Y) 8 = g16 s 8 - 256 := by rw [gl 8 (by omega), w4]
  have d0 := (bt_w0 0 c0).1
  have d8 : bt (X ++ Y) 8 = bt s 8 - 1 := by rw [bt_hi, bt_hi s, c4]; omega
  have d9 : bt (X ++ Y) 9 = bt s 9 := by
    have e1 := bt_lo (X ++ Y) 8
    have e2 := bt_lo s 8
    rw [c4] at e1
    rw [show (9 : Nat) = 8 + 1 by rfl, e1, e2]; omega
  have ow : ownN (X ++ Y) = ownN s := by unfold ownN; rw [d0]
  have hh : (X ++ Y).extract 0 (ownN s) = X := by rw [← zX]; exact ext_app_l X Y
  have ip : pR (X ++ Y) = 0 := by
    refine ip_zero (by omega) (by rw [d0]; exact f2) (by omega) (by omega) (by rw [ow, c1]; omega) (by rw [c1, zt]; exact Int.le_refl _) (by rw [c1]; omega) (by rw [ow, hh]; exact H) (by rw [c3]; exact f9)
  have pl : pP (X ++ Y) = Y := by
    obtain ⟨_, _, _, y4⟩ := p_yes ip
    rw [y4, ow, c1, Int.toNat_natCast]
    have k := ext_app_r X Y 0 Y.size
    rw [zX, Nat.add_zero, ext_all, show ownN s + Y.size = N by omega] at k
    exact k
  refine ⟨hN, by omega, zt, f3, by omega, o4, ow, d0, d8, d9, c1, ?_, ?_, ?_, ?_, ?_, ?_, by rw [hh]; exact H, ip, seen_of ip ?_⟩
  · rw [g32_two, gl 12 (by omega), w6, gl (12 + 2) (by omega), w7]
    obtain ⟨q0, q1, _⟩ := hc
    omega
  · rw [g32_two, gl 16 (by omega), w8, gl (16 + 2) (by omega), w9]
    obtain ⟨q0, q1, _, _, q4, q5, _⟩ := hc
    omega
  · intro j hj
    rw [gl _ (by omega), W, if_neg (by omega), if_neg (by omega), if_neg (by omega), gh _ (by omega)]
  · intro j hj hjo
    rw [gl _ (by omega), W, if_neg (by omega), if_neg (by omega), if_neg (by omega), gh _ (by omega)]
  · intro i
    rw [hY, ← zX]
    exact g16_app_r X Y (2 * i)
  · rw [hY]; exact pl
  · rw [pl, d9]; exact S.1
/-- Bytes behind the header, by what is carried. -/
theorem g16_load {s : ByteArray} (hp : pR s = 0) {N : Nat} (hN : g16 s 2 = (N : Int)) (hz : s.size = N) (i : Nat) : g16 s (ownN s + 2 * i) = g16 (pP s) (2 * i) := by
  obtain ⟨f1, f2, f3, f4, f5, f6, f7, f8, f9⟩ := ip_facts hp
  obtain ⟨_, _, _, y4⟩ := p_yes hp
  rw [y4, hN, Int.toNat_natCast]
  have pz := size_extract' s (ownN s) N (by omega) (by omega)
  have one : ∀ k, bt s (ownN s + k) = bt (s.extract (ownN s) N) k := by
    intro k
    by_cases c : k < N - ownN s
    · rw [bt_ext s _ _ _ c (by omega)]
    · rw [bt_out s _ (by omega), bt_out _ _ (by omega)]
  unfold g16
  rw [← one, ← one, Nat.add_assoc]
end Go.Proofs.YtbglnebmfnoenaaGreatDoor

namespace Go.Proofs.YtbglnebmfnoenaaGreatDoor
set_option linter.unusedVariables false
set_option linter.unusedSimpArgs false
open Go.ChangeShapes Go.WideShapes Go.ChangeAt Go.RowKit Go.PlainAid
theorem tot_zero (s : ByteArray) : ∀ k, tot s k = 0 → ∀ j, j < k → g16 s (2 * j) = 0
  | 0, _, j, hj => by omega
  | k + 1, h, j, hj => by
    have p := tot_nonneg s k
    have q := g16_nonneg s (2 * k)
    have e : tot s k + g16 s (2 * k) = 0 := h
    by_cases c : j = k
    · subst c; omega
    · exact tot_zero s k (by omega) j (by omega)
theorem void_no {s : ByteArray} (h : voidV s = false) : ¬ totT s = 0 := by
  intro e
  have k : voidV s = true := by
    rw [voidV_iff]
    intro i hi
    have z : i = 2 * (i / 2) ∨ i = 2 * (i / 2) + 1 := by omega
    have w := tot_zero s (half s) e (i / 2) (by unfold half; omega)
    rcases z with z | z
    · rw [z, bt_hi, w]; rfl
    · rw [z, bt_lo, w]; rfl
  rw [k] at h
  cases h
/-- Has what a packet carries a right sum? -/
def rtB (s : ByteArray) : Bool := if bt s 9 = 6 then ckT (g32 s 12) (g32 s 16) (pP s) else if bt s 9 = 17 then ckU (g32 s 12) (g32 s 16) (pP s) else ckM (pP s)
theorem rt_6 {s : ByteArray} (k : bt s 9 = 6) : rtB s = ckT (g32 s 12) (g32 s 16) (pP s) := by unfold rtB; rw [if_pos k]
theorem rt_17 {s : ByteArray} (k : bt s 9 = 17) : rtB s = ckU (g32 s 12) (g32 s 16) (pP s) := by unfold rtB; rw [if_neg (by omega), if_pos k]
theorem rt_1 {s : ByteArray} (k : bt s 9 = 1) : rtB s = ckM (pP s) := by unfold rtB; rw [if_neg (by omega), if_neg (by omega)]
theorem rt_kept {s t : ByteArray} {a m b n : Int} {N : Nat} (h : rwR s = 0) (hc : okC a m b n) (R : RwF s t a m b n N) : (rtB t == rtB s || voidV (pP s) || voidV (pP t)) = true := by
  obtain ⟨hs, ht⟩ := rw_zero h
  obtain ⟨hp, ho⟩ := seen_ip hs
  have hq := okC_of s
  have hb := R.b9
  have e := R.load
  have e12 := R.a12
  have e16 := R.a16
  obtain ⟨h0, h1, h2, h3, h4, h5, h6, h7⟩ := id hc
  rcases oR_cases ho with ⟨k, t1⟩ | ⟨k, t1⟩ | ⟨k, t1, q⟩
  · rw [rt_6 k, rt_6 (hb.trans k), e, e12, e16, k, ldC_tcp, ckT_kept hq hc (tOk_size t1)]; simp
  · rw [rt_17 k, rt_17 (hb.trans k), e, e12, e16, k, ldC_udp, ckU_kept hq hc (uOk_size t1)]; simp
  · rw [rt_1 k, rt_1 (hb.trans k), e, k, ldC_ic]
    split
    · cases v1 : voidV (pP s) with
      | true => simp
      | false =>
        cases v2 : voidV (icC (pP s) (if qAsk (bt (pP s) 0) (bt (pP s) 1) = true then m else n)) with
        | true => simp
        | false => rw [ckM_kept (mOk_size t1) (by split <;> omega) (by split <;> omega) (void_no v1) (void_no v2)]; simp
    · simp
/-- Where the sum of what a packet carries stands. -/
def kAt (s : ByteArray) : Nat := if bt s 9 = 6 then ownN s + 16 else if bt s 9 = 17 then ownN s + 6 else if oK (bt s 9) (pP s) = 3 then 0 else ownN s + 2
theorem kAt_6 {s : ByteArray} (k : bt s 9 = 6) : kAt s = ownN s + 16 := by unfold kAt; rw [if_pos k]
theorem kAt_17 {s : ByteArray} (k : bt s 9 = 17) : kAt s = ownN s + 6 := by unfold kAt; rw [if_neg (by omega), if_pos k]
theorem kAt_1 {s : ByteArray} (k : bt s 9 = 1) : kAt s = if qIs (bt (pP s) 0) (bt (pP s) 1) = true then ownN s + 2 else 0 := by
  unfold kAt oK
  rw [if_neg (by omega), if_neg (by omega), if_pos k]
  cases qIs (bt (pP s) 0) (bt (pP s) 1) <;> simp
theorem kq_6 (L : ByteArray) : kq 6 L = 8 := by unfold kq; rw [if_pos rfl]
theorem kq_17 (L : ByteArray) : kq 17 L = 3 := by unfold kq; rw [if_neg (by omega), if_pos rfl]
theorem kq_1 (L : ByteArray) : kq 1 L = if qIs (bt L 0) (bt L 1) = true then 1 else 0 := by unfold kq; rw [if_neg (by omega), if_neg (by omega)]
theorem kAt_kq {s : ByteArray} (hs : seenR s = 0) : (kq (bt s 9) (pP s) = 0 ∧ kAt s = 0) ∨ (0 < kq (bt s 9) (pP s) ∧ kAt s = ownN s + 2 * kq (bt s 9) (pP s)) := by
  obtain ⟨hp, ho⟩ := seen_ip hs
  rcases oR_cases ho with ⟨k, t1⟩ | ⟨k, t1⟩ | ⟨k, t1, q⟩
  · rw [kAt_6 k, k, kq_6]; omega
  · rw [kAt_17 k, k, kq_17]; omega
  · rw [kAt_1 k, k, kq_1]
    cases qIs (bt (pP s) 0) (bt (pP s) 1) with
    | true => simp
    | false => simp
theorem kq_in {s : ByteArray} (hs : seenR s = 0) (h : 0 < kq (bt s 9) (pP s)) : 2 * kq (bt s 9) (pP s) + 2 ≤ (pP s).size := by
  obtain ⟨hp, ho⟩ := seen_ip hs
  rcases oR_cases ho with ⟨k, t1⟩ | ⟨k, t1⟩ | ⟨k, t1, q⟩
  · have := tOk_size t1; rw [k, kq_6]; omega
  · have := uOk_size t1; rw [k, kq_17]; omega
  · have := mOk_size t1; rw [k, kq_1]; split <;> omega
/-- All other bytes are as they were. -/
def headZ (i : Nat) : Bool := decide (8 ≤ i) && decide (i < 20) && decide (i ≠ 9)
def portZ (t : ByteArray) (i : Nat) : Bool := (decide (bt t 9 ≠ 1) && decide (ownN t ≤ i) && decide (i < ownN t + 4)) || (decide (bt t 9 = 1) && decide (0 < kAt t) && decide (ownN t + 4 ≤ i) && decide (i < ownN t + 6))
theorem rw_same {s t : ByteArray} {a m b n : Int} {N : Nat} (h : rwR s = 0) (hc : okC a m b n) (R : RwF s t a m b n N) (i : Nat) (hi : i < N) (h1 : headZ i = false) (h2 : portZ t i = false) (h3 : ¬ (kAt t ≠ 0 ∧ (i = kAt t ∨ i = kAt t + 1))) : bt t i = bt s i := by
  obtain ⟨hs, ht⟩ := rw_zero h
  obtain ⟨hp, ho⟩ := seen_ip hs
  obtain ⟨f1, f2, f3, f4, f5, f6, f7, f8, f9⟩ := ip_facts hp
  have hq := okC_of s
  have o4 := R.own4
  have bl : ∀ y, bt t (ownN s + y) = bt (ldC (bt s 9) (pP s) (g32 s 12) (g32 s 16) a m b n) y := by
    intro y
    have z : y = 2 * (y / 2) ∨ y = 2 * (y / 2) + 1 := by omega
    rcases z with z | z
    · rw [z, bt_hi, R.wload, ← bt_hi]
    · rw [z, ← Nat.add_assoc, bt_lo, R.wload, ← bt_lo]
  by_cases c : ownN s ≤ i
  · obtain ⟨y, rfl⟩ : ∃ y, i = ownN s + y := ⟨i - ownN s, by omega⟩
    have bs : bt s (ownN s + y) = bt (pP s) y := by
      obtain ⟨_, _, _, y4⟩ := p_yes hp
      rw [y4, R.len, Int.toNat_natCast, bt_ext s _ _ _ (by omega) R.le]
    have n1 : ¬ (0 < kq (bt s 9) (pP s) ∧ y / 2 = kq (bt s 9) (pP s)) := by
      rintro ⟨c1, c2⟩
      have kk := kAt_kq R.seen
      rw [R.b9, R.load, ld_kq ho hq hc, R.own] at kk
      rcases kk with ⟨k1, k2⟩ | ⟨k1, k2⟩
      · omega
      · exact h3 ⟨by omega, by omega⟩
    have n2 : ptW (bt s 9) (pP s) (y / 2) = false := by
      unfold portZ at h2
      rw [R.b9, R.own] at h2
      unfold ptW
      simp only [Bool.or_eq_false_iff, Bool.and_eq_false_iff, decide_eq_false_iff_not] at h2
      split
      · next k =>
        cases hqi : qIs (bt (pP s) 0) (bt (pP s) 1) with
        | false => simp
        | true =>
          have kk := kAt_kq R.seen
          rw [R.b9, R.load, ld_kq ho hq hc, R.own] at kk
          have e1 : kq (bt s 9) (pP s) = 1 := by rw [k]; unfold kq; rw [if_neg (by omega), if_neg (by omega), if_pos hqi]
          rw [e1] at kk
          simp
          omega
      · next k => simp; omega
    have W := ld_word ho hq hc (y / 2) n1 n2
    have z : y = 2 * (y / 2) ∨ y = 2 * (y / 2) + 1 := by omega
    rw [bl, bs]
    rcases z with z | z
    · rw [z, bt_hi, W, ← bt_hi]
    · rw [z, bt_lo, W, ← bt_lo]
  · unfold headZ at h1
    simp only [Bool.and_eq_false_iff, decide_eq_false_iff_not] at h1
    by_cases c9 : i = 9
    · rw [c9, R.b9]
    have z : i = 2 * (i / 2) ∨ i = 2 * (i / 2) + 1 := by omega
    have W : g16 t (2 * (i / 2)) = g16 s (2 * (i / 2)) := by
      by_cases c4 : i / 2 < 4
      · exact R.wlow _ c4
      · exact R.whigh _ (by omega) (by omega)
    rcases z with z | z
    · rw [z, bt_hi, W, ← bt_hi]
    · rw [z, bt_lo, W, ← bt_lo]
end Go.Proofs.YtbglnebmfnoenaaGreatDoor

namespace Go.Proofs.YtbglnebmfnoenaaGreatDoor
set_option linter.unusedVariables false
set_option linter.unusedSimpArgs false
open Go.ChangeShapes Go.WideShapes Go.ChangeAt Go.RowKit Go.PlainAid
end Go.Proofs.YtbglnebmfnoenaaGreatDoor

namespace Go.Proofs.YtbglnebmfnoenaaGreatDoor
set_option linter.unusedVariables false
set_option linter.unusedSimpArgs false
open Go.ChangeShapes Go.WideShapes Go.ChangeAt Go.RowKit Go.PlainAid
/-- A packet with 0 in the places of its TTL, its header's sum, and the sum of what it carries, if that is 65535. -/
def plB0 (s : ByteArray) : ByteArray := withB (withB s 8 (strOfNums [0])) 10 (strOfNums (wordL [0]))
def plB (s : ByteArray) : ByteArray := if 0 < kAt s ∧ kAt s + 1 < s.size ∧ bt s (kAt s) = 255 ∧ bt s (kAt s + 1) = 255 then withB (plB0 s) (kAt s) (strOfNums (wordL [0])) else plB0 s
theorem zero_wf : ∀ x ∈ [(0 : Int)], 0 ≤ x ∧ x ≤ 65535 := by decide
theorem plB0_size {s : ByteArray} (h : 20 ≤ s.size) : (plB0 s).size = s.size := by
  have e1 : (withB s 8 (strOfNums [0])).size = s.size := size_withB s 8 _ (by rw [strOfNums_size]; show 8 + 1 ≤ _; omega)
  unfold plB0
  rw [size_withW _ _ _ (by rw [e1]; show 10 + 2 * 1 ≤ _; omega), e1]
theorem plB0_word {s : ByteArray} (h : 20 ≤ s.size) (j : Nat) : g16 (plB0 s) (2 * j) = if j = 5 then 0 else if j = 4 then bt s 9 else g16 s (2 * j) := by
  have e1 : (withB s 8 (strOfNums [0])).size = s.size := size_withB s 8 _ (by rw [strOfNums_size]; show 8 + 1 ≤ _; omega)
  have k1 : g16 (withB s 8 (strOfNums [0])) (2 * j) = _ := g16_with1 s 0 4 j (by omega) (by omega) (by omega)
  have k2 : g16 (plB0 s) (2 * j) = _ := g16_with _ [0] 5 j zero_wf (by rw [e1]; show 2 * 5 + 2 * 1 ≤ _; omega)
  rw [k2, k1]
  have l1 : [(0 : Int)].length = 1 := rfl
  rw [l1]
  by_cases c5 : j = 5
  · subst c5; rw [if_pos (by omega), if_pos rfl]; simp
  rw [if_neg (by omega), if_neg c5]
  by_cases c4 : j = 4
  · subst c4
    rw [if_pos rfl, if_pos rfl]
    show 0 * 256 + bt s 9 = bt s 9
    omega
  · rw [if_neg c4, if_neg c4]
theorem plB_size {s : ByteArray} (h : 20 ≤ s.size) : (plB s).size = s.size := by
  unfold plB
  split
  · next c => rw [size_withW _ _ _ (by rw [plB0_size h]; show kAt s + 2 * 1 ≤ _; omega), plB0_size h]
  · exact plB0_size h
theorem plB_word {s : ByteArray} (h : 20 ≤ s.size) {q : Nat} (hq : kAt s = 2 * q) (hk : q = 0 ∨ 11 ≤ q ∧ 2 * q + 1 < s.size) (j : Nat) : g16 (plB s) (2 * j) = if 0 < q ∧ j = q then pw (g16 s (2 * q)) else g16 (plB0 s) (2 * j) := by
  have r0 := bt_nonneg s (2 * q)
  have r1 := bt_le s (2 * q)
  have r2 := bt_nonneg s (2 * q + 1)
  have r3 := bt_le s (2 * q + 1)
  have eg : g16 s (2 * q) = bt s (2 * q) * 256 + bt s (2 * q + 1) := rfl
  unfold plB
  rw [hq]
  by_cases c : 0 < 2 * q ∧ 2 * q + 1 < s.size ∧ bt s (2 * q) = 255 ∧ bt s (2 * q + 1) = 255
  · obtain ⟨c1, c2, c3, c4⟩ := c
    rw [if_pos ⟨c1, c2, c3, c4⟩, g16_with _ [0] q j zero_wf (by rw [plB0_size h]; show 2 * q + 2 * 1 ≤ _; omega)]
    have l1 : [(0 : Int)].length = 1 := rfl
    rw [l1]
    by_cases cj : j = q
    · subst cj
      rw [if_pos (by omega), if_pos (by omega)]
      unfold pw
      rw [if_pos (by omega)]
      simp
    · rw [if_neg (by omega), if_neg (by omega)]
  · rw [if_neg c]
    by_cases cj : 0 < q ∧ j = q
    · obtain ⟨cq, cj⟩ := cj
      subst cj
      rw [if_pos ⟨cq, rfl⟩, plB0_word h, if_neg (by omega), if_neg (by omega)]
      unfold pw
      rw [if_neg (by omega)]
    · rw [if_neg cj]
/-- Two packets that are alike. -/
structure Twin (X Y : ByteArray) : Prop where
  size : X.size = Y.size
  own : ownN X = ownN Y
  own0 : 20 ≤ ownN X
  own4 : ownN X % 4 = 0
  b9 : bt X 9 = bt Y 9
  a12 : g32 X 12 = g32 Y 12
  a16 : g32 X 16 = g32 Y 16
  wlow : ∀ j, j < 4 → g16 X (2 * j) = g16 Y (2 * j)
  whigh : ∀ j, 10 ≤ j → 2 * j < ownN X → g16 X (2 * j) = g16 Y (2 * j)
  seenX : seenR X = 0
  seenY : seenR Y = 0
  kqs : kq (bt X 9) (pP X) = kq (bt Y 9) (pP Y)
  loadX : ∀ i, g16 X (ownN X + 2 * i) = g16 (pP X) (2 * i)
  loadY : ∀ i, g16 Y (ownN Y + 2 * i) = g16 (pP Y) (2 * i)
  sizeX : X.size = ownN X + (pP X).size
  alike : Alike (kq (bt X 9) (pP X)) (pP X) (pP Y)
theorem Twin.plain {X Y : ByteArray} (T : Twin X Y) : plB X = plB Y := by
  have o0 := T.own0
  have o4 := T.own4
  have zX := T.sizeX
  have hx : 20 ≤ X.size := by omega
  have hy : 20 ≤ Y.size := by rw [← T.size]; exact hx
  have kx := kAt_kq T.seenX
  have ky := kAt_kq T.seenY
  have ki := kq_in T.seenX
  rw [← T.kqs, ← T.own] at ky
  obtain ⟨q, e1, e2, e3, e4⟩ : ∃ q, kAt X = 2 * q ∧ kAt Y = 2 * q ∧ (q = 0 ∨ 11 ≤ q ∧ 2 * q + 1 < X.size) ∧ ((q = 0 ∧ kq (bt X 9) (pP X) = 0) ∨ (0 < kq (bt X 9) (pP X) ∧ 2 * q = ownN X + 2 * kq (bt X 9) (pP X))) := by
    rcases kx with ⟨k1, k2⟩ | ⟨k1, k2⟩
    · rcases ky with ⟨k3, k4⟩ | ⟨k3, k4⟩
      · exact ⟨0, by omega, by omega, .inl rfl, .inl ⟨rfl, k1⟩⟩
      · omega
    · rcases ky with ⟨k3, k4⟩ | ⟨k3, k4⟩
      · omega
      · have := ki k1
        exact ⟨ownN X / 2 + kq (bt X 9) (pP X), by omega, by omega, .inr ⟨by omega, by omega⟩, .inr ⟨k1, by omega⟩⟩
  refine ba_w (by rw [plB_size hx, plB_size hy, T.size]) fun j _ => ?_
  rw [plB_word hx e1 e3, plB_word hy e2 (by rw [← T.size]; exact e3)]
  by_cases c : 0 < q ∧ j = q
  · rw [if_pos c, if_pos c]
    rcases e4 with ⟨k1, k2⟩ | ⟨k1, k2⟩
    · omega
    · rw [k2, T.loadX, T.own, T.loadY]
      exact T.alike.2.2
  · rw [if_neg c, if_neg c, plB0_word hx, plB0_word hy]
    by_cases c5 : j = 5
    · rw [if_pos c5, if_pos c5]
    rw [if_neg c5, if_neg c5]
    by_cases c4 : j = 4
    · rw [if_pos c4, if_pos c4, T.b9]
    rw [if_neg c4, if_neg c4]
    by_cases d0 : j < 4
    · exact T.wlow j d0
    by_cases d1 : j < 10
    · have a1 := T.a12
      have a2 := T.a16
      rw [g32_two, g32_two] at a1 a2
      have l1 := g16_nonneg X (12 + 2); have l2 := g16_le X (12 + 2); have l3 := g16_nonneg Y (12 + 2); have l4 := g16_le Y (12 + 2)
      have m1 := g16_nonneg X (16 + 2); have m2 := g16_le X (16 + 2); have m3 := g16_nonneg Y (16 + 2); have m4 := g16_le Y (16 + 2)
      have hj : j = 6 ∨ j = 7 ∨ j = 8 ∨ j = 9 := by omega
      rcases hj with rfl | rfl | rfl | rfl
      · show g16 X 12 = g16 Y 12; omega
      · show g16 X (12 + 2) = g16 Y (12 + 2); omega
      · show g16 X 16 = g16 Y 16; omega
      · show g16 X (16 + 2) = g16 Y (16 + 2); omega
    by_cases d2 : 2 * j < ownN X
    · exact T.whigh j (by omega) d2
    obtain ⟨i, hi⟩ : ∃ i, 2 * j = ownN X + 2 * i := ⟨j - ownN X / 2, by omega⟩
    rw [hi, T.loadX, T.own, T.loadY]
    refine T.alike.2.1 i ?_
    rintro ⟨n1, n2⟩
    rcases e4 with ⟨k1, k2⟩ | ⟨k1, k2⟩
    · omega
    · exact c ⟨by omega, by omega⟩
theorem RwF.loadW {s t : ByteArray} {a m b n : Int} {N : Nat} (R : RwF s t a m b n N) (i : Nat) : g16 t (ownN t + 2 * i) = g16 (pP t) (2 * i) := by
  rw [R.own, R.load]; exact R.wload i
theorem RwF.sizeW {s t : ByteArray} {a m b n : Int} {N : Nat} (R : RwF s t a m b n N) : t.size = ownN t + (pP t).size := by
  obtain ⟨_, _, _, y4⟩ := p_yes R.ip
  rw [y4, R.w1, Int.toNat_natCast, R.own, size_extract' t (ownN s) N R.own1 (by rw [R.size]; exact Nat.le_refl _), R.size]
  have := R.own1
  omega
/-- Changed twice. -/
theorem rw_twice {s t u v : ByteArray} {a m b n c k d l : Int} {N N' M : Nat} (h : rwR s = 0) (hc : okC a m b n) (hd : okC c k d l) (R : RwF s t a m b n N) (R' : RwF t u c k d l N') (Q : RwF s v c k d l M) : plB u = plB v := by
  obtain ⟨hs, ht⟩ := rw_zero h
  obtain ⟨hp, ho⟩ := seen_ip hs
  have hq := okC_of s
  have eN : N' = N := by have h1 := R'.len; have h2 := R.w1; omega
  have eM : M = N := by have h1 := Q.len; have h2 := R.len; omega
  have S := ld_seen ho hq hc
  have lu : pP u = ldC (bt s 9) (ldC (bt s 9) (pP s) (g32 s 12) (g32 s 16) a m b n) a b c k d l := by rw [R'.load, R.b9, R.load, R.a12, R.a16]
  have kqu : kq (bt u 9) (pP u) = kq (bt s 9) (pP s) := by rw [R'.b9, R.b9, lu, ld_kq S.1 (okC_ad hc) hd, ld_kq ho hq hc]
  have kqv : kq (bt v 9) (pP v) = kq (bt s 9) (pP s) := by rw [Q.b9, Q.load, ld_kq ho hq hd]
  refine Twin.plain ⟨by rw [R'.size, Q.size, eN, eM], by rw [R'.own, R.own, Q.own], by rw [R'.own, R.own]; exact R.own0, by rw [R'.own, R.own]; exact R.own4, by rw [R'.b9, R.b9, Q.b9], by rw [R'.a12, Q.a12], by rw [R'.a16, Q.a16],
    fun j hj => by rw [R'.wlow j hj, R.wlow j hj, Q.wlow j hj], fun j hj hjo => ?_, R'.seen, Q.seen, by rw [kqu, kqv], R'.loadW, Q.loadW, R'.sizeW, ?_⟩
  · rw [R'.own, R.own] at hjo
    rw [R'.whigh j hj (by rw [R.own]; exact hjo), R.whigh j hj hjo, Q.whigh j hj hjo]
  · rw [kqu, lu, Q.load]
    exact ld_twice ho hq hc hd
/-- Changed, and changed back. -/
theorem rw_back {s t u : ByteArray} {a m b n : Int} {N N' : Nat} (h : rwR s = 0) (hc : okC a m b n) (R : RwF s t a m b n N) (R' : RwF t u (g32 s 12) (oM (bt s 9) (pP s)) (g32 s 16) (oN (bt s 9) (pP s)) N') (hk : okC (g32 s 12) (oM (bt s 9) (pP s)) (g32 s 16) (oN (bt s 9) (pP s))) : N' = N ∧ plB u = plB (s.extract 0 N) := by
  obtain ⟨hs, ht⟩ := rw_zero h
  obtain ⟨hp, ho⟩ := seen_ip hs
  have hq := okC_of s
  have eN : N' = N := by have h1 := R'.len; have h2 := R.w1; omega
  have S := ld_seen ho hq hc
  obtain ⟨f1, f2, f3, f4, f5, f6, f7, f8, f9⟩ := ip_facts hp
  obtain ⟨y1, y2, y3, y4, y5, y6, y7, y8⟩ := ip_all hp N R.len
  have z0 := size_extract' s 0 N (Nat.zero_le _) y1
  have be : ∀ i, i < N → bt (s.extract 0 N) i = bt s i := fun i hi => bt_ext0 s N i hi y1
  have ge : ∀ i, i + 1 < N → g16 (s.extract 0 N) i = g16 s i := fun i hi => g16_ext0 s N i hi y1
  have ow : ownN (s.extract 0 N) = ownN s := by unfold ownN; rw [be 0 (by omega)]
  have o1 := R.own1
  have se : seenR (s.extract 0 N) = 0 := seen_of y3 (by rw [y4, y8]; exact ho)
  have lu : pP u = ldC (bt s 9) (ldC (bt s 9) (pP s) (g32 s 12) (g32 s 16) a m b n) a b (g32 s 12) (oM (bt s 9) (pP s)) (g32 s 16) (oN (bt s 9) (pP s)) := by rw [R'.load, R.b9, R.load, R.a12, R.a16]
  have kqu : kq (bt u 9) (pP u) = kq (bt s 9) (pP s) := by rw [R'.b9, R.b9, lu, ld_kq S.1 (okC_ad hc) hk, ld_kq ho hq hc]
  have pz : (pP s).size = N - ownN s := by
    obtain ⟨_, _, _, y4⟩ := p_yes hp
    rw [y4, R.len, Int.toNat_natCast]
    exact size_extract' s (ownN s) N (by omega) (by omega)
  refine ⟨eN, Twin.plain ⟨by rw [R'.size, eN, z0]; omega, by rw [R'.own, R.own, ow], by rw [R'.own, R.own]; exact R.own0, by rw [R'.own, R.own]; exact R.own4, by rw [R'.b9, R.b9, y4], by rw [R'.a12, y6], by rw [R'.a16, y7],
    fun j hj => by rw [R'.wlow j hj, R.wlow j hj, ge _ (by omega)], fun j hj hjo => ?_, R'.seen, se, by rw [kqu, y4, y8], R'.loadW, fun i => g16_load y3 (N := N) (by rw [ge 2 (by omega)]; exact R.len) (by omega) i, R'.sizeW, ?_⟩⟩
  · rw [R'.own, R.own] at hjo
    have o4 := R.own4
    rw [R'.whigh j hj (by rw [R.own]; exact hjo), R.whigh j hj hjo, ge _ (by omega)]
  · rw [kqu, lu, y8]
    exact (ld_twice ho hq hc hk).trans (ld_self ho hq)
end Go.Proofs.YtbglnebmfnoenaaGreatDoor
