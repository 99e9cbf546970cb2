/- Texts of this proof, together: SumsP, SumsA, SumsB, SumsC, Region, SumsLaid, SumsQ, SumsR. -/
import Derived.Test.YtbpicngbjggblaaGreatDoorGa
import Derived.Lib.Strings
namespace Go.Proofs.YtbpicngbjggblaaGreatDoor
set_option linter.unusedVariables false
open Go.PlainAid
/-- Both, added. -/
def addW (a b : Int) : Int := if 65535 < a + b then a + b - 65535 else a + b
theorem addW_bd {a b : Int} (h0 : 0 ≤ a) (h1 : a ≤ 65535) (h2 : 0 ≤ b) (h3 : b ≤ 65535) : 0 ≤ addW a b ∧ addW a b ≤ 65535 := by
  unfold addW; split <;> omega
/-- The first words of a text, added to a number. -/
def addWs (s : ByteArray) (n : Int) : Nat → Int
  | 0 => n
  | i + 1 => addW (addWs s n i) (g16 s (2 * i))
theorem addWs_bd (s : ByteArray) {n : Int} (h0 : 0 ≤ n) (h1 : n ≤ 65535) : ∀ i, 0 ≤ addWs s n i ∧ addWs s n i ≤ 65535
  | 0 => ⟨h0, h1⟩
  | i + 1 => by
    have h := addWs_bd s h0 h1 i
    exact addW_bd h.1 h.2 (g16_nonneg _ _) (g16_le _ _)
def half (s : ByteArray) : Nat := (s.size + 1) / 2
def addT (n : Int) (s : ByteArray) : Int := addWs s n (half s)
theorem addT_bd (s : ByteArray) {n : Int} (h0 : 0 ≤ n) (h1 : n ≤ 65535) : 0 ≤ addT n s ∧ addT n s ≤ 65535 := addWs_bd s h0 h1 _
def addTs (n : Int) (ss : List ByteArray) : Int := ss.foldl addT n
theorem addTs_bd : ∀ (ss : List ByteArray) {n : Int} (_ : 0 ≤ n) (_ : n ≤ 65535), 0 ≤ addTs n ss ∧ addTs n ss ≤ 65535
  | [], _, h0, h1 => ⟨h0, h1⟩
  | s :: r, _, h0, h1 => by
    have h := addT_bd s h0 h1
    exact addTs_bd r h.1 h.2
theorem addTs_snoc (n : Int) (ss : List ByteArray) (s : ByteArray) : addTs n (ss ++ [s]) = addT (addTs n ss) s := by simp [addTs]
def sumV (ss : List ByteArray) : Int := 65535 - addTs 0 ss
theorem sumV_bd (ss : List ByteArray) : 0 ≤ sumV ss ∧ sumV ss ≤ 65535 := by
  have := addTs_bd ss (n := 0) (by omega) (by omega)
  unfold sumV; omega
def holdsV (ss : List ByteArray) : Bool := decide (sumV ss = 0)
def updW (n f t : Int) : Int := 65535 - addW (addW (65535 - n) (65535 - f)) t
theorem updW_bd {n f t : Int} (h0 : 0 ≤ n) (h1 : n ≤ 65535) (h2 : 0 ≤ f) (h3 : f ≤ 65535) (h4 : 0 ≤ t) (h5 : t ≤ 65535) : 0 ≤ updW n f t ∧ updW n f t ≤ 65535 := by
  have a := addW_bd (a := 65535 - n) (b := 65535 - f) (by omega) (by omega) (by omega) (by omega)
  have b := addW_bd a.1 a.2 h4 h5
  unfold updW; omega
def updWs (n : Int) (f t : ByteArray) : Nat → Int
  | 0 => n
  | i + 1 => updW (updWs n f t i) (g16 f (2 * i)) (g16 t (2 * i))
theorem updWs_bd (f t : ByteArray) {n : Int} (h0 : 0 ≤ n) (h1 : n ≤ 65535) : ∀ i, 0 ≤ updWs n f t i ∧ updWs n f t i ≤ 65535
  | 0 => ⟨h0, h1⟩
  | i + 1 => by
    have h := updWs_bd f t h0 h1 i
    exact updW_bd h.1 h.2 (g16_nonneg _ _) (g16_le _ _) (g16_nonneg _ _) (g16_le _ _)
def updV (n : Int) (f t : ByteArray) : Int := if f.size ≠ t.size ∨ f.size % 2 = 1 then n else updWs n f t (f.size / 2)
theorem updV_bd (f t : ByteArray) {n : Int} (h0 : 0 ≤ n) (h1 : n ≤ 65535) : 0 ≤ updV n f t ∧ updV n f t ≤ 65535 := by
  unfold updV; split
  · exact ⟨h0, h1⟩
  · exact updWs_bd f t h0 h1 _

/-- A number that is 0 as 0, any other one as one of 1 to 65535. -/
def cl (t : Int) : Int := if t = 0 then 0 else (t - 1) % 65535 + 1
theorem addW_cl {t w : Int} (h : 0 ≤ t) (h0 : 0 ≤ w) (h1 : w ≤ 65535) : addW (cl t) w = cl (t + w) := by
  unfold addW cl
  split <;> split <;> split <;> omega
/-- What the first words of a text come to. -/
def tot (s : ByteArray) : Nat → Int
  | 0 => 0
  | i + 1 => tot s i + g16 s (2 * i)
theorem tot_nonneg (s : ByteArray) : ∀ i, 0 ≤ tot s i
  | 0 => by simp [tot]
  | i + 1 => by have := tot_nonneg s i; have := g16_nonneg s (2 * i); simp only [tot]; omega
theorem addWs_cl (s : ByteArray) {t : Int} (h : 0 ≤ t) : ∀ i, addWs s (cl t) i = cl (t + tot s i)
  | 0 => by simp [addWs, tot]
  | i + 1 => by
    have := tot_nonneg s i
    rw [addWs, addWs_cl s h i, addW_cl (by omega) (g16_nonneg _ _) (g16_le _ _), tot, Int.add_assoc]
def totT (s : ByteArray) : Int := tot s (half s)
theorem totT_nonneg (s : ByteArray) : 0 ≤ totT s := tot_nonneg _ _
def totTs (ss : List ByteArray) : Int := (ss.map totT).sum
theorem addTs_cl : ∀ (ss : List ByteArray) {t : Int} (_ : 0 ≤ t), addTs (cl t) ss = cl (t + totTs ss)
  | [], t, _ => by simp [addTs, totTs]
  | s :: r, t, h => by
    have h1 := totT_nonneg s
    have e : addTs (cl t) (s :: r) = addTs (addT (cl t) s) r := rfl
    rw [e, addT, addWs_cl s h]
    have := addTs_cl r (t := t + tot s (half s)) (by unfold totT at h1; omega)
    rw [this]
    simp only [totTs, List.map_cons, List.sum_cons, totT, Int.add_assoc]
theorem sumV_cl (ss : List ByteArray) : sumV ss = 65535 - cl (totTs ss) := by
  have := addTs_cl ss (t := 0) (by omega)
  rw [show cl 0 = 0 from rfl, Int.zero_add] at this
  rw [sumV, this]
theorem g16_W (zs : List Int) (h : ∀ n ∈ zs, 0 ≤ n ∧ n ≤ 65535) (i : Nat) : g16 (strOfNums (wordL zs)) (2 * i) = zs.getD i 0 := by
  unfold g16
  rw [bt_nums _ _ (wordL_wf zs h), bt_nums _ _ (wordL_wf zs h), wordL_even, wordL_odd]
  omega
theorem size_W (zs : List Int) : (strOfNums (wordL zs)).size = 2 * zs.length := by rw [strOfNums_size, wordL_length]
/-- A text's number at a place where it ends, with one byte 0 more. -/
theorem bt_zero_tail (s : ByteArray) (k : Nat) : bt (s ++ ⟨#[0]⟩) k = bt s k := by
  by_cases h : k < s.size
  · rw [bt_append_left _ _ _ h]
  · obtain ⟨j, rfl⟩ : ∃ j, k = s.size + j := ⟨k - s.size, by omega⟩
    rw [bt_append_right]
    have e : bt s (s.size + j) = 0 := by unfold bt; rw [dif_neg (by omega)]
    rw [e]
    unfold bt
    split
    · rename_i hj
      have hj' : j < 1 := hj
      obtain rfl : j = 0 := by omega
      rfl
    · rfl
theorem g16_zero_tail (s : ByteArray) (k : Nat) : g16 (s ++ ⟨#[0]⟩) k = g16 s k := by unfold g16; rw [bt_zero_tail, bt_zero_tail]
theorem bt_extract_end (s : ByteArray) (e j : Nat) (he : e ≤ s.size) : bt (s.extract e s.size) j = bt s (e + j) := by
  rw [bt_eq, bt_eq]
  have : (s.extract e s.size).data.toList = s.data.toList.drop e := by
    rw [Lib.extract_data]
    rw [List.take_of_length_le]
    rw [List.length_drop, len_data]
    exact Nat.le_refl _
  rw [this]
  simp [List.getD, List.getElem?_drop]
theorem g16_extract_end (s : ByteArray) (e : Nat) (he : e ≤ s.size) : g16 (s.extract e s.size ++ ⟨#[0]⟩) 0 = g16 s e := by
  rw [g16_zero_tail]; unfold g16; rw [bt_extract_end s e 0 he, bt_extract_end s e (0 + 1) he, Nat.add_zero, Nat.zero_add]
end Go.Proofs.YtbpicngbjggblaaGreatDoor
namespace Go.Proofs.YtbpicngbjggblaaGreatDoor
set_option maxHeartbeats 1000000
set_option maxRecDepth 100000
open Go.ChangeShapes Go.WideShapes Go.ChangeAt Go.RowKit Go.PlainAid
/-- What a callee wants of a slice of strings: its elements. -/
def RowS (w : World) (a : Option Addr) (len : Nat) (ss : List ByteArray) : Prop :=
  ss.length = len ∧ (∀ s ∈ ss, s.size ≤ maxLen) ∧ len ≤ maxLen ∧
  (len = 0 ∨ ∃ b off, a = some ⟨b, off, none⟩ ∧ b < w.heap.size ∧ ∀ t, t < len → w.cell? ⟨b, off + t, none⟩ = some (.string (ss.getD t ByteArray.empty)))
theorem RowS.mem {w : World} {a : Option Addr} {len : Nat} {ss : List ByteArray} (h : RowS w a len ss) {t : Nat} (ht : t < len) : (ss.getD t ByteArray.empty).size ≤ maxLen := by
  have hl : t < ss.length := by rw [h.1]; exact ht
  rw [getD_lt _ _ _ hl]
  exact h.2.1 _ (List.getElem_mem hl)

theorem add_ (a b : Int) (w : World) (h0 : 0 ≤ a) (h1 : a ≤ 65535) (h2 : 0 ≤ b) (h3 : b ≤ 65535) :
    Calls Tryz.prog 130 #[.int .u16 a, .int .u16 b] w fun e w' => e = .returned (.int .u16 (addW a b)) ∧ w = w' := by
  have e : Hid (addW a b = if 65535 < a + b then a + b - 65535 else a + b) := rfl
  by_cases h : 65535 < a + b
  · have E : Hid (addW a b = a + b - 65535) := by rw [e.out, if_pos h]; show _ = _; rfl
    clear e
    go_enter Tryz.func130, Tryz.ntmps130
    go_wp2
    go_ret
    rw [E.out]
    exact ⟨rfl, rfl⟩
  · have E : Hid (addW a b = a + b) := by rw [e.out, if_neg h]; show _ = _; rfl
    clear e
    go_enter Tryz.func130, Tryz.ntmps130
    go_wp2
    go_ret
    rw [E.out]
    exact ⟨rfl, rfl⟩
theorem turn_ (a : Int) (w : World) (h0 : 0 ≤ a) (h1 : a ≤ 65535) :
    Calls Tryz.prog 102 #[.int .u16 a] w fun e w' => e = .returned (.int .u16 (65535 - a)) ∧ w = w' := by
  go_enter Tryz.func102, Tryz.ntmps102
  go_wp2
  go_ret
  exact ⟨rfl, rfl⟩
theorem update_ (n f t : Int) (w : World) (h0 : 0 ≤ n) (h1 : n ≤ 65535) (h2 : 0 ≤ f) (h3 : f ≤ 65535) (h4 : 0 ≤ t) (h5 : t ≤ 65535) :
    Calls Tryz.prog 80 #[.int .u16 n, .int .u16 f, .int .u16 t] w fun e w' => e = .returned (.int .u16 (updW n f t)) ∧ w = w' := by
  obtain ⟨a0, a1⟩ := addW_bd (a := 65535 - n) (b := 65535 - f) (by omega) (by omega) (by omega) (by omega)
  obtain ⟨b0, b1⟩ := addW_bd a0 a1 h4 h5
  go_enter Tryz.func80, Tryz.ntmps80
  go_wp2_with fail
  refine (turn_ _ _ h0 h1).mono ?_; rintro e w' ⟨rfl, rfl⟩
  go_wp2_with fail
  refine (turn_ _ _ h2 h3).mono ?_; rintro e w' ⟨rfl, rfl⟩
  go_wp2_with fail
  refine (add_ _ _ _ (by omega) (by omega) (by omega) (by omega)).mono ?_; rintro e w' ⟨rfl, rfl⟩
  go_wp2_with fail
  refine (add_ _ _ _ a0 a1 h4 h5).mono ?_; rintro e w' ⟨rfl, rfl⟩
  go_wp2_with fail
  refine (turn_ _ _ b0 b1).mono ?_; rintro e w' ⟨rfl, rfl⟩
  go_wp2
  go_ret
  exact ⟨rfl, rfl⟩

theorem addWords_ (n : Int) (s : ByteArray) (w : World) (h0 : 0 ≤ n) (h1 : n ≤ 65535) (hs : s.size ≤ maxLen) :
    Cw_ 101 #[.int .u16 n, .string s] (.int .u16 (addT n s)) w := by
  have hs' := hs
  unfold maxLen at hs'
  obtain ⟨k, r, hkr, hr⟩ : ∃ k r, s.size = 2 * k + r ∧ r < 2 := ⟨s.size / 2, s.size % 2, by omega, by omega⟩
  have e1 : (s.size : Int) % 2 = r := by omega
  have e2 : (s.size : Int) - r = 2 * k := by omega
  have HKR := Lib.hid hkr
  clear hkr
  go_enter Tryz.func101, Tryz.ntmps101
  go_wp2_with fail
  clear e1 e2
  go_loopw [0, 6] (fun v si wr => ∃ i : Nat, i ≤ k ∧ si = .int .i64 (2 * i) ∧ v = .int .u16 (addWs s n i) ∧ Below w.heap.size w wr) (fun _ si _ => 2 * k - (intOf si).toNat)
  case atStart => exact ⟨0, Nat.zero_le _, rfl, rfl, Below.refl _ _⟩
  case round =>
    obtain ⟨i, hi, rfl, rfl, B⟩ := hrel
    obtain ⟨b0, b1⟩ := addWs_bd s h0 h1 i
    by_cases hlt : i < k
    · have HN : Hid (addWs s n (i + 1) = addW (addWs s n i) (g16 s (2 * i))) := rfl
      have c0 := g16_nonneg s (2 * i)
      have c1 := g16_le s (2 * i)
      have e3 : decide (2 * (i : Int) < 2 * (k : Int)) = true := by simp; omega
      have e4 : 2 * (i : Int) + 2 ≤ 9223372036854775807 := by have := HKR.out; omega
      go_wp2_with fail
      refine (get16_yes s (2 * i) _ hs (by have := HKR.out; omega)).mono ?_; rintro e w1 ⟨rfl, B1⟩
      go_wp2_with fail
      refine (add_ _ _ _ b0 b1 c0 c1).mono ?_; rintro e w2 ⟨rfl, rfl⟩
      have B2 := B.trans (B1.mono B.size)
      clear B B1
      go_wp2
      go_roundw
      case rel => exact ⟨i + 1, by omega, by go_num, by rw [HN.out], B2⟩
      case measure => simp [intOf]; omega
    · have hik : i = k := by omega
      have e3 : decide (2 * (i : Int) < 2 * (k : Int)) = false := by simp; omega
      by_cases hr1 : r = 1
      · have e4 : decide (2 * (k : Int) < (s.size : Int)) = true := by have := HKR.out; simp; omega
        have e5 : 2 * (k : Int) ≤ (s.size : Int) := by have := HKR.out; omega
        have hx : (s.extract (2 * k) s.size).size = 1 := by rw [ByteArray.size_extract]; have := HKR.out; omega
        have hsz : (s.extract (2 * k) s.size).size + (⟨#[0]⟩ : ByteArray).size ≤ 9223372036854775807 := by rw [hx]; simp [ByteArray.size]
        have G := Lib.hid (g16_extract_end s (2 * k) (by omega))
        have hy : (s.extract (2 * k) s.size ++ ⟨#[0]⟩).size = 2 := by rw [ByteArray.size_append, hx]; rfl
        have HY := Lib.hid hy
        have HN : Hid (addT n s = addW (addWs s n i) (g16 s (2 * k))) := by
          have : half s = k + 1 := by have := HKR.out; unfold half; omega
          unfold addT; rw [this, hik]; rfl
        have c0 := g16_nonneg s (2 * k)
        have c1 := g16_le s (2 * k)
        clear hx hy hik hr1
        go_wp2_with fail
        refine (get16_yes _ 0 _ (by rw [HY.out]; unfold maxLen; omega) (by rw [HY.out]; omega)).mono ?_; rintro e w1 ⟨rfl, B1⟩
        rw [G.out]
        go_wp2_with fail
        refine (add_ _ _ _ b0 b1 c0 c1).mono ?_; rintro e w2 ⟨rfl, rfl⟩
        have B2 := B.trans (B1.mono B.size)
        clear B B1
        go_wp2
        go_ret
        rw [HN.out]
        exact ⟨rfl, B2⟩
      · have e4 : decide (2 * (k : Int) < (s.size : Int)) = false := by have := HKR.out; simp; omega
        have HN : Hid (addT n s = addWs s n i) := by
          have : half s = k := by have := HKR.out; unfold half; omega
          unfold addT; rw [this, hik]; show _ = _; rfl
        clear hik hr1
        go_wp2
        go_ret
        rw [HN.out]
        exact ⟨rfl, B⟩
theorem take_snoc_getB (ss : List ByteArray) (k : Nat) (h : k < ss.length) : ss.take (k + 1) = ss.take k ++ [ss.getD k ByteArray.empty] := by
  rw [List.take_succ_eq_append_getElem h]; simp [List.getD, h]
theorem sum_ (a : Option Addr) (len cap : Nat) (ss : List ByteArray) (w : World) (h : RowS w a len ss) :
    Cw_ 53 #[.slice a len cap] (.int .u16 (sumV ss)) w := by
  have ROW := Lib.hid h
  have hlen := h.2.2.1
  unfold maxLen at hlen
  have HV := Lib.hid (show sumV ss = 65535 - addTs 0 ss from rfl)
  have HL := Lib.hid h.1
  clear h
  go_enter Tryz.func53, Tryz.ntmps53
  go_wp2_with fail
  go_loopw [3, 8] (fun v si wr => ∃ i : Nat, i ≤ len ∧ si = .int .i64 i ∧ v = .int .u16 (addTs 0 (ss.take i)) ∧ Below w.heap.size w wr) (fun _ si _ => len - (intOf si).toNat)
  case atStart => exact ⟨0, Nat.zero_le _, rfl, rfl, Below.refl _ _⟩
  case round =>
    obtain ⟨i, hi, rfl, rfl, B⟩ := hrel
    obtain ⟨b0, b1⟩ := addTs_bd (ss.take i) (n := 0) (by omega) (by omega)
    by_cases hlt : i < len
    · obtain ⟨b, off, rfl, hb, hc⟩ : ∃ b off, a = some ⟨b, off, none⟩ ∧ b < w.heap.size ∧ ∀ t, t < len → w.cell? ⟨b, off + t, none⟩ = some (.string (ss.getD t ByteArray.empty)) := by
        rcases ROW.out.2.2.2 with h | h
        · omega
        · exact h
      have hcell := (B.cell (by exact hb)).trans (hc i hlt)
      have hsz := ROW.out.mem hlt
      have HT := Lib.hid (take_snoc_getB ss i (by rw [HL.out]; exact hlt))
      obtain ⟨s, hs⟩ : ∃ s, s = ss.getD i ByteArray.empty := ⟨_, rfl⟩
      rw [← hs] at hcell hsz HT
      clear hc hs
      go_wp2_with fail
      refine (addWords_ _ s _ b0 b1 hsz).mono ?_; rintro e w1 ⟨rfl, B1⟩
      have B2 := B.trans (B1.mono B.size)
      clear B B1 hcell
      go_wp2
      go_roundw
      case rel => exact ⟨i + 1, by omega, by go_num, by rw [HT.out, addTs_snoc], B2⟩
      case measure => simp [intOf]; omega
    · have HT : Hid (ss.take i = ss) := by have := HL.out; show _ = _; rw [List.take_of_length_le]; omega
      go_wp2_with fail
      refine (turn_ _ _ b0 b1).mono ?_; rintro e w1 ⟨rfl, rfl⟩
      go_wp2
      go_ret
      rw [HV.out]
      exact ⟨by rw [HT.out]; rfl, B⟩
theorem holds_ (a : Option Addr) (len cap : Nat) (ss : List ByteArray) (w : World) (h : RowS w a len ss) :
    Cw_ 20 #[.slice a len cap] (.bool (holdsV ss)) w := by
  have hb := sumV_bd ss
  have H := Lib.hid (show holdsV ss = decide (sumV ss = 0) from rfl)
  go_enter Tryz.func20, Tryz.ntmps20
  go_wp2_with fail
  refine (sum_ _ _ _ _ _ h).mono ?_; rintro e w1 ⟨rfl, B1⟩
  by_cases h0 : sumV ss = 0
  · rw [h0]
    go_wp2
    go_ret
    rw [H.out, h0]
    exact ⟨rfl, B1⟩
  · have e : (sumV ss == 0) = false := by simp [h0]
    go_wp2
    go_ret
    rw [H.out]
    rw [show decide (sumV ss = 0) = false by simp [h0]]
    exact ⟨rfl, B1⟩
theorem updates_ (n : Int) (f t : ByteArray) (w : World) (h0 : 0 ≤ n) (h1 : n ≤ 65535) (hf : f.size ≤ maxLen) (ht : t.size ≤ maxLen) :
    Cw_ 34 #[.int .u16 n, .string f, .string t] (.int .u16 (updV n f t)) w := by
  have hf' := hf
  have ht' := ht
  unfold maxLen at hf' ht'
  have HV := Lib.hid (show updV n f t = if f.size ≠ t.size ∨ f.size % 2 = 1 then n else updWs n f t (f.size / 2) from rfl)
  by_cases hz : f.size = t.size
  · have e1 : (!decide ((f.size : Int) = (t.size : Int))) = false := by simp; omega
    have e1' : ((f.size : Int) != (t.size : Int)) = false := by simp; omega
    by_cases hodd : f.size % 2 = 1
    · have E : Hid (updV n f t = n) := by rw [HV.out, if_pos (.inr hodd)]; show _ = _; rfl
      have e2 : (f.size : Int) % 2 = 1 := by omega
      clear HV hodd hz
      go_enter Tryz.func34, Tryz.ntmps34
      go_wp2
      go_ret
      rw [E.out]
      exact ⟨rfl, Below.refl _ _⟩
    · have E : Hid (updV n f t = updWs n f t (f.size / 2)) := by rw [HV.out, if_neg (by omega)]; show _ = _; rfl
      have e2 : (f.size : Int) % 2 = 0 := by omega
      obtain ⟨k, hk⟩ : ∃ k, f.size = 2 * k := ⟨f.size / 2, by omega⟩
      have HK := Lib.hid hk
      have HZ := Lib.hid hz
      have e3 : (f.size : Int) = 2 * (k : Int) := by omega
      have e3' : (t.size : Int) = 2 * (k : Int) := by omega
      clear e1 e1' e2
      have e2 : (2 * (k : Int)) % 2 = 0 := by omega
      clear HV hodd hz hk
      go_enter Tryz.func34, Tryz.ntmps34
      go_wp2_with fail
      go_loopw [0, 7] (fun v si wr => ∃ i : Nat, i ≤ k ∧ si = .int .i64 (2 * i) ∧ v = .int .u16 (updWs n f t i) ∧ Below w.heap.size w wr) (fun _ si _ => 2 * k - (intOf si).toNat)
      case atStart => exact ⟨0, Nat.zero_le _, rfl, rfl, Below.refl _ _⟩
      case round =>
        obtain ⟨i, hi, rfl, rfl, B⟩ := hrel
        obtain ⟨b0, b1⟩ := updWs_bd f t h0 h1 i
        by_cases hlt : i < k
        · have HN : Hid (updWs n f t (i + 1) = updW (updWs n f t i) (g16 f (2 * i)) (g16 t (2 * i))) := rfl
          have c0 := g16_nonneg f (2 * i)
          have c1 := g16_le f (2 * i)
          have d0 := g16_nonneg t (2 * i)
          have d1 := g16_le t (2 * i)
          have e4 : decide (2 * (i : Int) < 2 * (k : Int)) = true := by simp; omega
          have e5 : 2 * (i : Int) + 2 ≤ 9223372036854775807 := by omega
          go_wp2_with fail
          refine (get16_yes f (2 * i) _ hf (by have := HK.out; omega)).mono ?_; rintro e w1 ⟨rfl, B1⟩
          go_wp2_with fail
          refine (get16_yes t (2 * i) _ ht (by have := HK.out; have := HZ.out; omega)).mono ?_; rintro e w2 ⟨rfl, B2⟩
          go_wp2_with fail
          refine (update_ _ _ _ _ b0 b1 c0 c1 d0 d1).mono ?_; rintro e w3 ⟨rfl, rfl⟩
          have B3 := (B.trans (B1.mono B.size)).trans (B2.mono (by have := B.size; have := B1.size; omega))
          clear B B1 B2
          go_wp2
          go_roundw
          case rel => exact ⟨i + 1, by omega, by go_num, by rw [HN.out], B3⟩
          case measure => simp [intOf]; omega
        · have hik : i = k := by omega
          have E2 : Hid (updV n f t = updWs n f t i) := by have := HK.out; rw [E.out, hik]; show _ = _; congr 1; omega
          have e4 : decide (2 * (i : Int) < 2 * (k : Int)) = false := by simp; omega
          clear hik E
          go_wp2
          go_ret
          rw [E2.out]
          exact ⟨rfl, B⟩
  · have E : Hid (updV n f t = n) := by rw [HV.out, if_pos (.inl hz)]; show _ = _; rfl
    have e1 : (!decide ((f.size : Int) = (t.size : Int))) = true := by simp; omega
    have e1' : ((f.size : Int) != (t.size : Int)) = true := by simp; omega
    have e2 : ¬ (f.size : Int) = (t.size : Int) := by omega
    clear HV hz
    go_enter Tryz.func34, Tryz.ntmps34
    go_wp2
    go_ret
    rw [E.out]
    exact ⟨rfl, Below.refl _ _⟩
theorem radd_ (a b : Int) (w : World) (h0 : 0 ≤ a) (h1 : a ≤ 65535) (h2 : 0 ≤ b) (h3 : b ≤ 65535) :
    Calls Tryz.prog 90 #[.int .u16 a, .int .u16 b] w fun e w' => e = .returned (.int .u16 (addW a b)) ∧ w = w' := by
  have e : Hid (addW a b = if 65535 < a + b then a + b - 65535 else a + b) := rfl
  by_cases h : 65535 < a + b
  · have E : Hid (addW a b = a + b - 65535) := by rw [e.out, if_pos h]; show _ = _; rfl
    clear e
    go_enter Tryz.func90, Tryz.ntmps90
    go_wp2
    go_ret
    rw [E.out]
    exact ⟨rfl, rfl⟩
  · have E : Hid (addW a b = a + b) := by rw [e.out, if_neg h]; show _ = _; rfl
    clear e
    go_enter Tryz.func90, Tryz.ntmps90
    go_wp2
    go_ret
    rw [E.out]
    exact ⟨rfl, rfl⟩
theorem rupdate_ (n f t : Int) (w : World) (h0 : 0 ≤ n) (h1 : n ≤ 65535) (h2 : 0 ≤ f) (h3 : f ≤ 65535) (h4 : 0 ≤ t) (h5 : t ≤ 65535) :
    Calls Tryz.prog 87 #[.int .u16 n, .int .u16 f, .int .u16 t] w fun e w' => e = .returned (.int .u16 (updW n f t)) ∧ w = w' := by
  obtain ⟨a0, a1⟩ := addW_bd (a := 65535 - n) (b := 65535 - f) (by omega) (by omega) (by omega) (by omega)
  obtain ⟨b0, b1⟩ := addW_bd a0 a1 h4 h5
  go_enter Tryz.func87, Tryz.ntmps87
  go_wp2_with fail
  refine (radd_ _ _ _ (by omega) (by omega) (by omega) (by omega)).mono ?_; rintro e w' ⟨rfl, rfl⟩
  go_wp2_with fail
  refine (radd_ _ _ _ a0 a1 h4 h5).mono ?_; rintro e w' ⟨rfl, rfl⟩
  go_wp2
  go_ret
  exact ⟨rfl, rfl⟩
theorem rwordAt (s : ByteArray) (k : Nat) (w : World) (hs : s.size < maxLen) (hk : k < s.size) :
    Calls Tryz.prog 88 #[.string s, .int .i64 k] w fun e w' => e = .returned (.int .u16 (g16 s k)) ∧ w = w' := by
  have hs' := hs
  unfold maxLen at hs'
  have hsz : s.size + (⟨#[0]⟩ : ByteArray).size ≤ 9223372036854775807 := by show s.size + 1 ≤ _; omega
  have HY := Lib.hid (show (s ++ ⟨#[0]⟩).size = s.size + 1 by rw [ByteArray.size_append]; rfl)
  have G := Lib.hid (g16_zero_tail s k)
  go_enter Tryz.func88, Tryz.ntmps88
  go_wp2_with fail
  refine (rget16_yes _ k _ (by rw [HY.out]; unfold maxLen; omega) (by rw [HY.out]; omega)).mono ?_; rintro e w' ⟨rfl, rfl⟩
  rw [G.out]
  go_wp2
  go_ret
  exact ⟨rfl, rfl⟩
theorem rsum_ (a : Option Addr) (len cap : Nat) (ss : List ByteArray) (w : World) (h : RowS w a len ss) (hm : ∀ s ∈ ss, s.size < maxLen) :
    Calls Tryz.prog 42 #[.slice a len cap] w fun e w' => e = .returned (.int .u16 (sumV ss)) ∧ w = w' := by
  have ROW := Lib.hid h
  have hlen := h.2.2.1
  unfold maxLen at hlen
  have HV := Lib.hid (show sumV ss = 65535 - addTs 0 ss from rfl)
  have HL := Lib.hid h.1
  have HM := Lib.hid hm
  clear h hm
  go_enter Tryz.func42, Tryz.ntmps42
  go_wp2_with fail
  go_loop [3, 4] (fun v si => ∃ i : Nat, i ≤ len ∧ si = .int .i64 i ∧ v = .int .u16 (addTs 0 (ss.take i))) (fun _ si => len - (intOf si).toNat)
  case atStart => exact ⟨0, Nat.zero_le _, rfl, rfl⟩
  case round =>
    obtain ⟨i, hi, rfl, rfl⟩ := hrel
    obtain ⟨b0, b1⟩ := addTs_bd (ss.take i) (n := 0) (by omega) (by omega)
    by_cases hlt : i < len
    · obtain ⟨b, off, rfl, hb, hc⟩ : ∃ b off, a = some ⟨b, off, none⟩ ∧ b < w.heap.size ∧ ∀ t, t < len → w.cell? ⟨b, off + t, none⟩ = some (.string (ss.getD t ByteArray.empty)) := by
        rcases ROW.out.2.2.2 with h | h
        · omega
        · exact h
      have hcell := hc i hlt
      have hsz : (ss.getD i ByteArray.empty).size < maxLen := by
        have hl : i < ss.length := by rw [HL.out]; exact hlt
        rw [getD_lt _ _ _ hl]
        exact HM.out _ (List.getElem_mem hl)
      have HT := Lib.hid (take_snoc_getB ss i (by rw [HL.out]; exact hlt))
      obtain ⟨s, hs⟩ : ∃ s, s = ss.getD i ByteArray.empty := ⟨_, rfl⟩
      rw [← hs] at hcell hsz HT
      clear hc hs
      have hsz' := hsz
      unfold maxLen at hsz'
      obtain ⟨v0, hv0⟩ : ∃ v0, v0 = addTs 0 (ss.take i) := ⟨_, rfl⟩
      have HV0 := Lib.hid hv0
      rw [← hv0] at b0 b1
      rw [← hv0]
      clear hv0
      go_wp2_with fail
      go_loop [3, 5] (fun v si => ∃ j : Nat, j ≤ half s ∧ si = .int .i64 (2 * j) ∧ v = .int .u16 (addWs s v0 j)) (fun _ si => 2 * half s - (intOf si).toNat)
      case atStart => exact ⟨0, Nat.zero_le _, rfl, rfl⟩
      case round =>
        obtain ⟨j, hj, rfl, rfl⟩ := hrel
        obtain ⟨c0, c1⟩ := addWs_bd s b0 b1 j
        have HH := Lib.hid (show half s = (s.size + 1) / 2 from rfl)
        by_cases hjt : j < half s
        · have HN : Hid (addWs s v0 (j + 1) = addW (addWs s v0 j) (g16 s (2 * j))) := rfl
          have d0 := g16_nonneg s (2 * j)
          have d1 := g16_le s (2 * j)
          have e4 : decide (2 * (j : Int) < (s.size : Int)) = true := by have := HH.out; simp; omega
          have e5 : 2 * (j : Int) + 2 ≤ 9223372036854775807 := by have := HH.out; omega
          go_wp2_with fail
          refine (rwordAt s (2 * j) _ hsz (by have := HH.out; omega)).mono ?_; rintro e w' ⟨rfl, rfl⟩
          go_wp2_with fail
          refine (radd_ _ _ _ c0 c1 d0 d1).mono ?_; rintro e w' ⟨rfl, rfl⟩
          go_wp2
          go_round
          case rel => exact ⟨j + 1, by omega, by go_num, by rw [HN.out]⟩
          case measure => simp [intOf]; omega
        · have e4 : decide (2 * (j : Int) < (s.size : Int)) = false := by have := HH.out; simp; omega
          have HJ : Hid (addWs s v0 j = addTs 0 (ss.take (i + 1))) := by
            rw [HT.out, addTs_snoc, ← HV0.out]; show _ = _; unfold addT; congr 1; omega
          go_wp2
          go_round
          case rel => exact ⟨i + 1, by omega, by go_num, by rw [HJ.out]⟩
          case measure => simp [intOf]; omega
    · have HT : Hid (ss.take i = ss) := by have := HL.out; show _ = _; rw [List.take_of_length_le]; omega
      go_wp2
      go_ret
      rw [HV.out]
      exact ⟨by rw [HT.out]; rfl, rfl⟩
theorem rholds_ (a : Option Addr) (len cap : Nat) (ss : List ByteArray) (w : World) (h : RowS w a len ss) (hm : ∀ s ∈ ss, s.size < maxLen) :
    Calls Tryz.prog 121 #[.slice a len cap] w fun e w' => e = .returned (.bool (holdsV ss)) ∧ w = w' := by
  have hb := sumV_bd ss
  have HM := Lib.hid hm
  clear hm
  have H := Lib.hid (show holdsV ss = decide (sumV ss = 0) from rfl)
  go_enter Tryz.func121, Tryz.ntmps121
  go_wp2_with fail
  refine (rsum_ _ _ _ _ _ h HM.out).mono ?_; rintro e w1 ⟨rfl, rfl⟩
  by_cases h0 : sumV ss = 0
  · rw [h0]
    go_wp2
    go_ret
    rw [H.out, h0]
    exact ⟨rfl, rfl⟩
  · have e : (sumV ss == 0) = false := by simp [h0]
    go_wp2
    go_ret
    rw [H.out]
    rw [show decide (sumV ss = 0) = false by simp [h0]]
    exact ⟨rfl, rfl⟩
theorem rupdates_ (n : Int) (f t : ByteArray) (w : World) (h0 : 0 ≤ n) (h1 : n ≤ 65535) (hf : f.size < maxLen) (ht : t.size < maxLen) :
    Calls Tryz.prog 39 #[.int .u16 n, .string f, .string t] w fun e w' => e = .returned (.int .u16 (updV n f t)) ∧ w = w' := by
  have hf' := hf
  have ht' := ht
  unfold maxLen at hf' ht'
  have HV := Lib.hid (show updV n f t = if f.size ≠ t.size ∨ f.size % 2 = 1 then n else updWs n f t (f.size / 2) from rfl)
  by_cases hz : f.size = t.size
  · have e1 : (!decide ((f.size : Int) = (t.size : Int))) = false := by simp; omega
    have e1' : ((f.size : Int) != (t.size : Int)) = false := by simp; omega
    by_cases hodd : f.size % 2 = 1
    · have E : Hid (updV n f t = n) := by rw [HV.out, if_pos (.inr hodd)]; show _ = _; rfl
      have e2 : (f.size : Int) % 2 = 1 := by omega
      clear HV hodd hz
      go_enter Tryz.func39, Tryz.ntmps39
      go_wp2
      go_ret
      rw [E.out]
      exact ⟨rfl, rfl⟩
    · have E : Hid (updV n f t = updWs n f t (f.size / 2)) := by rw [HV.out, if_neg (by omega)]; show _ = _; rfl
      obtain ⟨k, hk⟩ : ∃ k, f.size = 2 * k := ⟨f.size / 2, by omega⟩
      have HK := Lib.hid hk
      have HZ := Lib.hid hz
      have e3 : (f.size : Int) = 2 * (k : Int) := by omega
      have e3' : (t.size : Int) = 2 * (k : Int) := by omega
      clear e1 e1'
      have e2 : (2 * (k : Int)) % 2 = 0 := by omega
      clear HV hodd hz hk
      go_enter Tryz.func39, Tryz.ntmps39
      go_wp2_with fail
      go_loop [0, 7] (fun v si => ∃ i : Nat, i ≤ k ∧ si = .int .i64 (2 * i) ∧ v = .int .u16 (updWs n f t i)) (fun _ si => 2 * k - (intOf si).toNat)
      case atStart => exact ⟨0, Nat.zero_le _, rfl, rfl⟩
      case round =>
        obtain ⟨i, hi, rfl, rfl⟩ := hrel
        obtain ⟨b0, b1⟩ := updWs_bd f t h0 h1 i
        by_cases hlt : i < k
        · have HN : Hid (updWs n f t (i + 1) = updW (updWs n f t i) (g16 f (2 * i)) (g16 t (2 * i))) := rfl
          have c0 := g16_nonneg f (2 * i)
          have c1 := g16_le f (2 * i)
          have d0 := g16_nonneg t (2 * i)
          have d1 := g16_le t (2 * i)
          have e4 : decide (2 * (i : Int) < 2 * (k : Int)) = true := by simp; omega
          have e5 : 2 * (i : Int) + 2 ≤ 9223372036854775807 := by omega
          go_wp2_with fail
          refine (rwordAt f (2 * i) _ hf (by have := HK.out; omega)).mono ?_; rintro e w' ⟨rfl, rfl⟩
          go_wp2_with fail
          refine (rwordAt t (2 * i) _ ht (by have := HK.out; have := HZ.out; omega)).mono ?_; rintro e w' ⟨rfl, rfl⟩
          go_wp2_with fail
          refine (rupdate_ _ _ _ _ b0 b1 c0 c1 d0 d1).mono ?_; rintro e w' ⟨rfl, rfl⟩
          go_wp2
          go_round
          case rel => exact ⟨i + 1, by omega, by go_num, by rw [HN.out]⟩
          case measure => simp [intOf]; omega
        · have hik : i = k := by omega
          have E2 : Hid (updV n f t = updWs n f t i) := by have := HK.out; rw [E.out, hik]; show _ = _; congr 1; omega
          have e4 : decide (2 * (i : Int) < 2 * (k : Int)) = false := by simp; omega
          clear hik E
          go_wp2
          go_ret
          rw [E2.out]
          exact ⟨rfl, rfl⟩
  · have E : Hid (updV n f t = n) := by rw [HV.out, if_pos (.inl hz)]; show _ = _; rfl
    have e1 : (!decide ((f.size : Int) = (t.size : Int))) = true := by simp; omega
    have e1' : ((f.size : Int) != (t.size : Int)) = true := by simp; omega
    have e2 : ¬ (f.size : Int) = (t.size : Int) := by omega
    clear HV hz
    go_enter Tryz.func39, Tryz.ntmps39
    go_wp2
    go_ret
    rw [E.out]
    exact ⟨rfl, rfl⟩
end Go.Proofs.YtbpicngbjggblaaGreatDoor
namespace Go.Proofs.YtbpicngbjggblaaGreatDoor
open Go.ChangeShapes Go.WideShapes Go.ChangeAt Go.RowKit
/-- A world that is as 'w' is below block 'B'. -/
structure Later (B : Nat) (w : World) where
  u : World
  h : Below B w u
instance laterAny {B : Nat} {w : World} : Nonempty (Later B w) := ⟨⟨w, Below.refl B w⟩⟩
theorem Later.block {B : Nat} {w : World} (x : Later B w) {a : Addr} {v : Value} (ha : a.block < B) (h : w.cell? a = some v) : x.u.cell? a = some v := (x.h.cell ha).trans h
theorem region_later {P : Program} {id B : Nat} {Q : Exit → Act → World → Prop} {a : Act} {w : World} {l : List Oper} (hm : P.follows .mixedOrders = true) (hB : Region.lexB .any l.toArray = true)
    (h : wpQuiet P l.toArray (fun w' => ∃ x : Later B w, w' = x.u) (fun a' => ∀ w', (∃ x : Later B w, w' = x.u) → Q .normal a' w') l a) : (Code.region id l.toArray true).wp P Q a w :=
  wp_region_quiet (C := fun w' => ∃ x : Later B w, w' = x.u) hm hB ⟨⟨w.drew, (Below.refl B w).drew⟩, rfl⟩ (by simpa using h)
theorem later_end {P : Program} {ops : Array Oper} {C : World → Prop} {B : Nat} {Q : Exit → Act → World → Prop} {a : Act} {w : World} (h : ∀ w', Below B w w' → Q .normal a w') :
    wpQuiet P ops C (fun a' => ∀ w', (∃ x : Later B w, w' = x.u) → Q .normal a' w') [] a := wpQuiet_nil fun w' ⟨x, e⟩ => by subst e; exact h _ x.h
theorem lat_ {B : Nat} {w : World} {a : Addr} {v : Value} (h : w.cell? a = some v) (ha : a.block < B) : ∀ x : Later B w, x.u.cell? a = some v := fun x => x.block ha h
/-- A callee's contract, met in such a world. -/
theorem later_of {P : Program} {f : FuncId} {args : Array Value} {B : Nat} {w : World} {v : Value} (x : Later B w) (hB : B ≤ w.heap.size)
    (h : Calls P f args x.u fun e w' => e = .returned v ∧ Below x.u.heap.size x.u w') : Calls P f args x.u fun e w'' => e = .returned v ∧ ∃ y : Later B w, w'' = y.u :=
  h.mono fun _ w' ⟨he, hb⟩ => ⟨he, ⟨w', x.h.trans (hb.mono (Nat.le_trans hB x.h.size))⟩, rfl⟩
theorem later_same {P : Program} {f : FuncId} {args : Array Value} {B : Nat} {w : World} {v : Value} (x : Later B w)
    (h : Calls P f args x.u fun e w' => e = .returned v ∧ x.u = w') : Calls P f args x.u fun e w'' => e = .returned v ∧ ∃ y : Later B w, w'' = y.u :=
  h.mono fun _ _ ⟨he, hb⟩ => ⟨he, x, hb.symm⟩
end Go.Proofs.YtbpicngbjggblaaGreatDoor
namespace Go.Proofs.YtbpicngbjggblaaGreatDoor
set_option maxHeartbeats 1000000
set_option maxRecDepth 100000
open Go.ChangeShapes Go.WideShapes Go.ChangeAt Go.RowKit Go.PlainAid
theorem rowS1 {w : World} {b : Nat} {s : ByteArray} (hb : b < w.heap.size) (h0 : w.cell? ⟨b, 0, none⟩ = some (.string s)) (hs : s.size ≤ maxLen) : RowS w (some ⟨b, 0, none⟩) 1 [s] :=
  ⟨rfl, by intro x hx; simp at hx; rw [hx]; exact hs, by unfold maxLen; omega, .inr ⟨b, 0, rfl, hb, by
    intro t ht
    match t, ht with
    | 0, _ => simpa using h0⟩⟩
theorem rowS2 {w : World} {b : Nat} {s t : ByteArray} (hb : b < w.heap.size) (h0 : w.cell? ⟨b, 0, none⟩ = some (.string s)) (h1 : w.cell? ⟨b, 1, none⟩ = some (.string t)) (hs : s.size ≤ maxLen) (ht : t.size ≤ maxLen) : RowS w (some ⟨b, 0, none⟩) 2 [s, t] :=
  ⟨rfl, by intro x hx; simp at hx; rcases hx with rfl | rfl <;> assumption, by unfold maxLen; omega, .inr ⟨b, 0, rfl, hb, by
    intro t ht
    match t, ht with
    | 0, _ => simpa using h0
    | 1, _ => simpa using h1⟩⟩
theorem rowS0 {w : World} : RowS w none 0 [] := ⟨rfl, by simp, Nat.zero_le _, .inl rfl⟩
namespace SumsLaid
theorem a1 (w : World) : Calls Tryz.prog 130 #[.int .u16 65535, .int .u16 1] w fun e w' => e = .returned (.int .u16 1) ∧ w = w' := add_ 65535 1 w (by omega) (by omega) (by omega) (by omega)
theorem a2 (w : World) : Calls Tryz.prog 130 #[.int .u16 65535, .int .u16 0] w fun e w' => e = .returned (.int .u16 65535) ∧ w = w' := add_ 65535 0 w (by omega) (by omega) (by omega) (by omega)
theorem s0 (w : World) : Calls Tryz.prog 53 #[.slice none 0 0] w fun e w' => e = .returned (.int .u16 65535) ∧ Below w.heap.size w w' := by
  have h := sum_ none 0 0 [] w rowS0
  rw [show sumV [] = 65535 from by decide +kernel] at h
  exact h
theorem s1 (b : Nat) (w : World) (hb : b < w.heap.size) (h0 : w.cell? ⟨b, 0, none⟩ = some (.string ⟨#[0, 1, 242, 3, 244, 245, 246, 247]⟩)) :
    Cw_ 53 #[.slice (some ⟨b, 0, none⟩) 1 1] (.int .u16 8717) w := by
  have h := sum_ _ 1 1 _ w (rowS1 hb h0 (by simp [ByteArray.size, maxLen]))
  rw [show sumV [⟨#[0, 1, 242, 3, 244, 245, 246, 247]⟩] = 8717 from by decide +kernel] at h
  exact h
theorem s2 (b : Nat) (w : World) (hb : b < w.heap.size) (h0 : w.cell? ⟨b, 0, none⟩ = some (.string ⟨#[1]⟩)) :
    Cw_ 53 #[.slice (some ⟨b, 0, none⟩) 1 1] (.int .u16 65279) w := by
  have h := sum_ _ 1 1 _ w (rowS1 hb h0 (by simp [ByteArray.size, maxLen]))
  rw [show sumV [⟨#[1]⟩] = 65279 from by decide +kernel] at h
  exact h
theorem s3 (b : Nat) (w : World) (hb : b < w.heap.size) (h0 : w.cell? ⟨b, 0, none⟩ = some (.string ⟨#[1]⟩)) (h1 : w.cell? ⟨b, 1, none⟩ = some (.string ⟨#[1]⟩)) :
    Cw_ 53 #[.slice (some ⟨b, 0, none⟩) 2 2] (.int .u16 65023) w := by
  have h := sum_ _ 2 2 _ w (rowS2 hb h0 h1 (by simp [ByteArray.size, maxLen]) (by simp [ByteArray.size, maxLen]))
  rw [show sumV [⟨#[1]⟩, ⟨#[1]⟩] = 65023 from by decide +kernel] at h
  exact h
theorem t0 (w : World) : Calls Tryz.prog 20 #[.slice none 0 0] w fun e w' => e = .returned (.bool false) ∧ Below w.heap.size w w' := by
  have h := holds_ none 0 0 [] w rowS0
  rw [show holdsV [] = false from by decide +kernel] at h
  exact h
theorem t1 (b : Nat) (w : World) (hb : b < w.heap.size) (h0 : w.cell? ⟨b, 0, none⟩ = some (.string ⟨#[255, 255]⟩)) :
    Cw_ 20 #[.slice (some ⟨b, 0, none⟩) 1 1] (.bool true) w := by
  have h := holds_ _ 1 1 _ w (rowS1 hb h0 (by simp [ByteArray.size, maxLen]))
  rw [show holdsV [⟨#[255, 255]⟩] = true from by decide +kernel] at h
  exact h
theorem u1 (w : World) : Calls Tryz.prog 80 #[.int .u16 8717, .int .u16 1, .int .u16 2] w fun e w' => e = .returned (.int .u16 8716) ∧ w = w' := update_ 8717 1 2 w (by omega) (by omega) (by omega) (by omega) (by omega) (by omega)
end SumsLaid
end Go.Proofs.YtbpicngbjggblaaGreatDoor
namespace Go.Proofs.YtbpicngbjggblaaGreatDoor
set_option linter.unusedVariables false
open Go.PlainAid
theorem addW_mod {a b : Int} : addW a b % 65535 = (a + b) % 65535 := by unfold addW; split <;> omega
theorem updW_mod {n f t : Int} : (65535 - updW n f t) % 65535 = (65535 - n - f + t) % 65535 := by
  have h1 := addW_mod (a := 65535 - n) (b := 65535 - f)
  have h2 := addW_mod (a := addW (65535 - n) (65535 - f)) (b := t)
  unfold updW
  omega
theorem totTs1 (s : ByteArray) : totTs [s] = totT s := by simp [totTs]
end Go.Proofs.YtbpicngbjggblaaGreatDoor
