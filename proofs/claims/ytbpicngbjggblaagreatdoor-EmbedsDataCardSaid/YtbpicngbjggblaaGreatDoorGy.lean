/- Texts of this proof, together: RewNA, RewNB, RewNS, RewNU, RewNM, RewNH, RewNP, RewN. -/
import Derived.Test.YtbpicngbjggblaaGreatDoorGs
import Derived.Test.YtbpicngbjggblaaGreatDoorGv
import Derived.Test.YtbpicngbjggblaaGreatDoorGf
import Derived.Test.YtbpicngbjggblaaGreatDoorGj
import Derived.Test.YtbpicngbjggblaaGreatDoorGi
import Derived.Test.YtbpicngbjggblaaGreatDoorGc
import Derived.Test.YtbpicngbjggblaaGreatDoorGb
import Derived.Test.YtbpicngbjggblaaGreatDoorGg
import Derived.Test.YtbpicngbjggblaaGreatDoorGl
import Derived.Test.YtbpicngbjggblaaGreatDoorTake
import Derived.Test.YtbpicngbjggblaaGreatDoorGa
import Derived.Test.YtbpicngbjggblaaGreatDoorGt
import Derived.Test.YtbpicngbjggblaaGreatDoorGr
import Derived.Test.YtbpicngbjggblaaGreatDoorGe
import Derived.Test.YtbpicngbjggblaaGreatDoorGu
import Derived.Deep.DeepCutAuto
import Derived.BigRegion
import Derived.Deep.RegionHeld3
import Derived.Deep.DrawnRows
namespace Go.Proofs.YtbpicngbjggblaaGreatDoor
set_option linter.unusedVariables false
set_option linter.unusedSimpArgs false
open Go.ChangeShapes Go.WideShapes Go.ChangeAt Go.RowKit Go.PlainAid
theorem g32_bd9 (s : ByteArray) (k : Nat) : 0 ≤ g32 s k ∧ g32 s k ≤ 4294967295 := by
  have := g16_nonneg s k; have := g16_le s k; have := g16_nonneg s (k + 2); have := g16_le s (k + 2)
  rw [g32_two]; omega
/-- A text by its first words, and the rest. -/
theorem g16_front (ws : List Int) (t : ByteArray) (hw : ∀ n ∈ ws, 0 ≤ n ∧ n ≤ 65535) (j : Nat) : g16 (strOfNums (wordL ws) ++ t) (2 * j) = if j < ws.length then ws.getD j 0 else g16 t (2 * (j - ws.length)) := by
  have z := size_W ws
  by_cases c : j < ws.length
  · rw [if_pos c, g16_app_l _ _ _ (by omega), g16_W ws hw]
  · rw [if_neg c]
    have e : 2 * j = (strOfNums (wordL ws)).size + 2 * (j - ws.length) := by omega
    rw [e, g16_app_r]
theorem front_rest (L : ByteArray) (k : Nat) (h : 2 * k ≤ L.size) : strOfNums (wordL (wsOf L 0 k)) ++ L.extract (2 * k) L.size = L := by
  have e : L.extract 0 (2 * k) = strOfNums (wordL (wsOf L 0 k)) := by have := ext_words L 0 k (by omega); simpa using this
  rw [← e, ext_join _ _ _ _ (Nat.zero_le _) h, ext_all]
/-- Two texts that differ in their first words alone. -/
theorem same_front {X : ByteArray} {ws vs : List Int} {t : ByteArray} (hX : strOfNums (wordL vs) ++ t = X) (hl : ws.length = vs.length) (hw : ∀ n ∈ ws, 0 ≤ n ∧ n ≤ 65535) (hv : ∀ n ∈ vs, 0 ≤ n ∧ n ≤ 65535) {Y : ByteArray} (hY : Y.size = X.size) (h : ∀ j, g16 Y (2 * j) = if j < ws.length then ws.getD j 0 else g16 X (2 * j)) : strOfNums (wordL ws) ++ t = Y := by
  refine ba_w ?_ fun j hj => ?_
  · rw [hY, ← hX, ByteArray.size_append, ByteArray.size_append, size_W, size_W, hl]
  · have k := g16_front vs t hv j
    rw [hX] at k
    rw [h j, g16_front ws t hw j]
    by_cases c : j < ws.length
    · rw [if_pos c, if_pos c]
    · rw [if_neg c, if_neg c, k, if_neg (by omega), hl]
theorem tcp_ptC {L : ByteArray} (h : tOk L = true) {m n v : Int} (m0 : 0 ≤ m) (m1 : m ≤ 65535) (n0 : 0 ≤ n) (n1 : n ≤ 65535) (v0 : 0 ≤ v) (v1 : v ≤ 65535) :
    tcpB m n (g32 L 4) (g32 L 8) (bt L 12 % 16) (bt L 13) (g16 L 14) v (g16 L 18) (tO L) (tP L) = ptC L 16 m n v := by
  obtain ⟨h1, h2, h3, _, y2, y3⟩ := tOk_yes h
  have b0 := bt_nonneg L 12; have b1 := bt_le L 12
  have hn : (tOwn L : Int) = bt L 12 / 16 * 4 := by unfold tOwn; omega
  have zo : (tO L).size = tOwn L - 20 := by rw [y2]; exact size_extract' L 20 (tOwn L) h2 h3
  have z40 : (tO L).size ≤ 40 := by omega
  have e := (put_parse6 L h).2
  unfold tcpB at e ⊢
  rw [ByteArray.append_assoc] at e ⊢
  have g0 := fun k => g16_nonneg L k
  have g1 := fun k => g16_le L k
  have q0 := fun k => (g32_bd9 L k).1
  have q1 := fun k => (g32_bd9 L k).2
  have bb0 := bt_nonneg L 13; have bb1 := bt_le L 13
  have hw : ∀ {a b c : Int}, 0 ≤ a → a ≤ 65535 → 0 ≤ b → b ≤ 65535 → 0 ≤ c → c ≤ 65535 → ∀ x ∈ tcpW a b (g32 L 4) (g32 L 8) (bt L 12 % 16) (bt L 13) (g16 L 14) c (g16 L 18) (tO L).size, 0 ≤ x ∧ x ≤ 65535 := by
    intro a b c a0 a1 b0 b1 c0 c1
    exact tcpW_wf a0 a1 b0 b1 (q0 _) (q1 _) (q0 _) (q1 _) (by omega) (by omega) bb0 bb1 (g0 _) (g1 _) c0 c1 (g0 _) (g1 _) z40
  refine same_front e (by rfl) (hw m0 m1 n0 n1 v0 v1) (hw (g0 _) (g1 _) (g0 _) (g1 _) (g0 _) (g1 _)) (ptC_size (q := 8) (by omega) (by omega)) fun j => ?_
  have k := ptC_word (L := L) (q := 8) (v := v) (by omega) (by omega) m0 m1 n0 n1 v0 v1 j
  refine k.trans ?_
  have f := g16_front (tcpW (g16 L 0) (g16 L 2) (g32 L 4) (g32 L 8) (bt L 12 % 16) (bt L 13) (g16 L 14) (g16 L 16) (g16 L 18) (tO L).size) (tO L ++ tP L) (hw (g0 _) (g1 _) (g0 _) (g1 _) (g0 _) (g1 _)) j
  rw [e] at f
  have l : ∀ {a b c : Int}, (tcpW a b (g32 L 4) (g32 L 8) (bt L 12 % 16) (bt L 13) (g16 L 14) c (g16 L 18) (tO L).size).length = 10 := rfl
  rw [l] at f ⊢
  by_cases c : j < 10
  · rw [if_pos c] at f ⊢
    rw [f]
    clear k f e
    have : j = 0 ∨ j = 1 ∨ j = 2 ∨ j = 3 ∨ j = 4 ∨ j = 5 ∨ j = 6 ∨ j = 7 ∨ j = 8 ∨ j = 9 := by omega
    rcases this with rfl | rfl | rfl | rfl | rfl | rfl | rfl | rfl | rfl | rfl <;> simp [tcpW]
  · rw [if_neg c, if_neg (by omega), if_neg (by omega), if_neg (by omega)]
theorem udp_ptC {L : ByteArray} (h : uOk L = true) {m n v : Int} (m0 : 0 ≤ m) (m1 : m ≤ 65535) (n0 : 0 ≤ n) (n1 : n ≤ 65535) (v0 : 0 ≤ v) (v1 : v ≤ 65535) :
    udpB m n v (uP L) = ptC L 6 m n v := by
  obtain ⟨h1, h2, _, y2⟩ := uOk_yes h
  have g0 := fun k => g16_nonneg L k
  have g1 := fun k => g16_le L k
  have zp : (uP L).size = L.size - 8 := by rw [y2]; exact size_extract' L 8 L.size h1 (Nat.le_refl _)
  have e := front_rest L 4 (by omega)
  have z : (8 + ((uP L).size : Int)) % 65536 = g16 L 4 := by have := g1 4; omega
  unfold udpB
  rw [z, y2]
  refine same_front e (by rfl) (fun x hx => ?_) (wsOf_wf L 4 0) (ptC_size (q := 3) (by omega) (by omega)) fun j => ?_
  · simp at hx
    rcases hx with rfl | rfl | rfl | rfl
    · exact ⟨m0, m1⟩
    · exact ⟨n0, n1⟩
    · exact ⟨g0 _, g1 _⟩
    · exact ⟨v0, v1⟩
  have k := ptC_word (L := L) (q := 3) (v := v) (by omega) (by omega) m0 m1 n0 n1 v0 v1 j
  refine k.trans ?_
  show _ = if j < 4 then _ else _
  by_cases c : j < 4
  · rw [if_pos c]
    have : j = 0 ∨ j = 1 ∨ j = 2 ∨ j = 3 := by omega
    rcases this with rfl | rfl | rfl | rfl <;> simp
  · rw [if_neg c, if_neg (by omega), if_neg (by omega), if_neg (by omega)]
theorem icmp_icC {L : ByteArray} (h : mOk L = true) {id : Int} (i0 : 0 ≤ id) (i1 : id ≤ 65535) :
    icB (bt L 0) (bt L 1) (updW (g16 L 2) (g16 L 4) id) (wiM (mR L) id) (mD L) = icC L id := by
  obtain ⟨h1, _, y2, y3⟩ := mOk_yes h
  have g0 := fun k => g16_nonneg L k
  have g1 := fun k => g16_le L k
  have bd := updW_bd (g0 2) (g1 2) (g0 4) (g1 4) i0 i1
  have zr : (L.extract 4 8).size = 4 := size_extract' L 4 8 (by omega) h1
  have e := front_rest L 4 (by omega)
  have e6 : (L.extract 4 8).extract 2 4 = strOfNums (wordL [g16 L 6]) := by
    have k : L.extract 6 8 = strOfNums (wordL [g16 L 6]) := ext_words L 3 1 (by omega)
    rw [← k]
    rw [ByteArray.extract_extract]
    simp
  unfold icB wiM
  rw [y2, y3, zr, if_pos (by omega), e6, show 256 * bt L 0 + bt L 1 = g16 L 0 by show _ = bt L 0 * 256 + bt L 1; omega, W_app, W_app]
  refine same_front e (by rfl) (fun x hx => ?_) (wsOf_wf L 4 0) (icC_size h1) fun j => ?_
  · simp at hx
    rcases hx with rfl | rfl | rfl | rfl
    · exact ⟨g0 _, g1 _⟩
    · exact bd
    · exact ⟨i0, i1⟩
    · exact ⟨g0 _, g1 _⟩
  refine (icC_word h1 i0 i1 j).trans ?_
  show _ = if j < 4 then _ else _
  by_cases c : j < 4
  · rw [if_pos c]
    have : j = 0 ∨ j = 1 ∨ j = 2 ∨ j = 3 := by omega
    rcases this with rfl | rfl | rfl | rfl <;> simp
  · rw [if_neg c, if_neg (by omega), if_neg (by omega)]
theorem head_headC {X : ByteArray} {a b : Int} (h : 20 ≤ X.size) (ht : 2 ≤ bt X 8) (hc : okC a 0 b 0) :
    X.extract 0 8 ++ strOfNums (wordL [g16 X 8 - 256, hSum X a b]) ++ strOfNums (wordL (adW a b)) ++ X.extract 20 X.size = headC X a b := by
  have g0 := fun k => g16_nonneg X k
  have g1 := fun k => g16_le X k
  have hi := g16_hi ht
  have bd := hSum_bd ht hc
  have e := front_rest X 10 (by omega)
  have e8 : X.extract 0 8 = strOfNums (wordL (wsOf X 0 4)) := ext_words X 0 4 (by omega)
  rw [e8, W_app, W_app]
  refine same_front e (by rfl) (fun x hx => ?_) (wsOf_wf X 10 0) (headC_size h) fun j => ?_
  · rcases List.mem_append.1 hx with hx | hx
    · rcases List.mem_append.1 hx with hx | hx
      · exact wsOf_wf X 4 0 x hx
      · exact two_wf (by omega) (by have := g1 8; omega) bd.1 bd.2 x hx
    · exact adW_wf hc x hx
  refine (headC_word h ht hc j).trans ?_
  show _ = if j < 10 then _ else _
  by_cases c : j < 10
  · rw [if_pos c]
    have : j = 0 ∨ j = 1 ∨ j = 2 ∨ j = 3 ∨ j = 4 ∨ j = 5 ∨ j = 6 ∨ j = 7 ∨ j = 8 ∨ j = 9 := by omega
    rcases this with rfl | rfl | rfl | rfl | rfl | rfl | rfl | rfl | rfl | rfl <;> simp [wsOf, adW]
  · rw [if_neg c, if_neg (by omega), if_neg (by omega), if_neg (by omega)]
/-- The sums, as the program reckons them. -/
theorem hSum_N {X : ByteArray} {oa ob a b : Int} (h : 20 ≤ X.size) (ht : 2 ≤ bt X 8) (hc : okC a 0 b 0) (e1 : oa = g32 X 12) (e2 : ob = g32 X 16) :
    updV (g16 X 10) (strOfNums (wordL [g16 X 8]) ++ strOfNums (wordL (adW oa ob))) (strOfNums (wordL [g16 X 8 - 256]) ++ strOfNums (wordL (adW a b))) = hSum X a b := by
  have hi := g16_hi ht
  have g1 := g16_le X 8
  have ho := okC_of X
  have l1 := g16_nonneg X 14; have l2 := g16_le X 14
  have m1 := g16_nonneg X 18; have m2 := g16_le X 18
  have t1 : g32 X 12 = g16 X 12 * 65536 + g16 X 14 := g32_two X 12
  have t2 : g32 X 16 = g16 X 16 * 65536 + g16 X 18 := g32_two X 16
  rw [← e1, ← e2] at ho
  rw [W_app, W_app, updV_L _ ([g16 X 8] ++ adW oa ob) ([g16 X 8 - 256] ++ adW a b) rfl (fun y hy => (List.mem_append.1 hy).elim (one_wf (by omega) (by omega) y) (adW_wf ho y)) (fun y hy => (List.mem_append.1 hy).elim (one_wf (by omega) (by omega) y) (adW_wf hc y))]
  have k1 : oa / 65536 = g16 X 12 := by rw [e1, t1]; omega
  have k2 : oa % 65536 = g16 X 14 := by rw [e1, t1]; omega
  have k3 : ob / 65536 = g16 X 16 := by rw [e2, t2]; omega
  have k4 : ob % 65536 = g16 X 18 := by rw [e2, t2]; omega
  unfold hSum hL adW
  rw [k1, k2, k3, k4]
  simp only [List.cons_append, List.nil_append, List.zip_cons_cons, List.zip_nil_right]
theorem pSum_N {L : ByteArray} {k : Nat} {oa ob a m b n : Int} (ho : okC oa 0 ob 0) (hc : okC a m b n) :
    updV (g16 L k) (strOfNums (wordL (adW oa ob ++ [g16 L 0, g16 L 2]))) (strOfNums (wordL (adW a b ++ [m, n]))) = pSum L k oa ob a m b n := by
  have hw := hc
  obtain ⟨h0, h1, h2, h3, h4, h5, h6, h7⟩ := hc
  rw [updV_L _ (adW oa ob ++ [g16 L 0, g16 L 2]) (adW a b ++ [m, n]) (by rfl) (fun y hy => (List.mem_append.1 hy).elim (adW_wf ho y) (two_wf (g16_nonneg _ _) (g16_le _ _) (g16_nonneg _ _) (g16_le _ _) y)) (fun y hy => (List.mem_append.1 hy).elim (adW_wf (okC_ad hw) y) (two_wf h2 h3 h6 h7 y))]
  rfl
end Go.Proofs.YtbpicngbjggblaaGreatDoor
namespace Go.Proofs.YtbpicngbjggblaaGreatDoor
set_option maxHeartbeats 4000000
set_option maxRecDepth 100000
set_option linter.unusedVariables false
set_option linter.unusedSimpArgs false
open Go.ChangeShapes Go.WideShapes Go.ChangeAt Go.RowKit Go.PlainAid
attribute [local go_sem ↓] Go.wp_at_zero Go.wp_at_succ
theorem rwLay_ (a : Option Addr) (len cap : Nat) (zs : List Int) (w : World) (h : Row .u32 w a len zs) (hl : len ≤ 1000) (hr : ∀ n ∈ zs, 0 ≤ n ∧ n ≤ 4294967295) :
    Cw_ 134 #[.slice a len cap] (.string (layB zs)) w := by
  have ROW := Lib.hid h
  have HL := Lib.hid h.1
  have HR := Lib.hid hr
  clear h hr
  go_enter Tryz.func134, Tryz.ntmps134
  go_wp2_with fail
  go_loopw [3, 8] (fun v si wr => ∃ i : Nat, i ≤ len ∧ si = .int .i64 i ∧ v = .string (layB (zs.take i)) ∧ Below w.heap.size w wr) (fun _ si _ => len - (intOf si).toNat)
  case atStart => exact ⟨0, Nat.zero_le _, rfl, rfl, Below.refl _ _⟩
  case round =>
    obtain ⟨i, hi, rfl, rfl, B⟩ := hrel
    by_cases hlt : i < len
    · obtain ⟨b, off, rfl, hb, hc⟩ : ∃ b off, a = some ⟨b, off, none⟩ ∧ b < w.heap.size ∧ ∀ t, t < len → w.cell? ⟨b, off + t, none⟩ = some (.int .u32 (zs.getD t 0)) := by
        rcases ROW.out.2 with h | h
        · omega
        · exact h
      have hcell := (B.cell (by exact hb)).trans (hc i hlt)
      have HT := Lib.hid (take_snoc_getD zs i (by rw [HL.out]; exact hlt))
      have hn0 : 0 ≤ zs.getD i 0 ∧ zs.getD i 0 ≤ 4294967295 := by
        have : zs.getD i 0 = zs[i]'(by rw [HL.out]; exact hlt) := by simp [List.getD, show i < zs.length by rw [HL.out]; exact hlt]
        rw [this]; exact HR.out _ (List.getElem_mem _)
      obtain ⟨n, hn⟩ : ∃ n, n = zs.getD i 0 := ⟨_, rfl⟩
      rw [← hn] at hcell HT hn0
      obtain ⟨n0, n1⟩ := hn0
      have zs1 := layB_size (zs.take i)
      have zt : (strOfNums (wordL [n / 65536, n % 65536])).size = 4 := by rw [size_W]; rfl
      have HS : Hid (layB (zs.take i) ++ strOfNums (wordL [n / 65536, n % 65536]) = layB (zs.take (i + 1))) := by show _ = _; rw [HT.out, layB_snoc]
      rw [List.length_take, HL.out] at zs1
      have c4 := fun u => put32 n u n0 n1
      generalize layB (zs.take i) = S at *
      generalize strOfNums (wordL [n / 65536, n % 65536]) = T at *
      have q : S.size + T.size ≤ 9223372036854775807 := by omega
      clear hc hn zs1 zt HT
      go_wp2_with fail
      refine (c4 _).mono ?_; rintro e w1 ⟨rfl, B1⟩
      have B2 := B.trans (B1.mono B.size)
      clear B B1 hcell c4
      go_wp2
      go_roundw
      case rel => exact ⟨i + 1, by omega, by go_num, by rw [HS.out], B2⟩
      case measure => simp [intOf]; omega
    · have HT : Hid (zs.take i = zs) := by have := HL.out; show _ = _; rw [List.take_of_length_le]; omega
      go_wp2
      go_ret
      exact ⟨by rw [HT.out]; rfl, B⟩
theorem row2n_ {k : IntKind} {w : World} {b : Nat} {x y : Int} (hb : b < w.heap.size) (h0 : w.cell? ⟨b, 0, none⟩ = some (.int k x)) (h1 : w.cell? ⟨b, 1, none⟩ = some (.int k y)) : Row k w (some ⟨b, 0, none⟩) 2 [x, y] :=
  ⟨rfl, .inr ⟨b, 0, rfl, hb, fun t ht => by
    match t, ht with
    | 0, _ => simpa using h0
    | 1, _ => simpa using h1⟩⟩
theorem rwAddr_ (a m b n : Int) (hc : okC a m b n) (w : World) :
    Cw_ 107 #[.agg #[.int .u32 a, .int .u16 m, .int .u32 b, .int .u16 n]] (.string (strOfNums (wordL (adW a b)))) w := by
  obtain ⟨h0, h1, h2, h3, h4, h5, h6, h7⟩ := hc
  have HV : Hid (layB [a, b] = strOfNums (wordL (adW a b))) := rfl
  have cl : ∀ (u : World) (k : Nat), k < u.heap.size → u.cell? ⟨k, 0, none⟩ = some (.int .u32 a) → u.cell? ⟨k, 1, none⟩ = some (.int .u32 b) → Calls Tryz.prog 134 #[.slice (some ⟨k, 0, none⟩) 2 2] u fun e w' => e = .returned (.string (layB [a, b])) ∧ Below u.heap.size u w' :=
    fun u k hk q0 q1 => rwLay_ _ 2 2 [a, b] u (row2n_ hk q0 q1) (by omega) (by intro x hx; simp at hx; omega)
  generalize layB [a, b] = P at *
  clear h0 h1 h2 h3 h4 h5 h6 h7
  go_enter Tryz.func107, Tryz.ntmps107
  have B1 := Below.refl w.heap.size w
  go_upto_region 1 with fail
  have C_2 := Box4.make w (.int .u32 a) (.int .u16 m) (.int .u32 b) (.int .u16 n) 28
  have B3 := B1.alloc B1.size (.cells #[.int .u32 a, .int .u16 m, .int .u32 b, .int .u16 n] 28)
  clear B1
  obtain ⟨u1, hu1⟩ : ∃ x, x = w.alloc (.cells #[.int .u32 a, .int .u16 m, .int .u32 b, .int .u16 n] 28) := ⟨_, rfl⟩
  rw [← hu1] at C_2 B3 ⊢
  clear hu1
  obtain ⟨_, c1_0, c1_1, c1_2, c1_3⟩ := id C_2
  go_wp2_with fail
  clear c1_0 c1_1 c1_2 c1_3
  have al := alO_ B3 (.cells #[.int .u32 a, .int .u32 b] 22)
  have C_4 := C_2.on al
  have B5 := B3.trans (al.mono B3.size)
  clear al
  clear C_2 B3
  refine (cl _ _ (by simp) (by simp [go_sem]) (by simp [go_sem])).mono ?_; rintro e w2 ⟨rfl, x2⟩
  have C_6 := C_4.on x2
  have B7 := B5.trans (x2.mono B5.size)
  clear C_4 B5 x2
  go_wp2
  go_ret
  rw [HV.out]
  exact ⟨rfl, B7⟩
theorem rwEnds_ (a m b n : Int) (hc : okC a m b n) (w : World) :
    Cw_ 103 #[.agg #[.int .u32 a, .int .u16 m, .int .u32 b, .int .u16 n]] (.string (strOfNums (wordL (adW a b ++ [m, n])))) w := by
  obtain ⟨h0, h1, h2, h3, h4, h5, h6, h7⟩ := hc
  have c1 : IntKind.u32.wrap m = m := IntWalk.u32_in _ (by omega)
  have c2 : IntKind.u32.wrap n = n := IntWalk.u32_in _ (by omega)
  have c3 : IntKind.u32.wrap (m * 65536) = m * 65536 := IntWalk.u32_in _ (by omega)
  have cx := u32_pair m n h2 h3 h6 h7
  obtain ⟨y, hy⟩ : ∃ y : Int, y = m * 65536 + n := ⟨_, rfl⟩
  rw [← hy] at cx
  have HV : Hid (layB [a, b, y] = strOfNums (wordL (adW a b ++ [m, n]))) := by
    show _ = _
    unfold layB
    simp only [pairsL, List.flatMap_cons, List.flatMap_nil, List.append_nil, List.cons_append, List.nil_append, adW]
    rw [show y / 65536 = m by omega, show y % 65536 = n by omega]
  have cl : ∀ (u : World) (k : Nat), k < u.heap.size → u.cell? ⟨k, 0, none⟩ = some (.int .u32 a) → u.cell? ⟨k, 1, none⟩ = some (.int .u32 b) → u.cell? ⟨k, 2, none⟩ = some (.int .u32 y) → Calls Tryz.prog 134 #[.slice (some ⟨k, 0, none⟩) 3 3] u fun e w' => e = .returned (.string (layB [a, b, y])) ∧ Below u.heap.size u w' :=
    fun u k hk q0 q1 q2 => rwLay_ _ 3 3 [a, b, y] u (row3_ hk q0 q1 q2) (by omega) (by intro x hx; simp at hx; omega)
  generalize layB [a, b, y] = P at *
  clear hy h0 h1 h2 h3 h4 h5 h6 h7
  go_enter Tryz.func103, Tryz.ntmps103
  have B1 := Below.refl w.heap.size w
  go_upto_region 1 with fail
  have C_2 := Box4.make w (.int .u32 a) (.int .u16 m) (.int .u32 b) (.int .u16 n) 28
  have B3 := B1.alloc B1.size (.cells #[.int .u32 a, .int .u16 m, .int .u32 b, .int .u16 n] 28)
  clear B1
  obtain ⟨u1, hu1⟩ : ∃ x, x = w.alloc (.cells #[.int .u32 a, .int .u16 m, .int .u32 b, .int .u16 n] 28) := ⟨_, rfl⟩
  rw [← hu1] at C_2 B3 ⊢
  clear hu1
  obtain ⟨_, c1_0, c1_1, c1_2, c1_3⟩ := id C_2
  go_wp2_with fail
  clear c1_0 c1_1 c1_2 c1_3
  have al := alO_ B3 (.cells #[.int .u32 a, .int .u32 b, .int .u32 y] 22)
  have C_4 := C_2.on al
  have B5 := B3.trans (al.mono B3.size)
  clear al
  clear C_2 B3
  refine (cl _ _ (by simp) (by simp [go_sem]) (by simp [go_sem]) (by simp [go_sem])).mono ?_; rintro e w2 ⟨rfl, x2⟩
  have C_6 := C_4.on x2
  have B7 := B5.trans (x2.mono B5.size)
  clear C_4 B5 x2
  go_wp2
  go_ret
  rw [HV.out]
  exact ⟨rfl, B7⟩
theorem rwSegment_v (L : ByteArray) (oa oc ob od a m b n : Int) (g0 g1 g2 g3 g4 g5 g6 g7 g8 : Int) (g9 Q E1 E2 R : ByteArray) (v r : Int) (cm : Cb_ 93 #[.string L] (.tuple #[.agg #[.int .u16 g0, .int .u16 g1, .int .u32 g2, .int .u32 g3, .int .u8 g4, .int .u8 g5, .int .u16 g6, .int .u16 g7, .int .u16 g8, .string g9], .string Q, .bool true])) (c1 : Cb_ 103 #[.agg #[.int .u32 oa, .int .u16 oc, .int .u32 ob, .int .u16 od]] (.string E1)) (c2 : Cb_ 103 #[.agg #[.int .u32 a, .int .u16 m, .int .u32 b, .int .u16 n]] (.string E2)) (cu : Cb_ 34 #[.int .u16 g7, .string E1, .string E2] (.int .u16 v)) (cp : Cb_ 104 #[.agg #[.int .u16 m, .int .u16 n, .int .u32 g2, .int .u32 g3, .int .u8 g4, .int .u8 g5, .int .u16 g6, .int .u16 v, .int .u16 g8, .string g9], .string Q] (.tuple #[.string R, .int .i64 r])) (w : World) :
    Cw_ 54 #[.string L, .agg #[.int .u32 oa, .int .u16 oc, .int .u32 ob, .int .u16 od], .agg #[.int .u32 a, .int .u16 m, .int .u32 b, .int .u16 n]] (.string R) w := by
  go_enter Tryz.func54, Tryz.ntmps54
  have B1 := Below.refl w.heap.size w
  go_wp2_with fail
  have A_2 := Box4.make w (.int .u32 oa) (.int .u16 oc) (.int .u32 ob) (.int .u16 od) 28
  have B3 := B1.alloc B1.size (.cells #[.int .u32 oa, .int .u16 oc, .int .u32 ob, .int .u16 od] 28)
  clear B1
  have al := alO_ B3 (.cells #[.int .u32 a, .int .u16 m, .int .u32 b, .int .u16 n] 28)
  have A_4 := A_2.on al
  have hs_ : (w.alloc (.cells #[.int .u32 oa, .int .u16 oc, .int .u32 ob, .int .u16 od] 28)).heap.size = w.heap.size + 1 := by simp
  have C_5 := Box4.make (w.alloc (.cells #[.int .u32 oa, .int .u16 oc, .int .u32 ob, .int .u16 od] 28)) (.int .u32 a) (.int .u16 m) (.int .u32 b) (.int .u16 n) 28
  rw [hs_] at C_5
  clear hs_
  have B6 := B3.trans (al.mono B3.size)
  clear al
  clear A_2 B3
  obtain ⟨u1, hu1⟩ : ∃ x, x = (w.alloc (.cells #[.int .u32 oa, .int .u16 oc, .int .u32 ob, .int .u16 od] 28)).alloc (.cells #[.int .u32 a, .int .u16 m, .int .u32 b, .int .u16 n] 28) := ⟨_, rfl⟩
  rw [← hu1] at A_4 C_5 B6 ⊢
  clear hu1
  refine (cm _).mono ?_; rintro e w1 ⟨rfl, x1⟩
  have A_7 := A_4.on x1
  have C_8 := C_5.on x1
  have B9 := B6.trans (x1.mono B6.size)
  clear A_4 C_5 B6 x1
  clear cm
  have Lt := Lib.hid (show w.heap.size + 1 < w1.heap.size from C_8.1)
  have al := alO_ B9 (.cells #[.int .u16 g0, .int .u16 g1, .int .u32 g2, .int .u32 g3, .int .u8 g4, .int .u8 g5, .int .u16 g6, .int .u16 g7, .int .u16 g8, .string g9] 149)
  have A_10 := A_7.on al
  have C_11 := C_8.on al
  have G_12 := Box10.make w1 (.int .u16 g0) (.int .u16 g1) (.int .u32 g2) (.int .u32 g3) (.int .u8 g4) (.int .u8 g5) (.int .u16 g6) (.int .u16 g7) (.int .u16 g8) (.string g9) 149
  have B13 := B9.trans (al.mono B9.size)
  clear al
  clear A_7 C_8 B9
  have fzG_14 : ∀ i, (w1.alloc (.cells #[.int .u16 g0, .int .u16 g1, .int .u32 g2, .int .u32 g3, .int .u8 g4, .int .u8 g5, .int .u16 g6, .int .u16 g7, .int .u16 g8, .string g9] 149)).frozen? ⟨w1.heap.size, i, none⟩ = false := by intro i; simp [go_sem]
  go_wp2_with fail
  obtain ⟨u2, hu2⟩ : ∃ x, x = w1.alloc (.cells #[.int .u16 g0, .int .u16 g1, .int .u32 g2, .int .u32 g3, .int .u8 g4, .int .u8 g5, .int .u16 g6, .int .u16 g7, .int .u16 g8, .string g9] 149) := ⟨_, rfl⟩
  rw [← hu2] at A_10 C_11 G_12 fzG_14 B13 ⊢
  clear hu2
  have ne1_ : ¬ w.heap.size + 1 = w1.heap.size := by have := Lt.out; omega
  have ne2_ : ¬ w1.heap.size = w.heap.size + 1 := by have := Lt.out; omega
  have ne3_ : ¬ w.heap.size = w1.heap.size := by have := Lt.out; omega
  have ne4_ : ¬ w1.heap.size = w.heap.size := by have := Lt.out; omega
  have LE : Hid (w.heap.size ≤ w1.heap.size) := by have := Lt.out; show _ ≤ _; omega
  obtain ⟨_, c1_0, c1_1, c1_2, c1_3⟩ := id C_11
  obtain ⟨_, g2_0, g2_1, g2_2, g2_3, g2_4, g2_5, g2_6, g2_7, g2_8, g2_9⟩ := id G_12
  go_region
  clear c1_0 c1_1 c1_2 c1_3 g2_0 g2_1 g2_2 g2_3 g2_4 g2_5 g2_6 g2_7 g2_8 g2_9
  obtain ⟨_, a3_0, a3_1, a3_2, a3_3⟩ := id A_10
  obtain ⟨_, c4_0, c4_1, c4_2, c4_3⟩ := id C_11
  obtain ⟨_, g5_0, g5_1, g5_2, g5_3, g5_4, g5_5, g5_6, g5_7, g5_8, g5_9⟩ := id G_12
  have B15 := ((B13.setCell (p := ⟨w1.heap.size, 0, none⟩) LE.out (.int .u16 m)).setCell (p := ⟨w1.heap.size, 1, none⟩) LE.out (.int .u16 n)).drew
  have A_16 : Box4 ((u2.setCell ⟨w1.heap.size, 0, none⟩ (.int .u16 m)).setCell ⟨w1.heap.size, 1, none⟩ (.int .u16 n)).drew w.heap.size (.int .u32 oa) (.int .u16 oc) (.int .u32 ob) (.int .u16 od) := ⟨by have := A_10.1; simpa using this, by simp [go_sem, a3_0, a3_1, a3_2, a3_3, c4_0, c4_1, c4_2, c4_3, g5_0, g5_1, g5_2, g5_3, g5_4, g5_5, g5_6, g5_7, g5_8, g5_9]⟩
  have C_17 : Box4 ((u2.setCell ⟨w1.heap.size, 0, none⟩ (.int .u16 m)).setCell ⟨w1.heap.size, 1, none⟩ (.int .u16 n)).drew (w.heap.size + 1) (.int .u32 a) (.int .u16 m) (.int .u32 b) (.int .u16 n) := ⟨by have := C_11.1; simpa using this, by simp [go_sem, a3_0, a3_1, a3_2, a3_3, c4_0, c4_1, c4_2, c4_3, g5_0, g5_1, g5_2, g5_3, g5_4, g5_5, g5_6, g5_7, g5_8, g5_9]⟩
  have G_18 : Box10 ((u2.setCell ⟨w1.heap.size, 0, none⟩ (.int .u16 m)).setCell ⟨w1.heap.size, 1, none⟩ (.int .u16 n)).drew w1.heap.size (.int .u16 m) (.int .u16 n) (.int .u32 g2) (.int .u32 g3) (.int .u8 g4) (.int .u8 g5) (.int .u16 g6) (.int .u16 g7) (.int .u16 g8) (.string g9) := ⟨by have := G_12.1; simpa using this, by simp [go_sem, a3_0, a3_1, a3_2, a3_3, c4_0, c4_1, c4_2, c4_3, g5_0, g5_1, g5_2, g5_3, g5_4, g5_5, g5_6, g5_7, g5_8, g5_9]⟩
  have fzG_19 : ∀ i, ((u2.setCell ⟨w1.heap.size, 0, none⟩ (.int .u16 m)).setCell ⟨w1.heap.size, 1, none⟩ (.int .u16 n)).drew.frozen? ⟨w1.heap.size, i, none⟩ = false := by intro i; simp [fzG_14]
  clear a3_0 a3_1 a3_2 a3_3 c4_0 c4_1 c4_2 c4_3 g5_0 g5_1 g5_2 g5_3 g5_4 g5_5 g5_6 g5_7 g5_8 g5_9 A_10 C_11 G_12 fzG_14 B13
  obtain ⟨u3, hu3⟩ : ∃ x, x = ((u2.setCell ⟨w1.heap.size, 0, none⟩ (.int .u16 m)).setCell ⟨w1.heap.size, 1, none⟩ (.int .u16 n)).drew := ⟨_, rfl⟩
  rw [← hu3] at A_16 C_17 G_18 fzG_19 B15 ⊢
  clear hu3
  go_wp2_with fail
  obtain ⟨za, ga0, ga1, ga2, ga3⟩ := id A_16
  have Fa0 := lat_ ga0 za
  have Fa1 := lat_ ga1 za
  have Fa2 := lat_ ga2 za
  have Fa3 := lat_ ga3 za
  clear ga0 ga1 ga2 ga3
  obtain ⟨zc, gc0, gc1, gc2, gc3⟩ := id C_17
  have Fc0 := lat_ gc0 zc
  have Fc1 := lat_ gc1 zc
  have Fc2 := lat_ gc2 zc
  have Fc3 := lat_ gc3 zc
  clear gc0 gc1 gc2 gc3
  obtain ⟨zg, gg0, gg1, gg2, gg3, gg4, gg5, gg6, gg7, gg8, gg9⟩ := id G_18
  have Fg7 := lat_ gg7 zg
  clear gg0 gg1 gg2 gg3 gg4 gg5 gg6 gg7 gg8 gg9
  refine region_lead (B := u3.heap.size) 8 1 (by kernel_rfl) (by kernel_rfl) (by kernel_rfl) (by kernel_rfl) ?_
  simp only [List.take_succ_cons, List.take_zero]
  repeat (go_big_quiet_step (first
    | (go_at_call_of 103 oa; exact later_of _ (Nat.le_refl _) (c1 _))
    | (go_at_call_of 103 a; exact later_of _ (Nat.le_refl _) (c2 _))
    | (go_at_call 34; exact later_of _ (Nat.le_refl _) (cu _))))
  refine lead_end (by kernel_rfl) (by kernel_rfl) rfl fun w4 x4 K hK => ?_
  have fzG_20 := fzB_ x4 G_18.1 fzG_19
  clear fzG_19
  have A_21 := A_16.on x4
  have C_22 := C_17.on x4
  have G_23 := G_18.on x4
  have B24 := B15.trans (x4.mono B15.size)
  clear Fa0 Fa1 Fa2 Fa3 za Fc0 Fc1 Fc2 Fc3 zc Fg7 zg A_16 C_17 G_18 B15 x4
  clear c1 c2 cu
  obtain ⟨_, g6_0, g6_1, g6_2, g6_3, g6_4, g6_5, g6_6, g6_7, g6_8, g6_9⟩ := id G_23
  go_simp
  refine hK.out _ _ ?_
  clear hK K
  clear g6_0 g6_1 g6_2 g6_3 g6_4 g6_5 g6_6 g6_7 g6_8 g6_9
  obtain ⟨_, a7_0, a7_1, a7_2, a7_3⟩ := id A_21
  obtain ⟨_, c8_0, c8_1, c8_2, c8_3⟩ := id C_22
  obtain ⟨_, g9_0, g9_1, g9_2, g9_3, g9_4, g9_5, g9_6, g9_7, g9_8, g9_9⟩ := id G_23
  have B25 := (B24.setCell (p := ⟨w1.heap.size, 7, none⟩) LE.out (.int .u16 v))
  have A_26 : Box4 (w4.setCell ⟨w1.heap.size, 7, none⟩ (.int .u16 v)) w.heap.size (.int .u32 oa) (.int .u16 oc) (.int .u32 ob) (.int .u16 od) := ⟨by have := A_21.1; simpa using this, by simp [go_sem, a7_0, a7_1, a7_2, a7_3, c8_0, c8_1, c8_2, c8_3, g9_0, g9_1, g9_2, g9_3, g9_4, g9_5, g9_6, g9_7, g9_8, g9_9]⟩
  have C_27 : Box4 (w4.setCell ⟨w1.heap.size, 7, none⟩ (.int .u16 v)) (w.heap.size + 1) (.int .u32 a) (.int .u16 m) (.int .u32 b) (.int .u16 n) := ⟨by have := C_22.1; simpa using this, by simp [go_sem, a7_0, a7_1, a7_2, a7_3, c8_0, c8_1, c8_2, c8_3, g9_0, g9_1, g9_2, g9_3, g9_4, g9_5, g9_6, g9_7, g9_8, g9_9]⟩
  have G_28 : Box10 (w4.setCell ⟨w1.heap.size, 7, none⟩ (.int .u16 v)) w1.heap.size (.int .u16 m) (.int .u16 n) (.int .u32 g2) (.int .u32 g3) (.int .u8 g4) (.int .u8 g5) (.int .u16 g6) (.int .u16 v) (.int .u16 g8) (.string g9) := ⟨by have := G_23.1; simpa using this, by simp [go_sem, a7_0, a7_1, a7_2, a7_3, c8_0, c8_1, c8_2, c8_3, g9_0, g9_1, g9_2, g9_3, g9_4, g9_5, g9_6, g9_7, g9_8, g9_9]⟩
  have fzG_29 : ∀ i, (w4.setCell ⟨w1.heap.size, 7, none⟩ (.int .u16 v)).frozen? ⟨w1.heap.size, i, none⟩ = false := by intro i; simp [fzG_20]
  clear a7_0 a7_1 a7_2 a7_3 c8_0 c8_1 c8_2 c8_3 g9_0 g9_1 g9_2 g9_3 g9_4 g9_5 g9_6 g9_7 g9_8 g9_9 A_21 C_22 G_23 fzG_20 B24
  obtain ⟨u5, hu5⟩ : ∃ x, x = (w4.setCell ⟨w1.heap.size, 7, none⟩ (.int .u16 v)) := ⟨_, rfl⟩
  rw [← hu5] at A_26 C_27 G_28 fzG_29 B25 ⊢
  clear hu5
  obtain ⟨_, g10_0, g10_1, g10_2, g10_3, g10_4, g10_5, g10_6, g10_7, g10_8, g10_9⟩ := id G_28
  go_wp2_with fail
  refine (cp _).mono ?_; rintro e w6 ⟨rfl, x6⟩
  have fzG_30 := fzB_ x6 G_28.1 fzG_29
  clear fzG_29
  have A_31 := A_26.on x6
  have C_32 := C_27.on x6
  have G_33 := G_28.on x6
  have B34 := B25.trans (x6.mono B25.size)
  clear g10_0 g10_1 g10_2 g10_3 g10_4 g10_5 g10_6 g10_7 g10_8 g10_9 A_26 C_27 G_28 B25 x6
  go_wp2
  go_ret
  exact ⟨rfl, B34⟩
theorem rwSegment_ (L : ByteArray) (oa ob a m b n : Int) (w : World) (h : tOk L = true) (hz : L.size ≤ 1000000) (ho : okC oa 0 ob 0) (hc : okC a m b n) :
    Cw_ 54 #[.string L, .agg #[.int .u32 oa, .int .u16 (g16 L 0), .int .u32 ob, .int .u16 (g16 L 2)], .agg #[.int .u32 a, .int .u16 m, .int .u32 b, .int .u16 n]] (.string (ptC L 16 m n (pSum L 16 oa ob a m b n))) w := by
  obtain ⟨h1, h2, h3, hI, y2, y3⟩ := tOk_yes h
  have g0 := fun k => g16_nonneg L k
  have g1 := fun k => g16_le L k
  have hw : okC oa (g16 L 0) ob (g16 L 2) := ⟨ho.1, ho.2.1, g0 _, g1 _, ho.2.2.2.2.1, ho.2.2.2.2.2.1, g0 _, g1 _⟩
  have bd := pSum_bd (L := L) (k := 16) ho hc
  obtain ⟨c0, c1, c2, c3, c4, c5, c6, c7⟩ := id hc
  have cm := fun u => tcpParse_ L u hz
  rw [hI, hI, hI, hI, hI, hI, hI, hI, hI, h] at cm
  have e0 := (put_parse6 L h).1
  have zo : (tO L).size ≤ 1000000 := by rw [y2, ByteArray.size_extract]; omega
  have zp : (tP L).size ≤ 1000000 := by rw [y3, ByteArray.size_extract]; omega
  have q := fun k => g32_bd9 L k
  have b0 := bt_nonneg L 12; have b1 := bt_le L 12
  have cp := fun u => tcpPut_ m n (g32 L 4) (g32 L 8) (bt L 12 % 16) (bt L 13) (g16 L 14) (pSum L 16 oa ob a m b n) (g16 L 18) (tO L) (tP L) u c2 c3 c6 c7 (q _).1 (q _).2 (q _).1 (q _).2 (by omega) (by omega) (bt_nonneg _ _) (bt_le _ _) (g0 _) (g1 _) bd.1 bd.2 (g0 _) (g1 _) zo zp
  rw [show tPutB m n (g32 L 4) (g32 L 8) (bt L 12 % 16) (bt L 13) (g16 L 14) (pSum L 16 oa ob a m b n) (g16 L 18) (tO L) (tP L) = ptC L 16 m n (pSum L 16 oa ob a m b n) by unfold tPutB; rw [if_pos e0]; exact tcp_ptC h c2 c3 c6 c7 bd.1 bd.2] at cp
  have cu := fun u => updates_ (g16 L 16) (strOfNums (wordL (adW oa ob ++ [g16 L 0, g16 L 2]))) (strOfNums (wordL (adW a b ++ [m, n]))) u (g0 _) (g1 _) (by rw [size_W]; show 2 * 6 ≤ maxLen; unfold maxLen; omega) (by rw [size_W]; show 2 * 6 ≤ maxLen; unfold maxLen; omega)
  rw [pSum_N ho hc] at cu
  exact rwSegment_v L oa (g16 L 0) ob (g16 L 2) a m b n _ _ _ _ _ _ _ _ _ _ _ _ _ _ _ _ cm (fun u => rwEnds_ _ _ _ _ hw u) (fun u => rwEnds_ _ _ _ _ hc u) cu cp w
theorem rwDatagram_none (L : ByteArray) (oa oc ob od a m b n : Int) (g0 g1 g2 g3 : Int) (Q R : ByteArray) (cm : Cb_ 95 #[.string L] (.tuple #[.agg #[.int .u16 g0, .int .u16 g1, .int .u16 g2, .int .u16 g3], .string Q, .bool true])) (cp : Cb_ 105 #[.agg #[.int .u16 m, .int .u16 n, .int .u16 g2, .int .u16 g3], .string Q] (.string R)) (e1 : (g3 != 0) = false) (w : World) :
    Cw_ 55 #[.string L, .agg #[.int .u32 oa, .int .u16 oc, .int .u32 ob, .int .u16 od], .agg #[.int .u32 a, .int .u16 m, .int .u32 b, .int .u16 n]] (.string R) w := by
  go_enter Tryz.func55, Tryz.ntmps55
  have B1 := Below.refl w.heap.size w
  go_wp2_with fail
  have A_2 := Box4.make w (.int .u32 oa) (.int .u16 oc) (.int .u32 ob) (.int .u16 od) 28
  have B3 := B1.alloc B1.size (.cells #[.int .u32 oa, .int .u16 oc, .int .u32 ob, .int .u16 od] 28)
  clear B1
  have al := alO_ B3 (.cells #[.int .u32 a, .int .u16 m, .int .u32 b, .int .u16 n] 28)
  have A_4 := A_2.on al
  have hs_ : (w.alloc (.cells #[.int .u32 oa, .int .u16 oc, .int .u32 ob, .int .u16 od] 28)).heap.size = w.heap.size + 1 := by simp
  have C_5 := Box4.make (w.alloc (.cells #[.int .u32 oa, .int .u16 oc, .int .u32 ob, .int .u16 od] 28)) (.int .u32 a) (.int .u16 m) (.int .u32 b) (.int .u16 n) 28
  rw [hs_] at C_5
  clear hs_
  have B6 := B3.trans (al.mono B3.size)
  clear al
  clear A_2 B3
  obtain ⟨u1, hu1⟩ : ∃ x, x = (w.alloc (.cells #[.int .u32 oa, .int .u16 oc, .int .u32 ob, .int .u16 od] 28)).alloc (.cells #[.int .u32 a, .int .u16 m, .int .u32 b, .int .u16 n] 28) := ⟨_, rfl⟩
  rw [← hu1] at A_4 C_5 B6 ⊢
  clear hu1
  refine (cm _).mono ?_; rintro e w1 ⟨rfl, x1⟩
  have A_7 := A_4.on x1
  have C_8 := C_5.on x1
  have B9 := B6.trans (x1.mono B6.size)
  clear A_4 C_5 B6 x1
  clear cm
  have Lt := Lib.hid (show w.heap.size + 1 < w1.heap.size from C_8.1)
  have al := alO_ B9 (.cells #[.int .u16 g0, .int .u16 g1, .int .u16 g2, .int .u16 g3] 154)
  have A_10 := A_7.on al
  have C_11 := C_8.on al
  have G_12 := Box4.make w1 (.int .u16 g0) (.int .u16 g1) (.int .u16 g2) (.int .u16 g3) 154
  have B13 := B9.trans (al.mono B9.size)
  clear al
  clear A_7 C_8 B9
  have fzG_14 : ∀ i, (w1.alloc (.cells #[.int .u16 g0, .int .u16 g1, .int .u16 g2, .int .u16 g3] 154)).frozen? ⟨w1.heap.size, i, none⟩ = false := by intro i; simp [go_sem]
  go_wp2_with fail
  obtain ⟨u2, hu2⟩ : ∃ x, x = w1.alloc (.cells #[.int .u16 g0, .int .u16 g1, .int .u16 g2, .int .u16 g3] 154) := ⟨_, rfl⟩
  rw [← hu2] at A_10 C_11 G_12 fzG_14 B13 ⊢
  clear hu2
  have ne1_ : ¬ w.heap.size + 1 = w1.heap.size := by have := Lt.out; omega
  have ne2_ : ¬ w1.heap.size = w.heap.size + 1 := by have := Lt.out; omega
  have ne3_ : ¬ w.heap.size = w1.heap.size := by have := Lt.out; omega
  have ne4_ : ¬ w1.heap.size = w.heap.size := by have := Lt.out; omega
  have LE : Hid (w.heap.size ≤ w1.heap.size) := by have := Lt.out; show _ ≤ _; omega
  obtain ⟨_, c1_0, c1_1, c1_2, c1_3⟩ := id C_11
  obtain ⟨_, g2_0, g2_1, g2_2, g2_3⟩ := id G_12
  go_region
  clear c1_0 c1_1 c1_2 c1_3 g2_0 g2_1 g2_2 g2_3
  obtain ⟨_, a3_0, a3_1, a3_2, a3_3⟩ := id A_10
  obtain ⟨_, c4_0, c4_1, c4_2, c4_3⟩ := id C_11
  obtain ⟨_, g5_0, g5_1, g5_2, g5_3⟩ := id G_12
  have B15 := ((B13.setCell (p := ⟨w1.heap.size, 0, none⟩) LE.out (.int .u16 m)).setCell (p := ⟨w1.heap.size, 1, none⟩) LE.out (.int .u16 n)).drew
  have A_16 : Box4 ((u2.setCell ⟨w1.heap.size, 0, none⟩ (.int .u16 m)).setCell ⟨w1.heap.size, 1, none⟩ (.int .u16 n)).drew w.heap.size (.int .u32 oa) (.int .u16 oc) (.int .u32 ob) (.int .u16 od) := ⟨by have := A_10.1; simpa using this, by simp [go_sem, a3_0, a3_1, a3_2, a3_3, c4_0, c4_1, c4_2, c4_3, g5_0, g5_1, g5_2, g5_3]⟩
  have C_17 : Box4 ((u2.setCell ⟨w1.heap.size, 0, none⟩ (.int .u16 m)).setCell ⟨w1.heap.size, 1, none⟩ (.int .u16 n)).drew (w.heap.size + 1) (.int .u32 a) (.int .u16 m) (.int .u32 b) (.int .u16 n) := ⟨by have := C_11.1; simpa using this, by simp [go_sem, a3_0, a3_1, a3_2, a3_3, c4_0, c4_1, c4_2, c4_3, g5_0, g5_1, g5_2, g5_3]⟩
  have G_18 : Box4 ((u2.setCell ⟨w1.heap.size, 0, none⟩ (.int .u16 m)).setCell ⟨w1.heap.size, 1, none⟩ (.int .u16 n)).drew w1.heap.size (.int .u16 m) (.int .u16 n) (.int .u16 g2) (.int .u16 g3) := ⟨by have := G_12.1; simpa using this, by simp [go_sem, a3_0, a3_1, a3_2, a3_3, c4_0, c4_1, c4_2, c4_3, g5_0, g5_1, g5_2, g5_3]⟩
  have fzG_19 : ∀ i, ((u2.setCell ⟨w1.heap.size, 0, none⟩ (.int .u16 m)).setCell ⟨w1.heap.size, 1, none⟩ (.int .u16 n)).drew.frozen? ⟨w1.heap.size, i, none⟩ = false := by intro i; simp [fzG_14]
  clear a3_0 a3_1 a3_2 a3_3 c4_0 c4_1 c4_2 c4_3 g5_0 g5_1 g5_2 g5_3 A_10 C_11 G_12 fzG_14 B13
  obtain ⟨u3, hu3⟩ : ∃ x, x = ((u2.setCell ⟨w1.heap.size, 0, none⟩ (.int .u16 m)).setCell ⟨w1.heap.size, 1, none⟩ (.int .u16 n)).drew := ⟨_, rfl⟩
  rw [← hu3] at A_16 C_17 G_18 fzG_19 B15 ⊢
  clear hu3
  obtain ⟨_, g6_0, g6_1, g6_2, g6_3⟩ := id G_18
  go_wp2_with fail
  refine (cp _).mono ?_; rintro e w4 ⟨rfl, x4⟩
  have fzG_20 := fzB_ x4 G_18.1 fzG_19
  clear fzG_19
  have A_21 := A_16.on x4
  have C_22 := C_17.on x4
  have G_23 := G_18.on x4
  have B24 := B15.trans (x4.mono B15.size)
  clear g6_0 g6_1 g6_2 g6_3 A_16 C_17 G_18 B15 x4
  go_wp2
  go_ret
  exact ⟨rfl, B24⟩
theorem rwDatagram_sum (L : ByteArray) (oa oc ob od a m b n : Int) (g0 g1 g2 g3 : Int) (Q R : ByteArray) (cm : Cb_ 95 #[.string L] (.tuple #[.agg #[.int .u16 g0, .int .u16 g1, .int .u16 g2, .int .u16 g3], .string Q, .bool true])) (E1 E2 : ByteArray) (v : Int) (c1 : Cb_ 103 #[.agg #[.int .u32 oa, .int .u16 oc, .int .u32 ob, .int .u16 od]] (.string E1)) (c2 : Cb_ 103 #[.agg #[.int .u32 a, .int .u16 m, .int .u32 b, .int .u16 n]] (.string E2)) (cu : Cb_ 34 #[.int .u16 g3, .string E1, .string E2] (.int .u16 v)) (e1 : (g3 != 0) = true) (cp : Cb_ 105 #[.agg #[.int .u16 m, .int .u16 n, .int .u16 g2, .int .u16 v], .string Q] (.string R)) (e2 : (v == 0) = false) (w : World) :
    Cw_ 55 #[.string L, .agg #[.int .u32 oa, .int .u16 oc, .int .u32 ob, .int .u16 od], .agg #[.int .u32 a, .int .u16 m, .int .u32 b, .int .u16 n]] (.string R) w := by
  go_enter Tryz.func55, Tryz.ntmps55
  have B1 := Below.refl w.heap.size w
  go_wp2_with fail
  have A_2 := Box4.make w (.int .u32 oa) (.int .u16 oc) (.int .u32 ob) (.int .u16 od) 28
  have B3 := B1.alloc B1.size (.cells #[.int .u32 oa, .int .u16 oc, .int .u32 ob, .int .u16 od] 28)
  clear B1
  have al := alO_ B3 (.cells #[.int .u32 a, .int .u16 m, .int .u32 b, .int .u16 n] 28)
  have A_4 := A_2.on al
  have hs_ : (w.alloc (.cells #[.int .u32 oa, .int .u16 oc, .int .u32 ob, .int .u16 od] 28)).heap.size = w.heap.size + 1 := by simp
  have C_5 := Box4.make (w.alloc (.cells #[.int .u32 oa, .int .u16 oc, .int .u32 ob, .int .u16 od] 28)) (.int .u32 a) (.int .u16 m) (.int .u32 b) (.int .u16 n) 28
  rw [hs_] at C_5
  clear hs_
  have B6 := B3.trans (al.mono B3.size)
  clear al
  clear A_2 B3
  obtain ⟨u1, hu1⟩ : ∃ x, x = (w.alloc (.cells #[.int .u32 oa, .int .u16 oc, .int .u32 ob, .int .u16 od] 28)).alloc (.cells #[.int .u32 a, .int .u16 m, .int .u32 b, .int .u16 n] 28) := ⟨_, rfl⟩
  rw [← hu1] at A_4 C_5 B6 ⊢
  clear hu1
  refine (cm _).mono ?_; rintro e w1 ⟨rfl, x1⟩
  have A_7 := A_4.on x1
  have C_8 := C_5.on x1
  have B9 := B6.trans (x1.mono B6.size)
  clear A_4 C_5 B6 x1
  clear cm
  have Lt := Lib.hid (show w.heap.size + 1 < w1.heap.size from C_8.1)
  have al := alO_ B9 (.cells #[.int .u16 g0, .int .u16 g1, .int .u16 g2, .int .u16 g3] 154)
  have A_10 := A_7.on al
  have C_11 := C_8.on al
  have G_12 := Box4.make w1 (.int .u16 g0) (.int .u16 g1) (.int .u16 g2) (.int .u16 g3) 154
  have B13 := B9.trans (al.mono B9.size)
  clear al
  clear A_7 C_8 B9
  have fzG_14 : ∀ i, (w1.alloc (.cells #[.int .u16 g0, .int .u16 g1, .int .u16 g2, .int .u16 g3] 154)).frozen? ⟨w1.heap.size, i, none⟩ = false := by intro i; simp [go_sem]
  go_wp2_with fail
  obtain ⟨u2, hu2⟩ : ∃ x, x = w1.alloc (.cells #[.int .u16 g0, .int .u16 g1, .int .u16 g2, .int .u16 g3] 154) := ⟨_, rfl⟩
  rw [← hu2] at A_10 C_11 G_12 fzG_14 B13 ⊢
  clear hu2
  have ne1_ : ¬ w.heap.size + 1 = w1.heap.size := by have := Lt.out; omega
  have ne2_ : ¬ w1.heap.size = w.heap.size + 1 := by have := Lt.out; omega
  have ne3_ : ¬ w.heap.size = w1.heap.size := by have := Lt.out; omega
  have ne4_ : ¬ w1.heap.size = w.heap.size := by have := Lt.out; omega
  have LE : Hid (w.heap.size ≤ w1.heap.size) := by have := Lt.out; show _ ≤ _; omega
  obtain ⟨_, c1_0, c1_1, c1_2, c1_3⟩ := id C_11
  obtain ⟨_, g2_0, g2_1, g2_2, g2_3⟩ := id G_12
  go_region
  clear c1_0 c1_1 c1_2 c1_3 g2_0 g2_1 g2_2 g2_3
  obtain ⟨_, a3_0, a3_1, a3_2, a3_3⟩ := id A_10
  obtain ⟨_, c4_0, c4_1, c4_2, c4_3⟩ := id C_11
  obtain ⟨_, g5_0, g5_1, g5_2, g5_3⟩ := id G_12
  have B15 := ((B13.setCell (p := ⟨w1.heap.size, 0, none⟩) LE.out (.int .u16 m)).setCell (p := ⟨w1.heap.size, 1, none⟩) LE.out (.int .u16 n)).drew
  have A_16 : Box4 ((u2.setCell ⟨w1.heap.size, 0, none⟩ (.int .u16 m)).setCell ⟨w1.heap.size, 1, none⟩ (.int .u16 n)).drew w.heap.size (.int .u32 oa) (.int .u16 oc) (.int .u32 ob) (.int .u16 od) := ⟨by have := A_10.1; simpa using this, by simp [go_sem, a3_0, a3_1, a3_2, a3_3, c4_0, c4_1, c4_2, c4_3, g5_0, g5_1, g5_2, g5_3]⟩
  have C_17 : Box4 ((u2.setCell ⟨w1.heap.size, 0, none⟩ (.int .u16 m)).setCell ⟨w1.heap.size, 1, none⟩ (.int .u16 n)).drew (w.heap.size + 1) (.int .u32 a) (.int .u16 m) (.int .u32 b) (.int .u16 n) := ⟨by have := C_11.1; simpa using this, by simp [go_sem, a3_0, a3_1, a3_2, a3_3, c4_0, c4_1, c4_2, c4_3, g5_0, g5_1, g5_2, g5_3]⟩
  have G_18 : Box4 ((u2.setCell ⟨w1.heap.size, 0, none⟩ (.int .u16 m)).setCell ⟨w1.heap.size, 1, none⟩ (.int .u16 n)).drew w1.heap.size (.int .u16 m) (.int .u16 n) (.int .u16 g2) (.int .u16 g3) := ⟨by have := G_12.1; simpa using this, by simp [go_sem, a3_0, a3_1, a3_2, a3_3, c4_0, c4_1, c4_2, c4_3, g5_0, g5_1, g5_2, g5_3]⟩
  have fzG_19 : ∀ i, ((u2.setCell ⟨w1.heap.size, 0, none⟩ (.int .u16 m)).setCell ⟨w1.heap.size, 1, none⟩ (.int .u16 n)).drew.frozen? ⟨w1.heap.size, i, none⟩ = false := by intro i; simp [fzG_14]
  clear a3_0 a3_1 a3_2 a3_3 c4_0 c4_1 c4_2 c4_3 g5_0 g5_1 g5_2 g5_3 A_10 C_11 G_12 fzG_14 B13
  obtain ⟨u3, hu3⟩ : ∃ x, x = ((u2.setCell ⟨w1.heap.size, 0, none⟩ (.int .u16 m)).setCell ⟨w1.heap.size, 1, none⟩ (.int .u16 n)).drew := ⟨_, rfl⟩
  rw [← hu3] at A_16 C_17 G_18 fzG_19 B15 ⊢
  clear hu3
  obtain ⟨_, g6_0, g6_1, g6_2, g6_3⟩ := id G_18
  go_wp2_with fail
  clear g6_0 g6_1 g6_2 g6_3
  obtain ⟨za, ga0, ga1, ga2, ga3⟩ := id A_16
  have Fa0 := lat_ ga0 za
  have Fa1 := lat_ ga1 za
  have Fa2 := lat_ ga2 za
  have Fa3 := lat_ ga3 za
  clear ga0 ga1 ga2 ga3
  obtain ⟨zc, gc0, gc1, gc2, gc3⟩ := id C_17
  have Fc0 := lat_ gc0 zc
  have Fc1 := lat_ gc1 zc
  have Fc2 := lat_ gc2 zc
  have Fc3 := lat_ gc3 zc
  clear gc0 gc1 gc2 gc3
  obtain ⟨zg, gg0, gg1, gg2, gg3⟩ := id G_18
  have Fg3 := lat_ gg3 zg
  clear gg0 gg1 gg2 gg3
  refine region_lead (B := u3.heap.size) 8 1 (by kernel_rfl) (by kernel_rfl) (by kernel_rfl) (by kernel_rfl) ?_
  simp only [List.take_succ_cons, List.take_zero]
  repeat (go_big_quiet_step (first
    | (go_at_call_of 103 oa; exact later_of _ (Nat.le_refl _) (c1 _))
    | (go_at_call_of 103 a; exact later_of _ (Nat.le_refl _) (c2 _))
    | (go_at_call 34; exact later_of _ (Nat.le_refl _) (cu _))))
  refine lead_end (by kernel_rfl) (by kernel_rfl) rfl fun w4 x4 K hK => ?_
  have fzG_20 := fzB_ x4 G_18.1 fzG_19
  clear fzG_19
  have A_21 := A_16.on x4
  have C_22 := C_17.on x4
  have G_23 := G_18.on x4
  have B24 := B15.trans (x4.mono B15.size)
  clear Fa0 Fa1 Fa2 Fa3 za Fc0 Fc1 Fc2 Fc3 zc Fg3 zg A_16 C_17 G_18 B15 x4
  clear c1 c2 cu
  obtain ⟨_, g7_0, g7_1, g7_2, g7_3⟩ := id G_23
  go_simp
  refine hK.out _ _ ?_
  clear hK K
  clear g7_0 g7_1 g7_2 g7_3
  obtain ⟨_, a8_0, a8_1, a8_2, a8_3⟩ := id A_21
  obtain ⟨_, c9_0, c9_1, c9_2, c9_3⟩ := id C_22
  obtain ⟨_, g10_0, g10_1, g10_2, g10_3⟩ := id G_23
  have B25 := (B24.setCell (p := ⟨w1.heap.size, 3, none⟩) LE.out (.int .u16 v))
  have A_26 : Box4 (w4.setCell ⟨w1.heap.size, 3, none⟩ (.int .u16 v)) w.heap.size (.int .u32 oa) (.int .u16 oc) (.int .u32 ob) (.int .u16 od) := ⟨by have := A_21.1; simpa using this, by simp [go_sem, a8_0, a8_1, a8_2, a8_3, c9_0, c9_1, c9_2, c9_3, g10_0, g10_1, g10_2, g10_3]⟩
  have C_27 : Box4 (w4.setCell ⟨w1.heap.size, 3, none⟩ (.int .u16 v)) (w.heap.size + 1) (.int .u32 a) (.int .u16 m) (.int .u32 b) (.int .u16 n) := ⟨by have := C_22.1; simpa using this, by simp [go_sem, a8_0, a8_1, a8_2, a8_3, c9_0, c9_1, c9_2, c9_3, g10_0, g10_1, g10_2, g10_3]⟩
  have G_28 : Box4 (w4.setCell ⟨w1.heap.size, 3, none⟩ (.int .u16 v)) w1.heap.size (.int .u16 m) (.int .u16 n) (.int .u16 g2) (.int .u16 v) := ⟨by have := G_23.1; simpa using this, by simp [go_sem, a8_0, a8_1, a8_2, a8_3, c9_0, c9_1, c9_2, c9_3, g10_0, g10_1, g10_2, g10_3]⟩
  have fzG_29 : ∀ i, (w4.setCell ⟨w1.heap.size, 3, none⟩ (.int .u16 v)).frozen? ⟨w1.heap.size, i, none⟩ = false := by intro i; simp [fzG_20]
  clear a8_0 a8_1 a8_2 a8_3 c9_0 c9_1 c9_2 c9_3 g10_0 g10_1 g10_2 g10_3 A_21 C_22 G_23 fzG_20 B24
  obtain ⟨u5, hu5⟩ : ∃ x, x = (w4.setCell ⟨w1.heap.size, 3, none⟩ (.int .u16 v)) := ⟨_, rfl⟩
  rw [← hu5] at A_26 C_27 G_28 fzG_29 B25 ⊢
  clear hu5
  obtain ⟨_, g11_0, g11_1, g11_2, g11_3⟩ := id G_28
  go_wp2_with fail
  refine (cp _).mono ?_; rintro e w6 ⟨rfl, x6⟩
  have fzG_30 := fzB_ x6 G_28.1 fzG_29
  clear fzG_29
  have A_31 := A_26.on x6
  have C_32 := C_27.on x6
  have G_33 := G_28.on x6
  have B34 := B25.trans (x6.mono B25.size)
  clear g11_0 g11_1 g11_2 g11_3 A_26 C_27 G_28 B25 x6
  go_wp2
  go_ret
  exact ⟨rfl, B34⟩
theorem rwDatagram_full (L : ByteArray) (oa oc ob od a m b n : Int) (g0 g1 g2 g3 : Int) (Q R : ByteArray) (cm : Cb_ 95 #[.string L] (.tuple #[.agg #[.int .u16 g0, .int .u16 g1, .int .u16 g2, .int .u16 g3], .string Q, .bool true])) (E1 E2 : ByteArray) (v : Int) (c1 : Cb_ 103 #[.agg #[.int .u32 oa, .int .u16 oc, .int .u32 ob, .int .u16 od]] (.string E1)) (c2 : Cb_ 103 #[.agg #[.int .u32 a, .int .u16 m, .int .u32 b, .int .u16 n]] (.string E2)) (cu : Cb_ 34 #[.int .u16 g3, .string E1, .string E2] (.int .u16 v)) (e1 : (g3 != 0) = true) (cp : Cb_ 105 #[.agg #[.int .u16 m, .int .u16 n, .int .u16 g2, .int .u16 65535], .string Q] (.string R)) (e2 : (v == 0) = true) (w : World) :
    Cw_ 55 #[.string L, .agg #[.int .u32 oa, .int .u16 oc, .int .u32 ob, .int .u16 od], .agg #[.int .u32 a, .int .u16 m, .int .u32 b, .int .u16 n]] (.string R) w := by
  go_enter Tryz.func55, Tryz.ntmps55
  have B1 := Below.refl w.heap.size w
  go_wp2_with fail
  have A_2 := Box4.make w (.int .u32 oa) (.int .u16 oc) (.int .u32 ob) (.int .u16 od) 28
  have B3 := B1.alloc B1.size (.cells #[.int .u32 oa, .int .u16 oc, .int .u32 ob, .int .u16 od] 28)
  clear B1
  have al := alO_ B3 (.cells #[.int .u32 a, .int .u16 m, .int .u32 b, .int .u16 n] 28)
  have A_4 := A_2.on al
  have hs_ : (w.alloc (.cells #[.int .u32 oa, .int .u16 oc, .int .u32 ob, .int .u16 od] 28)).heap.size = w.heap.size + 1 := by simp
  have C_5 := Box4.make (w.alloc (.cells #[.int .u32 oa, .int .u16 oc, .int .u32 ob, .int .u16 od] 28)) (.int .u32 a) (.int .u16 m) (.int .u32 b) (.int .u16 n) 28
  rw [hs_] at C_5
  clear hs_
  have B6 := B3.trans (al.mono B3.size)
  clear al
  clear A_2 B3
  obtain ⟨u1, hu1⟩ : ∃ x, x = (w.alloc (.cells #[.int .u32 oa, .int .u16 oc, .int .u32 ob, .int .u16 od] 28)).alloc (.cells #[.int .u32 a, .int .u16 m, .int .u32 b, .int .u16 n] 28) := ⟨_, rfl⟩
  rw [← hu1] at A_4 C_5 B6 ⊢
  clear hu1
  refine (cm _).mono ?_; rintro e w1 ⟨rfl, x1⟩
  have A_7 := A_4.on x1
  have C_8 := C_5.on x1
  have B9 := B6.trans (x1.mono B6.size)
  clear A_4 C_5 B6 x1
  clear cm
  have Lt := Lib.hid (show w.heap.size + 1 < w1.heap.size from C_8.1)
  have al := alO_ B9 (.cells #[.int .u16 g0, .int .u16 g1, .int .u16 g2, .int .u16 g3] 154)
  have A_10 := A_7.on al
  have C_11 := C_8.on al
  have G_12 := Box4.make w1 (.int .u16 g0) (.int .u16 g1) (.int .u16 g2) (.int .u16 g3) 154
  have B13 := B9.trans (al.mono B9.size)
  clear al
  clear A_7 C_8 B9
  have fzG_14 : ∀ i, (w1.alloc (.cells #[.int .u16 g0, .int .u16 g1, .int .u16 g2, .int .u16 g3] 154)).frozen? ⟨w1.heap.size, i, none⟩ = false := by intro i; simp [go_sem]
  go_wp2_with fail
  obtain ⟨u2, hu2⟩ : ∃ x, x = w1.alloc (.cells #[.int .u16 g0, .int .u16 g1, .int .u16 g2, .int .u16 g3] 154) := ⟨_, rfl⟩
  rw [← hu2] at A_10 C_11 G_12 fzG_14 B13 ⊢
  clear hu2
  have ne1_ : ¬ w.heap.size + 1 = w1.heap.size := by have := Lt.out; omega
  have ne2_ : ¬ w1.heap.size = w.heap.size + 1 := by have := Lt.out; omega
  have ne3_ : ¬ w.heap.size = w1.heap.size := by have := Lt.out; omega
  have ne4_ : ¬ w1.heap.size = w.heap.size := by have := Lt.out; omega
  have LE : Hid (w.heap.size ≤ w1.heap.size) := by have := Lt.out; show _ ≤ _; omega
  obtain ⟨_, c1_0, c1_1, c1_2, c1_3⟩ := id C_11
  obtain ⟨_, g2_0, g2_1, g2_2, g2_3⟩ := id G_12
  go_region
  clear c1_0 c1_1 c1_2 c1_3 g2_0 g2_1 g2_2 g2_3
  obtain ⟨_, a3_0, a3_1, a3_2, a3_3⟩ := id A_10
  obtain ⟨_, c4_0, c4_1, c4_2, c4_3⟩ := id C_11
  obtain ⟨_, g5_0, g5_1, g5_2, g5_3⟩ := id G_12
  have B15 := ((B13.setCell (p := ⟨w1.heap.size, 0, none⟩) LE.out (.int .u16 m)).setCell (p := ⟨w1.heap.size, 1, none⟩) LE.out (.int .u16 n)).drew
  have A_16 : Box4 ((u2.setCell ⟨w1.heap.size, 0, none⟩ (.int .u16 m)).setCell ⟨w1.heap.size, 1, none⟩ (.int .u16 n)).drew w.heap.size (.int .u32 oa) (.int .u16 oc) (.int .u32 ob) (.int .u16 od) := ⟨by have := A_10.1; simpa using this, by simp [go_sem, a3_0, a3_1, a3_2, a3_3, c4_0, c4_1, c4_2, c4_3, g5_0, g5_1, g5_2, g5_3]⟩
  have C_17 : Box4 ((u2.setCell ⟨w1.heap.size, 0, none⟩ (.int .u16 m)).setCell ⟨w1.heap.size, 1, none⟩ (.int .u16 n)).drew (w.heap.size + 1) (.int .u32 a) (.int .u16 m) (.int .u32 b) (.int .u16 n) := ⟨by have := C_11.1; simpa using this, by simp [go_sem, a3_0, a3_1, a3_2, a3_3, c4_0, c4_1, c4_2, c4_3, g5_0, g5_1, g5_2, g5_3]⟩
  have G_18 : Box4 ((u2.setCell ⟨w1.heap.size, 0, none⟩ (.int .u16 m)).setCell ⟨w1.heap.size, 1, none⟩ (.int .u16 n)).drew w1.heap.size (.int .u16 m) (.int .u16 n) (.int .u16 g2) (.int .u16 g3) := ⟨by have := G_12.1; simpa using this, by simp [go_sem, a3_0, a3_1, a3_2, a3_3, c4_0, c4_1, c4_2, c4_3, g5_0, g5_1, g5_2, g5_3]⟩
  have fzG_19 : ∀ i, ((u2.setCell ⟨w1.heap.size, 0, none⟩ (.int .u16 m)).setCell ⟨w1.heap.size, 1, none⟩ (.int .u16 n)).drew.frozen? ⟨w1.heap.size, i, none⟩ = false := by intro i; simp [fzG_14]
  clear a3_0 a3_1 a3_2 a3_3 c4_0 c4_1 c4_2 c4_3 g5_0 g5_1 g5_2 g5_3 A_10 C_11 G_12 fzG_14 B13
  obtain ⟨u3, hu3⟩ : ∃ x, x = ((u2.setCell ⟨w1.heap.size, 0, none⟩ (.int .u16 m)).setCell ⟨w1.heap.size, 1, none⟩ (.int .u16 n)).drew := ⟨_, rfl⟩
  rw [← hu3] at A_16 C_17 G_18 fzG_19 B15 ⊢
  clear hu3
  obtain ⟨_, g6_0, g6_1, g6_2, g6_3⟩ := id G_18
  go_wp2_with fail
  clear g6_0 g6_1 g6_2 g6_3
  obtain ⟨za, ga0, ga1, ga2, ga3⟩ := id A_16
  have Fa0 := lat_ ga0 za
  have Fa1 := lat_ ga1 za
  have Fa2 := lat_ ga2 za
  have Fa3 := lat_ ga3 za
  clear ga0 ga1 ga2 ga3
  obtain ⟨zc, gc0, gc1, gc2, gc3⟩ := id C_17
  have Fc0 := lat_ gc0 zc
  have Fc1 := lat_ gc1 zc
  have Fc2 := lat_ gc2 zc
  have Fc3 := lat_ gc3 zc
  clear gc0 gc1 gc2 gc3
  obtain ⟨zg, gg0, gg1, gg2, gg3⟩ := id G_18
  have Fg3 := lat_ gg3 zg
  clear gg0 gg1 gg2 gg3
  refine region_lead (B := u3.heap.size) 8 1 (by kernel_rfl) (by kernel_rfl) (by kernel_rfl) (by kernel_rfl) ?_
  simp only [List.take_succ_cons, List.take_zero]
  repeat (go_big_quiet_step (first
    | (go_at_call_of 103 oa; exact later_of _ (Nat.le_refl _) (c1 _))
    | (go_at_call_of 103 a; exact later_of _ (Nat.le_refl _) (c2 _))
    | (go_at_call 34; exact later_of _ (Nat.le_refl _) (cu _))))
  refine lead_end (by kernel_rfl) (by kernel_rfl) rfl fun w4 x4 K hK => ?_
  have fzG_20 := fzB_ x4 G_18.1 fzG_19
  clear fzG_19
  have A_21 := A_16.on x4
  have C_22 := C_17.on x4
  have G_23 := G_18.on x4
  have B24 := B15.trans (x4.mono B15.size)
  clear Fa0 Fa1 Fa2 Fa3 za Fc0 Fc1 Fc2 Fc3 zc Fg3 zg A_16 C_17 G_18 B15 x4
  clear c1 c2 cu
  obtain ⟨_, g7_0, g7_1, g7_2, g7_3⟩ := id G_23
  go_simp
  refine hK.out _ _ ?_
  clear hK K
  clear g7_0 g7_1 g7_2 g7_3
  obtain ⟨_, a8_0, a8_1, a8_2, a8_3⟩ := id A_21
  obtain ⟨_, c9_0, c9_1, c9_2, c9_3⟩ := id C_22
  obtain ⟨_, g10_0, g10_1, g10_2, g10_3⟩ := id G_23
  have B25 := (B24.setCell (p := ⟨w1.heap.size, 3, none⟩) LE.out (.int .u16 v))
  have A_26 : Box4 (w4.setCell ⟨w1.heap.size, 3, none⟩ (.int .u16 v)) w.heap.size (.int .u32 oa) (.int .u16 oc) (.int .u32 ob) (.int .u16 od) := ⟨by have := A_21.1; simpa using this, by simp [go_sem, a8_0, a8_1, a8_2, a8_3, c9_0, c9_1, c9_2, c9_3, g10_0, g10_1, g10_2, g10_3]⟩
  have C_27 : Box4 (w4.setCell ⟨w1.heap.size, 3, none⟩ (.int .u16 v)) (w.heap.size + 1) (.int .u32 a) (.int .u16 m) (.int .u32 b) (.int .u16 n) := ⟨by have := C_22.1; simpa using this, by simp [go_sem, a8_0, a8_1, a8_2, a8_3, c9_0, c9_1, c9_2, c9_3, g10_0, g10_1, g10_2, g10_3]⟩
  have G_28 : Box4 (w4.setCell ⟨w1.heap.size, 3, none⟩ (.int .u16 v)) w1.heap.size (.int .u16 m) (.int .u16 n) (.int .u16 g2) (.int .u16 v) := ⟨by have := G_23.1; simpa using this, by simp [go_sem, a8_0, a8_1, a8_2, a8_3, c9_0, c9_1, c9_2, c9_3, g10_0, g10_1, g10_2, g10_3]⟩
  have fzG_29 : ∀ i, (w4.setCell ⟨w1.heap.size, 3, none⟩ (.int .u16 v)).frozen? ⟨w1.heap.size, i, none⟩ = false := by intro i; simp [fzG_20]
  clear a8_0 a8_1 a8_2 a8_3 c9_0 c9_1 c9_2 c9_3 g10_0 g10_1 g10_2 g10_3 A_21 C_22 G_23 fzG_20 B24
  obtain ⟨u5, hu5⟩ : ∃ x, x = (w4.setCell ⟨w1.heap.size, 3, none⟩ (.int .u16 v)) := ⟨_, rfl⟩
  rw [← hu5] at A_26 C_27 G_28 fzG_29 B25 ⊢
  clear hu5
  obtain ⟨_, g11_0, g11_1, g11_2, g11_3⟩ := id G_28
  go_upto_region 7 with fail
  clear g11_0 g11_1 g11_2 g11_3
  obtain ⟨_, a12_0, a12_1, a12_2, a12_3⟩ := id A_26
  obtain ⟨_, c13_0, c13_1, c13_2, c13_3⟩ := id C_27
  obtain ⟨_, g14_0, g14_1, g14_2, g14_3⟩ := id G_28
  have B30 := (B25.setCell (p := ⟨w1.heap.size, 3, none⟩) LE.out (.int .u16 65535))
  have A_31 : Box4 (u5.setCell ⟨w1.heap.size, 3, none⟩ (.int .u16 65535)) w.heap.size (.int .u32 oa) (.int .u16 oc) (.int .u32 ob) (.int .u16 od) := ⟨by have := A_26.1; simpa using this, by simp [go_sem, a12_0, a12_1, a12_2, a12_3, c13_0, c13_1, c13_2, c13_3, g14_0, g14_1, g14_2, g14_3]⟩
  have C_32 : Box4 (u5.setCell ⟨w1.heap.size, 3, none⟩ (.int .u16 65535)) (w.heap.size + 1) (.int .u32 a) (.int .u16 m) (.int .u32 b) (.int .u16 n) := ⟨by have := C_27.1; simpa using this, by simp [go_sem, a12_0, a12_1, a12_2, a12_3, c13_0, c13_1, c13_2, c13_3, g14_0, g14_1, g14_2, g14_3]⟩
  have G_33 : Box4 (u5.setCell ⟨w1.heap.size, 3, none⟩ (.int .u16 65535)) w1.heap.size (.int .u16 m) (.int .u16 n) (.int .u16 g2) (.int .u16 65535) := ⟨by have := G_28.1; simpa using this, by simp [go_sem, a12_0, a12_1, a12_2, a12_3, c13_0, c13_1, c13_2, c13_3, g14_0, g14_1, g14_2, g14_3]⟩
  have fzG_34 : ∀ i, (u5.setCell ⟨w1.heap.size, 3, none⟩ (.int .u16 65535)).frozen? ⟨w1.heap.size, i, none⟩ = false := by intro i; simp [fzG_29]
  clear a12_0 a12_1 a12_2 a12_3 c13_0 c13_1 c13_2 c13_3 g14_0 g14_1 g14_2 g14_3 A_26 C_27 G_28 fzG_29 B25
  obtain ⟨u6, hu6⟩ : ∃ x, x = (u5.setCell ⟨w1.heap.size, 3, none⟩ (.int .u16 65535)) := ⟨_, rfl⟩
  rw [← hu6] at A_31 C_32 G_33 fzG_34 B30 ⊢
  clear hu6
  obtain ⟨_, g15_0, g15_1, g15_2, g15_3⟩ := id G_33
  go_wp2_with fail
  refine (cp _).mono ?_; rintro e w7 ⟨rfl, x7⟩
  have fzG_35 := fzB_ x7 G_33.1 fzG_34
  clear fzG_34
  have A_36 := A_31.on x7
  have C_37 := C_32.on x7
  have G_38 := G_33.on x7
  have B39 := B30.trans (x7.mono B30.size)
  clear g15_0 g15_1 g15_2 g15_3 A_31 C_32 G_33 B30 x7
  go_wp2
  go_ret
  exact ⟨rfl, B39⟩
theorem rwDatagram_ (L : ByteArray) (oa ob a m b n : Int) (w : World) (h : uOk L = true) (hz : L.size ≤ 1000000) (ho : okC oa 0 ob 0) (hc : okC a m b n) :
    Cw_ 55 #[.string L, .agg #[.int .u32 oa, .int .u16 (g16 L 0), .int .u32 ob, .int .u16 (g16 L 2)], .agg #[.int .u32 a, .int .u16 m, .int .u32 b, .int .u16 n]] (.string (ptC L 6 m n (uSum L oa ob a m b n))) w := by
  obtain ⟨h1, h2, hI, y2⟩ := uOk_yes h
  have g0 := fun k => g16_nonneg L k
  have g1 := fun k => g16_le L k
  have hw : okC oa (g16 L 0) ob (g16 L 2) := ⟨ho.1, ho.2.1, g0 _, g1 _, ho.2.2.2.2.1, ho.2.2.2.2.2.1, g0 _, g1 _⟩
  have bd := pSum_bd (L := L) (k := 6) ho hc
  have bu := uSum_bd (L := L) ho hc
  obtain ⟨c0, c1, c2, c3, c4, c5, c6, c7⟩ := id hc
  have cm := fun u => udpParse_ L u hz
  rw [hI, hI, hI, hI, h] at cm
  have zp : (uP L).size ≤ 1000000 := by rw [y2, ByteArray.size_extract]; omega
  have cp := fun u => udpPut_ m n (g16 L 4) (uSum L oa ob a m b n) (uP L) u c2 c3 c6 c7 bu.1 bu.2 zp
  rw [udp_ptC h c2 c3 c6 c7 bu.1 bu.2] at cp
  have cu := fun u => updates_ (g16 L 6) (strOfNums (wordL (adW oa ob ++ [g16 L 0, g16 L 2]))) (strOfNums (wordL (adW a b ++ [m, n]))) u (g0 _) (g1 _) (by rw [size_W]; show 2 * 6 ≤ maxLen; unfold maxLen; omega) (by rw [size_W]; show 2 * 6 ≤ maxLen; unfold maxLen; omega)
  rw [pSum_N ho hc] at cu
  by_cases e : g16 L 6 = 0
  · have k : uSum L oa ob a m b n = g16 L 6 := by unfold uSum; rw [if_pos e, e]
    generalize uSum L oa ob a m b n = z at *
    subst k
    exact rwDatagram_none L oa (g16 L 0) ob (g16 L 2) a m b n _ _ _ _ _ _ cm cp (by rw [e]; rfl) w
  · by_cases e2 : pSum L 6 oa ob a m b n = 0
    · have k : uSum L oa ob a m b n = 65535 := by unfold uSum; rw [if_neg e, if_pos e2]
      rw [k] at cp ⊢
      exact rwDatagram_full L oa (g16 L 0) ob (g16 L 2) a m b n _ _ _ _ _ _ cm _ _ _ (fun u => rwEnds_ _ _ _ _ hw u) (fun u => rwEnds_ _ _ _ _ hc u) cu (by simpa using e) cp (by rw [e2]; rfl) w
    · have k : uSum L oa ob a m b n = pSum L 6 oa ob a m b n := by unfold uSum; rw [if_neg e, if_neg e2]
      rw [k] at cp ⊢
      exact rwDatagram_sum L oa (g16 L 0) ob (g16 L 2) a m b n _ _ _ _ _ _ cm _ _ _ (fun u => rwEnds_ _ _ _ _ hw u) (fun u => rwEnds_ _ _ _ _ hc u) cu (by simpa using e) cp (by simpa using e2) w
theorem rwMessage_err (L : ByteArray) (a m b n : Int) (m0 m1 m2 : Int) (m3 m4 : ByteArray) (cm : Cb_ 47 #[.string L] (.tuple #[.agg #[.int .u8 m0, .int .u8 m1, .int .u16 m2, .string m3, .string m4], .bool true])) (qa : Bool) (cq : Cb_ 18 #[.agg #[.int .u8 m0, .int .u8 m1, .int .u16 m2, .string m3, .string m4]] (.tuple #[.bool qa, .bool false]))  (w : World) :
    Cw_ 56 #[.string L, .agg #[.int .u32 a, .int .u16 m, .int .u32 b, .int .u16 n]] (.string L) w := by
  go_enter Tryz.func56, Tryz.ntmps56
  have B1 := Below.refl w.heap.size w
  go_wp2_with fail
  have C_2 := Box4.make w (.int .u32 a) (.int .u16 m) (.int .u32 b) (.int .u16 n) 28
  have B3 := B1.alloc B1.size (.cells #[.int .u32 a, .int .u16 m, .int .u32 b, .int .u16 n] 28)
  clear B1
  refine (cm _).mono ?_; rintro e w1 ⟨rfl, x1⟩
  have C_4 := C_2.on x1
  have B5 := B3.trans (x1.mono B3.size)
  clear C_2 B3 x1
  clear cm
  have Lt := Lib.hid (show w.heap.size < w1.heap.size from C_4.1)
  have al := alO_ B5 (.cells #[.int .u8 m0, .int .u8 m1, .int .u16 m2, .string m3, .string m4] 63)
  have C_6 := C_4.on al
  have G_7 := Box5.make w1 (.int .u8 m0) (.int .u8 m1) (.int .u16 m2) (.string m3) (.string m4) 63
  have B8 := B5.trans (al.mono B5.size)
  clear al
  clear C_4 B5
  have fzG_9 : ∀ i, (w1.alloc (.cells #[.int .u8 m0, .int .u8 m1, .int .u16 m2, .string m3, .string m4] 63)).frozen? ⟨w1.heap.size, i, none⟩ = false := by intro i; simp [go_sem]
  obtain ⟨_, g1_0, g1_1, g1_2, g1_3, g1_4⟩ := id G_7
  go_wp2_with fail
  refine (cq _).mono ?_; rintro e w2 ⟨rfl, x2⟩
  have fzG_10 := fzB_ x2 G_7.1 fzG_9
  clear fzG_9
  have C_11 := C_6.on x2
  have G_12 := G_7.on x2
  have B13 := B8.trans (x2.mono B8.size)
  clear g1_0 g1_1 g1_2 g1_3 g1_4 C_6 G_7 B8 x2
  clear cq
  go_wp2
  go_ret
  exact ⟨rfl, B13⟩
theorem rwMessage_ask (L : ByteArray) (a m b n : Int) (m0 m1 m2 : Int) (m3 m4 : ByteArray) (cm : Cb_ 47 #[.string L] (.tuple #[.agg #[.int .u8 m0, .int .u8 m1, .int .u16 m2, .string m3, .string m4], .bool true])) (cq : Cb_ 18 #[.agg #[.int .u8 m0, .int .u8 m1, .int .u16 m2, .string m3, .string m4]] (.tuple #[.bool true, .bool true])) (j v r : Int) (mr R : ByteArray) (ci : Cb_ 96 #[.agg #[.int .u8 m0, .int .u8 m1, .int .u16 m2, .string m3, .string m4]] (.int .u16 j)) (cu : Cb_ 80 #[.int .u16 m2, .int .u16 j, .int .u16 m] (.int .u16 v)) (cw : Cb_ 106 #[.agg #[.int .u8 m0, .int .u8 m1, .int .u16 v, .string m3, .string m4], .int .u16 m] (.agg #[.int .u8 m0, .int .u8 m1, .int .u16 v, .string mr, .string m4])) (cp : Cb_ 36 #[.agg #[.int .u8 m0, .int .u8 m1, .int .u16 v, .string mr, .string m4]] (.tuple #[.string R, .int .i64 r])) (w : World) :
    Cw_ 56 #[.string L, .agg #[.int .u32 a, .int .u16 m, .int .u32 b, .int .u16 n]] (.string R) w := by
  go_enter Tryz.func56, Tryz.ntmps56
  have B1 := Below.refl w.heap.size w
  go_wp2_with fail
  have C_2 := Box4.make w (.int .u32 a) (.int .u16 m) (.int .u32 b) (.int .u16 n) 28
  have B3 := B1.alloc B1.size (.cells #[.int .u32 a, .int .u16 m, .int .u32 b, .int .u16 n] 28)
  clear B1
  refine (cm _).mono ?_; rintro e w1 ⟨rfl, x1⟩
  have C_4 := C_2.on x1
  have B5 := B3.trans (x1.mono B3.size)
  clear C_2 B3 x1
  clear cm
  have Lt := Lib.hid (show w.heap.size < w1.heap.size from C_4.1)
  have al := alO_ B5 (.cells #[.int .u8 m0, .int .u8 m1, .int .u16 m2, .string m3, .string m4] 63)
  have C_6 := C_4.on al
  have G_7 := Box5.make w1 (.int .u8 m0) (.int .u8 m1) (.int .u16 m2) (.string m3) (.string m4) 63
  have B8 := B5.trans (al.mono B5.size)
  clear al
  clear C_4 B5
  have fzG_9 : ∀ i, (w1.alloc (.cells #[.int .u8 m0, .int .u8 m1, .int .u16 m2, .string m3, .string m4] 63)).frozen? ⟨w1.heap.size, i, none⟩ = false := by intro i; simp [go_sem]
  obtain ⟨_, g1_0, g1_1, g1_2, g1_3, g1_4⟩ := id G_7
  go_wp2_with fail
  refine (cq _).mono ?_; rintro e w2 ⟨rfl, x2⟩
  have fzG_10 := fzB_ x2 G_7.1 fzG_9
  clear fzG_9
  have C_11 := C_6.on x2
  have G_12 := G_7.on x2
  have B13 := B8.trans (x2.mono B8.size)
  clear g1_0 g1_1 g1_2 g1_3 g1_4 C_6 G_7 B8 x2
  clear cq
  have ne1_ : ¬ w.heap.size = w1.heap.size := by have := Lt.out; omega
  have ne2_ : ¬ w1.heap.size = w.heap.size := by have := Lt.out; omega
  have LE : Hid (w.heap.size ≤ w1.heap.size) := Nat.le_of_lt Lt.out
  obtain ⟨_, c2_0, c2_1, c2_2, c2_3⟩ := id C_11
  go_upto_region 8 with fail
  clear c2_0 c2_1 c2_2 c2_3
  obtain ⟨zg, gg0, gg1, gg2, gg3, gg4⟩ := id G_12
  have Fg0 := lat_ gg0 zg
  have Fg1 := lat_ gg1 zg
  have Fg2 := lat_ gg2 zg
  have Fg3 := lat_ gg3 zg
  have Fg4 := lat_ gg4 zg
  clear gg0 gg1 gg2 gg3 gg4
  refine region_lead (B := w2.heap.size) 7 1 (by kernel_rfl) (by kernel_rfl) (by kernel_rfl) (by kernel_rfl) ?_
  simp only [List.take_succ_cons, List.take_zero]
  repeat (go_big_quiet_step (first
    | (go_at_call 96; exact later_of _ (Nat.le_refl _) (ci _))
    | (go_at_call 80; exact later_of _ (Nat.le_refl _) (cu _))))
  refine lead_end (by kernel_rfl) (by kernel_rfl) rfl fun w3 x3 K hK => ?_
  have fzG_14 := fzB_ x3 G_12.1 fzG_10
  clear fzG_10
  have C_15 := C_11.on x3
  have G_16 := G_12.on x3
  have B17 := B13.trans (x3.mono B13.size)
  clear Fg0 Fg1 Fg2 Fg3 Fg4 zg C_11 G_12 B13 x3
  clear ci cu
  obtain ⟨_, g3_0, g3_1, g3_2, g3_3, g3_4⟩ := id G_16
  go_simp
  refine hK.out _ _ ?_
  clear hK K
  clear g3_0 g3_1 g3_2 g3_3 g3_4
  obtain ⟨_, c4_0, c4_1, c4_2, c4_3⟩ := id C_15
  obtain ⟨_, g5_0, g5_1, g5_2, g5_3, g5_4⟩ := id G_16
  have B18 := (B17.setCell (p := ⟨w1.heap.size, 2, none⟩) LE.out (.int .u16 v))
  have C_19 : Box4 (w3.setCell ⟨w1.heap.size, 2, none⟩ (.int .u16 v)) w.heap.size (.int .u32 a) (.int .u16 m) (.int .u32 b) (.int .u16 n) := ⟨by have := C_15.1; simpa using this, by simp [go_sem, c4_0, c4_1, c4_2, c4_3, g5_0, g5_1, g5_2, g5_3, g5_4]⟩
  have G_20 : Box5 (w3.setCell ⟨w1.heap.size, 2, none⟩ (.int .u16 v)) w1.heap.size (.int .u8 m0) (.int .u8 m1) (.int .u16 v) (.string m3) (.string m4) := ⟨by have := G_16.1; simpa using this, by simp [go_sem, c4_0, c4_1, c4_2, c4_3, g5_0, g5_1, g5_2, g5_3, g5_4]⟩
  have fzG_21 : ∀ i, (w3.setCell ⟨w1.heap.size, 2, none⟩ (.int .u16 v)).frozen? ⟨w1.heap.size, i, none⟩ = false := by intro i; simp [fzG_14]
  clear c4_0 c4_1 c4_2 c4_3 g5_0 g5_1 g5_2 g5_3 g5_4 C_15 G_16 fzG_14 B17
  obtain ⟨u4, hu4⟩ : ∃ x, x = (w3.setCell ⟨w1.heap.size, 2, none⟩ (.int .u16 v)) := ⟨_, rfl⟩
  rw [← hu4] at C_19 G_20 fzG_21 B18 ⊢
  clear hu4
  obtain ⟨_, g6_0, g6_1, g6_2, g6_3, g6_4⟩ := id G_20
  go_wp2_with fail
  refine (cw _).mono ?_; rintro e w5 ⟨rfl, x5⟩
  have fzG_22 := fzB_ x5 G_20.1 fzG_21
  clear fzG_21
  have C_23 := C_19.on x5
  have G_24 := G_20.on x5
  have B25 := B18.trans (x5.mono B18.size)
  clear g6_0 g6_1 g6_2 g6_3 g6_4 C_19 G_20 B18 x5
  clear cw
  go_wp2_with fail
  refine (cp _).mono ?_; rintro e w6 ⟨rfl, x6⟩
  have fzG_26 := fzB_ x6 G_24.1 fzG_22
  clear fzG_22
  have C_27 := C_23.on x6
  have G_28 := G_24.on x6
  have B29 := B25.trans (x6.mono B25.size)
  clear C_23 G_24 B25 x6
  go_wp2
  go_ret
  exact ⟨rfl, B29⟩
theorem rwMessage_told (L : ByteArray) (a m b n : Int) (m0 m1 m2 : Int) (m3 m4 : ByteArray) (cm : Cb_ 47 #[.string L] (.tuple #[.agg #[.int .u8 m0, .int .u8 m1, .int .u16 m2, .string m3, .string m4], .bool true])) (cq : Cb_ 18 #[.agg #[.int .u8 m0, .int .u8 m1, .int .u16 m2, .string m3, .string m4]] (.tuple #[.bool false, .bool true])) (j v r : Int) (mr R : ByteArray) (ci : Cb_ 96 #[.agg #[.int .u8 m0, .int .u8 m1, .int .u16 m2, .string m3, .string m4]] (.int .u16 j)) (cu : Cb_ 80 #[.int .u16 m2, .int .u16 j, .int .u16 n] (.int .u16 v)) (cw : Cb_ 106 #[.agg #[.int .u8 m0, .int .u8 m1, .int .u16 v, .string m3, .string m4], .int .u16 n] (.agg #[.int .u8 m0, .int .u8 m1, .int .u16 v, .string mr, .string m4])) (cp : Cb_ 36 #[.agg #[.int .u8 m0, .int .u8 m1, .int .u16 v, .string mr, .string m4]] (.tuple #[.string R, .int .i64 r])) (w : World) :
    Cw_ 56 #[.string L, .agg #[.int .u32 a, .int .u16 m, .int .u32 b, .int .u16 n]] (.string R) w := by
  go_enter Tryz.func56, Tryz.ntmps56
  have B1 := Below.refl w.heap.size w
  go_wp2_with fail
  have C_2 := Box4.make w (.int .u32 a) (.int .u16 m) (.int .u32 b) (.int .u16 n) 28
  have B3 := B1.alloc B1.size (.cells #[.int .u32 a, .int .u16 m, .int .u32 b, .int .u16 n] 28)
  clear B1
  refine (cm _).mono ?_; rintro e w1 ⟨rfl, x1⟩
  have C_4 := C_2.on x1
  have B5 := B3.trans (x1.mono B3.size)
  clear C_2 B3 x1
  clear cm
  have Lt := Lib.hid (show w.heap.size < w1.heap.size from C_4.1)
  have al := alO_ B5 (.cells #[.int .u8 m0, .int .u8 m1, .int .u16 m2, .string m3, .string m4] 63)
  have C_6 := C_4.on al
  have G_7 := Box5.make w1 (.int .u8 m0) (.int .u8 m1) (.int .u16 m2) (.string m3) (.string m4) 63
  have B8 := B5.trans (al.mono B5.size)
  clear al
  clear C_4 B5
  have fzG_9 : ∀ i, (w1.alloc (.cells #[.int .u8 m0, .int .u8 m1, .int .u16 m2, .string m3, .string m4] 63)).frozen? ⟨w1.heap.size, i, none⟩ = false := by intro i; simp [go_sem]
  obtain ⟨_, g1_0, g1_1, g1_2, g1_3, g1_4⟩ := id G_7
  go_wp2_with fail
  refine (cq _).mono ?_; rintro e w2 ⟨rfl, x2⟩
  have fzG_10 := fzB_ x2 G_7.1 fzG_9
  clear fzG_9
  have C_11 := C_6.on x2
  have G_12 := G_7.on x2
  have B13 := B8.trans (x2.mono B8.size)
  clear g1_0 g1_1 g1_2 g1_3 g1_4 C_6 G_7 B8 x2
  clear cq
  have ne1_ : ¬ w.heap.size = w1.heap.size := by have := Lt.out; omega
  have ne2_ : ¬ w1.heap.size = w.heap.size := by have := Lt.out; omega
  have LE : Hid (w.heap.size ≤ w1.heap.size) := Nat.le_of_lt Lt.out
  obtain ⟨_, c2_0, c2_1, c2_2, c2_3⟩ := id C_11
  go_upto_region 8 with fail
  clear c2_0 c2_1 c2_2 c2_3
  obtain ⟨zg, gg0, gg1, gg2, gg3, gg4⟩ := id G_12
  have Fg0 := lat_ gg0 zg
  have Fg1 := lat_ gg1 zg
  have Fg2 := lat_ gg2 zg
  have Fg3 := lat_ gg3 zg
  have Fg4 := lat_ gg4 zg
  clear gg0 gg1 gg2 gg3 gg4
  refine region_lead (B := w2.heap.size) 7 1 (by kernel_rfl) (by kernel_rfl) (by kernel_rfl) (by kernel_rfl) ?_
  simp only [List.take_succ_cons, List.take_zero]
  repeat (go_big_quiet_step (first
    | (go_at_call 96; exact later_of _ (Nat.le_refl _) (ci _))
    | (go_at_call 80; exact later_of _ (Nat.le_refl _) (cu _))))
  refine lead_end (by kernel_rfl) (by kernel_rfl) rfl fun w3 x3 K hK => ?_
  have fzG_14 := fzB_ x3 G_12.1 fzG_10
  clear fzG_10
  have C_15 := C_11.on x3
  have G_16 := G_12.on x3
  have B17 := B13.trans (x3.mono B13.size)
  clear Fg0 Fg1 Fg2 Fg3 Fg4 zg C_11 G_12 B13 x3
  clear ci cu
  obtain ⟨_, g3_0, g3_1, g3_2, g3_3, g3_4⟩ := id G_16
  go_simp
  refine hK.out _ _ ?_
  clear hK K
  clear g3_0 g3_1 g3_2 g3_3 g3_4
  obtain ⟨_, c4_0, c4_1, c4_2, c4_3⟩ := id C_15
  obtain ⟨_, g5_0, g5_1, g5_2, g5_3, g5_4⟩ := id G_16
  have B18 := (B17.setCell (p := ⟨w1.heap.size, 2, none⟩) LE.out (.int .u16 v))
  have C_19 : Box4 (w3.setCell ⟨w1.heap.size, 2, none⟩ (.int .u16 v)) w.heap.size (.int .u32 a) (.int .u16 m) (.int .u32 b) (.int .u16 n) := ⟨by have := C_15.1; simpa using this, by simp [go_sem, c4_0, c4_1, c4_2, c4_3, g5_0, g5_1, g5_2, g5_3, g5_4]⟩
  have G_20 : Box5 (w3.setCell ⟨w1.heap.size, 2, none⟩ (.int .u16 v)) w1.heap.size (.int .u8 m0) (.int .u8 m1) (.int .u16 v) (.string m3) (.string m4) := ⟨by have := G_16.1; simpa using this, by simp [go_sem, c4_0, c4_1, c4_2, c4_3, g5_0, g5_1, g5_2, g5_3, g5_4]⟩
  have fzG_21 : ∀ i, (w3.setCell ⟨w1.heap.size, 2, none⟩ (.int .u16 v)).frozen? ⟨w1.heap.size, i, none⟩ = false := by intro i; simp [fzG_14]
  clear c4_0 c4_1 c4_2 c4_3 g5_0 g5_1 g5_2 g5_3 g5_4 C_15 G_16 fzG_14 B17
  obtain ⟨u4, hu4⟩ : ∃ x, x = (w3.setCell ⟨w1.heap.size, 2, none⟩ (.int .u16 v)) := ⟨_, rfl⟩
  rw [← hu4] at C_19 G_20 fzG_21 B18 ⊢
  clear hu4
  obtain ⟨_, g6_0, g6_1, g6_2, g6_3, g6_4⟩ := id G_20
  go_wp2_with fail
  refine (cw _).mono ?_; rintro e w5 ⟨rfl, x5⟩
  have fzG_22 := fzB_ x5 G_20.1 fzG_21
  clear fzG_21
  have C_23 := C_19.on x5
  have G_24 := G_20.on x5
  have B25 := B18.trans (x5.mono B18.size)
  clear g6_0 g6_1 g6_2 g6_3 g6_4 C_19 G_20 B18 x5
  clear cw
  go_wp2_with fail
  refine (cp _).mono ?_; rintro e w6 ⟨rfl, x6⟩
  have fzG_26 := fzB_ x6 G_24.1 fzG_22
  clear fzG_22
  have C_27 := C_23.on x6
  have G_28 := G_24.on x6
  have B29 := B25.trans (x6.mono B25.size)
  clear C_23 G_24 B25 x6
  go_wp2
  go_ret
  exact ⟨rfl, B29⟩
theorem rwMessage_ (L : ByteArray) (a m b n : Int) (w : World) (h : mOk L = true) (hz : L.size ≤ 1000000) (hc : okC a m b n) :
    Cw_ 56 #[.string L, .agg #[.int .u32 a, .int .u16 m, .int .u32 b, .int .u16 n]] (.string (if qIs (bt L 0) (bt L 1) = true then icC L (if qAsk (bt L 0) (bt L 1) = true then m else n) else L)) w := by
  obtain ⟨h1, hI, y2, y3⟩ := mOk_yes h
  have g0 := fun k => g16_nonneg L k
  have g1 := fun k => g16_le L k
  obtain ⟨c0, c1, c2, c3, c4, c5, c6, c7⟩ := hc
  have cm := fun u => icmpParse_ L u hz
  rw [hI, hI, hI, h] at cm
  have zr : (mR L).size = 4 := by rw [y2]; exact size_extract' L 4 8 (by omega) h1
  have zd : (mD L).size ≤ 1000000 := by rw [y3, ByteArray.size_extract]; omega
  have cq := fun u => icmpQuery_ (bt L 0) (bt L 1) (g16 L 2) (mR L) (mD L) u (bt_nonneg _ _) (bt_le _ _) (bt_nonneg _ _) (bt_le _ _)
  cases hq : qIs (bt L 0) (bt L 1) with
  | false =>
    rw [hq] at cq
    rw [if_neg (by decide)]
    exact rwMessage_err L a m b n _ _ _ _ _ cm _ cq w
  | true =>
    rw [hq] at cq
    rw [if_pos rfl]
    have ci := fun u => icmpID_ (bt L 0) (bt L 1) (g16 L 2) (mR L) (mD L) u (by omega)
    rw [mR_word h] at ci
    have key : ∀ id, 0 ≤ id → id ≤ 65535 → (Cb_ 80 #[.int .u16 (g16 L 2), .int .u16 (g16 L 4), .int .u16 id] (.int .u16 (updW (g16 L 2) (g16 L 4) id))) ∧ (∀ u, Calls Tryz.prog 106 #[.agg #[.int .u8 (bt L 0), .int .u8 (bt L 1), .int .u16 (updW (g16 L 2) (g16 L 4) id), .string (mR L), .string (mD L)], .int .u16 id] u fun e w' => e = .returned (.agg #[.int .u8 (bt L 0), .int .u8 (bt L 1), .int .u16 (updW (g16 L 2) (g16 L 4) id), .string (wiM (mR L) id), .string (mD L)]) ∧ Below u.heap.size u w') ∧ (∀ u, Calls Tryz.prog 36 #[.agg #[.int .u8 (bt L 0), .int .u8 (bt L 1), .int .u16 (updW (g16 L 2) (g16 L 4) id), .string (wiM (mR L) id), .string (mD L)]] u fun e w' => e = .returned (.tuple #[.string (icC L id), .int .i64 (icE (wiM (mR L) id).size)]) ∧ Below u.heap.size u w') := by
      intro id i0 i1
      have bd := updW_bd (g0 2) (g1 2) (g0 4) (g1 4) i0 i1
      have zw := wiM_size (mR L) id
      refine ⟨fun u => (update_ (g16 L 2) (g16 L 4) id u (g0 _) (g1 _) (g0 _) (g1 _) i0 i1).mono ?_, fun u => icmpWith_ _ _ _ _ _ _ u i0 i1 (by omega), fun u => ?_⟩
      · rintro e w' ⟨h, rfl⟩
        exact ⟨h, Below.refl _ _⟩
      · have cp := icmpPut_ (bt L 0) (bt L 1) (updW (g16 L 2) (g16 L 4) id) (wiM (mR L) id) (mD L) u (bt_nonneg _ _) (bt_le _ _) (bt_nonneg _ _) (bt_le _ _) bd.1 bd.2 (by omega) zd
        rw [icP_yes _ _ _ _ _ (by omega), icmp_icC h i0 i1] at cp
        exact cp
    cases ha : qAsk (bt L 0) (bt L 1) with
    | true =>
      rw [ha] at cq
      rw [if_pos rfl]
      obtain ⟨k1, k2, k3⟩ := key m c2 c3
      exact rwMessage_ask L a m b n _ _ _ _ _ cm cq _ _ _ _ _ ci k1 k2 k3 w
    | false =>
      rw [ha] at cq
      rw [if_neg (by decide)]
      obtain ⟨k1, k2, k3⟩ := key n c6 c7
      exact rwMessage_told L a m b n _ _ _ _ _ cm cq _ _ _ _ _ ci k1 k2 k3 w
theorem rwHeader_v (X : ByteArray) (oa oc ob od a m b n : Int) (g k h v : Int) (P1 P2 E1 E2 WD HB XL XR : ByteArray) (hL : X.extract 0 8 = XL) (hR : X.extract 20 X.size = XR) (hk : IntKind.u16.wrap (g - 256) = k) (q1 : P1.size + E1.size ≤ 9223372036854775807) (q2 : P2.size + E2.size ≤ 9223372036854775807) (i8 : (8 : Int) ≤ (X.size : Int)) (i20 : (20 : Int) ≤ (X.size : Int)) (q3 : XL.size + WD.size ≤ 9223372036854775807) (q4 : XL.size + WD.size + E2.size ≤ 9223372036854775807) (q5 : XL.size + WD.size + E2.size + XR.size ≤ 9223372036854775807) (HV : Hid (XL ++ WD ++ E2 ++ XR = HB)) (cg : Cb_ 79 #[.string X, .int .i64 8] (.tuple #[.int .u16 g, .bool true])) (ch : Cb_ 79 #[.string X, .int .i64 10] (.tuple #[.int .u16 h, .bool true])) (p1 : Cb_ 76 #[.int .u16 g] (.string P1)) (p2 : Cb_ 76 #[.int .u16 k] (.string P2)) (d1 : Cb_ 107 #[.agg #[.int .u32 oa, .int .u16 oc, .int .u32 ob, .int .u16 od]] (.string E1)) (d2 : Cb_ 107 #[.agg #[.int .u32 a, .int .u16 m, .int .u32 b, .int .u16 n]] (.string E2)) (cu : Cb_ 34 #[.int .u16 h, .string (P1 ++ E1), .string (P2 ++ E2)] (.int .u16 v)) (cw : ∀ (u : World) (j : Nat), j < u.heap.size → u.cell? ⟨j, 0, none⟩ = some (.int .u16 k) → u.cell? ⟨j, 1, none⟩ = some (.int .u16 v) → Calls Tryz.prog 81 #[.slice (some ⟨j, 0, none⟩) 2 2] u fun e w' => e = .returned (.string WD) ∧ Below u.heap.size u w') (w : World) :
    Cw_ 57 #[.string X, .agg #[.int .u32 oa, .int .u16 oc, .int .u32 ob, .int .u16 od], .agg #[.int .u32 a, .int .u16 m, .int .u32 b, .int .u16 n]] (.string HB) w := by
  go_enter Tryz.func57, Tryz.ntmps57
  have B1 := Below.refl w.heap.size w
  go_wp2_with fail
  have A_2 := Box4.make w (.int .u32 oa) (.int .u16 oc) (.int .u32 ob) (.int .u16 od) 28
  have B3 := B1.alloc B1.size (.cells #[.int .u32 oa, .int .u16 oc, .int .u32 ob, .int .u16 od] 28)
  clear B1
  have al := alO_ B3 (.cells #[.int .u32 a, .int .u16 m, .int .u32 b, .int .u16 n] 28)
  have A_4 := A_2.on al
  have hs_ : (w.alloc (.cells #[.int .u32 oa, .int .u16 oc, .int .u32 ob, .int .u16 od] 28)).heap.size = w.heap.size + 1 := by simp
  have C_5 := Box4.make (w.alloc (.cells #[.int .u32 oa, .int .u16 oc, .int .u32 ob, .int .u16 od] 28)) (.int .u32 a) (.int .u16 m) (.int .u32 b) (.int .u16 n) 28
  rw [hs_] at C_5
  clear hs_
  have B6 := B3.trans (al.mono B3.size)
  clear al
  clear A_2 B3
  obtain ⟨u1, hu1⟩ : ∃ x, x = (w.alloc (.cells #[.int .u32 oa, .int .u16 oc, .int .u32 ob, .int .u16 od] 28)).alloc (.cells #[.int .u32 a, .int .u16 m, .int .u32 b, .int .u16 n] 28) := ⟨_, rfl⟩
  rw [← hu1] at A_4 C_5 B6 ⊢
  clear hu1
  refine (cg _).mono ?_; rintro e w1 ⟨rfl, x1⟩
  have A_7 := A_4.on x1
  have C_8 := C_5.on x1
  have B9 := B6.trans (x1.mono B6.size)
  clear A_4 C_5 B6 x1
  clear cg
  go_wp2_with fail
  refine (ch _).mono ?_; rintro e w2 ⟨rfl, x2⟩
  have A_10 := A_7.on x2
  have C_11 := C_8.on x2
  have B12 := B9.trans (x2.mono B9.size)
  clear A_7 C_8 B9 x2
  clear ch
  go_wp2_with fail
  obtain ⟨za, ga0, ga1, ga2, ga3⟩ := id A_10
  have Fa0 := lat_ ga0 za
  have Fa1 := lat_ ga1 za
  have Fa2 := lat_ ga2 za
  have Fa3 := lat_ ga3 za
  clear ga0 ga1 ga2 ga3
  refine region_later (B := w2.heap.size) (by kernel_rfl) (by kernel_rfl) ?_
  repeat (go_big_quiet_step (first
    | (go_at_call 76; exact later_of _ (Nat.le_refl _) (p1 _))
    | (go_at_call 107; exact later_of _ (Nat.le_refl _) (d1 _))))
  refine later_end fun w3 x3 => ?_
  have A_13 := A_10.on x3
  have C_14 := C_11.on x3
  have B15 := B12.trans (x3.mono B12.size)
  clear Fa0 Fa1 Fa2 Fa3 za A_10 C_11 B12 x3
  clear p1 d1
  go_wp2_with fail
  obtain ⟨zc, gc0, gc1, gc2, gc3⟩ := id C_14
  have Fc0 := lat_ gc0 zc
  have Fc1 := lat_ gc1 zc
  have Fc2 := lat_ gc2 zc
  have Fc3 := lat_ gc3 zc
  clear gc0 gc1 gc2 gc3
  refine region_later (B := w3.heap.size) (by kernel_rfl) (by kernel_rfl) ?_
  repeat (go_big_quiet_step (first
    | (go_at_call 76; exact later_of _ (Nat.le_refl _) (p2 _))
    | (go_at_call 107; exact later_of _ (Nat.le_refl _) (d2 _))))
  refine later_end fun w4 x4 => ?_
  have A_16 := A_13.on x4
  have C_17 := C_14.on x4
  have B18 := B15.trans (x4.mono B15.size)
  clear Fc0 Fc1 Fc2 Fc3 zc A_13 C_14 B15 x4
  clear p2
  go_wp2_with fail
  refine (cu _).mono ?_; rintro e w5 ⟨rfl, x5⟩
  have A_19 := A_16.on x5
  have C_20 := C_17.on x5
  have B21 := B18.trans (x5.mono B18.size)
  clear A_16 C_17 B18 x5
  clear cu
  clear A_19
  go_upto_region 7 with fail
  obtain ⟨_, c1_0, c1_1, c1_2, c1_3⟩ := id C_20
  refine wp_region_noPanic ?_
  refine wp_region_held_drew (S := (fun w' => w'.cell? ⟨w.heap.size + 1, 0, none⟩ = some (.int .u32 a) ∧ w'.cell? ⟨w.heap.size + 1, 1, none⟩ = some (.int .u16 m) ∧ w'.cell? ⟨w.heap.size + 1, 2, none⟩ = some (.int .u32 b) ∧ w'.cell? ⟨w.heap.size + 1, 3, none⟩ = some (.int .u16 n))) (by kernel_rfl) ?_ (fun hHeld => ?_)
  · simp [c1_0, c1_1, c1_2, c1_3]
  clear c1_0 c1_1 c1_2 c1_3
  refine tk_ 0 (v := ?_) (by assumption) ?_ ?_
  rotate_left
  · intro w hSw
    (try dsimp only at hSw)
    go_simp
    with_reducible rfl
  try simp only [Act.put, puS_]
  refine tk_ 1 (v := ?_) (by assumption) ?_ ?_
  rotate_left
  · intro w hSw
    (try dsimp only at hSw)
    go_simp
    with_reducible rfl
  try simp only [Act.put, puS_]
  refine tk_ 2 (v := ?_) (by assumption) ?_ ?_
  rotate_left
  · intro w hSw
    (try dsimp only at hSw)
    go_simp
    with_reducible rfl
  try simp only [Act.put, puS_]
  refine tk_ 3 (v := ?_) (by assumption) ?_ ?_
  rotate_left
  · intro w hSw
    (try dsimp only at hSw)
    go_simp
    with_reducible rfl
  try simp only [Act.put, puS_]
  refine tk_ 7 (v := ?_) (by assumption) ?_ ?_
  rotate_left
  · intro w hSw
    (try dsimp only at hSw)
    obtain ⟨q0, q1, q2, q3⟩ := hSw
    go_simp
    with_reducible rfl
  try simp only [Act.put, puS_]
  refine tk_ 10 (v := ?_) (by assumption) ?_ ?_
  rotate_left
  · intro w hSw
    (try dsimp only at hSw)
    go_simp
    with_reducible rfl
  try simp only [Act.put, puS_]
  refine tk_ 11 (v := ?_) (by assumption) ?_ ?_
  rotate_left
  · intro w hSw
    (try dsimp only at hSw)
    go_simp
    with_reducible rfl
  try simp only [Act.put, puS_]
  refine rd_ 4 (fun K hK => ?_)
  go_simp
  clear hHeld
  have al := alO_ B21 (.cells #[.int .u16 k, .int .u16 v] 24)
  have C_22 := C_20.on al
  have Q_23 := Box2.make w5 (.int .u16 k) (.int .u16 v) 24
  have B24 := B21.trans (al.mono B21.size)
  clear al
  clear C_20 B21
  have C_25 := C_22.on ((Below.refl _ _).drew)
  have Q_26 := Q_23.on ((Below.refl _ _).drew)
  have B27 := B24.drew
  clear C_22 Q_23 B24
  obtain ⟨u6, hu6⟩ : ∃ x, x = (w5.alloc (.cells #[.int .u16 k, .int .u16 v] 24)).drew := ⟨_, rfl⟩
  rw [← hu6] at C_25 Q_26 B27 ⊢
  clear hu6
  refine hK.out _ _ (by obtain ⟨_, q0, q1, q2, q3⟩ := id C_25; exact ⟨q0, q1, q2, q3⟩) (fun _ => ?_)
  clear hK K
  try simp only [Act.put, puS_]
  refine rd_ 5 (fun K hK => ?_)
  go_simp
  refine (cw _ _ Q_26.1 Q_26.2.1 Q_26.2.2).mono ?_; rintro e w11 ⟨rfl, x11⟩
  have C_28 := C_25.on x11
  have Q_29 := Q_26.on x11
  have B30 := B27.trans (x11.mono B27.size)
  clear C_25 Q_26 B27 x11
  show K _ _
  clear Q_29
  clear cw
  refine hK.out _ _ (by obtain ⟨_, q0, q1, q2, q3⟩ := id C_28; exact ⟨q0, q1, q2, q3⟩) (fun _ => ?_)
  clear hK K
  try simp only [Act.put, puS_]
  refine tk_ 6 (v := ?_) (by assumption) ?_ ?_
  rotate_left
  · intro w hSw
    (try dsimp only at hSw)
    go_simp
    rw [if_neg (by omega)]
  try simp only [Act.put, puS_]
  refine rd_ 8 (fun K hK => ?_)
  go_simp
  refine (d2 _).mono ?_; rintro e w12 ⟨rfl, x12⟩
  have C_31 := C_28.on x12
  have B32 := B30.trans (x12.mono B30.size)
  clear C_28 B30 x12
  show K _ _
  clear d2
  refine hK.out _ _ (by obtain ⟨_, q0, q1, q2, q3⟩ := id C_31; exact ⟨q0, q1, q2, q3⟩) (fun _ => ?_)
  clear hK K
  try simp only [Act.put, puS_]
  refine tk_ 9 (v := ?_) (by assumption) ?_ ?_
  rotate_left
  · intro w hSw
    (try dsimp only at hSw)
    go_simp
    rw [if_neg (by omega)]
  try simp only [Act.put, puS_]
  refine tk_ 12 (v := ?_) (by assumption) ?_ ?_
  rotate_left
  · intro w hSw
    (try dsimp only at hSw)
    go_simp
    rw [if_neg (by omega)]
  try simp only [Act.put, puS_]
  refine rd_ 13 (fun K hK => ?_)
  go_simp
  refine hK.out _ _ (by obtain ⟨_, q0, q1, q2, q3⟩ := id C_31; exact ⟨q0, q1, q2, q3⟩) (fun _ => ?_)
  clear hK K
  try simp only [Act.put, puS_]
  refine wpAnyH_done (by kernel_rfl) (NoPanic.normal ?_) _
  go_wp2
  go_ret
  rw [HV.out]
  exact ⟨rfl, B32⟩
theorem rwApply_refused (s : ByteArray) (a m b n : Int) (y0 y1 y2 y3 y4 y5 y6 y8 q : Int) (y7 : Bool) (co : Cb_ 15 #[.string s] (.tuple #[.agg #[.int .u8 y0, .int .u32 y1, .int .u16 y2, .int .u32 y3, .int .u16 y4, .int .i64 y5, .int .u8 y6, .bool y7, .int .u8 y8], .int .i64 q])) (e1 : (q != 0) = true) (w : World) :
    Cw_ 22 #[.string s, .agg #[.int .u32 a, .int .u16 m, .int .u32 b, .int .u16 n]] (.tuple #[.string ⟨#[]⟩, .int .i64 q]) w := by
  go_enter Tryz.func22, Tryz.ntmps22
  have B1 := Below.refl w.heap.size w
  go_wp2_with fail
  have C_2 := Box4.make w (.int .u32 a) (.int .u16 m) (.int .u32 b) (.int .u16 n) 28
  have B3 := B1.alloc B1.size (.cells #[.int .u32 a, .int .u16 m, .int .u32 b, .int .u16 n] 28)
  clear B1
  refine (co _).mono ?_; rintro e w1 ⟨rfl, x1⟩
  have C_4 := C_2.on x1
  have B5 := B3.trans (x1.mono B3.size)
  clear C_2 B3 x1
  clear co
  have al := alO_ B5 (.cells #[.int .u8 y0, .int .u32 y1, .int .u16 y2, .int .u32 y3, .int .u16 y4, .int .i64 y5, .int .u8 y6, .bool y7, .int .u8 y8] 55)
  have C_6 := C_4.on al
  have X_7 := Box9.make w1 (.int .u8 y0) (.int .u32 y1) (.int .u16 y2) (.int .u32 y3) (.int .u16 y4) (.int .i64 y5) (.int .u8 y6) (.bool y7) (.int .u8 y8) 55
  have B8 := B5.trans (al.mono B5.size)
  clear al
  clear C_4 B5
  go_wp2
  go_ret2
  exact ⟨rfl, B8⟩
theorem rwApply_ttl (s : ByteArray) (a m b n : Int) (y0 y1 y2 y3 y4 y5 y6 y8 : Int) (y7 : Bool) (co : Cb_ 15 #[.string s] (.tuple #[.agg #[.int .u8 y0, .int .u32 y1, .int .u16 y2, .int .u32 y3, .int .u16 y4, .int .i64 y5, .int .u8 y6, .bool y7, .int .u8 y8], .int .i64 0])) (e2 : decide (y8 ≤ 1) = true) (w : World) :
    Cw_ 22 #[.string s, .agg #[.int .u32 a, .int .u16 m, .int .u32 b, .int .u16 n]] (.tuple #[.string ⟨#[]⟩, .int .i64 8]) w := by
  go_enter Tryz.func22, Tryz.ntmps22
  have B1 := Below.refl w.heap.size w
  go_wp2_with fail
  have C_2 := Box4.make w (.int .u32 a) (.int .u16 m) (.int .u32 b) (.int .u16 n) 28
  have B3 := B1.alloc B1.size (.cells #[.int .u32 a, .int .u16 m, .int .u32 b, .int .u16 n] 28)
  clear B1
  refine (co _).mono ?_; rintro e w1 ⟨rfl, x1⟩
  have C_4 := C_2.on x1
  have B5 := B3.trans (x1.mono B3.size)
  clear C_2 B3 x1
  clear co
  have al := alO_ B5 (.cells #[.int .u8 y0, .int .u32 y1, .int .u16 y2, .int .u32 y3, .int .u16 y4, .int .i64 y5, .int .u8 y6, .bool y7, .int .u8 y8] 55)
  have C_6 := C_4.on al
  have X_7 := Box9.make w1 (.int .u8 y0) (.int .u32 y1) (.int .u16 y2) (.int .u32 y3) (.int .u16 y4) (.int .i64 y5) (.int .u8 y6) (.bool y7) (.int .u8 y8) 55
  have B8 := B5.trans (al.mono B5.size)
  clear al
  clear C_4 B5
  obtain ⟨_, x1_0, x1_1, x1_2, x1_3, x1_4, x1_5, x1_6, x1_7, x1_8⟩ := id X_7
  go_wp2
  go_ret2
  exact ⟨rfl, B8⟩
theorem rwApply_tcp (s : ByteArray) (a m b n : Int) (y1 y2 y3 y4 y5 y6 y8 : Int) (y7 : Bool) (co : Cb_ 15 #[.string s] (.tuple #[.agg #[.int .u8 6, .int .u32 y1, .int .u16 y2, .int .u32 y3, .int .u16 y4, .int .i64 y5, .int .u8 y6, .bool y7, .int .u8 y8], .int .i64 0])) (e2 : decide (y8 ≤ 1) = false) (h0 h1 h3 h4 h5 h6 r : Int) (h2 : Bool) (h7 L LB HB X : ByteArray) (o : Nat) (eo : wrap64 (20 + (h7.size : Int)) = (o : Int)) (ep : IntKind.i64.wrap (20 + (h7.size : Int)) = (o : Int)) (io : (o : Int) ≤ (s.size : Int)) (hX : s.extract 0 o = X) (qz : HB.size + LB.size ≤ 9223372036854775807) (cp : Cb_ 19 #[.string s] (.tuple #[.agg #[.int .u8 h0, .int .u16 h1, .bool h2, .int .u8 h3, .int .u8 h4, .int .u32 h5, .int .u32 h6, .string h7], .string L, .int .i64 r])) (cs : Cb_ 54 #[.string L, .agg #[.int .u32 y1, .int .u16 y2, .int .u32 y3, .int .u16 y4], .agg #[.int .u32 a, .int .u16 m, .int .u32 b, .int .u16 n]] (.string LB)) (ch : Cb_ 57 #[.string X, .agg #[.int .u32 y1, .int .u16 y2, .int .u32 y3, .int .u16 y4], .agg #[.int .u32 a, .int .u16 m, .int .u32 b, .int .u16 n]] (.string HB)) (w : World) :
    Cw_ 22 #[.string s, .agg #[.int .u32 a, .int .u16 m, .int .u32 b, .int .u16 n]] (.tuple #[.string (HB ++ LB), .int .i64 0]) w := by
  go_enter Tryz.func22, Tryz.ntmps22
  have B1 := Below.refl w.heap.size w
  go_wp2_with fail
  have C_2 := Box4.make w (.int .u32 a) (.int .u16 m) (.int .u32 b) (.int .u16 n) 28
  have B3 := B1.alloc B1.size (.cells #[.int .u32 a, .int .u16 m, .int .u32 b, .int .u16 n] 28)
  clear B1
  refine (co _).mono ?_; rintro e w1 ⟨rfl, x1⟩
  have C_4 := C_2.on x1
  have B5 := B3.trans (x1.mono B3.size)
  clear C_2 B3 x1
  clear co
  have al := alO_ B5 (.cells #[.int .u8 6, .int .u32 y1, .int .u16 y2, .int .u32 y3, .int .u16 y4, .int .i64 y5, .int .u8 y6, .bool y7, .int .u8 y8] 55)
  have C_6 := C_4.on al
  have X_7 := Box9.make w1 (.int .u8 6) (.int .u32 y1) (.int .u16 y2) (.int .u32 y3) (.int .u16 y4) (.int .i64 y5) (.int .u8 y6) (.bool y7) (.int .u8 y8) 55
  have B8 := B5.trans (al.mono B5.size)
  clear al
  clear C_4 B5
  obtain ⟨_, x1_0, x1_1, x1_2, x1_3, x1_4, x1_5, x1_6, x1_7, x1_8⟩ := id X_7
  go_wp2_with fail
  refine (cp _).mono ?_; rintro e w2 ⟨rfl, x2⟩
  have C_9 := C_6.on x2
  have X_10 := X_7.on x2
  have B11 := B8.trans (x2.mono B8.size)
  clear x1_0 x1_1 x1_2 x1_3 x1_4 x1_5 x1_6 x1_7 x1_8 C_6 X_7 B8 x2
  clear cp
  have al := alO_ B11 (.cells #[.int .u8 h0, .int .u16 h1, .bool h2, .int .u8 h3, .int .u8 h4, .int .u32 h5, .int .u32 h6, .string h7] 64)
  have C_12 := C_9.on al
  have X_13 := X_10.on al
  have H_14 := Box8.make w2 (.int .u8 h0) (.int .u16 h1) (.bool h2) (.int .u8 h3) (.int .u8 h4) (.int .u32 h5) (.int .u32 h6) (.string h7) 64
  have B15 := B11.trans (al.mono B11.size)
  clear al
  clear C_9 X_10 B11
  obtain ⟨_, x2_0, x2_1, x2_2, x2_3, x2_4, x2_5, x2_6, x2_7, x2_8⟩ := id X_13
  have al := alO_ B15 (.cells #[.int .u32 y1, .int .u16 y2, .int .u32 y3, .int .u16 y4] 28)
  have C_16 := C_12.on al
  have X_17 := X_13.on al
  have H_18 := H_14.on al
  have hs_ : (w2.alloc (.cells #[.int .u8 h0, .int .u16 h1, .bool h2, .int .u8 h3, .int .u8 h4, .int .u32 h5, .int .u32 h6, .string h7] 64)).heap.size = w2.heap.size + 1 := by simp
  have A_19 := Box4.make (w2.alloc (.cells #[.int .u8 h0, .int .u16 h1, .bool h2, .int .u8 h3, .int .u8 h4, .int .u32 h5, .int .u32 h6, .string h7] 64)) (.int .u32 y1) (.int .u16 y2) (.int .u32 y3) (.int .u16 y4) 28
  rw [hs_] at A_19
  clear hs_
  have B20 := B15.trans (al.mono B15.size)
  clear al
  clear C_12 X_13 H_14 B15
  obtain ⟨_, x3_0, x3_1, x3_2, x3_3, x3_4, x3_5, x3_6, x3_7, x3_8⟩ := id X_17
  obtain ⟨_, a4_0, a4_1, a4_2, a4_3⟩ := id A_19
  obtain ⟨_, c5_0, c5_1, c5_2, c5_3⟩ := id C_16
  go_wp2_with fail
  refine (cs _).mono ?_; rintro e w3 ⟨rfl, x3⟩
  have C_21 := C_16.on x3
  have X_22 := X_17.on x3
  have H_23 := H_18.on x3
  have A_24 := A_19.on x3
  have B25 := B20.trans (x3.mono B20.size)
  clear x2_0 x2_1 x2_2 x2_3 x2_4 x2_5 x2_6 x2_7 x2_8 x3_0 x3_1 x3_2 x3_3 x3_4 x3_5 x3_6 x3_7 x3_8 a4_0 a4_1 a4_2 a4_3 c5_0 c5_1 c5_2 c5_3 C_16 X_17 H_18 A_19 B20 x3
  clear cs
  go_wp2_with fail
  obtain ⟨za, ga0, ga1, ga2, ga3⟩ := id A_24
  have Fa0 := lat_ ga0 za
  have Fa1 := lat_ ga1 za
  have Fa2 := lat_ ga2 za
  have Fa3 := lat_ ga3 za
  clear ga0 ga1 ga2 ga3
  obtain ⟨zc, gc0, gc1, gc2, gc3⟩ := id C_21
  have Fc0 := lat_ gc0 zc
  have Fc1 := lat_ gc1 zc
  have Fc2 := lat_ gc2 zc
  have Fc3 := lat_ gc3 zc
  clear gc0 gc1 gc2 gc3
  obtain ⟨zh, gh0, gh1, gh2, gh3, gh4, gh5, gh6, gh7⟩ := id H_23
  have Fh7 := lat_ gh7 zh
  clear gh0 gh1 gh2 gh3 gh4 gh5 gh6 gh7
  refine region_later (B := w3.heap.size) (by kernel_rfl) (by kernel_rfl) ?_
  repeat (go_big_quiet_step (first
    | (go_at_call 57; exact later_of _ (Nat.le_refl _) (ch _))))
  refine later_end fun w4 x4 => ?_
  have C_26 := C_21.on x4
  have X_27 := X_22.on x4
  have H_28 := H_23.on x4
  have A_29 := A_24.on x4
  have B30 := B25.trans (x4.mono B25.size)
  clear Fa0 Fa1 Fa2 Fa3 za Fc0 Fc1 Fc2 Fc3 zc Fh7 zh C_21 X_22 H_23 A_24 B25 x4
  go_wp2
  go_ret2
  exact ⟨rfl, B30⟩
theorem rwApply_udp (s : ByteArray) (a m b n : Int) (y1 y2 y3 y4 y5 y6 y8 : Int) (y7 : Bool) (co : Cb_ 15 #[.string s] (.tuple #[.agg #[.int .u8 17, .int .u32 y1, .int .u16 y2, .int .u32 y3, .int .u16 y4, .int .i64 y5, .int .u8 y6, .bool y7, .int .u8 y8], .int .i64 0])) (e2 : decide (y8 ≤ 1) = false) (h0 h1 h3 h4 h5 h6 r : Int) (h2 : Bool) (h7 L LB HB X : ByteArray) (o : Nat) (eo : wrap64 (20 + (h7.size : Int)) = (o : Int)) (ep : IntKind.i64.wrap (20 + (h7.size : Int)) = (o : Int)) (io : (o : Int) ≤ (s.size : Int)) (hX : s.extract 0 o = X) (qz : HB.size + LB.size ≤ 9223372036854775807) (cp : Cb_ 19 #[.string s] (.tuple #[.agg #[.int .u8 h0, .int .u16 h1, .bool h2, .int .u8 h3, .int .u8 h4, .int .u32 h5, .int .u32 h6, .string h7], .string L, .int .i64 r])) (cs : Cb_ 55 #[.string L, .agg #[.int .u32 y1, .int .u16 y2, .int .u32 y3, .int .u16 y4], .agg #[.int .u32 a, .int .u16 m, .int .u32 b, .int .u16 n]] (.string LB)) (ch : Cb_ 57 #[.string X, .agg #[.int .u32 y1, .int .u16 y2, .int .u32 y3, .int .u16 y4], .agg #[.int .u32 a, .int .u16 m, .int .u32 b, .int .u16 n]] (.string HB)) (w : World) :
    Cw_ 22 #[.string s, .agg #[.int .u32 a, .int .u16 m, .int .u32 b, .int .u16 n]] (.tuple #[.string (HB ++ LB), .int .i64 0]) w := by
  go_enter Tryz.func22, Tryz.ntmps22
  have B1 := Below.refl w.heap.size w
  go_wp2_with fail
  have C_2 := Box4.make w (.int .u32 a) (.int .u16 m) (.int .u32 b) (.int .u16 n) 28
  have B3 := B1.alloc B1.size (.cells #[.int .u32 a, .int .u16 m, .int .u32 b, .int .u16 n] 28)
  clear B1
  refine (co _).mono ?_; rintro e w1 ⟨rfl, x1⟩
  have C_4 := C_2.on x1
  have B5 := B3.trans (x1.mono B3.size)
  clear C_2 B3 x1
  clear co
  have al := alO_ B5 (.cells #[.int .u8 17, .int .u32 y1, .int .u16 y2, .int .u32 y3, .int .u16 y4, .int .i64 y5, .int .u8 y6, .bool y7, .int .u8 y8] 55)
  have C_6 := C_4.on al
  have X_7 := Box9.make w1 (.int .u8 17) (.int .u32 y1) (.int .u16 y2) (.int .u32 y3) (.int .u16 y4) (.int .i64 y5) (.int .u8 y6) (.bool y7) (.int .u8 y8) 55
  have B8 := B5.trans (al.mono B5.size)
  clear al
  clear C_4 B5
  obtain ⟨_, x1_0, x1_1, x1_2, x1_3, x1_4, x1_5, x1_6, x1_7, x1_8⟩ := id X_7
  go_wp2_with fail
  refine (cp _).mono ?_; rintro e w2 ⟨rfl, x2⟩
  have C_9 := C_6.on x2
  have X_10 := X_7.on x2
  have B11 := B8.trans (x2.mono B8.size)
  clear x1_0 x1_1 x1_2 x1_3 x1_4 x1_5 x1_6 x1_7 x1_8 C_6 X_7 B8 x2
  clear cp
  have al := alO_ B11 (.cells #[.int .u8 h0, .int .u16 h1, .bool h2, .int .u8 h3, .int .u8 h4, .int .u32 h5, .int .u32 h6, .string h7] 64)
  have C_12 := C_9.on al
  have X_13 := X_10.on al
  have H_14 := Box8.make w2 (.int .u8 h0) (.int .u16 h1) (.bool h2) (.int .u8 h3) (.int .u8 h4) (.int .u32 h5) (.int .u32 h6) (.string h7) 64
  have B15 := B11.trans (al.mono B11.size)
  clear al
  clear C_9 X_10 B11
  obtain ⟨_, x2_0, x2_1, x2_2, x2_3, x2_4, x2_5, x2_6, x2_7, x2_8⟩ := id X_13
  have al := alO_ B15 (.cells #[.int .u32 y1, .int .u16 y2, .int .u32 y3, .int .u16 y4] 28)
  have C_16 := C_12.on al
  have X_17 := X_13.on al
  have H_18 := H_14.on al
  have hs_ : (w2.alloc (.cells #[.int .u8 h0, .int .u16 h1, .bool h2, .int .u8 h3, .int .u8 h4, .int .u32 h5, .int .u32 h6, .string h7] 64)).heap.size = w2.heap.size + 1 := by simp
  have A_19 := Box4.make (w2.alloc (.cells #[.int .u8 h0, .int .u16 h1, .bool h2, .int .u8 h3, .int .u8 h4, .int .u32 h5, .int .u32 h6, .string h7] 64)) (.int .u32 y1) (.int .u16 y2) (.int .u32 y3) (.int .u16 y4) 28
  rw [hs_] at A_19
  clear hs_
  have B20 := B15.trans (al.mono B15.size)
  clear al
  clear C_12 X_13 H_14 B15
  obtain ⟨_, x3_0, x3_1, x3_2, x3_3, x3_4, x3_5, x3_6, x3_7, x3_8⟩ := id X_17
  obtain ⟨_, a4_0, a4_1, a4_2, a4_3⟩ := id A_19
  obtain ⟨_, c5_0, c5_1, c5_2, c5_3⟩ := id C_16
  go_wp2_with fail
  refine (cs _).mono ?_; rintro e w3 ⟨rfl, x3⟩
  have C_21 := C_16.on x3
  have X_22 := X_17.on x3
  have H_23 := H_18.on x3
  have A_24 := A_19.on x3
  have B25 := B20.trans (x3.mono B20.size)
  clear x2_0 x2_1 x2_2 x2_3 x2_4 x2_5 x2_6 x2_7 x2_8 x3_0 x3_1 x3_2 x3_3 x3_4 x3_5 x3_6 x3_7 x3_8 a4_0 a4_1 a4_2 a4_3 c5_0 c5_1 c5_2 c5_3 C_16 X_17 H_18 A_19 B20 x3
  clear cs
  go_wp2_with fail
  obtain ⟨za, ga0, ga1, ga2, ga3⟩ := id A_24
  have Fa0 := lat_ ga0 za
  have Fa1 := lat_ ga1 za
  have Fa2 := lat_ ga2 za
  have Fa3 := lat_ ga3 za
  clear ga0 ga1 ga2 ga3
  obtain ⟨zc, gc0, gc1, gc2, gc3⟩ := id C_21
  have Fc0 := lat_ gc0 zc
  have Fc1 := lat_ gc1 zc
  have Fc2 := lat_ gc2 zc
  have Fc3 := lat_ gc3 zc
  clear gc0 gc1 gc2 gc3
  obtain ⟨zh, gh0, gh1, gh2, gh3, gh4, gh5, gh6, gh7⟩ := id H_23
  have Fh7 := lat_ gh7 zh
  clear gh0 gh1 gh2 gh3 gh4 gh5 gh6 gh7
  refine region_later (B := w3.heap.size) (by kernel_rfl) (by kernel_rfl) ?_
  repeat (go_big_quiet_step (first
    | (go_at_call 57; exact later_of _ (Nat.le_refl _) (ch _))))
  refine later_end fun w4 x4 => ?_
  have C_26 := C_21.on x4
  have X_27 := X_22.on x4
  have H_28 := H_23.on x4
  have A_29 := A_24.on x4
  have B30 := B25.trans (x4.mono B25.size)
  clear Fa0 Fa1 Fa2 Fa3 za Fc0 Fc1 Fc2 Fc3 zc Fh7 zh C_21 X_22 H_23 A_24 B25 x4
  go_wp2
  go_ret2
  exact ⟨rfl, B30⟩
theorem rwApply_icmp (s : ByteArray) (a m b n : Int) (y1 y2 y3 y4 y5 y6 y8 : Int) (y7 : Bool) (co : Cb_ 15 #[.string s] (.tuple #[.agg #[.int .u8 1, .int .u32 y1, .int .u16 y2, .int .u32 y3, .int .u16 y4, .int .i64 y5, .int .u8 y6, .bool y7, .int .u8 y8], .int .i64 0])) (e2 : decide (y8 ≤ 1) = false) (h0 h1 h3 h4 h5 h6 r : Int) (h2 : Bool) (h7 L LB HB X : ByteArray) (o : Nat) (eo : wrap64 (20 + (h7.size : Int)) = (o : Int)) (ep : IntKind.i64.wrap (20 + (h7.size : Int)) = (o : Int)) (io : (o : Int) ≤ (s.size : Int)) (hX : s.extract 0 o = X) (qz : HB.size + LB.size ≤ 9223372036854775807) (cp : Cb_ 19 #[.string s] (.tuple #[.agg #[.int .u8 h0, .int .u16 h1, .bool h2, .int .u8 h3, .int .u8 h4, .int .u32 h5, .int .u32 h6, .string h7], .string L, .int .i64 r])) (cs : Cb_ 56 #[.string L, .agg #[.int .u32 a, .int .u16 m, .int .u32 b, .int .u16 n]] (.string LB)) (ch : Cb_ 57 #[.string X, .agg #[.int .u32 y1, .int .u16 y2, .int .u32 y3, .int .u16 y4], .agg #[.int .u32 a, .int .u16 m, .int .u32 b, .int .u16 n]] (.string HB)) (w : World) :
    Cw_ 22 #[.string s, .agg #[.int .u32 a, .int .u16 m, .int .u32 b, .int .u16 n]] (.tuple #[.string (HB ++ LB), .int .i64 0]) w := by
  go_enter Tryz.func22, Tryz.ntmps22
  have B1 := Below.refl w.heap.size w
  go_wp2_with fail
  have C_2 := Box4.make w (.int .u32 a) (.int .u16 m) (.int .u32 b) (.int .u16 n) 28
  have B3 := B1.alloc B1.size (.cells #[.int .u32 a, .int .u16 m, .int .u32 b, .int .u16 n] 28)
  clear B1
  refine (co _).mono ?_; rintro e w1 ⟨rfl, x1⟩
  have C_4 := C_2.on x1
  have B5 := B3.trans (x1.mono B3.size)
  clear C_2 B3 x1
  clear co
  have al := alO_ B5 (.cells #[.int .u8 1, .int .u32 y1, .int .u16 y2, .int .u32 y3, .int .u16 y4, .int .i64 y5, .int .u8 y6, .bool y7, .int .u8 y8] 55)
  have C_6 := C_4.on al
  have X_7 := Box9.make w1 (.int .u8 1) (.int .u32 y1) (.int .u16 y2) (.int .u32 y3) (.int .u16 y4) (.int .i64 y5) (.int .u8 y6) (.bool y7) (.int .u8 y8) 55
  have B8 := B5.trans (al.mono B5.size)
  clear al
  clear C_4 B5
  obtain ⟨_, x1_0, x1_1, x1_2, x1_3, x1_4, x1_5, x1_6, x1_7, x1_8⟩ := id X_7
  go_wp2_with fail
  refine (cp _).mono ?_; rintro e w2 ⟨rfl, x2⟩
  have C_9 := C_6.on x2
  have X_10 := X_7.on x2
  have B11 := B8.trans (x2.mono B8.size)
  clear x1_0 x1_1 x1_2 x1_3 x1_4 x1_5 x1_6 x1_7 x1_8 C_6 X_7 B8 x2
  clear cp
  have al := alO_ B11 (.cells #[.int .u8 h0, .int .u16 h1, .bool h2, .int .u8 h3, .int .u8 h4, .int .u32 h5, .int .u32 h6, .string h7] 64)
  have C_12 := C_9.on al
  have X_13 := X_10.on al
  have H_14 := Box8.make w2 (.int .u8 h0) (.int .u16 h1) (.bool h2) (.int .u8 h3) (.int .u8 h4) (.int .u32 h5) (.int .u32 h6) (.string h7) 64
  have B15 := B11.trans (al.mono B11.size)
  clear al
  clear C_9 X_10 B11
  obtain ⟨_, x2_0, x2_1, x2_2, x2_3, x2_4, x2_5, x2_6, x2_7, x2_8⟩ := id X_13
  have al := alO_ B15 (.cells #[.int .u32 y1, .int .u16 y2, .int .u32 y3, .int .u16 y4] 28)
  have C_16 := C_12.on al
  have X_17 := X_13.on al
  have H_18 := H_14.on al
  have hs_ : (w2.alloc (.cells #[.int .u8 h0, .int .u16 h1, .bool h2, .int .u8 h3, .int .u8 h4, .int .u32 h5, .int .u32 h6, .string h7] 64)).heap.size = w2.heap.size + 1 := by simp
  have A_19 := Box4.make (w2.alloc (.cells #[.int .u8 h0, .int .u16 h1, .bool h2, .int .u8 h3, .int .u8 h4, .int .u32 h5, .int .u32 h6, .string h7] 64)) (.int .u32 y1) (.int .u16 y2) (.int .u32 y3) (.int .u16 y4) 28
  rw [hs_] at A_19
  clear hs_
  have B20 := B15.trans (al.mono B15.size)
  clear al
  clear C_12 X_13 H_14 B15
  obtain ⟨_, x3_0, x3_1, x3_2, x3_3, x3_4, x3_5, x3_6, x3_7, x3_8⟩ := id X_17
  obtain ⟨_, a4_0, a4_1, a4_2, a4_3⟩ := id A_19
  obtain ⟨_, c5_0, c5_1, c5_2, c5_3⟩ := id C_16
  go_wp2_with fail
  refine (cs _).mono ?_; rintro e w3 ⟨rfl, x3⟩
  have C_21 := C_16.on x3
  have X_22 := X_17.on x3
  have H_23 := H_18.on x3
  have A_24 := A_19.on x3
  have B25 := B20.trans (x3.mono B20.size)
  clear x2_0 x2_1 x2_2 x2_3 x2_4 x2_5 x2_6 x2_7 x2_8 x3_0 x3_1 x3_2 x3_3 x3_4 x3_5 x3_6 x3_7 x3_8 a4_0 a4_1 a4_2 a4_3 c5_0 c5_1 c5_2 c5_3 C_16 X_17 H_18 A_19 B20 x3
  clear cs
  go_wp2_with fail
  obtain ⟨za, ga0, ga1, ga2, ga3⟩ := id A_24
  have Fa0 := lat_ ga0 za
  have Fa1 := lat_ ga1 za
  have Fa2 := lat_ ga2 za
  have Fa3 := lat_ ga3 za
  clear ga0 ga1 ga2 ga3
  obtain ⟨zc, gc0, gc1, gc2, gc3⟩ := id C_21
  have Fc0 := lat_ gc0 zc
  have Fc1 := lat_ gc1 zc
  have Fc2 := lat_ gc2 zc
  have Fc3 := lat_ gc3 zc
  clear gc0 gc1 gc2 gc3
  obtain ⟨zh, gh0, gh1, gh2, gh3, gh4, gh5, gh6, gh7⟩ := id H_23
  have Fh7 := lat_ gh7 zh
  clear gh0 gh1 gh2 gh3 gh4 gh5 gh6 gh7
  refine region_later (B := w3.heap.size) (by kernel_rfl) (by kernel_rfl) ?_
  repeat (go_big_quiet_step (first
    | (go_at_call 57; exact later_of _ (Nat.le_refl _) (ch _))))
  refine later_end fun w4 x4 => ?_
  have C_26 := C_21.on x4
  have X_27 := X_22.on x4
  have H_28 := H_23.on x4
  have A_29 := A_24.on x4
  have B30 := B25.trans (x4.mono B25.size)
  clear Fa0 Fa1 Fa2 Fa3 za Fc0 Fc1 Fc2 Fc3 zc Fh7 zh C_21 X_22 H_23 A_24 B25 x4
  go_wp2
  go_ret2
  exact ⟨rfl, B30⟩
theorem ok_back9 {s : ByteArray} : okC (g32 s 12) (oM (bt s 9) (pP s)) (g32 s 16) (oN (bt s 9) (pP s)) := by
  have hq := okC_of s
  have i := idM_bd (mR (pP s))
  have a1 := g16_nonneg (pP s) 0
  have a2 := g16_le (pP s) 0
  have a3 := g16_nonneg (pP s) 2
  have a4 := g16_le (pP s) 2
  refine ⟨hq.1, hq.2.1, ?_, ?_, hq.2.2.2.2.1, hq.2.2.2.2.2.1, ?_, ?_⟩
  · unfold oM; split
    · split <;> omega
    · omega
  · unfold oM; split
    · split <;> omega
    · omega
  · unfold oN; split
    · split <;> omega
    · omega
  · unfold oN; split
    · split <;> omega
    · omega
theorem rwHeader_ (X : ByteArray) (oa oc ob od a m b n : Int) (w : World) (h20 : 20 ≤ X.size) (hz : X.size ≤ 60) (ht : 2 ≤ bt X 8) (ea : oa = g32 X 12) (eb : ob = g32 X 16) (ho : okC oa oc ob od) (hc : okC a m b n) :
    Cw_ 57 #[.string X, .agg #[.int .u32 oa, .int .u16 oc, .int .u32 ob, .int .u16 od], .agg #[.int .u32 a, .int .u16 m, .int .u32 b, .int .u16 n]] (.string (headC X a b)) w := by
  have g0 := fun k => g16_nonneg X k
  have g1 := fun k => g16_le X k
  have hi := g16_hi ht
  have bd := hSum_bd (s := X) ht (okC_ad hc)
  have zA : ∀ x y : Int, (strOfNums (wordL (adW x y))).size = 8 := fun x y => by rw [size_W]; rfl
  have z1 : ∀ x : Int, (strOfNums (wordL [x])).size = 2 := fun x => by rw [size_W]; rfl
  have z2 : ∀ x y : Int, (strOfNums (wordL [x, y])).size = 4 := fun x y => by rw [size_W]; rfl
  have e8 := size_extract' X 0 8 (by omega) (by omega)
  have e20 := size_extract' X 20 X.size h20 (Nat.le_refl _)
  have cg := fun u => get16_any X 8 u (by unfold maxLen; omega)
  rw [v16_at (i := 8) (k := 8) rfl (by omega), show okAt X 8 2 = true from okAt_yes (k := 8) (m := 2) (by omega)] at cg
  have ch := fun u => get16_any X 10 u (by unfold maxLen; omega)
  rw [v16_at (i := 10) (k := 10) rfl (by omega), show okAt X 10 2 = true from okAt_yes (k := 10) (m := 2) (by omega)] at ch
  have cu := fun u => updates_ (g16 X 10) (strOfNums (wordL [g16 X 8]) ++ strOfNums (wordL (adW oa ob))) (strOfNums (wordL [g16 X 8 - 256]) ++ strOfNums (wordL (adW a b))) u (g0 _) (g1 _) (by rw [ByteArray.size_append, zA, z1]; unfold maxLen; decide) (by rw [ByteArray.size_append, zA, z1]; unfold maxLen; decide)
  rw [hSum_N h20 ht (okC_ad hc) ea eb] at cu
  have k8 := g1 8
  refine rwHeader_v X oa oc ob od a m b n (g16 X 8) (g16 X 8 - 256) (g16 X 10) (hSum X a b) _ _ _ _ _ _ _ _ rfl rfl (by rw [IntKind.wrap_u16]; omega) (by rw [z1, zA]; omega) (by rw [z1, zA]; omega) (by omega) (by omega) (by rw [e8, z2]; omega) (by rw [e8, z2, zA]; omega) (by rw [e8, z2, zA, e20]; omega) (head_headC h20 ht (okC_ad hc)) cg ch (fun u => put16 _ u (g0 _) (g1 _)) (fun u => put16 _ u (by omega) (by omega)) (fun u => rwAddr_ oa oc ob od ho u) (fun u => rwAddr_ a m b n hc u) cu (fun u j hj q0 q1 => word_any _ 2 2 [g16 X 8 - 256, hSum X a b] u (row2n_ hj q0 q1) (by omega) (two_wf (by omega) (by omega) bd.1 bd.2)) w
theorem rwApply_ (s : ByteArray) (a m b n : Int) (w : World) (hs : s.size ≤ 1000000) (hc : okC a m b n) :
    Cw_ 22 #[.string s, .agg #[.int .u32 a, .int .u16 m, .int .u32 b, .int .u16 n]] (.tuple #[.string (rwB s a m b n), .int .i64 (rwR s)]) w := by
  have co := fun u => of8_ s u hs
  by_cases hr : seenR s = 0
  rotate_left
  · have hR : rwR s = seenR s := by unfold rwR; rw [if_neg hr]
    rw [rw_no (by rw [hR]; exact hr), hR]
    exact rwApply_refused s a m b n _ _ _ _ _ _ _ _ (seenR s) _ co (by simpa using hr) w
  obtain ⟨n1, n2⟩ := s_yes (s := s) hr
  rw [n1, n1, n1, n1, n1, n1, n1, n1, n2, hr] at co
  by_cases h2 : bt s 8 < 2
  · have hR : rwR s = 8 := by unfold rwR; rw [if_pos hr, if_pos h2]
    rw [rw_no (by rw [hR]; decide), hR]
    exact rwApply_ttl s a m b n _ _ _ _ _ _ _ _ _ co (by simp; omega) w
  have hR : rwR s = 0 := rw_is hr (by omega)
  obtain ⟨hp, ho⟩ := seen_ip hr
  obtain ⟨f1, f2, f3, f4, f5, f6, f7, f8, f9⟩ := ip_facts hp
  have cp := fun u => ipParse_ s u (by unfold maxLen; omega)
  obtain ⟨y1, _, y3, y4⟩ := p_yes hp
  rw [y1, y1, y1, y1, y1, y1, hp] at cp
  have o60 : ownN s ≤ 60 := by have := bt_le s 0; have := bt_nonneg s 0; unfold ownN; omega
  have zO : (pO s).size = ownN s - 20 := by rw [y3]; exact size_extract' s 20 (ownN s) f3 f4
  have eo : Hid (wrap64 (20 + ((pO s).size : Int)) = (ownN s : Int)) := (IntWalk.wrap64_in _ (by omega)).trans (by omega)
  have ep : Hid (IntKind.i64.wrap (20 + ((pO s).size : Int)) = (ownN s : Int)) := (IntWalk.i64_in _ (by omega)).trans (by omega)
  have zx := size_extract' s 0 (ownN s) (Nat.zero_le _) f4
  have b8 : bt (s.extract 0 (ownN s)) 8 = bt s 8 := bt_ext0 s _ 8 (by omega) f4
  have G : ∀ i, i + 3 < ownN s → g32 s i = g32 (s.extract 0 (ownN s)) i := fun i hi => by rw [g32_two, g32_two, g16_ext0 _ _ _ (by omega) f4, g16_ext0 _ _ _ (by omega) f4]
  have e2 : decide (bt s 8 ≤ 1) = false := by simp; omega
  have hq := okC_of s
  have hk := ok_back9 (s := s)
  have zl : (pP s).size ≤ 1000000 := by rw [y4, ByteArray.size_extract]; omega
  have zc := ld_size ho (g32 s 12) (g32 s 16) a m b n
  have zh := headC_size (s := s.extract 0 (ownN s)) (a := a) (b := b) (by omega)
  have eB : rwB s a m b n = headC (s.extract 0 (ownN s)) a b ++ ldC (bt s 9) (pP s) (g32 s 12) (g32 s 16) a m b n := by unfold rwB; rw [if_pos hR]
  have ch := fun u => rwHeader_ (s.extract 0 (ownN s)) (g32 s 12) (oM (bt s 9) (pP s)) (g32 s 16) (oN (bt s 9) (pP s)) a m b n u (by omega) (by omega) (by rw [b8]; omega) (G 12 (by omega)) (G 16 (by omega)) hk hc
  rw [eB, hR]
  rcases oR_cases ho with ⟨k, t1⟩ | ⟨k, t1⟩ | ⟨k, t1, q⟩
  · rw [k] at co zc ch ⊢
    have eM : oM 6 (pP s) = g16 (pP s) 0 := by unfold oM; rw [if_neg (by decide)]
    have eN : oN 6 (pP s) = g16 (pP s) 2 := by unfold oN; rw [if_neg (by decide)]
    rw [eM, eN] at co ch
    have cs := fun u => rwSegment_ (pP s) (g32 s 12) (g32 s 16) a m b n u t1 zl hq hc
    rw [← ldC_tcp] at cs
    exact rwApply_tcp s a m b n _ _ _ _ _ _ _ _ co e2 _ _ _ _ _ _ _ _ _ _ _ _ _ (ownN s) eo.out ep.out (by omega) rfl (by omega) cp cs ch w
  · rw [k] at co zc ch ⊢
    have eM : oM 17 (pP s) = g16 (pP s) 0 := by unfold oM; rw [if_neg (by decide)]
    have eN : oN 17 (pP s) = g16 (pP s) 2 := by unfold oN; rw [if_neg (by decide)]
    rw [eM, eN] at co ch
    have cs := fun u => rwDatagram_ (pP s) (g32 s 12) (g32 s 16) a m b n u t1 zl hq hc
    rw [← ldC_udp] at cs
    exact rwApply_udp s a m b n _ _ _ _ _ _ _ _ co e2 _ _ _ _ _ _ _ _ _ _ _ _ _ (ownN s) eo.out ep.out (by omega) rfl (by omega) cp cs ch w
  · rw [k] at co zc ch ⊢
    have cs := fun u => rwMessage_ (pP s) a m b n u t1 zl hc
    rw [← ldC_ic (pP s) (g32 s 12) (g32 s 16) a m b n] at cs
    exact rwApply_icmp s a m b n _ _ _ _ _ _ _ _ co e2 _ _ _ _ _ _ _ _ _ _ _ _ _ (ownN s) eo.out ep.out (by omega) rfl (by omega) cp cs ch w
end Go.Proofs.YtbpicngbjggblaaGreatDoor
