/- Texts of this proof, together: TcpK, TcpL, TcpH, TcpN. -/
import Derived.Test.YtbpicngbjggblaaGreatDoorGh
import Derived.Test.YtbpicngbjggblaaGreatDoorGc
import Derived.Test.YtbpicngbjggblaaGreatDoorGb
import Derived.Test.YtbpicngbjggblaaGreatDoorGa
import Derived.Test.YtbpicngbjggblaaGreatDoorGe
import Derived.Lib.VarintBits
import Derived.Deep.RegionHeld3
namespace Go.Proofs.YtbpicngbjggblaaGreatDoor
set_option maxHeartbeats 2000000
set_option maxRecDepth 100000
set_option linter.unusedVariables false
set_option linter.unusedSimpArgs false
open Go.ChangeShapes Go.WideShapes Go.ChangeAt Go.RowKit Go.PlainAid
theorem u32_pair (a b : Int) (ha : 0 ≤ a) (ha' : a ≤ 65535) (hb : 0 ≤ b) (hb' : b ≤ 65535) : bits .or .u32 (a * 65536) b = a * 65536 + b := by
  rw [u32_or _ _ (by omega) (by omega) hb (by omega)]
  have h := Nat.two_pow_add_eq_or_of_lt (i := 16) (b := b.toNat) (by omega) a.toNat
  have e : (a * 65536).toNat = 2 ^ 16 * a.toNat := by omega
  rw [e, ← h]
  omega
theorem u16_h12 (a b : Int) (ha : 0 ≤ a) (ha' : a ≤ 15) (hb : 0 ≤ b) (hb' : b ≤ 15) : bits .or .u16 (a * 4096) (b * 256) = (a * 16 + b) * 256 := by
  rw [u16_or _ _ (by omega) (by omega) (by omega) (by omega)]
  have h := Nat.two_pow_add_eq_or_of_lt (i := 12) (b := b.toNat * 256) (by omega) a.toNat
  have e : (a * 4096).toNat = 2 ^ 12 * a.toNat := by omega
  have e' : (b * 256).toNat = b.toNat * 256 := by omega
  rw [e, e', ← h]
  omega
theorem u8_mask15 (x : Int) (h0 : 0 ≤ x) (h1 : x ≤ 255) : bits .and .u8 x 15 = x % 16 := bits_mask .u8 8 (by decide) wraps_u8 4 (by decide) x h0 (by omega)
theorem tcpGet16_ (s : ByteArray) (k : Nat) (w : World) (hs : s.size ≤ maxLen) (h : k + 2 ≤ s.size) :
    Cw_ 143 #[.string s, .int .i64 (k : Int)] (.int .u16 (g16 s k)) w := by
  go_enter Tryz.func143, Tryz.ntmps143
  go_wp2_with fail
  refine (get16_yes s k _ hs h).mono ?_; rintro e w' ⟨rfl, B⟩
  go_wp2
  go_ret
  exact ⟨rfl, B⟩
theorem tcpGet32_ (s : ByteArray) (k : Nat) (w : World) (hs : s.size ≤ maxLen) (h : k + 4 ≤ s.size) :
    Cw_ 144 #[.string s, .int .i64 (k : Int)] (.int .u32 (g32 s k)) w := by
  go_enter Tryz.func144, Tryz.ntmps144
  go_wp2_with fail
  refine (get32_yes s k _ hs h).mono ?_; rintro e w' ⟨rfl, B⟩
  go_wp2
  go_ret
  exact ⟨rfl, B⟩
theorem tcpPair_ (a b : Int) (w : World) (a0 : 0 ≤ a) (a1 : a ≤ 65535) (b0 : 0 ≤ b) (b1 : b ≤ 65535) :
    Calls Tryz.prog 147 #[.int .u16 a, .int .u16 b] w fun e w' => e = .returned (.int .u32 (a * 65536 + b)) ∧ w = w' := by
  have x := u32_pair a b a0 a1 b0 b1
  have c1 : IntKind.u32.wrap a = a := IntWalk.u32_in _ (by omega)
  have c2 : IntKind.u32.wrap b = b := IntWalk.u32_in _ (by omega)
  have c3 : IntKind.u32.wrap (a * 65536) = a * 65536 := IntWalk.u32_in _ (by omega)
  go_enter Tryz.func147, Tryz.ntmps147
  go_wp2
  go_ret
  exact ⟨rfl, rfl⟩
/-- Numbers of 32 bits, as words of 16. -/
def pairsL (zs : List Int) : List Int := zs.flatMap fun n => [n / 65536, n % 65536]
theorem pairsL_snoc (zs : List Int) (n : Int) : pairsL (zs ++ [n]) = pairsL zs ++ [n / 65536, n % 65536] := by simp [pairsL]
theorem pairsL_length (zs : List Int) : (pairsL zs).length = 2 * zs.length := by
  induction zs with
  | nil => rfl
  | cons z zs ih => simp [pairsL] at *; omega
theorem wordL_app (a b : List Int) : wordL (a ++ b) = wordL a ++ wordL b := by simp [wordL]
def layB (zs : List Int) : ByteArray := strOfNums (wordL (pairsL zs))
theorem layB_snoc (zs : List Int) (n : Int) : layB (zs ++ [n]) = layB zs ++ strOfNums (wordL [n / 65536, n % 65536]) := by
  unfold layB; rw [pairsL_snoc, wordL_app, strOfNums_append]
theorem layB_size (zs : List Int) : (layB zs).size = 4 * zs.length := by unfold layB; rw [size_W, pairsL_length]; omega
theorem tcpLay_ (a : Option Addr) (len cap : Nat) (zs : List Int) (w : World) (h : Row .u32 w a len zs) (hl : len ≤ 1000) (hr : ∀ n ∈ zs, 0 ≤ n ∧ n ≤ 4294967295) :
    Cw_ 146 #[.slice a len cap] (.string (layB zs)) w := by
  have ROW := Lib.hid h
  have HL := Lib.hid h.1
  have HR := Lib.hid hr
  clear h hr
  go_enter Tryz.func146, Tryz.ntmps146
  go_wp2_with fail
  go_loopw [3, 8] (fun v si wr => ∃ i : Nat, i ≤ len ∧ si = .int .i64 i ∧ v = .string (layB (zs.take i)) ∧ Below w.heap.size w wr) (fun _ si _ => len - (intOf si).toNat)
  case atStart => exact ⟨0, Nat.zero_le _, rfl, rfl, Below.refl _ _⟩
  case round =>
    obtain ⟨i, hi, rfl, rfl, B⟩ := hrel
    by_cases hlt : i < len
    · obtain ⟨b, off, rfl, hb, hc⟩ : ∃ b off, a = some ⟨b, off, none⟩ ∧ b < w.heap.size ∧ ∀ t, t < len → w.cell? ⟨b, off + t, none⟩ = some (.int .u32 (zs.getD t 0)) := by
        rcases ROW.out.2 with h | h
        · omega
        · exact h
      have hcell := (B.cell (by exact hb)).trans (hc i hlt)
      have HT := Lib.hid (take_snoc_getD zs i (by rw [HL.out]; exact hlt))
      have hn0 : 0 ≤ zs.getD i 0 ∧ zs.getD i 0 ≤ 4294967295 := by
        have : zs.getD i 0 = zs[i]'(by rw [HL.out]; exact hlt) := by simp [List.getD, show i < zs.length by rw [HL.out]; exact hlt]
        rw [this]; exact HR.out _ (List.getElem_mem _)
      obtain ⟨n, hn⟩ : ∃ n, n = zs.getD i 0 := ⟨_, rfl⟩
      rw [← hn] at hcell HT hn0
      obtain ⟨n0, n1⟩ := hn0
      have zs1 := layB_size (zs.take i)
      have zt : (strOfNums (wordL [n / 65536, n % 65536])).size = 4 := by rw [size_W]; rfl
      have HS : Hid (layB (zs.take i) ++ strOfNums (wordL [n / 65536, n % 65536]) = layB (zs.take (i + 1))) := by show _ = _; rw [HT.out, layB_snoc]
      rw [List.length_take, HL.out] at zs1
      have c4 := fun u => put32 n u n0 n1
      generalize layB (zs.take i) = S at *
      generalize strOfNums (wordL [n / 65536, n % 65536]) = T at *
      have q : S.size + T.size ≤ 9223372036854775807 := by omega
      clear hc hn zs1 zt HT
      go_wp2_with fail
      refine (c4 _).mono ?_; rintro e w1 ⟨rfl, B1⟩
      have B2 := B.trans (B1.mono B.size)
      clear B B1 hcell c4
      go_wp2
      go_roundw
      case rel => exact ⟨i + 1, by omega, by go_num, by rw [HS.out], B2⟩
      case measure => simp [intOf]; omega
    · have HT : Hid (zs.take i = zs) := by have := HL.out; show _ = _; rw [List.take_of_length_le]; omega
      go_wp2
      go_ret
      exact ⟨by rw [HT.out]; rfl, B⟩
attribute [local go_sem ↓] Go.wp_at_zero Go.wp_at_succ
theorem tcpRead_ (s : ByteArray) (w : World) (hs : s.size ≤ 100) (h : 20 ≤ s.size) :
    Cw_ 132 #[.string s] (.agg #[.int .u16 (g16 s 0), .int .u16 (g16 s 2), .int .u32 (g32 s 4), .int .u32 (g32 s 8), .int .u8 (bt s 12 % 16), .int .u8 (bt s 13), .int .u16 (g16 s 14), .int .u16 (g16 s 16), .int .u16 (g16 s 18), .string (s.extract 20 s.size)]) w := by
  have hb := get_bt s
  have hs2 : s.size ≤ maxLen := by unfold maxLen; omega
  have i12 : (12 : Int) < (s.size : Int) := by omega
  have i13 : (13 : Int) < (s.size : Int) := by omega
  have i20 : (20 : Int) ≤ (s.size : Int) := by omega
  have HZ := size_extract' s 20 s.size h (Nat.le_refl _)
  have a1 := u8_mask15 (bt s 12) (bt_nonneg s 12) (bt_le s 12)
  obtain ⟨t, ht⟩ : ∃ t, t = s.extract 20 s.size := ⟨_, rfl⟩
  go_enter Tryz.func132, Tryz.ntmps132
  go_wp2_with fail
  obtain ⟨w1, hw1⟩ : ∃ w1, w1 = w.alloc (.cells #[.int .u16 0, .int .u16 0, .int .u32 0, .int .u32 0, .int .u8 0, .int .u8 0, .int .u16 0, .int .u16 0, .int .u16 0, .string ⟨#[]⟩] 149) := ⟨_, rfl⟩
  rw [← hw1]
  refine region_lead (B := w1.heap.size) 23 1 (by kernel_rfl) (by kernel_rfl) (by kernel_rfl) (by kernel_rfl) ?_
  simp only [List.take_succ_cons, List.take_zero]
  repeat (go_big_quiet_step (first
    | (go_at_call_of 143 (0 : Int); exact later_of _ (Nat.le_refl _) (tcpGet16_ s 0 _ hs2 (by omega)))
    | (go_at_call_of 143 (2 : Int); exact later_of _ (Nat.le_refl _) (tcpGet16_ s 2 _ hs2 (by omega)))
    | (go_at_call_of 144 (4 : Int); exact later_of _ (Nat.le_refl _) (tcpGet32_ s 4 _ hs2 (by omega)))
    | (go_at_call_of 144 (8 : Int); exact later_of _ (Nat.le_refl _) (tcpGet32_ s 8 _ hs2 (by omega)))
    | (go_at_call_of 143 (14 : Int); exact later_of _ (Nat.le_refl _) (tcpGet16_ s 14 _ hs2 (by omega)))
    | (go_at_call_of 143 (16 : Int); exact later_of _ (Nat.le_refl _) (tcpGet16_ s 16 _ hs2 (by omega)))
    | (go_at_call_of 143 (18 : Int); exact later_of _ (Nat.le_refl _) (tcpGet16_ s 18 _ hs2 (by omega)))
    | (go_at_call 52; exact later_of _ (Nat.le_refl _) (clone_ _ _ (by rw [HZ]; omega)))))
  refine lead_end (by kernel_rfl) (by kernel_rfl) rfl fun w2 b2 K hK => ?_
  subst hw1
  obtain ⟨hc, hf⟩ := bcell4_ b2
  have hz : w.heap.size < w2.heap.size := by have := b2.size; simp at this; omega
  have B2 : Below w.heap.size w w2 := ((Below.refl _ _).alloc (Nat.le_refl _) _).trans (b2.mono (by simp))
  have hz2 := B2.size
  go_simp
  refine hK.out _ _ ?_
  refine box10_ (b := w.heap.size) (box10_is rfl hc) B2 (Nat.le_refl _) fun w9 x0 x1 x2 x3 x4 x5 x6 x7 x8 x9 B9 _ _ => ?_
  clear hc hf b2 B2 hK K
  go_wp2
  refine bodyPost_ret (v := .agg #[.int .u16 (g16 s 0), .int .u16 (g16 s 2), .int .u32 (g32 s 4), .int .u32 (g32 s 8), .int .u8 (bt s 12 % 16), .int .u8 (bt s 13), .int .u16 (g16 s 14), .int .u16 (g16 s 16), .int .u16 (g16 s 18), .string (s.extract 20 s.size)]) (by simp [results, Tryz.results132, go_sem, x0, x1, x2, x3, x4, x5, x6, x7, x8, x9]) rfl ?_
  exact ⟨rfl, B9⟩
end Go.Proofs.YtbpicngbjggblaaGreatDoor
namespace Go.Proofs.YtbpicngbjggblaaGreatDoor
set_option maxHeartbeats 2000000
set_option maxRecDepth 100000
set_option linter.unusedVariables false
set_option linter.unusedSimpArgs false
open Go.ChangeShapes Go.WideShapes Go.ChangeAt Go.RowKit Go.PlainAid
attribute [local go_sem ↓] Go.wp_at_zero Go.wp_at_succ
theorem tcpParse_ (s : ByteArray) (w : World) (hs : s.size ≤ 1000000) :
    Cw_ 93 #[.string s] (.tuple #[.agg #[.int .u16 (tI s (g16 s 0)), .int .u16 (tI s (g16 s 2)), .int .u32 (tI s (g32 s 4)), .int .u32 (tI s (g32 s 8)), .int .u8 (tI s (bt s 12 % 16)), .int .u8 (tI s (bt s 13)), .int .u16 (tI s (g16 s 14)), .int .u16 (tI s (g16 s 16)), .int .u16 (tI s (g16 s 18)), .string (tO s)], .string (tP s), .bool (tOk s)]) w := by
  have hs2 : s.size ≤ maxLen := by unfold maxLen; omega
  have hb := get_bt s
  by_cases h20 : s.size < 20
  · have hk : tOk s = false := by unfold tOk; simp; omega
    obtain ⟨y1, y2, y3⟩ := tOk_no hk
    rw [y1, y1, y1, y1, y1, y1, y1, y1, y1, y2, y3, hk]
    have e1 : decide ((s.size : Int) < 20) = true := by simp; omega
    clear h20 hk y1 y2 y3 hb
    go_enter Tryz.func93, Tryz.ntmps93
    go_wp2
    refine bodyPost_ret (v := .tuple #[.agg #[.int .u16 0, .int .u16 0, .int .u32 0, .int .u32 0, .int .u8 0, .int .u8 0, .int .u16 0, .int .u16 0, .int .u16 0, .string ⟨#[]⟩], .string ⟨#[]⟩, .bool false]) (by simp [results, Tryz.results93, go_sem]) rfl ?_
    exact ⟨rfl, (Below.refl _ _).alloc (Nat.le_refl _) _⟩
  have e1 : decide ((s.size : Int) < 20) = false := by simp; omega
  have b0 := bt_nonneg s 12
  have b1 := bt_le s 12
  obtain ⟨n, hn⟩ : ∃ n, tOwn s = n := ⟨_, rfl⟩
  have e4 : bt s 12 / 16 * 4 = (n : Int) := by rw [← hn]; unfold tOwn; omega
  have n60 : n ≤ 60 := by omega
  have i12 : (12 : Int) < (s.size : Int) := by omega
  by_cases h12 : n < 20 ∨ s.size < n
  · have hk : tOk s = false := by unfold tOk; rw [hn]; simp; omega
    obtain ⟨y1, y2, y3⟩ := tOk_no hk
    rw [y1, y1, y1, y1, y1, y1, y1, y1, y1, y2, y3, hk]
    have key : ∃ x y : Bool, decide ((n : Int) < 20) = x ∧ decide (s.size < n) = y ∧ (x = true ∨ (x = false ∧ y = true)) := by
      refine ⟨_, _, rfl, rfl, ?_⟩
      simp only [decide_eq_true_eq, decide_eq_false_iff_not]
      omega
    obtain ⟨x, y, k1, k2, hxy⟩ := key
    clear h20 hk y1 y2 y3 hn h12
    rcases hxy with rfl | ⟨rfl, rfl⟩
    all_goals
      go_enter Tryz.func93, Tryz.ntmps93
      go_wp2
      refine bodyPost_ret (v := .tuple #[.agg #[.int .u16 0, .int .u16 0, .int .u32 0, .int .u32 0, .int .u8 0, .int .u8 0, .int .u16 0, .int .u16 0, .int .u16 0, .string ⟨#[]⟩], .string ⟨#[]⟩, .bool false]) (by simp [results, Tryz.results93, go_sem]) rfl ?_
      exact ⟨rfl, (Below.refl _ _).alloc (Nat.le_refl _) _⟩
  have h1 : 20 ≤ n := by omega
  have fs : n ≤ s.size := by omega
  have e2 : decide ((n : Int) < 20) = false := by simp; omega
  have e3 : decide (s.size < n) = false := by simp; omega
  have hk : tOk s = true := by unfold tOk; rw [hn]; simp; omega
  obtain ⟨_, _, _, y1, y2, y3⟩ := tOk_yes hk
  rw [y1, y1, y1, y1, y1, y1, y1, y1, y1, y2, y3, hk, hn]
  have zt := size_extract' s 0 n (Nat.zero_le _) fs
  have cd := fun u => tcpRead_ (s.extract 0 n) u (by omega) (by omega)
  rw [bt_ext0 s n 12 (by omega) fs, bt_ext0 s n 13 (by omega) fs, g16_ext0 s n 0 (by omega) fs, g16_ext0 s n 2 (by omega) fs, g16_ext0 s n 14 (by omega) fs, g16_ext0 s n 16 (by omega) fs, g16_ext0 s n 18 (by omega) fs, g32_ext0 s n 4 (by omega) fs, g32_ext0 s n 8 (by omega) fs, zt, Nat.sub_zero, ext_ext0] at cd
  have zp := size_extract' s n s.size fs (Nat.le_refl _)
  have cc := fun u => clone_ (s.extract n s.size) u (by omega)
  have i1 : (n : Int) ≤ (s.size : Int) := by omega
  generalize g16 s 0 = v0 at *
  generalize g16 s 2 = v1 at *
  generalize g32 s 4 = v2 at *
  generalize g32 s 8 = v3 at *
  generalize g16 s 14 = v6 at *
  generalize g16 s 16 = v7 at *
  generalize g16 s 18 = v8 at *
  obtain ⟨v4, hv4⟩ : ∃ v, bt s 12 % 16 = v := ⟨_, rfl⟩
  obtain ⟨v5, hv5⟩ : ∃ v, bt s 13 = v := ⟨_, rfl⟩
  rw [hv4, hv5] at cd ⊢
  obtain ⟨x, hx⟩ : ∃ x, x = s.extract 20 n := ⟨_, rfl⟩
  rw [← hx] at cd ⊢
  clear hx hv4 hv5 h20 hk y1 y2 y3 hn zt zp h12
  go_enter Tryz.func93, Tryz.ntmps93
  go_wp2_with fail
  obtain ⟨w0, hw0⟩ : ∃ w0, w0 = w.alloc (.cells #[.int .u16 0, .int .u16 0, .int .u32 0, .int .u32 0, .int .u8 0, .int .u8 0, .int .u16 0, .int .u16 0, .int .u16 0, .string ⟨#[]⟩] 149) := ⟨_, rfl⟩
  rw [← hw0]
  refine region_lead (B := w0.heap.size) 8 3 (by kernel_rfl) (by kernel_rfl) (by kernel_rfl) (by kernel_rfl) ?_
  simp only [List.take_succ_cons, List.take_zero]
  repeat (go_big_quiet_step (first
    | (go_at_call 132; exact later_of _ (Nat.le_refl _) (cd _))
    | (go_at_call 52; exact later_of _ (Nat.le_refl _) (cc _))))
  refine lead_tail (fin := #[true, true, true, true, true, true, true, true, false, false, false]) (by kernel_rfl) fun f w3 b3 => ?_
  subst hw0
  obtain ⟨hc, hf⟩ := bcell4_ b3
  have hz : w.heap.size < w3.heap.size := by have := b3.size; simp at this; omega
  have B2 : Below w.heap.size w w3 := ((Below.refl _ _).alloc (Nat.le_refl _) _).trans (b3.mono (by simp))
  have hz2 := B2.size
  refine wpAny_ready (rs := [8]) (by kernel_rfl) (by simp) (AllReady.cons rfl (fun K hK => ?_) AllReady.nil)
  go_simp
  refine hK _ _ ?_
  clear hK K
  refine box10_ (b := w.heap.size) (box10_is rfl hc) B2 (Nat.le_refl _) fun w9 x0 x1 x2 x3 x4 x5 x6 x7 x8 x9 B9 _ _ => ?_
  clear hc hf b3 B2
  refine wpAny_ready (rs := [9]) (by kernel_rfl) (by simp) (AllReady.cons rfl (fun K hK => ?_) AllReady.nil)
  go_simp
  refine hK _ _ ?_
  clear hK K
  refine wpAny_ready (rs := [10]) (by kernel_rfl) (by simp) (AllReady.cons rfl (fun K hK => ?_) AllReady.nil)
  go_simp
  refine hK _ _ ?_
  clear hK K
  refine wpAny_done (by kernel_rfl) ?_ _
  go_wp2
  refine bodyPost_ret (v := .tuple #[.agg #[.int .u16 v0, .int .u16 v1, .int .u32 v2, .int .u32 v3, .int .u8 v4, .int .u8 v5, .int .u16 v6, .int .u16 v7, .int .u16 v8, .string x], .string (s.extract n s.size), .bool true]) (by simp [results, Tryz.results93, go_sem, x0, x1, x2, x3, x4, x5, x6, x7, x8, x9]) rfl ?_
  exact ⟨rfl, B9⟩
end Go.Proofs.YtbpicngbjggblaaGreatDoor
namespace Go.Proofs.YtbpicngbjggblaaGreatDoor
set_option maxHeartbeats 4000000
set_option maxRecDepth 100000
set_option linter.unusedVariables false
set_option linter.unusedSimpArgs false
open Go.ChangeShapes Go.WideShapes Go.ChangeAt Go.RowKit Go.PlainAid
attribute [local go_sem ↓] Go.wp_at_zero Go.wp_at_succ
theorem row5_ {k : IntKind} {w : World} {b : Nat} {x0 x1 x2 x3 x4 : Int} (hb : b < w.heap.size) (h0 : w.cell? ⟨b, 0, none⟩ = some (.int k x0)) (h1 : w.cell? ⟨b, 1, none⟩ = some (.int k x1)) (h2 : w.cell? ⟨b, 2, none⟩ = some (.int k x2)) (h3 : w.cell? ⟨b, 3, none⟩ = some (.int k x3)) (h4 : w.cell? ⟨b, 4, none⟩ = some (.int k x4)) : Row k w (some ⟨b, 0, none⟩) 5 [x0, x1, x2, x3, x4] :=
  ⟨rfl, .inr ⟨b, 0, rfl, hb, by
    intro t ht
    match t, ht with
    | 0, _ => simpa using h0
    | 1, _ => simpa using h1
    | 2, _ => simpa using h2
    | 3, _ => simpa using h3
    | 4, _ => simpa using h4⟩⟩
theorem tcpHead_ (sp dp sq ak lo fl wi su ur : Int) (o : ByteArray) (w : World) (a0 : 0 ≤ sp) (a1 : sp ≤ 65535) (b0 : 0 ≤ dp) (b1 : dp ≤ 65535) (c0 : 0 ≤ sq) (c1 : sq ≤ 4294967295) (d0 : 0 ≤ ak) (d1 : ak ≤ 4294967295) (e0 : 0 ≤ lo) (e1 : lo ≤ 15) (f0 : 0 ≤ fl) (f1 : fl ≤ 255)
    (g0 : 0 ≤ wi) (g1 : wi ≤ 65535) (h0 : 0 ≤ su) (h1 : su ≤ 65535) (i0 : 0 ≤ ur) (i1 : ur ≤ 65535) (ho : o.size ≤ 40) (ho4 : o.size % 4 = 0) :
    Cw_ 135 #[.agg #[.int .u16 sp, .int .u16 dp, .int .u32 sq, .int .u32 ak, .int .u8 lo, .int .u8 fl, .int .u16 wi, .int .u16 su, .int .u16 ur, .string o]] (.string (strOfNums (wordL (tcpW sp dp sq ak lo fl wi su ur o.size)) ++ o)) w := by
  obtain ⟨n, hn⟩ : ∃ n, o.size = n := ⟨_, rfl⟩
  rw [hn] at ho ho4 ⊢
  obtain ⟨q, hq⟩ : ∃ q : Int, q = 5 + (n : Int) / 4 := ⟨_, rfl⟩
  have q0 : 0 ≤ q := by omega
  have q1 : q ≤ 15 := by omega
  obtain ⟨z, hz⟩ : ∃ z : Int, z = 20 + (n : Int) := ⟨_, rfl⟩
  have x1 : 20 + (n : Int) = z := hz.symm
  have x2 : z / 4 = q := by omega
  have x2' : z.tdiv 4 = q := by rw [Int.tdiv_eq_ediv_of_nonneg (by omega)]; exact x2
  have x2'' : IntKind.u16.wrap z = z := IntWalk.u16_in _ (by omega)
  have zb0 : 0 ≤ z := by omega
  have zb1 : z ≤ 60 := by omega
  have w1' : IntKind.u16.wrap q = q := IntWalk.u16_in _ (by omega)
  have w2' : IntKind.u16.wrap (q * 4096) = q * 4096 := IntWalk.u16_in _ (by omega)
  have w3' : IntKind.u16.wrap lo = lo := IntWalk.u16_in _ (by omega)
  have w4' : IntKind.u16.wrap (lo * 256) = lo * 256 := IntWalk.u16_in _ (by omega)
  have w5' : IntKind.u16.wrap fl = fl := IntWalk.u16_in _ (by omega)
  have x3 := u16_h12 q lo q0 q1 e0 e1
  have x5 := u16_hl (q * 16 + lo) fl (by omega) (by omega) f0 f1
  obtain ⟨g, hg⟩ : ∃ x : Int, x = (q * 16 + lo) * 256 + fl := ⟨_, rfl⟩
  rw [← hg] at x5
  have gb0 : 0 ≤ g := by omega
  have gb1 : g ≤ 65535 := by omega
  obtain ⟨p1, hp1⟩ : ∃ x : Int, x = sp * 65536 + dp := ⟨_, rfl⟩
  obtain ⟨p4, hp4⟩ : ∃ x : Int, x = g * 65536 + wi := ⟨_, rfl⟩
  obtain ⟨p5, hp5⟩ : ∃ x : Int, x = su * 65536 + ur := ⟨_, rfl⟩
  have HV : Hid (layB [p1, sq, ak, p4, p5] = strOfNums (wordL (tcpW sp dp sq ak lo fl wi su ur n))) := by
    show _ = _
    unfold layB tcpW
    simp only [pairsL, List.flatMap_cons, List.flatMap_nil, List.append_nil, List.cons_append, List.nil_append]
    rw [show p1 / 65536 = sp by omega, show p1 % 65536 = dp by omega, show p4 / 65536 = 256 * (80 + 4 * (n : Int) + lo) + fl by omega, show p4 % 65536 = wi by omega, show p5 / 65536 = su by omega, show p5 % 65536 = ur by omega]
  have cp1 := fun u => tcpPair_ sp dp u a0 a1 b0 b1
  have cp4 := fun u => tcpPair_ g wi u gb0 gb1 g0 g1
  have cp5 := fun u => tcpPair_ su ur u h0 h1 i0 i1
  rw [← hp1] at cp1
  rw [← hp4] at cp4
  rw [← hp5] at cp5
  have cl : ∀ (u : World) (k : Nat), k < u.heap.size → u.cell? ⟨k, 0, none⟩ = some (.int .u32 p1) → u.cell? ⟨k, 1, none⟩ = some (.int .u32 sq) → u.cell? ⟨k, 2, none⟩ = some (.int .u32 ak) → u.cell? ⟨k, 3, none⟩ = some (.int .u32 p4) → u.cell? ⟨k, 4, none⟩ = some (.int .u32 p5) → Calls Tryz.prog 146 #[.slice (some ⟨k, 0, none⟩) 5 5] u fun e w' => e = .returned (.string (layB [p1, sq, ak, p4, p5])) ∧ Below u.heap.size u w' :=
    fun u k hk h0 h1 h2 h3 h4 => tcpLay_ _ 5 5 [p1, sq, ak, p4, p5] u (row5_ hk h0 h1 h2 h3 h4) (by omega) (by intro x hx; simp at hx; omega)
  have zH := layB_size [p1, sq, ak, p4, p5]
  simp only [List.length_cons, List.length_nil] at zH
  generalize layB [p1, sq, ak, p4, p5] = H at *
  have y1 : ¬ 9223372036854775807 < H.size + n := by omega
  have gw := Lib.hid (show w.heap.size ≤ w.heap.size from Nat.le_refl _)
  clear hq hz hg hp1 hp4 hp5 zH
  go_enter Tryz.func135, Tryz.ntmps135
  go_wp2_with fail
  have A0 := Box10.make w (.int .u16 sp) (.int .u16 dp) (.int .u32 sq) (.int .u32 ak) (.int .u8 lo) (.int .u8 fl) (.int .u16 wi) (.int .u16 su) (.int .u16 ur) (.string o) 149
  have B0 : Below w.heap.size w (w.alloc (.cells #[.int .u16 sp, .int .u16 dp, .int .u32 sq, .int .u32 ak, .int .u8 lo, .int .u8 fl, .int .u16 wi, .int .u16 su, .int .u16 ur, .string o] 149)) := (Below.refl _ _).alloc (Nat.le_refl _) _
  obtain ⟨w1, hw1⟩ : ∃ x, x = w.alloc (.cells #[.int .u16 sp, .int .u16 dp, .int .u32 sq, .int .u32 ak, .int .u8 lo, .int .u8 fl, .int .u16 wi, .int .u16 su, .int .u16 ur, .string o] 149) := ⟨_, rfl⟩
  rw [← hw1] at A0 B0 ⊢
  clear hw1
  have MK := Lib.hid (show ∀ w', Below w1.heap.size w1 w' → w'.cell? ⟨w.heap.size, 0, none⟩ = some (.int .u16 sp) ∧ w'.cell? ⟨w.heap.size, 1, none⟩ = some (.int .u16 dp) ∧ w'.cell? ⟨w.heap.size, 2, none⟩ = some (.int .u32 sq) ∧ w'.cell? ⟨w.heap.size, 3, none⟩ = some (.int .u32 ak) ∧ w'.cell? ⟨w.heap.size, 4, none⟩ = some (.int .u8 lo) ∧ w'.cell? ⟨w.heap.size, 5, none⟩ = some (.int .u8 fl) ∧ w'.cell? ⟨w.heap.size, 6, none⟩ = some (.int .u16 wi) ∧ w'.cell? ⟨w.heap.size, 7, none⟩ = some (.int .u16 su) ∧ w'.cell? ⟨w.heap.size, 8, none⟩ = some (.int .u16 ur) ∧ w'.cell? ⟨w.heap.size, 9, none⟩ = some (.string o) ∧ Below w1.heap.size w1 w' from
    fun w' h => by obtain ⟨_, y0, y1, y2, y3, y4, y5, y6, y7, y8, y9⟩ := A0.on h; exact ⟨y0, y1, y2, y3, y4, y5, y6, y7, y8, y9, h⟩)
  go_region_held3 (fun w' => w'.cell? ⟨w.heap.size, 0, none⟩ = some (.int .u16 sp) ∧ w'.cell? ⟨w.heap.size, 1, none⟩ = some (.int .u16 dp) ∧ w'.cell? ⟨w.heap.size, 2, none⟩ = some (.int .u32 sq) ∧ w'.cell? ⟨w.heap.size, 3, none⟩ = some (.int .u32 ak) ∧ w'.cell? ⟨w.heap.size, 4, none⟩ = some (.int .u8 lo) ∧ w'.cell? ⟨w.heap.size, 5, none⟩ = some (.int .u8 fl) ∧ w'.cell? ⟨w.heap.size, 6, none⟩ = some (.int .u16 wi) ∧ w'.cell? ⟨w.heap.size, 7, none⟩ = some (.int .u16 su) ∧ w'.cell? ⟨w.heap.size, 8, none⟩ = some (.int .u16 ur) ∧ w'.cell? ⟨w.heap.size, 9, none⟩ = some (.string o) ∧ Below w1.heap.size w1 w')
    ((go_split_ands
      refine MK.out _ ?_
      repeat
        first
          | assumption
          | exact Below.refl _ _
          | refine Below.drew ?_
          | refine Below.alloc ?_ ?_ _
          | (refine Below.trans ?_ (hbw.mono ?_))
          | (refine Below.size (B := w1.heap.size) ?_
             assumption)
          | focus (simp; done)
          | focus (simp; omega)))
    ((first
      | (go_at_call_of 147 sp
         refine (cp1 _).mono ?_
         rintro e w2 ⟨rfl, rfl⟩)
      | (go_at_call_of 147 g
         refine (cp4 _).mono ?_
         rintro e w2 ⟨rfl, rfl⟩)
      | (go_at_call_of 147 su
         refine (cp5 _).mono ?_
         rintro e w2 ⟨rfl, rfl⟩)
      | (go_at_call 146
         refine (cl _ _ ?_ ?_ ?_ ?_ ?_ ?_).mono ?_
         · simp
         · simp [go_sem]
         · simp [go_sem]
         · simp [go_sem]
         · simp [go_sem]
         · simp [go_sem]
         rintro e w2 ⟨rfl, hbw⟩)))
  rename_i HH
  have b2 := HH.2.2.2.2.2.2.2.2.2.2
  have B2 := B0.trans (b2.mono B0.size)
  clear HH b2 MK A0 B0 cp1 cp4 cp5 cl
  go_wp2
  go_ret
  rw [HV.out]
  exact ⟨rfl, B2⟩
end Go.Proofs.YtbpicngbjggblaaGreatDoor
namespace Go.Proofs.YtbpicngbjggblaaGreatDoor
set_option maxHeartbeats 2000000
set_option maxRecDepth 100000
set_option linter.unusedVariables false
set_option linter.unusedSimpArgs false
open Go.ChangeShapes Go.WideShapes Go.ChangeAt Go.RowKit Go.PlainAid
attribute [local go_sem ↓] Go.wp_at_zero Go.wp_at_succ
theorem tcpPut_ (sp dp sq ak lo fl wi su ur : Int) (o p : ByteArray) (w : World) (a0 : 0 ≤ sp) (a1 : sp ≤ 65535) (b0 : 0 ≤ dp) (b1 : dp ≤ 65535) (c0 : 0 ≤ sq) (c1 : sq ≤ 4294967295) (d0 : 0 ≤ ak) (d1 : ak ≤ 4294967295) (e0 : 0 ≤ lo) (e1 : lo ≤ 255) (f0 : 0 ≤ fl) (f1 : fl ≤ 255)
    (g0 : 0 ≤ wi) (g1 : wi ≤ 65535) (h0 : 0 ≤ su) (h1 : su ≤ 65535) (i0 : 0 ≤ ur) (i1 : ur ≤ 65535) (ho : o.size ≤ 1000000) (hp : p.size ≤ 1000000) :
    Cw_ 104 #[.agg #[.int .u16 sp, .int .u16 dp, .int .u32 sq, .int .u32 ak, .int .u8 lo, .int .u8 fl, .int .u16 wi, .int .u16 su, .int .u16 ur, .string o], .string p] (.tuple #[.string (tPutB sp dp sq ak lo fl wi su ur o p), .int .i64 (tE o.size lo)]) w := by
  obtain ⟨n, hn⟩ : ∃ n, o.size = n := ⟨_, rfl⟩
  rw [hn] at ho
  by_cases hE : tE n lo = 0
  rotate_left
  · have hE2 : tE n lo = 2 := by unfold tE at hE ⊢; split <;> simp_all
    have HE : Hid (tE o.size lo = 2) := by show _ = _; rw [hn]; exact hE2
    have HB : Hid (tPutB sp dp sq ak lo fl wi su ur o p = ⟨#[]⟩) := by show _ = _; unfold tPutB; rw [HE.out]; rfl
    have key : ∃ x y z : Bool, decide ((40 : Int) < (n : Int)) = x ∧ ((n : Int) % 4 != 0) = y ∧ decide ((15 : Int) < lo) = z ∧ (x = true ∨ (x = false ∧ y = true) ∨ (x = false ∧ y = false ∧ z = true)) := by
      refine ⟨_, _, _, rfl, rfl, rfl, ?_⟩
      simp only [decide_eq_true_eq, decide_eq_false_iff_not, bne_iff_ne, ne_eq, bne_eq_false_iff_eq]
      unfold tE at hE2
      split at hE2
      · omega
      · omega
    obtain ⟨x, y, z, k1, k2, k3, hk⟩ := key
    clear hE hE2
    rcases hk with rfl | ⟨rfl, rfl⟩ | ⟨rfl, rfl, rfl⟩
    all_goals
      go_enter Tryz.func104, Tryz.ntmps104
      go_wp2
      go_ret2
      rw [HE.out, HB.out]
      exact ⟨rfl, (Below.refl _ _).alloc (Nat.le_refl _) _⟩
  have hh : n ≤ 40 ∧ n % 4 = 0 ∧ lo ≤ 15 := by
    unfold tE at hE
    split at hE
    · omega
    · omega
  obtain ⟨j1, j2, j3⟩ := hh
  have HE : Hid (tE o.size lo = 0) := by show _ = _; rw [hn]; exact hE
  have HB : Hid (strOfNums (wordL (tcpW sp dp sq ak lo fl wi su ur o.size)) ++ o ++ p = tPutB sp dp sq ak lo fl wi su ur o p) := by show _ = _; unfold tPutB; rw [HE.out, if_pos rfl]; rfl
  have k1 : decide ((40 : Int) < (n : Int)) = false := by simp; omega
  have k2 : (n : Int) % 4 = 0 := by omega
  have k3 : decide ((15 : Int) < lo) = false := by simp; omega
  have ch := fun u => tcpHead_ sp dp sq ak lo fl wi su ur o u a0 a1 b0 b1 c0 c1 d0 d1 e0 j3 f0 f1 g0 g1 h0 h1 i0 i1 (by omega) (by omega)
  have zH : (strOfNums (wordL (tcpW sp dp sq ak lo fl wi su ur o.size)) ++ o).size = 20 + n := by rw [ByteArray.size_append, size_W, hn]; rfl
  generalize strOfNums (wordL (tcpW sp dp sq ak lo fl wi su ur o.size)) ++ o = H at *
  have q1 : H.size + p.size ≤ 9223372036854775807 := by omega
  clear zH hE j1 j2 j3
  go_enter Tryz.func104, Tryz.ntmps104
  go_wp2_with fail
  refine (ch _).mono ?_; rintro e w2 ⟨rfl, b2⟩
  have B2 : Below w.heap.size w w2 := ((Below.refl _ _).alloc (Nat.le_refl _) _).trans (b2.mono (by simp))
  clear b2 ch
  go_wp2
  go_ret2
  rw [HE.out, HB.out]
  exact ⟨rfl, B2⟩
end Go.Proofs.YtbpicngbjggblaaGreatDoor
