/- Contracts of package tcp: get16, get32, pair, lay, beside, read, head. -/
import Derived.Test.YtckcdmijhemchaaTcpM
import Derived.Test.YtckcdmijhemchaaShelfStr
import Derived.Test.YtckcdmijhemchaaSumsB
import Derived.Test.YtckcdmijhemchaaFieldsE
import Derived.Test.YtckcdmijhemchaaLead
import Derived.Test.YtckcdmijhemchaaIpI
import Derived.Lib.VarintBits
import Derived.Deep.RegionHeld3
namespace Go.Proofs.Ytckcdmijhemchaa
set_option linter.unusedVariables false
set_option linter.unusedSimpArgs false
open Go.ChangeShapes Go.WideShapes Go.ChangeAt Go.RowKit Go.PlainAid
theorem u32_pair (a b : Int) (ha : 0 ≤ a) (ha' : a ≤ 65535) (hb : 0 ≤ b) (hb' : b ≤ 65535) : bits .or .u32 (a * 65536) b = a * 65536 + b := by
  rw [u32_or _ _ (by omega) (by omega) hb (by omega)]
  have h := Nat.two_pow_add_eq_or_of_lt (i := 16) (b := b.toNat) (by omega) a.toNat
  have e : (a * 65536).toNat = 2 ^ 16 * a.toNat := by omega
  rw [e, ← h]
  omega
theorem u16_h12 (a b : Int) (ha : 0 ≤ a) (ha' : a ≤ 15) (hb : 0 ≤ b) (hb' : b ≤ 15) : bits .or .u16 (a * 4096) (b * 256) = (a * 16 + b) * 256 := by
  rw [u16_or _ _ (by omega) (by omega) (by omega) (by omega)]
  have h := Nat.two_pow_add_eq_or_of_lt (i := 12) (b := b.toNat * 256) (by omega) a.toNat
  have e : (a * 4096).toNat = 2 ^ 12 * a.toNat := by omega
  have e' : (b * 256).toNat = b.toNat * 256 := by omega
  rw [e, e', ← h]
  omega
theorem u8_mask15 (x : Int) (h0 : 0 ≤ x) (h1 : x ≤ 255) : bits .and .u8 x 15 = x % 16 := bits_mask .u8 8 (by decide) wraps_u8 4 (by decide) x h0 (by omega)
set_option maxHeartbeats 400000 in
theorem tcpGet16_ (s : ByteArray) (k : Nat) (w : World) (hs : s.size ≤ maxLen) (h : k + 2 ≤ s.size) :
    Calls Try.prog 40 #[.string s, .int .i64 (k : Int)] w fun e w' => e = .returned (.int .u16 (g16 s k)) ∧ Below w.heap.size w w' := by
  go_enter Try.func40, Try.ntmps40
  go_wp2_with fail
  refine (get16_yes s k _ hs h).mono ?_; rintro e w' ⟨rfl, B⟩
  go_wp2
  go_ret
  exact ⟨rfl, B⟩
set_option maxHeartbeats 400000 in
theorem tcpGet32_ (s : ByteArray) (k : Nat) (w : World) (hs : s.size ≤ maxLen) (h : k + 4 ≤ s.size) :
    Calls Try.prog 41 #[.string s, .int .i64 (k : Int)] w fun e w' => e = .returned (.int .u32 (g32 s k)) ∧ Below w.heap.size w w' := by
  go_enter Try.func41, Try.ntmps41
  go_wp2_with fail
  refine (get32_yes s k _ hs h).mono ?_; rintro e w' ⟨rfl, B⟩
  go_wp2
  go_ret
  exact ⟨rfl, B⟩
set_option maxHeartbeats 400000 in
theorem tcpPair_ (a b : Int) (w : World) (a0 : 0 ≤ a) (a1 : a ≤ 65535) (b0 : 0 ≤ b) (b1 : b ≤ 65535) :
    Calls Try.prog 46 #[.int .u16 a, .int .u16 b] w fun e w' => e = .returned (.int .u32 (a * 65536 + b)) ∧ w = w' := by
  have x := u32_pair a b a0 a1 b0 b1
  have c1 : IntKind.u32.wrap a = a := IntWalk.u32_in _ (by omega)
  have c2 : IntKind.u32.wrap b = b := IntWalk.u32_in _ (by omega)
  have c3 : IntKind.u32.wrap (a * 65536) = a * 65536 := IntWalk.u32_in _ (by omega)
  go_enter Try.func46, Try.ntmps46
  go_wp2
  go_ret
  exact ⟨rfl, rfl⟩
/-- Numbers of 32 bits, as words of 16. -/
def pairsL (zs : List Int) : List Int := zs.flatMap fun n => [n / 65536, n % 65536]
theorem pairsL_snoc (zs : List Int) (n : Int) : pairsL (zs ++ [n]) = pairsL zs ++ [n / 65536, n % 65536] := by simp [pairsL]
theorem pairsL_length (zs : List Int) : (pairsL zs).length = 2 * zs.length := by
  induction zs with
  | nil => rfl
  | cons z zs ih => simp [pairsL] at *; omega
theorem wordL_app (a b : List Int) : wordL (a ++ b) = wordL a ++ wordL b := by simp [wordL]
def layB (zs : List Int) : ByteArray := strOfNums (wordL (pairsL zs))
theorem layB_snoc (zs : List Int) (n : Int) : layB (zs ++ [n]) = layB zs ++ strOfNums (wordL [n / 65536, n % 65536]) := by
  unfold layB; rw [pairsL_snoc, wordL_app, strOfNums_append]
theorem layB_size (zs : List Int) : (layB zs).size = 4 * zs.length := by unfold layB; rw [size_W, pairsL_length]; omega
set_option maxRecDepth 100000 in
set_option maxHeartbeats 1000000 in
theorem tcpLay_ (a : Option Addr) (len cap : Nat) (zs : List Int) (w : World) (h : Row .u32 w a len zs) (hl : len ≤ 1000) (hr : ∀ n ∈ zs, 0 ≤ n ∧ n ≤ 4294967295) :
    Calls Try.prog 45 #[.slice a len cap] w fun e w' => e = .returned (.string (layB zs)) ∧ Below w.heap.size w w' := by
  have ROW := Lib.hid h
  have HL := Lib.hid h.1
  have HR := Lib.hid hr
  clear h hr
  go_enter Try.func45, Try.ntmps45
  go_wp2_with fail
  go_loopw [3, 8] (fun v si wr => ∃ i : Nat, i ≤ len ∧ si = .int .i64 i ∧ v = .string (layB (zs.take i)) ∧ Below w.heap.size w wr) (fun _ si _ => len - (intOf si).toNat)
  case atStart => exact ⟨0, Nat.zero_le _, rfl, rfl, Below.refl _ _⟩
  case round =>
    obtain ⟨i, hi, rfl, rfl, B⟩ := hrel
    by_cases hlt : i < len
    · obtain ⟨b, off, rfl, hb, hc⟩ : ∃ b off, a = some ⟨b, off, none⟩ ∧ b < w.heap.size ∧ ∀ t, t < len → w.cell? ⟨b, off + t, none⟩ = some (.int .u32 (zs.getD t 0)) := by
        rcases ROW.out.2 with h | h
        · omega
        · exact h
      have hcell := (B.cell (by exact hb)).trans (hc i hlt)
      have HT := Lib.hid (take_snoc_getD zs i (by rw [HL.out]; exact hlt))
      have hn0 : 0 ≤ zs.getD i 0 ∧ zs.getD i 0 ≤ 4294967295 := by
        have : zs.getD i 0 = zs[i]'(by rw [HL.out]; exact hlt) := by simp [List.getD, show i < zs.length by rw [HL.out]; exact hlt]
        rw [this]; exact HR.out _ (List.getElem_mem _)
      obtain ⟨n, hn⟩ : ∃ n, n = zs.getD i 0 := ⟨_, rfl⟩
      rw [← hn] at hcell HT hn0
      obtain ⟨n0, n1⟩ := hn0
      have zs1 := layB_size (zs.take i)
      have zt : (strOfNums (wordL [n / 65536, n % 65536])).size = 4 := by rw [size_W]; rfl
      have HS : Hid (layB (zs.take i) ++ strOfNums (wordL [n / 65536, n % 65536]) = layB (zs.take (i + 1))) := by show _ = _; rw [HT.out, layB_snoc]
      rw [List.length_take, HL.out] at zs1
      have c4 := fun u => put32 n u n0 n1
      generalize layB (zs.take i) = S at *
      generalize strOfNums (wordL [n / 65536, n % 65536]) = T at *
      have q : S.size + T.size ≤ 9223372036854775807 := by omega
      clear hc hn zs1 zt HT
      go_wp2_with fail
      refine (c4 _).mono ?_; rintro e w1 ⟨rfl, B1⟩
      have B2 := B.trans (B1.mono B.size)
      clear B B1 hcell c4
      go_wp2
      go_roundw
      case rel => exact ⟨i + 1, by omega, by go_num, by rw [HS.out], B2⟩
      case measure => simp [intOf]; omega
    · have HT : Hid (zs.take i = zs) := by have := HL.out; show _ = _; rw [List.take_of_length_le]; omega
      go_wp2
      go_ret
      exact ⟨by rw [HT.out]; rfl, B⟩
set_option maxHeartbeats 1000000 in
set_option maxRecDepth 100000 in
theorem tcpBeside_ (a b : Int) (s : ByteArray) (w : World) (a0 : 0 ≤ a) (a1 : a ≤ 4294967295) (b0 : 0 ≤ b) (b1 : b ≤ 4294967295) (hs : s.size ≤ 1000000) :
    Calls Try.prog 26 #[.int .u32 a, .int .u32 b, .string s] w fun e w' => e = .returned (.string (pseuB a b 6 s.size)) ∧ Below w.heap.size w w' := by
  obtain ⟨z, hz⟩ : ∃ z : Int, z = (s.size : Int) % 65536 := ⟨_, rfl⟩
  have z0 : 0 ≤ z := by omega
  have z1 : z ≤ 65535 := by omega
  have e1 : (s.size : Int) % 65536 = z := hz.symm
  have e2 : IntKind.u16.wrap (s.size : Int) = z := by rw [IntKind.wrap_u16]; exact e1
  obtain ⟨y, hy⟩ : ∃ y : Int, y = 6 * 65536 + z := ⟨_, rfl⟩
  have HV : Hid (layB [a, b, y] = pseuB a b 6 s.size) := by
    show _ = _
    unfold layB pseuB
    simp only [pairsL, List.flatMap_cons, List.flatMap_nil, List.append_nil, List.cons_append, List.nil_append]
    rw [hy, hz, show (6 * 65536 + (s.size : Int) % 65536) / 65536 = 6 by omega, show (6 * 65536 + (s.size : Int) % 65536) % 65536 = (s.size : Int) % 65536 by omega]
  have cp := fun u => tcpPair_ 6 z u (by omega) (by omega) z0 z1
  rw [← hy] at cp
  have cl : ∀ (u : World) (k : Nat), k < u.heap.size → u.cell? ⟨k, 0, none⟩ = some (.int .u32 a) → u.cell? ⟨k, 1, none⟩ = some (.int .u32 b) → u.cell? ⟨k, 2, none⟩ = some (.int .u32 y) → Calls Try.prog 45 #[.slice (some ⟨k, 0, none⟩) 3 3] u fun e w' => e = .returned (.string (layB [a, b, y])) ∧ Below u.heap.size u w' :=
    fun u k hk h0 h1 h2 => tcpLay_ _ 3 3 [a, b, y] u (row3_ hk h0 h1 h2) (by omega) (by intro x hx; simp at hx; omega)
  generalize layB [a, b, y] = P at *
  clear hz hy
  go_enter Try.func26, Try.ntmps26
  go_wp2_with fail
  refine (cp _).mono ?_; rintro e w1 ⟨rfl, rfl⟩
  go_wp2_with fail
  refine (cl _ _ (by simp) (by simp [go_sem]) (by simp [go_sem]) (by simp [go_sem])).mono ?_; rintro e w2 ⟨rfl, b2⟩
  have B2 : Below w.heap.size w w2 := ((Below.refl _ _).alloc (Nat.le_refl _) _).trans (b2.mono (by simp))
  clear b2 cl cp
  go_wp2
  go_ret
  rw [HV.out]
  exact ⟨rfl, B2⟩
attribute [local go_sem ↓] Go.wp_at_zero Go.wp_at_succ
set_option maxHeartbeats 2000000 in
set_option maxRecDepth 100000 in
theorem tcpRead_ (s : ByteArray) (w : World) (hs : s.size ≤ 100) (h : 20 ≤ s.size) :
    Calls Try.prog 18 #[.string s] w fun e w' => e = .returned (.agg #[.int .u16 (g16 s 0), .int .u16 (g16 s 2), .int .u32 (g32 s 4), .int .u32 (g32 s 8), .int .u8 (bt s 12 % 16), .int .u8 (bt s 13), .int .u16 (g16 s 14), .int .u16 (g16 s 16), .int .u16 (g16 s 18), .string (s.extract 20 s.size)]) ∧ Below w.heap.size w w' := by
  have hb := get_bt s
  have hs2 : s.size ≤ maxLen := by unfold maxLen; omega
  have i12 : (12 : Int) < (s.size : Int) := by omega
  have i13 : (13 : Int) < (s.size : Int) := by omega
  have i20 : (20 : Int) ≤ (s.size : Int) := by omega
  have HZ := size_extract' s 20 s.size h (Nat.le_refl _)
  have a1 := u8_mask15 (bt s 12) (bt_nonneg s 12) (bt_le s 12)
  obtain ⟨t, ht⟩ : ∃ t, t = s.extract 20 s.size := ⟨_, rfl⟩
  go_enter Try.func18, Try.ntmps18
  go_wp2_with fail
  obtain ⟨w1, hw1⟩ : ∃ w1, w1 = w.alloc (.cells #[.int .u16 0, .int .u16 0, .int .u32 0, .int .u32 0, .int .u8 0, .int .u8 0, .int .u16 0, .int .u16 0, .int .u16 0, .string ⟨#[]⟩] 25) := ⟨_, rfl⟩
  rw [← hw1]
  refine region_lead (B := w1.heap.size) 23 1 (by kernel_rfl) (by kernel_rfl) (by kernel_rfl) (by kernel_rfl) ?_
  simp only [List.take_succ_cons, List.take_zero]
  repeat (go_big_quiet_step (first
    | (go_at_call_of 40 (0 : Int); exact later_of _ (Nat.le_refl _) (tcpGet16_ s 0 _ hs2 (by omega)))
    | (go_at_call_of 40 (2 : Int); exact later_of _ (Nat.le_refl _) (tcpGet16_ s 2 _ hs2 (by omega)))
    | (go_at_call_of 41 (4 : Int); exact later_of _ (Nat.le_refl _) (tcpGet32_ s 4 _ hs2 (by omega)))
    | (go_at_call_of 41 (8 : Int); exact later_of _ (Nat.le_refl _) (tcpGet32_ s 8 _ hs2 (by omega)))
    | (go_at_call_of 40 (14 : Int); exact later_of _ (Nat.le_refl _) (tcpGet16_ s 14 _ hs2 (by omega)))
    | (go_at_call_of 40 (16 : Int); exact later_of _ (Nat.le_refl _) (tcpGet16_ s 16 _ hs2 (by omega)))
    | (go_at_call_of 40 (18 : Int); exact later_of _ (Nat.le_refl _) (tcpGet16_ s 18 _ hs2 (by omega)))
    | (go_at_call 19; exact later_of _ (Nat.le_refl _) (clone_ _ _ (by rw [HZ]; omega)))))
  refine lead_end (by kernel_rfl) (by kernel_rfl) rfl fun w2 b2 K hK => ?_
  subst hw1
  obtain ⟨hc, hf⟩ := bcell4_ b2
  have hz : w.heap.size < w2.heap.size := by have := b2.size; simp at this; omega
  have B2 : Below w.heap.size w w2 := ((Below.refl _ _).alloc (Nat.le_refl _) _).trans (b2.mono (by simp))
  have hz2 := B2.size
  go_simp
  refine hK.out _ _ ?_
  refine box10_ (b := w.heap.size) (box10_is rfl hc) B2 (Nat.le_refl _) fun w9 x0 x1 x2 x3 x4 x5 x6 x7 x8 x9 B9 _ _ => ?_
  clear hc hf b2 B2 hK K
  go_wp2
  refine bodyPost_ret (v := .agg #[.int .u16 (g16 s 0), .int .u16 (g16 s 2), .int .u32 (g32 s 4), .int .u32 (g32 s 8), .int .u8 (bt s 12 % 16), .int .u8 (bt s 13), .int .u16 (g16 s 14), .int .u16 (g16 s 16), .int .u16 (g16 s 18), .string (s.extract 20 s.size)]) (by simp [results, Try.results18, go_sem, x0, x1, x2, x3, x4, x5, x6, x7, x8, x9]) rfl ?_
  exact ⟨rfl, B9⟩
end Go.Proofs.Ytckcdmijhemchaa
