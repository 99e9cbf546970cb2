/- Texts of this proof, together: TcpK, TcpL. -/
import Derived.Test.YtidkgnanfhdhdaaDoorGh
import Derived.Test.YtidkgnanfhdhdaaDoorGc
import Derived.Test.YtidkgnanfhdhdaaDoorGb
import Derived.Test.YtidkgnanfhdhdaaDoorGa
import Derived.Test.YtidkgnanfhdhdaaDoorGe
import Derived.Lib.VarintBits
import Derived.Deep.RegionHeld3
namespace Go.Proofs.YtidkgnanfhdhdaaDoor
set_option linter.unusedVariables false
set_option linter.unusedSimpArgs false
open Go.ChangeShapes Go.WideShapes Go.ChangeAt Go.RowKit Go.PlainAid
theorem u8_mask15 (x : Int) (h0 : 0 ≤ x) (h1 : x ≤ 255) : bits .and .u8 x 15 = x % 16 := bits_mask .u8 8 (by decide) wraps_u8 4 (by decide) x h0 (by omega)
set_option maxHeartbeats 400000 in
theorem tcpGet16_ (s : ByteArray) (k : Nat) (w : World) (hs : s.size ≤ maxLen) (h : k + 2 ≤ s.size) :
    Calls Tryd.prog 73 #[.string s, .int .i64 (k : Int)] w fun e w' => e = .returned (.int .u16 (g16 s k)) ∧ Below w.heap.size w w' := by
  go_enter Tryd.func73, Tryd.ntmps73
  go_wp2_with fail
  refine (get16_yes s k _ hs h).mono ?_; rintro e w' ⟨rfl, B⟩
  go_wp2
  go_ret
  exact ⟨rfl, B⟩
set_option maxHeartbeats 400000 in
theorem tcpGet32_ (s : ByteArray) (k : Nat) (w : World) (hs : s.size ≤ maxLen) (h : k + 4 ≤ s.size) :
    Calls Tryd.prog 74 #[.string s, .int .i64 (k : Int)] w fun e w' => e = .returned (.int .u32 (g32 s k)) ∧ Below w.heap.size w w' := by
  go_enter Tryd.func74, Tryd.ntmps74
  go_wp2_with fail
  refine (get32_yes s k _ hs h).mono ?_; rintro e w' ⟨rfl, B⟩
  go_wp2
  go_ret
  exact ⟨rfl, B⟩
attribute [local go_sem ↓] Go.wp_at_zero Go.wp_at_succ
set_option maxHeartbeats 2000000 in
set_option maxRecDepth 100000 in
theorem tcpRead_ (s : ByteArray) (w : World) (hs : s.size ≤ 100) (h : 20 ≤ s.size) :
    Calls Tryd.prog 56 #[.string s] w fun e w' => e = .returned (.agg #[.int .u16 (g16 s 0), .int .u16 (g16 s 2), .int .u32 (g32 s 4), .int .u32 (g32 s 8), .int .u8 (bt s 12 % 16), .int .u8 (bt s 13), .int .u16 (g16 s 14), .int .u16 (g16 s 16), .int .u16 (g16 s 18), .string (s.extract 20 s.size)]) ∧ Below w.heap.size w w' := by
  have hb := get_bt s
  have hs2 : s.size ≤ maxLen := by unfold maxLen; omega
  have i12 : (12 : Int) < (s.size : Int) := by omega
  have i13 : (13 : Int) < (s.size : Int) := by omega
  have i20 : (20 : Int) ≤ (s.size : Int) := by omega
  have HZ := size_extract' s 20 s.size h (Nat.le_refl _)
  have a1 := u8_mask15 (bt s 12) (bt_nonneg s 12) (bt_le s 12)
  obtain ⟨t, ht⟩ : ∃ t, t = s.extract 20 s.size := ⟨_, rfl⟩
  go_enter Tryd.func56, Tryd.ntmps56
  go_wp2_with fail
  obtain ⟨w1, hw1⟩ : ∃ w1, w1 = w.alloc (.cells #[.int .u16 0, .int .u16 0, .int .u32 0, .int .u32 0, .int .u8 0, .int .u8 0, .int .u16 0, .int .u16 0, .int .u16 0, .string ⟨#[]⟩] 72) := ⟨_, rfl⟩
  rw [← hw1]
  refine region_lead (B := w1.heap.size) 23 1 (by kernel_rfl) (by kernel_rfl) (by kernel_rfl) (by kernel_rfl) ?_
  simp only [List.take_succ_cons, List.take_zero]
  repeat (go_big_quiet_step (first
    | (go_at_call_of 73 (0 : Int); exact later_of _ (Nat.le_refl _) (tcpGet16_ s 0 _ hs2 (by omega)))
    | (go_at_call_of 73 (2 : Int); exact later_of _ (Nat.le_refl _) (tcpGet16_ s 2 _ hs2 (by omega)))
    | (go_at_call_of 74 (4 : Int); exact later_of _ (Nat.le_refl _) (tcpGet32_ s 4 _ hs2 (by omega)))
    | (go_at_call_of 74 (8 : Int); exact later_of _ (Nat.le_refl _) (tcpGet32_ s 8 _ hs2 (by omega)))
    | (go_at_call_of 73 (14 : Int); exact later_of _ (Nat.le_refl _) (tcpGet16_ s 14 _ hs2 (by omega)))
    | (go_at_call_of 73 (16 : Int); exact later_of _ (Nat.le_refl _) (tcpGet16_ s 16 _ hs2 (by omega)))
    | (go_at_call_of 73 (18 : Int); exact later_of _ (Nat.le_refl _) (tcpGet16_ s 18 _ hs2 (by omega)))
    | (go_at_call 31; exact later_of _ (Nat.le_refl _) (clone_ _ _ (by rw [HZ]; omega)))))
  refine lead_end (by kernel_rfl) (by kernel_rfl) rfl fun w2 b2 K hK => ?_
  subst hw1
  obtain ⟨hc, hf⟩ := bcell4_ b2
  have hz : w.heap.size < w2.heap.size := by have := b2.size; simp at this; omega
  have B2 : Below w.heap.size w w2 := ((Below.refl _ _).alloc (Nat.le_refl _) _).trans (b2.mono (by simp))
  have hz2 := B2.size
  go_simp
  refine hK.out _ _ ?_
  refine box10_ (b := w.heap.size) (box10_is rfl hc) B2 (Nat.le_refl _) fun w9 x0 x1 x2 x3 x4 x5 x6 x7 x8 x9 B9 _ _ => ?_
  clear hc hf b2 B2 hK K
  go_wp2
  refine bodyPost_ret (v := .agg #[.int .u16 (g16 s 0), .int .u16 (g16 s 2), .int .u32 (g32 s 4), .int .u32 (g32 s 8), .int .u8 (bt s 12 % 16), .int .u8 (bt s 13), .int .u16 (g16 s 14), .int .u16 (g16 s 16), .int .u16 (g16 s 18), .string (s.extract 20 s.size)]) (by simp [results, Tryd.results56, go_sem, x0, x1, x2, x3, x4, x5, x6, x7, x8, x9]) rfl ?_
  exact ⟨rfl, B9⟩
end Go.Proofs.YtidkgnanfhdhdaaDoor

namespace Go.Proofs.YtidkgnanfhdhdaaDoor
set_option linter.unusedVariables false
set_option linter.unusedSimpArgs false
open Go.ChangeShapes Go.WideShapes Go.ChangeAt Go.RowKit Go.PlainAid
attribute [local go_sem ↓] Go.wp_at_zero Go.wp_at_succ
set_option maxHeartbeats 2000000 in
set_option maxRecDepth 100000 in
theorem tcpParse_ (s : ByteArray) (w : World) (hs : s.size ≤ 1000000) :
    Calls Tryd.prog 32 #[.string s] w fun e w' => e = .returned (.tuple #[.agg #[.int .u16 (tI s (g16 s 0)), .int .u16 (tI s (g16 s 2)), .int .u32 (tI s (g32 s 4)), .int .u32 (tI s (g32 s 8)), .int .u8 (tI s (bt s 12 % 16)), .int .u8 (tI s (bt s 13)), .int .u16 (tI s (g16 s 14)), .int .u16 (tI s (g16 s 16)), .int .u16 (tI s (g16 s 18)), .string (tO s)], .string (tP s), .bool (tOk s)]) ∧ Below w.heap.size w w' := by
  have hs2 : s.size ≤ maxLen := by unfold maxLen; omega
  have hb := get_bt s
  by_cases h20 : s.size < 20
  · have hk : tOk s = false := by unfold tOk; simp; omega
    obtain ⟨y1, y2, y3⟩ := tOk_no hk
    rw [y1, y1, y1, y1, y1, y1, y1, y1, y1, y2, y3, hk]
    have e1 : decide ((s.size : Int) < 20) = true := by simp; omega
    clear h20 hk y1 y2 y3 hb
    go_enter Tryd.func32, Tryd.ntmps32
    go_wp2
    refine bodyPost_ret (v := .tuple #[.agg #[.int .u16 0, .int .u16 0, .int .u32 0, .int .u32 0, .int .u8 0, .int .u8 0, .int .u16 0, .int .u16 0, .int .u16 0, .string ⟨#[]⟩], .string ⟨#[]⟩, .bool false]) (by simp [results, Tryd.results32, go_sem]) rfl ?_
    exact ⟨rfl, (Below.refl _ _).alloc (Nat.le_refl _) _⟩
  have e1 : decide ((s.size : Int) < 20) = false := by simp; omega
  have b0 := bt_nonneg s 12
  have b1 := bt_le s 12
  obtain ⟨n, hn⟩ : ∃ n, tOwn s = n := ⟨_, rfl⟩
  have e4 : bt s 12 / 16 * 4 = (n : Int) := by rw [← hn]; unfold tOwn; omega
  have n60 : n ≤ 60 := by omega
  have i12 : (12 : Int) < (s.size : Int) := by omega
  by_cases h12 : n < 20 ∨ s.size < n
  · have hk : tOk s = false := by unfold tOk; rw [hn]; simp; omega
    obtain ⟨y1, y2, y3⟩ := tOk_no hk
    rw [y1, y1, y1, y1, y1, y1, y1, y1, y1, y2, y3, hk]
    have key : ∃ x y : Bool, decide ((n : Int) < 20) = x ∧ decide (s.size < n) = y ∧ (x = true ∨ (x = false ∧ y = true)) := by
      refine ⟨_, _, rfl, rfl, ?_⟩
      simp only [decide_eq_true_eq, decide_eq_false_iff_not]
      omega
    obtain ⟨x, y, k1, k2, hxy⟩ := key
    clear h20 hk y1 y2 y3 hn h12
    rcases hxy with rfl | ⟨rfl, rfl⟩
    all_goals
      go_enter Tryd.func32, Tryd.ntmps32
      go_wp2
      refine bodyPost_ret (v := .tuple #[.agg #[.int .u16 0, .int .u16 0, .int .u32 0, .int .u32 0, .int .u8 0, .int .u8 0, .int .u16 0, .int .u16 0, .int .u16 0, .string ⟨#[]⟩], .string ⟨#[]⟩, .bool false]) (by simp [results, Tryd.results32, go_sem]) rfl ?_
      exact ⟨rfl, (Below.refl _ _).alloc (Nat.le_refl _) _⟩
  have h1 : 20 ≤ n := by omega
  have fs : n ≤ s.size := by omega
  have e2 : decide ((n : Int) < 20) = false := by simp; omega
  have e3 : decide (s.size < n) = false := by simp; omega
  have hk : tOk s = true := by unfold tOk; rw [hn]; simp; omega
  obtain ⟨_, _, _, y1, y2, y3⟩ := tOk_yes hk
  rw [y1, y1, y1, y1, y1, y1, y1, y1, y1, y2, y3, hk, hn]
  have zt := size_extract' s 0 n (Nat.zero_le _) fs
  have cd := fun u => tcpRead_ (s.extract 0 n) u (by omega) (by omega)
  rw [bt_ext0 s n 12 (by omega) fs, bt_ext0 s n 13 (by omega) fs, g16_ext0 s n 0 (by omega) fs, g16_ext0 s n 2 (by omega) fs, g16_ext0 s n 14 (by omega) fs, g16_ext0 s n 16 (by omega) fs, g16_ext0 s n 18 (by omega) fs, g32_ext0 s n 4 (by omega) fs, g32_ext0 s n 8 (by omega) fs, zt, Nat.sub_zero, ext_ext0] at cd
  have zp := size_extract' s n s.size fs (Nat.le_refl _)
  have cc := fun u => clone_ (s.extract n s.size) u (by omega)
  have i1 : (n : Int) ≤ (s.size : Int) := by omega
  generalize g16 s 0 = v0 at *
  generalize g16 s 2 = v1 at *
  generalize g32 s 4 = v2 at *
  generalize g32 s 8 = v3 at *
  generalize g16 s 14 = v6 at *
  generalize g16 s 16 = v7 at *
  generalize g16 s 18 = v8 at *
  obtain ⟨v4, hv4⟩ : ∃ v, bt s 12 % 16 = v := ⟨_, rfl⟩
  obtain ⟨v5, hv5⟩ : ∃ v, bt s 13 = v := ⟨_, rfl⟩
  rw [hv4, hv5] at cd ⊢
  obtain ⟨x, hx⟩ : ∃ x, x = s.extract 20 n := ⟨_, rfl⟩
  rw [← hx] at cd ⊢
  clear hx hv4 hv5 h20 hk y1 y2 y3 hn zt zp h12
  go_enter Tryd.func32, Tryd.ntmps32
  go_wp2_with fail
  obtain ⟨w0, hw0⟩ : ∃ w0, w0 = w.alloc (.cells #[.int .u16 0, .int .u16 0, .int .u32 0, .int .u32 0, .int .u8 0, .int .u8 0, .int .u16 0, .int .u16 0, .int .u16 0, .string ⟨#[]⟩] 72) := ⟨_, rfl⟩
  rw [← hw0]
  refine region_lead (B := w0.heap.size) 8 3 (by kernel_rfl) (by kernel_rfl) (by kernel_rfl) (by kernel_rfl) ?_
  simp only [List.take_succ_cons, List.take_zero]
  repeat (go_big_quiet_step (first
    | (go_at_call 56; exact later_of _ (Nat.le_refl _) (cd _))
    | (go_at_call 31; exact later_of _ (Nat.le_refl _) (cc _))))
  refine lead_tail (fin := #[true, true, true, true, true, true, true, true, false, false, false]) (by kernel_rfl) fun f w3 b3 => ?_
  subst hw0
  obtain ⟨hc, hf⟩ := bcell4_ b3
  have hz : w.heap.size < w3.heap.size := by have := b3.size; simp at this; omega
  have B2 : Below w.heap.size w w3 := ((Below.refl _ _).alloc (Nat.le_refl _) _).trans (b3.mono (by simp))
  have hz2 := B2.size
  refine wpAny_ready (rs := [8]) (by kernel_rfl) (by simp) (AllReady.cons rfl (fun K hK => ?_) AllReady.nil)
  go_simp
  refine hK _ _ ?_
  clear hK K
  refine box10_ (b := w.heap.size) (box10_is rfl hc) B2 (Nat.le_refl _) fun w9 x0 x1 x2 x3 x4 x5 x6 x7 x8 x9 B9 _ _ => ?_
  clear hc hf b3 B2
  refine wpAny_ready (rs := [9]) (by kernel_rfl) (by simp) (AllReady.cons rfl (fun K hK => ?_) AllReady.nil)
  go_simp
  refine hK _ _ ?_
  clear hK K
  refine wpAny_ready (rs := [10]) (by kernel_rfl) (by simp) (AllReady.cons rfl (fun K hK => ?_) AllReady.nil)
  go_simp
  refine hK _ _ ?_
  clear hK K
  refine wpAny_done (by kernel_rfl) ?_ _
  go_wp2
  refine bodyPost_ret (v := .tuple #[.agg #[.int .u16 v0, .int .u16 v1, .int .u32 v2, .int .u32 v3, .int .u8 v4, .int .u8 v5, .int .u16 v6, .int .u16 v7, .int .u16 v8, .string x], .string (s.extract n s.size), .bool true]) (by simp [results, Tryd.results32, go_sem, x0, x1, x2, x3, x4, x5, x6, x7, x8, x9]) rfl ?_
  exact ⟨rfl, B9⟩
end Go.Proofs.YtidkgnanfhdhdaaDoor
