/- Contracts of package ip: Parse. -/
import Derived.Test.YtfiokjenfmpmlaaIpH
namespace Go.Proofs.Ytfiokjenfmpmlaa
set_option linter.unusedVariables false
set_option linter.unusedSimpArgs false
open Go.ChangeShapes Go.WideShapes Go.ChangeAt Go.RowKit Go.PlainAid
attribute [local go_sem ↓] Go.wp_at_zero Go.wp_at_succ
theorem g32_ext0 (s : ByteArray) (n i : Nat) (hi : i + 3 < n) (hn : n ≤ s.size) : g32 (s.extract 0 n) i = g32 s i := by
  rw [g32_two, g32_two, g16_ext0 s n i (by omega) hn, g16_ext0 s n (i + 2) (by omega) hn]
theorem ext_ext0 (s : ByteArray) (n i : Nat) : (s.extract 0 n).extract i n = s.extract i n := by
  apply ba_ext
  rw [data_extract, data_extract, data_extract, List.drop_zero, List.take_take, Nat.min_self]
/-- What a header says that is taken. -/
theorem pR_facts {s : ByteArray} (h : pR s = 0) : 20 ≤ s.size ∧ 20 ≤ ownN s ∧ ownN s ≤ 60 ∧ ownN s ≤ s.size ∧ (ownN s : Int) ≤ g16 s 2 ∧ g16 s 2 ≤ (s.size : Int) ∧ g16 s 2 ≤ 2048 ∧ (g16 s 6 = 0 ∨ g16 s 6 = 16384) := by
  have b0 := bt_nonneg s 0
  have b1 := bt_le s 0
  have h60 : ownN s ≤ 60 := by unfold ownN; omega
  unfold pR at h
  by_cases h1 : s.size < 20
  · rw [if_pos h1] at h; omega
  rw [if_neg h1] at h
  by_cases h2 : bt s 0 / 16 = 4
  rotate_left
  · rw [if_pos h2] at h; omega
  rw [if_neg (not_not_intro h2)] at h
  by_cases h3 : ownN s < 20 ∨ s.size < ownN s ∨ g16 s 2 < (ownN s : Int) ∨ (s.size : Int) < g16 s 2 ∨ 2048 < g16 s 2
  · rw [if_pos h3] at h; omega
  rw [if_neg h3] at h
  by_cases hh : holdsV [s.extract 0 (ownN s)] = false
  · rw [if_pos hh] at h; omega
  rw [if_neg hh] at h
  by_cases h4 : ¬ g16 s 6 = 0 ∧ ¬ g16 s 6 = 16384
  · rw [if_pos h4] at h; omega
  omega
set_option maxHeartbeats 2000000 in
set_option maxRecDepth 100000 in
theorem parse_ (s : ByteArray) (w : World) (hs : s.size < maxLen) :
    Calls Try.prog 9 #[.string s] w fun e w' => e = .returned (.tuple #[.agg #[.int .u8 (pI s (bt s 1)), .int .u16 (pI s (g16 s 4)), .bool (pF s), .int .u8 (pI s (bt s 8)), .int .u8 (pI s (bt s 9)), .int .u32 (pI s (g32 s 12)), .int .u32 (pI s (g32 s 16)), .string (pO s)], .string (pP s), .int .i64 (pR s)]) ∧ Below w.heap.size w w' := by
  have hs' := Nat.le_of_lt hs
  have cr := fun u => refused_ s u hs
  by_cases hr : pR s = 0
  rotate_left
  · have HN := Lib.hid (p_no hr)
    have e1 : (pR s != 0) = true := by simpa using hr
    clear hr
    go_enter Try.func9, Try.ntmps9
    go_wp2_with fail
    refine (cr _).mono ?_; rintro e w1 ⟨rfl, b1⟩
    obtain ⟨hc, hf⟩ := bcell4_ b1
    have hz : w.heap.size < w1.heap.size := by have := b1.size; simp at this; omega
    have B1 : Below w.heap.size w w1 := ((Below.refl _ _).alloc (Nat.le_refl _) _).trans (b1.mono (by simp))
    have hz2 := B1.size
    go_wp2
    refine box8_ (b := w.heap.size) (box8_is rfl hc) B1 (Nat.le_refl _) fun w9 x0 x1 x2 x3 x4 x5 x6 x7 B9 _ => ?_
    clear hc hf b1 B1
    refine bodyPost_ret (v := .tuple #[.agg #[.int .u8 0, .int .u16 0, .bool false, .int .u8 0, .int .u8 0, .int .u32 0, .int .u32 0, .string ⟨#[]⟩], .string ⟨#[]⟩, .int .i64 (pR s)]) (by simp [results, Try.results9, go_sem, x0, x1, x2, x3, x4, x5, x6, x7]) rfl ?_
    rw [HN.out.1, HN.out.1, HN.out.1, HN.out.1, HN.out.1, HN.out.1, HN.out.2.1, HN.out.2.2.1, HN.out.2.2.2]
    exact ⟨rfl, B9⟩
  obtain ⟨f20, g20, f60, fs, fm, fms, f2048, ff⟩ := pR_facts hr
  obtain ⟨y1, y2, y3, y4⟩ := p_yes hr
  rw [y1, y1, y1, y1, y1, y1, y2, y3, y4, hr]
  rw [hr] at cr
  obtain ⟨n, hn⟩ : ∃ n, n = ownN s := ⟨_, rfl⟩
  obtain ⟨m, hm⟩ : ∃ m : Nat, g16 s 2 = (m : Int) := ⟨(g16 s 2).toNat, by have := g16_nonneg s 2; omega⟩
  have cl : ∀ u, Calls Try.prog 16 #[.string s] u fun e w' => e = .returned (.tuple #[.int .i64 (n : Int), .int .i64 (m : Int)]) ∧ Below u.heap.size u w' := fun u => by rw [hn, ← hm]; exact lengths_ s u hs' (by omega)
  rw [← hn] at g20 f60 fs fm ⊢
  rw [hm] at fm fms f2048 ⊢
  rw [show ((m : Int)).toNat = m by omega]
  have zt := size_extract' s 0 n (Nat.zero_le _) fs
  have cd := fun u => read_ (s.extract 0 n) u (by omega) (by omega)
  rw [bt_ext0 s n 1 (by omega) fs, bt_ext0 s n 8 (by omega) fs, bt_ext0 s n 9 (by omega) fs, g16_ext0 s n 4 (by omega) fs, g16_ext0 s n 6 (by omega) fs, g32_ext0 s n 12 (by omega) fs, g32_ext0 s n 16 (by omega) fs, zt, Nat.sub_zero, ext_ext0] at cd
  have zp := size_extract' s n m (by omega) (by omega)
  have cc := fun u => clone_ (s.extract n m) u (by omega)
  have hfl : (g16 s 6 == 16384) = decide (0 < g16 s 6) := by rcases ff with h | h <;> rw [h] <;> rfl
  rw [hfl] at cd
  clear hfl zp zt y1 y2 y3 y4 hr
  have i1 : (n : Int) ≤ (s.size : Int) := by omega
  have i2 : (m : Int) ≤ (s.size : Int) := by omega
  have i3 : (n : Int) ≤ (m : Int) := by omega
  generalize decide (0 < g16 s 6) = fl at *
  generalize bt s 1 = v1 at *
  generalize g16 s 4 = v2 at *
  generalize bt s 8 = v3 at *
  generalize bt s 9 = v4 at *
  generalize g32 s 12 = v5 at *
  generalize g32 s 16 = v6 at *
  obtain ⟨x, hx⟩ : ∃ x, x = s.extract 20 n := ⟨_, rfl⟩
  rw [← hx] at cd ⊢
  clear hx
  clear hm hn ff
  go_enter Try.func9, Try.ntmps9
  go_wp2_with fail
  refine (cr _).mono ?_; rintro e w1 ⟨rfl, b1⟩
  go_wp2_with fail
  refine (cl _).mono ?_; rintro e w2 ⟨rfl, b2⟩
  obtain ⟨w0, hw0⟩ : ∃ w0, w0 = w.alloc (.cells #[.int .u8 0, .int .u16 0, .bool false, .int .u8 0, .int .u8 0, .int .u32 0, .int .u32 0, .string ⟨#[]⟩] 27) := ⟨_, rfl⟩
  rw [← hw0] at b1
  have b02 := b1.trans (b2.mono b1.size)
  clear b1 b2 cr cl
  go_wp2_with fail
  refine region_lead (B := w2.heap.size) 9 3 (by kernel_rfl) (by kernel_rfl) (by kernel_rfl) (by kernel_rfl) ?_
  simp only [List.take_succ_cons, List.take_zero]
  repeat (go_big_quiet_step (first
    | (go_at_call 17; exact later_of _ (Nat.le_refl _) (cd _))
    | (go_at_call 18; exact later_of _ (Nat.le_refl _) (cc _))))
  refine lead_tail (fin := #[true, true, true, true, true, true, true, true, true, false, false, false]) (by kernel_rfl) fun f w3 b3 => ?_
  subst hw0
  have b03 := b02.trans (b3.mono b02.size)
  obtain ⟨hc, hf⟩ := bcell4_ b03
  have hz : w.heap.size < w3.heap.size := by have := b03.size; simp at this; omega
  have B2 : Below w.heap.size w w3 := ((Below.refl _ _).alloc (Nat.le_refl _) _).trans (b03.mono (by simp))
  have hz2 := B2.size
  refine wpAny_ready (rs := [9]) (by kernel_rfl) (by simp) (AllReady.cons rfl (fun K hK => ?_) AllReady.nil)
  go_simp
  refine hK _ _ ?_
  clear hK K
  refine box8_ (b := w.heap.size) (box8_is rfl hc) B2 (Nat.le_refl _) fun w9 x0 x1 x2 x3 x4 x5 x6 x7 B9 _ => ?_
  clear hc hf b03 b02 B2
  refine wpAny_ready (rs := [10]) (by kernel_rfl) (by simp) (AllReady.cons rfl (fun K hK => ?_) AllReady.nil)
  go_simp
  refine hK _ _ ?_
  clear hK K
  refine wpAny_ready (rs := [11]) (by kernel_rfl) (by simp) (AllReady.cons rfl (fun K hK => ?_) AllReady.nil)
  go_simp
  refine hK _ _ ?_
  clear hK K
  refine wpAny_done (by kernel_rfl) ?_ _
  go_wp2
  refine bodyPost_ret (v := .tuple #[.agg #[.int .u8 v1, .int .u16 v2, .bool fl, .int .u8 v3, .int .u8 v4, .int .u32 v5, .int .u32 v6, .string x], .string (s.extract n m), .int .i64 0]) (by simp [results, Try.results9, go_sem, x0, x1, x2, x3, x4, x5, x6, x7]) rfl ?_
  exact ⟨rfl, B9⟩
end Go.Proofs.Ytfiokjenfmpmlaa
