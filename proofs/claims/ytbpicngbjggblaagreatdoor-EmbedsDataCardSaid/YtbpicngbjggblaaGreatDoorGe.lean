/- Texts of this proof, together: IpH, IpI. -/
import Derived.Test.YtbpicngbjggblaaGreatDoorGd
import Derived.Test.YtbpicngbjggblaaGreatDoorGc
import Derived.Lib.VarintBits
namespace Go.Proofs.YtbpicngbjggblaaGreatDoor
set_option maxHeartbeats 2000000
set_option maxRecDepth 100000
set_option linter.unusedVariables false
set_option linter.unusedSimpArgs false
open Go.ChangeShapes Go.WideShapes Go.ChangeAt Go.RowKit Go.PlainAid
theorem ipGet16_ (s : ByteArray) (k : Nat) (w : World) (hs : s.size ≤ maxLen) (h : k + 2 ≤ s.size) :
    Cw_ 98 #[.string s, .int .i64 (k : Int)] (.int .u16 (g16 s k)) w := by
  go_enter Tryz.func98, Tryz.ntmps98
  go_wp2_with fail
  refine (get16_yes s k _ hs h).mono ?_; rintro e w' ⟨rfl, B⟩
  go_wp2
  go_ret
  exact ⟨rfl, B⟩
theorem ipAddress_ (s : ByteArray) (k : Nat) (w : World) (hs : s.size ≤ maxLen) (h : k + 4 ≤ s.size) :
    Cw_ 99 #[.string s, .int .i64 (k : Int)] (.int .u32 (g32 s k)) w := by
  go_enter Tryz.func99, Tryz.ntmps99
  go_wp2_with fail
  refine (get32_yes s k _ hs h).mono ?_; rintro e w' ⟨rfl, B⟩
  go_wp2
  go_ret
  exact ⟨rfl, B⟩
theorem u8_and15 (x : Int) (h0 : 0 ≤ x) (h1 : x ≤ 255) : bits .and .u8 x 15 = x % 16 := bits_mask .u8 8 (by decide) wraps_u8 4 (by decide) x h0 (by omega)
theorem lengths_ (s : ByteArray) (w : World) (hs : s.size ≤ maxLen) (h : 4 ≤ s.size) :
    Cw_ 50 #[.string s] (.tuple #[.int .i64 (ownN s : Int), .int .i64 (g16 s 2)]) w := by
  have hb := get_bt s
  have b0 := bt_nonneg s 0
  have b1 := bt_le s 0
  have i0 : (0 : Int) < (s.size : Int) := by omega
  have a1 := u8_and15 (bt s 0) b0 b1
  have a2 : bt s 0 % 16 * 4 = (ownN s : Int) := by unfold ownN; omega
  have n60 : ownN s ≤ 60 := by unfold ownN; omega
  have c0 := g16_nonneg s 2
  have c1 := g16_le s 2
  have x1 : IntKind.i64.wrap (ownN s : Int) = (ownN s : Int) := IntWalk.i64_in _ (by omega)
  have x2 : IntKind.i64.wrap (g16 s 2) = g16 s 2 := IntWalk.i64_in _ (by omega)
  go_enter Tryz.func50, Tryz.ntmps50
  go_wp2_with fail
  refine region_later (B := w.heap.size) (by kernel_rfl) (by kernel_rfl) ?_
  repeat (go_big_quiet_step (first | (go_at_call 98; exact later_of _ (Nat.le_refl _) (ipGet16_ s 2 _ hs (by omega)))))
  refine later_end fun w2 b2 => ?_
  go_wp2
  go_ret2
  exact ⟨rfl, b2⟩
attribute [local go_sem ↓] Go.wp_at_zero Go.wp_at_succ
theorem read_ (s : ByteArray) (w : World) (hs : s.size ≤ 100) (h : 20 ≤ s.size) :
    Cw_ 51 #[.string s] (.agg #[.int .u8 (bt s 1), .int .u16 (g16 s 4), .bool (g16 s 6 == 16384), .int .u8 (bt s 8), .int .u8 (bt s 9), .int .u32 (g32 s 12), .int .u32 (g32 s 16), .string (s.extract 20 s.size)]) w := by
  have hb := get_bt s
  have hs2 : s.size ≤ maxLen := by unfold maxLen; omega
  have i1 : (1 : Int) < (s.size : Int) := by omega
  have i8 : (8 : Int) < (s.size : Int) := by omega
  have i9 : (9 : Int) < (s.size : Int) := by omega
  have i20 : (20 : Int) ≤ (s.size : Int) := by omega
  have HZ := size_extract' s 20 s.size h (Nat.le_refl _)
  obtain ⟨t, ht⟩ : ∃ t, t = s.extract 20 s.size := ⟨_, rfl⟩
  go_enter Tryz.func51, Tryz.ntmps51
  go_wp2_with fail
  obtain ⟨w1, hw1⟩ : ∃ w1, w1 = w.alloc (.cells #[.int .u8 0, .int .u16 0, .bool false, .int .u8 0, .int .u8 0, .int .u32 0, .int .u32 0, .string ⟨#[]⟩] 64) := ⟨_, rfl⟩
  rw [← hw1]
  refine region_lead (B := w1.heap.size) 19 1 (by kernel_rfl) (by kernel_rfl) (by kernel_rfl) (by kernel_rfl) ?_
  simp only [List.take_succ_cons, List.take_zero]
  repeat (go_big_quiet_step (first
    | (go_at_call_of 98 (4 : Int); exact later_of _ (Nat.le_refl _) (ipGet16_ s 4 _ hs2 (by omega)))
    | (go_at_call_of 98 (6 : Int); exact later_of _ (Nat.le_refl _) (ipGet16_ s 6 _ hs2 (by omega)))
    | (go_at_call_of 99 (12 : Int); exact later_of _ (Nat.le_refl _) (ipAddress_ s 12 _ hs2 (by omega)))
    | (go_at_call_of 99 (16 : Int); exact later_of _ (Nat.le_refl _) (ipAddress_ s 16 _ hs2 (by omega)))
    | (go_at_call 52; exact later_of _ (Nat.le_refl _) (clone_ _ _ (by rw [HZ]; omega)))))
  refine lead_end (by kernel_rfl) (by kernel_rfl) rfl fun w2 b2 K hK => ?_
  subst hw1
  obtain ⟨hc, hf⟩ := bcell4_ b2
  have hz : w.heap.size < w2.heap.size := by have := b2.size; simp at this; omega
  have B2 : Below w.heap.size w w2 := ((Below.refl _ _).alloc (Nat.le_refl _) _).trans (b2.mono (by simp))
  have hz2 := B2.size
  go_simp
  refine hK.out _ _ ?_
  refine box8_ (b := w.heap.size) (box8_is rfl hc) B2 (Nat.le_refl _) fun w9 x0 x1 x2 x3 x4 x5 x6 x7 B9 _ => ?_
  clear hc hf b2 B2 hK K
  go_wp2
  refine bodyPost_ret (v := .agg #[.int .u8 (bt s 1), .int .u16 (g16 s 4), .bool (g16 s 6 == 16384), .int .u8 (bt s 8), .int .u8 (bt s 9), .int .u32 (g32 s 12), .int .u32 (g32 s 16), .string (s.extract 20 s.size)]) (by simp [results, Tryz.results51, go_sem, x0, x1, x2, x3, x4, x5, x6, x7]) rfl ?_
  exact ⟨rfl, B9⟩
theorem refused_ (s : ByteArray) (w : World) (hs : s.size < maxLen) :
    Cw_ 49 #[.string s] (.int .i64 (pR s)) w := by
  have hs' := Nat.le_of_lt hs
  unfold maxLen at hs
  have hs2 : (s.size : Int) ≤ 9223372036854775807 := by omega
  have hb := get_bt s
  have b0 := bt_nonneg s 0
  have b1 := bt_le s 0
  by_cases h20 : s.size < 20
  · have HN : Hid (pR s = 1) := by show _ = _; unfold pR; rw [if_pos h20]
    have e2 : decide ((s.size : Int) < 20) = true := by simp; omega
    clear h20
    go_enter Tryz.func49, Tryz.ntmps49
    go_wp2
    go_ret
    rw [HN.out]
    exact ⟨rfl, Below.refl _ _⟩
  have e2 : decide ((s.size : Int) < 20) = false := by simp; omega
  have i0 : (0 : Int) < (s.size : Int) := by omega
  by_cases hv : bt s 0 / 16 = 4
  rotate_left
  · have HN : Hid (pR s = 2) := by show _ = _; unfold pR; rw [if_neg h20, if_pos hv]
    have e3 : (bt s 0 / 16 != 4) = true := by simpa using hv
    have e3' : (bt s 0 / 16 == 4) = false := by simpa using hv
    clear h20 hv
    go_enter Tryz.func49, Tryz.ntmps49
    go_wp2
    go_ret
    rw [HN.out]
    exact ⟨rfl, Below.refl _ _⟩
  have e3 : (bt s 0 / 16 != 4) = false := by simpa using hv
  have e3' : (bt s 0 / 16 == 4) = true := by simpa using hv
  obtain ⟨n, hn⟩ : ∃ n, n = ownN s := ⟨_, rfl⟩
  have n60 : n ≤ 60 := by rw [hn]; unfold ownN; omega
  have z0 := g16_nonneg s 2
  have z1 := g16_le s 2
  obtain ⟨m, hm⟩ : ∃ m : Nat, g16 s 2 = (m : Int) := ⟨(g16 s 2).toNat, by omega⟩
  rw [hm] at z0 z1
  have hR : pR s = if n < 20 ∨ s.size < n ∨ m < n ∨ s.size < m ∨ 2048 < m then 3
      else if holdsV [s.extract 0 n] = false then 4 else if ¬ g16 s 6 = 0 ∧ ¬ g16 s 6 = 16384 then 5 else 0 := by
    unfold pR; rw [if_neg h20, if_neg (not_not_intro hv), ← hn, hm]; simp only [Int.ofNat_lt, show ((2048 : Int) < (m : Int)) ↔ 2048 < m by omega]
  have cl : ∀ u, Calls Tryz.prog 50 #[.string s] u fun e w' => e = .returned (.tuple #[.int .i64 (n : Int), .int .i64 (m : Int)]) ∧ Below u.heap.size u w' := fun u => by rw [hn, ← hm]; exact lengths_ s u hs' (by omega)
  clear hn hm hv
  by_cases c0 : n < 20
  · have HN : Hid (pR s = 3) := by show _ = _; rw [hR, if_pos (by omega)]
    have q0 : decide ((n : Int) < 20) = true := by simp; omega
    clear h20 hR
    go_enter Tryz.func49, Tryz.ntmps49
    go_wp2_with fail
    refine (cl _).mono ?_; rintro e w1 ⟨rfl, b1⟩
    go_wp2
    go_ret
    rw [HN.out]
    exact ⟨rfl, b1⟩
  have q0 : decide ((n : Int) < 20) = false := by simp; omega
  by_cases c2 : m < n
  · have HN : Hid (pR s = 3) := by show _ = _; rw [hR, if_pos (by omega)]
    have q1 : decide (m < n) = true := by simp; omega
    clear h20 hR
    go_enter Tryz.func49, Tryz.ntmps49
    go_wp2_with fail
    refine (cl _).mono ?_; rintro e w1 ⟨rfl, b1⟩
    go_wp2
    go_ret
    rw [HN.out]
    exact ⟨rfl, b1⟩
  have q1 : decide (m < n) = false := by simp; omega
  have hmin : ∃ k : Nat, (k = s.size ∨ k = 2048) ∧ k ≤ s.size ∧ k ≤ 2048 ∧ ∀ W, (Builtin.min_ #[3, 3] 3 #[.int .i64 (s.size : Int), .int .i64 2048]).run Tryz.prog W = .ok (.int .i64 (k : Int)) W := by
    by_cases hk : 2048 < s.size
    · refine ⟨2048, .inr rfl, by omega, by omega, fun W => ?_⟩
      have : (2048 : Int) < (s.size : Int) := by omega
      simp [Builtin.min_, Builtin.min2, this]
    · refine ⟨s.size, .inl rfl, by omega, by omega, fun W => ?_⟩
      have : ¬ (2048 : Int) < (s.size : Int) := by omega
      simp [Builtin.min_, Builtin.min2, this]
  obtain ⟨k, hk, hk1, hk2, hmin⟩ := hmin
  by_cases c3 : k < m
  · have HN : Hid (pR s = 3) := by show _ = _; rw [hR, if_pos (by omega)]
    have q2 : decide (k < m) = true := by simp; omega
    clear h20 hR hk
    go_enter Tryz.func49, Tryz.ntmps49
    go_wp2_with fail
    refine (cl _).mono ?_; rintro e w1 ⟨rfl, b1⟩
    go_wp2
    go_ret
    rw [HN.out]
    exact ⟨rfl, b1⟩
  have q2 : decide (k < m) = false := by simp; omega
  rw [if_neg (by omega)] at hR
  have hx : (s.extract 0 n).size ≤ maxLen := by rw [size_extract' s 0 n (Nat.zero_le _) (by omega)]; unfold maxLen; omega
  have hn1 : (n : Int) ≤ (s.size : Int) := by omega
  have ch : ∀ (u : World) (b : Nat), b < u.heap.size → u.cell? ⟨b, 0, none⟩ = some (.string (s.extract 0 n)) → Calls Tryz.prog 20 #[.slice (some ⟨b, 0, none⟩) 1 1] u fun e w' => e = .returned (.bool (holdsV [s.extract 0 n])) ∧ Below u.heap.size u w' :=
    fun u b hb h0 => holds_ _ 1 1 [s.extract 0 n] u (rowS1 hb h0 hx)
  obtain ⟨t, ht⟩ : ∃ t, t = s.extract 0 n := ⟨_, rfl⟩
  rw [← ht] at hR ch
  cases hh : holdsV [t]
  · have HN : Hid (pR s = 4) := by show _ = _; rw [hR, if_pos hh]
    rw [hh] at ch
    clear h20 hR hk hh
    go_enter Tryz.func49, Tryz.ntmps49
    go_wp2_with fail
    refine (cl _).mono ?_; rintro e w1 ⟨rfl, b1⟩
    go_wp2_with fail
    refine (ch _ _ (by simp) (by simp [go_sem, ← ht])).mono ?_; rintro e w2 ⟨rfl, b2⟩
    have B2 : Below w.heap.size w w2 := (b1.alloc b1.size _).trans (b2.mono (by have := b1.size; simp; omega))
    go_wp2
    go_ret
    rw [HN.out]
    exact ⟨rfl, B2⟩
  rw [if_neg (by rw [hh]; decide)] at hR
  rw [hh] at ch
  clear hh
  have cg : ∀ u, Calls Tryz.prog 98 #[.string s, .int .i64 6] u fun e w' => e = .returned (.int .u16 (g16 s 6)) ∧ Below u.heap.size u w' := fun u => ipGet16_ s 6 u hs' (by omega)
  obtain ⟨g, hg⟩ : ∃ g, g = g16 s 6 := ⟨_, rfl⟩
  rw [← hg] at cg hR
  clear h20 hk hg
  by_cases g0 : g = 0
  · subst g0
    have HN : Hid (pR s = 0) := by show _ = _; rw [hR, if_neg (by omega)]
    clear hR
    go_enter Tryz.func49, Tryz.ntmps49
    go_wp2_with fail
    refine (cl _).mono ?_; rintro e w1 ⟨rfl, b1⟩
    go_wp2_with fail
    refine (ch _ _ (by simp) (by simp [go_sem, ← ht])).mono ?_; rintro e w2 ⟨rfl, b2⟩
    have B2 : Below w.heap.size w w2 := (b1.alloc b1.size _).trans (b2.mono (by have := b1.size; simp; omega))
    clear b1 b2
    go_wp2_with fail
    refine (cg _).mono ?_; rintro e w3 ⟨rfl, b3⟩
    have B3 : Below w.heap.size w w3 := B2.trans (b3.mono B2.size)
    go_wp2
    go_ret
    rw [HN.out]
    exact ⟨rfl, B3⟩
  have g1 : (g != 0) = true := by simpa using g0
  by_cases g2 : g = 16384
  · have HN : Hid (pR s = 0) := by show _ = _; rw [hR, if_neg (by omega)]
    clear hR g0
    subst g2
    go_enter Tryz.func49, Tryz.ntmps49
    go_wp2_with fail
    refine (cl _).mono ?_; rintro e w1 ⟨rfl, b1⟩
    go_wp2_with fail
    refine (ch _ _ (by simp) (by simp [go_sem, ← ht])).mono ?_; rintro e w2 ⟨rfl, b2⟩
    have B2 : Below w.heap.size w w2 := (b1.alloc b1.size _).trans (b2.mono (by have := b1.size; simp; omega))
    clear b1 b2
    go_wp2_with fail
    refine (cg _).mono ?_; rintro e w3 ⟨rfl, b3⟩
    have B3 : Below w.heap.size w w3 := B2.trans (b3.mono B2.size)
    go_wp2
    go_ret
    rw [HN.out]
    exact ⟨rfl, B3⟩
  · have HN : Hid (pR s = 5) := by show _ = _; rw [hR, if_pos ⟨g0, g2⟩]
    have g3 : (g != 16384) = true := by simpa using g2
    clear hR g0 g2
    go_enter Tryz.func49, Tryz.ntmps49
    go_wp2_with fail
    refine (cl _).mono ?_; rintro e w1 ⟨rfl, b1⟩
    go_wp2_with fail
    refine (ch _ _ (by simp) (by simp [go_sem, ← ht])).mono ?_; rintro e w2 ⟨rfl, b2⟩
    have B2 : Below w.heap.size w w2 := (b1.alloc b1.size _).trans (b2.mono (by have := b1.size; simp; omega))
    clear b1 b2
    go_wp2_with fail
    refine (cg _).mono ?_; rintro e w3 ⟨rfl, b3⟩
    have B3 : Below w.heap.size w w3 := B2.trans (b3.mono B2.size)
    go_wp2
    go_ret
    rw [HN.out]
    exact ⟨rfl, B3⟩
end Go.Proofs.YtbpicngbjggblaaGreatDoor
namespace Go.Proofs.YtbpicngbjggblaaGreatDoor
set_option maxHeartbeats 2000000
set_option maxRecDepth 100000
set_option linter.unusedVariables false
set_option linter.unusedSimpArgs false
open Go.ChangeShapes Go.WideShapes Go.ChangeAt Go.RowKit Go.PlainAid
attribute [local go_sem ↓] Go.wp_at_zero Go.wp_at_succ
theorem g32_ext0 (s : ByteArray) (n i : Nat) (hi : i + 3 < n) (hn : n ≤ s.size) : g32 (s.extract 0 n) i = g32 s i := by
  rw [g32_two, g32_two, g16_ext0 s n i (by omega) hn, g16_ext0 s n (i + 2) (by omega) hn]
theorem ext_ext0 (s : ByteArray) (n i : Nat) : (s.extract 0 n).extract i n = s.extract i n := by
  apply ba_ext
  rw [data_extract, data_extract, data_extract, List.drop_zero, List.take_take, Nat.min_self]
/-- What a header says that is taken. -/
theorem pR_facts {s : ByteArray} (h : pR s = 0) : 20 ≤ s.size ∧ 20 ≤ ownN s ∧ ownN s ≤ 60 ∧ ownN s ≤ s.size ∧ (ownN s : Int) ≤ g16 s 2 ∧ g16 s 2 ≤ (s.size : Int) ∧ g16 s 2 ≤ 2048 ∧ (g16 s 6 = 0 ∨ g16 s 6 = 16384) := by
  have b0 := bt_nonneg s 0
  have b1 := bt_le s 0
  have h60 : ownN s ≤ 60 := by unfold ownN; omega
  unfold pR at h
  by_cases h1 : s.size < 20
  · rw [if_pos h1] at h; omega
  rw [if_neg h1] at h
  by_cases h2 : bt s 0 / 16 = 4
  rotate_left
  · rw [if_pos h2] at h; omega
  rw [if_neg (not_not_intro h2)] at h
  by_cases h3 : ownN s < 20 ∨ s.size < ownN s ∨ g16 s 2 < (ownN s : Int) ∨ (s.size : Int) < g16 s 2 ∨ 2048 < g16 s 2
  · rw [if_pos h3] at h; omega
  rw [if_neg h3] at h
  by_cases hh : holdsV [s.extract 0 (ownN s)] = false
  · rw [if_pos hh] at h; omega
  rw [if_neg hh] at h
  by_cases h4 : ¬ g16 s 6 = 0 ∧ ¬ g16 s 6 = 16384
  · rw [if_pos h4] at h; omega
  omega
theorem ipParse_ (s : ByteArray) (w : World) (hs : s.size < maxLen) :
    Cw_ 19 #[.string s] (.tuple #[.agg #[.int .u8 (pI s (bt s 1)), .int .u16 (pI s (g16 s 4)), .bool (pF s), .int .u8 (pI s (bt s 8)), .int .u8 (pI s (bt s 9)), .int .u32 (pI s (g32 s 12)), .int .u32 (pI s (g32 s 16)), .string (pO s)], .string (pP s), .int .i64 (pR s)]) w := by
  have hs' := Nat.le_of_lt hs
  have cr := fun u => refused_ s u hs
  by_cases hr : pR s = 0
  rotate_left
  · have HN := Lib.hid (p_no hr)
    have e1 : (pR s != 0) = true := by simpa using hr
    clear hr
    go_enter Tryz.func19, Tryz.ntmps19
    go_wp2_with fail
    refine (cr _).mono ?_; rintro e w1 ⟨rfl, b1⟩
    obtain ⟨hc, hf⟩ := bcell4_ b1
    have hz : w.heap.size < w1.heap.size := by have := b1.size; simp at this; omega
    have B1 : Below w.heap.size w w1 := ((Below.refl _ _).alloc (Nat.le_refl _) _).trans (b1.mono (by simp))
    have hz2 := B1.size
    go_wp2
    refine box8_ (b := w.heap.size) (box8_is rfl hc) B1 (Nat.le_refl _) fun w9 x0 x1 x2 x3 x4 x5 x6 x7 B9 _ => ?_
    clear hc hf b1 B1
    refine bodyPost_ret (v := .tuple #[.agg #[.int .u8 0, .int .u16 0, .bool false, .int .u8 0, .int .u8 0, .int .u32 0, .int .u32 0, .string ⟨#[]⟩], .string ⟨#[]⟩, .int .i64 (pR s)]) (by simp [results, Tryz.results19, go_sem, x0, x1, x2, x3, x4, x5, x6, x7]) rfl ?_
    rw [HN.out.1, HN.out.1, HN.out.1, HN.out.1, HN.out.1, HN.out.1, HN.out.2.1, HN.out.2.2.1, HN.out.2.2.2]
    exact ⟨rfl, B9⟩
  obtain ⟨f20, g20, f60, fs, fm, fms, f2048, ff⟩ := pR_facts hr
  obtain ⟨y1, y2, y3, y4⟩ := p_yes hr
  rw [y1, y1, y1, y1, y1, y1, y2, y3, y4, hr]
  rw [hr] at cr
  obtain ⟨n, hn⟩ : ∃ n, n = ownN s := ⟨_, rfl⟩
  obtain ⟨m, hm⟩ : ∃ m : Nat, g16 s 2 = (m : Int) := ⟨(g16 s 2).toNat, by have := g16_nonneg s 2; omega⟩
  have cl : ∀ u, Calls Tryz.prog 50 #[.string s] u fun e w' => e = .returned (.tuple #[.int .i64 (n : Int), .int .i64 (m : Int)]) ∧ Below u.heap.size u w' := fun u => by rw [hn, ← hm]; exact lengths_ s u hs' (by omega)
  rw [← hn] at g20 f60 fs fm ⊢
  rw [hm] at fm fms f2048 ⊢
  rw [show ((m : Int)).toNat = m by omega]
  have zt := size_extract' s 0 n (Nat.zero_le _) fs
  have cd := fun u => read_ (s.extract 0 n) u (by omega) (by omega)
  rw [bt_ext0 s n 1 (by omega) fs, bt_ext0 s n 8 (by omega) fs, bt_ext0 s n 9 (by omega) fs, g16_ext0 s n 4 (by omega) fs, g16_ext0 s n 6 (by omega) fs, g32_ext0 s n 12 (by omega) fs, g32_ext0 s n 16 (by omega) fs, zt, Nat.sub_zero, ext_ext0] at cd
  have zp := size_extract' s n m (by omega) (by omega)
  have cc := fun u => clone_ (s.extract n m) u (by omega)
  have hfl : (g16 s 6 == 16384) = decide (0 < g16 s 6) := by rcases ff with h | h <;> rw [h] <;> rfl
  rw [hfl] at cd
  clear hfl zp zt y1 y2 y3 y4 hr
  have i1 : (n : Int) ≤ (s.size : Int) := by omega
  have i2 : (m : Int) ≤ (s.size : Int) := by omega
  have i3 : (n : Int) ≤ (m : Int) := by omega
  generalize decide (0 < g16 s 6) = fl at *
  generalize bt s 1 = v1 at *
  generalize g16 s 4 = v2 at *
  generalize bt s 8 = v3 at *
  generalize bt s 9 = v4 at *
  generalize g32 s 12 = v5 at *
  generalize g32 s 16 = v6 at *
  obtain ⟨x, hx⟩ : ∃ x, x = s.extract 20 n := ⟨_, rfl⟩
  rw [← hx] at cd ⊢
  clear hx
  clear hm hn ff
  go_enter Tryz.func19, Tryz.ntmps19
  go_wp2_with fail
  refine (cr _).mono ?_; rintro e w1 ⟨rfl, b1⟩
  go_wp2_with fail
  refine (cl _).mono ?_; rintro e w2 ⟨rfl, b2⟩
  obtain ⟨w0, hw0⟩ : ∃ w0, w0 = w.alloc (.cells #[.int .u8 0, .int .u16 0, .bool false, .int .u8 0, .int .u8 0, .int .u32 0, .int .u32 0, .string ⟨#[]⟩] 64) := ⟨_, rfl⟩
  rw [← hw0] at b1
  have b02 := b1.trans (b2.mono b1.size)
  clear b1 b2 cr cl
  go_wp2_with fail
  refine region_lead (B := w2.heap.size) 9 3 (by kernel_rfl) (by kernel_rfl) (by kernel_rfl) (by kernel_rfl) ?_
  simp only [List.take_succ_cons, List.take_zero]
  repeat (go_big_quiet_step (first
    | (go_at_call 51; exact later_of _ (Nat.le_refl _) (cd _))
    | (go_at_call 52; exact later_of _ (Nat.le_refl _) (cc _))))
  refine lead_tail (fin := #[true, true, true, true, true, true, true, true, true, false, false, false]) (by kernel_rfl) fun f w3 b3 => ?_
  subst hw0
  have b03 := b02.trans (b3.mono b02.size)
  obtain ⟨hc, hf⟩ := bcell4_ b03
  have hz : w.heap.size < w3.heap.size := by have := b03.size; simp at this; omega
  have B2 : Below w.heap.size w w3 := ((Below.refl _ _).alloc (Nat.le_refl _) _).trans (b03.mono (by simp))
  have hz2 := B2.size
  refine wpAny_ready (rs := [9]) (by kernel_rfl) (by simp) (AllReady.cons rfl (fun K hK => ?_) AllReady.nil)
  go_simp
  refine hK _ _ ?_
  clear hK K
  refine box8_ (b := w.heap.size) (box8_is rfl hc) B2 (Nat.le_refl _) fun w9 x0 x1 x2 x3 x4 x5 x6 x7 B9 _ => ?_
  clear hc hf b03 b02 B2
  refine wpAny_ready (rs := [10]) (by kernel_rfl) (by simp) (AllReady.cons rfl (fun K hK => ?_) AllReady.nil)
  go_simp
  refine hK _ _ ?_
  clear hK K
  refine wpAny_ready (rs := [11]) (by kernel_rfl) (by simp) (AllReady.cons rfl (fun K hK => ?_) AllReady.nil)
  go_simp
  refine hK _ _ ?_
  clear hK K
  refine wpAny_done (by kernel_rfl) ?_ _
  go_wp2
  refine bodyPost_ret (v := .tuple #[.agg #[.int .u8 v1, .int .u16 v2, .bool fl, .int .u8 v3, .int .u8 v4, .int .u32 v5, .int .u32 v6, .string x], .string (s.extract n m), .int .i64 0]) (by simp [results, Tryz.results19, go_sem, x0, x1, x2, x3, x4, x5, x6, x7]) rfl ?_
  exact ⟨rfl, B9⟩
end Go.Proofs.YtbpicngbjggblaaGreatDoor
