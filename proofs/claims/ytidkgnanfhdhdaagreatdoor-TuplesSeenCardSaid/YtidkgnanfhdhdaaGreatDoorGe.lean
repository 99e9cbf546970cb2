/- Texts of this proof, together: IpH, IpI, IpJ, IpK. -/
import Derived.Test.YtidkgnanfhdhdaaGreatDoorGd
import Derived.Test.YtidkgnanfhdhdaaGreatDoorGc
import Derived.Lib.VarintBits
import Derived.Deep.RegionHeld3
namespace Go.Proofs.YtidkgnanfhdhdaaGreatDoor
set_option linter.unusedVariables false
set_option linter.unusedSimpArgs false
open Go.ChangeShapes Go.WideShapes Go.ChangeAt Go.RowKit Go.PlainAid
set_option maxHeartbeats 400000 in
theorem ipGet16_ (s : ByteArray) (k : Nat) (w : World) (hs : s.size ≤ maxLen) (h : k + 2 ≤ s.size) :
    Calls Tryz.prog 94 #[.string s, .int .i64 (k : Int)] w fun e w' => e = .returned (.int .u16 (g16 s k)) ∧ Below w.heap.size w w' := by
  go_enter Tryz.func94, Tryz.ntmps94
  go_wp2_with fail
  refine (get16_yes s k _ hs h).mono ?_; rintro e w' ⟨rfl, B⟩
  go_wp2
  go_ret
  exact ⟨rfl, B⟩
set_option maxHeartbeats 400000 in
theorem ipAddress_ (s : ByteArray) (k : Nat) (w : World) (hs : s.size ≤ maxLen) (h : k + 4 ≤ s.size) :
    Calls Tryz.prog 95 #[.string s, .int .i64 (k : Int)] w fun e w' => e = .returned (.int .u32 (g32 s k)) ∧ Below w.heap.size w w' := by
  go_enter Tryz.func95, Tryz.ntmps95
  go_wp2_with fail
  refine (get32_yes s k _ hs h).mono ?_; rintro e w' ⟨rfl, B⟩
  go_wp2
  go_ret
  exact ⟨rfl, B⟩
theorem u8_and15 (x : Int) (h0 : 0 ≤ x) (h1 : x ≤ 255) : bits .and .u8 x 15 = x % 16 := bits_mask .u8 8 (by decide) wraps_u8 4 (by decide) x h0 (by omega)
set_option maxHeartbeats 1000000 in
theorem lengths_ (s : ByteArray) (w : World) (hs : s.size ≤ maxLen) (h : 4 ≤ s.size) :
    Calls Tryz.prog 53 #[.string s] w fun e w' => e = .returned (.tuple #[.int .i64 (ownN s : Int), .int .i64 (g16 s 2)]) ∧ Below w.heap.size w w' := by
  have hb := get_bt s
  have b0 := bt_nonneg s 0
  have b1 := bt_le s 0
  have i0 : (0 : Int) < (s.size : Int) := by omega
  have a1 := u8_and15 (bt s 0) b0 b1
  have a2 : bt s 0 % 16 * 4 = (ownN s : Int) := by unfold ownN; omega
  have n60 : ownN s ≤ 60 := by unfold ownN; omega
  have c0 := g16_nonneg s 2
  have c1 := g16_le s 2
  have x1 : IntKind.i64.wrap (ownN s : Int) = (ownN s : Int) := IntWalk.i64_in _ (by omega)
  have x2 : IntKind.i64.wrap (g16 s 2) = g16 s 2 := IntWalk.i64_in _ (by omega)
  go_enter Tryz.func53, Tryz.ntmps53
  go_wp2_with fail
  refine region_later (B := w.heap.size) (by kernel_rfl) (by kernel_rfl) ?_
  repeat (go_big_quiet_step (first | (go_at_call 94; exact later_of _ (Nat.le_refl _) (ipGet16_ s 2 _ hs (by omega)))))
  refine later_end fun w2 b2 => ?_
  go_wp2
  go_ret2
  exact ⟨rfl, b2⟩
attribute [local go_sem ↓] Go.wp_at_zero Go.wp_at_succ
set_option maxHeartbeats 1000000 in
set_option maxRecDepth 100000 in
theorem read_ (s : ByteArray) (w : World) (hs : s.size ≤ 100) (h : 20 ≤ s.size) :
    Calls Tryz.prog 54 #[.string s] w fun e w' => e = .returned (.agg #[.int .u8 (bt s 1), .int .u16 (g16 s 4), .bool (g16 s 6 == 16384), .int .u8 (bt s 8), .int .u8 (bt s 9), .int .u32 (g32 s 12), .int .u32 (g32 s 16), .string (s.extract 20 s.size)]) ∧ Below w.heap.size w w' := by
  have hb := get_bt s
  have hs2 : s.size ≤ maxLen := by unfold maxLen; omega
  have i1 : (1 : Int) < (s.size : Int) := by omega
  have i8 : (8 : Int) < (s.size : Int) := by omega
  have i9 : (9 : Int) < (s.size : Int) := by omega
  have i20 : (20 : Int) ≤ (s.size : Int) := by omega
  have HZ := size_extract' s 20 s.size h (Nat.le_refl _)
  obtain ⟨t, ht⟩ : ∃ t, t = s.extract 20 s.size := ⟨_, rfl⟩
  go_enter Tryz.func54, Tryz.ntmps54
  go_wp2_with fail
  obtain ⟨w1, hw1⟩ : ∃ w1, w1 = w.alloc (.cells #[.int .u8 0, .int .u16 0, .bool false, .int .u8 0, .int .u8 0, .int .u32 0, .int .u32 0, .string ⟨#[]⟩] 47) := ⟨_, rfl⟩
  rw [← hw1]
  refine region_lead (B := w1.heap.size) 19 1 (by kernel_rfl) (by kernel_rfl) (by kernel_rfl) (by kernel_rfl) ?_
  simp only [List.take_succ_cons, List.take_zero]
  repeat (go_big_quiet_step (first
    | (go_at_call_of 94 (4 : Int); exact later_of _ (Nat.le_refl _) (ipGet16_ s 4 _ hs2 (by omega)))
    | (go_at_call_of 94 (6 : Int); exact later_of _ (Nat.le_refl _) (ipGet16_ s 6 _ hs2 (by omega)))
    | (go_at_call_of 95 (12 : Int); exact later_of _ (Nat.le_refl _) (ipAddress_ s 12 _ hs2 (by omega)))
    | (go_at_call_of 95 (16 : Int); exact later_of _ (Nat.le_refl _) (ipAddress_ s 16 _ hs2 (by omega)))
    | (go_at_call 55; exact later_of _ (Nat.le_refl _) (clone_ _ _ (by rw [HZ]; omega)))))
  refine lead_end (by kernel_rfl) (by kernel_rfl) rfl fun w2 b2 K hK => ?_
  subst hw1
  obtain ⟨hc, hf⟩ := bcell4_ b2
  have hz : w.heap.size < w2.heap.size := by have := b2.size; simp at this; omega
  have B2 : Below w.heap.size w w2 := ((Below.refl _ _).alloc (Nat.le_refl _) _).trans (b2.mono (by simp))
  have hz2 := B2.size
  go_simp
  refine hK.out _ _ ?_
  refine box8_ (b := w.heap.size) (box8_is rfl hc) B2 (Nat.le_refl _) fun w9 x0 x1 x2 x3 x4 x5 x6 x7 B9 _ => ?_
  clear hc hf b2 B2 hK K
  go_wp2
  refine bodyPost_ret (v := .agg #[.int .u8 (bt s 1), .int .u16 (g16 s 4), .bool (g16 s 6 == 16384), .int .u8 (bt s 8), .int .u8 (bt s 9), .int .u32 (g32 s 12), .int .u32 (g32 s 16), .string (s.extract 20 s.size)]) (by simp [results, Tryz.results54, go_sem, x0, x1, x2, x3, x4, x5, x6, x7]) rfl ?_
  exact ⟨rfl, B9⟩
set_option maxHeartbeats 2000000 in
set_option maxRecDepth 100000 in
theorem refused_ (s : ByteArray) (w : World) (hs : s.size < maxLen) :
    Calls Tryz.prog 52 #[.string s] w fun e w' => e = .returned (.int .i64 (pR s)) ∧ Below w.heap.size w w' := by
  have hs' := Nat.le_of_lt hs
  unfold maxLen at hs
  have hs2 : (s.size : Int) ≤ 9223372036854775807 := by omega
  have hb := get_bt s
  have b0 := bt_nonneg s 0
  have b1 := bt_le s 0
  by_cases h20 : s.size < 20
  · have HN : Hid (pR s = 1) := by show _ = _; unfold pR; rw [if_pos h20]
    have e2 : decide ((s.size : Int) < 20) = true := by simp; omega
    clear h20
    go_enter Tryz.func52, Tryz.ntmps52
    go_wp2
    go_ret
    rw [HN.out]
    exact ⟨rfl, Below.refl _ _⟩
  have e2 : decide ((s.size : Int) < 20) = false := by simp; omega
  have i0 : (0 : Int) < (s.size : Int) := by omega
  by_cases hv : bt s 0 / 16 = 4
  rotate_left
  · have HN : Hid (pR s = 2) := by show _ = _; unfold pR; rw [if_neg h20, if_pos hv]
    have e3 : (bt s 0 / 16 != 4) = true := by simpa using hv
    have e3' : (bt s 0 / 16 == 4) = false := by simpa using hv
    clear h20 hv
    go_enter Tryz.func52, Tryz.ntmps52
    go_wp2
    go_ret
    rw [HN.out]
    exact ⟨rfl, Below.refl _ _⟩
  have e3 : (bt s 0 / 16 != 4) = false := by simpa using hv
  have e3' : (bt s 0 / 16 == 4) = true := by simpa using hv
  obtain ⟨n, hn⟩ : ∃ n, n = ownN s := ⟨_, rfl⟩
  have n60 : n ≤ 60 := by rw [hn]; unfold ownN; omega
  have z0 := g16_nonneg s 2
  have z1 := g16_le s 2
  obtain ⟨m, hm⟩ : ∃ m : Nat, g16 s 2 = (m : Int) := ⟨(g16 s 2).toNat, by omega⟩
  rw [hm] at z0 z1
  have hR : pR s = if n < 20 ∨ s.size < n ∨ m < n ∨ s.size < m ∨ 2048 < m then 3
      else if holdsV [s.extract 0 n] = false then 4 else if ¬ g16 s 6 = 0 ∧ ¬ g16 s 6 = 16384 then 5 else 0 := by
    unfold pR; rw [if_neg h20, if_neg (not_not_intro hv), ← hn, hm]; simp only [Int.ofNat_lt, show ((2048 : Int) < (m : Int)) ↔ 2048 < m by omega]
  have cl : ∀ u, Calls Tryz.prog 53 #[.string s] u fun e w' => e = .returned (.tuple #[.int .i64 (n : Int), .int .i64 (m : Int)]) ∧ Below u.heap.size u w' := fun u => by rw [hn, ← hm]; exact lengths_ s u hs' (by omega)
  clear hn hm hv
  by_cases c0 : n < 20
  · have HN : Hid (pR s = 3) := by show _ = _; rw [hR, if_pos (by omega)]
    have q0 : decide ((n : Int) < 20) = true := by simp; omega
    clear h20 hR
    go_enter Tryz.func52, Tryz.ntmps52
    go_wp2_with fail
    refine (cl _).mono ?_; rintro e w1 ⟨rfl, b1⟩
    go_wp2
    go_ret
    rw [HN.out]
    exact ⟨rfl, b1⟩
  have q0 : decide ((n : Int) < 20) = false := by simp; omega
  by_cases c2 : m < n
  · have HN : Hid (pR s = 3) := by show _ = _; rw [hR, if_pos (by omega)]
    have q1 : decide (m < n) = true := by simp; omega
    clear h20 hR
    go_enter Tryz.func52, Tryz.ntmps52
    go_wp2_with fail
    refine (cl _).mono ?_; rintro e w1 ⟨rfl, b1⟩
    go_wp2
    go_ret
    rw [HN.out]
    exact ⟨rfl, b1⟩
  have q1 : decide (m < n) = false := by simp; omega
  have hmin : ∃ k : Nat, (k = s.size ∨ k = 2048) ∧ k ≤ s.size ∧ k ≤ 2048 ∧ ∀ W, (Builtin.min_ #[3, 3] 3 #[.int .i64 (s.size : Int), .int .i64 2048]).run Tryz.prog W = .ok (.int .i64 (k : Int)) W := by
    by_cases hk : 2048 < s.size
    · refine ⟨2048, .inr rfl, by omega, by omega, fun W => ?_⟩
      have : (2048 : Int) < (s.size : Int) := by omega
      simp [Builtin.min_, Builtin.min2, this]
    · refine ⟨s.size, .inl rfl, by omega, by omega, fun W => ?_⟩
      have : ¬ (2048 : Int) < (s.size : Int) := by omega
      simp [Builtin.min_, Builtin.min2, this]
  obtain ⟨k, hk, hk1, hk2, hmin⟩ := hmin
  by_cases c3 : k < m
  · have HN : Hid (pR s = 3) := by show _ = _; rw [hR, if_pos (by omega)]
    have q2 : decide (k < m) = true := by simp; omega
    clear h20 hR hk
    go_enter Tryz.func52, Tryz.ntmps52
    go_wp2_with fail
    refine (cl _).mono ?_; rintro e w1 ⟨rfl, b1⟩
    go_wp2
    go_ret
    rw [HN.out]
    exact ⟨rfl, b1⟩
  have q2 : decide (k < m) = false := by simp; omega
  rw [if_neg (by omega)] at hR
  have hx : (s.extract 0 n).size ≤ maxLen := by rw [size_extract' s 0 n (Nat.zero_le _) (by omega)]; unfold maxLen; omega
  have hn1 : (n : Int) ≤ (s.size : Int) := by omega
  have ch : ∀ (u : World) (b : Nat), b < u.heap.size → u.cell? ⟨b, 0, none⟩ = some (.string (s.extract 0 n)) → Calls Tryz.prog 93 #[.slice (some ⟨b, 0, none⟩) 1 1] u fun e w' => e = .returned (.bool (holdsV [s.extract 0 n])) ∧ Below u.heap.size u w' :=
    fun u b hb h0 => holds_ _ 1 1 [s.extract 0 n] u (rowS1 hb h0 hx)
  obtain ⟨t, ht⟩ : ∃ t, t = s.extract 0 n := ⟨_, rfl⟩
  rw [← ht] at hR ch
  cases hh : holdsV [t]
  · have HN : Hid (pR s = 4) := by show _ = _; rw [hR, if_pos hh]
    rw [hh] at ch
    clear h20 hR hk hh
    go_enter Tryz.func52, Tryz.ntmps52
    go_wp2_with fail
    refine (cl _).mono ?_; rintro e w1 ⟨rfl, b1⟩
    go_wp2_with fail
    refine (ch _ _ (by simp) (by simp [go_sem, ← ht])).mono ?_; rintro e w2 ⟨rfl, b2⟩
    have B2 : Below w.heap.size w w2 := (b1.alloc b1.size _).trans (b2.mono (by have := b1.size; simp; omega))
    go_wp2
    go_ret
    rw [HN.out]
    exact ⟨rfl, B2⟩
  rw [if_neg (by rw [hh]; decide)] at hR
  rw [hh] at ch
  clear hh
  have cg : ∀ u, Calls Tryz.prog 94 #[.string s, .int .i64 6] u fun e w' => e = .returned (.int .u16 (g16 s 6)) ∧ Below u.heap.size u w' := fun u => ipGet16_ s 6 u hs' (by omega)
  obtain ⟨g, hg⟩ : ∃ g, g = g16 s 6 := ⟨_, rfl⟩
  rw [← hg] at cg hR
  clear h20 hk hg
  by_cases g0 : g = 0
  · subst g0
    have HN : Hid (pR s = 0) := by show _ = _; rw [hR, if_neg (by omega)]
    clear hR
    go_enter Tryz.func52, Tryz.ntmps52
    go_wp2_with fail
    refine (cl _).mono ?_; rintro e w1 ⟨rfl, b1⟩
    go_wp2_with fail
    refine (ch _ _ (by simp) (by simp [go_sem, ← ht])).mono ?_; rintro e w2 ⟨rfl, b2⟩
    have B2 : Below w.heap.size w w2 := (b1.alloc b1.size _).trans (b2.mono (by have := b1.size; simp; omega))
    clear b1 b2
    go_wp2_with fail
    refine (cg _).mono ?_; rintro e w3 ⟨rfl, b3⟩
    have B3 : Below w.heap.size w w3 := B2.trans (b3.mono B2.size)
    go_wp2
    go_ret
    rw [HN.out]
    exact ⟨rfl, B3⟩
  have g1 : (g != 0) = true := by simpa using g0
  by_cases g2 : g = 16384
  · have HN : Hid (pR s = 0) := by show _ = _; rw [hR, if_neg (by omega)]
    clear hR g0
    subst g2
    go_enter Tryz.func52, Tryz.ntmps52
    go_wp2_with fail
    refine (cl _).mono ?_; rintro e w1 ⟨rfl, b1⟩
    go_wp2_with fail
    refine (ch _ _ (by simp) (by simp [go_sem, ← ht])).mono ?_; rintro e w2 ⟨rfl, b2⟩
    have B2 : Below w.heap.size w w2 := (b1.alloc b1.size _).trans (b2.mono (by have := b1.size; simp; omega))
    clear b1 b2
    go_wp2_with fail
    refine (cg _).mono ?_; rintro e w3 ⟨rfl, b3⟩
    have B3 : Below w.heap.size w w3 := B2.trans (b3.mono B2.size)
    go_wp2
    go_ret
    rw [HN.out]
    exact ⟨rfl, B3⟩
  · have HN : Hid (pR s = 5) := by show _ = _; rw [hR, if_pos ⟨g0, g2⟩]
    have g3 : (g != 16384) = true := by simpa using g2
    clear hR g0 g2
    go_enter Tryz.func52, Tryz.ntmps52
    go_wp2_with fail
    refine (cl _).mono ?_; rintro e w1 ⟨rfl, b1⟩
    go_wp2_with fail
    refine (ch _ _ (by simp) (by simp [go_sem, ← ht])).mono ?_; rintro e w2 ⟨rfl, b2⟩
    have B2 : Below w.heap.size w w2 := (b1.alloc b1.size _).trans (b2.mono (by have := b1.size; simp; omega))
    clear b1 b2
    go_wp2_with fail
    refine (cg _).mono ?_; rintro e w3 ⟨rfl, b3⟩
    have B3 : Below w.heap.size w w3 := B2.trans (b3.mono B2.size)
    go_wp2
    go_ret
    rw [HN.out]
    exact ⟨rfl, B3⟩
end Go.Proofs.YtidkgnanfhdhdaaGreatDoor

namespace Go.Proofs.YtidkgnanfhdhdaaGreatDoor
set_option linter.unusedVariables false
set_option linter.unusedSimpArgs false
open Go.ChangeShapes Go.WideShapes Go.ChangeAt Go.RowKit Go.PlainAid
attribute [local go_sem ↓] Go.wp_at_zero Go.wp_at_succ
theorem g32_ext0 (s : ByteArray) (n i : Nat) (hi : i + 3 < n) (hn : n ≤ s.size) : g32 (s.extract 0 n) i = g32 s i := by
  rw [g32_two, g32_two, g16_ext0 s n i (by omega) hn, g16_ext0 s n (i + 2) (by omega) hn]
theorem ext_ext0 (s : ByteArray) (n i : Nat) : (s.extract 0 n).extract i n = s.extract i n := by
  apply ba_ext
  rw [data_extract, data_extract, data_extract, List.drop_zero, List.take_take, Nat.min_self]
/-- What a header says that is taken. -/
theorem pR_facts {s : ByteArray} (h : pR s = 0) : 20 ≤ s.size ∧ 20 ≤ ownN s ∧ ownN s ≤ 60 ∧ ownN s ≤ s.size ∧ (ownN s : Int) ≤ g16 s 2 ∧ g16 s 2 ≤ (s.size : Int) ∧ g16 s 2 ≤ 2048 ∧ (g16 s 6 = 0 ∨ g16 s 6 = 16384) := by
  have b0 := bt_nonneg s 0
  have b1 := bt_le s 0
  have h60 : ownN s ≤ 60 := by unfold ownN; omega
  unfold pR at h
  by_cases h1 : s.size < 20
  · rw [if_pos h1] at h; omega
  rw [if_neg h1] at h
  by_cases h2 : bt s 0 / 16 = 4
  rotate_left
  · rw [if_pos h2] at h; omega
  rw [if_neg (not_not_intro h2)] at h
  by_cases h3 : ownN s < 20 ∨ s.size < ownN s ∨ g16 s 2 < (ownN s : Int) ∨ (s.size : Int) < g16 s 2 ∨ 2048 < g16 s 2
  · rw [if_pos h3] at h; omega
  rw [if_neg h3] at h
  by_cases hh : holdsV [s.extract 0 (ownN s)] = false
  · rw [if_pos hh] at h; omega
  rw [if_neg hh] at h
  by_cases h4 : ¬ g16 s 6 = 0 ∧ ¬ g16 s 6 = 16384
  · rw [if_pos h4] at h; omega
  omega
set_option maxHeartbeats 2000000 in
set_option maxRecDepth 100000 in
theorem ipParse_ (s : ByteArray) (w : World) (hs : s.size < maxLen) :
    Calls Tryz.prog 23 #[.string s] w fun e w' => e = .returned (.tuple #[.agg #[.int .u8 (pI s (bt s 1)), .int .u16 (pI s (g16 s 4)), .bool (pF s), .int .u8 (pI s (bt s 8)), .int .u8 (pI s (bt s 9)), .int .u32 (pI s (g32 s 12)), .int .u32 (pI s (g32 s 16)), .string (pO s)], .string (pP s), .int .i64 (pR s)]) ∧ Below w.heap.size w w' := by
  have hs' := Nat.le_of_lt hs
  have cr := fun u => refused_ s u hs
  by_cases hr : pR s = 0
  rotate_left
  · have HN := Lib.hid (p_no hr)
    have e1 : (pR s != 0) = true := by simpa using hr
    clear hr
    go_enter Tryz.func23, Tryz.ntmps23
    go_wp2_with fail
    refine (cr _).mono ?_; rintro e w1 ⟨rfl, b1⟩
    obtain ⟨hc, hf⟩ := bcell4_ b1
    have hz : w.heap.size < w1.heap.size := by have := b1.size; simp at this; omega
    have B1 : Below w.heap.size w w1 := ((Below.refl _ _).alloc (Nat.le_refl _) _).trans (b1.mono (by simp))
    have hz2 := B1.size
    go_wp2
    refine box8_ (b := w.heap.size) (box8_is rfl hc) B1 (Nat.le_refl _) fun w9 x0 x1 x2 x3 x4 x5 x6 x7 B9 _ => ?_
    clear hc hf b1 B1
    refine bodyPost_ret (v := .tuple #[.agg #[.int .u8 0, .int .u16 0, .bool false, .int .u8 0, .int .u8 0, .int .u32 0, .int .u32 0, .string ⟨#[]⟩], .string ⟨#[]⟩, .int .i64 (pR s)]) (by simp [results, Tryz.results23, go_sem, x0, x1, x2, x3, x4, x5, x6, x7]) rfl ?_
    rw [HN.out.1, HN.out.1, HN.out.1, HN.out.1, HN.out.1, HN.out.1, HN.out.2.1, HN.out.2.2.1, HN.out.2.2.2]
    exact ⟨rfl, B9⟩
  obtain ⟨f20, g20, f60, fs, fm, fms, f2048, ff⟩ := pR_facts hr
  obtain ⟨y1, y2, y3, y4⟩ := p_yes hr
  rw [y1, y1, y1, y1, y1, y1, y2, y3, y4, hr]
  rw [hr] at cr
  obtain ⟨n, hn⟩ : ∃ n, n = ownN s := ⟨_, rfl⟩
  obtain ⟨m, hm⟩ : ∃ m : Nat, g16 s 2 = (m : Int) := ⟨(g16 s 2).toNat, by have := g16_nonneg s 2; omega⟩
  have cl : ∀ u, Calls Tryz.prog 53 #[.string s] u fun e w' => e = .returned (.tuple #[.int .i64 (n : Int), .int .i64 (m : Int)]) ∧ Below u.heap.size u w' := fun u => by rw [hn, ← hm]; exact lengths_ s u hs' (by omega)
  rw [← hn] at g20 f60 fs fm ⊢
  rw [hm] at fm fms f2048 ⊢
  rw [show ((m : Int)).toNat = m by omega]
  have zt := size_extract' s 0 n (Nat.zero_le _) fs
  have cd := fun u => read_ (s.extract 0 n) u (by omega) (by omega)
  rw [bt_ext0 s n 1 (by omega) fs, bt_ext0 s n 8 (by omega) fs, bt_ext0 s n 9 (by omega) fs, g16_ext0 s n 4 (by omega) fs, g16_ext0 s n 6 (by omega) fs, g32_ext0 s n 12 (by omega) fs, g32_ext0 s n 16 (by omega) fs, zt, Nat.sub_zero, ext_ext0] at cd
  have zp := size_extract' s n m (by omega) (by omega)
  have cc := fun u => clone_ (s.extract n m) u (by omega)
  have hfl : (g16 s 6 == 16384) = decide (0 < g16 s 6) := by rcases ff with h | h <;> rw [h] <;> rfl
  rw [hfl] at cd
  clear hfl zp zt y1 y2 y3 y4 hr
  have i1 : (n : Int) ≤ (s.size : Int) := by omega
  have i2 : (m : Int) ≤ (s.size : Int) := by omega
  have i3 : (n : Int) ≤ (m : Int) := by omega
  generalize decide (0 < g16 s 6) = fl at *
  generalize bt s 1 = v1 at *
  generalize g16 s 4 = v2 at *
  generalize bt s 8 = v3 at *
  generalize bt s 9 = v4 at *
  generalize g32 s 12 = v5 at *
  generalize g32 s 16 = v6 at *
  obtain ⟨x, hx⟩ : ∃ x, x = s.extract 20 n := ⟨_, rfl⟩
  rw [← hx] at cd ⊢
  clear hx
  clear hm hn ff
  go_enter Tryz.func23, Tryz.ntmps23
  go_wp2_with fail
  refine (cr _).mono ?_; rintro e w1 ⟨rfl, b1⟩
  go_wp2_with fail
  refine (cl _).mono ?_; rintro e w2 ⟨rfl, b2⟩
  obtain ⟨w0, hw0⟩ : ∃ w0, w0 = w.alloc (.cells #[.int .u8 0, .int .u16 0, .bool false, .int .u8 0, .int .u8 0, .int .u32 0, .int .u32 0, .string ⟨#[]⟩] 47) := ⟨_, rfl⟩
  rw [← hw0] at b1
  have b02 := b1.trans (b2.mono b1.size)
  clear b1 b2 cr cl
  go_wp2_with fail
  refine region_lead (B := w2.heap.size) 9 3 (by kernel_rfl) (by kernel_rfl) (by kernel_rfl) (by kernel_rfl) ?_
  simp only [List.take_succ_cons, List.take_zero]
  repeat (go_big_quiet_step (first
    | (go_at_call 54; exact later_of _ (Nat.le_refl _) (cd _))
    | (go_at_call 55; exact later_of _ (Nat.le_refl _) (cc _))))
  refine lead_tail (fin := #[true, true, true, true, true, true, true, true, true, false, false, false]) (by kernel_rfl) fun f w3 b3 => ?_
  subst hw0
  have b03 := b02.trans (b3.mono b02.size)
  obtain ⟨hc, hf⟩ := bcell4_ b03
  have hz : w.heap.size < w3.heap.size := by have := b03.size; simp at this; omega
  have B2 : Below w.heap.size w w3 := ((Below.refl _ _).alloc (Nat.le_refl _) _).trans (b03.mono (by simp))
  have hz2 := B2.size
  refine wpAny_ready (rs := [9]) (by kernel_rfl) (by simp) (AllReady.cons rfl (fun K hK => ?_) AllReady.nil)
  go_simp
  refine hK _ _ ?_
  clear hK K
  refine box8_ (b := w.heap.size) (box8_is rfl hc) B2 (Nat.le_refl _) fun w9 x0 x1 x2 x3 x4 x5 x6 x7 B9 _ => ?_
  clear hc hf b03 b02 B2
  refine wpAny_ready (rs := [10]) (by kernel_rfl) (by simp) (AllReady.cons rfl (fun K hK => ?_) AllReady.nil)
  go_simp
  refine hK _ _ ?_
  clear hK K
  refine wpAny_ready (rs := [11]) (by kernel_rfl) (by simp) (AllReady.cons rfl (fun K hK => ?_) AllReady.nil)
  go_simp
  refine hK _ _ ?_
  clear hK K
  refine wpAny_done (by kernel_rfl) ?_ _
  go_wp2
  refine bodyPost_ret (v := .tuple #[.agg #[.int .u8 v1, .int .u16 v2, .bool fl, .int .u8 v3, .int .u8 v4, .int .u32 v5, .int .u32 v6, .string x], .string (s.extract n m), .int .i64 0]) (by simp [results, Tryz.results23, go_sem, x0, x1, x2, x3, x4, x5, x6, x7]) rfl ?_
  exact ⟨rfl, B9⟩
end Go.Proofs.YtidkgnanfhdhdaaGreatDoor

namespace Go.Proofs.YtidkgnanfhdhdaaGreatDoor
set_option linter.unusedVariables false
set_option linter.unusedSimpArgs false
open Go.ChangeShapes Go.WideShapes Go.ChangeAt Go.RowKit Go.PlainAid
theorem u16_h14 (x : Int) (h0 : 0 ≤ x) (h1 : x < 16384) : bits .or .u16 16384 x = 16384 + x := by
  rw [u16_or _ _ (by omega) (by omega) h0 (by omega)]
  have h := Nat.two_pow_add_eq_or_of_lt (i := 14) (b := x.toNat) (by omega) 1
  have e : (16384 : Int).toNat = 2 ^ 14 * 1 := by rfl
  rw [e, ← h]
  omega
attribute [local go_sem ↓] Go.wp_at_zero Go.wp_at_succ
set_option maxHeartbeats 4000000 in
set_option maxRecDepth 100000 in
theorem bytes_ (a id : Int) (fl : Bool) (tt pr sr ds : Int) (o : ByteArray) (size sum : Int) (w : World) (a0 : 0 ≤ a) (a1 : a ≤ 255) (i0 : 0 ≤ id) (i1 : id ≤ 65535) (t0 : 0 ≤ tt) (t1 : tt ≤ 255) (p0 : 0 ≤ pr) (p1 : pr ≤ 255)
    (s0 : 0 ≤ sr) (s1 : sr ≤ 4294967295) (d0 : 0 ≤ ds) (d1 : ds ≤ 4294967295) (ho : o.size ≤ 40) (z0 : 0 ≤ size) (z1 : size ≤ 65535) (m0 : 0 ≤ sum) (m1 : sum ≤ 65535) :
    Calls Tryz.prog 83 #[.agg #[.int .u8 a, .int .u16 id, .bool fl, .int .u8 tt, .int .u8 pr, .int .u32 sr, .int .u32 ds, .string o, .int .u16 size, .int .u16 sum]] w fun e w' => e = .returned (.string (hdrB a id fl tt pr sr ds o size sum)) ∧ Below w.heap.size w w' := by
  have ho2 : (o.size : Int) ≤ 40 := by omega
  obtain ⟨q, hq⟩ : ∃ q : Nat, q = 5 + o.size / 4 := ⟨_, rfl⟩
  have q1 : q ≤ 15 := by omega
  obtain ⟨z, hz⟩ : ∃ z : Int, z = 20 + (o.size : Int) := ⟨_, rfl⟩
  have x1 : 20 + (o.size : Int) = z := hz.symm
  have x2 : z / 4 = (q : Int) := by omega
  have x2' : z.tdiv 4 = (q : Int) := by rw [Int.tdiv_eq_ediv_of_nonneg (by omega)]; exact x2
  have w1' : IntKind.u16.wrap (q : Int) = (q : Int) := IntWalk.u16_in _ (by omega)
  have w2' : IntKind.u16.wrap ((q : Int) * 256) = (q : Int) * 256 := IntWalk.u16_in _ (by omega)
  have w3' : IntKind.u16.wrap a = a := IntWalk.u16_in _ (by omega)
  have w4' : IntKind.u16.wrap tt = tt := IntWalk.u16_in _ (by omega)
  have w5' : IntKind.u16.wrap (tt * 256) = tt * 256 := IntWalk.u16_in _ (by omega)
  have w6' : IntKind.u16.wrap pr = pr := IntWalk.u16_in _ (by omega)
  have zb0 : 0 ≤ z := by omega
  have zb1 : z ≤ 60 := by omega
  have x3 := u16_h14 ((q : Int) * 256) (by omega) (by omega)
  have x4 : 16384 + (q : Int) * 256 = (64 + (q : Int)) * 256 := by omega
  have x5 := u16_hl (64 + (q : Int)) a (by omega) (by omega) a0 a1
  have x6 := u16_hl tt pr t0 t1 p0 p1
  obtain ⟨fi, hfi⟩ : ∃ x : Int, x = if fl then 16384 else 0 := ⟨_, rfl⟩
  obtain ⟨f1, hf1⟩ : ∃ x : Int, x = (64 + (q : Int)) * 256 + a := ⟨_, rfl⟩
  obtain ⟨f5, hf5⟩ : ∃ x : Int, x = tt * 256 + pr := ⟨_, rfl⟩
  have HV : Hid (strOfNums (wordL [f1, size, id, fi, f5, sum]) ++ strOfNums (wordL [sr / 65536, sr % 65536]) ++ strOfNums (wordL [ds / 65536, ds % 65536]) ++ o = hdrB a id fl tt pr sr ds o size sum) := by
    show _ = _
    unfold hdrB
    rw [strOfNums_append, strOfNums_append]
    congr 2
    rw [hf1, hf5, hfi]
    simp only [hdrW, wordL, List.flatMap_cons, List.flatMap_nil, List.append_nil, List.cons_append, List.nil_append]
    rw [show (64 + (q : Int)) * 256 + a = 256 * (69 + (o.size : Int) / 4) + a by omega, Int.mul_comm tt 256]
  obtain ⟨u1, hu1⟩ : ∃ u, u = strOfNums (wordL [f1, size, id, fi, f5, sum]) := ⟨_, rfl⟩
  obtain ⟨u5, hu5⟩ : ∃ u, u = strOfNums (wordL [sr / 65536, sr % 65536]) := ⟨_, rfl⟩
  obtain ⟨u6, hu6⟩ : ∃ u, u = strOfNums (wordL [ds / 65536, ds % 65536]) := ⟨_, rfl⟩
  have zu1 : u1.size = 12 := by rw [hu1, size_W]; rfl
  have zu5 : u5.size = 4 := by rw [hu5, size_W]; rfl
  have zu6 : u6.size = 4 := by rw [hu6, size_W]; rfl
  have y1 : ¬ 9223372036854775807 < u1.size + u5.size := by omega
  have y2 : ¬ 9223372036854775807 < u1.size + u5.size + u6.size := by omega
  have y3 : ¬ 9223372036854775807 < u1.size + u5.size + u6.size + o.size := by omega
  rw [← hf1] at x5
  rw [← hf5] at x6
  have cw : ∀ u (b : Nat), b < u.heap.size → u.cell? ⟨b, 0, none⟩ = some (.int .u16 f1) → u.cell? ⟨b, 1, none⟩ = some (.int .u16 size) → u.cell? ⟨b, 2, none⟩ = some (.int .u16 id) → u.cell? ⟨b, 3, none⟩ = some (.int .u16 fi) → u.cell? ⟨b, 4, none⟩ = some (.int .u16 f5) → u.cell? ⟨b, 5, none⟩ = some (.int .u16 sum) → Calls Tryz.prog 79 #[.slice (some ⟨b, 0, none⟩) 6 6] u fun e w' => e = .returned (.string u1) ∧ Below u.heap.size u w' := by
    intro u b hb h0 h1 h2 h3 h4 h5
    rw [hu1]
    refine word_any _ 6 6 [f1, size, id, fi, f5, sum] u ⟨rfl, .inr ⟨b, 0, rfl, hb, ?_⟩⟩ (by omega) (by intro x hx; simp at hx; cases fl <;> simp at hfi <;> omega)
    intro t ht
    match t, ht with
    | 0, _ => simpa using h0
    | 1, _ => simpa using h1
    | 2, _ => simpa using h2
    | 3, _ => simpa using h3
    | 4, _ => simpa using h4
    | 5, _ => simpa using h5
  have c5 : ∀ u, Calls Tryz.prog 112 #[.int .u32 sr] u fun e w' => e = .returned (.string u5) ∧ Below u.heap.size u w' := by rw [hu5]; exact fun u => put32 sr u s0 s1
  have c6 : ∀ u, Calls Tryz.prog 112 #[.int .u32 ds] u fun e w' => e = .returned (.string u6) ∧ Below u.heap.size u w' := by rw [hu6]; exact fun u => put32 ds u d0 d1
  rw [← hu1, ← hu5, ← hu6] at HV
  clear hu1 hu5 hu6 hf1 hf5 hq hz zu1 zu5 zu6
  cases fl
  · simp only [Bool.false_eq_true, if_false] at hfi
    subst hfi
    go_enter Tryz.func83, Tryz.ntmps83
    go_wp2_with fail
    obtain ⟨w1, hw1⟩ : ∃ w1, w1 = w.alloc (.cells #[.int .u8 a, .int .u16 id, .bool false, .int .u8 tt, .int .u8 pr, .int .u32 sr, .int .u32 ds, .string o, .int .u16 size, .int .u16 sum] 140) := ⟨_, rfl⟩
    have k0 : w1.cell? ⟨w.heap.size, 0, none⟩ = some (.int .u8 a) := by rw [hw1]; simp [go_sem]
    have k1 : w1.cell? ⟨w.heap.size, 1, none⟩ = some (.int .u16 id) := by rw [hw1]; simp [go_sem]
    have k3 : w1.cell? ⟨w.heap.size, 3, none⟩ = some (.int .u8 tt) := by rw [hw1]; simp [go_sem]
    have k4 : w1.cell? ⟨w.heap.size, 4, none⟩ = some (.int .u8 pr) := by rw [hw1]; simp [go_sem]
    have k5 : w1.cell? ⟨w.heap.size, 5, none⟩ = some (.int .u32 sr) := by rw [hw1]; simp [go_sem]
    have k6 : w1.cell? ⟨w.heap.size, 6, none⟩ = some (.int .u32 ds) := by rw [hw1]; simp [go_sem]
    have k7 : w1.cell? ⟨w.heap.size, 7, none⟩ = some (.string o) := by rw [hw1]; simp [go_sem]
    have k8 : w1.cell? ⟨w.heap.size, 8, none⟩ = some (.int .u16 size) := by rw [hw1]; simp [go_sem]
    have k9 : w1.cell? ⟨w.heap.size, 9, none⟩ = some (.int .u16 sum) := by rw [hw1]; simp [go_sem]
    have s1 : w.heap.size < w1.heap.size := by rw [hw1]; simp
    have B1 : Below w.heap.size w w1 := by rw [hw1]; exact (Below.refl _ _).alloc (Nat.le_refl _) _
    rw [← hw1]
    clear hw1
    have MK := Lib.hid (show ∀ w', Below w1.heap.size w1 w' → w'.cell? ⟨w.heap.size, 0, none⟩ = some (.int .u8 a) ∧ w'.cell? ⟨w.heap.size, 1, none⟩ = some (.int .u16 id) ∧ w'.cell? ⟨w.heap.size, 3, none⟩ = some (.int .u8 tt) ∧ w'.cell? ⟨w.heap.size, 4, none⟩ = some (.int .u8 pr) ∧ w'.cell? ⟨w.heap.size, 5, none⟩ = some (.int .u32 sr) ∧ w'.cell? ⟨w.heap.size, 6, none⟩ = some (.int .u32 ds) ∧ w'.cell? ⟨w.heap.size, 7, none⟩ = some (.string o) ∧ w'.cell? ⟨w.heap.size, 8, none⟩ = some (.int .u16 size) ∧ w'.cell? ⟨w.heap.size, 9, none⟩ = some (.int .u16 sum) ∧ Below w1.heap.size w1 w' from
      fun w' h => ⟨(h.cell (p := ⟨_, 0, none⟩) s1).trans k0, (h.cell (p := ⟨_, 1, none⟩) s1).trans k1, (h.cell (p := ⟨_, 3, none⟩) s1).trans k3, (h.cell (p := ⟨_, 4, none⟩) s1).trans k4, (h.cell (p := ⟨_, 5, none⟩) s1).trans k5, (h.cell (p := ⟨_, 6, none⟩) s1).trans k6, (h.cell (p := ⟨_, 7, none⟩) s1).trans k7, (h.cell (p := ⟨_, 8, none⟩) s1).trans k8, (h.cell (p := ⟨_, 9, none⟩) s1).trans k9, h⟩)
    clear k0 k1 k3 k4 k5 k6 k7 k8 k9
    go_region_held3 (fun w' => w'.cell? ⟨w.heap.size, 0, none⟩ = some (.int .u8 a) ∧ w'.cell? ⟨w.heap.size, 1, none⟩ = some (.int .u16 id) ∧ w'.cell? ⟨w.heap.size, 3, none⟩ = some (.int .u8 tt) ∧ w'.cell? ⟨w.heap.size, 4, none⟩ = some (.int .u8 pr) ∧ w'.cell? ⟨w.heap.size, 5, none⟩ = some (.int .u32 sr) ∧ w'.cell? ⟨w.heap.size, 6, none⟩ = some (.int .u32 ds) ∧ w'.cell? ⟨w.heap.size, 7, none⟩ = some (.string o) ∧ w'.cell? ⟨w.heap.size, 8, none⟩ = some (.int .u16 size) ∧ w'.cell? ⟨w.heap.size, 9, none⟩ = some (.int .u16 sum) ∧ Below w1.heap.size w1 w')
      ((go_split_ands
        refine MK.out _ ?_
        repeat
          first
            | assumption
            | exact Below.refl _ _
            | refine Below.drew ?_
            | refine Below.alloc ?_ ?_ _
            | (refine Below.trans ?_ (hbw.mono ?_))
            | (refine Below.size (B := w1.heap.size) ?_
               assumption)
            | focus (simp; done)
            | focus (simp; omega)))
      ((first
        | (go_at_call 79
           refine (cw _ _ ?_ ?_ ?_ ?_ ?_ ?_ ?_).mono ?_
           · simp
           · simp [go_sem]
           · simp [go_sem]
           · simp [go_sem]
           · simp [go_sem]
           · simp [go_sem]
           · simp [go_sem]
           rintro e w2 ⟨rfl, hbw⟩)
        | (go_at_call_of 112 sr
           refine (c5 _).mono ?_
           rintro e w2 ⟨rfl, hbw⟩)
        | (go_at_call_of 112 ds
           refine (c6 _).mono ?_
           rintro e w2 ⟨rfl, hbw⟩)))
    rename_i HH
    have b2 := HH.2.2.2.2.2.2.2.2.2
    clear MK cw c5 c6 HH
    go_wp2
    go_ret
    rw [← HV.out]
    exact ⟨rfl, B1.trans (b2.mono (by omega))⟩
  · simp only [if_true] at hfi
    subst hfi
    go_enter Tryz.func83, Tryz.ntmps83
    go_wp2_with fail
    obtain ⟨w1, hw1⟩ : ∃ w1, w1 = w.alloc (.cells #[.int .u8 a, .int .u16 id, .bool true, .int .u8 tt, .int .u8 pr, .int .u32 sr, .int .u32 ds, .string o, .int .u16 size, .int .u16 sum] 140) := ⟨_, rfl⟩
    have k0 : w1.cell? ⟨w.heap.size, 0, none⟩ = some (.int .u8 a) := by rw [hw1]; simp [go_sem]
    have k1 : w1.cell? ⟨w.heap.size, 1, none⟩ = some (.int .u16 id) := by rw [hw1]; simp [go_sem]
    have k3 : w1.cell? ⟨w.heap.size, 3, none⟩ = some (.int .u8 tt) := by rw [hw1]; simp [go_sem]
    have k4 : w1.cell? ⟨w.heap.size, 4, none⟩ = some (.int .u8 pr) := by rw [hw1]; simp [go_sem]
    have k5 : w1.cell? ⟨w.heap.size, 5, none⟩ = some (.int .u32 sr) := by rw [hw1]; simp [go_sem]
    have k6 : w1.cell? ⟨w.heap.size, 6, none⟩ = some (.int .u32 ds) := by rw [hw1]; simp [go_sem]
    have k7 : w1.cell? ⟨w.heap.size, 7, none⟩ = some (.string o) := by rw [hw1]; simp [go_sem]
    have k8 : w1.cell? ⟨w.heap.size, 8, none⟩ = some (.int .u16 size) := by rw [hw1]; simp [go_sem]
    have k9 : w1.cell? ⟨w.heap.size, 9, none⟩ = some (.int .u16 sum) := by rw [hw1]; simp [go_sem]
    have s1 : w.heap.size < w1.heap.size := by rw [hw1]; simp
    have B1 : Below w.heap.size w w1 := by rw [hw1]; exact (Below.refl _ _).alloc (Nat.le_refl _) _
    rw [← hw1]
    clear hw1
    have MK := Lib.hid (show ∀ w', Below w1.heap.size w1 w' → w'.cell? ⟨w.heap.size, 0, none⟩ = some (.int .u8 a) ∧ w'.cell? ⟨w.heap.size, 1, none⟩ = some (.int .u16 id) ∧ w'.cell? ⟨w.heap.size, 3, none⟩ = some (.int .u8 tt) ∧ w'.cell? ⟨w.heap.size, 4, none⟩ = some (.int .u8 pr) ∧ w'.cell? ⟨w.heap.size, 5, none⟩ = some (.int .u32 sr) ∧ w'.cell? ⟨w.heap.size, 6, none⟩ = some (.int .u32 ds) ∧ w'.cell? ⟨w.heap.size, 7, none⟩ = some (.string o) ∧ w'.cell? ⟨w.heap.size, 8, none⟩ = some (.int .u16 size) ∧ w'.cell? ⟨w.heap.size, 9, none⟩ = some (.int .u16 sum) ∧ Below w1.heap.size w1 w' from
      fun w' h => ⟨(h.cell (p := ⟨_, 0, none⟩) s1).trans k0, (h.cell (p := ⟨_, 1, none⟩) s1).trans k1, (h.cell (p := ⟨_, 3, none⟩) s1).trans k3, (h.cell (p := ⟨_, 4, none⟩) s1).trans k4, (h.cell (p := ⟨_, 5, none⟩) s1).trans k5, (h.cell (p := ⟨_, 6, none⟩) s1).trans k6, (h.cell (p := ⟨_, 7, none⟩) s1).trans k7, (h.cell (p := ⟨_, 8, none⟩) s1).trans k8, (h.cell (p := ⟨_, 9, none⟩) s1).trans k9, h⟩)
    clear k0 k1 k3 k4 k5 k6 k7 k8 k9
    go_region_held3 (fun w' => w'.cell? ⟨w.heap.size, 0, none⟩ = some (.int .u8 a) ∧ w'.cell? ⟨w.heap.size, 1, none⟩ = some (.int .u16 id) ∧ w'.cell? ⟨w.heap.size, 3, none⟩ = some (.int .u8 tt) ∧ w'.cell? ⟨w.heap.size, 4, none⟩ = some (.int .u8 pr) ∧ w'.cell? ⟨w.heap.size, 5, none⟩ = some (.int .u32 sr) ∧ w'.cell? ⟨w.heap.size, 6, none⟩ = some (.int .u32 ds) ∧ w'.cell? ⟨w.heap.size, 7, none⟩ = some (.string o) ∧ w'.cell? ⟨w.heap.size, 8, none⟩ = some (.int .u16 size) ∧ w'.cell? ⟨w.heap.size, 9, none⟩ = some (.int .u16 sum) ∧ Below w1.heap.size w1 w')
      ((go_split_ands
        refine MK.out _ ?_
        repeat
          first
            | assumption
            | exact Below.refl _ _
            | refine Below.drew ?_
            | refine Below.alloc ?_ ?_ _
            | (refine Below.trans ?_ (hbw.mono ?_))
            | (refine Below.size (B := w1.heap.size) ?_
               assumption)
            | focus (simp; done)
            | focus (simp; omega)))
      ((first
        | (go_at_call 79
           refine (cw _ _ ?_ ?_ ?_ ?_ ?_ ?_ ?_).mono ?_
           · simp
           · simp [go_sem]
           · simp [go_sem]
           · simp [go_sem]
           · simp [go_sem]
           · simp [go_sem]
           · simp [go_sem]
           rintro e w2 ⟨rfl, hbw⟩)
        | (go_at_call_of 112 sr
           refine (c5 _).mono ?_
           rintro e w2 ⟨rfl, hbw⟩)
        | (go_at_call_of 112 ds
           refine (c6 _).mono ?_
           rintro e w2 ⟨rfl, hbw⟩)))
    rename_i HH
    have b2 := HH.2.2.2.2.2.2.2.2.2
    clear MK cw c5 c6 HH
    go_wp2
    go_ret
    rw [← HV.out]
    exact ⟨rfl, B1.trans (b2.mono (by omega))⟩
end Go.Proofs.YtidkgnanfhdhdaaGreatDoor

namespace Go.Proofs.YtidkgnanfhdhdaaGreatDoor
set_option linter.unusedVariables false
set_option linter.unusedSimpArgs false
open Go.ChangeShapes Go.WideShapes Go.ChangeAt Go.RowKit Go.PlainAid
attribute [local go_sem ↓] Go.wp_at_zero Go.wp_at_succ
set_option maxHeartbeats 4000000 in
set_option maxRecDepth 100000 in
theorem seal_ (a id : Int) (fl : Bool) (tt pr sr ds : Int) (o : ByteArray) (size : Int) (w : World) (a0 : 0 ≤ a) (a1 : a ≤ 255) (i0 : 0 ≤ id) (i1 : id ≤ 65535) (t0 : 0 ≤ tt) (t1 : tt ≤ 255) (p0 : 0 ≤ pr) (p1 : pr ≤ 255)
    (s0 : 0 ≤ sr) (s1 : sr ≤ 4294967295) (d0 : 0 ≤ ds) (d1 : ds ≤ 4294967295) (ho : o.size ≤ 40) (z0 : 0 ≤ size) (z1 : size ≤ 65535) :
    Calls Tryz.prog 82 #[.agg #[.int .u8 a, .int .u16 id, .bool fl, .int .u8 tt, .int .u8 pr, .int .u32 sr, .int .u32 ds, .string o], .int .i64 size] w fun e w' => e = .returned (.agg #[.int .u8 a, .int .u16 id, .bool fl, .int .u8 tt, .int .u8 pr, .int .u32 sr, .int .u32 ds, .string o, .int .u16 size, .int .u16 (sumV [hdrB a id fl tt pr sr ds o size 0])]) ∧ Below w.heap.size w w' := by
  have cby := fun u => bytes_ a id fl tt pr sr ds o size 0 u a0 a1 i0 i1 t0 t1 p0 p1 s0 s1 d0 d1 ho z0 z1 (by omega) (by omega)
  have hs1 := hdrB_size a id fl tt pr sr ds o size 0
  obtain ⟨H1, hH1⟩ : ∃ h, h = hdrB a id fl tt pr sr ds o size 0 := ⟨_, rfl⟩
  rw [← hH1] at cby hs1 ⊢
  clear hH1
  have csum : ∀ (u : World) (b : Nat), b < u.heap.size → u.cell? ⟨b, 0, none⟩ = some (.string H1) → Calls Tryz.prog 111 #[.slice (some ⟨b, 0, none⟩) 1 1] u fun e w' => e = .returned (.int .u16 (sumV [H1])) ∧ Below u.heap.size u w' :=
    fun u b hb h0 => sum_ _ 1 1 [H1] u (rowS1 hb h0 (by unfold maxLen; omega))
  generalize sumV [H1] = sm at *
  have wz : IntKind.u16.wrap size = size := IntWalk.u16_in _ (by omega)
  clear hs1
  go_enter Tryz.func82, Tryz.ntmps82
  go_wp2_with fail
  refine (cby _).mono ?_; rintro e w2 ⟨rfl, b2⟩
  have g0 : w2.cell? ⟨w.heap.size + 1 + 1, 0, none⟩ = some (.int .u8 a) := ipKept_ b2 (by simp [go_sem]) (by simp)
  have g1 : w2.cell? ⟨w.heap.size + 1 + 1, 1, none⟩ = some (.int .u16 id) := ipKept_ b2 (by simp [go_sem]) (by simp)
  have g2 : w2.cell? ⟨w.heap.size + 1 + 1, 2, none⟩ = some (.bool fl) := ipKept_ b2 (by simp [go_sem]) (by simp)
  have g3 : w2.cell? ⟨w.heap.size + 1 + 1, 3, none⟩ = some (.int .u8 tt) := ipKept_ b2 (by simp [go_sem]) (by simp)
  have g4 : w2.cell? ⟨w.heap.size + 1 + 1, 4, none⟩ = some (.int .u8 pr) := ipKept_ b2 (by simp [go_sem]) (by simp)
  have g5 : w2.cell? ⟨w.heap.size + 1 + 1, 5, none⟩ = some (.int .u32 sr) := ipKept_ b2 (by simp [go_sem]) (by simp)
  have g6 : w2.cell? ⟨w.heap.size + 1 + 1, 6, none⟩ = some (.int .u32 ds) := ipKept_ b2 (by simp [go_sem]) (by simp)
  have g7 : w2.cell? ⟨w.heap.size + 1 + 1, 7, none⟩ = some (.string o) := ipKept_ b2 (by simp [go_sem]) (by simp)
  have g8 : w2.cell? ⟨w.heap.size + 1 + 1, 8, none⟩ = some (.int .u16 size) := ipKept_ b2 (by simp [go_sem]) (by simp)
  have g9 : w2.cell? ⟨w.heap.size + 1 + 1, 9, none⟩ = some (.int .u16 0) := ipKept_ b2 (by simp [go_sem]) (by simp)
  have c0 : w2.cell? ⟨w.heap.size + 1, 0, none⟩ = some (.int .u8 0) := ipKept_ b2 (by simp [go_sem]) (by simp)
  have c1 : w2.cell? ⟨w.heap.size + 1, 1, none⟩ = some (.int .u16 0) := ipKept_ b2 (by simp [go_sem]) (by simp)
  have c2 : w2.cell? ⟨w.heap.size + 1, 2, none⟩ = some (.bool false) := ipKept_ b2 (by simp [go_sem]) (by simp)
  have c3 : w2.cell? ⟨w.heap.size + 1, 3, none⟩ = some (.int .u8 0) := ipKept_ b2 (by simp [go_sem]) (by simp)
  have c4 : w2.cell? ⟨w.heap.size + 1, 4, none⟩ = some (.int .u8 0) := ipKept_ b2 (by simp [go_sem]) (by simp)
  have c5 : w2.cell? ⟨w.heap.size + 1, 5, none⟩ = some (.int .u32 0) := ipKept_ b2 (by simp [go_sem]) (by simp)
  have c6 : w2.cell? ⟨w.heap.size + 1, 6, none⟩ = some (.int .u32 0) := ipKept_ b2 (by simp [go_sem]) (by simp)
  have c7 : w2.cell? ⟨w.heap.size + 1, 7, none⟩ = some (.string ⟨#[]⟩) := ipKept_ b2 (by simp [go_sem]) (by simp)
  have c8 : w2.cell? ⟨w.heap.size + 1, 8, none⟩ = some (.int .u16 0) := ipKept_ b2 (by simp [go_sem]) (by simp)
  have c9 : w2.cell? ⟨w.heap.size + 1, 9, none⟩ = some (.int .u16 0) := ipKept_ b2 (by simp [go_sem]) (by simp)
  have f1 : ∀ j, w2.frozen? ⟨w.heap.size + 1, j, none⟩ = false := fun j => by rw [b2.frozen (p := ⟨_, j, none⟩) (by simp)]; simp [go_sem]
  have f2 : ∀ j, w2.frozen? ⟨w.heap.size + 1 + 1, j, none⟩ = false := fun j => by rw [b2.frozen (p := ⟨_, j, none⟩) (by simp)]; simp [go_sem]
  have u2 : w.heap.size + 1 + 1 < w2.heap.size := by have := b2.size; simp at this; omega
  have B2 : Below w.heap.size w w2 := ((((Below.refl _ _).alloc (Nat.le_refl _) _).alloc (by simp) _).alloc (by simp; omega) _).trans (b2.mono (by simp; omega))
  clear b2 cby
  go_wp2_with fail
  refine (csum _ _ (by simp) (by simp [go_sem])).mono ?_; rintro e w3 ⟨rfl, b3⟩
  have g0 : w3.cell? ⟨w.heap.size + 1 + 1, 0, none⟩ = some (.int .u8 a) := ipKept_ b3 ((World.cell?_alloc_lt _ _ _ (by exact u2)).trans g0) (by simp; omega)
  have g1 : w3.cell? ⟨w.heap.size + 1 + 1, 1, none⟩ = some (.int .u16 id) := ipKept_ b3 ((World.cell?_alloc_lt _ _ _ (by exact u2)).trans g1) (by simp; omega)
  have g2 : w3.cell? ⟨w.heap.size + 1 + 1, 2, none⟩ = some (.bool fl) := ipKept_ b3 ((World.cell?_alloc_lt _ _ _ (by exact u2)).trans g2) (by simp; omega)
  have g3 : w3.cell? ⟨w.heap.size + 1 + 1, 3, none⟩ = some (.int .u8 tt) := ipKept_ b3 ((World.cell?_alloc_lt _ _ _ (by exact u2)).trans g3) (by simp; omega)
  have g4 : w3.cell? ⟨w.heap.size + 1 + 1, 4, none⟩ = some (.int .u8 pr) := ipKept_ b3 ((World.cell?_alloc_lt _ _ _ (by exact u2)).trans g4) (by simp; omega)
  have g5 : w3.cell? ⟨w.heap.size + 1 + 1, 5, none⟩ = some (.int .u32 sr) := ipKept_ b3 ((World.cell?_alloc_lt _ _ _ (by exact u2)).trans g5) (by simp; omega)
  have g6 : w3.cell? ⟨w.heap.size + 1 + 1, 6, none⟩ = some (.int .u32 ds) := ipKept_ b3 ((World.cell?_alloc_lt _ _ _ (by exact u2)).trans g6) (by simp; omega)
  have g7 : w3.cell? ⟨w.heap.size + 1 + 1, 7, none⟩ = some (.string o) := ipKept_ b3 ((World.cell?_alloc_lt _ _ _ (by exact u2)).trans g7) (by simp; omega)
  have g8 : w3.cell? ⟨w.heap.size + 1 + 1, 8, none⟩ = some (.int .u16 size) := ipKept_ b3 ((World.cell?_alloc_lt _ _ _ (by exact u2)).trans g8) (by simp; omega)
  have g9 : w3.cell? ⟨w.heap.size + 1 + 1, 9, none⟩ = some (.int .u16 0) := ipKept_ b3 ((World.cell?_alloc_lt _ _ _ (by exact u2)).trans g9) (by simp; omega)
  have c0 : w3.cell? ⟨w.heap.size + 1, 0, none⟩ = some (.int .u8 0) := ipKept_ b3 ((World.cell?_alloc_lt _ _ _ (by show w.heap.size + 1 < _; omega)).trans c0) (by simp; omega)
  have c1 : w3.cell? ⟨w.heap.size + 1, 1, none⟩ = some (.int .u16 0) := ipKept_ b3 ((World.cell?_alloc_lt _ _ _ (by show w.heap.size + 1 < _; omega)).trans c1) (by simp; omega)
  have c2 : w3.cell? ⟨w.heap.size + 1, 2, none⟩ = some (.bool false) := ipKept_ b3 ((World.cell?_alloc_lt _ _ _ (by show w.heap.size + 1 < _; omega)).trans c2) (by simp; omega)
  have c3 : w3.cell? ⟨w.heap.size + 1, 3, none⟩ = some (.int .u8 0) := ipKept_ b3 ((World.cell?_alloc_lt _ _ _ (by show w.heap.size + 1 < _; omega)).trans c3) (by simp; omega)
  have c4 : w3.cell? ⟨w.heap.size + 1, 4, none⟩ = some (.int .u8 0) := ipKept_ b3 ((World.cell?_alloc_lt _ _ _ (by show w.heap.size + 1 < _; omega)).trans c4) (by simp; omega)
  have c5 : w3.cell? ⟨w.heap.size + 1, 5, none⟩ = some (.int .u32 0) := ipKept_ b3 ((World.cell?_alloc_lt _ _ _ (by show w.heap.size + 1 < _; omega)).trans c5) (by simp; omega)
  have c6 : w3.cell? ⟨w.heap.size + 1, 6, none⟩ = some (.int .u32 0) := ipKept_ b3 ((World.cell?_alloc_lt _ _ _ (by show w.heap.size + 1 < _; omega)).trans c6) (by simp; omega)
  have c7 : w3.cell? ⟨w.heap.size + 1, 7, none⟩ = some (.string ⟨#[]⟩) := ipKept_ b3 ((World.cell?_alloc_lt _ _ _ (by show w.heap.size + 1 < _; omega)).trans c7) (by simp; omega)
  have c8 : w3.cell? ⟨w.heap.size + 1, 8, none⟩ = some (.int .u16 0) := ipKept_ b3 ((World.cell?_alloc_lt _ _ _ (by show w.heap.size + 1 < _; omega)).trans c8) (by simp; omega)
  have c9 : w3.cell? ⟨w.heap.size + 1, 9, none⟩ = some (.int .u16 0) := ipKept_ b3 ((World.cell?_alloc_lt _ _ _ (by show w.heap.size + 1 < _; omega)).trans c9) (by simp; omega)
  have f1 : ∀ j, w3.frozen? ⟨w.heap.size + 1, j, none⟩ = false := fun j => by rw [b3.frozen (p := ⟨_, j, none⟩) (by simp; omega), ← f1 j]; exact World.frozen?_alloc_past _ _ _ (by omega)
  have f2 : ∀ j, w3.frozen? ⟨w.heap.size + 1 + 1, j, none⟩ = false := fun j => by rw [b3.frozen (p := ⟨_, j, none⟩) (by simp; omega), ← f2 j]; exact World.frozen?_alloc_past _ _ _ (by omega)
  have B3 : Below w.heap.size w w3 := (B2.alloc B2.size _).trans (b3.mono (by have := B2.size; simp; omega))
  have u3 : w.heap.size + 1 + 1 < w3.heap.size := by have := b3.size; simp at this; omega
  clear b3 csum B2
  go_wp2
  refine box10_ (b := w.heap.size + 1) ?_ (B3.setCell (by show _ ≤ w.heap.size + 1 + 1; omega) _) (by omega) fun w9 x0 x1 x2 x3 x4 x5 x6 x7 x8 x9 B9 _ _ => ?_
  · intro j hj
    rw [World.cell?_setCell_far _ _ _ _ (by show ¬ w.heap.size + 1 + 1 = w.heap.size + 1; omega)]
    match j, hj with
    | 0, _ => rw [c0]; rfl
    | 1, _ => rw [c1]; rfl
    | 2, _ => rw [c2]; rfl
    | 3, _ => rw [c3]; rfl
    | 4, _ => rw [c4]; rfl
    | 5, _ => rw [c5]; rfl
    | 6, _ => rw [c6]; rfl
    | 7, _ => rw [c7]; rfl
    | 8, _ => rw [c8]; rfl
    | 9, _ => rw [c9]; rfl
  refine bodyPost_ret (v := .agg #[.int .u8 a, .int .u16 id, .bool fl, .int .u8 tt, .int .u8 pr, .int .u32 sr, .int .u32 ds, .string o, .int .u16 size, .int .u16 sm]) (by simp [results, Tryz.results82, go_sem, x0, x1, x2, x3, x4, x5, x6, x7, x8, x9]) rfl ?_
  exact ⟨rfl, B9⟩
set_option maxHeartbeats 4000000 in
set_option maxRecDepth 100000 in
theorem put_ (a id : Int) (fl : Bool) (tt pr sr ds : Int) (o p : ByteArray) (w : World) (a0 : 0 ≤ a) (a1 : a ≤ 255) (i0 : 0 ≤ id) (i1 : id ≤ 65535) (t0 : 0 ≤ tt) (t1 : tt ≤ 255) (p0 : 0 ≤ pr) (p1 : pr ≤ 255)
    (s0 : 0 ≤ sr) (s1 : sr ≤ 4294967295) (d0 : 0 ≤ ds) (d1 : ds ≤ 4294967295) (ho : o.size ≤ 1000000) (hp : p.size ≤ 1000000) :
    Calls Tryz.prog 49 #[.agg #[.int .u8 a, .int .u16 id, .bool fl, .int .u8 tt, .int .u8 pr, .int .u32 sr, .int .u32 ds, .string o], .string p] w fun e w' => e = .returned (.tuple #[.string (putB a id fl tt pr sr ds o p), .int .i64 (putE o.size p.size)]) ∧ Below w.heap.size w w' := by
  obtain ⟨n, hn⟩ : ∃ n, o.size = n := ⟨_, rfl⟩
  obtain ⟨m, hm⟩ : ∃ m, p.size = m := ⟨_, rfl⟩
  rw [hn] at ho
  rw [hm] at hp
  by_cases h40 : 40 < n
  · have HE : Hid (putE o.size p.size = 2) := by show _ = _; unfold putE; rw [hn, if_pos (.inl h40)]
    have HB : Hid (putB a id fl tt pr sr ds o p = ⟨#[]⟩) := by show _ = _; unfold putB; rw [HE.out]; rfl
    have e2 : decide ((40 : Int) < (n : Int)) = true := by simp; omega
    have e3 : decide (40 < n) = true := by simp; omega
    clear h40
    go_enter Tryz.func49, Tryz.ntmps49
    go_wp2
    go_ret2
    rw [HE.out, HB.out]
    exact ⟨rfl, (Below.refl _ _).alloc (Nat.le_refl _) _⟩
  have e2 : decide ((40 : Int) < (n : Int)) = false := by simp; omega
  by_cases h4 : n % 4 = 0
  rotate_left
  · have HE : Hid (putE o.size p.size = 2) := by show _ = _; unfold putE; rw [hn, if_pos (.inr h4)]
    have HB : Hid (putB a id fl tt pr sr ds o p = ⟨#[]⟩) := by show _ = _; unfold putB; rw [HE.out]; rfl
    obtain ⟨r, hr⟩ : ∃ r : Int, (n : Int) % 4 = r := ⟨_, rfl⟩
    have e3 : (r != 0) = true := by simp; omega
    clear h40 h4
    go_enter Tryz.func49, Tryz.ntmps49
    go_wp2
    go_ret2
    rw [HE.out, HB.out]
    exact ⟨rfl, (Below.refl _ _).alloc (Nat.le_refl _) _⟩
  have e5 : (n : Int) % 4 = 0 := by omega
  by_cases h5 : 2028 < n + m
  · have HE : Hid (putE o.size p.size = 4) := by show _ = _; unfold putE; rw [hn, hm, if_neg (by omega), if_pos h5]
    have HB : Hid (putB a id fl tt pr sr ds o p = ⟨#[]⟩) := by show _ = _; unfold putB; rw [HE.out]; rfl
    have e6 : decide (2048 - (20 + (n : Int)) < (m : Int)) = true := by simp; omega
    clear h5 h4
    go_enter Tryz.func49, Tryz.ntmps49
    go_wp2
    go_ret2
    rw [HE.out, HB.out]
    exact ⟨rfl, (Below.refl _ _).alloc (Nat.le_refl _) _⟩
  have HE : Hid (putE o.size p.size = 0) := by show _ = _; unfold putE; rw [hn, hm, if_neg (by omega), if_neg h5]
  obtain ⟨z, hz⟩ : ∃ z : Int, z = 20 + (n : Int) + (m : Int) := ⟨_, rfl⟩
  have HB : Hid (putB a id fl tt pr sr ds o p = hdrS a id fl tt pr sr ds o z ++ p) := by show _ = _; unfold putB; rw [HE.out, if_pos rfl, hn, hm, hz]
  have e6 : decide (2048 - (20 + (n : Int)) < (m : Int)) = false := by simp; omega
  have hz0 : 0 ≤ z := by omega
  have hz1 : z ≤ 65535 := by omega
  have cse := fun u => seal_ a id fl tt pr sr ds o z u a0 a1 i0 i1 t0 t1 p0 p1 s0 s1 d0 d1 (by omega) hz0 hz1
  have hsm := sumV_bd [hdrB a id fl tt pr sr ds o z 0]
  have cby := fun u => bytes_ a id fl tt pr sr ds o z (sumV [hdrB a id fl tt pr sr ds o z 0]) u a0 a1 i0 i1 t0 t1 p0 p1 s0 s1 d0 d1 (by omega) hz0 hz1 hsm.1 hsm.2
  have hs2 := hdrB_size a id fl tt pr sr ds o z (sumV [hdrB a id fl tt pr sr ds o z 0])
  have HS2 : Hid (hdrS a id fl tt pr sr ds o z = hdrB a id fl tt pr sr ds o z (sumV [hdrB a id fl tt pr sr ds o z 0])) := rfl
  obtain ⟨H2, hH2⟩ : ∃ h, h = hdrB a id fl tt pr sr ds o z (sumV [hdrB a id fl tt pr sr ds o z 0]) := ⟨_, rfl⟩
  rw [← hH2] at cby hs2 HS2
  clear hH2
  generalize sumV [hdrB a id fl tt pr sr ds o z 0] = sm at *
  have q1 : H2.size + p.size ≤ 9223372036854775807 := by omega
  have x1 : 20 + (n : Int) + (m : Int) = z := hz.symm
  clear hs2 hz h4 h40 h5
  have HN := Lib.hid hn
  go_enter Tryz.func49, Tryz.ntmps49
  go_wp2_with fail
  refine (cse _).mono ?_; rintro e w2 ⟨rfl, b2⟩
  have B2 : Below w.heap.size w w2 := ((Below.refl _ _).alloc (Nat.le_refl _) _).trans (b2.mono (by simp))
  clear b2 cse
  go_wp2_with fail
  refine (cby _).mono ?_; rintro e w3 ⟨rfl, b3⟩
  have B3 : Below w.heap.size w w3 := B2.trans (b3.mono B2.size)
  clear b3 B2 cby
  go_wp2
  go_ret2
  rw [HE.out, HB.out, HS2.out]
  exact ⟨rfl, B3⟩
end Go.Proofs.YtidkgnanfhdhdaaGreatDoor
