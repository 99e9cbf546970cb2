/- The walk of IpSpoilt. -/
import Derived.Test.YtfiokjenfmpmlaaIpM
import Derived.Test.YtfiokjenfmpmlaaIpG
import Derived.Test.YtfiokjenfmpmlaaIpE
import Derived.Test.YtfiokjenfmpmlaaSumsTurned
namespace Go.Proofs.Ytfiokjenfmpmlaa.IpSpoilt
set_option linter.unusedVariables false
set_option linter.unusedSimpArgs false
open Go.ChangeShapes Go.WideShapes Go.ChangeAt Go.RowKit Go.PlainAid
/-- A byte of which one bit is turned. -/
theorem xor_bit (x : Int) (b : Nat) (h0 : 0 ≤ x) (h1 : x ≤ 255) (hb : b < 8) : 0 ≤ bits .xor .u8 x ((2 ^ b : Nat) : Int) ∧ bits .xor .u8 x ((2 ^ b : Nat) : Int) ≤ 255 ∧ ¬ bits .xor .u8 x ((2 ^ b : Nat) : Int) = x ∧ (4 ≤ b → bits .xor .u8 x ((2 ^ b : Nat) : Int) % 16 = x % 16) := by
  obtain ⟨X, hX⟩ : ∃ X : Nat, x = (X : Int) := ⟨x.toNat, by omega⟩
  subst hX
  have hp : 2 ^ b < 256 := by
    have := Nat.pow_lt_pow_right (a := 2) (by omega) hb
    simpa using this
  rw [u8_xor_nat X (2 ^ b) (by omega) hp]
  have hlt : X ^^^ 2 ^ b < 2 ^ 8 := Nat.xor_lt_two_pow (by omega) (by omega)
  refine ⟨by omega, by omega, ?_, ?_⟩
  · intro h
    have h2 : X ^^^ 2 ^ b = X ^^^ 0 := by rw [Nat.xor_zero]; omega
    have h3 : X ^^^ (X ^^^ 2 ^ b) = X ^^^ (X ^^^ 0) := by rw [h2]
    rw [← Nat.xor_assoc, ← Nat.xor_assoc, Nat.xor_self, Nat.zero_xor, Nat.zero_xor] at h3
    have := Nat.two_pow_pos b
    omega
  · intro h4
    have h5 : 2 ^ b % 2 ^ 4 = 0 := by
      rw [show b = 4 + (b - 4) by omega, Nat.pow_add, Nat.mul_mod_right]
    have h6 : (X ^^^ 2 ^ b) % 2 ^ 4 = X % 2 ^ 4 := by rw [Nat.xor_mod_two_pow, h5, Nat.xor_zero]
    have h7 : (X ^^^ 2 ^ b) % 16 = X % 16 := h6
    omega
set_option maxRecDepth 100000 in
set_option maxHeartbeats 4000000 in
theorem walk (a id : Int) (fl : Bool) (tt pr sr ds : Int) (o p : ByteArray) (q : Int) (w : World) (ha : (Lit.int .u8 a).wf = true) (hi : (Lit.int .u16 id).wf = true) (ht : (Lit.int .u8 tt).wf = true) (hp : (Lit.int .u8 pr).wf = true) (hsr : (Lit.int .u32 sr).wf = true) (hds : (Lit.int .u32 ds).wf = true) (ho : o.size ≤ maxLen) (hpl : p.size ≤ maxLen) (hq : (Lit.int .u16 q).wf = true) :
    Calls Try.prog 7 #[.agg #[.int .u8 a, .int .u16 id, .bool fl, .int .u8 tt, .int .u8 pr, .int .u32 sr, .int .u32 ds, .string o], .string p, .int .u16 q] w fun e w' => e = .returned (.bool true) ∧ Below w.heap.size w w' := by
  obtain ⟨q0, q1⟩ := bounds_u16 hq
  clear hq
  obtain ⟨a0, a1⟩ := bounds_u8 ha
  obtain ⟨i0, i1⟩ := bounds_u16 hi
  obtain ⟨t0, t1⟩ := bounds_u8 ht
  obtain ⟨p0, p1⟩ := bounds_u8 hp
  obtain ⟨s0, s1⟩ := bounds_u32 hsr
  obtain ⟨d0, d1⟩ := bounds_u32 hds
  clear ha hi ht hp hsr hds ho hpl
  obtain ⟨n, hn⟩ : ∃ n, o.size = n := ⟨_, rfl⟩
  obtain ⟨m, hm⟩ : ∃ m, p.size = m := ⟨_, rfl⟩
  by_cases h1 : 100 < n
  · have e1 : decide ((100 : Int) < (n : Int)) = true := by simp; omega
    clear h1
    go_enter Try.func7, Try.ntmps7
    go_wp2_with fail
    refine (headed_ _).mono ?_; rintro e w1 ⟨rfl, b1⟩
    have B1 : Below w.heap.size w w1 := ((Below.refl _ _).alloc (Nat.le_refl _) _).trans (b1.mono (by simp))
    go_wp2
    go_ret
    exact ⟨rfl, B1⟩
  have e1 : decide ((100 : Int) < (n : Int)) = false := by simp; omega
  by_cases h2 : 2100 < m
  · have e2 : decide ((2100 : Int) < (m : Int)) = true := by simp; omega
    clear h1 h2
    go_enter Try.func7, Try.ntmps7
    go_wp2_with fail
    refine (headed_ _).mono ?_; rintro e w1 ⟨rfl, b1⟩
    have B1 : Below w.heap.size w w1 := ((Below.refl _ _).alloc (Nat.le_refl _) _).trans (b1.mono (by simp))
    go_wp2
    go_ret
    exact ⟨rfl, B1⟩
  have e2 : decide ((2100 : Int) < (m : Int)) = false := by simp; omega
  have c1 := fun u => put_ a id fl tt pr sr ds o p u a0 a1 i0 i1 t0 t1 p0 p1 s0 s1 d0 d1 (by omega) (by omega)
  rw [hn, hm] at c1
  by_cases hE : putE n m = 0
  rotate_left
  · have hB : putB a id fl tt pr sr ds o p = ⟨#[]⟩ := by unfold putB; rw [hn, hm, if_neg hE]
    have g1 : (putE n m != 0) = true := by simpa using hE
    rw [hB] at c1
    generalize putE n m = r at *
    clear hE hB h1 h2
    go_enter Try.func7, Try.ntmps7
    go_wp2_with fail
    refine (c1 _).mono ?_; rintro e w1 ⟨rfl, x1⟩
    have B1 : Below w.heap.size w w1 := ((Below.refl _ _).alloc (Nat.le_refl _) _).trans (x1.mono (by simp))
    clear x1
    go_wp2_with fail
    refine (headed_ _).mono ?_; rintro e w2 ⟨rfl, x2⟩
    have B2 := B1.trans (x2.mono B1.size)
    clear B1 x2
    go_wp2
    go_ret
    exact ⟨rfl, B2⟩
  have ho40 : n ≤ 40 ∧ n % 4 = 0 ∧ n + m ≤ 2028 := by
    unfold putE at hE
    by_cases x1 : 40 < n ∨ ¬ n % 4 = 0
    · rw [if_pos x1] at hE; omega
    rw [if_neg x1] at hE
    by_cases x3 : 2028 < n + m
    · rw [if_pos x3] at hE; omega
    omega
  obtain ⟨y1, y2, y3⟩ := ho40
  have PP := parse_put a id fl tt pr sr ds o p ByteArray.empty a0 a1 i0 i1 t0 t1 p0 p1 s0 s1 d0 d1 (by omega) (by omega) (by omega)
  have hB : putB a id fl tt pr sr ds o p = hdrS a id fl tt pr sr ds o (20 + (o.size : Int) + (p.size : Int)) ++ p := by unfold putB; rw [hn, hm, if_pos hE]
  have zH : (hdrS a id fl tt pr sr ds o (20 + (o.size : Int) + (p.size : Int))).size = 20 + n := by unfold hdrS; rw [hdrB_size, hn]
  rw [hB, hE] at c1
  generalize hdrS a id fl tt pr sr ds o (20 + (o.size : Int) + (p.size : Int)) = H at *
  rw [hn, hm, ByteArray.append_empty] at PP
  obtain ⟨S, hS⟩ : ∃ S, S = H ++ p := ⟨_, rfl⟩
  have zS : S.size = 20 + n + m := by rw [hS, ByteArray.size_append, zH, hm]
  rw [← hS] at c1 PP
  obtain ⟨r1, _, r3, _⟩ := PP
  clear zH hS hB hE
  -- the bit
  obtain ⟨Q, hQ⟩ : ∃ Q : Nat, q = (Q : Int) := ⟨q.toNat, by omega⟩
  subst hQ
  obtain ⟨j, hj⟩ : ∃ j, j = (Q % (8 * (20 + n))) / 8 := ⟨_, rfl⟩
  obtain ⟨b, hb⟩ : ∃ b, b = (Q % (8 * (20 + n))) % 8 := ⟨_, rfl⟩
  have hjn : j < 20 + n := by rw [hj]; have := Nat.mod_lt Q (show 0 < 8 * (20 + n) by omega); omega
  have hb8 : b < 8 := by omega
  obtain ⟨z, hz⟩ : ∃ z, z = 20 + n + m := ⟨_, rfl⟩
  rw [← hz] at zS
  obtain ⟨k, hk⟩ : ∃ k, k = Q % (8 * (20 + n)) := ⟨_, rfl⟩
  rw [← hk] at hj hb
  have hkj : k = 8 * j + b := by omega
  have hkD : k < 8 * (20 + n) := by rw [hk]; exact Nat.mod_lt _ (by omega)
  obtain ⟨u, hu⟩ : ∃ u, u = 20 + n := ⟨_, rfl⟩
  obtain ⟨D, hD⟩ : ∃ D, D = 8 * u := ⟨_, rfl⟩
  have v2 : (z : Int) - (m : Int) = (u : Int) := by omega
  have v3 : 8 * (u : Int) = (D : Int) := by omega
  have v4 : ((D : Int) == 0) = false := by simp; omega
  have v5 : (Q : Int).tmod (D : Int) = (k : Int) := by
    rw [Int.tmod_eq_emod_of_nonneg (by omega), hk, ← hu, ← hD]; rfl
  have v5' : (Q : Int) % (D : Int) = (k : Int) := by rw [hk, ← hu, ← hD]; rfl
  have v6 : decide ((z : Int) < 20) = false := by simp; omega
  have v7 : (k : Int) / 8 = (j : Int) := by omega
  have v8 : (k : Int) % 8 = (b : Int) := by omega
  have v9 : (j : Int) < (z : Int) := by omega
  have v10 : ¬ (D : Int) = 0 := by omega
  have v11 : (D : Int) ≤ 20000 := by omega
  have v12 : (k : Int) ≤ 20000 := by omega
  have X := xor_bit (bt S j) b (bt_nonneg S j) (bt_le S j) hb8
  have hjz : j < S.size := by omega
  have hju : j < ownN S := by omega
  have hzb : z ≤ 3000 := by omega
  have hbk : k < 4 ∨ ¬ j = 0 ∨ 4 ≤ b := by omega
  have HK := Lib.hid hkj
  have v13 : (0 : Int) ≤ (k : Int) := by omega
  have v14 : (b : Int) ≤ 7 := by omega
  clear hz hk hu hD hb hj hjn y1 y2 y3 h1 h2 r1 hkj
  go_enter Try.func7, Try.ntmps7
  go_wp2_with fail
  refine (c1 _).mono ?_; rintro e w1 ⟨rfl, x1⟩
  have B1 : Below w.heap.size w w1 := ((Below.refl _ _).alloc (Nat.le_refl _) _).trans (x1.mono (by simp))
  obtain ⟨w2, c, hconv, B2, hlt, HB⟩ := bytes_of_string S w1
  have cj := (HB j hjz).1
  have fj := (HB j hjz).2
  have HBB := Lib.hid HB
  clear x1 c1 HB
  go_wp2_with fail
  have dj : ∀ x : Later w2.heap.size w2, x.u.cell? ⟨w1.heap.size, j, none⟩ = some (.int .u8 (bt S j)) := fun x => x.block hlt cj
  refine region_lead (B := w2.heap.size) 10 1 (by kernel_rfl) (by kernel_rfl) (by kernel_rfl) (by kernel_rfl) ?_
  simp only [List.take_succ_cons, List.take_zero]
  repeat (go_big_quiet_step (fail))
  refine lead_end (by kernel_rfl) (by kernel_rfl) rfl fun w3 b3 K hK => ?_
  have HB3 : Bts w3 w1.heap.size S.size (bt S) := fun i hi => ⟨(b3.cell (p := ⟨_, i, none⟩) hlt).trans (HBB.out i hi).1, (b3.frozen (p := ⟨_, i, none⟩) hlt).trans (HBB.out i hi).2⟩
  have cj3 := (HB3 j hjz).1
  have fj3 := (HB3 j hjz).2
  have HBB3 := Lib.hid HB3
  clear HB3 cj fj dj HBB
  have hp : (2 : Int) ^ b % 256 = ((2 ^ b : Nat) : Int) := by
    have h9 : 2 ^ b < 256 := by have := Nat.pow_lt_pow_right (a := 2) (by omega) hb8; simpa using this
    have h10 : ((2 ^ b : Nat) : Int) = (2 : Int) ^ b := by simp
    rw [← h10]
    generalize 2 ^ b = P at *
    omega
  have HP := Lib.hid hp
  have HX := Lib.hid X
  clear hp X
  go_simp
  rw [HP.out]
  obtain ⟨Y, hY⟩ : ∃ Y, Y = bits .xor .u8 (bt S j) ((2 ^ b : Nat) : Int) := ⟨_, rfl⟩
  obtain ⟨Y0, Y1, Y2, Y3⟩ := HX.out
  rw [← hY] at Y0 Y1 Y2 Y3 ⊢
  clear hY HP HX
  refine hK.out _ _ ?_
  clear hK K cj3 fj3
  have B3 : Below w.heap.size w w3 := (B1.trans (B2.mono B1.size)).trans (b3.mono (by have := B1.size; have := B2.size; omega))
  have B4 := B3.setCell (p := ⟨w1.heap.size, j, none⟩) B1.size (.int .u8 Y)
  have HB4 := HBB3.out.set j Y hjz
  obtain ⟨w4, hw4⟩ : ∃ w4, w4 = w3.setCell ⟨w1.heap.size, j, none⟩ (.int .u8 Y) := ⟨_, rfl⟩
  rw [← hw4] at B4 HB4 ⊢
  clear hw4 B3 b3 HBB3 B2 B1 hlt
  -- the text with that byte
  obtain ⟨xs, hxs⟩ : ∃ xs, xs = (List.range S.size).map (fun i => if i = j then Y else bt S i) := ⟨_, rfl⟩
  have xl : xs.length = S.size := by rw [hxs]; simp
  have xg : ∀ i, i < S.size → xs.getD i 0 = if i = j then Y else bt S i := by
    intro i hi
    rw [getD_lt _ _ _ (by omega)]
    simp [hxs]
  have xw : ∀ x ∈ xs, 0 ≤ x ∧ x ≤ 255 := by
    intro x hx
    rw [hxs] at hx
    obtain ⟨i, _, rfl⟩ := List.mem_map.1 hx
    split
    · exact ⟨Y0, Y1⟩
    · exact ⟨bt_nonneg S i, bt_le S i⟩
  have hconv2 := run_convert_bytes_arg (P := Try.prog) w4 41 5 Try.underlying41 Try.underlying5 w1.heap.size 0 S.size c xs xl (by intro i hi; rw [Nat.zero_add, (HB4 i hi).1, xg i hi]) 9 Try.underlying9
  obtain ⟨T, hT⟩ : ∃ T, T = strOfNums xs := ⟨_, rfl⟩
  rw [← hT, zS] at hconv2
  have zT : T.size = S.size := by rw [hT, strOfNums_size, xl]
  have tb : ∀ i, ¬ i = j → bt T i = bt S i := by
    intro i hi
    rw [hT, bt_nums xs i xw]
    by_cases h : i < S.size
    · rw [xg i h, if_neg hi]
    · rw [getD_ge _ _ _ (by omega), bt_eq, getD_ge _ _ _ (by rw [len_data]; omega)]; rfl
  have tj : bt T j = Y := by rw [hT, bt_nums xs j xw, xg j hjz, if_pos rfl]
  have key : k < 4 ∨ ¬ pR T = 0 := by
    rcases hbk with h | h
    · exact .inl h
    · refine .inr (spoilt_no S T j zT hju tb (by rw [tj]; exact Y2) ?_ r3)
      unfold ownN
      by_cases j0 : j = 0
      · have hb4 : 4 ≤ b := by omega
        have := Y3 hb4
        rw [j0] at tj this
        rw [tj, this]
      · rw [tb 0 (by omega)]
  have cp := fun u => parse_ T u (by unfold maxLen; omega)
  obtain ⟨b1, b2, g1, g2, g3⟩ : ∃ b1 b2 : Bool, decide ((k : Int) < 4) = b1 ∧ (pR T != 0) = b2 ∧ (b1 = true ∨ (b1 = false ∧ b2 = true)) := by
    refine ⟨_, _, rfl, rfl, ?_⟩
    rcases key with h | h
    · exact .inl (by simp; omega)
    · by_cases h2 : (k : Int) < 4
      · exact .inl (by simp; omega)
      · exact .inr ⟨by simp; omega, by simpa using h⟩
  generalize pI T (bt T 1) = u1 at *
  generalize pI T (g16 T 4) = u2 at *
  generalize pF T = u3 at *
  generalize pI T (bt T 8) = u4 at *
  generalize pI T (bt T 9) = u5 at *
  generalize pI T (g32 T 12) = u6 at *
  generalize pI T (g32 T 16) = u7 at *
  generalize pO T = u8 at *
  generalize pP T = u9 at *
  generalize pR T = r at *
  clear key tj tb hT zT xw xg xl hxs HB4 Y0 Y1 Y2 Y3 r3 hju hjz HK hbk
  rcases g3 with rfl | ⟨rfl, rfl⟩
  all_goals
    go_wp2_with fail
    refine (cp _).mono ?_; rintro e w5 ⟨rfl, x5⟩
    have B5 := B4.trans (x5.mono B4.size)
    have B6 := B5.alloc B5.size (.cells #[.int .u8 u1, .int .u16 u2, .bool u3, .int .u8 u4, .int .u8 u5, .int .u32 u6, .int .u32 u7, .string u8] 27)
    clear x5 B4 B5 cp
    go_wp2_with fail
    refine (headed_ _).mono ?_; rintro e w6 ⟨rfl, x6⟩
    have B7 := B6.trans (x6.mono B6.size)
    clear B6 x6
    go_wp2
    go_ret
    exact ⟨rfl, B7⟩
end Go.Proofs.Ytfiokjenfmpmlaa.IpSpoilt
