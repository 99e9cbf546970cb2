/- The walk of IcmpSeal. -/
import Derived.Test.YtlcgpjeggelbaaaIcmpM
import Derived.Test.YtlcgpjeggelbaaaSumsTurned
import Derived.Test.YtlcgpjeggelbaaaLead
namespace Go.Proofs.Ytlcgpjeggelbaaa.IcmpSeal
set_option linter.unusedVariables false
set_option linter.unusedSimpArgs false
open Go.ChangeShapes Go.WideShapes Go.ChangeAt Go.RowKit Go.PlainAid
set_option maxRecDepth 100000 in
set_option maxHeartbeats 4000000 in
theorem walk_ (K : IcmpOk) (s : ByteArray) (q : Int) (w : World) (hs : s.size ≤ maxLen) (hq : (Lit.int .u16 q).wf = true) :
    Calls Try.prog 6 #[.string s, .int .u16 q] w fun e w' => e = .returned (.bool true) ∧ Below w.heap.size w w' := by
  obtain ⟨q0, q1⟩ := bounds_u16 hq
  clear hq hs
  obtain ⟨n, hn⟩ : ∃ n, s.size = n := ⟨_, rfl⟩
  by_cases h1 : 600 < n
  · have e1 : decide ((n : Int) < 8) = false := by simp; omega
    have e2 : decide ((600 : Int) < (n : Int)) = true := by simp; omega
    clear h1
    go_enter Try.func6, Try.ntmps6
    go_wp2_with fail
    refine (echoed_ K _).mono ?_; rintro e w1 ⟨rfl, x1⟩
    have B1 : Below w.heap.size w w1 := x1
    go_wp2
    go_ret
    exact ⟨rfl, B1⟩
  have e2 : decide ((600 : Int) < (n : Int)) = false := by simp; omega
  have k1 := fun u => K.seals s u (by omega)
  by_cases h2 : n < 8
  · have e1 : decide ((n : Int) < 8) = true := by simp; omega
    have k2 := fun u => K.checks s u (by omega)
    rw [show slI s = s by unfold slI; rw [if_pos (by omega)]] at k1
    rw [show ckM s = false by unfold ckM; simp; omega] at k2
    clear h1 h2
    go_enter Try.func6, Try.ntmps6
    go_wp2_with fail
    refine (k1 _).mono ?_; rintro e w1 ⟨rfl, x1⟩
    have B1 : Below w.heap.size w w1 := x1
    clear x1 k1
    go_wp2_with fail
    refine (k2 _).mono ?_; rintro e w2 ⟨rfl, x2⟩
    have B2 := B1.trans (x2.mono B1.size)
    clear x2 B1 k2
    go_wp2_with fail
    refine (echoed_ K _).mono ?_; rintro e w3 ⟨rfl, x3⟩
    have B3 := B2.trans (x3.mono B2.size)
    go_wp2
    go_ret
    exact ⟨rfl, B3⟩
  have e1 : decide ((n : Int) < 8) = false := by simp; omega
  obtain ⟨t1, t2, t3, t5, t6⟩ := slI_facts s (by omega)
  obtain ⟨T, hT⟩ : ∃ T, T = slI s := ⟨_, rfl⟩
  rw [← hT] at k1 t1 t2 t3 t5 t6
  rw [hn] at t1 t3
  have k2 := fun u => K.checks T u (by omega)
  have k3 := fun u => K.seals T u (by omega)
  rw [show ckM T = true by unfold ckM; rw [t1, t6]; simp; omega] at k2
  rw [t5] at k3
  -- the bit
  obtain ⟨Q, hQ⟩ : ∃ Q : Nat, q = (Q : Int) := ⟨q.toNat, by omega⟩
  subst hQ
  obtain ⟨D, hD⟩ : ∃ D, D = 8 * n := ⟨_, rfl⟩
  obtain ⟨k, hk⟩ : ∃ k, k = Q % D := ⟨_, rfl⟩
  have hkD : k < D := by rw [hk]; exact Nat.mod_lt _ (by omega)
  obtain ⟨j, hj⟩ : ∃ j, j = k / 8 := ⟨_, rfl⟩
  obtain ⟨c, hc⟩ : ∃ c, c = k % 8 := ⟨_, rfl⟩
  have v3 : 8 * (n : Int) = (D : Int) := by omega
  have v4 : ((D : Int) == 0) = false := by simp; omega
  have v5 : (Q : Int).tmod (D : Int) = (k : Int) := by
    rw [Int.tmod_eq_emod_of_nonneg (by omega), hk]; rfl
  have v5' : (Q : Int) % (D : Int) = (k : Int) := by rw [hk]; rfl
  have v7 : (k : Int) / 8 = (j : Int) := by omega
  have v8 : (k : Int) % 8 = (c : Int) := by omega
  have v9 : (j : Int) < (n : Int) := by omega
  have v10 : ¬ (D : Int) = 0 := by omega
  have v11 : (D : Int) ≤ 20000 := by omega
  have v12 : (k : Int) ≤ 20000 := by omega
  have v13 : (0 : Int) ≤ (k : Int) := by omega
  have v14 : (c : Int) ≤ 7 := by omega
  have v15 : (8 : Int) ≤ (n : Int) := by omega
  have v16 : (2 : Int) ≤ (n : Int) := by omega
  have v17 : (4 : Int) ≤ (n : Int) := by omega
  have c8 : c < 8 := by omega
  have X := xor_bit_ (bt T j) c (bt_nonneg T j) (bt_le T j) c8
  have hjn : j < T.size := by omega
  have hnb : n ≤ 600 := by omega
  have h8 : 8 ≤ n := by omega
  clear hk hD hkD hc hj h1 h2 hT
  have HX := Lib.hid X
  have T6 := Lib.hid t6
  clear X t6 t5
  go_enter Try.func6, Try.ntmps6
  go_wp2_with fail
  refine (k1 _).mono ?_; rintro e w1 ⟨rfl, x1⟩
  have B1 : Below w.heap.size w w1 := x1
  clear x1 k1
  go_wp2_with fail
  refine region_later (B := w1.heap.size) (by kernel_rfl) (by kernel_rfl) ?_
  repeat (go_big_quiet_step (first
    | (go_at_call 20; exact later_of _ (Nat.le_refl _) (k2 _))))
  refine later_end fun w2 x2 => ?_
  have B2 := B1.trans (x2.mono B1.size)
  clear B1 x2 k2
  obtain ⟨w3, cp, hconv, x3, hlt, HB⟩ := bytes_of_string T w2
  have B3 := B2.trans (x3.mono B2.size)
  have cj := (HB j hjn).1
  have HBB := Lib.hid HB
  have hle := B2.size
  clear HB
  go_wp2_with fail
  have dj : ∀ x : Later w3.heap.size w3, x.u.cell? ⟨w2.heap.size, j, none⟩ = some (.int .u8 (bt T j)) := fun x => x.block hlt cj
  refine region_lead (B := w3.heap.size) 10 1 (by kernel_rfl) (by kernel_rfl) (by kernel_rfl) (by kernel_rfl) ?_
  simp only [List.take_succ_cons, List.take_zero]
  repeat (go_big_quiet_step (fail))
  refine lead_end (by kernel_rfl) (by kernel_rfl) rfl fun w4 x4 F hF => ?_
  have HB4 : Bts w4 w2.heap.size T.size (bt T) := fun i hi => ⟨(x4.cell (p := ⟨_, i, none⟩) hlt).trans (HBB.out i hi).1, (x4.frozen (p := ⟨_, i, none⟩) hlt).trans (HBB.out i hi).2⟩
  have cj4 := (HB4 j hjn).1
  have fj4 := (HB4 j hjn).2
  have HBB4 := Lib.hid HB4
  have hp : (2 : Int) ^ c % 256 = ((2 ^ c : Nat) : Int) := by
    have h9 : 2 ^ c < 256 := by have := Nat.pow_lt_pow_right (a := 2) (by omega) c8; simpa using this
    have h10 : ((2 ^ c : Nat) : Int) = (2 : Int) ^ c := by simp
    rw [← h10]
    generalize 2 ^ c = P at *
    omega
  have HP := Lib.hid hp
  clear HB4 cj dj HBB hp
  go_simp
  rw [HP.out]
  obtain ⟨Y, hY⟩ : ∃ Y, Y = bits .xor .u8 (bt T j) ((2 ^ c : Nat) : Int) := ⟨_, rfl⟩
  obtain ⟨Y0, Y1, Y2, _⟩ := HX.out
  rw [← hY] at Y0 Y1 Y2 ⊢
  clear hY HP HX
  refine hF.out _ _ ?_
  clear hF F cj4 fj4
  have B4 := B3.trans (x4.mono (by have := x3.size; omega))
  have B5 := B4.setCell (p := ⟨w2.heap.size, j, none⟩) hle (.int .u8 Y)
  have HB5 := HBB4.out.set j Y hjn
  obtain ⟨w5, hw5⟩ : ∃ x, x = w4.setCell ⟨w2.heap.size, j, none⟩ (.int .u8 Y) := ⟨_, rfl⟩
  rw [← hw5] at B5 HB5 ⊢
  clear hw5 B3 B4 x3 x4 HBB4 B2 hlt
  -- the text with that byte
  obtain ⟨xs, hxs⟩ : ∃ xs, xs = (List.range T.size).map (fun i => if i = j then Y else bt T i) := ⟨_, rfl⟩
  have xl : xs.length = T.size := by rw [hxs]; simp
  have xg : ∀ i, i < T.size → xs.getD i 0 = if i = j then Y else bt T i := by
    intro i hi
    rw [getD_lt _ _ _ (by omega)]
    simp [hxs]
  have xw : ∀ x ∈ xs, 0 ≤ x ∧ x ≤ 255 := by
    intro x hx
    rw [hxs] at hx
    obtain ⟨i, _, rfl⟩ := List.mem_map.1 hx
    split
    · exact ⟨Y0, Y1⟩
    · exact ⟨bt_nonneg T i, bt_le T i⟩
  have hconv2 := run_convert_bytes_arg (P := Try.prog) w5 48 5 Try.underlying48 Try.underlying5 w2.heap.size 0 T.size cp xs xl (by intro i hi; rw [Nat.zero_add, (HB5 i hi).1, xg i hi]) 9 Try.underlying9
  obtain ⟨U, hU⟩ : ∃ U, U = strOfNums xs := ⟨_, rfl⟩
  rw [← hU, t1] at hconv2
  have zU : U.size = n := by rw [hU, strOfNums_size, xl, t1]
  have ub : ∀ i, ¬ i = j → bt U i = bt T i := by
    intro i hi
    rw [hU, bt_nums xs i xw]
    by_cases h : i < T.size
    · rw [xg i h, if_neg hi]
    · rw [getD_ge _ _ _ (by omega), bt_eq, getD_ge _ _ _ (by rw [len_data]; omega)]; rfl
  have uj : bt U j = Y := by rw [hU, bt_nums xs j xw, xg j hjn, if_pos rfl]
  have bad := spoilt1 T U j (by rw [zU, t1]) hjn ub (by rw [uj]; exact Y2) T6.out
  have k4 := fun u => K.checks U u (by omega)
  rw [show ckM U = false by unfold ckM; rw [bad]; simp] at k4
  clear bad uj ub hU xw xg xl hxs HB5 Y0 Y1 Y2 T6 hle
  go_wp2_with fail
  refine (k4 _).mono ?_; rintro e w6 ⟨rfl, x6⟩
  have B6 := B5.trans (x6.mono B5.size)
  clear B5 x6 k4
  go_wp2_with fail
  refine (k3 _).mono ?_; rintro e w7 ⟨rfl, x7⟩
  have B7 := B6.trans (x7.mono B6.size)
  clear B6 x7 k3
  go_wp2_with fail
  refine (echoed_ K _).mono ?_; rintro e w8 ⟨rfl, x8⟩
  have B8 := B7.trans (x8.mono B7.size)
  clear B7 x8
  go_wp2
  go_ret
  exact ⟨rfl, B8⟩
end Go.Proofs.Ytlcgpjeggelbaaa.IcmpSeal
