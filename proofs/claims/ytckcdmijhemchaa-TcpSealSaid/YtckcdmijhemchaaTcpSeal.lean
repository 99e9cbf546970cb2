/- The walk of TcpSeal. -/
import Derived.Test.YtckcdmijhemchaaTcpM
import Derived.Test.YtckcdmijhemchaaSumsTurned
import Derived.Test.YtckcdmijhemchaaLead
namespace Go.Proofs.Ytckcdmijhemchaa.TcpSeal
set_option linter.unusedVariables false
set_option linter.unusedSimpArgs false
open Go.ChangeShapes Go.WideShapes Go.ChangeAt Go.RowKit Go.PlainAid
set_option maxRecDepth 100000 in
set_option maxHeartbeats 4000000 in
theorem walk_ (K : TcpOk) (s : ByteArray) (a b q q2 : Int) (w : World) (hs : s.size ≤ maxLen) (ha : (Lit.int .u32 a).wf = true) (hb : (Lit.int .u32 b).wf = true) (hq : (Lit.int .u16 q).wf = true) (hq2 : (Lit.int .u16 q2).wf = true) :
    Calls Try.prog 7 #[.string s, .agg #[.int .u32 a, .int .u32 b], .agg #[.int .u16 q, .int .u16 q2]] w fun e w' => e = .returned (.bool true) ∧ Below w.heap.size w w' := by
  obtain ⟨a0, a1⟩ := bounds_u32 ha
  obtain ⟨b0, b1⟩ := bounds_u32 hb
  obtain ⟨q0, q1⟩ := bounds_u16 hq
  obtain ⟨r0, r1⟩ := bounds_u16 hq2
  clear ha hb hq hq2 hs
  obtain ⟨n, hn⟩ : ∃ n, s.size = n := ⟨_, rfl⟩
  by_cases h1 : 600 < n
  · have e1 : decide ((n : Int) < 20) = false := by simp; omega
    have e2 : decide ((600 : Int) < (n : Int)) = true := by simp; omega
    clear h1
    go_enter Try.func7, Try.ntmps7
    go_wp2_with fail
    refine (begun_ K _).mono ?_; rintro e w1 ⟨rfl, x1⟩
    have B1 : Below w.heap.size w w1 := (((Below.refl _ _).alloc (Nat.le_refl _) _).alloc (by simp) _).trans (x1.mono (by simp; omega))
    go_wp2
    go_ret
    exact ⟨rfl, B1⟩
  have e2 : decide ((600 : Int) < (n : Int)) = false := by simp; omega
  have k1 := fun u => K.seals a b s u a0 a1 b0 b1 (by omega)
  by_cases h2 : n < 20
  · have e1 : decide ((n : Int) < 20) = true := by simp; omega
    have k2 := fun u => K.checks a b s u a0 a1 b0 b1 (by omega)
    rw [show slT a b s = s by unfold slT; rw [if_pos (by omega)]] at k1
    rw [show ckT a b s = false by unfold ckT; simp; omega] at k2
    clear h1 h2
    go_enter Try.func7, Try.ntmps7
    go_wp2_with fail
    have A0 := (Box2.make w (.int .u32 a) (.int .u32 b) 43).past (o := .cells #[.int .u16 q, .int .u16 q2] 44)
    refine (k1 _).mono ?_; rintro e w1 ⟨rfl, x1⟩
    have B1 : Below w.heap.size w w1 := (((Below.refl _ _).alloc (Nat.le_refl _) _).alloc (by simp) _).trans (x1.mono (by simp; omega))
    have A1 := A0.on x1
    obtain ⟨_, f0, f1⟩ := id A1
    clear A0 x1 k1
    go_wp2_with fail
    refine (k2 _).mono ?_; rintro e w2 ⟨rfl, x2⟩
    have B2 := B1.trans (x2.mono B1.size)
    clear A1 x2 B1 f0 f1 k2
    go_wp2_with fail
    refine (begun_ K _).mono ?_; rintro e w3 ⟨rfl, x3⟩
    have B3 := B2.trans (x3.mono B2.size)
    go_wp2
    go_ret
    exact ⟨rfl, B3⟩
  have e1 : decide ((n : Int) < 20) = false := by simp; omega
  obtain ⟨t1, t2, t3, t5, t6⟩ := slT_facts a b s a0 a1 b0 b1 (by omega)
  obtain ⟨T, hT⟩ : ∃ T, T = slT a b s := ⟨_, rfl⟩
  rw [← hT] at k1 t1 t2 t3 t5 t6
  rw [hn] at t1 t3 t6
  have k2 := fun u => K.checks a b T u a0 a1 b0 b1 (by omega)
  have k3 := fun u => K.seals a b T u a0 a1 b0 b1 (by omega)
  rw [show ckT a b T = true by unfold ckT; rw [t1, t6]; simp; omega] at k2
  rw [t5] at k3
  -- the ends' bit
  obtain ⟨r, hr⟩ : ∃ r : Nat, q2 % 32 = (r : Int) := ⟨(q2 % 32).toNat, by omega⟩
  have hr' : q2.tmod 32 = (r : Int) := by rw [Int.tmod_eq_emod_of_nonneg r0]; exact hr
  have r32 : r < 32 := by omega
  obtain ⟨a', ha'⟩ : ∃ x : Nat, a = (x : Int) := ⟨a.toNat, by omega⟩
  obtain ⟨b', hb'⟩ : ∃ x : Nat, b = (x : Int) := ⟨b.toNat, by omega⟩
  obtain ⟨l1, da, l2, l3⟩ := turn32 a' r (by omega) r32
  obtain ⟨m1, db, m2, m3⟩ := turn32 b' r (by omega) r32
  have hp9 : 2 ^ r < 4294967296 := by have := Nat.pow_lt_pow_right (a := 2) (by omega) r32; simpa using this
  have xa : bits .xor .u32 a ((2 ^ r : Nat) : Int) = ((a' ^^^ 2 ^ r : Nat) : Int) := by rw [ha']; exact u32_xor_nat a' (2 ^ r) (by omega) hp9
  have xb : bits .xor .u32 b ((2 ^ r : Nat) : Int) = ((b' ^^^ 2 ^ r : Nat) : Int) := by rw [hb']; exact u32_xor_nat b' (2 ^ r) (by omega) hp9
  obtain ⟨P2, hP2⟩ : ∃ P2 : Int, P2 = ((2 ^ r : Nat) : Int) := ⟨_, rfl⟩
  have hp : (2 : Int) ^ r % 4294967296 = P2 := by
    have h10 : ((2 ^ r : Nat) : Int) = (2 : Int) ^ r := by simp
    rw [hP2, ← h10]
    generalize 2 ^ r = P at *
    omega
  rw [← hP2] at xa xb
  have pa := pseuB_tot (pr := 6) (n := (n : Int)) a0 a1 b0 b1 (by omega) (by omega) (by omega)
  have pa2 := pseuB_tot (a := ((a' ^^^ 2 ^ r : Nat) : Int)) (pr := 6) (n := (n : Int)) (by omega) (by omega) b0 b1 (by omega) (by omega) (by omega)
  have pb2 := pseuB_tot (b := ((b' ^^^ 2 ^ r : Nat) : Int)) (pr := 6) (n := (n : Int)) a0 a1 (by omega) (by omega) (by omega) (by omega) (by omega)
  have ba := spoilt_tot (pseuB a b 6 (n : Int)) (pseuB ((a' ^^^ 2 ^ r : Nat) : Int) b 6 (n : Int)) T da (by rw [pa, pa2]; omega) l3 t6
  have bb := spoilt_tot (pseuB a b 6 (n : Int)) (pseuB a ((b' ^^^ 2 ^ r : Nat) : Int) 6 (n : Int)) T db (by rw [pa, pb2]; omega) m3 t6
  obtain ⟨a2, ha2⟩ : ∃ x : Int, x = ((a' ^^^ 2 ^ r : Nat) : Int) := ⟨_, rfl⟩
  obtain ⟨b2, hb2⟩ : ∃ x : Int, x = ((b' ^^^ 2 ^ r : Nat) : Int) := ⟨_, rfl⟩
  have ka := fun u => K.checks a2 b T u (by omega) (by omega) b0 b1 (by omega)
  have kb := fun u => K.checks a b2 T u a0 a1 (by omega) (by omega) (by omega)
  rw [← ha2] at xa ba
  rw [← hb2] at xb bb
  rw [show ckT a2 b T = false by unfold ckT; rw [t1, ba]; simp] at ka
  rw [show ckT a b2 T = false by unfold ckT; rw [t1, bb]; simp] at kb
  have r31 : (r : Int) ≤ 31 := by omega
  clear ba bb pa pa2 pb2 l1 l2 l3 m1 m2 m3 ha2 hb2 ha' hb' hP2 hp9 r32
  -- the bit
  obtain ⟨Q, hQ⟩ : ∃ Q : Nat, q = (Q : Int) := ⟨q.toNat, by omega⟩
  subst hQ
  obtain ⟨D, hD⟩ : ∃ D, D = 8 * n := ⟨_, rfl⟩
  obtain ⟨k, hk⟩ : ∃ k, k = Q % D := ⟨_, rfl⟩
  have hkD : k < D := by rw [hk]; exact Nat.mod_lt _ (by omega)
  obtain ⟨j, hj⟩ : ∃ j, j = k / 8 := ⟨_, rfl⟩
  obtain ⟨c, hc⟩ : ∃ c, c = k % 8 := ⟨_, rfl⟩
  have v3 : 8 * (n : Int) = (D : Int) := by omega
  have v4 : ((D : Int) == 0) = false := by simp; omega
  have v5 : (Q : Int).tmod (D : Int) = (k : Int) := by
    rw [Int.tmod_eq_emod_of_nonneg (by omega), hk]; rfl
  have v5' : (Q : Int) % (D : Int) = (k : Int) := by rw [hk]; rfl
  have v7 : (k : Int) / 8 = (j : Int) := by omega
  have v8 : (k : Int) % 8 = (c : Int) := by omega
  have v9 : (j : Int) < (n : Int) := by omega
  have v10 : ¬ (D : Int) = 0 := by omega
  have v11 : (D : Int) ≤ 20000 := by omega
  have v12 : (k : Int) ≤ 20000 := by omega
  have v13 : (0 : Int) ≤ (k : Int) := by omega
  have v14 : (c : Int) ≤ 7 := by omega
  have v15 : (16 : Int) ≤ (n : Int) := by omega
  have v16 : (18 : Int) ≤ (n : Int) := by omega
  have c8 : c < 8 := by omega
  have X := xor_bit_ (bt T j) c (bt_nonneg T j) (bt_le T j) c8
  have hjn : j < T.size := by omega
  have hnb : n ≤ 600 := by omega
  have h8 : 20 ≤ n := by omega
  clear hk hD hkD hc hj h1 h2 hT
  have HX := Lib.hid X
  have T6 := Lib.hid t6
  clear X t6 t5
  go_enter Try.func7, Try.ntmps7
  go_wp2_with fail
  have A0 := (Box2.make w (.int .u32 a) (.int .u32 b) 43).past (o := .cells #[.int .u16 (Q : Int), .int .u16 q2] 44)
  have D0 : Box2 ((w.alloc (.cells #[.int .u32 a, .int .u32 b] 43)).alloc (.cells #[.int .u16 (Q : Int), .int .u16 q2] 44)) (w.heap.size + 1) (.int .u16 (Q : Int)) (.int .u16 q2) := by
    rw [show w.heap.size + 1 = (w.alloc (.cells #[.int .u32 a, .int .u32 b] 43)).heap.size by simp]
    exact Box2.make _ _ _ _
  refine (k1 _).mono ?_; rintro e w1 ⟨rfl, x1⟩
  have B1 : Below w.heap.size w w1 := (((Below.refl _ _).alloc (Nat.le_refl _) _).alloc (by simp) _).trans (x1.mono (by simp; omega))
  have A1 := A0.on x1
  have D1 := D0.on x1
  clear A0 D0 x1 k1
  go_wp2_with fail
  obtain ⟨za, f0, f1⟩ := id A1
  have F0 : ∀ x : Later w1.heap.size w1, x.u.cell? ⟨w.heap.size, 0, none⟩ = some (.int .u32 a) := fun x => x.block za f0
  have F1 : ∀ x : Later w1.heap.size w1, x.u.cell? ⟨w.heap.size, 1, none⟩ = some (.int .u32 b) := fun x => x.block za f1
  clear f0 f1
  refine region_later (B := w1.heap.size) (by kernel_rfl) (by kernel_rfl) ?_
  repeat (go_big_quiet_step (first
    | (go_at_call 13; exact later_of _ (Nat.le_refl _) (k2 _))))
  refine later_end fun w2 x2 => ?_
  have A2 := A1.on x2
  have D2 := D1.on x2
  have B2 := B1.trans (x2.mono B1.size)
  clear F0 F1 A1 D1 B1 x2 k2 za
  obtain ⟨w3, cp, hconv, x3, hlt, HB⟩ := bytes_of_string T w2
  have A3 := A2.on x3
  have D3 := D2.on x3
  have B3 := B2.trans (x3.mono B2.size)
  have cj := (HB j hjn).1
  have HBB := Lib.hid HB
  have hle := B2.size
  have hl0 := A2.1
  have hl1 := D2.1
  clear HB A2 D2
  obtain ⟨_, y0, y1⟩ := id D3
  go_wp2_with fail
  have dj : ∀ x : Later w3.heap.size w3, x.u.cell? ⟨w2.heap.size, j, none⟩ = some (.int .u8 (bt T j)) := fun x => x.block hlt cj
  refine region_lead (B := w3.heap.size) 10 1 (by kernel_rfl) (by kernel_rfl) (by kernel_rfl) (by kernel_rfl) ?_
  simp only [List.take_succ_cons, List.take_zero]
  repeat (go_big_quiet_step (fail))
  refine lead_end (by kernel_rfl) (by kernel_rfl) rfl fun w4 x4 F hF => ?_
  have HB4 : Bts w4 w2.heap.size T.size (bt T) := fun i hi => ⟨(x4.cell (p := ⟨_, i, none⟩) hlt).trans (HBB.out i hi).1, (x4.frozen (p := ⟨_, i, none⟩) hlt).trans (HBB.out i hi).2⟩
  have cj4 := (HB4 j hjn).1
  have fj4 := (HB4 j hjn).2
  have HBB4 := Lib.hid HB4
  have hp : (2 : Int) ^ c % 256 = ((2 ^ c : Nat) : Int) := by
    have h9 : 2 ^ c < 256 := by have := Nat.pow_lt_pow_right (a := 2) (by omega) c8; simpa using this
    have h10 : ((2 ^ c : Nat) : Int) = (2 : Int) ^ c := by simp
    rw [← h10]
    generalize 2 ^ c = P at *
    omega
  have HP := Lib.hid hp
  clear HB4 cj dj HBB hp
  go_simp
  rw [HP.out]
  obtain ⟨Y, hY⟩ : ∃ Y, Y = bits .xor .u8 (bt T j) ((2 ^ c : Nat) : Int) := ⟨_, rfl⟩
  obtain ⟨Y0, Y1, Y2, _⟩ := HX.out
  rw [← hY] at Y0 Y1 Y2 ⊢
  clear hY HP HX
  refine hF.out _ _ ?_
  clear hF F cj4 fj4
  have B4 := B3.trans (x4.mono (by have := x3.size; omega))
  have A4 := A3.on x4
  have D4 := D3.on x4
  clear y0 y1
  have B5 := B4.setCell (p := ⟨w2.heap.size, j, none⟩) hle (.int .u8 Y)
  have HB5 := HBB4.out.set j Y hjn
  have A5 : Box2 (w4.setCell ⟨w2.heap.size, j, none⟩ (.int .u8 Y)) w.heap.size (.int .u32 a) (.int .u32 b) :=
    A4.far (b := w2.heap.size) (fun p hp => World.cell?_setCell_far _ _ _ _ hp) (by omega)
  have D5 : Box2 (w4.setCell ⟨w2.heap.size, j, none⟩ (.int .u8 Y)) (w.heap.size + 1) (.int .u16 (Q : Int)) (.int .u16 q2) :=
    D4.far (b := w2.heap.size) (fun p hp => World.cell?_setCell_far _ _ _ _ hp) (by omega)
  obtain ⟨w5, hw5⟩ : ∃ x, x = w4.setCell ⟨w2.heap.size, j, none⟩ (.int .u8 Y) := ⟨_, rfl⟩
  rw [← hw5] at A5 D5 B5 HB5 ⊢
  clear hw5 A3 A4 D3 D4 B3 B4 x3 x4 HBB4 B2 hlt
  -- the text with that byte
  obtain ⟨xs, hxs⟩ : ∃ xs, xs = (List.range T.size).map (fun i => if i = j then Y else bt T i) := ⟨_, rfl⟩
  have xl : xs.length = T.size := by rw [hxs]; simp
  have xg : ∀ i, i < T.size → xs.getD i 0 = if i = j then Y else bt T i := by
    intro i hi
    rw [getD_lt _ _ _ (by omega)]
    simp [hxs]
  have xw : ∀ x ∈ xs, 0 ≤ x ∧ x ≤ 255 := by
    intro x hx
    rw [hxs] at hx
    obtain ⟨i, _, rfl⟩ := List.mem_map.1 hx
    split
    · exact ⟨Y0, Y1⟩
    · exact ⟨bt_nonneg T i, bt_le T i⟩
  have hconv2 := run_convert_bytes_arg (P := Try.prog) w5 45 5 Try.underlying45 Try.underlying5 w2.heap.size 0 T.size cp xs xl (by intro i hi; rw [Nat.zero_add, (HB5 i hi).1, xg i hi]) 9 Try.underlying9
  obtain ⟨U, hU⟩ : ∃ U, U = strOfNums xs := ⟨_, rfl⟩
  rw [← hU, t1] at hconv2
  have zU : U.size = n := by rw [hU, strOfNums_size, xl, t1]
  have ub : ∀ i, ¬ i = j → bt U i = bt T i := by
    intro i hi
    rw [hU, bt_nums xs i xw]
    by_cases h : i < T.size
    · rw [xg i h, if_neg hi]
    · rw [getD_ge _ _ _ (by omega), bt_eq, getD_ge _ _ _ (by rw [len_data]; omega)]; rfl
  have uj : bt U j = Y := by rw [hU, bt_nums xs j xw, xg j hjn, if_pos rfl]
  have bad := spoilt2 (pseuB a b 6 (n : Int)) T U j (by rw [zU, t1]) hjn ub (by rw [uj]; exact Y2) T6.out
  have k4 := fun u => K.checks a b U u a0 a1 b0 b1 (by omega)
  rw [show ckT a b U = false by unfold ckT; rw [zU, bad]; simp] at k4
  clear bad uj ub hU xw xg xl hxs HB5 Y0 Y1 Y2 T6 hle
  obtain ⟨_, y0, y1⟩ := D5
  obtain ⟨_, f0, f1⟩ := id A5
  go_wp2_with fail
  refine (k4 _).mono ?_; rintro e w6 ⟨rfl, x6⟩
  clear f0 f1 y0 y1 k4
  have A6 := A5.on x6
  have B6 := B5.trans (x6.mono B5.size)
  obtain ⟨_, f0, f1⟩ := id A6
  clear A5 B5 x6
  go_wp2_with fail
  refine (ka _).mono ?_; rintro e w7 ⟨rfl, x7⟩
  clear f0 f1 ka
  have A7 := A6.on x7
  have B7 := B6.trans (x7.mono B6.size)
  obtain ⟨_, f0, f1⟩ := id A7
  clear A6 B6 x7
  go_wp2_with fail
  refine (kb _).mono ?_; rintro e w8 ⟨rfl, x8⟩
  clear f0 f1 kb
  have A8 := A7.on x8
  have B8 := B7.trans (x8.mono B7.size)
  obtain ⟨_, f0, f1⟩ := id A8
  clear A7 B7 x8
  go_wp2_with fail
  refine (k3 _).mono ?_; rintro e w9 ⟨rfl, x9⟩
  clear f0 f1 k3
  have B9 := B8.trans (x9.mono B8.size)
  clear A8 B8 x9
  go_wp2_with fail
  refine (begun_ K _).mono ?_; rintro e w10 ⟨rfl, x10⟩
  have B10 := B9.trans (x10.mono B9.size)
  clear B9 x10
  go_wp2
  go_ret
  exact ⟨rfl, B10⟩
end Go.Proofs.Ytckcdmijhemchaa.TcpSeal
