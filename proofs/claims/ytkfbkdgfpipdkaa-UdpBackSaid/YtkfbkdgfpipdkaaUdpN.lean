/- Contracts of package udp: Put, Check, Seal; what the laws ask of it. -/
import Derived.Test.YtkfbkdgfpipdkaaUdpL
import Derived.Test.YtkfbkdgfpipdkaaUdpC
namespace Go.Proofs.Ytkfbkdgfpipdkaa
set_option linter.unusedVariables false
set_option linter.unusedSimpArgs false
open Go.ChangeShapes Go.WideShapes Go.ChangeAt Go.RowKit Go.PlainAid
attribute [local go_sem ↓] Go.wp_at_zero Go.wp_at_succ
set_option maxHeartbeats 1000000 in
set_option maxRecDepth 100000 in
theorem udpPut_ (a b l c : Int) (p : ByteArray) (w : World) (a0 : 0 ≤ a) (a1 : a ≤ 65535) (b0 : 0 ≤ b) (b1 : b ≤ 65535) (c0 : 0 ≤ c) (c1 : c ≤ 65535) (hp : p.size ≤ 1000000) :
    Calls Try.prog 11 #[.agg #[.int .u16 a, .int .u16 b, .int .u16 l, .int .u16 c], .string p] w fun e w' => e = .returned (.string (udpB a b c p)) ∧ Below w.heap.size w w' := by
  obtain ⟨z, hz⟩ : ∃ z : Int, z = (8 + (p.size : Int)) % 65536 := ⟨_, rfl⟩
  have HV : Hid (strOfNums (wordL [a, b, z, c]) ++ p = udpB a b c p) := by show _ = _; unfold udpB; rw [hz]
  have z0 : 0 ≤ z := by omega
  have z1 : z ≤ 65535 := by omega
  obtain ⟨m, hm⟩ : ∃ m, p.size = m := ⟨_, rfl⟩
  rw [hm] at hz hp
  have e1 : (8 + (m : Int)) % 65536 = z := hz.symm
  have e2 : IntKind.u16.wrap (8 + (m : Int)) = z := by rw [IntKind.wrap_u16]; exact e1
  have cw : ∀ u (k : Nat), k < u.heap.size → u.cell? ⟨k, 0, none⟩ = some (.int .u16 a) → u.cell? ⟨k, 1, none⟩ = some (.int .u16 b) → u.cell? ⟨k, 2, none⟩ = some (.int .u16 z) → u.cell? ⟨k, 3, none⟩ = some (.int .u16 c) → Calls Try.prog 21 #[.slice (some ⟨k, 0, none⟩) 4 4] u fun e w' => e = .returned (.string (strOfNums (wordL [a, b, z, c]))) ∧ Below u.heap.size u w' :=
    fun u k hk h0 h1 h2 h3 => word_any _ 4 4 [a, b, z, c] u (row4 hk h0 h1 h2 h3) (by omega) (by intro x hx; simp at hx; omega)
  have zw : (strOfNums (wordL [a, b, z, c])).size = 8 := by rw [size_W]; rfl
  generalize strOfNums (wordL [a, b, z, c]) = W at *
  have q1 : W.size + p.size ≤ 9223372036854775807 := by omega
  have ZW := Lib.hid zw
  clear hz zw
  go_enter Try.func11, Try.ntmps11
  go_wp2_with fail
  refine (cw _ _ (by simp) (by simp [go_sem]) (by simp [go_sem]) (by simp [go_sem]) (by simp [go_sem])).mono ?_; rintro e w2 ⟨rfl, b2⟩
  have B2 : Below w.heap.size w w2 := (((Below.refl _ _).alloc (Nat.le_refl _) _).alloc (by simp) _).trans (b2.mono (by simp; omega))
  clear b2 cw
  go_wp2
  go_ret
  rw [HV.out]
  exact ⟨rfl, B2⟩
set_option maxHeartbeats 1000000 in
set_option maxRecDepth 100000 in
theorem udpCheck_ (a b : Int) (s : ByteArray) (w : World) (a0 : 0 ≤ a) (a1 : a ≤ 4294967295) (b0 : 0 ≤ b) (b1 : b ≤ 4294967295) (hs : s.size ≤ 1000000) :
    Calls Try.prog 13 #[.int .u32 a, .int .u32 b, .string s] w fun e w' => e = .returned (.bool (ckU a b s)) ∧ Below w.heap.size w w' := by
  have hs2 : s.size ≤ maxLen := by unfold maxLen; omega
  by_cases h8 : s.size < 8
  · have HV : Hid (ckU a b s = false) := by show _ = _; unfold ckU; simp; omega
    have e1 : decide ((s.size : Int) < 8) = true := by simp; omega
    clear h8
    go_enter Try.func13, Try.ntmps13
    go_wp2
    go_ret
    rw [HV.out]
    exact ⟨rfl, Below.refl _ _⟩
  have e1 : decide ((s.size : Int) < 8) = false := by simp; omega
  have i8 : (8 : Int) ≤ (s.size : Int) := by omega
  have t2 := two_is_ s 6 (by omega) 0
  rw [show ((0 : UInt8).toNat : Int) * 257 = 0 from rfl] at t2
  have HV : Hid (ckU a b s = (decide (g16 s 6 = 0) || holdsV [pseuB a b 17 s.size, s])) := by show _ = _; unfold ckU; simp; omega
  have HS : holdsV [endsB a b, protB 17 (szT [s] 1), s] = holdsV [pseuB a b 17 s.size, s] := by unfold holdsV; rw [sumV_parts3, show szT [s] 1 = s.size from by simp [szT]]
  have cs : ∀ (u : World) (k : Nat), k < u.heap.size → u.cell? ⟨k, 0, none⟩ = some (.string s) → Calls Try.prog 24 #[.int .u32 a, .int .u32 b, .slice (some ⟨k, 0, none⟩) 1 1] u fun e w' => (∃ g c, e = .returned (.slice (some ⟨g, 0, none⟩) 3 c) ∧ RowS w' (some ⟨g, 0, none⟩) 3 [endsB a b, protB 17 (szT [s] 1), s]) ∧ Below u.heap.size u w' :=
    fun u k hk h0 => udpSummed_ a b _ 1 1 [s] u a0 a1 b0 b1 (rowS1 hk h0 hs2) (by omega) (by omega) (by simp [szT]; omega)
  have ch : ∀ (u : World) (g c : Nat), RowS u (some ⟨g, 0, none⟩) 3 [endsB a b, protB 17 (szT [s] 1), s] → Calls Try.prog 23 #[.slice (some ⟨g, 0, none⟩) 3 c] u fun e w' => e = .returned (.bool (holdsV [pseuB a b 17 s.size, s])) ∧ Below u.heap.size u w' :=
    fun u g c h => by have := holds_ _ 3 c _ u h; rw [HS] at this; exact this
  generalize [endsB a b, protB 17 (szT [s] 1), s] = ps at *
  generalize holdsV [pseuB a b 17 s.size, s] = H at *
  clear HS
  by_cases g0 : g16 s 6 = 0
  · rw [decide_eq_true g0] at t2 HV
    clear cs ch g0 h8
    go_enter Try.func13, Try.ntmps13
    go_wp2
    go_ret
    rw [HV.out]
    exact ⟨by simp, Below.refl _ _⟩
  · rw [decide_eq_false g0] at t2 HV
    have HW : Hid (ckU a b s = H) := by show _ = _; rw [HV.out]; simp
    clear g0 HV h8
    go_enter Try.func13, Try.ntmps13
    go_wp2_with fail
    refine (cs _ _ (by simp) (by simp [go_sem])).mono ?_; rintro e w2 ⟨⟨g, c, rfl, hR⟩, x2⟩
    have B2 : Below w.heap.size w w2 := ((Below.refl _ _).alloc (Nat.le_refl _) _).trans (x2.mono (by simp))
    clear x2 cs
    have RR := Lib.hid hR
    clear hR
    go_wp2_with fail
    refine (ch _ _ _ RR.out).mono ?_; rintro e w3 ⟨rfl, x3⟩
    have B3 := B2.trans (x3.mono B2.size)
    clear x3 B2 RR ch
    go_wp2
    go_ret
    rw [HW.out]
    exact ⟨rfl, B3⟩
theorem rowS3 {w : World} {b : Nat} {s t u : ByteArray} (hb : b < w.heap.size) (h0 : w.cell? ⟨b, 0, none⟩ = some (.string s)) (h1 : w.cell? ⟨b, 1, none⟩ = some (.string t)) (h2 : w.cell? ⟨b, 2, none⟩ = some (.string u)) (hs : s.size ≤ maxLen) (ht : t.size ≤ maxLen) (hu : u.size ≤ maxLen) : RowS w (some ⟨b, 0, none⟩) 3 [s, t, u] :=
  ⟨rfl, by intro x hx; simp at hx; rcases hx with rfl | rfl | rfl <;> assumption, by unfold maxLen; omega, .inr ⟨b, 0, rfl, hb, by
    intro i hi
    match i, hi with
    | 0, _ => simpa using h0
    | 1, _ => simpa using h1
    | 2, _ => simpa using h2⟩⟩
set_option maxHeartbeats 2000000 in
set_option maxRecDepth 100000 in
theorem udpSeal_ (a b : Int) (s : ByteArray) (w : World) (a0 : 0 ≤ a) (a1 : a ≤ 4294967295) (b0 : 0 ≤ b) (b1 : b ≤ 4294967295) (hs : s.size ≤ 1000000) :
    Calls Try.prog 15 #[.int .u32 a, .int .u32 b, .string s] w fun e w' => e = .returned (.string (slU a b s)) ∧ Below w.heap.size w w' := by
  have hs2 : s.size ≤ maxLen := by unfold maxLen; omega
  by_cases h8 : s.size < 8
  · have HV : Hid (slU a b s = s) := by show _ = _; unfold slU; rw [if_pos h8]
    have e1 : decide ((s.size : Int) < 8) = true := by simp; omega
    clear h8
    go_enter Try.func15, Try.ntmps15
    go_wp2
    go_ret
    rw [HV.out]
    exact ⟨rfl, Below.refl _ _⟩
  have e1 : decide ((s.size : Int) < 8) = false := by simp; omega
  have i6 : (6 : Int) ≤ (s.size : Int) := by omega
  have i8 : (8 : Int) ≤ (s.size : Int) := by omega
  have zx := size_extract' s 0 6 (by omega) (by omega)
  have zz := size_extract' s 8 s.size (by omega) (Nat.le_refl _)
  have hn := slN_bd a b s
  have zw : (strOfNums (wordL [slN a b s])).size = 2 := by rw [size_W]; rfl
  have HV : vWith s 6 (strOfNums (wordL [slN a b s])) = slU a b s := by
    unfold slU
    rw [if_neg h8]
    unfold vWith
    rw [show (6 : Int) = ((6 : Nat) : Int) from rfl, okAt_yes (by rw [zw]; omega), if_pos rfl]
    unfold withB
    rw [zw]
    rfl
  have hN : slN a b s = if sumV [pseuB a b 17 s.size, zeroB s (2 * 3)] = 0 then 65535 else sumV [pseuB a b 17 s.size, zeroB s (2 * 3)] := rfl
  have hp := sumV_parts5 a b 17 s.size s 3 (by omega)
  have hZ : szT [s.extract 0 (2 * 3), ⟨#[0, 0]⟩, s.extract (2 * 3 + 2) s.size] 3 = s.size := by
    simp only [szT, List.take_succ_cons, List.take_zero, List.map_cons, List.map_nil, List.sum_cons, List.sum_nil, Nat.mul_comm, Nat.reduceMul, Nat.reduceAdd]
    rw [zx, zz]
    show 6 - 0 + (2 + (s.size - 8 + 0)) = s.size
    omega
  have cs : ∀ (u : World) (k : Nat), k < u.heap.size → u.cell? ⟨k, 0, none⟩ = some (.string (s.extract 0 6)) → u.cell? ⟨k, 1, none⟩ = some (.string ⟨#[0, 0]⟩) → u.cell? ⟨k, 2, none⟩ = some (.string (s.extract 8 s.size)) → Calls Try.prog 24 #[.int .u32 a, .int .u32 b, .slice (some ⟨k, 0, none⟩) 3 3] u fun e w' => (∃ g c, e = .returned (.slice (some ⟨g, 0, none⟩) 5 c) ∧ RowS w' (some ⟨g, 0, none⟩) 5 [endsB a b, protB 17 s.size, s.extract 0 (2 * 3), ⟨#[0, 0]⟩, s.extract (2 * 3 + 2) s.size]) ∧ Below u.heap.size u w' :=
    fun u k hk h0 h1 h2 => by
      have := udpSummed_ a b _ 3 3 [s.extract 0 (2 * 3), ⟨#[0, 0]⟩, s.extract (2 * 3 + 2) s.size] u a0 a1 b0 b1 (rowS3 hk h0 h1 h2 (by show (s.extract 0 6).size ≤ maxLen; unfold maxLen; omega) (by decide) (by show (s.extract 8 s.size).size ≤ maxLen; unfold maxLen; omega)) (by omega) (by omega) (by rw [hZ]; exact hs)
      rw [hZ] at this
      exact this
  have ch : ∀ (u : World) (g c : Nat), RowS u (some ⟨g, 0, none⟩) 5 [endsB a b, protB 17 s.size, s.extract 0 (2 * 3), ⟨#[0, 0]⟩, s.extract (2 * 3 + 2) s.size] → Calls Try.prog 27 #[.slice (some ⟨g, 0, none⟩) 5 c] u fun e w' => e = .returned (.int .u16 (sumV [pseuB a b 17 s.size, zeroB s (2 * 3)])) ∧ Below u.heap.size u w' :=
    fun u g c h => by have := sum_ _ 5 c _ u h; rw [hp] at this; exact this
  have sb := sumV_bd [pseuB a b 17 s.size, zeroB s (2 * 3)]
  generalize [endsB a b, protB 17 (s.size : Int), s.extract 0 (2 * 3), ⟨#[0, 0]⟩, s.extract (2 * 3 + 2) s.size] = ps at *
  generalize sumV [pseuB a b 17 s.size, zeroB s (2 * 3)] = g at *
  have c16 := fun u => put16 (slN a b s) u (by omega) hn.2
  have cv := fun u => with_any s 6 (strOfNums (wordL [slN a b s])) u hs2 (by rw [zw]; decide)
  rw [HV] at cv
  generalize okAt s 6 ((strOfNums (wordL [slN a b s])).size : Int) = ok at *
  generalize strOfNums (wordL [slN a b s]) = W at *
  generalize slU a b s = R at *
  obtain ⟨v, hv⟩ : ∃ v, v = slN a b s := ⟨_, rfl⟩
  rw [← hv] at c16 hN
  clear hv hn zx zz h8 zw HV hp hZ
  have fin : ∀ bb : Bool, (g == 0) = bb → v = (if bb then 65535 else g) → Calls Try.prog 15 #[.int .u32 a, .int .u32 b, .string s] w fun e w' => e = .returned (.string R) ∧ Below w.heap.size w w' := by
    intro bb e2 hv
    clear hN
    cases bb
    all_goals
      first | change v = 65535 at hv | change v = g at hv
      subst hv
      go_enter Try.func15, Try.ntmps15
      go_wp2_with fail
      go_region_held3 (fun w' => True) (trivial)
        ((first
          | (go_at_call 24
             refine (cs _ _ ?_ ?_ ?_ ?_).mono ?_
             · simp
             · simp [go_sem]
             · simp [go_sem]
             · simp [go_sem]
             rintro e w1 ⟨⟨gg, cc, rfl, hR⟩, x1⟩)
          | (go_at_call 27
             refine (ch _ _ _ hR).mono ?_
             rintro e w2 ⟨rfl, x2⟩)))
      have B1 : Below w.heap.size w w1 := (((Below.refl w.heap.size w).drew).alloc (Nat.le_refl _) _).trans (x1.mono (by simp))
      have B2 := B1.trans (x2.mono B1.size)
      clear x1 x2 B1 cs ch hR
      go_wp2_with fail
      refine (c16 _).mono ?_; rintro e w3 ⟨rfl, x3⟩
      have B3 := B2.trans (x3.mono B2.size)
      clear B2 x3 c16
      go_wp2_with fail
      refine (cv _).mono ?_; rintro e w4 ⟨rfl, x4⟩
      have B4 := B3.trans (x4.mono B3.size)
      clear B3 x4 cv
      go_wp2
      go_ret
      exact ⟨rfl, B4⟩
  by_cases g0 : g = 0
  · exact fin true (by simpa using g0) (by rw [hN, if_pos g0]; rfl)
  · exact fin false (by simpa using g0) (by rw [hN, if_neg g0]; rfl)
theorem udpOk : UdpOk := ⟨udpParse_, udpPut_, udpCheck_, udpSeal_⟩
end Go.Proofs.Ytkfbkdgfpipdkaa
