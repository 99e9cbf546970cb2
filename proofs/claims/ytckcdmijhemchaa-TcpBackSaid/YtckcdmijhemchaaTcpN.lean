/- Contracts of package tcp: Put, Check, Seal; what the laws ask of it. -/
import Derived.Test.YtckcdmijhemchaaTcpL
import Derived.Test.YtckcdmijhemchaaTcpH
namespace Go.Proofs.Ytckcdmijhemchaa
set_option linter.unusedVariables false
set_option linter.unusedSimpArgs false
open Go.ChangeShapes Go.WideShapes Go.ChangeAt Go.RowKit Go.PlainAid
attribute [local go_sem ↓] Go.wp_at_zero Go.wp_at_succ
set_option maxHeartbeats 2000000 in
set_option maxRecDepth 100000 in
theorem tcpPut_ (sp dp sq ak lo fl wi su ur : Int) (o p : ByteArray) (w : World) (a0 : 0 ≤ sp) (a1 : sp ≤ 65535) (b0 : 0 ≤ dp) (b1 : dp ≤ 65535) (c0 : 0 ≤ sq) (c1 : sq ≤ 4294967295) (d0 : 0 ≤ ak) (d1 : ak ≤ 4294967295) (e0 : 0 ≤ lo) (e1 : lo ≤ 255) (f0 : 0 ≤ fl) (f1 : fl ≤ 255)
    (g0 : 0 ≤ wi) (g1 : wi ≤ 65535) (h0 : 0 ≤ su) (h1 : su ≤ 65535) (i0 : 0 ≤ ur) (i1 : ur ≤ 65535) (ho : o.size ≤ 1000000) (hp : p.size ≤ 1000000) :
    Calls Try.prog 11 #[.agg #[.int .u16 sp, .int .u16 dp, .int .u32 sq, .int .u32 ak, .int .u8 lo, .int .u8 fl, .int .u16 wi, .int .u16 su, .int .u16 ur, .string o], .string p] w fun e w' => e = .returned (.tuple #[.string (tPutB sp dp sq ak lo fl wi su ur o p), .int .i64 (tE o.size lo)]) ∧ Below w.heap.size w w' := by
  obtain ⟨n, hn⟩ : ∃ n, o.size = n := ⟨_, rfl⟩
  rw [hn] at ho
  by_cases hE : tE n lo = 0
  rotate_left
  · have hE2 : tE n lo = 2 := by unfold tE at hE ⊢; split <;> simp_all
    have HE : Hid (tE o.size lo = 2) := by show _ = _; rw [hn]; exact hE2
    have HB : Hid (tPutB sp dp sq ak lo fl wi su ur o p = ⟨#[]⟩) := by show _ = _; unfold tPutB; rw [HE.out]; rfl
    have key : ∃ x y z : Bool, decide ((40 : Int) < (n : Int)) = x ∧ ((n : Int) % 4 != 0) = y ∧ decide ((15 : Int) < lo) = z ∧ (x = true ∨ (x = false ∧ y = true) ∨ (x = false ∧ y = false ∧ z = true)) := by
      refine ⟨_, _, _, rfl, rfl, rfl, ?_⟩
      simp only [decide_eq_true_eq, decide_eq_false_iff_not, bne_iff_ne, ne_eq, bne_eq_false_iff_eq]
      unfold tE at hE2
      split at hE2
      · omega
      · omega
    obtain ⟨x, y, z, k1, k2, k3, hk⟩ := key
    clear hE hE2
    rcases hk with rfl | ⟨rfl, rfl⟩ | ⟨rfl, rfl, rfl⟩
    all_goals
      go_enter Try.func11, Try.ntmps11
      go_wp2
      go_ret2
      rw [HE.out, HB.out]
      exact ⟨rfl, (Below.refl _ _).alloc (Nat.le_refl _) _⟩
  have hh : n ≤ 40 ∧ n % 4 = 0 ∧ lo ≤ 15 := by
    unfold tE at hE
    split at hE
    · omega
    · omega
  obtain ⟨j1, j2, j3⟩ := hh
  have HE : Hid (tE o.size lo = 0) := by show _ = _; rw [hn]; exact hE
  have HB : Hid (strOfNums (wordL (tcpW sp dp sq ak lo fl wi su ur o.size)) ++ o ++ p = tPutB sp dp sq ak lo fl wi su ur o p) := by show _ = _; unfold tPutB; rw [HE.out, if_pos rfl]; rfl
  have k1 : decide ((40 : Int) < (n : Int)) = false := by simp; omega
  have k2 : (n : Int) % 4 = 0 := by omega
  have k3 : decide ((15 : Int) < lo) = false := by simp; omega
  have ch := fun u => tcpHead_ sp dp sq ak lo fl wi su ur o u a0 a1 b0 b1 c0 c1 d0 d1 e0 j3 f0 f1 g0 g1 h0 h1 i0 i1 (by omega) (by omega)
  have zH : (strOfNums (wordL (tcpW sp dp sq ak lo fl wi su ur o.size)) ++ o).size = 20 + n := by rw [ByteArray.size_append, size_W, hn]; rfl
  generalize strOfNums (wordL (tcpW sp dp sq ak lo fl wi su ur o.size)) ++ o = H at *
  have q1 : H.size + p.size ≤ 9223372036854775807 := by omega
  clear zH hE j1 j2 j3
  go_enter Try.func11, Try.ntmps11
  go_wp2_with fail
  refine (ch _).mono ?_; rintro e w2 ⟨rfl, b2⟩
  have B2 : Below w.heap.size w w2 := ((Below.refl _ _).alloc (Nat.le_refl _) _).trans (b2.mono (by simp))
  clear b2 ch
  go_wp2
  go_ret2
  rw [HE.out, HB.out]
  exact ⟨rfl, B2⟩
set_option maxHeartbeats 1000000 in
set_option maxRecDepth 100000 in
theorem tcpCheck_ (a b : Int) (s : ByteArray) (w : World) (a0 : 0 ≤ a) (a1 : a ≤ 4294967295) (b0 : 0 ≤ b) (b1 : b ≤ 4294967295) (hs : s.size ≤ 1000000) :
    Calls Try.prog 13 #[.int .u32 a, .int .u32 b, .string s] w fun e w' => e = .returned (.bool (ckT a b s)) ∧ Below w.heap.size w w' := by
  have hs2 : s.size ≤ maxLen := by unfold maxLen; omega
  by_cases h8 : s.size < 20
  · have HV : Hid (ckT a b s = false) := by show _ = _; unfold ckT; simp; omega
    have e1 : decide ((20 : Int) ≤ (s.size : Int)) = false := by simp; omega
    clear h8
    go_enter Try.func13, Try.ntmps13
    go_wp2
    go_ret
    rw [HV.out]
    exact ⟨rfl, Below.refl _ _⟩
  have e1 : decide ((20 : Int) ≤ (s.size : Int)) = true := by simp; omega
  have cp := fun u => tcpBeside_ a b s u a0 a1 b0 b1 hs
  have zp := pseuB_size a b 6 (s.size : Int)
  have HV : Hid (ckT a b s = holdsV [pseuB a b 6 s.size, s]) := by show _ = _; unfold ckT; simp; omega
  generalize pseuB a b 6 (s.size : Int) = P at *
  have ch : ∀ (u : World) (k : Nat), k < u.heap.size → u.cell? ⟨k, 0, none⟩ = some (.string P) → u.cell? ⟨k, 1, none⟩ = some (.string s) → Calls Try.prog 25 #[.slice (some ⟨k, 0, none⟩) 2 2] u fun e w' => e = .returned (.bool (holdsV [P, s])) ∧ Below u.heap.size u w' :=
    fun u k hk h0 h1 => holds_ _ 2 2 [P, s] u (rowS2 hk h0 h1 (by unfold maxLen; omega) hs2)
  generalize holdsV [P, s] = H at *
  clear zp h8
  go_enter Try.func13, Try.ntmps13
  go_wp2_with fail
  refine (cp _).mono ?_; rintro e w2 ⟨rfl, b2⟩
  go_wp2_with fail
  refine (ch _ _ (by simp) (by simp [go_sem]) (by simp [go_sem])).mono ?_; rintro e w3 ⟨rfl, b3⟩
  have B3 := (b2.alloc b2.size (.cells #[.string P, .string s] 9)).trans (b3.mono (by have := b2.size; simp; omega))
  clear b2 b3 ch cp
  go_wp2
  go_ret
  rw [HV.out]
  exact ⟨rfl, B3⟩
theorem totTs4 (a b c d : ByteArray) : totTs [a, b, c, d] = totT a + totT b + totT c + totT d := by simp [totTs]; omega
theorem sumV_four (p s : ByteArray) (k : Nat) (h : 2 * k + 2 ≤ s.size) : sumV [p, s.extract 0 (2 * k), ⟨#[0, 0]⟩, s.extract (2 * k + 2) s.size] = sumV [p, zeroB s (2 * k)] := by
  rw [sumV_cl, sumV_cl, totTs4, totTs2, tot_zeroB s k h]
  rw [show totT ⟨#[0, 0]⟩ = 0 from by kernel_rfl]
  congr 2
  omega
theorem rowS4 {w : World} {b : Nat} {s t u v : ByteArray} (hb : b < w.heap.size) (h0 : w.cell? ⟨b, 0, none⟩ = some (.string s)) (h1 : w.cell? ⟨b, 1, none⟩ = some (.string t)) (h2 : w.cell? ⟨b, 2, none⟩ = some (.string u)) (h3 : w.cell? ⟨b, 3, none⟩ = some (.string v)) (hs : s.size ≤ maxLen) (ht : t.size ≤ maxLen) (hu : u.size ≤ maxLen) (hv : v.size ≤ maxLen) : RowS w (some ⟨b, 0, none⟩) 4 [s, t, u, v] :=
  ⟨rfl, by intro x hx; simp at hx; rcases hx with rfl | rfl | rfl | rfl <;> assumption, by unfold maxLen; omega, .inr ⟨b, 0, rfl, hb, by
    intro i hi
    match i, hi with
    | 0, _ => simpa using h0
    | 1, _ => simpa using h1
    | 2, _ => simpa using h2
    | 3, _ => simpa using h3⟩⟩
set_option maxHeartbeats 2000000 in
set_option maxRecDepth 100000 in
theorem tcpSeal_ (a b : Int) (s : ByteArray) (w : World) (a0 : 0 ≤ a) (a1 : a ≤ 4294967295) (b0 : 0 ≤ b) (b1 : b ≤ 4294967295) (hs : s.size ≤ 1000000) :
    Calls Try.prog 15 #[.int .u32 a, .int .u32 b, .string s] w fun e w' => e = .returned (.string (slT a b s)) ∧ Below w.heap.size w w' := by
  have hs2 : s.size ≤ maxLen := by unfold maxLen; omega
  by_cases h8 : s.size < 20
  · have HV : Hid (slT a b s = s) := by show _ = _; unfold slT; rw [if_pos h8]
    have e1 : decide ((s.size : Int) < 20) = true := by simp; omega
    clear h8
    go_enter Try.func15, Try.ntmps15
    go_wp2
    go_ret
    rw [HV.out]
    exact ⟨rfl, Below.refl _ _⟩
  have e1 : decide ((s.size : Int) < 20) = false := by simp; omega
  have i16 : (16 : Int) ≤ (s.size : Int) := by omega
  have i18 : (18 : Int) ≤ (s.size : Int) := by omega
  have zx := size_extract' s 0 16 (by omega) (by omega)
  have zz := size_extract' s 18 s.size (by omega) (Nat.le_refl _)
  have hn : 0 ≤ slM a b s ∧ slM a b s ≤ 65535 := sumV_bd _
  have zw : (strOfNums (wordL [slM a b s])).size = 2 := by rw [size_W]; rfl
  have HV : vWith s 16 (strOfNums (wordL [slM a b s])) = slT a b s := by
    unfold slT
    rw [if_neg h8]
    unfold vWith
    rw [show (16 : Int) = ((16 : Nat) : Int) from rfl, okAt_yes (by rw [zw]; omega), if_pos rfl]
    unfold withB
    rw [zw]
    rfl
  have cp := fun u => tcpBeside_ a b s u a0 a1 b0 b1 hs
  have zp := pseuB_size a b 6 (s.size : Int)
  have hN : sumV [pseuB a b 6 s.size, s.extract 0 (2 * 8), ⟨#[0, 0]⟩, s.extract (2 * 8 + 2) s.size] = slM a b s := by rw [sumV_four _ s 8 (by omega)]; rfl
  generalize pseuB a b 6 (s.size : Int) = P at *
  have cs : ∀ (u : World) (k : Nat), k < u.heap.size → u.cell? ⟨k, 0, none⟩ = some (.string P) → u.cell? ⟨k, 1, none⟩ = some (.string (s.extract 0 16)) → u.cell? ⟨k, 2, none⟩ = some (.string ⟨#[0, 0]⟩) → u.cell? ⟨k, 3, none⟩ = some (.string (s.extract 18 s.size)) → Calls Try.prog 29 #[.slice (some ⟨k, 0, none⟩) 4 4] u fun e w' => e = .returned (.int .u16 (slM a b s)) ∧ Below u.heap.size u w' :=
    fun u k hk h0 h1 h2 h3 => by
      have := sum_ _ 4 4 [P, s.extract 0 (2 * 8), ⟨#[0, 0]⟩, s.extract (2 * 8 + 2) s.size] u (rowS4 hk h0 h1 h2 h3 (by unfold maxLen; omega) (by show (s.extract 0 16).size ≤ maxLen; unfold maxLen; omega) (by decide) (by show (s.extract 18 s.size).size ≤ maxLen; unfold maxLen; omega))
      rw [hN] at this
      exact this
  have c16 := fun u => put16 (slM a b s) u hn.1 hn.2
  have cv := fun u => with_any s 16 (strOfNums (wordL [slM a b s])) u hs2 (by rw [zw]; decide)
  rw [HV] at cv
  generalize okAt s 16 ((strOfNums (wordL [slM a b s])).size : Int) = ok at *
  generalize strOfNums (wordL [slM a b s]) = W at *
  generalize slT a b s = R at *
  obtain ⟨v, hv⟩ : ∃ v, v = slM a b s := ⟨_, rfl⟩
  rw [← hv] at cs c16
  clear hv hn zx zz h8 zw HV zp hN
  go_enter Try.func15, Try.ntmps15
  go_wp2_with fail
  go_region_held3 (fun w' => True) (trivial)
    ((first
      | (go_at_call 26
         refine (cp _).mono ?_
         rintro e w1 ⟨rfl, x1⟩)
      | (go_at_call 29
         refine (cs _ _ ?_ ?_ ?_ ?_ ?_).mono ?_
         · simp
         · simp [go_sem]
         · simp [go_sem]
         · simp [go_sem]
         · simp [go_sem]
         rintro e w2 ⟨rfl, x2⟩)))
  have B1 : Below w.heap.size w w1 := ((Below.refl w.heap.size w).drew).trans (x1.mono (by simp))
  have B2 : Below w.heap.size w w2 := (B1.alloc B1.size _).trans (x2.mono (by have := B1.size; simp; omega))
  clear x1 x2 B1 cs cp
  go_wp2_with fail
  refine (c16 _).mono ?_; rintro e w3 ⟨rfl, x3⟩
  have B3 := B2.trans (x3.mono B2.size)
  clear B2 x3 c16
  go_wp2_with fail
  refine (cv _).mono ?_; rintro e w4 ⟨rfl, x4⟩
  have B4 := B3.trans (x4.mono B3.size)
  clear B3 x4 cv
  go_wp2
  go_ret
  exact ⟨rfl, B4⟩
theorem tcpOk : TcpOk := ⟨tcpParse_, tcpPut_, tcpCheck_, tcpSeal_⟩
end Go.Proofs.Ytckcdmijhemchaa
