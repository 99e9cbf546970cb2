/- The walk of IpBack. -/
import Derived.Test.YtfiokjenfmpmlaaIpM
import Derived.Test.YtfiokjenfmpmlaaIpE
namespace Go.Proofs.Ytfiokjenfmpmlaa.IpBack
set_option linter.unusedVariables false
set_option linter.unusedSimpArgs false
open Go.ChangeShapes Go.WideShapes Go.ChangeAt Go.RowKit Go.PlainAid
set_option maxRecDepth 100000 in
set_option maxHeartbeats 4000000 in
theorem walk (a id : Int) (fl : Bool) (tt pr sr ds : Int) (o p q : ByteArray) (w : World) (ha : (Lit.int .u8 a).wf = true) (hi : (Lit.int .u16 id).wf = true) (ht : (Lit.int .u8 tt).wf = true) (hp : (Lit.int .u8 pr).wf = true) (hsr : (Lit.int .u32 sr).wf = true) (hds : (Lit.int .u32 ds).wf = true) (ho : o.size ≤ maxLen) (hpl : p.size ≤ maxLen) (hq : q.size ≤ maxLen) :
    Calls Try.prog 5 #[.agg #[.int .u8 a, .int .u16 id, .bool fl, .int .u8 tt, .int .u8 pr, .int .u32 sr, .int .u32 ds, .string o], .string p, .string q] w fun e w' => e = .returned (.bool true) ∧ Below w.heap.size w w' := by
  obtain ⟨a0, a1⟩ := bounds_u8 ha
  obtain ⟨i0, i1⟩ := bounds_u16 hi
  obtain ⟨t0, t1⟩ := bounds_u8 ht
  obtain ⟨p0, p1⟩ := bounds_u8 hp
  obtain ⟨s0, s1⟩ := bounds_u32 hsr
  obtain ⟨d0, d1⟩ := bounds_u32 hds
  clear ha hi ht hp hsr hds ho hpl
  obtain ⟨n, hn⟩ : ∃ n, o.size = n := ⟨_, rfl⟩
  obtain ⟨m, hm⟩ : ∃ m, p.size = m := ⟨_, rfl⟩
  obtain ⟨k, hk⟩ : ∃ k, q.size = k := ⟨_, rfl⟩
  clear hq
  by_cases h1 : 100 < n
  · have e1 : decide ((100 : Int) < (n : Int)) = true := by simp; omega
    clear h1
    go_enter Try.func5, Try.ntmps5
    go_wp2_with fail
    refine (headed_ _).mono ?_; rintro e w1 ⟨rfl, b1⟩
    have B1 : Below w.heap.size w w1 := ((Below.refl _ _).alloc (Nat.le_refl _) _).trans (b1.mono (by simp))
    go_wp2
    go_ret
    exact ⟨rfl, B1⟩
  have e1 : decide ((100 : Int) < (n : Int)) = false := by simp; omega
  by_cases h2 : 2100 < m
  · have e2 : decide ((2100 : Int) < (m : Int)) = true := by simp; omega
    clear h1 h2
    go_enter Try.func5, Try.ntmps5
    go_wp2_with fail
    refine (headed_ _).mono ?_; rintro e w1 ⟨rfl, b1⟩
    have B1 : Below w.heap.size w w1 := ((Below.refl _ _).alloc (Nat.le_refl _) _).trans (b1.mono (by simp))
    go_wp2
    go_ret
    exact ⟨rfl, B1⟩
  have e2 : decide ((2100 : Int) < (m : Int)) = false := by simp; omega
  by_cases h3 : 300 < k
  · have e3 : decide ((300 : Int) < (k : Int)) = true := by simp; omega
    clear h1 h2 h3
    go_enter Try.func5, Try.ntmps5
    go_wp2_with fail
    refine (headed_ _).mono ?_; rintro e w1 ⟨rfl, b1⟩
    have B1 : Below w.heap.size w w1 := ((Below.refl _ _).alloc (Nat.le_refl _) _).trans (b1.mono (by simp))
    go_wp2
    go_ret
    exact ⟨rfl, B1⟩
  have e3 : decide ((300 : Int) < (k : Int)) = false := by simp; omega
  have c1 := fun u => put_ a id fl tt pr sr ds o p u a0 a1 i0 i1 t0 t1 p0 p1 s0 s1 d0 d1 (by omega) (by omega)
  rw [hn, hm] at c1
  by_cases hE : putE n m = 0
  rotate_left
  · have hB : putB a id fl tt pr sr ds o p = ⟨#[]⟩ := by unfold putB; rw [hn, hm, if_neg hE]
    have g1 : (putE n m != 0) = true := by simpa using hE
    rw [hB] at c1
    have key : ¬ n % 4 = 0 ∨ (n % 4 = 0 ∧ 40 < n) ∨ (n % 4 = 0 ∧ ¬ 40 < n ∧ 2048 < 20 + n + m) := by
      by_cases x1 : n % 4 = 0
      · by_cases x2 : 40 < n
        · exact .inr (.inl ⟨x1, x2⟩)
        · refine .inr (.inr ⟨x1, x2, ?_⟩)
          unfold putE at hE
          rw [if_neg (by omega)] at hE
          by_cases x3 : 2028 < n + m
          · omega
          · rw [if_neg x3] at hE; exact absurd rfl hE
      · exact .inl x1
    generalize putE n m = r at *
    obtain ⟨z, hz⟩ : ∃ z : Nat, z = 20 + n + m := ⟨_, rfl⟩
    have v1 : 20 + (n : Int) + (m : Int) = (z : Int) := by omega
    have key2 : ∃ b1 b2 b3 : Bool, decide ((0 : Int) < (n : Int) % 4) = b1 ∧ decide ((40 : Int) < (n : Int)) = b2 ∧ decide ((2048 : Int) < (z : Int)) = b3 ∧ (b1 = true ∨ (b1 = false ∧ b2 = true) ∨ (b1 = false ∧ b2 = false ∧ b3 = true)) := by
      refine ⟨_, _, _, rfl, rfl, rfl, ?_⟩
      simp only [decide_eq_true_eq, decide_eq_false_iff_not]
      omega
    obtain ⟨b1, b2, b3, g2, g3, g4, hb⟩ := key2
    have m1 : (n : Int) ≤ 100 := by omega
    have m2 : (m : Int) ≤ 2100 := by omega
    clear key hE hB h1 h2 h3 hz
    rcases hb with rfl | ⟨rfl, rfl⟩ | ⟨rfl, rfl, rfl⟩
    all_goals
      go_enter Try.func5, Try.ntmps5
      go_wp2_with fail
      have A1 := Box8.make w (.int .u8 a) (.int .u16 id) (.bool fl) (.int .u8 tt) (.int .u8 pr) (.int .u32 sr) (.int .u32 ds) (.string o) 27
      refine (c1 _).mono ?_; rintro e w1 ⟨rfl, x1⟩
      obtain ⟨_, f0, f1, f2, f3, f4, f5, f6, f7⟩ := A1.on x1
      have B1 : Below w.heap.size w w1 := ((Below.refl _ _).alloc (Nat.le_refl _) _).trans (x1.mono (by simp))
      clear x1 A1
      go_wp2_with fail
      refine (headed_ _).mono ?_; rintro e w2 ⟨rfl, x2⟩
      have B2 := B1.trans (x2.mono B1.size)
      clear B1 x2 f0 f1 f2 f3 f4 f5 f6 f7
      go_wp2
      go_ret
      exact ⟨rfl, B2⟩
  have ho40 : n ≤ 40 ∧ n % 4 = 0 ∧ n + m ≤ 2028 := by
    unfold putE at hE
    by_cases x1 : 40 < n ∨ ¬ n % 4 = 0
    · rw [if_pos x1] at hE; omega
    rw [if_neg x1] at hE
    by_cases x3 : 2028 < n + m
    · rw [if_pos x3] at hE; omega
    omega
  obtain ⟨y1, y2, y3⟩ := ho40
  have PP := parse_put a id fl tt pr sr ds o p q a0 a1 i0 i1 t0 t1 p0 p1 s0 s1 d0 d1 (by omega) (by omega) (by omega)
  have HH := hdrS_holds a id fl tt pr sr ds o (20 + (o.size : Int) + (p.size : Int)) a0 a1 i0 i1 t0 t1 p0 p1 s0 s1 d0 d1 (by omega) (by omega) (by omega)
  have hB : putB a id fl tt pr sr ds o p = hdrS a id fl tt pr sr ds o (20 + (o.size : Int) + (p.size : Int)) ++ p := by unfold putB; rw [hn, hm, if_pos hE]
  have zH : (hdrS a id fl tt pr sr ds o (20 + (o.size : Int) + (p.size : Int))).size = 20 + n := by unfold hdrS; rw [hdrB_size, hn]
  rw [hB, hE] at c1
  generalize hdrS a id fl tt pr sr ds o (20 + (o.size : Int) + (p.size : Int)) = H at *
  rw [hn, hm] at PP
  have hx := ext_app_l H p
  rw [zH] at hx
  obtain ⟨S, hS⟩ : ∃ S, S = H ++ p := ⟨_, rfl⟩
  have zS : S.size = 20 + n + m := by rw [hS, ByteArray.size_append, zH, hm]
  rw [← ByteArray.append_assoc, ← hS] at PP
  rw [← hS] at c1 hx
  have zT : (S ++ q).size = 20 + n + m + k := by rw [ByteArray.size_append, zS, hk]
  have c2 := fun u => parse_ (S ++ q) u (by unfold maxLen; omega)
  obtain ⟨r1, r2, r3, r4, r5, r6, r7, r8, r9, r10, r11, r12⟩ := PP
  obtain ⟨u1, u2, u3, u4⟩ := p_yes r3
  rw [u1, u1, u1, u1, u1, u1, u2, u3, u4, r3, r4, r5, r6, r7, r8, r9, r10, r11, r2, Int.toNat_natCast, r12] at c2
  have c3 : ∀ (u : World) (b : Nat), b < u.heap.size → u.cell? ⟨b, 0, none⟩ = some (.string (S.extract 0 (20 + n))) → Calls Try.prog 13 #[.slice (some ⟨b, 0, none⟩) 1 1] u fun e w' => e = .returned (.bool true) ∧ Below u.heap.size u w' := by
    intro u b hb h0
    have := holds_ (some ⟨b, 0, none⟩) 1 1 [S.extract 0 (20 + n)] u (rowS1 hb h0 (by rw [hx, zH]; unfold maxLen; omega))
    rw [hx, HH] at this
    exact this
  clear u1 u2 u3 u4 r1 r2 r3 r4 r5 r6 r7 r8 r9 r10 r11 r12 hx HH hB hE hS zH zT
  obtain ⟨z, hz⟩ : ∃ z, z = 20 + n + m := ⟨_, rfl⟩
  obtain ⟨j, hj⟩ : ∃ j, j = 20 + n := ⟨_, rfl⟩
  rw [← hz] at zS
  rw [← hj] at c3
  have v1 : 20 + (n : Int) + (m : Int) = (z : Int) := by omega
  have v2 : (z : Int) - (m : Int) = (j : Int) := by omega
  have v3 : (j : Int) ≤ (z : Int) := by omega
  have v4 : z + k ≤ 9223372036854775807 := by omega
  clear hz hj h1 h2 h3 y1 y2 y3
  go_enter Try.func5, Try.ntmps5
  go_wp2_with fail
  have A1 := Box8.make w (.int .u8 a) (.int .u16 id) (.bool fl) (.int .u8 tt) (.int .u8 pr) (.int .u32 sr) (.int .u32 ds) (.string o) 27
  refine (c1 _).mono ?_; rintro e w1 ⟨rfl, x1⟩
  have A2 := A1.on x1
  have B1 : Below w.heap.size w w1 := ((Below.refl _ _).alloc (Nat.le_refl _) _).trans (x1.mono (by simp))
  clear x1 A1
  go_wp2_with fail
  refine (c2 _).mono ?_; rintro e w2 ⟨rfl, x2⟩
  have X2 := Box8.make w2 (.int .u8 a) (.int .u16 id) (.bool fl) (.int .u8 tt) (.int .u8 pr) (.int .u32 sr) (.int .u32 ds) (.string o) 27
  have A3 := (A2.on x2).past (o := .cells #[.int .u8 a, .int .u16 id, .bool fl, .int .u8 tt, .int .u8 pr, .int .u32 sr, .int .u32 ds, .string o] 27)
  have B2 := B1.trans (x2.mono B1.size)
  have B3 := B2.alloc B2.size (.cells #[.int .u8 a, .int .u16 id, .bool fl, .int .u8 tt, .int .u8 pr, .int .u32 sr, .int .u32 ds, .string o] 27)
  have f7 := A3.2.2.2.2.2.2.2.2
  clear x2 A2 B1 B2 c1 c2
  go_wp2_with fail
  refine (c3 _ _ (by simp) (by simp [go_sem])).mono ?_; rintro e w3 ⟨rfl, x3⟩
  obtain ⟨_, f0, f1, f2, f3, f4, f5, f6, f7⟩ := (A3.past (o := .cells #[.string (S.extract 0 j)] 9)).on x3
  obtain ⟨_, g0, g1, g2, g3, g4, g5, g6, g7⟩ := (X2.past (o := .cells #[.string (S.extract 0 j)] 9)).on x3
  have B4 := B3.alloc B3.size (.cells #[.string (S.extract 0 j)] 9)
  have B5 := B4.trans (x3.mono B4.size)
  clear x3 A3 X2 B3 B4 c3
  go_wp2_with fail
  refine (headed_ _).mono ?_; rintro e w4 ⟨rfl, x4⟩
  have B6 := B5.trans (x4.mono B5.size)
  clear B5 x4 f0 f1 f2 f3 f4 f5 f6 f7 g0 g1 g2 g3 g4 g5 g6 g7
  go_wp2
  go_ret
  exact ⟨rfl, B6⟩
end Go.Proofs.Ytfiokjenfmpmlaa.IpBack
