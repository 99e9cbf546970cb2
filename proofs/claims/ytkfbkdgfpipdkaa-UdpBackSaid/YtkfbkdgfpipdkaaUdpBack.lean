/- The walk of UdpBack. -/
import Derived.Test.YtkfbkdgfpipdkaaUdpM
namespace Go.Proofs.Ytkfbkdgfpipdkaa.UdpBack
set_option linter.unusedVariables false
set_option linter.unusedSimpArgs false
open Go.ChangeShapes Go.WideShapes Go.ChangeAt Go.RowKit Go.PlainAid
theorem udpB_size (a b c : Int) (p : ByteArray) : (udpB a b c p).size = 8 + p.size := by
  unfold udpB; rw [ByteArray.size_append, size_W]; rfl
theorem udpB_words (a b c : Int) (p q : ByteArray) (a0 : 0 ≤ a) (a1 : a ≤ 65535) (b0 : 0 ≤ b) (b1 : b ≤ 65535) (c0 : 0 ≤ c) (c1 : c ≤ 65535) :
    g16 (udpB a b c p ++ q) 0 = a ∧ g16 (udpB a b c p ++ q) 2 = b ∧ g16 (udpB a b c p ++ q) 4 = (8 + (p.size : Int)) % 65536 ∧ g16 (udpB a b c p ++ q) 6 = c := by
  have hz := udpB_size a b c p
  have hw : ∀ n ∈ [a, b, (8 + (p.size : Int)) % 65536, c], 0 ≤ n ∧ n ≤ 65535 := by intro n hn; simp at hn; omega
  have key : ∀ i, i < 4 → g16 (udpB a b c p ++ q) (2 * i) = [a, b, (8 + (p.size : Int)) % 65536, c].getD i 0 := by
    intro i hi
    rw [g16_app_l _ _ _ (by omega)]
    unfold udpB
    rw [g16_app_l _ _ _ (by rw [size_W]; show _ < 2 * 4; omega), g16_W _ hw]
  exact ⟨key 0 (by omega), key 1 (by omega), key 2 (by omega), key 3 (by omega)⟩
theorem ext_mid (x y : ByteArray) : (x ++ y).extract x.size (x ++ y).size = y := by
  have := ext_app_r x y 0 y.size
  rw [Nat.add_zero, ext_all] at this
  rw [ByteArray.size_append]; exact this
theorem udpB_pay (a b c : Int) (p : ByteArray) : (udpB a b c p).extract 8 (udpB a b c p).size = p := by
  have h := ext_mid (strOfNums (wordL [a, b, (8 + (p.size : Int)) % 65536, c])) p
  rw [size_W] at h
  exact h
set_option maxRecDepth 100000 in
set_option maxHeartbeats 4000000 in
theorem walk_ (K : UdpOk) (a b l c : Int) (p q : ByteArray) (w : World) (ha : (Lit.int .u16 a).wf = true) (hb : (Lit.int .u16 b).wf = true) (hl : (Lit.int .u16 l).wf = true) (hc : (Lit.int .u16 c).wf = true) (hp : p.size ≤ maxLen) (hq : q.size ≤ maxLen) :
    Calls Try.prog 5 #[.agg #[.int .u16 a, .int .u16 b, .int .u16 l, .int .u16 c], .string p, .string q] w fun e w' => e = .returned (.bool true) ∧ Below w.heap.size w w' := by
  obtain ⟨a0, a1⟩ := bounds_u16 ha
  obtain ⟨b0, b1⟩ := bounds_u16 hb
  obtain ⟨c0, c1⟩ := bounds_u16 hc
  clear ha hb hl hc hp hq
  obtain ⟨m, hm⟩ : ∃ m, p.size = m := ⟨_, rfl⟩
  obtain ⟨k, hk⟩ : ∃ k, q.size = k := ⟨_, rfl⟩
  by_cases h1 : 600 < m
  · have e1 : decide ((600 : Int) < (m : Int)) = true := by simp; omega
    clear h1
    go_enter Try.func5, Try.ntmps5
    go_wp2_with fail
    refine (sent_ K _).mono ?_; rintro e w1 ⟨rfl, x1⟩
    have B1 : Below w.heap.size w w1 := ((Below.refl _ _).alloc (Nat.le_refl _) _).trans (x1.mono (by simp))
    go_wp2
    go_ret
    exact ⟨rfl, B1⟩
  have e1 : decide ((600 : Int) < (m : Int)) = false := by simp; omega
  by_cases h2 : 100 < k
  · have e2 : decide ((100 : Int) < (k : Int)) = true := by simp; omega
    clear h1 h2
    go_enter Try.func5, Try.ntmps5
    go_wp2_with fail
    refine (sent_ K _).mono ?_; rintro e w1 ⟨rfl, x1⟩
    have B1 : Below w.heap.size w w1 := ((Below.refl _ _).alloc (Nat.le_refl _) _).trans (x1.mono (by simp))
    go_wp2
    go_ret
    exact ⟨rfl, B1⟩
  have e2 : decide ((100 : Int) < (k : Int)) = false := by simp; omega
  have k1 := fun u => K.puts a b l c p u a0 a1 b0 b1 c0 c1 (by omega)
  have zS := udpB_size a b c p
  have wE := udpB_words a b c p ByteArray.empty a0 a1 b0 b1 c0 c1
  have wq := udpB_words a b c p q a0 a1 b0 b1 c0 c1
  have py := udpB_pay a b c p
  rw [ByteArray.append_empty] at wE
  rw [hm] at zS wE wq
  obtain ⟨S, hS⟩ : ∃ S, S = udpB a b c p := ⟨_, rfl⟩
  rw [← hS] at k1 zS wE wq py
  clear hS
  obtain ⟨z, hz⟩ : ∃ z : Nat, z = 8 + m := ⟨_, rfl⟩
  rw [← hz] at zS
  rw [show (8 + (m : Int)) % 65536 = (z : Int) by omega] at wE wq
  have okS : uOk S = true := by unfold uOk; rw [zS, wE.2.2.1]; simp; omega
  have okQ : uOk (S ++ q) = decide (k = 0) := by
    unfold uOk
    rw [ByteArray.size_append, zS, hk, wq.2.2.1]
    by_cases h : k = 0
    · simp [h]; omega
    · simp [h]; omega
  have zT := size_extract' S 0 (z - 1) (by omega) (by omega)
  have okT : uOk (S.extract 0 (z - 1)) = false := by
    unfold uOk
    rw [zT]
    by_cases h : 8 ≤ z - 1 - 0
    · rw [g16_ext0 S (z - 1) 4 (by omega) (by omega), wE.2.2.1]; simp; omega
    · rw [decide_eq_false h, Bool.false_and]
  have k2 := fun u => K.parses S u (by omega)
  have k3 := fun u => K.parses (S ++ q) u (by rw [ByteArray.size_append]; omega)
  have k4 := fun u => K.parses (S.extract 0 (z - 1)) u (by omega)
  obtain ⟨_, _, y1, y2⟩ := uOk_yes okS
  obtain ⟨n1, n2⟩ := uOk_no okT
  rw [y1, y1, y1, y1, y2, py, okS, wE.1, wE.2.1, wE.2.2.1, wE.2.2.2] at k2
  rw [okQ] at k3
  rw [n1, n1, n1, n1, n2, okT] at k4
  generalize uI (S ++ q) (g16 (S ++ q) 0) = u0 at *
  generalize uI (S ++ q) (g16 (S ++ q) 2) = u1 at *
  generalize uI (S ++ q) (g16 (S ++ q) 4) = u2 at *
  generalize uI (S ++ q) (g16 (S ++ q) 6) = u3 at *
  generalize uP (S ++ q) = u4 at *
  obtain ⟨j, hj⟩ : ∃ j, j = z - 1 := ⟨_, rfl⟩
  rw [← hj] at k4
  have v1 : 8 + (m : Int) = (z : Int) := by omega
  have v2 : (z : Int) - 1 = (j : Int) := by omega
  have v3 : (j : Int) ≤ (z : Int) := by omega
  have v4 : IntKind.u16.wrap (z : Int) = (z : Int) := IntWalk.u16_in _ (by omega)
  have v5 : z + k ≤ 9223372036854775807 := by omega
  have v6 : (q.toList == []) = decide (k = 0) := by
    rw [← hk, Lib.toList_data]
    cases hl : q.data.toList with
    | nil => have := len_data q; rw [hl] at this; simp at this; simp [← this]
    | cons x t => have := len_data q; rw [hl] at this; simp at this; simp [← this]
  have v6' : q.toList.isEmpty = decide (k = 0) := by
    rw [← v6]
    cases q.toList <;> rfl
  clear okS okQ okT zT wE wq py y1 y2 n1 n2 hz hj h1 h2
  generalize decide (k = 0) = d at *
  go_enter Try.func5, Try.ntmps5
  go_wp2_with fail
  have A0 := Box4.make w (.int .u16 a) (.int .u16 b) (.int .u16 l) (.int .u16 c) 24
  have fz0 : (w.alloc (.cells #[.int .u16 a, .int .u16 b, .int .u16 l, .int .u16 c] 24)).frozen? ⟨w.heap.size, 2, none⟩ = false := by simp [go_sem]
  refine (k1 _).mono ?_; rintro e w1 ⟨rfl, x1⟩
  have A1 := A0.on x1
  have fz1 : w1.frozen? ⟨w.heap.size, 2, none⟩ = false := (x1.frozen (p := ⟨_, 2, none⟩) A0.1).trans fz0
  have B1 : Below w.heap.size w w1 := ((Below.refl _ _).alloc (Nat.le_refl _) _).trans (x1.mono (by simp))
  clear A0 fz0 x1 k1
  go_wp2_with fail
  refine (k2 _).mono ?_; rintro e w2 ⟨rfl, x2⟩
  have fz2 : w2.frozen? ⟨w.heap.size, 2, none⟩ = false := (x2.frozen (p := ⟨_, 2, none⟩) A1.1).trans fz1
  have A2 := (A1.on x2).past (o := .cells #[.int .u16 a, .int .u16 b, .int .u16 (z : Int), .int .u16 c] 24)
  have X2 := Box4.make w2 (.int .u16 a) (.int .u16 b) (.int .u16 (z : Int)) (.int .u16 c) 24
  have B2 := B1.trans (x2.mono B1.size)
  have B3 := B2.alloc B2.size (.cells #[.int .u16 a, .int .u16 b, .int .u16 (z : Int), .int .u16 c] 24)
  have ne : ¬ w.heap.size = w2.heap.size := by have := A1.1; have := x2.size; omega
  have fz3 : (w2.alloc (.cells #[.int .u16 a, .int .u16 b, .int .u16 (z : Int), .int .u16 c] 24)).frozen? ⟨w.heap.size, 2, none⟩ = false := by
    rw [World.frozen?_alloc_past _ _ _ (by have := A1.1; have := x2.size; omega)]; exact fz2
  obtain ⟨w3, hw3⟩ : ∃ x, x = w2.alloc (.cells #[.int .u16 a, .int .u16 b, .int .u16 (z : Int), .int .u16 c] 24) := ⟨_, rfl⟩
  obtain ⟨_, f0, f1, f2, f3⟩ := A2
  obtain ⟨_, g0, g1, g2, g3⟩ := X2
  clear A1 fz1 fz2 x2 k2 B1 hw3
  go_wp2_with fail
  have B4 := B3.setCell (p := ⟨w.heap.size, 2, none⟩) (Nat.le_refl _) (.int .u16 (z : Int))
  refine (k3 _).mono ?_; rintro e w4 ⟨rfl, x4⟩
  have B5 := B4.trans (x4.mono B4.size)
  have B6 := B5.alloc B5.size (.cells #[.int .u16 u0, .int .u16 u1, .int .u16 u2, .int .u16 u3] 24)
  clear B2 B3 B4 B5 x4 f0 f1 f2 f3 g0 g1 g2 g3 fz3 k3
  go_wp2_with fail
  refine (k4 _).mono ?_; rintro e w5 ⟨rfl, x5⟩
  have B7 := B6.trans (x5.mono B6.size)
  have B8 := B7.alloc B7.size (.cells #[.int .u16 0, .int .u16 0, .int .u16 0, .int .u16 0] 24)
  clear B6 B7 x5 k4
  go_wp2_with fail
  refine (sent_ K _).mono ?_; rintro e w6 ⟨rfl, x6⟩
  have B9 := B8.trans (x6.mono B8.size)
  clear B8 x6
  go_wp2
  go_ret
  exact ⟨rfl, B9⟩
end Go.Proofs.Ytkfbkdgfpipdkaa.UdpBack
