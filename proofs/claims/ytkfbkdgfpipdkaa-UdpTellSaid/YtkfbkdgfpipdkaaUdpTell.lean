/- The walk of UdpTell. -/
import Derived.Test.YtkfbkdgfpipdkaaUdpM
import Derived.Test.YtkfbkdgfpipdkaaUdpC
namespace Go.Proofs.Ytkfbkdgfpipdkaa.UdpTell
set_option linter.unusedVariables false
set_option linter.unusedSimpArgs false
open Go.ChangeShapes Go.WideShapes Go.ChangeAt Go.RowKit Go.PlainAid
set_option maxRecDepth 100000 in
set_option maxHeartbeats 2000000 in
theorem walk_ (K : UdpOk) (s : ByteArray) (a b l c : Int) (p : ByteArray) (w : World) (hs : s.size ≤ maxLen) (ha : (Lit.int .u16 a).wf = true) (hb : (Lit.int .u16 b).wf = true) (hl : (Lit.int .u16 l).wf = true) (hc : (Lit.int .u16 c).wf = true) (hp : p.size ≤ maxLen) :
    Calls Try.prog 3 #[.string s, .agg #[.int .u16 a, .int .u16 b, .int .u16 l, .int .u16 c], .string p] w fun e w' => e = .returned (.bool true) ∧ Below w.heap.size w w' := by
  obtain ⟨a0, a1⟩ := bounds_u16 ha
  obtain ⟨b0, b1⟩ := bounds_u16 hb
  obtain ⟨c0, c1⟩ := bounds_u16 hc
  clear ha hb hl hc hs hp
  by_cases h1 : 600 < s.size
  · have e1 : decide ((600 : Int) < (s.size : Int)) = true := by simp; omega
    clear h1
    go_enter Try.func3, Try.ntmps3
    go_wp2_with fail
    refine (sent_ K _).mono ?_; rintro e w1 ⟨rfl, x1⟩
    have B1 : Below w.heap.size w w1 := ((Below.refl _ _).alloc (Nat.le_refl _) _).trans (x1.mono (by simp))
    go_wp2
    go_ret
    exact ⟨rfl, B1⟩
  have e1 : decide ((600 : Int) < (s.size : Int)) = false := by simp; omega
  by_cases h2 : 600 < p.size
  · have e2 : decide ((600 : Int) < (p.size : Int)) = true := by simp; omega
    clear h1 h2
    go_enter Try.func3, Try.ntmps3
    go_wp2_with fail
    refine (sent_ K _).mono ?_; rintro e w1 ⟨rfl, x1⟩
    have B1 : Below w.heap.size w w1 := ((Below.refl _ _).alloc (Nat.le_refl _) _).trans (x1.mono (by simp))
    go_wp2
    go_ret
    exact ⟨rfl, B1⟩
  have e2 : decide ((600 : Int) < (p.size : Int)) = false := by simp; omega
  have k1 := fun u => K.parses s u (by omega)
  have k2 := fun u => rparse5_ s u (by omega)
  have k3 := fun u => K.puts a b l c p u a0 a1 b0 b1 c0 c1 (by omega)
  have k4 := fun u => rput5_ a b l c p u a0 a1 b0 b1 c0 c1 (by omega)
  generalize uI s (g16 s 0) = v0 at *
  generalize uI s (g16 s 2) = v1 at *
  generalize uI s (g16 s 4) = v2 at *
  generalize uI s (g16 s 6) = v3 at *
  generalize uP s = q at *
  generalize uOk s = ok at *
  generalize udpB a b c p = t at *
  clear h1 h2
  go_enter Try.func3, Try.ntmps3
  go_wp2_with fail
  have A1 := Box4.make w (.int .u16 a) (.int .u16 b) (.int .u16 l) (.int .u16 c) 24
  refine (k1 _).mono ?_; rintro e w1 ⟨rfl, x1⟩
  have B1 : Below w.heap.size w w1 := ((Below.refl _ _).alloc (Nat.le_refl _) _).trans (x1.mono (by simp))
  have X1 := Box4.make w1 (.int .u16 v0) (.int .u16 v1) (.int .u16 v2) (.int .u16 v3) 24
  have A2 := (A1.on x1).past (o := .cells #[.int .u16 v0, .int .u16 v1, .int .u16 v2, .int .u16 v3] 24)
  have B2 := B1.alloc B1.size (.cells #[.int .u16 v0, .int .u16 v1, .int .u16 v2, .int .u16 v3] 24)
  clear A1 B1 x1 k1
  go_wp2_with fail
  refine (k2 _).mono ?_; rintro e w2 ⟨rfl, x2⟩
  have Y3 := Box4.make w2 (.int .u16 v0) (.int .u16 v1) (.int .u16 v2) (.int .u16 v3) 28
  have A3 := (A2.on x2).past (o := .cells #[.int .u16 v0, .int .u16 v1, .int .u16 v2, .int .u16 v3] 28)
  have X3 := (X1.on x2).past (o := .cells #[.int .u16 v0, .int .u16 v1, .int .u16 v2, .int .u16 v3] 28)
  have B3 := (B2.trans (x2.mono B2.size)).alloc (B2.trans (x2.mono B2.size)).size (.cells #[.int .u16 v0, .int .u16 v1, .int .u16 v2, .int .u16 v3] 28)
  clear A2 X1 B2 x2 k2
  go_wp2_with fail
  obtain ⟨w3, hw3⟩ : ∃ x, x = w2.alloc (.cells #[.int .u16 v0, .int .u16 v1, .int .u16 v2, .int .u16 v3] 28) := ⟨_, rfl⟩
  rw [← hw3] at Y3 A3 X3 B3 ⊢
  clear hw3
  obtain ⟨za, f0, f1, f2, f3⟩ := A3
  obtain ⟨zx, g0, g1, g2, g3⟩ := X3
  obtain ⟨zy, h0, h1, h2, h3⟩ := Y3
  have F0 : ∀ x : Later w3.heap.size w3, x.u.cell? ⟨w.heap.size, 0, none⟩ = some (.int .u16 a) := fun x => x.block za f0
  have F1 : ∀ x : Later w3.heap.size w3, x.u.cell? ⟨w.heap.size, 1, none⟩ = some (.int .u16 b) := fun x => x.block za f1
  have F2 : ∀ x : Later w3.heap.size w3, x.u.cell? ⟨w.heap.size, 2, none⟩ = some (.int .u16 l) := fun x => x.block za f2
  have F3 : ∀ x : Later w3.heap.size w3, x.u.cell? ⟨w.heap.size, 3, none⟩ = some (.int .u16 c) := fun x => x.block za f3
  have G0 : ∀ x : Later w3.heap.size w3, x.u.cell? ⟨w1.heap.size, 0, none⟩ = some (.int .u16 v0) := fun x => x.block zx g0
  have G1 : ∀ x : Later w3.heap.size w3, x.u.cell? ⟨w1.heap.size, 1, none⟩ = some (.int .u16 v1) := fun x => x.block zx g1
  have G2 : ∀ x : Later w3.heap.size w3, x.u.cell? ⟨w1.heap.size, 2, none⟩ = some (.int .u16 v2) := fun x => x.block zx g2
  have G3 : ∀ x : Later w3.heap.size w3, x.u.cell? ⟨w1.heap.size, 3, none⟩ = some (.int .u16 v3) := fun x => x.block zx g3
  have H0 : ∀ x : Later w3.heap.size w3, x.u.cell? ⟨w2.heap.size, 0, none⟩ = some (.int .u16 v0) := fun x => x.block zy h0
  have H1 : ∀ x : Later w3.heap.size w3, x.u.cell? ⟨w2.heap.size, 1, none⟩ = some (.int .u16 v1) := fun x => x.block zy h1
  have H2 : ∀ x : Later w3.heap.size w3, x.u.cell? ⟨w2.heap.size, 2, none⟩ = some (.int .u16 v2) := fun x => x.block zy h2
  have H3 : ∀ x : Later w3.heap.size w3, x.u.cell? ⟨w2.heap.size, 3, none⟩ = some (.int .u16 v3) := fun x => x.block zy h3
  clear f0 f1 f2 f3 g0 g1 g2 g3 h0 h1 h2 h3
  refine region_later (B := w3.heap.size) (by kernel_rfl) (by kernel_rfl) ?_
  repeat (go_big_quiet_step (first
    | (go_at_call 11; exact later_of _ (Nat.le_refl _) (k3 _))
    | (go_at_call 12; exact later_of _ (Nat.le_refl _) (k4 _))
    | (go_at_call 8; exact later_of _ (Nat.le_refl _) (sent_ K _))))
  refine later_end fun w4 b4 => ?_
  have B4 := B3.trans (b4.mono B3.size)
  clear B3 b4 F0 F1 F2 F3 G0 G1 G2 G3 H0 H1 H2 H3
  go_wp2
  go_ret
  exact ⟨rfl, B4⟩
end Go.Proofs.Ytkfbkdgfpipdkaa.UdpTell
