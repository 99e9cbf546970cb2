/- HashesUnlike (layer 12). Written by gen_hasw.py. -/
import Derived.Test.YtijippfcobgidaaHasG
namespace Go.Proofs.Ytijippfcobgidaa.HashesUnlike
set_option linter.unusedVariables false
set_option linter.unusedSimpArgs false
open Go.ChangeShapes Go.WideShapes Go.ChangeAt Go.RowKit Go.PlainAid
attribute [local go_sem ↓] Go.wp_at_zero Go.wp_at_succ
theorem ofV_whole (n : Nat) (h : n < 4294967296) : ofV 4294967296 n = (n : Int) := by unfold ofV; rw [if_neg (by omega)]; omega
set_option maxHeartbeats 2000000 in
set_option maxRecDepth 100000 in
theorem walkN (p a m b n at_ by_ : Nat) (w : World) (h0 : p < 256) (h1 : a < 4294967296) (h2 : m < 65536) (h3 : b < 4294967296) (h4 : n < 65536) (ha_ : at_ < 256) (hb_ : by_ < 256) :
    Calls Try.prog 4 #[.agg #[.int .u8 (p : Int), .int .u32 (a : Int), .int .u16 (m : Int), .int .u32 (b : Int), .int .u16 (n : Int)], .int .u8 (at_ : Int), .int .u8 (by_ : Int)] w fun e w' => e = .returned (.bool true) ∧ Below w.heap.size w w' := by
  obtain ⟨q, c, k, d, j, i0, i1, i2, i3, i4, hne, c0⟩ := with12_ p a m b n at_ by_ h0 h1 h2 h3 h4 ha_ hb_
  have c1 := fun u => of12_ p a m b n 4294967296 u h0 h1 h2 h3 h4 (by omega)
  have c2 := fun u => of12_ q c k d j 4294967296 u i0 i1 i2 i3 i4 (by omega)
  rw [ofV_whole _ (haT_lt _ _ _ _ _)] at c1 c2
  have key : ∃ B : Bool, (((haT p a m b n : Nat) : Int) == ((haT q c k d j : Nat) : Int)) = B ∧ (((by_ : Nat) : Int) == 0) = B := by
    refine ⟨decide (by_ = 0), ?_, ?_⟩
    · rw [show decide (by_ = 0) = decide (haT p a m b n = haT q c k d j) from decide_eq_decide.2 hne.symm]
      simp [BEq.beq, Int.ofNat_inj]
    · simp [BEq.beq]
  obtain ⟨B, t1, t2⟩ := key
  generalize haT p a m b n = x at *
  generalize haT q c k d j = y at *
  clear hne
  go_enter Try.func4, Try.ntmps4
  have B1 := Below.refl w.heap.size w
  go_wp2_with fail
  have A_2 := Box5.make w (.int .u8 (p : Int)) (.int .u32 (a : Int)) (.int .u16 (m : Int)) (.int .u32 (b : Int)) (.int .u16 (n : Int)) 28
  have B3 := B1.alloc B1.size (.cells #[.int .u8 (p : Int), .int .u32 (a : Int), .int .u16 (m : Int), .int .u32 (b : Int), .int .u16 (n : Int)] 28)
  clear B1
  obtain ⟨u1, hu1⟩ : ∃ x_ : World, x_ = w.alloc (.cells #[.int .u8 (p : Int), .int .u32 (a : Int), .int .u16 (m : Int), .int .u32 (b : Int), .int .u16 (n : Int)] 28) := ⟨_, rfl⟩
  rw [← hu1] at A_2 B3 ⊢
  clear hu1
  refine (c0 _).mono ?_; rintro e w2 ⟨rfl, x2⟩
  have A_4 := A_2.on x2
  have B5 := B3.trans (x2.mono B3.size)
  clear A_2 B3 x2
  obtain ⟨_, a1_0, a1_1, a1_2, a1_3, a1_4⟩ := id A_4
  go_wp2_with fail
  clear a1_0 a1_1 a1_2 a1_3 a1_4
  have A_6 := A_4.past (o := (.cells #[.int .u8 (q : Int), .int .u32 (c : Int), .int .u16 (k : Int), .int .u32 (d : Int), .int .u16 (j : Int)] 28))
  have B_7 := Box5.make w2 (.int .u8 (q : Int)) (.int .u32 (c : Int)) (.int .u16 (k : Int)) (.int .u32 (d : Int)) (.int .u16 (j : Int)) 28
  have B8 := B5.alloc B5.size (.cells #[.int .u8 (q : Int), .int .u32 (c : Int), .int .u16 (k : Int), .int .u32 (d : Int), .int .u16 (j : Int)] 28)
  clear A_4 B5
  obtain ⟨u3, hu3⟩ : ∃ x_ : World, x_ = w2.alloc (.cells #[.int .u8 (q : Int), .int .u32 (c : Int), .int .u16 (k : Int), .int .u32 (d : Int), .int .u16 (j : Int)] 28) := ⟨_, rfl⟩
  rw [← hu3] at A_6 B_7 B8 ⊢
  clear hu3
  cases B
  all_goals
    obtain ⟨s1, x0, x1, x2, x3, x4⟩ := id A_6
    obtain ⟨s2, z0, z1, z2, z3, z4⟩ := id B_7
    have p0 : ∀ q_ : Later u3.heap.size u3, q_.u.cell? ⟨w.heap.size, 0, none⟩ = some (.int .u8 (p : Int)) := fun q_ => q_.block s1 x0
    have r0 : ∀ q_ : Later u3.heap.size u3, q_.u.cell? ⟨w2.heap.size, 0, none⟩ = some (.int .u8 (q : Int)) := fun q_ => q_.block s2 z0
    have p1 : ∀ q_ : Later u3.heap.size u3, q_.u.cell? ⟨w.heap.size, 1, none⟩ = some (.int .u32 (a : Int)) := fun q_ => q_.block s1 x1
    have r1 : ∀ q_ : Later u3.heap.size u3, q_.u.cell? ⟨w2.heap.size, 1, none⟩ = some (.int .u32 (c : Int)) := fun q_ => q_.block s2 z1
    have p2 : ∀ q_ : Later u3.heap.size u3, q_.u.cell? ⟨w.heap.size, 2, none⟩ = some (.int .u16 (m : Int)) := fun q_ => q_.block s1 x2
    have r2 : ∀ q_ : Later u3.heap.size u3, q_.u.cell? ⟨w2.heap.size, 2, none⟩ = some (.int .u16 (k : Int)) := fun q_ => q_.block s2 z2
    have p3 : ∀ q_ : Later u3.heap.size u3, q_.u.cell? ⟨w.heap.size, 3, none⟩ = some (.int .u32 (b : Int)) := fun q_ => q_.block s1 x3
    have r3 : ∀ q_ : Later u3.heap.size u3, q_.u.cell? ⟨w2.heap.size, 3, none⟩ = some (.int .u32 (d : Int)) := fun q_ => q_.block s2 z3
    have p4 : ∀ q_ : Later u3.heap.size u3, q_.u.cell? ⟨w.heap.size, 4, none⟩ = some (.int .u16 (n : Int)) := fun q_ => q_.block s1 x4
    have r4 : ∀ q_ : Later u3.heap.size u3, q_.u.cell? ⟨w2.heap.size, 4, none⟩ = some (.int .u16 (j : Int)) := fun q_ => q_.block s2 z4
    clear x0 x1 x2 x3 x4 z0 z1 z2 z3 z4 s1 s2 A_6 B_7
    refine region_later (B := u3.heap.size) (by kernel_rfl) (by kernel_rfl) ?_
    repeat (go_big_quiet_step (first
      | (go_at_call_of 8 (Value.int IntKind.u32 (a : Int)); exact later_of _ (Nat.le_refl _) (c1 _))
      | (go_at_call_of 8 (Value.int IntKind.u32 (c : Int)); exact later_of _ (Nat.le_refl _) (c2 _))
      | (go_at_call 9; exact later_of _ (Nat.le_refl _) (mixed12_ _))))
    refine later_end fun w9 b9 => ?_
    have B9 := B8.trans (b9.mono B8.size)
    clear b9 c1 c2 p0 p1 p2 p3 p4 r0 r1 r2 r3 r4
    go_wp2
    go_ret
    exact ⟨rfl, B9⟩
theorem walk (p a m b n x y : Int) (w : World) (hp : (Lit.int .u8 p).wf = true) (ha : (Lit.int .u32 a).wf = true) (hm : (Lit.int .u16 m).wf = true) (hb : (Lit.int .u32 b).wf = true) (hn : (Lit.int .u16 n).wf = true) (hx : (Lit.int .u8 x).wf = true) (hy : (Lit.int .u8 y).wf = true) :
    Calls Try.prog 4 #[.agg #[.int .u8 p, .int .u32 a, .int .u16 m, .int .u32 b, .int .u16 n], .int .u8 x, .int .u8 y] w fun e w' => e = .returned (.bool true) ∧ Below w.heap.size w w' := by
  obtain ⟨p0, p1⟩ := bounds_u8 hp
  obtain ⟨a0, a1⟩ := bounds_u32 ha
  obtain ⟨m0, m1⟩ := bounds_u16 hm
  obtain ⟨b0, b1⟩ := bounds_u32 hb
  obtain ⟨n0, n1⟩ := bounds_u16 hn
  obtain ⟨x0, x1⟩ := bounds_u8 hx
  obtain ⟨y0, y1⟩ := bounds_u8 hy
  obtain ⟨p, rfl⟩ := Int.eq_ofNat_of_zero_le p0
  obtain ⟨a, rfl⟩ := Int.eq_ofNat_of_zero_le a0
  obtain ⟨m, rfl⟩ := Int.eq_ofNat_of_zero_le m0
  obtain ⟨b, rfl⟩ := Int.eq_ofNat_of_zero_le b0
  obtain ⟨n, rfl⟩ := Int.eq_ofNat_of_zero_le n0
  obtain ⟨x, rfl⟩ := Int.eq_ofNat_of_zero_le x0
  obtain ⟨y, rfl⟩ := Int.eq_ofNat_of_zero_le y0
  exact walkN p a m b n x y w (by omega) (by omega) (by omega) (by omega) (by omega) (by omega) (by omega)
end Go.Proofs.Ytijippfcobgidaa.HashesUnlike
