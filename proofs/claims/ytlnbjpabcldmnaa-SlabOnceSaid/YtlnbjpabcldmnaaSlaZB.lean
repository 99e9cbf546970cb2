/- The code's slab (layer 13): State, Live, Free. -/
import Derived.Test.YtlnbjpabcldmnaaSlaZA
namespace Go.Proofs.Ytlnbjpabcldmnaa
set_option linter.unusedVariables false
set_option linter.unusedSimpArgs false
open Go.ChangeShapes Go.WideShapes Go.ChangeAt Go.RowKit Go.PlainAid
attribute [local go_sem ↓] Go.wp_at_zero Go.wp_at_succ
set_option maxHeartbeats 1000000 in
set_option maxRecDepth 100000 in
theorem state13_ (p : Nat) (t : Sl) (i : Int) (w : World) (H : SlC w p t) :
    Calls Try.prog 20 #[.pointer (some ⟨p, 0, none⟩), .int .i64 i] w fun e w' => e = .returned (.int .i64 (stateV t i)) ∧ w = w' := by
  have hd := H.head
  have c1 := size13_ p t w H
  by_cases h0 : i < 0
  · have HV : Hid (stateV t i = -1) := by show _ = _; unfold stateV; rw [if_neg (by omega)]
    have e1 : decide (i < 0) = true := by simpa using h0
    clear h0 c1
    go_enter Try.func20, Try.ntmps20
    go_wp2
    go_ret
    rw [HV.out]
    exact ⟨rfl, rfl⟩
  have e1 : decide (i < 0) = false := by simpa using h0
  obtain ⟨k, rfl⟩ := Int.eq_ofNat_of_zero_le (show 0 ≤ i by omega)
  by_cases h1 : t.length ≤ k
  · have HV : Hid (stateV t k = -1) := by show _ = _; unfold stateV; rw [if_neg (by omega)]
    have e2 : decide (t.length ≤ k) = true := by simpa using h1
    clear h1 h0
    go_enter Try.func20, Try.ntmps20
    go_wp2_with fail
    refine c1.mono ?_; rintro e w1 ⟨rfl, rfl⟩
    go_wp2
    go_ret
    rw [HV.out]
    exact ⟨rfl, rfl⟩
  · have HV : Hid (stateV t k = ((slS t k : Nat) : Int)) := by show _ = _; unfold stateV; rw [if_pos (by omega)]; rfl
    have e2 : decide (t.length ≤ k) = false := by simpa using h1
    obtain ⟨x1, x2⟩ := H.cs k (by omega)
    have h256 := H.ok.1
    have i0 : (0 : Int) ≤ (k : Int) := by omega
    have i1 : (k : Int) < 256 := by omega
    have i2 : k < 256 := by omega
    generalize slS t k = s at *
    clear h1 h0 H h256
    go_enter Try.func20, Try.ntmps20
    go_wp2_with fail
    refine c1.mono ?_; rintro e w1 ⟨rfl, rfl⟩
    go_wp2
    go_ret
    rw [HV.out]
    exact ⟨rfl, rfl⟩
set_option maxHeartbeats 1000000 in
set_option maxRecDepth 100000 in
theorem stateN13_ (v : Value) (i : Int) (w : World) (H : NoC w v) :
    Calls Try.prog 20 #[v, .int .i64 i] w fun e w' => e = .returned (.int .i64 (-1)) ∧ w = w' := by
  have c1 := sizeN13_ v w H
  clear H
  by_cases h0 : i < 0
  · have e1 : decide (i < 0) = true := by simpa using h0
    clear h0 c1
    go_enter Try.func20, Try.ntmps20
    go_wp2
    go_ret
    exact ⟨rfl, rfl⟩
  · have e1 : decide (i < 0) = false := by simpa using h0
    have e2 : decide (0 ≤ i) = true := by simp; omega
    clear h0
    go_enter Try.func20, Try.ntmps20
    go_wp2_with fail
    refine c1.mono ?_; rintro e w1 ⟨rfl, rfl⟩
    go_wp2
    go_ret
    exact ⟨rfl, rfl⟩
set_option maxHeartbeats 1000000 in
set_option maxRecDepth 100000 in
theorem free13_ (p : Nat) (t : Sl) (i : Int) (w : World) (H : SlC w p t) :
    Calls Try.prog 16 #[.pointer (some ⟨p, 0, none⟩), .int .i64 i] w fun e w' => e = .returned (.int .i64 (freeE t i : Int)) ∧ SlC w' p (freeT t i) ∧ Beside (fun k => k = p) w w' := by
  have cs := state13_ p t i w H
  have cn := none13_ p t w H
  by_cases h2 : stateV t i = 2
  · have HV : Hid (freeE t i = 0 ∧ freeT t i = slPut t i.toNat 0 (slG t i.toNat)) := by show _ ∧ _; unfold freeE freeT; rw [if_pos h2, if_pos h2]; exact ⟨rfl, rfl⟩
    obtain ⟨i0, i1⟩ := stateV_in (t := t) (i := i) (by omega)
    rw [h2] at cs
    clear h2
    obtain ⟨k, rfl⟩ := Int.eq_ofNat_of_zero_le i0
    have i2 : k < t.length := by omega
    have h256 := H.ok.1
    have j1 : (k : Int) < 256 := by omega
    have j2 : k < 256 := by omega
    obtain ⟨x1, x2⟩ := H.cs k i2
    obtain ⟨f1, f2⟩ := H.fz k i2
    have HR := Lib.hid (H.setS k 0 i2 (by omega))
    clear H h256 i1
    go_enter Try.func16, Try.ntmps16
    go_wp2_with fail
    refine cn.mono ?_; rintro e w1 ⟨rfl, rfl⟩
    go_wp2_with fail
    refine cs.mono ?_; rintro e w1 ⟨rfl, rfl⟩
    go_wp2
    go_ret
    rw [HV.out.1, HV.out.2]
    have hb : Beside (fun k => k = p) w (w.setCell ⟨p, 1 + k * 2, none⟩ (.int .i64 0)) := (Beside.refl (fun k => k = p) w).setCell (p := ⟨p, 1 + k * 2, none⟩) rfl _
    exact ⟨rfl, HR.out, hb⟩
  · have HV : Hid (freeE t i = 6 ∧ freeT t i = t) := by show _ ∧ _; unfold freeE freeT; rw [if_neg h2, if_neg h2]; exact ⟨rfl, rfl⟩
    have e1 : (stateV t i != 2) = true := by simpa using h2
    have e2 : (stateV t i == 2) = false := by simpa using h2
    have HH := Lib.hid H
    clear h2 H
    generalize stateV t i = s at *
    go_enter Try.func16, Try.ntmps16
    go_wp2_with fail
    refine cn.mono ?_; rintro e w1 ⟨rfl, rfl⟩
    go_wp2_with fail
    refine cs.mono ?_; rintro e w1 ⟨rfl, rfl⟩
    go_wp2
    go_ret
    rw [HV.out.1, HV.out.2]
    exact ⟨rfl, HH.out, Beside.refl _ _⟩
set_option maxHeartbeats 1000000 in
set_option maxRecDepth 100000 in
theorem freeN13_ (v : Value) (i : Int) (w : World) (H : NoC w v) :
    Calls Try.prog 16 #[v, .int .i64 i] w fun e w' => e = .returned (.int .i64 1) ∧ w = w' := by
  have cn := noneN13_ v w H
  clear H
  go_enter Try.func16, Try.ntmps16
  go_wp2_with fail
  refine cn.mono ?_; rintro e w1 ⟨rfl, rfl⟩
  go_wp2
  go_ret
  exact ⟨rfl, rfl⟩
set_option maxHeartbeats 2000000 in
set_option maxRecDepth 100000 in
theorem live13_ (p : Nat) (t : Sl) (i : Int) (g : Nat) (w : World) (H : SlC w p t) :
    Calls Try.prog 22 #[.pointer (some ⟨p, 0, none⟩), .agg #[.int .i64 i, .int .u32 (g : Int)]] w fun e w' => e = .returned (.bool (liveV t i g)) ∧ Below w.heap.size w w' := by
  have B1 : Below w.heap.size w (w.alloc (.cells #[.int .i64 i, .int .u32 (g : Int)] 34)) := (Below.refl _ _).alloc (Nat.le_refl _) _
  have H1 := H.on B1
  have h0 : (w.alloc (.cells #[.int .i64 i, .int .u32 (g : Int)] 34)).cell? ⟨w.heap.size, 0, none⟩ = some (.int .i64 i) := by simp [go_sem]
  have g0 : (w.alloc (.cells #[.int .i64 i, .int .u32 (g : Int)] 34)).cell? ⟨w.heap.size, 1, none⟩ = some (.int .u32 (g : Int)) := by simp [go_sem]
  have z0 : w.heap.size < (w.alloc (.cells #[.int .i64 i, .int .u32 (g : Int)] 34)).heap.size := by simp
  by_cases h2 : stateV t i = 1
  · obtain ⟨i0, i1⟩ := stateV_in (t := t) (i := i) (by omega)
    obtain ⟨k, rfl⟩ := Int.eq_ofNat_of_zero_le i0
    have i2 : k < t.length := by omega
    have h256 := H.ok.1
    have j1 : (k : Int) < 256 := by omega
    have j2 : k < 256 := by omega
    have HV : Hid (liveV t (k : Int) g = decide (slG t k = g)) := by
      show _ = _
      unfold liveV
      rw [h2]
      simp
    have key : ∃ v : Bool, (((slG t k : Nat) : Int) == (g : Int)) = v ∧ decide (slG t k = g) = v := ⟨_, rfl, by simp [BEq.beq, Int.ofNat_inj]⟩
    obtain ⟨v, v1, v2⟩ := key
    rw [v2] at HV
    clear v2
    go_enter Try.func22, Try.ntmps22
    go_wp2_with fail
    obtain ⟨w1, hw1⟩ : ∃ w1, w1 = w.alloc (.cells #[.int .i64 (k : Int), .int .u32 (g : Int)] 34) := ⟨_, rfl⟩
    rw [← hw1] at B1 H1 h0 g0 z0 ⊢
    clear hw1
    have cs : ∀ q : Later w1.heap.size w1, Calls Try.prog 20 #[.pointer (some ⟨p, 0, none⟩), .int .i64 (k : Int)] q.u fun e w' => e = .returned (.int .i64 1) ∧ q.u = w' := fun q => by
      have := state13_ p t (k : Int) q.u (H1.on q.h)
      rw [h2] at this
      exact this
    have p0 : ∀ q : Later w1.heap.size w1, q.u.cell? ⟨w.heap.size, 0, none⟩ = some (.int .i64 (k : Int)) := fun q => q.block z0 h0
    have p1 : ∀ q : Later w1.heap.size w1, q.u.cell? ⟨w.heap.size, 1, none⟩ = some (.int .u32 (g : Int)) := fun q => q.block z0 g0
    have p3 : ∀ q : Later w1.heap.size w1, q.u.cell? ⟨p, 1 + k * 2 + 1, none⟩ = some (.int .u32 ((slG t k : Nat) : Int)) := fun q => q.block H1.bl (H1.cs k i2).2
    generalize slG t k = y at *
    clear h0 g0 H H1 h2 z0 h256 i1
    refine region_later (B := w1.heap.size) (by kernel_rfl) (by kernel_rfl) ?_
    repeat (go_big_quiet_step (first
      | (go_at_call 20; exact later_same _ (cs _))))
    refine later_end fun w2 b2 => ?_
    have B2 := B1.trans (b2.mono B1.size)
    clear B1 b2 cs
    go_wp2
    go_ret
    rw [HV.out]
    exact ⟨rfl, B2⟩
  · have HV : Hid (liveV t i g = false) := by show _ = _; unfold liveV; simp [h2]
    have e1 : (stateV t i == 1) = false := by simpa using h2
    clear h2
    obtain ⟨s, h2⟩ : ∃ s, stateV t i = s := ⟨_, rfl⟩
    rw [h2] at e1
    go_enter Try.func22, Try.ntmps22
    go_wp2_with fail
    obtain ⟨w1, hw1⟩ : ∃ w1, w1 = w.alloc (.cells #[.int .i64 i, .int .u32 (g : Int)] 34) := ⟨_, rfl⟩
    rw [← hw1] at B1 H1 h0 g0 z0 ⊢
    clear hw1
    have cs : ∀ q : Later w1.heap.size w1, Calls Try.prog 20 #[.pointer (some ⟨p, 0, none⟩), .int .i64 i] q.u fun e w' => e = .returned (.int .i64 s) ∧ q.u = w' := fun q => by
      have := state13_ p t i q.u (H1.on q.h)
      rw [h2] at this
      exact this
    have p0 : ∀ q : Later w1.heap.size w1, q.u.cell? ⟨w.heap.size, 0, none⟩ = some (.int .i64 i) := fun q => q.block z0 h0
    have p1 : ∀ q : Later w1.heap.size w1, q.u.cell? ⟨w.heap.size, 1, none⟩ = some (.int .u32 (g : Int)) := fun q => q.block z0 g0
    clear h0 g0 H H1 h2 z0
    refine region_later (B := w1.heap.size) (by kernel_rfl) (by kernel_rfl) ?_
    repeat (go_big_quiet_step (first
      | (go_at_call 20; exact later_same _ (cs _))))
    refine later_end fun w2 b2 => ?_
    have B2 := B1.trans (b2.mono B1.size)
    clear B1 b2 cs
    go_wp2
    go_ret
    rw [HV.out]
    exact ⟨rfl, B2⟩
set_option maxHeartbeats 2000000 in
set_option maxRecDepth 100000 in
theorem liveN13_ (v : Value) (i : Int) (g : Nat) (w : World) (H : NoC w v) :
    Calls Try.prog 22 #[v, .agg #[.int .i64 i, .int .u32 (g : Int)]] w fun e w' => e = .returned (.bool false) ∧ Below w.heap.size w w' := by
  have B1 : Below w.heap.size w (w.alloc (.cells #[.int .i64 i, .int .u32 (g : Int)] 34)) := (Below.refl _ _).alloc (Nat.le_refl _) _
  have H1 := H.on B1
  have h0 : (w.alloc (.cells #[.int .i64 i, .int .u32 (g : Int)] 34)).cell? ⟨w.heap.size, 0, none⟩ = some (.int .i64 i) := by simp [go_sem]
  have g0 : (w.alloc (.cells #[.int .i64 i, .int .u32 (g : Int)] 34)).cell? ⟨w.heap.size, 1, none⟩ = some (.int .u32 (g : Int)) := by simp [go_sem]
  have z0 : w.heap.size < (w.alloc (.cells #[.int .i64 i, .int .u32 (g : Int)] 34)).heap.size := by simp
  go_enter Try.func22, Try.ntmps22
  go_wp2_with fail
  obtain ⟨w1, hw1⟩ : ∃ w1, w1 = w.alloc (.cells #[.int .i64 i, .int .u32 (g : Int)] 34) := ⟨_, rfl⟩
  rw [← hw1] at B1 H1 h0 g0 z0 ⊢
  clear hw1
  have cs : ∀ q : Later w1.heap.size w1, Calls Try.prog 20 #[v, .int .i64 i] q.u fun e w' => e = .returned (.int .i64 (-1)) ∧ q.u = w' := fun q => stateN13_ v i q.u (H1.on q.h)
  have p0 : ∀ q : Later w1.heap.size w1, q.u.cell? ⟨w.heap.size, 0, none⟩ = some (.int .i64 i) := fun q => q.block z0 h0
  have p1 : ∀ q : Later w1.heap.size w1, q.u.cell? ⟨w.heap.size, 1, none⟩ = some (.int .u32 (g : Int)) := fun q => q.block z0 g0
  clear h0 g0 H H1 z0
  refine region_later (B := w1.heap.size) (by kernel_rfl) (by kernel_rfl) ?_
  repeat (go_big_quiet_step (first
    | (go_at_call 20; exact later_same _ (cs _))))
  refine later_end fun w2 b2 => ?_
  have B2 := B1.trans (b2.mono B1.size)
  clear B1 b2 cs
  go_wp2
  go_ret
  exact ⟨rfl, B2⟩
end Go.Proofs.Ytlnbjpabcldmnaa
