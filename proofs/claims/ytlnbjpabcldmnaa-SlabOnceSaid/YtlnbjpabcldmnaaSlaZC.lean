/- The code's slab (layer 13): next (deferred), end, Give, Retire. Written by gen_slazc.py. -/
import Derived.Test.YtlnbjpabcldmnaaSlaZB
import Derived.Defers
namespace Go.Proofs.Ytlnbjpabcldmnaa
set_option linter.unusedVariables false
set_option linter.unusedSimpArgs false
open Go.ChangeShapes Go.WideShapes Go.ChangeAt Go.RowKit Go.PlainAid
attribute [local go_sem ↓] Go.wp_at_zero Go.wp_at_succ
set_option maxHeartbeats 1000000 in
set_option maxRecDepth 100000 in
theorem next13_ (p o g : Nat) (u : FrameMode) (w : World) (hc : w.cell? ⟨p, o + 1, none⟩ = some (.int .u32 (g : Int))) (hf : w.frozen? ⟨p, o + 1, none⟩ = false) :
    CallsD Try.prog 28 #[.pointer (some ⟨p, o, none⟩)] u w fun e u' w' => u' = u ∧ (e = .returned (.tuple #[]) ∧ w' = w.setCell ⟨p, o + 1, none⟩ (.int .u32 (((g + 1) % 4294967296 : Nat) : Int))) := by
  have e1 : IntKind.u32.wrap ((g : Int) + 1) = (((g + 1) % 4294967296 : Nat) : Int) := by rw [IntKind.wrap_u32]; omega
  have e2 : ((g : Int) + 1) % 4294967296 = (((g + 1) % 4294967296 : Nat) : Int) := by omega
  generalize (g + 1) % 4294967296 = G at *
  go_enter_d Try.func28, Try.ntmps28
  go_wp2
  go_end0
  exact ⟨rfl, rfl⟩
set_option maxHeartbeats 2000000 in
set_option maxRecDepth 100000 in
theorem end13_ (p : Nat) (t : Sl) (i : Int) (g s : Nat) (w : World) (H : SlC w p t) (hg : g < 4294967296) (hs : s ≤ 2) :
    Calls Try.prog 27 #[.pointer (some ⟨p, 0, none⟩), .agg #[.int .i64 i, .int .u32 (g : Int)], .int .i64 (s : Int)] w fun e w' => e = .returned (.int .i64 (endE t i g : Int)) ∧ SlC w' p (endT t i g s) ∧ Beside (fun k => k = p) w w' := by
  have B1 : Below w.heap.size w (w.alloc (.cells #[.int .i64 i, .int .u32 (g : Int)] 34)) := (Below.refl _ _).alloc (Nat.le_refl _) _
  have H1 := H.on B1
  have h0 : (w.alloc (.cells #[.int .i64 i, .int .u32 (g : Int)] 34)).cell? ⟨w.heap.size, 0, none⟩ = some (.int .i64 i) := by simp [go_sem]
  have g0 : (w.alloc (.cells #[.int .i64 i, .int .u32 (g : Int)] 34)).cell? ⟨w.heap.size, 1, none⟩ = some (.int .u32 (g : Int)) := by simp [go_sem]
  have z0 : w.heap.size < (w.alloc (.cells #[.int .i64 i, .int .u32 (g : Int)] 34)).heap.size := by simp
  have cl := fun u h => live13_ p t i g u h
  have cn := fun u h => none13_ p t u h
  go_enter_defers Try.func27, Try.ntmps27
  go_wp2_with fail
  obtain ⟨w1, hw1⟩ : ∃ w1, w1 = w.alloc (.cells #[.int .i64 i, .int .u32 (g : Int)] 34) := ⟨_, rfl⟩
  rw [← hw1] at B1 H1 h0 g0 z0 ⊢
  clear hw1
  refine (cn _ H1).mono ?_; rintro e w2 ⟨rfl, rfl⟩
  go_wp2_with fail
  have cl1 := cl _ H1
  clear cl cn H
  by_cases hl : liveV t i g = true
  · obtain ⟨i0, i1, i2, i3⟩ := liveV_in hl
    have HV : Hid (endE t i g = 0 ∧ endT t i g s = slPut t i.toNat s ((g + 1) % 4294967296)) := by show _ ∧ _; unfold endE endT; rw [if_pos hl, if_pos hl]; exact ⟨rfl, rfl⟩
    rw [hl] at cl1
    obtain ⟨k, rfl⟩ := Int.eq_ofNat_of_zero_le i0
    have i4 : slG t k = g := i3
    clear i2 i3 hl
    have i2 : k < t.length := by omega
    have h256 := H1.ok.1
    have j1 : (k : Int) < 256 := by omega
    have j2 : k < 256 := by omega
    clear i1 h256
    refine cl1.mono ?_; rintro e w2 ⟨rfl, b2⟩
    have H2 := H1.on b2
    have B2 := B1.trans (b2.mono B1.size)
    have h2 := (b2.cell (p := ⟨w.heap.size, 0, none⟩) z0).trans h0
    clear b2 B1 H1 h0 g0 cl1 z0
    obtain ⟨x1, x2⟩ := H2.cs k i2
    obtain ⟨f1, f2⟩ := H2.fz k i2
    rw [i4] at x2
    have HS := (H2.setS k s i2 hs).on (Below.refl _ _).drew
    have y1 := (HS.cs k (by rw [slPut_len]; exact i2)).2
    rw [(slPut_at t k s (slG t k) i2).2, i4] at y1
    have y2 := (HS.fz k (by rw [slPut_len]; exact i2)).2
    have HG := Lib.hid (HS.setG k ((g + 1) % 4294967296) (by rw [slPut_len]; exact i2) (Nat.mod_lt _ (by omega)))
    rw [(slPut_at t k s (slG t k) i2).1, slPut_put] at HG
    have Y1 := Lib.hid y1
    have Y2 := Lib.hid y2
    have BB := Lib.hid B2
    clear H2 B2 hg HS i4 y1 y2
    go_upto_region 5 with fail
    go_region
    go_wp2
    refine leaves_cons (f := 28) (args := #[.pointer (some ⟨p, 1 + k * 2, none⟩)]) (by simp) (by simp [go_sem]) ?_
    refine (next13_ p (1 + k * 2) g .returning _ Y1.out Y2.out).mono ?_
    rintro e u' w'' ⟨rfl, rfl, rfl⟩
    refine ⟨_, results_tmp rfl _ _ _, ?_⟩
    rw [HV.out.1, HV.out.2]
    exact ⟨rfl, HG.out, (((Beside.of (S := fun k => k = p) BB.out).setCell (p := ⟨p, 1 + k * 2, none⟩) rfl _).drew).setCell (p := ⟨p, 1 + k * 2 + 1, none⟩) rfl _⟩
  · have hl' : liveV t i g = false := by simpa using hl
    have HV : Hid (endE t i g = 9 ∧ endT t i g s = t) := by show _ ∧ _; unfold endE endT; rw [if_neg hl, if_neg hl]; exact ⟨rfl, rfl⟩
    rw [hl'] at cl1
    clear hl hl'
    refine cl1.mono ?_; rintro e w2 ⟨rfl, b2⟩
    have H2 := H1.on b2
    have B2 := B1.trans (b2.mono B1.size)
    clear b2 B1 H1 h0 g0 cl1 z0
    go_wp2
    refine ⟨_, results_tmp rfl _ _ _, ?_⟩
    rw [HV.out.1, HV.out.2]
    exact ⟨rfl, H2, Beside.of B2⟩
set_option maxHeartbeats 2000000 in
set_option maxRecDepth 100000 in
theorem endN13_ (v : Value) (i : Int) (g s : Nat) (w : World) (H : NoC w v) :
    Calls Try.prog 27 #[v, .agg #[.int .i64 i, .int .u32 (g : Int)], .int .i64 (s : Int)] w fun e w' => e = .returned (.int .i64 1) ∧ Below w.heap.size w w' := by
  have B1 : Below w.heap.size w (w.alloc (.cells #[.int .i64 i, .int .u32 (g : Int)] 34)) := (Below.refl _ _).alloc (Nat.le_refl _) _
  have H1 := H.on B1
  have h0 : (w.alloc (.cells #[.int .i64 i, .int .u32 (g : Int)] 34)).cell? ⟨w.heap.size, 0, none⟩ = some (.int .i64 i) := by simp [go_sem]
  have g0 : (w.alloc (.cells #[.int .i64 i, .int .u32 (g : Int)] 34)).cell? ⟨w.heap.size, 1, none⟩ = some (.int .u32 (g : Int)) := by simp [go_sem]
  have z0 : w.heap.size < (w.alloc (.cells #[.int .i64 i, .int .u32 (g : Int)] 34)).heap.size := by simp
  have cn := fun u h => noneN13_ v u h
  go_enter_defers Try.func27, Try.ntmps27
  go_wp2_with fail
  obtain ⟨w1, hw1⟩ : ∃ w1, w1 = w.alloc (.cells #[.int .i64 i, .int .u32 (g : Int)] 34) := ⟨_, rfl⟩
  rw [← hw1] at B1 H1 h0 g0 z0 ⊢
  clear hw1
  refine (cn _ H1).mono ?_; rintro e w2 ⟨rfl, rfl⟩
  clear cn H
  go_wp2
  exact ⟨_, results_tmp rfl _ _ _, rfl, B1⟩
set_option maxHeartbeats 2000000 in
set_option maxRecDepth 100000 in
theorem give13_ (p : Nat) (t : Sl) (i : Int) (g : Nat) (w : World) (H : SlC w p t) (hg : g < 4294967296) :
    Calls Try.prog 12 #[.pointer (some ⟨p, 0, none⟩), .agg #[.int .i64 i, .int .u32 (g : Int)]] w fun e w' => e = .returned (.int .i64 (endE t i g : Int)) ∧ SlC w' p (endT t i g 0) ∧ Beside (fun k => k = p) w w' := by
  have B1 : Below w.heap.size w (w.alloc (.cells #[.int .i64 i, .int .u32 (g : Int)] 34)) := (Below.refl _ _).alloc (Nat.le_refl _) _
  have H1 := H.on B1
  have h0 : (w.alloc (.cells #[.int .i64 i, .int .u32 (g : Int)] 34)).cell? ⟨w.heap.size, 0, none⟩ = some (.int .i64 i) := by simp [go_sem]
  have g0 : (w.alloc (.cells #[.int .i64 i, .int .u32 (g : Int)] 34)).cell? ⟨w.heap.size, 1, none⟩ = some (.int .u32 (g : Int)) := by simp [go_sem]
  have z0 : w.heap.size < (w.alloc (.cells #[.int .i64 i, .int .u32 (g : Int)] 34)).heap.size := by simp
  have ce := fun u h => end13_ p t i g 0 u h hg (by omega)
  go_enter Try.func12, Try.ntmps12
  go_upto_region 1 with fail
  obtain ⟨w1, hw1⟩ : ∃ w1, w1 = w.alloc (.cells #[.int .i64 i, .int .u32 (g : Int)] 34) := ⟨_, rfl⟩
  rw [← hw1] at B1 H1 h0 g0 z0 ⊢
  clear hw1
  have ce1 := ce _ H1
  clear ce H H1
  go_wp2_with fail
  refine ce1.mono ?_; rintro e w2 ⟨rfl, X⟩
  obtain ⟨x1, x2⟩ := X
  go_wp2
  go_ret
  exact ⟨rfl, x1, (Beside.of B1).trans x2⟩
set_option maxHeartbeats 2000000 in
set_option maxRecDepth 100000 in
theorem giveN13_ (v : Value) (i : Int) (g : Nat) (w : World) (H : NoC w v) :
    Calls Try.prog 12 #[v, .agg #[.int .i64 i, .int .u32 (g : Int)]] w fun e w' => e = .returned (.int .i64 1) ∧ Below w.heap.size w w' := by
  have B1 : Below w.heap.size w (w.alloc (.cells #[.int .i64 i, .int .u32 (g : Int)] 34)) := (Below.refl _ _).alloc (Nat.le_refl _) _
  have H1 := H.on B1
  have h0 : (w.alloc (.cells #[.int .i64 i, .int .u32 (g : Int)] 34)).cell? ⟨w.heap.size, 0, none⟩ = some (.int .i64 i) := by simp [go_sem]
  have g0 : (w.alloc (.cells #[.int .i64 i, .int .u32 (g : Int)] 34)).cell? ⟨w.heap.size, 1, none⟩ = some (.int .u32 (g : Int)) := by simp [go_sem]
  have z0 : w.heap.size < (w.alloc (.cells #[.int .i64 i, .int .u32 (g : Int)] 34)).heap.size := by simp
  have ce := fun u h => endN13_ v i g 0 u h
  go_enter Try.func12, Try.ntmps12
  go_upto_region 1 with fail
  obtain ⟨w1, hw1⟩ : ∃ w1, w1 = w.alloc (.cells #[.int .i64 i, .int .u32 (g : Int)] 34) := ⟨_, rfl⟩
  rw [← hw1] at B1 H1 h0 g0 z0 ⊢
  clear hw1
  have ce1 := ce _ H1
  clear ce H H1
  go_wp2_with fail
  refine ce1.mono ?_; rintro e w2 ⟨rfl, X⟩
  go_wp2
  go_ret
  exact ⟨rfl, B1.trans (X.mono B1.size)⟩
set_option maxHeartbeats 2000000 in
set_option maxRecDepth 100000 in
theorem retire13_ (p : Nat) (t : Sl) (i : Int) (g : Nat) (w : World) (H : SlC w p t) (hg : g < 4294967296) :
    Calls Try.prog 14 #[.pointer (some ⟨p, 0, none⟩), .agg #[.int .i64 i, .int .u32 (g : Int)]] w fun e w' => e = .returned (.int .i64 (endE t i g : Int)) ∧ SlC w' p (endT t i g 2) ∧ Beside (fun k => k = p) w w' := by
  have B1 : Below w.heap.size w (w.alloc (.cells #[.int .i64 i, .int .u32 (g : Int)] 34)) := (Below.refl _ _).alloc (Nat.le_refl _) _
  have H1 := H.on B1
  have h0 : (w.alloc (.cells #[.int .i64 i, .int .u32 (g : Int)] 34)).cell? ⟨w.heap.size, 0, none⟩ = some (.int .i64 i) := by simp [go_sem]
  have g0 : (w.alloc (.cells #[.int .i64 i, .int .u32 (g : Int)] 34)).cell? ⟨w.heap.size, 1, none⟩ = some (.int .u32 (g : Int)) := by simp [go_sem]
  have z0 : w.heap.size < (w.alloc (.cells #[.int .i64 i, .int .u32 (g : Int)] 34)).heap.size := by simp
  have ce := fun u h => end13_ p t i g 2 u h hg (by omega)
  go_enter Try.func14, Try.ntmps14
  go_upto_region 1 with fail
  obtain ⟨w1, hw1⟩ : ∃ w1, w1 = w.alloc (.cells #[.int .i64 i, .int .u32 (g : Int)] 34) := ⟨_, rfl⟩
  rw [← hw1] at B1 H1 h0 g0 z0 ⊢
  clear hw1
  have ce1 := ce _ H1
  clear ce H H1
  go_wp2_with fail
  refine ce1.mono ?_; rintro e w2 ⟨rfl, X⟩
  obtain ⟨x1, x2⟩ := X
  go_wp2
  go_ret
  exact ⟨rfl, x1, (Beside.of B1).trans x2⟩
set_option maxHeartbeats 2000000 in
set_option maxRecDepth 100000 in
theorem retireN13_ (v : Value) (i : Int) (g : Nat) (w : World) (H : NoC w v) :
    Calls Try.prog 14 #[v, .agg #[.int .i64 i, .int .u32 (g : Int)]] w fun e w' => e = .returned (.int .i64 1) ∧ Below w.heap.size w w' := by
  have B1 : Below w.heap.size w (w.alloc (.cells #[.int .i64 i, .int .u32 (g : Int)] 34)) := (Below.refl _ _).alloc (Nat.le_refl _) _
  have H1 := H.on B1
  have h0 : (w.alloc (.cells #[.int .i64 i, .int .u32 (g : Int)] 34)).cell? ⟨w.heap.size, 0, none⟩ = some (.int .i64 i) := by simp [go_sem]
  have g0 : (w.alloc (.cells #[.int .i64 i, .int .u32 (g : Int)] 34)).cell? ⟨w.heap.size, 1, none⟩ = some (.int .u32 (g : Int)) := by simp [go_sem]
  have z0 : w.heap.size < (w.alloc (.cells #[.int .i64 i, .int .u32 (g : Int)] 34)).heap.size := by simp
  have ce := fun u h => endN13_ v i g 2 u h
  go_enter Try.func14, Try.ntmps14
  go_upto_region 1 with fail
  obtain ⟨w1, hw1⟩ : ∃ w1, w1 = w.alloc (.cells #[.int .i64 i, .int .u32 (g : Int)] 34) := ⟨_, rfl⟩
  rw [← hw1] at B1 H1 h0 g0 z0 ⊢
  clear hw1
  have ce1 := ce _ H1
  clear ce H H1
  go_wp2_with fail
  refine ce1.mono ?_; rintro e w2 ⟨rfl, X⟩
  go_wp2
  go_ret
  exact ⟨rfl, B1.trans (X.mono B1.size)⟩
end Go.Proofs.Ytlnbjpabcldmnaa
