/- The law's own functions of layer 12: with, mixed. Written by gen_haswith.py. -/
import Derived.Test.YtijippfcobgidaaHasF
namespace Go.Proofs.Ytijippfcobgidaa
set_option linter.unusedVariables false
set_option linter.unusedSimpArgs false
open Go.ChangeShapes Go.WideShapes Go.ChangeAt Go.RowKit Go.PlainAid
attribute [local go_sem ↓] Go.wp_at_zero Go.wp_at_succ
theorem mod13 {a k : Nat} (h : a % 13 = k) : ((a : Int).tmod 13 = (k : Int)) ∧ ((a : Int) % 13 = (k : Int)) := by
  constructor
  · rw [Int.tmod_eq_emod_of_nonneg (by omega)]; omega
  · omega
set_option maxHeartbeats 1000000 in
set_option maxRecDepth 100000 in
theorem with12_0 (pr sa sp da dp a b : Nat) (w : World) (h0 : pr < 256) (h1 : sa < 4294967296) (h2 : sp < 65536) (h3 : da < 4294967296) (h4 : dp < 65536) (ha : a < 256) (hb : b < 256) (hk : a % 13 = 0) :
    Calls Try.prog 10 #[.agg #[.int .u8 (pr : Int), .int .u32 (sa : Int), .int .u16 (sp : Int), .int .u32 (da : Int), .int .u16 (dp : Int)], .int .u8 (a : Int), .int .u8 (b : Int)] w fun e w' => e = .returned (.agg #[.int .u8 ((pr ^^^ b : Nat) : Int), .int .u32 (sa : Int), .int .u16 (sp : Int), .int .u32 (da : Int), .int .u16 (dp : Int)]) ∧ Below w.heap.size w w' := by
  obtain ⟨e1, e2⟩ := mod13 hk
  have x1 := bits_xor_u8_nat pr (b) h0 (by omega)
  obtain ⟨x, hx⟩ : ∃ x, x = pr ^^^ b := ⟨_, rfl⟩
  rw [← hx] at x1
  have HX := Lib.hid hx
  have y0 : IntKind.u32.wrap (b : Int) = (b : Int) := IntWalk.u32_in _ (by omega)
  have y4 : ((b : Int)) % 4294967296 = (b : Int) := by omega
  clear hx hk
  go_enter Try.func10, Try.ntmps10
  go_wp2
  refine bodyPost_ret (v := .agg #[.int .u8 (x : Int), .int .u32 (sa : Int), .int .u16 (sp : Int), .int .u32 (da : Int), .int .u16 (dp : Int)]) (by simp [results, Try.results10, go_sem]) rfl ?_
  rw [HX.out]
  exact ⟨rfl, ((Below.refl _ _).alloc (Nat.le_refl _) _).alloc (by simp) _⟩
set_option maxHeartbeats 1000000 in
set_option maxRecDepth 100000 in
theorem with12_1 (pr sa sp da dp a b : Nat) (w : World) (h0 : pr < 256) (h1 : sa < 4294967296) (h2 : sp < 65536) (h3 : da < 4294967296) (h4 : dp < 65536) (ha : a < 256) (hb : b < 256) (hk : a % 13 = 1) :
    Calls Try.prog 10 #[.agg #[.int .u8 (pr : Int), .int .u32 (sa : Int), .int .u16 (sp : Int), .int .u32 (da : Int), .int .u16 (dp : Int)], .int .u8 (a : Int), .int .u8 (b : Int)] w fun e w' => e = .returned (.agg #[.int .u8 (pr : Int), .int .u32 ((sa ^^^ b : Nat) : Int), .int .u16 (sp : Int), .int .u32 (da : Int), .int .u16 (dp : Int)]) ∧ Below w.heap.size w w' := by
  obtain ⟨e1, e2⟩ := mod13 hk
  have x1 := bits_xor_u32_nat sa (b) h1 (by omega)
  obtain ⟨x, hx⟩ : ∃ x, x = sa ^^^ b := ⟨_, rfl⟩
  rw [← hx] at x1
  have HX := Lib.hid hx
  have y0 : IntKind.u32.wrap (b : Int) = (b : Int) := IntWalk.u32_in _ (by omega)
  have y4 : ((b : Int)) % 4294967296 = (b : Int) := by omega
  clear hx hk
  go_enter Try.func10, Try.ntmps10
  go_wp2
  refine bodyPost_ret (v := .agg #[.int .u8 (pr : Int), .int .u32 (x : Int), .int .u16 (sp : Int), .int .u32 (da : Int), .int .u16 (dp : Int)]) (by simp [results, Try.results10, go_sem]) rfl ?_
  rw [HX.out]
  exact ⟨rfl, ((Below.refl _ _).alloc (Nat.le_refl _) _).alloc (by simp) _⟩
set_option maxHeartbeats 1000000 in
set_option maxRecDepth 100000 in
theorem with12_2 (pr sa sp da dp a b : Nat) (w : World) (h0 : pr < 256) (h1 : sa < 4294967296) (h2 : sp < 65536) (h3 : da < 4294967296) (h4 : dp < 65536) (ha : a < 256) (hb : b < 256) (hk : a % 13 = 2) :
    Calls Try.prog 10 #[.agg #[.int .u8 (pr : Int), .int .u32 (sa : Int), .int .u16 (sp : Int), .int .u32 (da : Int), .int .u16 (dp : Int)], .int .u8 (a : Int), .int .u8 (b : Int)] w fun e w' => e = .returned (.agg #[.int .u8 (pr : Int), .int .u32 ((sa ^^^ b * 256 : Nat) : Int), .int .u16 (sp : Int), .int .u32 (da : Int), .int .u16 (dp : Int)]) ∧ Below w.heap.size w w' := by
  obtain ⟨e1, e2⟩ := mod13 hk
  have x1 := bits_xor_u32_nat sa (b * 256) h1 (by omega)
  obtain ⟨x, hx⟩ : ∃ x, x = sa ^^^ b * 256 := ⟨_, rfl⟩
  rw [← hx] at x1
  have HX := Lib.hid hx
  have y0 : IntKind.u32.wrap (b : Int) = (b : Int) := IntWalk.u32_in _ (by omega)
  rw [show ((b * 256 : Nat) : Int) = (b : Int) * 256 by omega] at x1
  have y4 : ((b : Int) * 256) % 4294967296 = (b : Int) * 256 := by omega
  clear hx hk
  go_enter Try.func10, Try.ntmps10
  go_wp2
  refine bodyPost_ret (v := .agg #[.int .u8 (pr : Int), .int .u32 (x : Int), .int .u16 (sp : Int), .int .u32 (da : Int), .int .u16 (dp : Int)]) (by simp [results, Try.results10, go_sem]) rfl ?_
  rw [HX.out]
  exact ⟨rfl, ((Below.refl _ _).alloc (Nat.le_refl _) _).alloc (by simp) _⟩
set_option maxHeartbeats 1000000 in
set_option maxRecDepth 100000 in
theorem with12_3 (pr sa sp da dp a b : Nat) (w : World) (h0 : pr < 256) (h1 : sa < 4294967296) (h2 : sp < 65536) (h3 : da < 4294967296) (h4 : dp < 65536) (ha : a < 256) (hb : b < 256) (hk : a % 13 = 3) :
    Calls Try.prog 10 #[.agg #[.int .u8 (pr : Int), .int .u32 (sa : Int), .int .u16 (sp : Int), .int .u32 (da : Int), .int .u16 (dp : Int)], .int .u8 (a : Int), .int .u8 (b : Int)] w fun e w' => e = .returned (.agg #[.int .u8 (pr : Int), .int .u32 ((sa ^^^ b * 65536 : Nat) : Int), .int .u16 (sp : Int), .int .u32 (da : Int), .int .u16 (dp : Int)]) ∧ Below w.heap.size w w' := by
  obtain ⟨e1, e2⟩ := mod13 hk
  have x1 := bits_xor_u32_nat sa (b * 65536) h1 (by omega)
  obtain ⟨x, hx⟩ : ∃ x, x = sa ^^^ b * 65536 := ⟨_, rfl⟩
  rw [← hx] at x1
  have HX := Lib.hid hx
  have y0 : IntKind.u32.wrap (b : Int) = (b : Int) := IntWalk.u32_in _ (by omega)
  rw [show ((b * 65536 : Nat) : Int) = (b : Int) * 65536 by omega] at x1
  have y4 : ((b : Int) * 65536) % 4294967296 = (b : Int) * 65536 := by omega
  clear hx hk
  go_enter Try.func10, Try.ntmps10
  go_wp2
  refine bodyPost_ret (v := .agg #[.int .u8 (pr : Int), .int .u32 (x : Int), .int .u16 (sp : Int), .int .u32 (da : Int), .int .u16 (dp : Int)]) (by simp [results, Try.results10, go_sem]) rfl ?_
  rw [HX.out]
  exact ⟨rfl, ((Below.refl _ _).alloc (Nat.le_refl _) _).alloc (by simp) _⟩
set_option maxHeartbeats 1000000 in
set_option maxRecDepth 100000 in
theorem with12_4 (pr sa sp da dp a b : Nat) (w : World) (h0 : pr < 256) (h1 : sa < 4294967296) (h2 : sp < 65536) (h3 : da < 4294967296) (h4 : dp < 65536) (ha : a < 256) (hb : b < 256) (hk : a % 13 = 4) :
    Calls Try.prog 10 #[.agg #[.int .u8 (pr : Int), .int .u32 (sa : Int), .int .u16 (sp : Int), .int .u32 (da : Int), .int .u16 (dp : Int)], .int .u8 (a : Int), .int .u8 (b : Int)] w fun e w' => e = .returned (.agg #[.int .u8 (pr : Int), .int .u32 ((sa ^^^ b * 16777216 : Nat) : Int), .int .u16 (sp : Int), .int .u32 (da : Int), .int .u16 (dp : Int)]) ∧ Below w.heap.size w w' := by
  obtain ⟨e1, e2⟩ := mod13 hk
  have x1 := bits_xor_u32_nat sa (b * 16777216) h1 (by omega)
  obtain ⟨x, hx⟩ : ∃ x, x = sa ^^^ b * 16777216 := ⟨_, rfl⟩
  rw [← hx] at x1
  have HX := Lib.hid hx
  have y0 : IntKind.u32.wrap (b : Int) = (b : Int) := IntWalk.u32_in _ (by omega)
  rw [show ((b * 16777216 : Nat) : Int) = (b : Int) * 16777216 by omega] at x1
  have y4 : ((b : Int) * 16777216) % 4294967296 = (b : Int) * 16777216 := by omega
  clear hx hk
  go_enter Try.func10, Try.ntmps10
  go_wp2
  refine bodyPost_ret (v := .agg #[.int .u8 (pr : Int), .int .u32 (x : Int), .int .u16 (sp : Int), .int .u32 (da : Int), .int .u16 (dp : Int)]) (by simp [results, Try.results10, go_sem]) rfl ?_
  rw [HX.out]
  exact ⟨rfl, ((Below.refl _ _).alloc (Nat.le_refl _) _).alloc (by simp) _⟩
set_option maxHeartbeats 1000000 in
set_option maxRecDepth 100000 in
theorem with12_5 (pr sa sp da dp a b : Nat) (w : World) (h0 : pr < 256) (h1 : sa < 4294967296) (h2 : sp < 65536) (h3 : da < 4294967296) (h4 : dp < 65536) (ha : a < 256) (hb : b < 256) (hk : a % 13 = 5) :
    Calls Try.prog 10 #[.agg #[.int .u8 (pr : Int), .int .u32 (sa : Int), .int .u16 (sp : Int), .int .u32 (da : Int), .int .u16 (dp : Int)], .int .u8 (a : Int), .int .u8 (b : Int)] w fun e w' => e = .returned (.agg #[.int .u8 (pr : Int), .int .u32 (sa : Int), .int .u16 ((sp ^^^ b : Nat) : Int), .int .u32 (da : Int), .int .u16 (dp : Int)]) ∧ Below w.heap.size w w' := by
  obtain ⟨e1, e2⟩ := mod13 hk
  have x1 := bits_xor_u16_nat sp (b) h2 (by omega)
  obtain ⟨x, hx⟩ : ∃ x, x = sp ^^^ b := ⟨_, rfl⟩
  rw [← hx] at x1
  have HX := Lib.hid hx
  have y0 : IntKind.u32.wrap (b : Int) = (b : Int) := IntWalk.u32_in _ (by omega)
  have y2 : IntKind.u16.wrap ((b : Int)) = (b : Int) := IntWalk.u16_in _ (by omega)
  have y3 : ((b : Int)) % 65536 = (b : Int) := by omega
  have y4 : ((b : Int)) % 4294967296 = (b : Int) := by omega
  clear hx hk
  go_enter Try.func10, Try.ntmps10
  go_wp2
  refine bodyPost_ret (v := .agg #[.int .u8 (pr : Int), .int .u32 (sa : Int), .int .u16 (x : Int), .int .u32 (da : Int), .int .u16 (dp : Int)]) (by simp [results, Try.results10, go_sem]) rfl ?_
  rw [HX.out]
  exact ⟨rfl, ((Below.refl _ _).alloc (Nat.le_refl _) _).alloc (by simp) _⟩
set_option maxHeartbeats 1000000 in
set_option maxRecDepth 100000 in
theorem with12_6 (pr sa sp da dp a b : Nat) (w : World) (h0 : pr < 256) (h1 : sa < 4294967296) (h2 : sp < 65536) (h3 : da < 4294967296) (h4 : dp < 65536) (ha : a < 256) (hb : b < 256) (hk : a % 13 = 6) :
    Calls Try.prog 10 #[.agg #[.int .u8 (pr : Int), .int .u32 (sa : Int), .int .u16 (sp : Int), .int .u32 (da : Int), .int .u16 (dp : Int)], .int .u8 (a : Int), .int .u8 (b : Int)] w fun e w' => e = .returned (.agg #[.int .u8 (pr : Int), .int .u32 (sa : Int), .int .u16 ((sp ^^^ b * 256 : Nat) : Int), .int .u32 (da : Int), .int .u16 (dp : Int)]) ∧ Below w.heap.size w w' := by
  obtain ⟨e1, e2⟩ := mod13 hk
  have x1 := bits_xor_u16_nat sp (b * 256) h2 (by omega)
  obtain ⟨x, hx⟩ : ∃ x, x = sp ^^^ b * 256 := ⟨_, rfl⟩
  rw [← hx] at x1
  have HX := Lib.hid hx
  have y0 : IntKind.u32.wrap (b : Int) = (b : Int) := IntWalk.u32_in _ (by omega)
  rw [show ((b * 256 : Nat) : Int) = (b : Int) * 256 by omega] at x1
  have y2 : IntKind.u16.wrap ((b : Int) * 256) = (b : Int) * 256 := IntWalk.u16_in _ (by omega)
  have y3 : ((b : Int) * 256) % 65536 = (b : Int) * 256 := by omega
  have y4 : ((b : Int) * 256) % 4294967296 = (b : Int) * 256 := by omega
  clear hx hk
  go_enter Try.func10, Try.ntmps10
  go_wp2
  refine bodyPost_ret (v := .agg #[.int .u8 (pr : Int), .int .u32 (sa : Int), .int .u16 (x : Int), .int .u32 (da : Int), .int .u16 (dp : Int)]) (by simp [results, Try.results10, go_sem]) rfl ?_
  rw [HX.out]
  exact ⟨rfl, ((Below.refl _ _).alloc (Nat.le_refl _) _).alloc (by simp) _⟩
set_option maxHeartbeats 1000000 in
set_option maxRecDepth 100000 in
theorem with12_7 (pr sa sp da dp a b : Nat) (w : World) (h0 : pr < 256) (h1 : sa < 4294967296) (h2 : sp < 65536) (h3 : da < 4294967296) (h4 : dp < 65536) (ha : a < 256) (hb : b < 256) (hk : a % 13 = 7) :
    Calls Try.prog 10 #[.agg #[.int .u8 (pr : Int), .int .u32 (sa : Int), .int .u16 (sp : Int), .int .u32 (da : Int), .int .u16 (dp : Int)], .int .u8 (a : Int), .int .u8 (b : Int)] w fun e w' => e = .returned (.agg #[.int .u8 (pr : Int), .int .u32 (sa : Int), .int .u16 (sp : Int), .int .u32 ((da ^^^ b : Nat) : Int), .int .u16 (dp : Int)]) ∧ Below w.heap.size w w' := by
  obtain ⟨e1, e2⟩ := mod13 hk
  have x1 := bits_xor_u32_nat da (b) h3 (by omega)
  obtain ⟨x, hx⟩ : ∃ x, x = da ^^^ b := ⟨_, rfl⟩
  rw [← hx] at x1
  have HX := Lib.hid hx
  have y0 : IntKind.u32.wrap (b : Int) = (b : Int) := IntWalk.u32_in _ (by omega)
  have y4 : ((b : Int)) % 4294967296 = (b : Int) := by omega
  clear hx hk
  go_enter Try.func10, Try.ntmps10
  go_wp2
  refine bodyPost_ret (v := .agg #[.int .u8 (pr : Int), .int .u32 (sa : Int), .int .u16 (sp : Int), .int .u32 (x : Int), .int .u16 (dp : Int)]) (by simp [results, Try.results10, go_sem]) rfl ?_
  rw [HX.out]
  exact ⟨rfl, ((Below.refl _ _).alloc (Nat.le_refl _) _).alloc (by simp) _⟩
set_option maxHeartbeats 1000000 in
set_option maxRecDepth 100000 in
theorem with12_8 (pr sa sp da dp a b : Nat) (w : World) (h0 : pr < 256) (h1 : sa < 4294967296) (h2 : sp < 65536) (h3 : da < 4294967296) (h4 : dp < 65536) (ha : a < 256) (hb : b < 256) (hk : a % 13 = 8) :
    Calls Try.prog 10 #[.agg #[.int .u8 (pr : Int), .int .u32 (sa : Int), .int .u16 (sp : Int), .int .u32 (da : Int), .int .u16 (dp : Int)], .int .u8 (a : Int), .int .u8 (b : Int)] w fun e w' => e = .returned (.agg #[.int .u8 (pr : Int), .int .u32 (sa : Int), .int .u16 (sp : Int), .int .u32 ((da ^^^ b * 256 : Nat) : Int), .int .u16 (dp : Int)]) ∧ Below w.heap.size w w' := by
  obtain ⟨e1, e2⟩ := mod13 hk
  have x1 := bits_xor_u32_nat da (b * 256) h3 (by omega)
  obtain ⟨x, hx⟩ : ∃ x, x = da ^^^ b * 256 := ⟨_, rfl⟩
  rw [← hx] at x1
  have HX := Lib.hid hx
  have y0 : IntKind.u32.wrap (b : Int) = (b : Int) := IntWalk.u32_in _ (by omega)
  rw [show ((b * 256 : Nat) : Int) = (b : Int) * 256 by omega] at x1
  have y4 : ((b : Int) * 256) % 4294967296 = (b : Int) * 256 := by omega
  clear hx hk
  go_enter Try.func10, Try.ntmps10
  go_wp2
  refine bodyPost_ret (v := .agg #[.int .u8 (pr : Int), .int .u32 (sa : Int), .int .u16 (sp : Int), .int .u32 (x : Int), .int .u16 (dp : Int)]) (by simp [results, Try.results10, go_sem]) rfl ?_
  rw [HX.out]
  exact ⟨rfl, ((Below.refl _ _).alloc (Nat.le_refl _) _).alloc (by simp) _⟩
set_option maxHeartbeats 1000000 in
set_option maxRecDepth 100000 in
theorem with12_9 (pr sa sp da dp a b : Nat) (w : World) (h0 : pr < 256) (h1 : sa < 4294967296) (h2 : sp < 65536) (h3 : da < 4294967296) (h4 : dp < 65536) (ha : a < 256) (hb : b < 256) (hk : a % 13 = 9) :
    Calls Try.prog 10 #[.agg #[.int .u8 (pr : Int), .int .u32 (sa : Int), .int .u16 (sp : Int), .int .u32 (da : Int), .int .u16 (dp : Int)], .int .u8 (a : Int), .int .u8 (b : Int)] w fun e w' => e = .returned (.agg #[.int .u8 (pr : Int), .int .u32 (sa : Int), .int .u16 (sp : Int), .int .u32 ((da ^^^ b * 65536 : Nat) : Int), .int .u16 (dp : Int)]) ∧ Below w.heap.size w w' := by
  obtain ⟨e1, e2⟩ := mod13 hk
  have x1 := bits_xor_u32_nat da (b * 65536) h3 (by omega)
  obtain ⟨x, hx⟩ : ∃ x, x = da ^^^ b * 65536 := ⟨_, rfl⟩
  rw [← hx] at x1
  have HX := Lib.hid hx
  have y0 : IntKind.u32.wrap (b : Int) = (b : Int) := IntWalk.u32_in _ (by omega)
  rw [show ((b * 65536 : Nat) : Int) = (b : Int) * 65536 by omega] at x1
  have y4 : ((b : Int) * 65536) % 4294967296 = (b : Int) * 65536 := by omega
  clear hx hk
  go_enter Try.func10, Try.ntmps10
  go_wp2
  refine bodyPost_ret (v := .agg #[.int .u8 (pr : Int), .int .u32 (sa : Int), .int .u16 (sp : Int), .int .u32 (x : Int), .int .u16 (dp : Int)]) (by simp [results, Try.results10, go_sem]) rfl ?_
  rw [HX.out]
  exact ⟨rfl, ((Below.refl _ _).alloc (Nat.le_refl _) _).alloc (by simp) _⟩
set_option maxHeartbeats 1000000 in
set_option maxRecDepth 100000 in
theorem with12_10 (pr sa sp da dp a b : Nat) (w : World) (h0 : pr < 256) (h1 : sa < 4294967296) (h2 : sp < 65536) (h3 : da < 4294967296) (h4 : dp < 65536) (ha : a < 256) (hb : b < 256) (hk : a % 13 = 10) :
    Calls Try.prog 10 #[.agg #[.int .u8 (pr : Int), .int .u32 (sa : Int), .int .u16 (sp : Int), .int .u32 (da : Int), .int .u16 (dp : Int)], .int .u8 (a : Int), .int .u8 (b : Int)] w fun e w' => e = .returned (.agg #[.int .u8 (pr : Int), .int .u32 (sa : Int), .int .u16 (sp : Int), .int .u32 ((da ^^^ b * 16777216 : Nat) : Int), .int .u16 (dp : Int)]) ∧ Below w.heap.size w w' := by
  obtain ⟨e1, e2⟩ := mod13 hk
  have x1 := bits_xor_u32_nat da (b * 16777216) h3 (by omega)
  obtain ⟨x, hx⟩ : ∃ x, x = da ^^^ b * 16777216 := ⟨_, rfl⟩
  rw [← hx] at x1
  have HX := Lib.hid hx
  have y0 : IntKind.u32.wrap (b : Int) = (b : Int) := IntWalk.u32_in _ (by omega)
  rw [show ((b * 16777216 : Nat) : Int) = (b : Int) * 16777216 by omega] at x1
  have y4 : ((b : Int) * 16777216) % 4294967296 = (b : Int) * 16777216 := by omega
  clear hx hk
  go_enter Try.func10, Try.ntmps10
  go_wp2
  refine bodyPost_ret (v := .agg #[.int .u8 (pr : Int), .int .u32 (sa : Int), .int .u16 (sp : Int), .int .u32 (x : Int), .int .u16 (dp : Int)]) (by simp [results, Try.results10, go_sem]) rfl ?_
  rw [HX.out]
  exact ⟨rfl, ((Below.refl _ _).alloc (Nat.le_refl _) _).alloc (by simp) _⟩
set_option maxHeartbeats 1000000 in
set_option maxRecDepth 100000 in
theorem with12_11 (pr sa sp da dp a b : Nat) (w : World) (h0 : pr < 256) (h1 : sa < 4294967296) (h2 : sp < 65536) (h3 : da < 4294967296) (h4 : dp < 65536) (ha : a < 256) (hb : b < 256) (hk : a % 13 = 11) :
    Calls Try.prog 10 #[.agg #[.int .u8 (pr : Int), .int .u32 (sa : Int), .int .u16 (sp : Int), .int .u32 (da : Int), .int .u16 (dp : Int)], .int .u8 (a : Int), .int .u8 (b : Int)] w fun e w' => e = .returned (.agg #[.int .u8 (pr : Int), .int .u32 (sa : Int), .int .u16 (sp : Int), .int .u32 (da : Int), .int .u16 ((dp ^^^ b : Nat) : Int)]) ∧ Below w.heap.size w w' := by
  obtain ⟨e1, e2⟩ := mod13 hk
  have x1 := bits_xor_u16_nat dp (b) h4 (by omega)
  obtain ⟨x, hx⟩ : ∃ x, x = dp ^^^ b := ⟨_, rfl⟩
  rw [← hx] at x1
  have HX := Lib.hid hx
  have y0 : IntKind.u32.wrap (b : Int) = (b : Int) := IntWalk.u32_in _ (by omega)
  have y2 : IntKind.u16.wrap ((b : Int)) = (b : Int) := IntWalk.u16_in _ (by omega)
  have y3 : ((b : Int)) % 65536 = (b : Int) := by omega
  have y4 : ((b : Int)) % 4294967296 = (b : Int) := by omega
  clear hx hk
  go_enter Try.func10, Try.ntmps10
  go_wp2
  refine bodyPost_ret (v := .agg #[.int .u8 (pr : Int), .int .u32 (sa : Int), .int .u16 (sp : Int), .int .u32 (da : Int), .int .u16 (x : Int)]) (by simp [results, Try.results10, go_sem]) rfl ?_
  rw [HX.out]
  exact ⟨rfl, ((Below.refl _ _).alloc (Nat.le_refl _) _).alloc (by simp) _⟩
set_option maxHeartbeats 1000000 in
set_option maxRecDepth 100000 in
theorem with12_12 (pr sa sp da dp a b : Nat) (w : World) (h0 : pr < 256) (h1 : sa < 4294967296) (h2 : sp < 65536) (h3 : da < 4294967296) (h4 : dp < 65536) (ha : a < 256) (hb : b < 256) (hk : a % 13 = 12) :
    Calls Try.prog 10 #[.agg #[.int .u8 (pr : Int), .int .u32 (sa : Int), .int .u16 (sp : Int), .int .u32 (da : Int), .int .u16 (dp : Int)], .int .u8 (a : Int), .int .u8 (b : Int)] w fun e w' => e = .returned (.agg #[.int .u8 (pr : Int), .int .u32 (sa : Int), .int .u16 (sp : Int), .int .u32 (da : Int), .int .u16 ((dp ^^^ b * 256 : Nat) : Int)]) ∧ Below w.heap.size w w' := by
  obtain ⟨e1, e2⟩ := mod13 hk
  have x1 := bits_xor_u16_nat dp (b * 256) h4 (by omega)
  obtain ⟨x, hx⟩ : ∃ x, x = dp ^^^ b * 256 := ⟨_, rfl⟩
  rw [← hx] at x1
  have HX := Lib.hid hx
  have y0 : IntKind.u32.wrap (b : Int) = (b : Int) := IntWalk.u32_in _ (by omega)
  rw [show ((b * 256 : Nat) : Int) = (b : Int) * 256 by omega] at x1
  have y2 : IntKind.u16.wrap ((b : Int) * 256) = (b : Int) * 256 := IntWalk.u16_in _ (by omega)
  have y3 : ((b : Int) * 256) % 65536 = (b : Int) * 256 := by omega
  have y4 : ((b : Int) * 256) % 4294967296 = (b : Int) * 256 := by omega
  clear hx hk
  go_enter Try.func10, Try.ntmps10
  go_wp2
  refine bodyPost_ret (v := .agg #[.int .u8 (pr : Int), .int .u32 (sa : Int), .int .u16 (sp : Int), .int .u32 (da : Int), .int .u16 (x : Int)]) (by simp [results, Try.results10, go_sem]) rfl ?_
  rw [HX.out]
  exact ⟨rfl, ((Below.refl _ _).alloc (Nat.le_refl _) _).alloc (by simp) _⟩
/-- The tuple of which a byte is turned: another number, unless the byte is turned by 0. -/
theorem with12_ (pr sa sp da dp a b : Nat) (h0 : pr < 256) (h1 : sa < 4294967296) (h2 : sp < 65536) (h3 : da < 4294967296) (h4 : dp < 65536) (ha : a < 256) (hb : b < 256) :
    ∃ p q r s t : Nat, p < 256 ∧ q < 4294967296 ∧ r < 65536 ∧ s < 4294967296 ∧ t < 65536 ∧ ((haT pr sa sp da dp = haT p q r s t) ↔ b = 0) ∧
      ∀ w : World, Calls Try.prog 10 #[.agg #[.int .u8 (pr : Int), .int .u32 (sa : Int), .int .u16 (sp : Int), .int .u32 (da : Int), .int .u16 (dp : Int)], .int .u8 (a : Int), .int .u8 (b : Int)] w fun e w' => e = .returned (.agg #[.int .u8 (p : Int), .int .u32 (q : Int), .int .u16 (r : Int), .int .u32 (s : Int), .int .u16 (t : Int)]) ∧ Below w.heap.size w w' := by
  have hk : a % 13 = 0 ∨ a % 13 = 1 ∨ a % 13 = 2 ∨ a % 13 = 3 ∨ a % 13 = 4 ∨ a % 13 = 5 ∨ a % 13 = 6 ∨ a % 13 = 7 ∨ a % 13 = 8 ∨ a % 13 = 9 ∨ a % 13 = 10 ∨ a % 13 = 11 ∨ a % 13 = 12 := by omega
  rcases hk with hk | hk | hk | hk | hk | hk | hk | hk | hk | hk | hk | hk | hk
  · have e := haWith_num 0 b pr sa sp da dp (by omega) hb h0
    rw [show haWith 0 b pr sa sp da dp = (pr ^^^ b, sa, sp, da, dp) by simp [haWith]] at e
    dsimp only at e
    exact ⟨pr ^^^ b, sa, sp, da, dp, Nat.xor_lt_two_pow (n := 8) h0 (by omega), h1, h2, h3, h4, e, fun w => with12_0 pr sa sp da dp a b w h0 h1 h2 h3 h4 ha hb hk⟩
  · have e := haWith_num 1 b pr sa sp da dp (by omega) hb h0
    rw [show haWith 1 b pr sa sp da dp = (pr, sa ^^^ b, sp, da, dp) by simp [haWith]] at e
    dsimp only at e
    exact ⟨pr, sa ^^^ b, sp, da, dp, h0, Nat.xor_lt_two_pow (n := 32) h1 (by omega), h2, h3, h4, e, fun w => with12_1 pr sa sp da dp a b w h0 h1 h2 h3 h4 ha hb hk⟩
  · have e := haWith_num 2 b pr sa sp da dp (by omega) hb h0
    rw [show haWith 2 b pr sa sp da dp = (pr, sa ^^^ b * 256, sp, da, dp) by simp [haWith]] at e
    dsimp only at e
    exact ⟨pr, sa ^^^ b * 256, sp, da, dp, h0, Nat.xor_lt_two_pow (n := 32) h1 (by omega), h2, h3, h4, e, fun w => with12_2 pr sa sp da dp a b w h0 h1 h2 h3 h4 ha hb hk⟩
  · have e := haWith_num 3 b pr sa sp da dp (by omega) hb h0
    rw [show haWith 3 b pr sa sp da dp = (pr, sa ^^^ b * 65536, sp, da, dp) by simp [haWith]] at e
    dsimp only at e
    exact ⟨pr, sa ^^^ b * 65536, sp, da, dp, h0, Nat.xor_lt_two_pow (n := 32) h1 (by omega), h2, h3, h4, e, fun w => with12_3 pr sa sp da dp a b w h0 h1 h2 h3 h4 ha hb hk⟩
  · have e := haWith_num 4 b pr sa sp da dp (by omega) hb h0
    rw [show haWith 4 b pr sa sp da dp = (pr, sa ^^^ b * 16777216, sp, da, dp) by simp [haWith]] at e
    dsimp only at e
    exact ⟨pr, sa ^^^ b * 16777216, sp, da, dp, h0, Nat.xor_lt_two_pow (n := 32) h1 (by omega), h2, h3, h4, e, fun w => with12_4 pr sa sp da dp a b w h0 h1 h2 h3 h4 ha hb hk⟩
  · have e := haWith_num 5 b pr sa sp da dp (by omega) hb h0
    rw [show haWith 5 b pr sa sp da dp = (pr, sa, sp ^^^ b, da, dp) by simp [haWith]] at e
    dsimp only at e
    exact ⟨pr, sa, sp ^^^ b, da, dp, h0, h1, Nat.xor_lt_two_pow (n := 16) h2 (by omega), h3, h4, e, fun w => with12_5 pr sa sp da dp a b w h0 h1 h2 h3 h4 ha hb hk⟩
  · have e := haWith_num 6 b pr sa sp da dp (by omega) hb h0
    rw [show haWith 6 b pr sa sp da dp = (pr, sa, sp ^^^ b * 256, da, dp) by simp [haWith]] at e
    dsimp only at e
    exact ⟨pr, sa, sp ^^^ b * 256, da, dp, h0, h1, Nat.xor_lt_two_pow (n := 16) h2 (by omega), h3, h4, e, fun w => with12_6 pr sa sp da dp a b w h0 h1 h2 h3 h4 ha hb hk⟩
  · have e := haWith_num 7 b pr sa sp da dp (by omega) hb h0
    rw [show haWith 7 b pr sa sp da dp = (pr, sa, sp, da ^^^ b, dp) by simp [haWith]] at e
    dsimp only at e
    exact ⟨pr, sa, sp, da ^^^ b, dp, h0, h1, h2, Nat.xor_lt_two_pow (n := 32) h3 (by omega), h4, e, fun w => with12_7 pr sa sp da dp a b w h0 h1 h2 h3 h4 ha hb hk⟩
  · have e := haWith_num 8 b pr sa sp da dp (by omega) hb h0
    rw [show haWith 8 b pr sa sp da dp = (pr, sa, sp, da ^^^ b * 256, dp) by simp [haWith]] at e
    dsimp only at e
    exact ⟨pr, sa, sp, da ^^^ b * 256, dp, h0, h1, h2, Nat.xor_lt_two_pow (n := 32) h3 (by omega), h4, e, fun w => with12_8 pr sa sp da dp a b w h0 h1 h2 h3 h4 ha hb hk⟩
  · have e := haWith_num 9 b pr sa sp da dp (by omega) hb h0
    rw [show haWith 9 b pr sa sp da dp = (pr, sa, sp, da ^^^ b * 65536, dp) by simp [haWith]] at e
    dsimp only at e
    exact ⟨pr, sa, sp, da ^^^ b * 65536, dp, h0, h1, h2, Nat.xor_lt_two_pow (n := 32) h3 (by omega), h4, e, fun w => with12_9 pr sa sp da dp a b w h0 h1 h2 h3 h4 ha hb hk⟩
  · have e := haWith_num 10 b pr sa sp da dp (by omega) hb h0
    rw [show haWith 10 b pr sa sp da dp = (pr, sa, sp, da ^^^ b * 16777216, dp) by simp [haWith]] at e
    dsimp only at e
    exact ⟨pr, sa, sp, da ^^^ b * 16777216, dp, h0, h1, h2, Nat.xor_lt_two_pow (n := 32) h3 (by omega), h4, e, fun w => with12_10 pr sa sp da dp a b w h0 h1 h2 h3 h4 ha hb hk⟩
  · have e := haWith_num 11 b pr sa sp da dp (by omega) hb h0
    rw [show haWith 11 b pr sa sp da dp = (pr, sa, sp, da, dp ^^^ b) by simp [haWith]] at e
    dsimp only at e
    exact ⟨pr, sa, sp, da, dp ^^^ b, h0, h1, h2, h3, Nat.xor_lt_two_pow (n := 16) h4 (by omega), e, fun w => with12_11 pr sa sp da dp a b w h0 h1 h2 h3 h4 ha hb hk⟩
  · have e := haWith_num 12 b pr sa sp da dp (by omega) hb h0
    rw [show haWith 12 b pr sa sp da dp = (pr, sa, sp, da, dp ^^^ b * 256) by simp [haWith]] at e
    dsimp only at e
    exact ⟨pr, sa, sp, da, dp ^^^ b * 256, h0, h1, h2, h3, Nat.xor_lt_two_pow (n := 16) h4 (by omega), e, fun w => with12_12 pr sa sp da dp a b w h0 h1 h2 h3 h4 ha hb hk⟩
theorem zero12 (k : Int) (h : k ≤ 9223372036854775807) (u : World) : Calls Try.prog 8 #[.agg #[.int .u8 0, .int .u32 0, .int .u16 0, .int .u32 0, .int .u16 0], .int .i64 k] u fun e w' => e = .returned (.int .i64 (ofV k (haT 0 0 0 0 0))) ∧ Below u.heap.size u w' := of12_ 0 0 0 0 0 k u (by omega) (by omega) (by omega) (by omega) (by omega) h
theorem one12 (k : Int) (h : k ≤ 9223372036854775807) (u : World) : Calls Try.prog 8 #[.agg #[.int .u8 1, .int .u32 0, .int .u16 0, .int .u32 0, .int .u16 0], .int .i64 k] u fun e w' => e = .returned (.int .i64 (ofV k (haT 1 0 0 0 0))) ∧ Below u.heap.size u w' := of12_ 1 0 0 0 0 k u (by omega) (by omega) (by omega) (by omega) (by omega) h
set_option maxHeartbeats 1000000 in
set_option maxRecDepth 100000 in
theorem mixed12_ (w : World) : Calls Try.prog 9 #[] w fun e w' => e = .returned (.bool true) ∧ Below w.heap.size w w' := by
  have c0 := zero12 4294967296 (by omega)
  have v0 : ofV 4294967296 (haT 0 0 0 0 0) = 0 := by decide
  have c1 := one12 4294967296 (by omega)
  have v1 : 0 < ofV 4294967296 (haT 1 0 0 0 0) := by decide
  have c2 := one12 1 (by omega)
  have v2 : ofV 1 (haT 1 0 0 0 0) = 0 := by decide
  have c3 := one12 0 (by omega)
  have v3 : ofV 0 (haT 1 0 0 0 0) = 0 := by decide
  have c4 := one12 (-1) (by omega)
  have v4 : ofV (-1) (haT 1 0 0 0 0) = 0 := by decide
  rw [v0] at c0
  rw [v2] at c2
  rw [v3] at c3
  rw [v4] at c4
  generalize ofV 4294967296 (haT 1 0 0 0 0) = V at *
  have t1 : decide (0 < V) = true := by simpa using v1
  clear v0 v1 v2 v3 v4
  go_enter Try.func9, Try.ntmps9
  have B1 := Below.refl w.heap.size w
  go_wp2_with fail
  have Z_2 := Box5.make w (.int .u8 0) (.int .u32 0) (.int .u16 0) (.int .u32 0) (.int .u16 0) 28
  have B3 := B1.alloc B1.size (.cells #[.int .u8 0, .int .u32 0, .int .u16 0, .int .u32 0, .int .u16 0] 28)
  clear B1
  have Z_4 := Z_2.past (o := (.cells #[.int .u8 1, .int .u32 0, .int .u16 0, .int .u32 0, .int .u16 0] 28))
  have hs_ : (w.alloc (.cells #[.int .u8 0, .int .u32 0, .int .u16 0, .int .u32 0, .int .u16 0] 28)).heap.size = w.heap.size + 1 := by simp
  have O_5 := Box5.make (w.alloc (.cells #[.int .u8 0, .int .u32 0, .int .u16 0, .int .u32 0, .int .u16 0] 28)) (.int .u8 1) (.int .u32 0) (.int .u16 0) (.int .u32 0) (.int .u16 0) 28
  rw [hs_] at O_5
  clear hs_
  have B6 := B3.alloc B3.size (.cells #[.int .u8 1, .int .u32 0, .int .u16 0, .int .u32 0, .int .u16 0] 28)
  clear Z_2 B3
  obtain ⟨u1, hu1⟩ : ∃ x_ : World, x_ = (w.alloc (.cells #[.int .u8 0, .int .u32 0, .int .u16 0, .int .u32 0, .int .u16 0] 28)).alloc (.cells #[.int .u8 1, .int .u32 0, .int .u16 0, .int .u32 0, .int .u16 0] 28) := ⟨_, rfl⟩
  rw [← hu1] at Z_4 O_5 B6 ⊢
  clear hu1
  refine (c0 _).mono ?_; rintro e w2 ⟨rfl, x2⟩
  have Z_7 := Z_4.on x2
  have O_8 := O_5.on x2
  have B9 := B6.trans (x2.mono B6.size)
  clear Z_4 O_5 B6 x2
  obtain ⟨_, z1_0, z1_1, z1_2, z1_3, z1_4⟩ := id Z_7
  obtain ⟨_, o2_0, o2_1, o2_2, o2_3, o2_4⟩ := id O_8
  go_wp2_with fail
  refine (c1 _).mono ?_; rintro e w3 ⟨rfl, x3⟩
  have Z_10 := Z_7.on x3
  have O_11 := O_8.on x3
  have B12 := B9.trans (x3.mono B9.size)
  clear z1_0 z1_1 z1_2 z1_3 z1_4 o2_0 o2_1 o2_2 o2_3 o2_4 Z_7 O_8 B9 x3
  obtain ⟨_, z3_0, z3_1, z3_2, z3_3, z3_4⟩ := id Z_10
  obtain ⟨_, o4_0, o4_1, o4_2, o4_3, o4_4⟩ := id O_11
  go_wp2_with fail
  refine (c2 _).mono ?_; rintro e w4 ⟨rfl, x4⟩
  have Z_13 := Z_10.on x4
  have O_14 := O_11.on x4
  have B15 := B12.trans (x4.mono B12.size)
  clear z3_0 z3_1 z3_2 z3_3 z3_4 o4_0 o4_1 o4_2 o4_3 o4_4 Z_10 O_11 B12 x4
  obtain ⟨_, z5_0, z5_1, z5_2, z5_3, z5_4⟩ := id Z_13
  obtain ⟨_, o6_0, o6_1, o6_2, o6_3, o6_4⟩ := id O_14
  go_wp2_with fail
  refine (c3 _).mono ?_; rintro e w5 ⟨rfl, x5⟩
  have Z_16 := Z_13.on x5
  have O_17 := O_14.on x5
  have B18 := B15.trans (x5.mono B15.size)
  clear z5_0 z5_1 z5_2 z5_3 z5_4 o6_0 o6_1 o6_2 o6_3 o6_4 Z_13 O_14 B15 x5
  obtain ⟨_, z7_0, z7_1, z7_2, z7_3, z7_4⟩ := id Z_16
  obtain ⟨_, o8_0, o8_1, o8_2, o8_3, o8_4⟩ := id O_17
  go_wp2_with fail
  refine (c4 _).mono ?_; rintro e w6 ⟨rfl, x6⟩
  have Z_19 := Z_16.on x6
  have O_20 := O_17.on x6
  have B21 := B18.trans (x6.mono B18.size)
  clear z7_0 z7_1 z7_2 z7_3 z7_4 o8_0 o8_1 o8_2 o8_3 o8_4 Z_16 O_17 B18 x6
  go_wp2
  go_ret
  exact ⟨rfl, B21⟩
end Go.Proofs.Ytijippfcobgidaa
