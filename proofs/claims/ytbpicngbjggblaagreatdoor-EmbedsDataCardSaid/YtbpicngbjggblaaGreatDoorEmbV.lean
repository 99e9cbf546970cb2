/- The walk of EmbedsData, the chapter's examples (J) being a premise. -/
import Derived.Test.YtbpicngbjggblaaGreatDoorEmbT
import Derived.Test.YtbpicngbjggblaaGreatDoorGd
import Derived.Test.YtbpicngbjggblaaGreatDoorGc
import Derived.BigRegion
import Derived.Deep.DeepCutAuto
namespace Go.Proofs.YtbpicngbjggblaaGreatDoor
set_option maxHeartbeats 1000000
set_option maxRecDepth 100000
set_option linter.unusedVariables false
set_option linter.unusedSimpArgs false
open Go.ChangeShapes Go.WideShapes Go.ChangeAt Go.RowKit Go.PlainAid
attribute [local go_sem ↓] Go.wp_at_zero Go.wp_at_succ
theorem conv4 (W : World) (n : Nat) (x y z v : Int) (hn : n = W.heap.size) :
    (convert 45 9 (.slice (some ⟨n, 0, none⟩) 4 4)).run Tryz.prog (W.alloc (.cells #[.int .u8 x, .int .u8 y, .int .u8 z, .int .u8 v] 5)) = .ok (.string (strOfNums [x, y, z, v])) (W.alloc (.cells #[.int .u8 x, .int .u8 y, .int .u8 z, .int .u8 v] 5)) := by
  subst hn
  exact run_convert_bytes_arg (P := Tryz.prog) (W.alloc (.cells #[.int .u8 x, .int .u8 y, .int .u8 z, .int .u8 v] 5)) 45 5 Tryz.underlying45 Tryz.underlying5 W.heap.size 0 4 4 [x, y, z, v] rfl (by
    intro i hi
    match i, hi with
    | 0, _ => simp
    | 1, _ => simp
    | 2, _ => simp
    | 3, _ => simp) 9 Tryz.underlying9
theorem conv4d (W : World) (x y z v : Int) :
    (convert 45 9 (.slice (some ⟨W.heap.size, 0, none⟩) 4 4)).run Tryz.prog (W.alloc (.cells #[.int .u8 x, .int .u8 y, .int .u8 z, .int .u8 v] 5)).drew = .ok (.string (strOfNums [x, y, z, v])) (W.alloc (.cells #[.int .u8 x, .int .u8 y, .int .u8 z, .int .u8 v] 5)).drew :=
  run_convert_bytes_arg (P := Tryz.prog) (W.alloc (.cells #[.int .u8 x, .int .u8 y, .int .u8 z, .int .u8 v] 5)).drew 45 5 Tryz.underlying45 Tryz.underlying5 W.heap.size 0 4 4 [x, y, z, v] rfl (by
    intro i hi
    match i, hi with
    | 0, _ => simp
    | 1, _ => simp
    | 2, _ => simp
    | 3, _ => simp) 9 Tryz.underlying9
theorem data10w_ (K : EmOk) (J : ∀ u : World, Tab u → Calls Tryz.prog 8 #[] u fun e w' => e = .returned (.bool true) ∧ Below u.heap.size u w') (f g h : Int) (D : ByteArray) (a m b n c k d l : Int) (w : World) (ht : Tab w) (f0 : 0 ≤ f) (f1 : f ≤ 255) (g0 : 0 ≤ g) (g1 : g ≤ 255) (h0 : 0 ≤ h) (h1_ : h ≤ 65535) (hc : okC a m b n) (hd : okC c k d l) :
    Cw_ 4 #[.agg #[.int .u8 f, .int .u8 g, .int .u16 h, .string D], .agg #[.int .u32 a, .int .u16 m, .int .u32 b, .int .u16 n, .int .u32 c, .int .u16 k, .int .u32 d, .int .u16 l]] (.bool true) w := by
  by_cases h1 : 1000 < D.size
  · have e1 : decide (1000 < D.size) = true := by simpa using h1
    have e2 : decide ((1000 : Int) < (D.size : Int)) = true := by simp; omega
    clear hc hd h1
    go_enter Tryz.func4, Tryz.ntmps4
    have B1 := Below.refl w.heap.size w
    go_upto_region 1 with fail
    have A_2 := Box4.make w (.int .u8 f) (.int .u8 g) (.int .u16 h) (.string D) 42
    have B3 := B1.alloc B1.size (.cells #[.int .u8 f, .int .u8 g, .int .u16 h, .string D] 42)
    clear B1
    have al := alO_ B3 (.cells #[.int .u32 a, .int .u16 m, .int .u32 b, .int .u16 n, .int .u32 c, .int .u16 k, .int .u32 d, .int .u16 l] 30)
    have A_4 := A_2.on al
    have B5 := B3.trans (al.mono B3.size)
    clear al
    clear A_2 B3
    obtain ⟨u1, hu1⟩ : ∃ x, x = (w.alloc (.cells #[.int .u8 f, .int .u8 g, .int .u16 h, .string D] 42)).alloc (.cells #[.int .u32 a, .int .u16 m, .int .u32 b, .int .u16 n, .int .u32 c, .int .u16 k, .int .u32 d, .int .u16 l] 30) := ⟨_, rfl⟩
    rw [← hu1] at A_4 B5 ⊢
    clear hu1
    obtain ⟨_, a1_0, a1_1, a1_2, a1_3⟩ := id A_4
    go_wp2_with fail
    refine (J _ (ht.on B5)).mono ?_; rintro e w2 ⟨rfl, x2⟩
    have A_6 := A_4.on x2
    have B7 := B5.trans (x2.mono B5.size)
    clear a1_0 a1_1 a1_2 a1_3 A_4 B5 x2
    go_wp2
    go_ret
    exact ⟨rfl, B7⟩
  have e1 : decide (1000 < D.size) = false := by simpa using h1
  have e2 : decide ((1000 : Int) < (D.size : Int)) = false := by simp; omega
  have ft : f.tmod 3 = f % 3 := Int.tmod_eq_emod_of_nonneg f0
  have ix : ∃ q : Int, 0 ≤ q ∧ q ≤ 255 ∧ ∀ u : World, (Instr.index 43 (.agg #[.int .u8 3, .int .u8 11, .int .u8 12]) (.int .u8 (f % 3))).run Tryz.prog u = .ok (.int .u8 q) u := by
    have hf : f % 3 = 0 ∨ f % 3 = 1 ∨ f % 3 = 2 := by omega
    rcases hf with e3 | e3 | e3
    · rw [e3]; exact ⟨3, by omega, by omega, fun u => by simp [Instr.index, run_underlying Tryz.underlying43, asIntOf, go_sem]⟩
    · rw [e3]; exact ⟨11, by omega, by omega, fun u => by simp [Instr.index, run_underlying Tryz.underlying43, asIntOf, go_sem]⟩
    · rw [e3]; exact ⟨12, by omega, by omega, fun u => by simp [Instr.index, run_underlying Tryz.underlying43, asIntOf, go_sem]⟩
  obtain ⟨q, q0, q1, ix⟩ := ix
  generalize f % 3 = f3 at *
  have e5 : IntKind.u8.wrap (h / 256) = h / 256 := IntWalk.u8_in _ (by omega)
  have cv := fun W : World => conv4 W W.heap.size q 0 (h / 256) (h % 256) rfl
  have cvd := fun W : World => conv4d W q 0 (h / 256) (h % 256)
  have zV : (strOfNums [q, 0, h / 256, h % 256]).size = 4 := by rw [strOfNums_size]; rfl
  generalize strOfNums [q, 0, h / 256, h % 256] = V at *
  have zR : (⟨#[114, 101, 115, 116]⟩ : ByteArray).size = 4 := rfl
  have zL : (V ++ ⟨#[114, 101, 115, 116]⟩ ++ D).size = 8 + D.size := by rw [ByteArray.size_append, ByteArray.size_append, zV, zR]
  have cp := fun u => rput4_ 0 0 false g 1 1 2 ⟨#[]⟩ (V ++ ⟨#[114, 101, 115, 116]⟩ ++ D) u (by omega) (by omega) (by omega) (by omega) g0 g1 (by omega) (by omega) (by omega) (by omega) (by omega) (by omega) (by decide) (by unfold maxLen; omega)
  generalize putB 0 0 false g 1 1 2 ⟨#[]⟩ (V ++ ⟨#[114, 101, 115, 116]⟩ ++ D) = S at *
  generalize putE (⟨#[]⟩ : ByteArray).size (V ++ ⟨#[114, 101, 115, 116]⟩ ++ D).size = r at *
  have k1 : ¬ 9223372036854775807 < V.size + 4 := by omega
  have k2 : ¬ 9223372036854775807 < V.size + 4 + D.size := by omega
  have k3 : V.size + 4 ≤ 9223372036854775807 := by omega
  have k4 : V.size + 4 + D.size ≤ 9223372036854775807 := by omega
  have ce := fun u hu => tell10_ K J S a m b n c k d l u hu hc hd
  clear zL zV zR h1
  go_enter Tryz.func4, Tryz.ntmps4
  have B1 := Below.refl w.heap.size w
  go_upto_region 1 with fail
  have A_2 := Box4.make w (.int .u8 f) (.int .u8 g) (.int .u16 h) (.string D) 42
  have B3 := B1.alloc B1.size (.cells #[.int .u8 f, .int .u8 g, .int .u16 h, .string D] 42)
  clear B1
  have al := alO_ B3 (.cells #[.int .u32 a, .int .u16 m, .int .u32 b, .int .u16 n, .int .u32 c, .int .u16 k, .int .u32 d, .int .u16 l] 30)
  have A_4 := A_2.on al
  have hs_ : (w.alloc (.cells #[.int .u8 f, .int .u8 g, .int .u16 h, .string D] 42)).heap.size = w.heap.size + 1 := by simp
  have C_5 := Box8.make (w.alloc (.cells #[.int .u8 f, .int .u8 g, .int .u16 h, .string D] 42)) (.int .u32 a) (.int .u16 m) (.int .u32 b) (.int .u16 n) (.int .u32 c) (.int .u16 k) (.int .u32 d) (.int .u16 l) 30
  rw [hs_] at C_5
  clear hs_
  have B6 := B3.trans (al.mono B3.size)
  clear al
  clear A_2 B3
  obtain ⟨u1, hu1⟩ : ∃ x, x = (w.alloc (.cells #[.int .u8 f, .int .u8 g, .int .u16 h, .string D] 42)).alloc (.cells #[.int .u32 a, .int .u16 m, .int .u32 b, .int .u16 n, .int .u32 c, .int .u16 k, .int .u32 d, .int .u16 l] 30) := ⟨_, rfl⟩
  rw [← hu1] at A_4 C_5 B6 ⊢
  clear hu1
  obtain ⟨_, a1_0, a1_1, a1_2, a1_3⟩ := id A_4
  go_upto_region 3 with fail
  go_region
  clear a1_0 a1_1 a1_2 a1_3
  have al := alO_ B6 (.cells #[.int .u8 q, .int .u8 0, .int .u8 (h / 256), .int .u8 (h % 256)] 5)
  have A_7 := A_4.on al
  have C_8 := C_5.on al
  have B9 := B6.trans (al.mono B6.size)
  clear al
  clear A_4 C_5 B6
  have A_10 := A_7.on ((Below.refl _ _).drew)
  have C_11 := C_8.on ((Below.refl _ _).drew)
  have B12 := B9.drew
  clear A_7 C_8 B9
  obtain ⟨_, a2_0, a2_1, a2_2, a2_3⟩ := id A_10
  go_wp2_with fail
  refine (cp _).mono ?_; rintro e w2 ⟨rfl, x2⟩
  have A_13 := A_10.on x2
  have C_14 := C_11.on x2
  have B15 := B12.trans (x2.mono B12.size)
  clear a2_0 a2_1 a2_2 a2_3 A_10 C_11 B12 x2
  clear cp
  clear A_13
  obtain ⟨_, c3_0, c3_1, c3_2, c3_3, c3_4, c3_5, c3_6, c3_7⟩ := id C_14
  go_wp2_with fail
  refine (ce _ (ht.on B15)).mono ?_; rintro e w3 ⟨rfl, x3⟩
  have C_16 := C_14.on x3
  have B17 := B15.trans (x3.mono B15.size)
  clear c3_0 c3_1 c3_2 c3_3 c3_4 c3_5 c3_6 c3_7 C_14 B15 x3
  go_wp2
  go_ret
  exact ⟨rfl, B17⟩
end Go.Proofs.YtbpicngbjggblaaGreatDoor
