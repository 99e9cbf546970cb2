/- The walk of AddrsTell. -/
import Derived.Test.YtaaobacmlaaajaaDoorAddrsQ
import Derived.Test.YtaaobacmlaaajaaDoorAddrsR
namespace Go.Proofs.YtaaobacmlaaajaaDoor.AddrsTell
set_option linter.unusedVariables false
set_option linter.unusedSimpArgs false
open Go.ChangeShapes Go.WideShapes Go.ChangeAt Go.RowKit Go.PlainAid
set_option maxHeartbeats 4000000 in
set_option maxRecDepth 100000 in
theorem walkN (a m b n p : Nat) (z : Int) (w : World) (ht : Tab w) (ha : a < 4294967296) (hm : m ≤ 65535) (hb : b < 4294967296) (hn : n ≤ 65535) (hp : p < 4294967296) (hz : -9223372036854775808 ≤ z ∧ z ≤ 9223372036854775807) :
    Calls Tryd.prog 3 #[.agg #[.int .u32 (a : Int), .int .u16 (m : Int)], .agg #[.int .u32 (b : Int), .int .u16 (n : Int)], .agg #[.int .u32 (p : Int), .int .i64 z]] w fun e w' => e = .returned (.bool true) ∧ Below w.heap.size w w' := by
  obtain ⟨w1, hw1⟩ : ∃ w1, w1 = ((w.alloc (.cells #[.int .u32 (a : Int), .int .u16 (m : Int)] 26)).alloc (.cells #[.int .u32 (b : Int), .int .u16 (n : Int)] 26)).alloc (.cells #[.int .u32 (p : Int), .int .i64 z] 28) := ⟨_, rfl⟩
  have B1 : Below w.heap.size w w1 := by rw [hw1]; exact (((Below.refl _ _).alloc (Nat.le_refl _) _).alloc (by simp) _).alloc (by simp; omega) _
  have s1 : w.heap.size + 2 < w1.heap.size := by rw [hw1]; simp
  have c0 : w1.cell? ⟨w.heap.size, 0, none⟩ = some (.int .u32 (a : Int)) := by rw [hw1]; simp [go_sem]
  have c1 : w1.cell? ⟨w.heap.size, 1, none⟩ = some (.int .u16 (m : Int)) := by rw [hw1]; simp [go_sem]
  have c2 : w1.cell? ⟨w.heap.size + 1, 0, none⟩ = some (.int .u32 (b : Int)) := by rw [hw1]; simp [go_sem]
  have c3 : w1.cell? ⟨w.heap.size + 1, 1, none⟩ = some (.int .u16 (n : Int)) := by rw [hw1]; simp [go_sem]
  have c4 : w1.cell? ⟨w.heap.size + 2, 0, none⟩ = some (.int .u32 (p : Int)) := by rw [hw1]; simp [go_sem]
  have c5 : w1.cell? ⟨w.heap.size + 2, 1, none⟩ = some (.int .i64 z) := by rw [hw1]; simp [go_sem]
  have HW := Lib.hid hw1
  clear hw1
  have T1 : Tab w1 := ht.on B1
  have k6 : ∀ q : Later w1.heap.size w1, Calls Tryd.prog 6 #[.int .u32 (a : Int)] q.u fun e w' => e = .returned (.string (str (textL a))) ∧ Below q.u.heap.size q.u w' := fun q => text_ a q.u ha (T1.on q.h)
  have k7 : ∀ q : Later w1.heap.size w1, Calls Tryd.prog 7 #[.int .u32 (a : Int)] q.u fun e w' => e = .returned (.string (str (textL a))) ∧ Below q.u.heap.size q.u w' := fun q => rtext_ a q.u ha
  have k8 : ∀ q : Later w1.heap.size w1, Calls Tryd.prog 8 #[.agg #[.int .u32 (a : Int), .int .u16 (m : Int)]] q.u fun e w' => e = .returned (.string (str (pointL a m))) ∧ Below q.u.heap.size q.u w' := fun q => pointText_ a m q.u ha hm (T1.on q.h)
  have k9 : ∀ q : Later w1.heap.size w1, Calls Tryd.prog 9 #[.agg #[.int .u32 (a : Int), .int .u16 (m : Int)]] q.u fun e w' => e = .returned (.string (str (pointL a m))) ∧ Below q.u.heap.size q.u w' := fun q => rpointText_ a m q.u ha hm
  have k10 : ∀ q : Later w1.heap.size w1, Calls Tryd.prog 10 #[.agg #[.int .u32 (p : Int), .int .i64 z]] q.u fun e w' => e = .returned (.string (str (prefL p z))) ∧ Below q.u.heap.size q.u w' := fun q => prefText_ p z q.u hp hz (T1.on q.h)
  have k11 : ∀ q : Later w1.heap.size w1, Calls Tryd.prog 11 #[.agg #[.int .u32 (p : Int), .int .i64 z]] q.u fun e w' => e = .returned (.string (str (prefL p z))) ∧ Below q.u.heap.size q.u w' := fun q => rprefText_ p z q.u hp hz
  have k12 : ∀ q : Later w1.heap.size w1, Calls Tryd.prog 12 #[.agg #[.int .u32 (p : Int), .int .i64 z]] q.u fun e w' => e = .returned (.bool (mayV p z)) ∧ Below q.u.heap.size q.u w' := fun q => may_ p z q.u hp hz
  have k13 : ∀ q : Later w1.heap.size w1, Calls Tryd.prog 13 #[.agg #[.int .u32 (p : Int), .int .i64 z]] q.u fun e w' => e = .returned (.bool (mayV p z)) ∧ Below q.u.heap.size q.u w' := fun q => rmay_ p z q.u hp hz
  have k14 : ∀ q : Later w1.heap.size w1, Calls Tryd.prog 14 #[.agg #[.int .u32 (p : Int), .int .i64 z], .int .u32 (a : Int)] q.u fun e w' => e = .returned (.bool (hasV p z a)) ∧ Below q.u.heap.size q.u w' := fun q => has_ p z a q.u hp ha hz
  have k15 : ∀ q : Later w1.heap.size w1, Calls Tryd.prog 15 #[.agg #[.int .u32 (p : Int), .int .i64 z], .int .u32 (a : Int)] q.u fun e w' => e = .returned (.bool (hasV p z a)) ∧ Below q.u.heap.size q.u w' := fun q => rhas_ p z a q.u hp ha hz
  have k16 : ∀ q : Later w1.heap.size w1, Calls Tryd.prog 16 #[.agg #[.int .u32 (a : Int), .int .u16 (m : Int)], .agg #[.int .u32 (b : Int), .int .u16 (n : Int)]] q.u fun e w' => e = .returned (.bool (lessV a m b n)) ∧ Below q.u.heap.size q.u w' := fun q => less_ a m b n q.u ha hb hm hn
  have k17 : ∀ q : Later w1.heap.size w1, Calls Tryd.prog 17 #[.agg #[.int .u32 (a : Int), .int .u16 (m : Int)], .agg #[.int .u32 (b : Int), .int .u16 (n : Int)]] q.u fun e w' => e = .returned (.bool (lessV a m b n)) ∧ Below q.u.heap.size q.u w' := fun q => rless_ a m b n q.u ha hb hm hn
  have k18 : ∀ q : Later w1.heap.size w1, Calls Tryd.prog 16 #[.agg #[.int .u32 (a : Int), .int .u16 (m : Int)], .agg #[.int .u32 (a : Int), .int .u16 (m : Int)]] q.u fun e w' => e = .returned (.bool (lessV a m a m)) ∧ Below q.u.heap.size q.u w' := fun q => less_ a m a m q.u ha ha hm hm
  have k19 : ∀ q : Later w1.heap.size w1, Calls Tryd.prog 17 #[.agg #[.int .u32 (a : Int), .int .u16 (m : Int)], .agg #[.int .u32 (a : Int), .int .u16 (m : Int)]] q.u fun e w' => e = .returned (.bool (lessV a m a m)) ∧ Below q.u.heap.size q.u w' := fun q => rless_ a m a m q.u ha ha hm hm
  generalize str (textL a) = S1 at *
  generalize str (pointL a m) = S2 at *
  generalize str (prefL p z) = S3 at *
  generalize mayV p z = V1 at *
  generalize hasV p z a = V2 at *
  generalize lessV a m b n = V3 at *
  generalize lessV a m a m = V4 at *
  have d0 : ∀ q : Later w1.heap.size w1, q.u.cell? ⟨w.heap.size, 0, none⟩ = some (.int .u32 (a : Int)) := fun q => q.block (show w.heap.size < _ by omega) c0
  have d1 : ∀ q : Later w1.heap.size w1, q.u.cell? ⟨w.heap.size, 1, none⟩ = some (.int .u16 (m : Int)) := fun q => q.block (show w.heap.size < _ by omega) c1
  have d2 : ∀ q : Later w1.heap.size w1, q.u.cell? ⟨w.heap.size + 1, 0, none⟩ = some (.int .u32 (b : Int)) := fun q => q.block (show w.heap.size + 1 < _ by omega) c2
  have d3 : ∀ q : Later w1.heap.size w1, q.u.cell? ⟨w.heap.size + 1, 1, none⟩ = some (.int .u16 (n : Int)) := fun q => q.block (show w.heap.size + 1 < _ by omega) c3
  have d4 : ∀ q : Later w1.heap.size w1, q.u.cell? ⟨w.heap.size + 2, 0, none⟩ = some (.int .u32 (p : Int)) := fun q => q.block (show w.heap.size + 2 < _ by omega) c4
  have d5 : ∀ q : Later w1.heap.size w1, q.u.cell? ⟨w.heap.size + 2, 1, none⟩ = some (.int .i64 z) := fun q => q.block (show w.heap.size + 2 < _ by omega) c5
  clear c0 c1 c2 c3 c4 c5 s1 ha hb hm hn hp hz
  go_enter Tryd.func3, Tryd.ntmps3
  go_wp2_with fail
  rw [← HW.out]
  refine region_later (B := w1.heap.size) (by kernel_rfl) (by kernel_rfl) ?_
  repeat (go_big_quiet_step (first
    | (go_at_call 6; exact later_of _ (Nat.le_refl _) (k6 _))
    | (go_at_call 7; exact later_of _ (Nat.le_refl _) (k7 _))
    | (go_at_call 8; exact later_of _ (Nat.le_refl _) (k8 _))
    | (go_at_call 9; exact later_of _ (Nat.le_refl _) (k9 _))
    | (go_at_call 10; exact later_of _ (Nat.le_refl _) (k10 _))
    | (go_at_call 11; exact later_of _ (Nat.le_refl _) (k11 _))
    | (go_at_call 12; exact later_of _ (Nat.le_refl _) (k12 _))
    | (go_at_call 13; exact later_of _ (Nat.le_refl _) (k13 _))
    | (go_at_call 14; exact later_of _ (Nat.le_refl _) (k14 _))
    | (go_at_call 15; exact later_of _ (Nat.le_refl _) (k15 _))
    | (go_at_call_of 16 b; exact later_of _ (Nat.le_refl _) (k16 _))
    | (go_at_call_of 17 b; exact later_of _ (Nat.le_refl _) (k17 _))
    | (go_at_call 16; exact later_of _ (Nat.le_refl _) (k18 _))
    | (go_at_call 17; exact later_of _ (Nat.le_refl _) (k19 _))
    | (go_at_call 18; exact later_of _ (Nat.le_refl _) (named_ _))))
  refine later_end fun w2 b2 => ?_
  have B2 := B1.trans (b2.mono B1.size)
  clear d0 d1 d2 d3 d4 d5 b2 k6 k7 k8 k9 k10 k11 k12 k13 k14 k15 k16 k17 k18 k19
  go_wp2
  go_ret
  exact ⟨rfl, B2⟩
theorem walk (a m b n p z : Int) (w : World) (ht : Tab w) (ha : (Lit.int .u32 a).wf = true) (hm : (Lit.int .u16 m).wf = true) (hb : (Lit.int .u32 b).wf = true) (hn : (Lit.int .u16 n).wf = true) (hp : (Lit.int .u32 p).wf = true) (hz : (Lit.int .i64 z).wf = true) :
    Calls Tryd.prog 3 #[.agg #[.int .u32 a, .int .u16 m], .agg #[.int .u32 b, .int .u16 n], .agg #[.int .u32 p, .int .i64 z]] w fun e w' => e = .returned (.bool true) ∧ Below w.heap.size w w' := by
  obtain ⟨a0, a1⟩ := bounds_u32 ha
  obtain ⟨m0, m1⟩ := bounds_u16 hm
  obtain ⟨b0, b1⟩ := bounds_u32 hb
  obtain ⟨n0, n1⟩ := bounds_u16 hn
  obtain ⟨p0, p1⟩ := bounds_u32 hp
  obtain ⟨z0, z1⟩ := bounds_i64 hz
  obtain ⟨a, rfl⟩ := Int.eq_ofNat_of_zero_le a0
  obtain ⟨m, rfl⟩ := Int.eq_ofNat_of_zero_le m0
  obtain ⟨b, rfl⟩ := Int.eq_ofNat_of_zero_le b0
  obtain ⟨n, rfl⟩ := Int.eq_ofNat_of_zero_le n0
  obtain ⟨p, rfl⟩ := Int.eq_ofNat_of_zero_le p0
  exact walkN a m b n p z w ht (by omega) (by omega) (by omega) (by omega) (by omega) (by omega)
end Go.Proofs.YtaaobacmlaaajaaDoor.AddrsTell
