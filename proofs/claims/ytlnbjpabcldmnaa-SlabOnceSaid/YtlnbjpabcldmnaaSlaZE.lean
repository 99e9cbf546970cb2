/- The code's New (layer 13). -/
import Derived.Test.YtlnbjpabcldmnaaSlaZD
namespace Go.Proofs.Ytlnbjpabcldmnaa
set_option linter.unusedVariables false
set_option linter.unusedSimpArgs false
open Go.ChangeShapes Go.WideShapes Go.ChangeAt Go.RowKit Go.PlainAid
attribute [local go_sem ↓] Go.wp_at_zero Go.wp_at_succ
/-- A slab's cells, all of them zero. -/
def slab0 : Array Value := ((List.range 513).map fun i => if i = 0 ∨ i % 2 = 1 then Value.int .i64 0 else Value.int .u32 0).toArray
theorem slab0_size : slab0.size = 513 := by simp [slab0]
theorem slab0_at (i : Nat) (h : i < 513) : slab0[i]? = some (if i = 0 ∨ i % 2 = 1 then Value.int .i64 0 else Value.int .u32 0) := by simp [slab0, h]
theorem slab_info : ∃ i0, Try.prog.info? 51 = some i0 ∧ i0.zero = some (.agg slab0) ∧ i0.size = 513 := by
  have h : (Try.prog.info? 51).map (fun i => (i.zero, i.size)) = some (some (.agg slab0), 513) := by kernel_rfl
  cases hq : Try.prog.info? 51 with
  | none => rw [hq] at h; simp at h
  | some i0 =>
    rw [hq] at h
    simp only [Option.map_some, Option.some.injEq, Prod.mk.injEq] at h
    exact ⟨i0, rfl, h.1, h.2⟩
theorem zero_slab (u : World) : (Sem.run Try.prog (zeroValue 51) u) = .ok (.agg slab0) u := by
  have hz : Try.t51.zero = some (.agg slab0) := by kernel_rfl
  simp [zeroValue, go_sem, hz]
set_option maxHeartbeats 1000000 in
set_option maxRecDepth 100000 in
theorem newE13_ (n : Int) (w : World) (hn : n < 1 ∨ 256 < n) : Calls Try.prog 8 #[.int .i64 n] w fun e w' => e = .returned (.tuple #[.pointer none, .int .i64 2]) ∧ Below w.heap.size w w' := by
  by_cases h : n < 1
  · have e1 : decide (n < 1) = true := by simpa using h
    clear h hn
    go_enter Try.func8, Try.ntmps8
    go_wp2
    go_ret2
    exact ⟨rfl, Below.refl _ _⟩
  · have e1 : decide (n < 1) = false := by simpa using h
    have e2 : decide (256 < n) = true := by simp; omega
    clear h hn
    go_enter Try.func8, Try.ntmps8
    go_wp2
    go_ret2
    exact ⟨rfl, Below.refl _ _⟩
/-- So many slots are of the first time, the others of none. -/
def slBegin (n k : Nat) : Sl := (List.range n).map fun i => (0, if i < k then 1 else 0)
theorem slBegin_len (n k : Nat) : (slBegin n k).length = n := by simp [slBegin]
theorem slBegin_at (n k i : Nat) (h : i < n) : slS (slBegin n k) i = 0 ∧ slG (slBegin n k) i = if i < k then 1 else 0 := by
  unfold slS slG slBegin
  simp [List.getD, h]
theorem slBegin_end (n : Nat) : slBegin n n = slNew n := by
  refine List.ext_getElem (by rw [slBegin_len, slNew_len]) fun i h1 h2 => ?_
  rw [slBegin_len] at h1
  simp [slBegin, slNew, h1]
theorem slBegin_step (n k : Nat) (h : k < n) : slPut (slBegin n k) k (slS (slBegin n k) k) 1 = slBegin n (k + 1) := by
  rw [(slBegin_at n k k h).1]
  refine List.ext_getElem? fun i => ?_
  unfold slPut slBegin
  rw [List.getElem?_set]
  by_cases e : k = i
  · subst e; simp [h]
  · rw [if_neg e]
    simp only [List.getElem?_map]
    have e2 : (if i < k then 1 else 0 : Nat) = if i < k + 1 then 1 else 0 := by split <;> split <;> omega
    by_cases hi : i < n
    · simp only [List.getElem?_range hi, Option.map_some, e2]
    · simp [hi]
theorem slBegin_ok (n k : Nat) (h : n ≤ 256) : (slBegin n k).Ok := by
  refine ⟨by rw [slBegin_len]; exact h, fun i => ?_⟩
  by_cases hi : i < n
  · rw [(slBegin_at n k i hi).1, (slBegin_at n k i hi).2]
    split <;> omega
  · rw [slS_out _ _ (by rw [slBegin_len]; omega), slG_out _ _ (by rw [slBegin_len]; omega)]
    omega
theorem SlC.made (w : World) (n : Nat) (T : TypeId) (h1 : 1 ≤ n) (h2 : n ≤ 256) : SlC (w.alloc (.cells (slab0.setIfInBounds 0 (.int .i64 (n : Int))) T)) w.heap.size (slBegin n 0) := by
  have key : ∀ j v, (slab0.setIfInBounds 0 (.int .i64 (n : Int)))[j]? = some v → (w.alloc (.cells (slab0.setIfInBounds 0 (.int .i64 (n : Int))) T)).cell? ⟨w.heap.size, j, none⟩ = some v := fun j v h => by
    have k := World.cell?_alloc_mark w (slab0.setIfInBounds 0 (.int .i64 (n : Int))) T (0, 0) j
    rw [h] at k
    exact k
  have frz : ∀ j, (w.alloc (.cells (slab0.setIfInBounds 0 (.int .i64 (n : Int))) T)).frozen? ⟨w.heap.size, j, none⟩ = false := fun j => by
    refine (World.frozen?_alloc_mark w (slab0.setIfInBounds 0 (.int .i64 (n : Int))) T 0 0 j).trans ?_
    simp
  refine ⟨by simp, by rw [slBegin_len]; exact h1, ?_, fun i hi => ?_, fun i _ => ⟨frz _, frz _⟩, slBegin_ok n 0 h2⟩
  · rw [slBegin_len]
    exact key 0 _ (by rw [Array.getElem?_setIfInBounds]; simp [slab0_size])
  · rw [slBegin_len] at hi
    obtain ⟨a1, a2⟩ := slBegin_at n 0 i hi
    rw [a1, a2, if_neg (by omega)]
    constructor
    · refine key _ _ ?_
      rw [Array.getElem?_setIfInBounds, if_neg (by omega), slab0_at _ (by omega), if_pos (by omega)]
      rfl
    · refine key _ _ ?_
      rw [Array.getElem?_setIfInBounds, if_neg (by omega), slab0_at _ (by omega), if_neg (by omega)]
      rfl
set_option maxHeartbeats 4000000 in
set_option maxRecDepth 100000 in
theorem new13_ (n : Nat) (w : World) (h1 : 1 ≤ n) (h2 : n ≤ 256) : Calls Try.prog 8 #[.int .i64 (n : Int)] w fun e w' => ∃ q, e = .returned (.tuple #[.pointer (some ⟨q, 0, none⟩), .int .i64 0]) ∧ Below w.heap.size w w' ∧ w.heap.size ≤ q ∧ SlC w' q (slNew n) := by
  have e1 : decide ((n : Int) < 1) = false := by simp; omega
  have e2 : decide (256 < (n : Int)) = false := by simp; omega
  have zs := zero_slab
  have zz := slab0_size
  go_enter Try.func8, Try.ntmps8
  go_upto_region 4 with fail
  have H1 := SlC.made w n 51 h1 h2
  have B1 : Below w.heap.size w (w.alloc (.cells (slab0.setIfInBounds 0 (.int .i64 (n : Int))) 51)) := (Below.refl _ _).alloc (Nat.le_refl _) _
  obtain ⟨w1, hw1⟩ : ∃ w1, w1 = w.alloc (.cells (slab0.setIfInBounds 0 (.int .i64 (n : Int))) 51) := ⟨_, rfl⟩
  rw [← hw1] at B1 H1 ⊢
  clear hw1
  have cu := used13_ _ _ w1 H1
  rw [slBegin_len] at cu
  go_wp2_with fail
  refine cu.mono ?_; rintro e w2 ⟨rfl, hw2⟩
  have bd : Below w1.heap.size w1 w1.drew := (Below.refl _ _).drew
  rw [hw2] at bd
  clear hw2 cu
  have H2 := H1.on bd
  have B2 := B1.trans (bd.mono B1.size)
  clear H1 B1 bd zs zz
  go_wp2_with fail
  go_loopw [17] (fun si wr => ∃ i : Nat, i ≤ n ∧ si = .int .i64 (i : Int) ∧ SlC wr w.heap.size (slBegin n i) ∧ Below w.heap.size w wr) (fun si _ => n - (intOf si).toNat)
  case atStart => exact ⟨0, Nat.zero_le _, rfl, H2, B2⟩
  case round =>
    obtain ⟨k, hk, rfl, H3, B3⟩ := hrel
    have ew : wrap64 ((k : Int) + 1) = (k : Int) + 1 := step_64 (by omega)
    by_cases hlt : k < n
    · have t1 : decide ((k : Int) < (n : Int)) = true := by simp; omega
      have hl : k < (slBegin n k).length := by rw [slBegin_len]; exact hlt
      obtain ⟨x1, x2⟩ := H3.cs k hl
      obtain ⟨y1, y2⟩ := H3.fz k hl
      have i0 : (0 : Int) ≤ (k : Int) := by omega
      have j1 : (k : Int) < 256 := by omega
      have j2 : k < 256 := by omega
      have H4 := H3.setG k 1 hl (by omega)
      rw [slBegin_step n k hlt] at H4
      have HH := Lib.hid H4
      clear H2 B2 H3 H4 x1
      go_wp2
      go_roundw
      case rel => exact ⟨k + 1, hlt, by simp [ew], HH.out, B3.setCell (p := ⟨w.heap.size, 1 + k * 2 + 1, none⟩) (Nat.le_refl _) _⟩
      case measure => first | exact step_meas ew (step_less hlt) | exact step_less hlt
    · obtain rfl : k = n := Nat.le_antisymm hk (Nat.le_of_not_lt hlt)
      have t1 : decide ((k : Int) < (k : Int)) = false := by simp
      rw [slBegin_end] at H3
      clear hlt H2 B2
      go_wp2
      go_ret2
      exact ⟨_, rfl, B3, Nat.le_refl _, H3⟩
end Go.Proofs.Ytlnbjpabcldmnaa
