/- The code's ports (layer 16): how two rows stand. Written by gen_pzs.py. -/
import Derived.Test.YtbbadpidolfleaaVb
import Derived.Test.YtbbadpidolfleaaCmp
import Derived.Deep.RegionHeld3
import Derived.Sort.Grow
namespace Go.Proofs.Ytbbadpidolfleaa
set_option linter.unusedVariables false
set_option maxRecDepth 100000
set_option linter.unusedSimpArgs false
open Go.ChangeShapes Go.WideShapes Go.ChangeAt Go.RowKit Go.PlainAid
attribute [local go_sem ↓] Go.wp_at_zero Go.wp_at_succ
theorem isNaNB_ (x : Int) (w : World) : Calls Try.prog 64 #[.int .u8 x] w fun e w' => e = .returned (.bool false) ∧ w' = w := by
  have t1 : (x != x) = false := by simp
  go_enter Try.func64, Try.ntmps64
  go_wp2
  go_ret
  exact ⟨rfl, rfl⟩
theorem compareB_ (x y : Int) (w : World) : Calls Try.prog 56 #[.int .u8 x, .int .u8 y] w fun e w' => e = .returned (.int .i64 (cmpV x y)) ∧ w' = w := by
  have k1 := isNaNB_ x w
  have k2 := isNaNB_ y w
  unfold cmpV
  by_cases h : x < y
  · have t1 : decide (x < y) = true := decide_eq_true h
    rw [if_pos h]
    go_enter Try.func56, Try.ntmps56
    go_upto_region 2 with (go_at_call 64; refine k1.mono ?_; rintro e w1 ⟨rfl, rfl⟩)
    go_wp2_with (go_at_call 64; refine k2.mono ?_; rintro e w1 ⟨rfl, rfl⟩)
    go_ret
    exact ⟨rfl, rfl⟩
  · have t1 : decide (x < y) = false := decide_eq_false h
    rw [if_neg h]
    by_cases h2 : y < x
    · have t2 : decide (y < x) = true := decide_eq_true h2
      rw [if_pos h2]
      go_enter Try.func56, Try.ntmps56
      go_upto_region 2 with (go_at_call 64; refine k1.mono ?_; rintro e w1 ⟨rfl, rfl⟩)
      go_wp2_with (go_at_call 64; refine k2.mono ?_; rintro e w1 ⟨rfl, rfl⟩)
      go_ret
      exact ⟨rfl, rfl⟩
    · have t2 : decide (y < x) = false := decide_eq_false h2
      rw [if_neg h2]
      go_enter Try.func56, Try.ntmps56
      go_upto_region 2 with (go_at_call 64; refine k1.mono ?_; rintro e w1 ⟨rfl, rfl⟩)
      go_wp2_with (go_at_call 64; refine k2.mono ?_; rintro e w1 ⟨rfl, rfl⟩)
      go_ret
      exact ⟨rfl, rfl⟩
theorem isNaNA_ (x : Int) (w : World) : Calls Try.prog 65 #[.int .u32 x] w fun e w' => e = .returned (.bool false) ∧ w' = w := by
  have t1 : (x != x) = false := by simp
  go_enter Try.func65, Try.ntmps65
  go_wp2
  go_ret
  exact ⟨rfl, rfl⟩
theorem compareA_ (x y : Int) (w : World) : Calls Try.prog 57 #[.int .u32 x, .int .u32 y] w fun e w' => e = .returned (.int .i64 (cmpV x y)) ∧ w' = w := by
  have k1 := isNaNA_ x w
  have k2 := isNaNA_ y w
  unfold cmpV
  by_cases h : x < y
  · have t1 : decide (x < y) = true := decide_eq_true h
    rw [if_pos h]
    go_enter Try.func57, Try.ntmps57
    go_upto_region 2 with (go_at_call 65; refine k1.mono ?_; rintro e w1 ⟨rfl, rfl⟩)
    go_wp2_with (go_at_call 65; refine k2.mono ?_; rintro e w1 ⟨rfl, rfl⟩)
    go_ret
    exact ⟨rfl, rfl⟩
  · have t1 : decide (x < y) = false := decide_eq_false h
    rw [if_neg h]
    by_cases h2 : y < x
    · have t2 : decide (y < x) = true := decide_eq_true h2
      rw [if_pos h2]
      go_enter Try.func57, Try.ntmps57
      go_upto_region 2 with (go_at_call 65; refine k1.mono ?_; rintro e w1 ⟨rfl, rfl⟩)
      go_wp2_with (go_at_call 65; refine k2.mono ?_; rintro e w1 ⟨rfl, rfl⟩)
      go_ret
      exact ⟨rfl, rfl⟩
    · have t2 : decide (y < x) = false := decide_eq_false h2
      rw [if_neg h2]
      go_enter Try.func57, Try.ntmps57
      go_upto_region 2 with (go_at_call 65; refine k1.mono ?_; rintro e w1 ⟨rfl, rfl⟩)
      go_wp2_with (go_at_call 65; refine k2.mono ?_; rintro e w1 ⟨rfl, rfl⟩)
      go_ret
      exact ⟨rfl, rfl⟩
theorem isNaNH_ (x : Int) (w : World) : Calls Try.prog 66 #[.int .u16 x] w fun e w' => e = .returned (.bool false) ∧ w' = w := by
  have t1 : (x != x) = false := by simp
  go_enter Try.func66, Try.ntmps66
  go_wp2
  go_ret
  exact ⟨rfl, rfl⟩
theorem compareH_ (x y : Int) (w : World) : Calls Try.prog 58 #[.int .u16 x, .int .u16 y] w fun e w' => e = .returned (.int .i64 (cmpV x y)) ∧ w' = w := by
  have k1 := isNaNH_ x w
  have k2 := isNaNH_ y w
  unfold cmpV
  by_cases h : x < y
  · have t1 : decide (x < y) = true := decide_eq_true h
    rw [if_pos h]
    go_enter Try.func58, Try.ntmps58
    go_upto_region 2 with (go_at_call 66; refine k1.mono ?_; rintro e w1 ⟨rfl, rfl⟩)
    go_wp2_with (go_at_call 66; refine k2.mono ?_; rintro e w1 ⟨rfl, rfl⟩)
    go_ret
    exact ⟨rfl, rfl⟩
  · have t1 : decide (x < y) = false := decide_eq_false h
    rw [if_neg h]
    by_cases h2 : y < x
    · have t2 : decide (y < x) = true := decide_eq_true h2
      rw [if_pos h2]
      go_enter Try.func58, Try.ntmps58
      go_upto_region 2 with (go_at_call 66; refine k1.mono ?_; rintro e w1 ⟨rfl, rfl⟩)
      go_wp2_with (go_at_call 66; refine k2.mono ?_; rintro e w1 ⟨rfl, rfl⟩)
      go_ret
      exact ⟨rfl, rfl⟩
    · have t2 : decide (y < x) = false := decide_eq_false h2
      rw [if_neg h2]
      go_enter Try.func58, Try.ntmps58
      go_upto_region 2 with (go_at_call 66; refine k1.mono ?_; rintro e w1 ⟨rfl, rfl⟩)
      go_wp2_with (go_at_call 66; refine k2.mono ?_; rintro e w1 ⟨rfl, rfl⟩)
      go_ret
      exact ⟨rfl, rfl⟩
/-- Nothing that was there has turned; draws have been drawn. -/
structure FwP (w w' : World) : Prop where
  b : Below w.heap.size w w'
  d : w.drawn ≤ w'.drawn
theorem FwP.refl (w : World) : FwP w w := ⟨Below.refl _ _, Nat.le_refl _⟩
theorem FwP.trans {a b c : World} (h : FwP a b) (k : FwP b c) : FwP a c := ⟨h.b.trans (k.b.mono h.b.size), Nat.le_trans h.d k.d⟩
theorem FwP.alloc {a w : World} (h : FwP a w) (o : Obj) : FwP a (w.alloc o) := h.trans ⟨(Below.refl _ _).alloc (Nat.le_refl _) o, Nat.le_refl _⟩
theorem FwP.drew {a w : World} (h : FwP a w) : FwP a w.drew := h.trans ⟨(Below.refl _ _).drew, Nat.le_succ _⟩
/-- Some draws, some blocks: no more. -/
theorem FwP.grow {w w' : World} (h : FwP w w') : ∃ q os, w' = Sort.grow (w.drewN q) os := by
  refine ⟨w'.drawn - w.drawn, w'.heap.extract w.heap.size w'.heap.size, ?_⟩
  have hh : w'.heap = w.heap ++ w'.heap.extract w.heap.size w'.heap.size := by
    apply Array.ext_getElem?
    intro i
    rw [Array.getElem?_append]
    by_cases hi : i < w.heap.size
    · rw [if_pos hi]; exact h.b.block i hi
    · rw [if_neg hi, Array.getElem?_extract]
      by_cases h2 : i < w'.heap.size
      · rw [if_pos (by omega)]; congr 1; omega
      · rw [if_neg (by omega)]; exact Array.getElem?_eq_none (by omega)
  have hd : w'.drawn = w.drawn + (w'.drawn - w.drawn) := by have := h.d; omega
  have ho := h.b.os
  have ht := h.b.tape
  have hu := h.b.output
  cases w'
  simp only [] at hh hd ho ht hu ⊢
  unfold Sort.grow World.drewN
  simp only [World.mk.injEq]
  exact ⟨hh, ht, hd, ho, hu⟩

/-- How two rows stand. -/
def cmpR (a b : Ro) : Int := orV (cmpV a.pr b.pr) (cmpV a.oi b.oi) (cmpV a.op b.op)
set_option maxHeartbeats 4000000 in
theorem pz_compare_ (a b : Ro) (w : World) : Calls Try.prog 45 #[.agg #[.int .u8 a.pr, .int .u32 a.oi, .int .u16 a.op, .int .u32 a.ii, .int .u16 a.ip, .int .i64 (a.lv : Int), .int .i64 (a.hd : Int)], .agg #[.int .u8 b.pr, .int .u32 b.oi, .int .u16 b.op, .int .u32 b.ii, .int .u16 b.ip, .int .i64 (b.lv : Int), .int .i64 (b.hd : Int)]] w fun e w' => e = .returned (.int .i64 (cmpR a b)) ∧ ∃ q os, w' = Sort.grow (w.drewN q) os := by
  obtain ⟨v1, hv1⟩ : ∃ v, v = cmpV a.pr b.pr := ⟨_, rfl⟩
  obtain ⟨v2, hv2⟩ : ∃ v, v = cmpV a.oi b.oi := ⟨_, rfl⟩
  obtain ⟨v3, hv3⟩ : ∃ v, v = cmpV a.op b.op := ⟨_, rfl⟩
  have k1 := fun W => compareB_ a.pr b.pr W
  have k2 := fun W => compareA_ a.oi b.oi W
  have k3 := fun W => compareH_ a.op b.op W
  rw [← hv1] at k1
  rw [← hv2] at k2
  rw [← hv3] at k3
  have HV : Hid (cmpR a b = orV v1 v2 v3) := by rw [hv1, hv2, hv3]; exact rfl
  clear hv1 hv2 hv3
  go_enter Try.func45, Try.ntmps45
  go_upto_region 1 with fail
  have A1 := (RowB.made w a 44).on ((Below.refl _ _).alloc (Nat.le_refl _) (.cells #[.int .u8 b.pr, .int .u32 b.oi, .int .u16 b.op, .int .u32 b.ii, .int .u16 b.ip, .int .i64 (b.lv : Int), .int .i64 (b.hd : Int)] 44))
  have A2 := RowB.made (w.alloc (.cells #[.int .u8 a.pr, .int .u32 a.oi, .int .u16 a.op, .int .u32 a.ii, .int .u16 a.ip, .int .i64 (a.lv : Int), .int .i64 (a.hd : Int)] 44)) b 44
  have hz : (w.alloc (.cells #[.int .u8 a.pr, .int .u32 a.oi, .int .u16 a.op, .int .u32 a.ii, .int .u16 a.ip, .int .i64 (a.lv : Int), .int .i64 (a.hd : Int)] 44)).heap.size = w.heap.size + 1 := by simp
  rw [hz] at A2
  have FW : Hid (∀ o, FwP w (((w.alloc (.cells #[.int .u8 a.pr, .int .u32 a.oi, .int .u16 a.op, .int .u32 a.ii, .int .u16 a.ip, .int .i64 (a.lv : Int), .int .i64 (a.hd : Int)] 44)).alloc (.cells #[.int .u8 b.pr, .int .u32 b.oi, .int .u16 b.op, .int .u32 b.ii, .int .u16 b.ip, .int .i64 (b.lv : Int), .int .i64 (b.hd : Int)] 44)).alloc o).drew) := fun o => ((((FwP.refl w).alloc _).alloc _).alloc o).drew
  generalize (w.alloc (.cells #[.int .u8 a.pr, .int .u32 a.oi, .int .u16 a.op, .int .u32 a.ii, .int .u16 a.ip, .int .i64 (a.lv : Int), .int .i64 (a.hd : Int)] 44)).alloc (.cells #[.int .u8 b.pr, .int .u32 b.oi, .int .u16 b.op, .int .u32 b.ii, .int .u16 b.ip, .int .i64 (b.lv : Int), .int .i64 (b.hd : Int)] 44) = w3 at A1 A2 FW ⊢
  clear hz
  generalize w.heap.size = c at A1 A2 ⊢
  have k4 : Calls Try.prog 55 #[.slice (some ⟨w3.heap.size, 0, none⟩) 3 3] (w3.alloc (.cells #[.int .i64 v1, .int .i64 v2, .int .i64 v3] 3)).drew fun e w' => e = .returned (.int .i64 (orV v1 v2 v3)) ∧ w' = (w3.alloc (.cells #[.int .i64 v1, .int .i64 v2, .int .i64 v3] 3)).drew :=
    or3_ _ 3 v1 v2 v3 _ (World.cell?_alloc_mark w3 #[.int .i64 v1, .int .i64 v2, .int .i64 v3] 3 (0, 0) 0) (World.cell?_alloc_mark w3 #[.int .i64 v1, .int .i64 v2, .int .i64 v3] 3 (0, 0) 1) (World.cell?_alloc_mark w3 #[.int .i64 v1, .int .i64 v2, .int .i64 v3] 3 (0, 0) 2)
  generalize orV v1 v2 v3 = r at k4 HV
  have MK := Lib.hid (show ∀ w', Below w3.heap.size w3 w' → w'.cell? ⟨c, 0, none⟩ = some (.int .u8 a.pr) ∧ w'.cell? ⟨c, 1, none⟩ = some (.int .u32 a.oi) ∧ w'.cell? ⟨c, 2, none⟩ = some (.int .u16 a.op) ∧ w'.cell? ⟨c + 1, 0, none⟩ = some (.int .u8 b.pr) ∧ w'.cell? ⟨c + 1, 1, none⟩ = some (.int .u32 b.oi) ∧ w'.cell? ⟨c + 1, 2, none⟩ = some (.int .u16 b.op) ∧ Below w3.heap.size w3 w' from
    fun w' h => ⟨(h.cell (p := ⟨c, 0, none⟩) A1.lt).trans A1.c0, (h.cell (p := ⟨c, 1, none⟩) A1.lt).trans A1.c1, (h.cell (p := ⟨c, 2, none⟩) A1.lt).trans A1.c2, (h.cell (p := ⟨c + 1, 0, none⟩) A2.lt).trans A2.c0, (h.cell (p := ⟨c + 1, 1, none⟩) A2.lt).trans A2.c1, (h.cell (p := ⟨c + 1, 2, none⟩) A2.lt).trans A2.c2, h⟩)
  clear A1 A2
  go_region_held3 (fun w' => w'.cell? ⟨c, 0, none⟩ = some (.int .u8 a.pr) ∧ w'.cell? ⟨c, 1, none⟩ = some (.int .u32 a.oi) ∧ w'.cell? ⟨c, 2, none⟩ = some (.int .u16 a.op) ∧ w'.cell? ⟨c + 1, 0, none⟩ = some (.int .u8 b.pr) ∧ w'.cell? ⟨c + 1, 1, none⟩ = some (.int .u32 b.oi) ∧ w'.cell? ⟨c + 1, 2, none⟩ = some (.int .u16 b.op) ∧ Below w3.heap.size w3 w')
    ((go_split_ands
      refine MK.out _ ?_
      repeat
        first
          | assumption
          | exact Below.refl _ _
          | refine Below.drew ?_
          | refine Below.alloc ?_ ?_ _
          | exact Nat.le_refl _
          | focus (simp; done)))
    ((first
      | (go_at_call 56
         refine (k1 _).mono ?_
         rintro _ w4 ⟨rfl, rfl⟩)
      | (go_at_call 57
         refine (k2 _).mono ?_
         rintro _ w4 ⟨rfl, rfl⟩)
      | (go_at_call 58
         refine (k3 _).mono ?_
         rintro _ w4 ⟨rfl, rfl⟩)
      | (go_at_call 55
         refine k4.mono ?_
         rintro _ w4 ⟨rfl, rfl⟩)))
  all_goals
    go_wp2
    go_ret
    rw [HV.out]
    exact ⟨rfl, (FW.out _).grow⟩
end Go.Proofs.Ytbbadpidolfleaa
