/- The code's slab (layer 13): Take, Count. Written by gen_slazd.py. -/
import Derived.Test.YtlnbjpabcldmnaaSlaZC
import Derived.Test.YtlnbjpabcldmnaaSlaQ
namespace Go.Proofs.Ytlnbjpabcldmnaa
set_option linter.unusedVariables false
set_option linter.unusedSimpArgs false
open Go.ChangeShapes Go.WideShapes Go.ChangeAt Go.RowKit Go.PlainAid
attribute [local go_sem ↓] Go.wp_at_zero Go.wp_at_succ
theorem SlC.beside {S : Nat → Prop} {w w' : World} {p : Nat} {t : Sl} (h : SlC w p t) (hb : Beside S w w') (hn : ¬ S p) : SlC w' p t := h.keep hb.size (hb.block p h.bl hn)
set_option maxHeartbeats 4000000 in
set_option maxRecDepth 100000 in
theorem take13_ (p : Nat) (t : Sl) (w : World) (H : SlC w p t) :
    Calls Try.prog 10 #[.pointer (some ⟨p, 0, none⟩)] w fun e w' => e = .returned (.tuple #[.agg #[.int .i64 (takeS t : Int), .int .u32 (takeG t : Int)], .int .i64 (takeE t : Int)]) ∧ SlC w' p (slTake t) ∧ Beside (fun k => k = p) w w' := by
  have hpw : ¬ p = w.heap.size := by have := H.bl; omega
  have hpw' : ¬ w.heap.size = p := fun e => hpw e.symm
  go_enter Try.func10, Try.ntmps10
  go_upto_region 1 with fail
  have B1 : Below w.heap.size w (w.alloc (.cells #[.int .i64 0, .int .u32 0] 34)) := (Below.refl _ _).alloc (Nat.le_refl _) _
  have R1 := Two.make w (.int .i64 0) (.int .u32 0) 34
  have f0 : ∀ i, (w.alloc (.cells #[.int .i64 0, .int .u32 0] 34)).frozen? ⟨w.heap.size, i, none⟩ = false := fun i => by simp [go_sem]
  obtain ⟨w1, hw1⟩ : ∃ w1, w1 = w.alloc (.cells #[.int .i64 0, .int .u32 0] 34) := ⟨_, rfl⟩
  rw [← hw1] at B1 R1 f0 ⊢
  clear hw1
  have H1 := H.on B1
  have cn := none13_ p t w1 H1
  clear H
  go_wp2_with fail
  refine cn.mono ?_; rintro e w2 ⟨rfl, rfl⟩
  clear cn
  have cu := used13_ p t w1 H1
  go_wp2_with fail
  refine cu.mono ?_; rintro e w2 ⟨rfl, hw2⟩
  have bd : Below w1.heap.size w1 w1.drew := (Below.refl _ _).drew
  rw [hw2] at bd
  clear hw2 cu
  have H2 := H1.on bd
  have R2 := R1.on bd
  have B2 := B1.trans (bd.mono B1.size)
  have f2 : ∀ i, w2.frozen? ⟨w.heap.size, i, none⟩ = false := fun i => (bd.frozen (p := ⟨w.heap.size, i, none⟩) R1.lt).trans (f0 i)
  clear H1 R1 B1 f0 bd
  have hpz := H2.bl
  have hwz := R2.lt
  have L3 := Lib.hid H2.ok.1
  have HH := Lib.hid H2
  have HR := Lib.hid R2
  have BB := Lib.hid B2
  have FF := Lib.hid f2
  clear H2 R2 B2 f2
  go_wp2_with fail
  go_loopw [12] (fun si wr => ∃ i : Nat, i ≤ t.length ∧ si = .int .i64 (i : Int) ∧ (∀ m, m < i → slS t m ≠ 0) ∧ Below w2.heap.size w2 wr) (fun si _ => t.length - (intOf si).toNat)
  case atStart => exact ⟨0, Nat.zero_le _, rfl, fun m hm => absurd hm (Nat.not_lt_zero _), Below.refl _ _⟩
  case round =>
    obtain ⟨k, hk, rfl, hm, br⟩ := hrel
    have HM := Lib.hid hm
    clear hm
    have h256 := L3.out
    have ew : wrap64 ((k : Int) + 1) = (k : Int) + 1 := step_64 (by omega)
    have HC := HH.out.on br
    have hpr : p < wr.heap.size := HC.bl
    have hsr : ¬ p = wr.heap.size := by omega
    have hsr' : ¬ wr.heap.size = p := fun e => hsr e.symm
    have hqr : ¬ w.heap.size = wr.heap.size := by have := br.size; omega
    have hqr' : ¬ wr.heap.size = w.heap.size := fun e => hqr e.symm
    by_cases hlt : k < t.length
    · obtain ⟨x1, x2⟩ := HC.cs k hlt
      have i0 : (0 : Int) ≤ (k : Int) := by omega
      have i1 : (k : Int) < (t.length : Int) := by omega
      have t1 : decide ((k : Int) < (t.length : Int)) = true := by simp; omega
      have j1 : (k : Int) < 256 := by omega
      have j2 : k < 256 := by omega
      have b3 : Below wr.heap.size wr (wr.alloc (.cells #[.int .i64 ((slS t k : Nat) : Int), .int .u32 ((slG t k : Nat) : Int)] 48)) := (Below.refl _ _).alloc (Nat.le_refl _) _
      have X3 := Two.make wr (.int .i64 ((slS t k : Nat) : Int)) (.int .u32 ((slG t k : Nat) : Int)) 48
      have H3 := HC.on b3
      have B3 := br.trans (b3.mono br.size)
      by_cases hs : slS t k = 0
      · have hF := slFirst_hit hlt HM.out hs
        have HV : Hid (takeS t = k ∧ takeG t = slG t k ∧ takeE t = 0 ∧ slTake t = slPut t k 1 (slG t k)) := by show _ ∧ _; unfold takeS takeG takeE slTake; rw [hF]; exact ⟨rfl, rfl, rfl, rfl⟩
        have HG := (HC.ok.2 k).2
        have HL := Lib.hid hlt
        have hs0 : ((slS t k : Nat) : Int) = 0 := by rw [hs]; rfl
        rw [hs0] at x1 b3 X3 H3 B3
        clear HC hs hs0 hF b3
        generalize hgk : slG t k = G at *
        have GK := Lib.hid hgk
        clear hgk
        go_upto_region 6 with fail
        obtain ⟨w3, hw3⟩ : ∃ w3, w3 = wr.alloc (.cells #[.int .i64 0, .int .u32 (G : Int)] 48) := ⟨_, rfl⟩
        rw [← hw3] at X3 H3 B3 ⊢
        clear hw3
        obtain ⟨y1, y2⟩ := H3.fz k HL.out
        obtain ⟨z1, z2⟩ := H3.cs k HL.out
        have x30 := X3.c0
        have H4 := Lib.hid (H3.setS k 1 HL.out (by omega))
        rw [GK.out] at H4
        have hb : Beside (fun k => k = p) w3 (w3.setCell ⟨p, 1 + k * 2, none⟩ (.int .i64 ((1 : Nat) : Int))) := (Beside.refl (fun k => k = p) w3).setCell (p := ⟨p, 1 + k * 2, none⟩) rfl _
        have X4 := X3.by hb hsr'
        have R4 := (HR.out.on B3).by hb hpw'
        have f4 : ∀ i, (w3.setCell ⟨p, 1 + k * 2, none⟩ (.int .i64 ((1 : Nat) : Int))).frozen? ⟨w.heap.size, i, none⟩ = false := fun i => (hb.frozen (p := ⟨w.heap.size, i, none⟩) (HR.out.on B3).lt hpw').trans ((B3.frozen (p := ⟨w.heap.size, i, none⟩) hwz).trans (FF.out i))
        have hb4 := (Beside.of (S := fun k => k = p) (BB.out.trans (B3.mono BB.out.size))).trans hb
        go_upto_region 8 with fail
        obtain ⟨w4, hw4⟩ : ∃ w4, w4 = w3.setCell ⟨p, 1 + k * 2, none⟩ (.int .i64 ((1 : Nat) : Int)) := ⟨_, rfl⟩
        change Code.wp _ _ _ _ (w3.setCell ⟨p, 1 + k * 2, none⟩ (.int .i64 ((1 : Nat) : Int)))
        rw [← hw4] at H4 X4 R4 f4 hb4 ⊢
        clear hw4 hb x30 X3 H3 B3 y1 y2 z1 z2 x1 x2 HR FF BB HH L3 HM br
        obtain ⟨_, a0, a1⟩ := X4
        obtain ⟨_, c2, c3⟩ := R4
        go_wp2
        refine bodyPost_ret (v := .tuple #[.agg #[.int .i64 (k : Int), .int .u32 (G : Int)], .int .i64 0]) (by simp [results, Try.results10, go_sem, c2, c3]) rfl ?_
        rw [HV.out.1, HV.out.2.1, HV.out.2.2.1, HV.out.2.2.2]
        have hq : Beside (fun k => k = w.heap.size) w4 ((w4.setCell ⟨w.heap.size, 0, none⟩ (.int .i64 (k : Int))).setCell ⟨w.heap.size, 1, none⟩ (.int .u32 (G : Int))) := ((Beside.refl (fun k => k = w.heap.size) w4).setCell (p := ⟨w.heap.size, 0, none⟩) rfl _).setCell (p := ⟨w.heap.size, 1, none⟩) rfl _
        exact ⟨rfl, H4.out.beside hq hpw, hb4.seq hq (fun i hi e => absurd (show i = w.heap.size from e) (by omega))⟩
      · have e2 : (((slS t k : Nat) : Int) == 0) = false := beq_false_of_ne (by omega)
        have HS := Lib.hid hs
        clear hs HC H3 b3
        generalize slG t k = G at *
        generalize hsk : slS t k = s at *
        have HK := Lib.hid hsk
        clear hsk
        go_upto_region 6 with fail
        obtain ⟨w3, hw3⟩ : ∃ w3, w3 = wr.alloc (.cells #[.int .i64 (s : Int), .int .u32 (G : Int)] 48) := ⟨_, rfl⟩
        rw [← hw3] at X3 B3 ⊢
        clear hw3
        have x30 := X3.c0
        go_wp2
        go_roundw
        case rel => exact ⟨k + 1, hlt, by simp [ew], fun m hm => by
          by_cases e : m = k
          · subst e; rw [HK.out]; exact HS.out
          · exact HM.out m (by omega), B3⟩
        case measure => first | exact step_meas ew (step_less hlt) | exact step_less hlt
    · obtain rfl : k = t.length := Nat.le_antisymm hk (Nat.le_of_not_lt hlt)
      have hF := slFirst_no HM.out
      have HV : Hid (takeS t = 0 ∧ takeG t = 0 ∧ takeE t = 8 ∧ slTake t = t) := by show _ ∧ _; unfold takeS takeG takeE slTake; rw [hF]; exact ⟨rfl, rfl, rfl, rfl⟩
      have t1 : decide ((t.length : Int) < (t.length : Int)) = false := by simp
      have R4 := HR.out.on br
      have f4 : ∀ i, wr.frozen? ⟨w.heap.size, i, none⟩ = false := fun i => (br.frozen (p := ⟨w.heap.size, i, none⟩) hwz).trans (FF.out i)
      have b4 := BB.out.trans (br.mono BB.out.size)
      obtain ⟨_, c2, c3⟩ := R4
      clear hF hlt
      go_wp2
      refine bodyPost_ret (v := .tuple #[.agg #[.int .i64 0, .int .u32 0], .int .i64 8]) (by simp [results, Try.results10, go_sem, c2, c3]) rfl ?_
      rw [HV.out.1, HV.out.2.1, HV.out.2.2.1, HV.out.2.2.2]
      have hq : Beside (fun k => k = w.heap.size) wr ((wr.setCell ⟨w.heap.size, 0, none⟩ (.int .i64 0)).setCell ⟨w.heap.size, 1, none⟩ (.int .u32 0)) := ((Beside.refl (fun k => k = w.heap.size) wr).setCell (p := ⟨w.heap.size, 0, none⟩) rfl _).setCell (p := ⟨w.heap.size, 1, none⟩) rfl _
      exact ⟨rfl, HC.beside hq hpw, (Beside.of (S := fun k => k = p) b4).seq hq (fun i hi e => absurd (show i = w.heap.size from e) (by omega))⟩
set_option maxHeartbeats 1000000 in
set_option maxRecDepth 100000 in
theorem takeN13_ (v : Value) (w : World) (H : NoC w v) :
    Calls Try.prog 10 #[v] w fun e w' => e = .returned (.tuple #[.agg #[.int .i64 0, .int .u32 0], .int .i64 1]) ∧ Below w.heap.size w w' := by
  go_enter Try.func10, Try.ntmps10
  go_upto_region 1 with fail
  have B1 : Below w.heap.size w (w.alloc (.cells #[.int .i64 0, .int .u32 0] 34)) := (Below.refl _ _).alloc (Nat.le_refl _) _
  have R1 := Two.make w (.int .i64 0) (.int .u32 0) 34
  have f0 : ∀ i, (w.alloc (.cells #[.int .i64 0, .int .u32 0] 34)).frozen? ⟨w.heap.size, i, none⟩ = false := fun i => by simp [go_sem]
  obtain ⟨w1, hw1⟩ : ∃ w1, w1 = w.alloc (.cells #[.int .i64 0, .int .u32 0] 34) := ⟨_, rfl⟩
  rw [← hw1] at B1 R1 f0 ⊢
  clear hw1
  have cn := noneN13_ v w1 (H.on B1)
  clear H
  go_wp2_with fail
  refine cn.mono ?_; rintro e w2 ⟨rfl, rfl⟩
  clear cn
  obtain ⟨_, c2, c3⟩ := R1
  go_wp2
  refine bodyPost_ret (v := .tuple #[.agg #[.int .i64 0, .int .u32 0], .int .i64 1]) (by simp [results, Try.results10, go_sem, c2, c3]) rfl ?_
  exact ⟨rfl, (B1.setCell (p := ⟨w.heap.size, 0, none⟩) (Nat.le_refl _) _).setCell (p := ⟨w.heap.size, 1, none⟩) (Nat.le_refl _) _⟩
set_option maxHeartbeats 4000000 in
set_option maxRecDepth 100000 in
theorem count13_ (p : Nat) (t : Sl) (w : World) (H : SlC w p t) :
    Calls Try.prog 18 #[.pointer (some ⟨p, 0, none⟩)] w fun e w' => e = .returned (.tuple #[.int .i64 (cnt t 0 : Int), .int .i64 (cnt t 1 : Int), .int .i64 (cnt t 2 : Int)]) ∧ Below w.heap.size w w' := by
  have cu := used13_ p t w H
  go_enter Try.func18, Try.ntmps18
  go_wp2_with fail
  refine cu.mono ?_; rintro e w2 ⟨rfl, hw2⟩
  have B2 : Below w.heap.size w w.drew := (Below.refl _ _).drew
  rw [hw2] at B2
  clear hw2 cu
  have HH := Lib.hid (H.on B2)
  have BB := Lib.hid B2
  have L3 := Lib.hid H.ok.1
  clear H B2
  go_wp2_with fail
  go_loopw [2, 3, 4, 10] (fun a b c si wr => ∃ i : Nat, i ≤ t.length ∧ si = .int .i64 (i : Int) ∧ a = .int .i64 (cntTo t 0 i : Int) ∧ b = .int .i64 (cntTo t 1 i : Int) ∧ c = .int .i64 (cntTo t 2 i : Int) ∧ Below w2.heap.size w2 wr) (fun _ _ _ si _ => t.length - (intOf si).toNat)
  case atStart => exact ⟨0, Nat.zero_le _, rfl, rfl, rfl, rfl, Below.refl _ _⟩
  case round =>
    obtain ⟨k, hk, rfl, rfl, rfl, rfl, br⟩ := hrel
    have h256 := L3.out
    have n0 := cntTo_le t 0 k
    have n1 := cntTo_le t 1 k
    have n2 := cntTo_le t 2 k
    have ew : wrap64 ((k : Int) + 1) = (k : Int) + 1 := step_64 (by omega)
    by_cases hlt : k < t.length
    · have HC := HH.out.on br
      obtain ⟨x1, x2⟩ := HC.cs k hlt
      have i0 : (0 : Int) ≤ (k : Int) := by omega
      have i1 : (k : Int) < (t.length : Int) := by omega
      have t1 : decide ((k : Int) < (t.length : Int)) = true := by simp; omega
      have b3 : Below wr.heap.size wr (wr.alloc (.cells #[.int .i64 ((slS t k : Nat) : Int), .int .u32 ((slG t k : Nat) : Int)] 48)) := (Below.refl _ _).alloc (Nat.le_refl _) _
      have X3 := Two.make wr (.int .i64 ((slS t k : Nat) : Int)) (.int .u32 ((slG t k : Nat) : Int)) 48
      have B3 := br.trans (b3.mono br.size)
      have m0 := cntTo_step t 0 k
      have m1 := cntTo_step t 1 k
      have m2 := cntTo_step t 2 k
      have hs : slS t k = 0 ∨ slS t k = 1 ∨ slS t k = 2 := by have := (HC.ok.2 k).1; omega
      clear b3 HC
      generalize slG t k = G at *
      rcases hs with hs | hs | hs
      · rw [hs] at m0 m1 m2
        rw [if_pos rfl] at m0
        rw [if_neg (by omega)] at m1
        rw [if_neg (by omega)] at m2
        have hs0 : ((slS t k : Nat) : Int) = 0 := by rw [hs]; rfl
        rw [hs0] at x1 X3 B3
        have MM := Lib.hid (And.intro m0 (And.intro m1 m2))
        clear m0 m1 m2 hs hs0
        generalize cntTo t 0 k = a0 at *
        generalize cntTo t 1 k = a1 at *
        generalize cntTo t 2 k = a2 at *
        have e1 : wrap64 ((a0 : Int) + 1) = (a0 : Int) + 1 := step_64 (by omega)
        go_upto_region 4 with fail
        obtain ⟨w3, hw3⟩ : ∃ w3, w3 = wr.alloc (.cells #[.int .i64 0, .int .u32 (G : Int)] 48) := ⟨_, rfl⟩
        rw [← hw3] at X3 B3 ⊢
        clear hw3
        have x30 := X3.c0
        go_wp2
        go_roundw
        case rel => exact ⟨k + 1, hlt, by simp [ew], by rw [MM.out.1]; rfl, by rw [MM.out.2.1]; rfl, by rw [MM.out.2.2]; rfl, B3⟩
        case measure => first | exact step_meas ew (step_less hlt) | exact step_less hlt
      · rw [hs] at m0 m1 m2
        rw [if_neg (by omega)] at m0
        rw [if_pos rfl] at m1
        rw [if_neg (by omega)] at m2
        have hs0 : ((slS t k : Nat) : Int) = 1 := by rw [hs]; rfl
        rw [hs0] at x1 X3 B3
        have MM := Lib.hid (And.intro m0 (And.intro m1 m2))
        clear m0 m1 m2 hs hs0
        generalize cntTo t 0 k = a0 at *
        generalize cntTo t 1 k = a1 at *
        generalize cntTo t 2 k = a2 at *
        have e1 : wrap64 ((a1 : Int) + 1) = (a1 : Int) + 1 := step_64 (by omega)
        go_upto_region 4 with fail
        obtain ⟨w3, hw3⟩ : ∃ w3, w3 = wr.alloc (.cells #[.int .i64 1, .int .u32 (G : Int)] 48) := ⟨_, rfl⟩
        rw [← hw3] at X3 B3 ⊢
        clear hw3
        have x30 := X3.c0
        go_wp2
        go_roundw
        case rel => exact ⟨k + 1, hlt, by simp [ew], by rw [MM.out.1]; rfl, by rw [MM.out.2.1]; rfl, by rw [MM.out.2.2]; rfl, B3⟩
        case measure => first | exact step_meas ew (step_less hlt) | exact step_less hlt
      · rw [hs] at m0 m1 m2
        rw [if_neg (by omega)] at m0
        rw [if_neg (by omega)] at m1
        rw [if_pos rfl] at m2
        have hs0 : ((slS t k : Nat) : Int) = 2 := by rw [hs]; rfl
        rw [hs0] at x1 X3 B3
        have MM := Lib.hid (And.intro m0 (And.intro m1 m2))
        clear m0 m1 m2 hs hs0
        generalize cntTo t 0 k = a0 at *
        generalize cntTo t 1 k = a1 at *
        generalize cntTo t 2 k = a2 at *
        have e1 : wrap64 ((a2 : Int) + 1) = (a2 : Int) + 1 := step_64 (by omega)
        go_upto_region 4 with fail
        obtain ⟨w3, hw3⟩ : ∃ w3, w3 = wr.alloc (.cells #[.int .i64 2, .int .u32 (G : Int)] 48) := ⟨_, rfl⟩
        rw [← hw3] at X3 B3 ⊢
        clear hw3
        have x30 := X3.c0
        go_wp2
        go_roundw
        case rel => exact ⟨k + 1, hlt, by simp [ew], by rw [MM.out.1]; rfl, by rw [MM.out.2.1]; rfl, by rw [MM.out.2.2]; rfl, B3⟩
        case measure => first | exact step_meas ew (step_less hlt) | exact step_less hlt
    · obtain rfl : k = t.length := Nat.le_antisymm hk (Nat.le_of_not_lt hlt)
      have t1 : decide ((t.length : Int) < (t.length : Int)) = false := by simp
      clear hlt n0 n1 n2
      go_wp2
      refine bodyPost_ret (v := .tuple #[.int .i64 (cnt t 0 : Int), .int .i64 (cnt t 1 : Int), .int .i64 (cnt t 2 : Int)]) (by simp [results, Try.results18, go_sem, cnt]) rfl ?_
      exact ⟨rfl, BB.out.trans (br.mono BB.out.size)⟩
set_option maxHeartbeats 1000000 in
set_option maxRecDepth 100000 in
theorem countN13_ (v : Value) (w : World) (H : NoC w v) :
    Calls Try.prog 18 #[v] w fun e w' => e = .returned (.tuple #[.int .i64 0, .int .i64 0, .int .i64 0]) ∧ Below w.heap.size w w' := by
  have cu := usedN13_ v w H
  clear H
  go_enter Try.func18, Try.ntmps18
  go_wp2_with fail
  refine cu.mono ?_; rintro e w2 ⟨rfl, rfl⟩
  go_wp2_with fail
  go_loopw [2, 3, 4, 10] (fun a b c si wr => si = .int .i64 0 ∧ a = .int .i64 0 ∧ b = .int .i64 0 ∧ c = .int .i64 0 ∧ wr = w) (fun _ _ _ _ _ => 0)
  case atStart => exact ⟨rfl, rfl, rfl, rfl, rfl⟩
  case round =>
    obtain ⟨rfl, rfl, rfl, rfl, rfl⟩ := hrel
    go_wp2
    refine bodyPost_ret (v := .tuple #[.int .i64 0, .int .i64 0, .int .i64 0]) (by simp [results, Try.results18, go_sem]) rfl ?_
    exact ⟨rfl, Below.refl _ _⟩
end Go.Proofs.Ytlnbjpabcldmnaa
