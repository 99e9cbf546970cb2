/- The document's slab (layer 13): Take, Count. -/
import Derived.Test.YtlnbjpabcldmnaaSlaB
namespace Go.Proofs.Ytlnbjpabcldmnaa
set_option linter.unusedVariables false
set_option linter.unusedSimpArgs false
open Go.ChangeShapes Go.WideShapes Go.ChangeAt Go.RowKit Go.PlainAid
attribute [local go_sem ↓] Go.wp_at_zero Go.wp_at_succ
theorem i64_len {n : Nat} (h : n ≤ 256) : IntKind.i64.wrap (n : Int) = (n : Int) := IntWalk.i64_in _ (by omega)
set_option maxHeartbeats 4000000 in
set_option maxRecDepth 100000 in
theorem rtake13_ (p b c : Nat) (t : Sl) (w : World) (H : SlD w p b c t) :
    Calls Try.prog 11 #[.pointer (some ⟨p, 0, none⟩)] w fun e w' => e = .returned (.tuple #[.agg #[.int .i64 (takeS t : Int), .int .u32 (takeG t : Int)], .int .i64 (takeE t : Int)]) ∧ SlD w' p b c (slTake t) ∧ Beside (fun k => k = b) w w' := by
  have hpb := H.ne
  have hpb' : ¬ b = p := fun e => hpb e.symm
  have hbw : ¬ b = w.heap.size := by have := H.row.bl; omega
  have hbw' : ¬ w.heap.size = b := fun e => hbw e.symm
  have hpw : ¬ p = w.heap.size := by have := H.pl; omega
  have hpw' : ¬ w.heap.size = p := fun e => hpw e.symm
  go_enter Try.func11, Try.ntmps11
  go_upto_region 2 with fail
  have B1 : Below w.heap.size w (w.alloc (.cells #[.int .i64 0, .int .u32 0] 34)) := (Below.refl _ _).alloc (Nat.le_refl _) _
  have c0 : (w.alloc (.cells #[.int .i64 0, .int .u32 0] 34)).cell? ⟨w.heap.size, 0, none⟩ = some (.int .i64 0) := by simp [go_sem]
  have c1 : (w.alloc (.cells #[.int .i64 0, .int .u32 0] 34)).cell? ⟨w.heap.size, 1, none⟩ = some (.int .u32 0) := by simp [go_sem]
  have f0 : ∀ i, (w.alloc (.cells #[.int .i64 0, .int .u32 0] 34)).frozen? ⟨w.heap.size, i, none⟩ = false := fun i => by simp [go_sem]
  have z1 : w.heap.size < (w.alloc (.cells #[.int .i64 0, .int .u32 0] 34)).heap.size := by simp
  obtain ⟨w1, hw1⟩ : ∃ w1, w1 = w.alloc (.cells #[.int .i64 0, .int .u32 0] 34) := ⟨_, rfl⟩
  rw [← hw1] at B1 c0 c1 f0 z1 ⊢
  clear hw1
  have H1 := H.on B1
  clear H
  have hd := H1.head
  have HH := Lib.hid H1
  clear H1
  go_loop [4] (fun si => ∃ i : Nat, i ≤ t.length ∧ si = .int .i64 (i : Int) ∧ ∀ m, m < i → slS t m ≠ 0) (fun si => t.length - (intOf si).toNat)
  case atStart => exact ⟨0, Nat.zero_le _, rfl, fun m hm => absurd hm (Nat.not_lt_zero _)⟩
  case round =>
    obtain ⟨k, hk, rfl, hm⟩ := hrel
    have HM := Lib.hid hm
    clear hm
    have h256 := HH.out.ok.1
    have ew : wrap64 ((k : Int) + 1) = (k : Int) + 1 := by simp [wrap64]; omega
    by_cases hlt : k < t.length
    · obtain ⟨x1, x2⟩ := HH.out.row.cs k hlt
      obtain ⟨y1, y2⟩ := HH.out.row.fz k hlt
      have i1 : (k : Int) < (t.length : Int) := by omega
      have t1 : decide ((k : Int) < (t.length : Int)) = true := by simp; omega
      by_cases hs : slS t k = 0
      · have hF := slFirst_hit hlt HM.out hs
        have HV : Hid (takeS t = k ∧ takeG t = slG t k ∧ takeE t = 0 ∧ slTake t = slPut t k 1 (slG t k)) := by show _ ∧ _; unfold takeS takeG takeE slTake; rw [hF]; exact ⟨rfl, rfl, rfl, rfl⟩
        rw [hs] at x1
        clear hF hs
        have HR := Lib.hid (HH.out.row.setS k 1 hlt)
        have hb : Beside (fun k => k = b) w1 (w1.setCell ⟨b, k * 2, none⟩ (.int .i64 1)) := (Beside.refl (fun k => k = b) w1).setCell (p := ⟨b, k * 2, none⟩) rfl _
        have HG := (HH.out.ok.2 k).2
        have HS := Lib.hid (HH.out.put (i := k) hlt (by omega) HG hb HR.out)
        generalize slG t k = G at *
        go_upto_region 6 with fail
        have hd2 : (w1.setCell ⟨b, k * 2, none⟩ (.int .i64 1)).cell? ⟨p, 0, none⟩ = some (.slice (some ⟨b, 0, none⟩) t.length c) := (hb.cell (p := ⟨p, 0, none⟩) HH.out.pl HH.out.ne).trans hd
        have x3 : (w1.setCell ⟨b, k * 2, none⟩ (.int .i64 1)).cell? ⟨b, k * 2 + 1, none⟩ = some (.int .u32 (G : Int)) := by rw [World.cell?_setCell_other _ _ _ _ (by intro he; injection he with h5 h6; omega)]; exact x2
        have c2 := (hb.cell (p := ⟨w.heap.size, 0, none⟩) z1 hbw').trans c0
        have c3 := (hb.cell (p := ⟨w.heap.size, 1, none⟩) z1 hbw').trans c1
        have f2 : ∀ i, (w1.setCell ⟨b, k * 2, none⟩ (.int .i64 1)).frozen? ⟨w.heap.size, i, none⟩ = false := fun i => (hb.frozen (p := ⟨w.heap.size, i, none⟩) z1 hbw').trans (f0 i)
        have z2 : w.heap.size < (w1.setCell ⟨b, k * 2, none⟩ (.int .i64 1)).heap.size := by simpa [World.setCell] using z1
        have hb2 : Beside (fun k => k = b) w (w1.setCell ⟨b, k * 2, none⟩ (.int .i64 1)) := (Beside.of B1).trans hb
        obtain ⟨w2, hw2⟩ : ∃ w2, w2 = w1.setCell ⟨b, k * 2, none⟩ (.int .i64 1) := ⟨_, rfl⟩
        rw [← hw2] at hd2 x3 c2 c3 f2 z2 HS hb2 ⊢
        clear hw2 hb HR c0 c1 f0 hd HH x1 x2 y1 y2
        go_wp2
        refine bodyPost_ret (v := .tuple #[.agg #[.int .i64 (k : Int), .int .u32 (G : Int)], .int .i64 0]) (by simp [results, Try.results11, go_sem, c2, c3]) rfl ?_
        rw [HV.out.1, HV.out.2.1, HV.out.2.2.1, HV.out.2.2.2]
        have hq : Beside (fun k => k = w.heap.size) w2 ((w2.setCell ⟨w.heap.size, 0, none⟩ (.int .i64 (k : Int))).setCell ⟨w.heap.size, 1, none⟩ (.int .u32 (G : Int))) := ((Beside.refl (fun k => k = w.heap.size) w2).setCell (p := ⟨w.heap.size, 0, none⟩) rfl _).setCell (p := ⟨w.heap.size, 1, none⟩) rfl _
        exact ⟨rfl, HS.out.beside hq hpw hbw, hb2.seq hq (fun i hi e => absurd (show i = w.heap.size from e) (by omega))⟩
      · have e1 : (slS t k == 0) = false := by simpa using hs
        have e2 : (((slS t k : Nat) : Int) == 0) = false := by simp; omega
        have HS := Lib.hid hs
        clear hs
        generalize hsk : slS t k = s at *
        have HK := Lib.hid hsk
        clear hsk
        go_wp2
        go_round
        case rel => exact ⟨k + 1, by omega, by simp, fun m hm => by
          by_cases e : m = k
          · subst e; rw [HK.out]; exact HS.out
          · exact HM.out m (by omega)⟩
        case measure => simp [intOf]; omega
    · obtain rfl : k = t.length := by omega
      have hF := slFirst_no HM.out
      have HV : Hid (takeS t = 0 ∧ takeG t = 0 ∧ takeE t = 8 ∧ slTake t = t) := by show _ ∧ _; unfold takeS takeG takeE slTake; rw [hF]; exact ⟨rfl, rfl, rfl, rfl⟩
      have t1 : decide ((t.length : Int) < (t.length : Int)) = false := by simp
      clear hF hlt
      go_wp2
      refine bodyPost_ret (v := .tuple #[.agg #[.int .i64 0, .int .u32 0], .int .i64 8]) (by simp [results, Try.results11, go_sem, c0, c1]) rfl ?_
      rw [HV.out.1, HV.out.2.1, HV.out.2.2.1, HV.out.2.2.2]
      have hq : Beside (fun k => k = w.heap.size) w1 ((w1.setCell ⟨w.heap.size, 0, none⟩ (.int .i64 0)).setCell ⟨w.heap.size, 1, none⟩ (.int .u32 0)) := ((Beside.refl (fun k => k = w.heap.size) w1).setCell (p := ⟨w.heap.size, 0, none⟩) rfl _).setCell (p := ⟨w.heap.size, 1, none⟩) rfl _
      exact ⟨rfl, HH.out.beside hq hpw hbw, (Beside.of (S := fun k => k = b) B1).seq hq (fun i hi e => absurd (show i = w.heap.size from e) (by omega))⟩
-- count
theorem cntTo_step (t : Sl) (s k : Nat) : cntTo t s (k + 1) = cntTo t s k + if slS t k = s then 1 else 0 := rfl
set_option maxHeartbeats 4000000 in
set_option maxRecDepth 100000 in
theorem rcount13_ (p b c : Nat) (t : Sl) (w : World) (H : SlD w p b c t) :
    Calls Try.prog 19 #[.pointer (some ⟨p, 0, none⟩)] w fun e w' => e = .returned (.tuple #[.int .i64 (cnt t 0 : Int), .int .i64 (cnt t 1 : Int), .int .i64 (cnt t 2 : Int)]) ∧ Below w.heap.size w w' := by
  have hbw : ¬ b = w.heap.size := by have := H.row.bl; omega
  have hbw' : ¬ w.heap.size = b := fun e => hbw e.symm
  have hpw : ¬ p = w.heap.size := by have := H.pl; omega
  have hpw' : ¬ w.heap.size = p := fun e => hpw e.symm
  go_enter Try.func19, Try.ntmps19
  go_upto_region 3 with fail
  have B1 : Below w.heap.size w (w.alloc (.cells #[.int .i64 0, .int .i64 0, .int .i64 0] 66)) := (Below.refl _ _).alloc (Nat.le_refl _) _
  have c0 : (w.alloc (.cells #[.int .i64 0, .int .i64 0, .int .i64 0] 66)).cell? ⟨w.heap.size, 0, none⟩ = some (.int .i64 0) := by simp [go_sem]
  have c1 : (w.alloc (.cells #[.int .i64 0, .int .i64 0, .int .i64 0] 66)).cell? ⟨w.heap.size, 1, none⟩ = some (.int .i64 0) := by simp [go_sem]
  have c2 : (w.alloc (.cells #[.int .i64 0, .int .i64 0, .int .i64 0] 66)).cell? ⟨w.heap.size, 2, none⟩ = some (.int .i64 0) := by simp [go_sem]
  have f0 : ∀ i, (w.alloc (.cells #[.int .i64 0, .int .i64 0, .int .i64 0] 66)).frozen? ⟨w.heap.size, i, none⟩ = false := fun i => by simp [go_sem]
  have z1 : w.heap.size < (w.alloc (.cells #[.int .i64 0, .int .i64 0, .int .i64 0] 66)).heap.size := by simp
  obtain ⟨w1, hw1⟩ : ∃ w1, w1 = w.alloc (.cells #[.int .i64 0, .int .i64 0, .int .i64 0] 66) := ⟨_, rfl⟩
  rw [← hw1] at B1 c0 c1 c2 f0 z1 ⊢
  clear hw1
  have HH := Lib.hid (H.on B1)
  clear H
  go_loopw [6] (fun si wr => ∃ i : Nat, i ≤ t.length ∧ si = .int .i64 (i : Int) ∧ wr.cell? ⟨w.heap.size, 0, none⟩ = some (.int .i64 (cntTo t 0 i : Int)) ∧ wr.cell? ⟨w.heap.size, 1, none⟩ = some (.int .i64 (cntTo t 1 i : Int)) ∧ wr.cell? ⟨w.heap.size, 2, none⟩ = some (.int .i64 (cntTo t 2 i : Int)) ∧ Beside (fun k => k = w.heap.size) w1 wr ∧ (∀ j, wr.frozen? ⟨w.heap.size, j, none⟩ = false)) (fun si _ => t.length - (intOf si).toNat)
  case atStart => exact ⟨0, Nat.zero_le _, rfl, c0, c1, c2, Beside.refl _ _, f0⟩
  case round =>
    obtain ⟨k, hk, rfl, c0, c1, c2, hB, fz⟩ := hrel
    have H2 := HH.out.beside hB hpw hbw
    have h256 := H2.ok.1
    have hd := H2.head
    have n0 := cntTo_le t 0 k
    have n1 := cntTo_le t 1 k
    have n2 := cntTo_le t 2 k
    by_cases hlt : k < t.length
    · obtain ⟨x1, x2⟩ := H2.row.cs k hlt
      have i1 : (k : Int) < (t.length : Int) := by omega
      have t1 : decide ((k : Int) < (t.length : Int)) = true := by simp; omega
      have ew : wrap64 ((k : Int) + 1) = (k : Int) + 1 := IntWalk.wrap64_in _ (by omega)
      have m0 := cntTo_step t 0 k
      have m1 := cntTo_step t 1 k
      have m2 := cntTo_step t 2 k
      have hs : slS t k = 0 ∨ slS t k = 1 ∨ slS t k = 2 := by have := (H2.ok.2 k).1; omega
      have f0 := fz 0
      have f1 := fz 1
      have f2 := fz 2
      have FZ := Lib.hid fz
      have HB := Lib.hid hB
      clear H2 fz hB
      have hz : w.heap.size < wr.heap.size := Nat.lt_of_lt_of_le z1 HB.out.size
      rcases hs with hs | hs | hs
      · rw [hs] at x1 m0 m1 m2
        rw [if_pos rfl] at m0
        rw [if_neg (by omega)] at m1
        rw [if_neg (by omega)] at m2
        have MM := Lib.hid (And.intro m0 (And.intro m1 m2))
        clear m0 m1 m2 hs
        generalize cntTo t 0 k = a0 at *
        generalize cntTo t 1 k = a1 at *
        generalize cntTo t 2 k = a2 at *
        have e1 : wrap64 ((a0 : Int) + 1) = (a0 : Int) + 1 := IntWalk.wrap64_in _ (by omega)
        go_wp2
        have CX := c0
        go_roundw
        case rel => exact ⟨k + 1, by omega, by simp, by rw [MM.out.1]; exact World.cell?_setCell_same' _ _ _ (by rw [CX]; rfl), by rw [MM.out.2.1, World.cell?_setCell_other _ _ _ _ (by intro he; injection he with h5 h6; omega)]; exact c1, by rw [MM.out.2.2, World.cell?_setCell_other _ _ _ _ (by intro he; injection he with h5 h6; omega)]; exact c2, HB.out.setCell (p := ⟨w.heap.size, 0, none⟩) rfl _, fun j => by rw [World.frozen?_setCell]; exact FZ.out j⟩
        case measure => simp [intOf]; omega
      · rw [hs] at x1 m0 m1 m2
        rw [if_neg (by omega)] at m0
        rw [if_pos rfl] at m1
        rw [if_neg (by omega)] at m2
        have MM := Lib.hid (And.intro m0 (And.intro m1 m2))
        clear m0 m1 m2 hs
        generalize cntTo t 0 k = a0 at *
        generalize cntTo t 1 k = a1 at *
        generalize cntTo t 2 k = a2 at *
        have e1 : wrap64 ((a1 : Int) + 1) = (a1 : Int) + 1 := IntWalk.wrap64_in _ (by omega)
        go_wp2
        have CX := c1
        go_roundw
        case rel => exact ⟨k + 1, by omega, by simp, by rw [MM.out.1, World.cell?_setCell_other _ _ _ _ (by intro he; injection he with h5 h6; omega)]; exact c0, by rw [MM.out.2.1]; exact World.cell?_setCell_same' _ _ _ (by rw [CX]; rfl), by rw [MM.out.2.2, World.cell?_setCell_other _ _ _ _ (by intro he; injection he with h5 h6; omega)]; exact c2, HB.out.setCell (p := ⟨w.heap.size, 1, none⟩) rfl _, fun j => by rw [World.frozen?_setCell]; exact FZ.out j⟩
        case measure => simp [intOf]; omega
      · rw [hs] at x1 m0 m1 m2
        rw [if_neg (by omega)] at m0
        rw [if_neg (by omega)] at m1
        rw [if_pos rfl] at m2
        have MM := Lib.hid (And.intro m0 (And.intro m1 m2))
        clear m0 m1 m2 hs
        generalize cntTo t 0 k = a0 at *
        generalize cntTo t 1 k = a1 at *
        generalize cntTo t 2 k = a2 at *
        have e1 : wrap64 ((a2 : Int) + 1) = (a2 : Int) + 1 := IntWalk.wrap64_in _ (by omega)
        go_wp2
        have CX := c2
        go_roundw
        case rel => exact ⟨k + 1, by omega, by simp, by rw [MM.out.1, World.cell?_setCell_other _ _ _ _ (by intro he; injection he with h5 h6; omega)]; exact c0, by rw [MM.out.2.1, World.cell?_setCell_other _ _ _ _ (by intro he; injection he with h5 h6; omega)]; exact c1, by rw [MM.out.2.2]; exact World.cell?_setCell_same' _ _ _ (by rw [CX]; rfl), HB.out.setCell (p := ⟨w.heap.size, 2, none⟩) rfl _, fun j => by rw [World.frozen?_setCell]; exact FZ.out j⟩
        case measure => simp [intOf]; omega
    · obtain rfl : k = t.length := by omega
      have t1 : decide ((t.length : Int) < (t.length : Int)) = false := by simp
      have HB := Lib.hid hB
      have HV : Hid (cntTo t 0 t.length = cnt t 0 ∧ cntTo t 1 t.length = cnt t 1 ∧ cntTo t 2 t.length = cnt t 2) := ⟨rfl, rfl, rfl⟩
      rw [HV.out.1] at c0
      rw [HV.out.2.1] at c1
      rw [HV.out.2.2] at c2
      clear H2 hB n0 n1 n2 HV
      go_upto_region 6 with fail
      go_region
      go_wp2
      refine bodyPost_ret (v := .tuple #[.int .i64 (cnt t 0 : Int), .int .i64 (cnt t 1 : Int), .int .i64 (cnt t 2 : Int)]) (by simp [results, Try.results19, go_sem]) rfl ?_
      exact ⟨rfl, (Beside.after B1 (Nat.le_of_lt z1) HB.out (fun k _ e => Nat.le_of_eq (show w.heap.size = k from (show k = w.heap.size from e).symm))).drew⟩
end Go.Proofs.Ytlnbjpabcldmnaa
