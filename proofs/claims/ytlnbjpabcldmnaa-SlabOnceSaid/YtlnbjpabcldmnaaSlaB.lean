/- The document's slab (layer 13): Give, Retire. Written by gen_slab.py. -/
import Derived.Test.YtlnbjpabcldmnaaSlaA
namespace Go.Proofs.Ytlnbjpabcldmnaa
set_option linter.unusedVariables false
set_option linter.unusedSimpArgs false
open Go.ChangeShapes Go.WideShapes Go.ChangeAt Go.RowKit Go.PlainAid
attribute [local go_sem ↓] Go.wp_at_zero Go.wp_at_succ
set_option maxHeartbeats 2000000 in
set_option maxRecDepth 100000 in
theorem rgive13_ (p b c : Nat) (t : Sl) (i : Int) (g : Nat) (w : World) (H : SlD w p b c t) (hg : g < 4294967296) :
    Calls Try.prog 13 #[.pointer (some ⟨p, 0, none⟩), .agg #[.int .i64 i, .int .u32 (g : Int)]] w fun e w' => e = .returned (.int .i64 (endE t i g : Int)) ∧ SlD w' p b c (endT t i g 0) ∧ Beside (fun k => k = b) w w' := by
  have B1 : Below w.heap.size w (w.alloc (.cells #[.int .i64 i, .int .u32 (g : Int)] 34)) := (Below.refl _ _).alloc (Nat.le_refl _) _
  have H1 := H.on B1
  have h0 : (w.alloc (.cells #[.int .i64 i, .int .u32 (g : Int)] 34)).cell? ⟨w.heap.size, 0, none⟩ = some (.int .i64 i) := by simp [go_sem]
  have g0 : (w.alloc (.cells #[.int .i64 i, .int .u32 (g : Int)] 34)).cell? ⟨w.heap.size, 1, none⟩ = some (.int .u32 (g : Int)) := by simp [go_sem]
  have z0 : w.heap.size < (w.alloc (.cells #[.int .i64 i, .int .u32 (g : Int)] 34)).heap.size := by simp
  have hbz := H.row.bl
  go_enter Try.func13, Try.ntmps13
  go_upto_region 1 with fail
  obtain ⟨w1, hw1⟩ : ∃ w1, w1 = w.alloc (.cells #[.int .i64 i, .int .u32 (g : Int)] 34) := ⟨_, rfl⟩
  rw [← hw1] at B1 H1 h0 g0 z0 ⊢
  clear hw1 H
  have cl := rlive13_ p b c t i g w1 H1
  by_cases hl : liveV t i g = true
  · obtain ⟨i0, i1, i2, i3⟩ := liveV_in hl
    have HV : Hid (endE t i g = 0 ∧ endT t i g 0 = slPut t i.toNat 0 ((g + 1) % 4294967296)) := by show _ ∧ _; unfold endE endT; rw [if_pos hl, if_pos hl]; exact ⟨rfl, rfl⟩
    rw [hl] at cl
    obtain ⟨k, rfl⟩ := Int.eq_ofNat_of_zero_le i0
    clear i2 i3 hl
    have i2 : k < t.length := by omega
    go_wp2_with fail
    refine cl.mono ?_; rintro e w2 ⟨rfl, b2⟩
    have H2 := H1.on b2
    have B2 := B1.trans (b2.mono B1.size)
    have h2 := (b2.cell (p := ⟨w.heap.size, 0, none⟩) z0).trans h0
    have g2 := (b2.cell (p := ⟨w.heap.size, 1, none⟩) z0).trans g0
    clear b2 B1 H1 h0 g0 cl z0
    have hd := H2.head
    obtain ⟨x1, x2⟩ := H2.row.cs k i2
    obtain ⟨f1, f2⟩ := H2.row.fz k i2
    have e1 : IntKind.u32.wrap ((g : Int) + 1) = (((g + 1) % 4294967296 : Nat) : Int) := by rw [IntKind.wrap_u32]; omega
    have e2 : ((g : Int) + 1) % 4294967296 = (((g + 1) % 4294967296 : Nat) : Int) := by omega
    have hG : (g + 1) % 4294967296 < 4294967296 := Nat.mod_lt _ (by omega)
    generalize (g + 1) % 4294967296 = G at *
    have i0' : (0 : Int) ≤ (k : Int) := by omega
    have i1' : (k : Int) < (t.length : Int) := by omega
    have HR := Lib.hid (H2.row.set k 0 G i2)
    have HH := Lib.hid H2
    have BB := Lib.hid B2
    clear H2 B2 hg
    go_upto_region 3 with fail
    go_region
    go_wp2
    go_ret
    rw [HV.out.1, HV.out.2]
    have hb : Beside (fun k => k = b) w2 ((w2.setCell ⟨b, k * 2, none⟩ (.int .i64 0)).setCell ⟨b, k * 2 + 1, none⟩ (.int .u32 (G : Int))) := ((Beside.refl (fun k => k = b) w2).setCell (p := ⟨b, k * 2, none⟩) rfl _).setCell (p := ⟨b, k * 2 + 1, none⟩) rfl _
    exact ⟨rfl, (HH.out.put (i := k) i2 (by omega) hG hb HR.out).on ((Below.refl _ _).drew), ((Beside.of BB.out).trans hb).drew⟩
  · have hl' : liveV t i g = false := by simpa using hl
    have HV : Hid (endE t i g = 9 ∧ endT t i g 0 = t) := by show _ ∧ _; unfold endE endT; rw [if_neg hl, if_neg hl]; exact ⟨rfl, rfl⟩
    rw [hl'] at cl
    clear hl hl'
    go_wp2_with fail
    refine cl.mono ?_; rintro e w2 ⟨rfl, b2⟩
    have H2 := H1.on b2
    have B2 := B1.trans (b2.mono B1.size)
    clear b2 B1 H1 h0 g0 cl z0
    go_wp2
    go_ret
    rw [HV.out.1, HV.out.2]
    exact ⟨rfl, H2, Beside.of B2⟩
set_option maxHeartbeats 2000000 in
set_option maxRecDepth 100000 in
theorem rretire13_ (p b c : Nat) (t : Sl) (i : Int) (g : Nat) (w : World) (H : SlD w p b c t) (hg : g < 4294967296) :
    Calls Try.prog 15 #[.pointer (some ⟨p, 0, none⟩), .agg #[.int .i64 i, .int .u32 (g : Int)]] w fun e w' => e = .returned (.int .i64 (endE t i g : Int)) ∧ SlD w' p b c (endT t i g 2) ∧ Beside (fun k => k = b) w w' := by
  have B1 : Below w.heap.size w (w.alloc (.cells #[.int .i64 i, .int .u32 (g : Int)] 34)) := (Below.refl _ _).alloc (Nat.le_refl _) _
  have H1 := H.on B1
  have h0 : (w.alloc (.cells #[.int .i64 i, .int .u32 (g : Int)] 34)).cell? ⟨w.heap.size, 0, none⟩ = some (.int .i64 i) := by simp [go_sem]
  have g0 : (w.alloc (.cells #[.int .i64 i, .int .u32 (g : Int)] 34)).cell? ⟨w.heap.size, 1, none⟩ = some (.int .u32 (g : Int)) := by simp [go_sem]
  have z0 : w.heap.size < (w.alloc (.cells #[.int .i64 i, .int .u32 (g : Int)] 34)).heap.size := by simp
  have hbz := H.row.bl
  go_enter Try.func15, Try.ntmps15
  go_upto_region 1 with fail
  obtain ⟨w1, hw1⟩ : ∃ w1, w1 = w.alloc (.cells #[.int .i64 i, .int .u32 (g : Int)] 34) := ⟨_, rfl⟩
  rw [← hw1] at B1 H1 h0 g0 z0 ⊢
  clear hw1 H
  have cl := rlive13_ p b c t i g w1 H1
  by_cases hl : liveV t i g = true
  · obtain ⟨i0, i1, i2, i3⟩ := liveV_in hl
    have HV : Hid (endE t i g = 0 ∧ endT t i g 2 = slPut t i.toNat 2 ((g + 1) % 4294967296)) := by show _ ∧ _; unfold endE endT; rw [if_pos hl, if_pos hl]; exact ⟨rfl, rfl⟩
    rw [hl] at cl
    obtain ⟨k, rfl⟩ := Int.eq_ofNat_of_zero_le i0
    clear i2 i3 hl
    have i2 : k < t.length := by omega
    go_wp2_with fail
    refine cl.mono ?_; rintro e w2 ⟨rfl, b2⟩
    have H2 := H1.on b2
    have B2 := B1.trans (b2.mono B1.size)
    have h2 := (b2.cell (p := ⟨w.heap.size, 0, none⟩) z0).trans h0
    have g2 := (b2.cell (p := ⟨w.heap.size, 1, none⟩) z0).trans g0
    clear b2 B1 H1 h0 g0 cl z0
    have hd := H2.head
    obtain ⟨x1, x2⟩ := H2.row.cs k i2
    obtain ⟨f1, f2⟩ := H2.row.fz k i2
    have e1 : IntKind.u32.wrap ((g : Int) + 1) = (((g + 1) % 4294967296 : Nat) : Int) := by rw [IntKind.wrap_u32]; omega
    have e2 : ((g : Int) + 1) % 4294967296 = (((g + 1) % 4294967296 : Nat) : Int) := by omega
    have hG : (g + 1) % 4294967296 < 4294967296 := Nat.mod_lt _ (by omega)
    generalize (g + 1) % 4294967296 = G at *
    have i0' : (0 : Int) ≤ (k : Int) := by omega
    have i1' : (k : Int) < (t.length : Int) := by omega
    have HR := Lib.hid (H2.row.set k 2 G i2)
    have HH := Lib.hid H2
    have BB := Lib.hid B2
    clear H2 B2 hg
    go_upto_region 3 with fail
    go_region
    go_wp2
    go_ret
    rw [HV.out.1, HV.out.2]
    have hb : Beside (fun k => k = b) w2 ((w2.setCell ⟨b, k * 2, none⟩ (.int .i64 2)).setCell ⟨b, k * 2 + 1, none⟩ (.int .u32 (G : Int))) := ((Beside.refl (fun k => k = b) w2).setCell (p := ⟨b, k * 2, none⟩) rfl _).setCell (p := ⟨b, k * 2 + 1, none⟩) rfl _
    exact ⟨rfl, (HH.out.put (i := k) i2 (by omega) hG hb HR.out).on ((Below.refl _ _).drew), ((Beside.of BB.out).trans hb).drew⟩
  · have hl' : liveV t i g = false := by simpa using hl
    have HV : Hid (endE t i g = 9 ∧ endT t i g 2 = t) := by show _ ∧ _; unfold endE endT; rw [if_neg hl, if_neg hl]; exact ⟨rfl, rfl⟩
    rw [hl'] at cl
    clear hl hl'
    go_wp2_with fail
    refine cl.mono ?_; rintro e w2 ⟨rfl, b2⟩
    have H2 := H1.on b2
    have B2 := B1.trans (b2.mono B1.size)
    clear b2 B1 H1 h0 g0 cl z0
    go_wp2
    go_ret
    rw [HV.out.1, HV.out.2]
    exact ⟨rfl, H2, Beside.of B2⟩
end Go.Proofs.Ytlnbjpabcldmnaa
