/- The code's ports (layer 16): lay. -/
import Derived.Test.YtbbadpidolfleaaVc
namespace Go.Proofs.Ytbbadpidolfleaa
set_option linter.unusedVariables false
set_option maxRecDepth 100000
set_option linter.unusedSimpArgs false
open Go.ChangeShapes Go.WideShapes Go.ChangeAt Go.RowKit Go.PlainAid
attribute [local go_sem ↓] Go.wp_at_zero Go.wp_at_succ
theorem nat_nz {n : Nat} (h : 0 < n) : ((n : Int) == 0) = false ∧ (n == 0) = false ∧ ¬ (n : Int) = 0 ∧ ¬ n = 0 := ⟨by rw [beq_eq_false_iff_ne]; omega, by rw [beq_eq_false_iff_ne]; omega, by omega, by omega⟩
section
variable {w w' : World} {p rb ob : Nat} {x x' : Po}
set_option maxHeartbeats 2000000 in
/-- (*Ports).lay. -/
theorem pz_lay_ (h : PzI w p rb ob x) (hl : x.l.length ≤ 1000) {r : Ro} (hr : ROk r) (L : Laid x x' r) : Calls Try.prog 49 #[.pointer (some ⟨p, 0, none⟩), .agg #[.int .u8 r.pr, .int .u32 r.oi, .int .u16 r.op, .int .u32 r.ii, .int .u16 r.ip, .int .i64 (r.lv : Int), .int .i64 (r.hd : Int)]] w fun e w' => (∃ v, e = .returned v) ∧ PzI w' p rb ob x' ∧ Beside (pzS p rb ob) w w' := by
  have H := Lib.hid h
  clear h
  show Calls _ _ _ _ _
  go_enter Try.func49, Try.ntmps49
  go_upto_region 1 with fail
  have A1 := RowB.made w r 44
  have B1 : Below w.heap.size w (w.alloc (.cells #[.int .u8 r.pr, .int .u32 r.oi, .int .u16 r.op, .int .u32 r.ii, .int .u16 r.ip, .int .i64 (r.lv : Int), .int .i64 (r.hd : Int)] 44)) := (Below.refl _ _).alloc (Nat.le_refl _) _
  have H1 := H.out.on B1
  generalize w.alloc (.cells #[.int .u8 r.pr, .int .u32 r.oi, .int .u16 r.op, .int .u32 r.ii, .int .u16 r.ip, .int .i64 (r.lv : Int), .int .i64 (r.hd : Int)] 44) = w1 at A1 B1 H1 ⊢
  have HH := Lib.hid H1
  have BB := Lib.hid B1
  obtain ⟨l0, a0, a1, a2, a3, a4, a5, a6, fa⟩ := id A1
  have HA := Lib.hid A1
  have A2 := fun o : Obj => A1.on ((Below.refl _ _).alloc (Nat.le_refl _) o)
  have A3 := fun o o' : Obj => (A2 o).on ((Below.refl _ _).alloc (Nat.le_refl _) o')
  have d0 := fun o => (A2 o).c0
  have d1 := fun o => (A2 o).c1
  have d2 := fun o => (A2 o).c2
  have d3 := fun o => (A2 o).c3
  have d4 := fun o => (A2 o).c4
  have f0 := fun o o' => (A3 o o').c0
  have f1 := fun o o' => (A3 o o').c1
  have f2 := fun o o' => (A3 o o').c2
  have f3 := fun o o' => (A3 o o').c3
  have f4 := fun o o' => (A3 o o').c4
  clear H1 B1 A1 l0 A2 A3
  have HL := Lib.hid hl
  have HR := Lib.hid hr
  clear hl hr
  go_region
  all_goals clear a0 a1 a2 a3 a4 a5 a6 fa d0 d1 d2 d3 d4 f0 f1 f2 f3 f4
  have b1 : Below w1.heap.size w1 ((w1.alloc (.cells #[.int .u8 r.pr, .int .u32 r.oi, .int .u16 r.op] 72)).alloc (.cells #[.int .u8 r.pr, .int .u32 r.ii, .int .u16 r.ip] 72)).drew := (((Below.refl _ _).alloc (Nat.le_refl _) _).alloc (by simp) _).drew
  have E1 := (EnB.made w1 ⟨r.pr, r.oi, r.op⟩ 72).on (w' := ((w1.alloc (.cells #[.int .u8 r.pr, .int .u32 r.oi, .int .u16 r.op] 72)).alloc (.cells #[.int .u8 r.pr, .int .u32 r.ii, .int .u16 r.ip] 72)).drew) ((Below.refl _ _).alloc (Nat.le_refl _) _).drew
  have E2 := (EnB.made (w1.alloc (.cells #[.int .u8 r.pr, .int .u32 r.oi, .int .u16 r.op] 72)) ⟨r.pr, r.ii, r.ip⟩ 72).on (w' := ((w1.alloc (.cells #[.int .u8 r.pr, .int .u32 r.oi, .int .u16 r.op] 72)).alloc (.cells #[.int .u8 r.pr, .int .u32 r.ii, .int .u16 r.ip] 72)).drew) (Below.refl _ _).drew
  have hz : (w1.alloc (.cells #[.int .u8 r.pr, .int .u32 r.oi, .int .u16 r.op] 72)).heap.size = w1.heap.size + 1 := by simp
  rw [hz] at E2
  have KO := Lib.hid E1
  have KI := Lib.hid E2
  have HH2 := Lib.hid (HH.out.on b1)
  have HA2 := Lib.hid (HA.out.on b1)
  have BB2 := Lib.hid (BB.out.trans (b1.mono BB.out.size))
  clear b1 E1 E2 hz HH HA BB
  generalize ((w1.alloc (.cells #[.int .u8 r.pr, .int .u32 r.oi, .int .u16 r.op] 72)).alloc (.cells #[.int .u8 r.pr, .int .u32 r.ii, .int .u16 r.ip] 72)).drew = W at KO KI HH2 HA2 BB2 ⊢
  generalize h1 : w1.heap.size + 1 = bI at KI ⊢
  generalize h0 : w1.heap.size = bO at KO ⊢
  clear h0 h1
  rotate_left
  have b1 : Below w1.heap.size w1 ((w1.alloc (.cells #[.int .u8 r.pr, .int .u32 r.ii, .int .u16 r.ip] 72)).alloc (.cells #[.int .u8 r.pr, .int .u32 r.oi, .int .u16 r.op] 72)).drew := (((Below.refl _ _).alloc (Nat.le_refl _) _).alloc (by simp) _).drew
  have E1 := (EnB.made w1 ⟨r.pr, r.ii, r.ip⟩ 72).on (w' := ((w1.alloc (.cells #[.int .u8 r.pr, .int .u32 r.ii, .int .u16 r.ip] 72)).alloc (.cells #[.int .u8 r.pr, .int .u32 r.oi, .int .u16 r.op] 72)).drew) ((Below.refl _ _).alloc (Nat.le_refl _) _).drew
  have E2 := (EnB.made (w1.alloc (.cells #[.int .u8 r.pr, .int .u32 r.ii, .int .u16 r.ip] 72)) ⟨r.pr, r.oi, r.op⟩ 72).on (w' := ((w1.alloc (.cells #[.int .u8 r.pr, .int .u32 r.ii, .int .u16 r.ip] 72)).alloc (.cells #[.int .u8 r.pr, .int .u32 r.oi, .int .u16 r.op] 72)).drew) (Below.refl _ _).drew
  have hz : (w1.alloc (.cells #[.int .u8 r.pr, .int .u32 r.ii, .int .u16 r.ip] 72)).heap.size = w1.heap.size + 1 := by simp
  rw [hz] at E2
  have KI := Lib.hid E1
  have KO := Lib.hid E2
  have HH2 := Lib.hid (HH.out.on b1)
  have HA2 := Lib.hid (HA.out.on b1)
  have BB2 := Lib.hid (BB.out.trans (b1.mono BB.out.size))
  clear b1 E1 E2 hz HH HA BB
  generalize ((w1.alloc (.cells #[.int .u8 r.pr, .int .u32 r.ii, .int .u16 r.ip] 72)).alloc (.cells #[.int .u8 r.pr, .int .u32 r.oi, .int .u16 r.op] 72)).drew = W at KO KI HH2 HA2 BB2 ⊢
  generalize h1 : w1.heap.size + 1 = bO at KO ⊢
  generalize h0 : w1.heap.size = bI at KI ⊢
  clear h0 h1
  rotate_left
  all_goals
    have H2 := HH2.out
    have oO : EOk r.pr r.oi r.op := ⟨HR.out.pr0, HR.out.pr1, HR.out.oi0, HR.out.oi1, HR.out.op0, HR.out.op1⟩
    have oI : EOk r.pr r.ii r.ip := ⟨HR.out.pr0, HR.out.pr1, HR.out.ii0, HR.out.ii1, HR.out.ip0, HR.out.ip1⟩
    have l1 : (x.l.map Ro.eR).length < 1000000 := by rw [List.length_map]; exact Nat.lt_of_le_of_lt HL.out (by decide)
    have l2 : (x.l.map Ro.eO).length < 1000000 := by rw [List.length_map]; exact Nat.lt_of_le_of_lt HL.out (by decide)
    obtain ⟨_, a0, a1, a2, a3, a4, a5, a6, _⟩ := id HA2.out
    obtain ⟨_, o0, o1, o2⟩ := id KO.out
    obtain ⟨_, i0, i1, i2⟩ := id KI.out
    have c0 := H2.c0
    have c1 := H2.c1
    have nI : bI ≠ rb := fun e => by have := map_no_cell H2.mr 0; rw [← e, i0] at this; cases this
    have nA : w.heap.size ≠ rb := fun e => by have := map_no_cell H2.mr 0; rw [← e, a0] at this; cases this
    by_cases hlive : 0 < r.lv + r.hd
    · obtain ⟨w3, dr, dm, dt⟩ := (H2.mr.on (w' := W.drew) (Below.refl _ _).drew).put Try.underlying60 (k := ⟨r.pr, r.oi, r.op⟩) oO (v := r.v) l1
      have dr : (Instr.mapUpdate 60 (.map (some rb)) (.agg #[.int .u8 r.pr, .int .u32 r.oi, .int .u16 r.op]) (.agg #[.int .u8 r.pr, .int .u32 r.oi, .int .u16 r.op, .int .u32 r.ii, .int .u16 r.ip, .int .i64 (r.lv : Int), .int .i64 (r.hd : Int)])).run Try.prog W.drew = .ok () w3 := dr
      obtain ⟨c1', mo3, sz3, blk3⟩ := H2.mid dt
      have KI3 := KI.out.keep sz3 (blk3 _ KI.out.lt nI)
      have HA3 := HA2.out.keep sz3 (blk3 _ HA2.out.lt nA)
      obtain ⟨w4, er, em, et⟩ := (mo3.on (w' := w3.drew) (Below.refl _ _).drew).put Try.underlying61 (k := ⟨r.pr, r.ii, r.ip⟩) oI (v := .agg #[.int .u32 r.oi, .int .u16 r.op]) l2
      have er : (Instr.mapUpdate 61 (.map (some ob)) (.agg #[.int .u8 r.pr, .int .u32 r.ii, .int .u16 r.ip]) (.agg #[.int .u32 r.oi, .int .u16 r.op])).run Try.prog w3.drew = .ok () w4 := er
      have FIN := Lib.hid (H2.fin L.ok (dm.perm (L.rows_live H2.ok hlive)) dt (em.perm (L.outs_live H2.ok hlive)) et)
      obtain ⟨_, i0', i1', i2'⟩ := id KI3
      have a1' := HA3.c1
      have a2' := HA3.c2
      clear dm dt mo3 blk3 KI3 HA3 em et nI nA l1 l2 oO oI H2 HH2 KO KI HA2 sz3
      rcases some_sum hlive with h5 | ⟨h5, h6⟩
      · obtain ⟨t1, t2, t3, t4⟩ := nat_nz h5
        clear hlive h5
        go_upto_region 5 with fail
        go_region
        clear c0 dr o0 o1 o2
        go_upto_region 6 with fail
        go_region
        clear c1' er
        go_wp2
        first | go_end0 | refine bodyPost_ret (results_none rfl _ _ _) rfl ?_
        exact ⟨⟨_, rfl⟩, FIN.out.1, (Beside.of BB2.out).trans FIN.out.2⟩
      · obtain ⟨t1, t2, t3, t4⟩ := nat_nz h6
        rw [h5, show ((0 : Nat) : Int) = 0 from rfl] at a5 dr
        clear hlive h6
        go_upto_region 5 with fail
        go_region
        clear c0 dr o0 o1 o2
        go_upto_region 6 with fail
        go_region
        clear c1' er
        go_wp2
        first | go_end0 | refine bodyPost_ret (results_none rfl _ _ _) rfl ?_
        exact ⟨⟨_, rfl⟩, FIN.out.1, (Beside.of BB2.out).trans FIN.out.2⟩
    · obtain ⟨h5, h6⟩ := zero_sum hlive
      obtain ⟨w3, dr, dm, dt⟩ := (H2.mr.on (w' := W.drew) (Below.refl _ _).drew).del Try.underlying60 (k := ⟨r.pr, r.oi, r.op⟩) oO 0
      have dr : (Builtin.delete_ #[60, 72] 0 #[.map (some rb), .agg #[.int .u8 r.pr, .int .u32 r.oi, .int .u16 r.op]]).run Try.prog W.drew = .ok (.tuple #[]) w3 := dr
      obtain ⟨c1', mo3, sz3, blk3⟩ := H2.mid dt
      have KI3 := KI.out.keep sz3 (blk3 _ KI.out.lt nI)
      obtain ⟨w4, er, em, et⟩ := (mo3.on (w' := w3.drew) (Below.refl _ _).drew).del Try.underlying61 (k := ⟨r.pr, r.ii, r.ip⟩) oI 0
      have er : (Builtin.delete_ #[61, 72] 0 #[.map (some ob), .agg #[.int .u8 r.pr, .int .u32 r.ii, .int .u16 r.ip]]).run Try.prog w3.drew = .ok (.tuple #[]) w4 := er
      have FIN := Lib.hid (H2.fin L.ok (dm.perm (L.rows_dead H2.ok hlive)) dt (em.perm (L.outs_dead H2.ok hlive)) et)
      obtain ⟨_, i0', i1', i2'⟩ := id KI3
      clear dm dt mo3 blk3 KI3 em et nI nA l1 l2 oO oI H2 HH2 KO KI HA2 sz3
      rw [h5, show ((0 : Nat) : Int) = 0 from rfl] at a5
      rw [h6, show ((0 : Nat) : Int) = 0 from rfl] at a6
      clear hlive
      go_upto_region 3 with fail
      go_region
      clear c0 dr o0 o1 o2
      go_upto_region 4 with fail
      go_region
      clear c1' er
      go_wp2
      first | go_end0 | refine bodyPost_ret (results_none rfl _ _ _) rfl ?_
      exact ⟨⟨_, rfl⟩, FIN.out.1, (Beside.of BB2.out).trans FIN.out.2⟩
end
end Go.Proofs.Ytbbadpidolfleaa
