/- Texts of this proof, together: PzL, PzH, PzG, PzX. -/
import Derived.Test.YtbbadpidolfleaaVc
import Derived.Test.YtbbadpidolfleaaPzC
namespace Go.Proofs.Ytbbadpidolfleaa
set_option linter.unusedVariables false
set_option linter.unusedSimpArgs false
theorem same_iff {x : Po} (h : x.Ok) {q r : Ro} (hq : q ∈ x.l) (hr : r ∈ x.l) : (q.pr = r.pr ∧ q.oi = r.oi ∧ q.op = r.op) ↔ (q.pr = r.pr ∧ q.ii = r.ii ∧ q.ip = r.ip) :=
  ⟨fun e => by rw [h.same_out hq hr e]; exact ⟨rfl, rfl, rfl⟩, fun e => by rw [h.same_in hq hr e]; exact ⟨rfl, rfl, rfl⟩⟩
/-- A row that is there, held once more. -/
theorem laid_hold {x : Po} (h : x.Ok) {r : Ro} (hr : r ∈ x.l) : Laid x (x.hold r.pr r.ii r.ip) { r with hd := r.hd + 1 } := by
  refine ⟨h.hold _ _ _, fun q => ?_, fun q hq => (same_iff h hq hr :)⟩
  show q ∈ x.l.map _ ↔ _
  rw [List.mem_map]
  constructor
  · rintro ⟨u, hu, rfl⟩
    by_cases e : u.isI r.pr r.ii r.ip = true
    · have := h.same_in hu hr ((u.isI_iff _ _ _).1 e)
      subst this
      rw [if_pos e]
      exact .inl ⟨rfl, by show 0 < u.lv + (u.hd + 1); omega⟩
    · rw [if_neg e]
      exact .inr ⟨hu, fun e2 => e ((u.isI_iff _ _ _).2 ((same_iff h hu hr).1 e2))⟩
  · rintro (⟨rfl, _⟩ | ⟨hq, hn⟩)
    · exact ⟨r, hr, if_pos ((r.isI_iff _ _ _).2 ⟨rfl, rfl, rfl⟩)⟩
    · exact ⟨q, hq, if_neg fun e => hn ((same_iff h hq hr).2 ((q.isI_iff _ _ _).1 e))⟩
/-- A row that was not there. -/
theorem laid_ins {x : Po} (h : x.Ok) {t : Ro} (hO : x.ofO t.pr t.oi t.op = none) (hI : x.ofI t.pr t.ii t.ip = none) (ht : ROk t) (h0 : 0 < t.lv + t.hd) : Laid x ⟨Po.ins x.l t⟩ t := by
  refine ⟨h.put hO hI ht h0, fun q => ?_, fun q hq => ⟨fun e => absurd e (Po.ofO_none hO q hq), fun e => absurd e (Po.ofI_none hI q hq)⟩⟩
  show q ∈ Po.ins x.l t ↔ _
  rw [Po.ins_mem]
  constructor
  · rintro (rfl | hq)
    · exact .inl ⟨rfl, h0⟩
    · exact .inr ⟨hq, Po.ofO_none hO q hq⟩
  · rintro (⟨rfl, _⟩ | ⟨hq, _⟩)
    · exact .inl rfl
    · exact .inr hq
theorem on_ends (c : Ch) (r : Ro) : (c.on r).pr = r.pr ∧ (c.on r).oi = r.oi ∧ (c.on r).op = r.op ∧ (c.on r).ii = r.ii ∧ (c.on r).ip = r.ip := by cases c <;> exact ⟨rfl, rfl, rfl, rfl, rfl⟩
/-- A row that is changed. -/
theorem laid_alter {x : Po} (h : x.Ok) (c : Ch) {r : Ro} (hr : r ∈ x.l) : Laid x (x.alter c r.pr r.oi r.op) (c.on r) := by
  obtain ⟨k1, k2, k3, k4, k5⟩ := on_ends c r
  refine ⟨h.alter _ _ _ _, fun q => ?_, fun q hq => by rw [k1, k2, k3, k4, k5]; exact same_iff h hq hr⟩
  rw [k1, k2, k3]
  show q ∈ List.filter _ (x.l.map _) ↔ _
  rw [List.mem_filter, List.mem_map]
  constructor
  · rintro ⟨⟨u, hu, rfl⟩, hl⟩
    by_cases e : u.isO r.pr r.oi r.op = true
    · have := h.same_out hu hr ((u.isO_iff _ _ _).1 e)
      subst this
      rw [if_pos e] at hl ⊢
      simp at hl
      exact .inl ⟨rfl, by omega⟩
    · rw [if_neg e]
      exact .inr ⟨hu, fun e2 => e ((u.isO_iff _ _ _).2 e2)⟩
  · rintro (⟨rfl, hl⟩ | ⟨hq, hn⟩)
    · exact ⟨⟨r, hr, if_pos ((r.isO_iff _ _ _).2 ⟨rfl, rfl, rfl⟩)⟩, by simp; omega⟩
    · have := h.som q hq
      exact ⟨⟨q, hq, if_neg fun e => hn ((q.isO_iff _ _ _).1 e)⟩, by simp; omega⟩
end Go.Proofs.Ytbbadpidolfleaa

namespace Go.Proofs.Ytbbadpidolfleaa
set_option linter.unusedVariables false
set_option maxRecDepth 100000
set_option linter.unusedSimpArgs false
open Go.ChangeShapes Go.WideShapes Go.ChangeAt Go.RowKit Go.PlainAid
attribute [local go_sem ↓] Go.wp_at_zero Go.wp_at_succ
/-- One number of a row is written. -/
theorem held_row {W : World} {b n : Nat} {r : Ro} (h : RowB W b r) : RowB (W.setCell ⟨b, 6, none⟩ (.int .i64 (n : Int))) b { r with hd := n } :=
  ⟨by simpa [World.setCell] using h.lt, (World.cell?_setCell_other _ _ _ _ (by simp)).trans h.c0, (World.cell?_setCell_other _ _ _ _ (by simp)).trans h.c1, (World.cell?_setCell_other _ _ _ _ (by simp)).trans h.c2, (World.cell?_setCell_other _ _ _ _ (by simp)).trans h.c3, (World.cell?_setCell_other _ _ _ _ (by simp)).trans h.c4, (World.cell?_setCell_other _ _ _ _ (by simp)).trans h.c5, World.cell?_setCell_same _ _ _ h.c6, fun j => by rw [World.frozen?_setCell]; exact h.fr j⟩
theorem row_lived {W : World} {b n : Nat} {r : Ro} (h : RowB W b r) : RowB (W.setCell ⟨b, 5, none⟩ (.int .i64 (n : Int))) b { r with lv := n } :=
  ⟨by simpa [World.setCell] using h.lt, (World.cell?_setCell_other _ _ _ _ (by simp)).trans h.c0, (World.cell?_setCell_other _ _ _ _ (by simp)).trans h.c1, (World.cell?_setCell_other _ _ _ _ (by simp)).trans h.c2, (World.cell?_setCell_other _ _ _ _ (by simp)).trans h.c3, (World.cell?_setCell_other _ _ _ _ (by simp)).trans h.c4, World.cell?_setCell_same _ _ _ h.c5, (World.cell?_setCell_other _ _ _ _ (by simp)).trans h.c6, fun j => by rw [World.frozen?_setCell]; exact h.fr j⟩
section
variable {w w' : World} {p rb ob : Nat} {x x' : Po}
theorem up_small {n : Nat} (h : n ≤ 1000) : wrap64 ((n : Int) + 1) = ((n + 1 : Nat) : Int) := by rw [IntWalk.wrap64_in _ (by omega)]; omega
theorem down_small {n : Nat} (h : n ≤ 1000) (h0 : 0 < n) : wrap64 ((n : Int) + -1) = ((n - 1 : Nat) : Int) := by rw [IntWalk.wrap64_in _ (by omega)]; omega
theorem down_small' {n : Nat} (h : n ≤ 1000) (h0 : 0 < n) : wrap64 ((n : Int) - 1) = ((n - 1 : Nat) : Int) := by rw [IntWalk.wrap64_in _ (by omega)]; omega
theorem same_small {n : Nat} (h : n ≤ 1000) : wrap64 (n : Int) = (n : Int) := by rw [IntWalk.wrap64_in _ (by omega)]
set_option maxHeartbeats 1000000 in
/-- (*Ports).hold. -/
theorem pz_hold_ (h : PzI w p rb ob x) (hl : x.l.length ≤ 1000) {r : Ro} (hr : ROk r) (h1 : r.hd ≤ 1000) (L : Laid x x' { r with hd := r.hd + 1 }) : Calls Try.prog 35 #[.pointer (some ⟨p, 0, none⟩), .agg #[.int .u8 r.pr, .int .u32 r.oi, .int .u16 r.op, .int .u32 r.ii, .int .u16 r.ip, .int .i64 (r.lv : Int), .int .i64 (r.hd : Int)]] w fun e w' => (∃ v, e = .returned v) ∧ PzI w' p rb ob x' ∧ Beside (pzS p rb ob) w w' := by
  have H := Lib.hid h
  have HL := Lib.hid hl
  have HR := Lib.hid hr
  have e1 := up_small h1
  obtain ⟨m, hm⟩ : ∃ m, m = r.hd + 1 := ⟨_, rfl⟩
  rw [← hm] at e1 L
  clear h hl hr h1 hm
  go_enter Try.func35, Try.ntmps35
  go_upto_region 1 with fail
  have A1 := RowB.made w r 44
  have B1 : Below w.heap.size w (w.alloc (.cells #[.int .u8 r.pr, .int .u32 r.oi, .int .u16 r.op, .int .u32 r.ii, .int .u16 r.ip, .int .i64 (r.lv : Int), .int .i64 (r.hd : Int)] 44)) := (Below.refl _ _).alloc (Nat.le_refl _) _
  generalize w.alloc (.cells #[.int .u8 r.pr, .int .u32 r.oi, .int .u16 r.op, .int .u32 r.ii, .int .u16 r.ip, .int .i64 (r.lv : Int), .int .i64 (r.hd : Int)] 44) = w1 at A1 B1 ⊢
  obtain ⟨_, a0, a1, a2, a3, a4, a5, a6, fa⟩ := id A1
  have HA := Lib.hid A1
  have HB := Lib.hid B1
  clear A1 B1
  go_upto_region 2 with fail
  have A2 := held_row (n := m) HA.out
  have B2 := one_box HB.out ((Beside.refl (fun k => k = w.heap.size) w1).setCell (p := ⟨w.heap.size, 6, none⟩) rfl (.int .i64 (m : Int))) (Nat.le_refl _) HB.out.size
  clear a0 a1 a2 a3 a4 a5 a6 fa
  generalize w1.setCell ⟨w.heap.size, 6, none⟩ (.int .i64 (m : Int)) = w2 at A2 B2 ⊢
  obtain ⟨_, a0, a1, a2, a3, a4, a5, a6, fa⟩ := id A2
  simp only [] at a0 a1 a2 a3 a4 a5 a6
  have kl := pz_lay_ (H.out.on B2) HL.out (r := { r with hd := m }) ⟨HR.out.pr0, HR.out.pr1, HR.out.oi0, HR.out.oi1, HR.out.op0, HR.out.op1, HR.out.ii0, HR.out.ii1, HR.out.ip0, HR.out.ip1⟩ L
  have B3 := Lib.hid B2
  clear A2 B2
  go_wp2_with (go_at_call 49; refine kl.mono ?_; rintro e w4 ⟨⟨u, rfl⟩, h4, b4⟩)
  first | go_end0 | refine bodyPost_ret (results_none rfl _ _ _) rfl ?_
  exact ⟨⟨_, rfl⟩, h4, (Beside.of B3.out).trans b4⟩
theorem row_num {W : World} {b : Nat} {r : Ro} (h : RowB W b r) (v : Value) (j : Nat) (hj : j = 5 ∨ j = 6) : (W.setCell ⟨b, j, none⟩ v).cell? ⟨b, j, none⟩ = some v := by
  rcases hj with rfl | rfl
  · exact World.cell?_setCell_same _ _ _ h.c5
  · exact World.cell?_setCell_same _ _ _ h.c6
set_option maxHeartbeats 1500000 in
/-- (*Ports).turn, of a row that it may not turn so. -/
theorem pz_turn_no (h : PzI w p rb ob x) {pr oi op : Int} (he : EOk pr oi op) {r : Ro} (hr : (x.ofO pr oi op).getD Ro.zero = r) (dl dh la ha : Int) (e1 : wrap64 ((r.lv : Int) + dl) = la) (e2 : wrap64 ((r.hd : Int) + dh) = ha) (hn : la < 0 ∨ ha < 0) : Says Try.prog 42 #[.pointer (some ⟨p, 0, none⟩), .int .u8 pr, .agg #[.int .u32 oi, .int .u16 op], .int .i64 dl, .int .i64 dh] w (.int .i64 6) := by
  have H := Lib.hid h
  clear h
  show Calls _ _ _ _ _
  go_enter Try.func42, Try.ntmps42
  go_upto_region 1 with fail
  have A1 := EpB.made w oi op 34
  have B1 : Below w.heap.size w (w.alloc (.cells #[.int .u32 oi, .int .u16 op] 34)) := (Below.refl _ _).alloc (Nat.le_refl _) _
  have H1 := H.out.on B1
  generalize w.alloc (.cells #[.int .u32 oi, .int .u16 op] 34) = w1 at A1 B1 H1 ⊢
  have kn := pz_none_ H1
  have ko := pz_owner_ H1 he
  have a0 := A1.c0
  have a1 := A1.c1
  have BB := Lib.hid B1
  have HH := Lib.hid H1
  clear A1 B1 H1
  unfold rowV at ko
  rw [hr] at ko
  generalize (x.ofO pr oi op).isSome = q at ko
  clear hr
  go_upto_region 4 with (first | (go_at_call 29; refine kn.mono ?_; rintro e w2 ⟨rfl, hw⟩; obtain rfl : w1 = w2 := hw.symm) | (go_at_call 15; refine ko.mono ?_; rintro e w2 ⟨rfl, b2⟩))
  have A2 := RowB.made w2 r 44
  have B2 := (BB.out.trans (b2.mono BB.out.size)).alloc (Nat.le_trans BB.out.size b2.size) (.cells #[.int .u8 r.pr, .int .u32 r.oi, .int .u16 r.op, .int .u32 r.ii, .int .u16 r.ip, .int .i64 (r.lv : Int), .int .i64 (r.hd : Int)] 44)
  have lc : w.heap.size ≤ w2.heap.size := Nat.le_trans BB.out.size b2.size
  clear kn ko a0 a1 b2 BB HH
  generalize w2.alloc (.cells #[.int .u8 r.pr, .int .u32 r.oi, .int .u16 r.op, .int .u32 r.ii, .int .u16 r.ip, .int .i64 (r.lv : Int), .int .i64 (r.hd : Int)] 44) = w3 at A2 B2 ⊢
  generalize w2.heap.size = c at A2 lc ⊢
  obtain ⟨_, a0, a1, a2, a3, a4, a5, a6, fa⟩ := id A2
  have B3 := Lib.hid ((B2.setCell (p := ⟨c, 5, none⟩) lc (.int .i64 la)).setCell (p := ⟨c, 6, none⟩) lc (.int .i64 ha))
  clear A2 B2
  by_cases hla : la < 0
  · have t1 : decide (la < 0) = true := decide_eq_true hla
    go_wp2
    go_ret
    exact ⟨rfl, B3.out⟩
  · have t1 : decide (la < 0) = false := decide_eq_false hla
    have t2 : decide (ha < 0) = true := decide_eq_true (hn.resolve_left hla)
    go_wp2
    go_ret
    exact ⟨rfl, B3.out⟩
set_option maxHeartbeats 1500000 in
/-- .. of one that it may. -/
theorem pz_turn_yes (h : PzI w p rb ob x) (hl : x.l.length ≤ 1000) {pr oi op : Int} (he : EOk pr oi op) {r : Ro} (hr : x.ofO pr oi op = some r) (dl dh : Int) (m n : Nat) (e1 : wrap64 ((r.lv : Int) + dl) = (m : Int)) (e2 : wrap64 ((r.hd : Int) + dh) = (n : Int)) (L : Laid x x' { r with lv := m, hd := n }) : Calls Try.prog 42 #[.pointer (some ⟨p, 0, none⟩), .int .u8 pr, .agg #[.int .u32 oi, .int .u16 op], .int .i64 dl, .int .i64 dh] w fun e w' => e = .returned (.int .i64 0) ∧ PzI w' p rb ob x' ∧ Beside (pzS p rb ob) w w' := by
  have H := Lib.hid h
  have HL := Lib.hid hl
  have hro := h.ok.low r (Po.ofO_some hr).1
  have HR := Lib.hid hro
  clear h hl hro
  show Calls _ _ _ _ _
  go_enter Try.func42, Try.ntmps42
  go_upto_region 1 with fail
  have A1 := EpB.made w oi op 34
  have B1 : Below w.heap.size w (w.alloc (.cells #[.int .u32 oi, .int .u16 op] 34)) := (Below.refl _ _).alloc (Nat.le_refl _) _
  have H1 := H.out.on B1
  generalize w.alloc (.cells #[.int .u32 oi, .int .u16 op] 34) = w1 at A1 B1 H1 ⊢
  have kn := pz_none_ H1
  have ko := pz_owner_ H1 he
  have a0 := A1.c0
  have a1 := A1.c1
  have BB := Lib.hid B1
  have HH := Lib.hid H1
  clear A1 B1 H1
  unfold rowV at ko
  rw [hr] at ko
  simp only [Option.getD_some, Option.isSome_some] at ko
  clear hr
  go_upto_region 4 with (first | (go_at_call 29; refine kn.mono ?_; rintro e w2 ⟨rfl, hw⟩; obtain rfl : w1 = w2 := hw.symm) | (go_at_call 15; refine ko.mono ?_; rintro e w2 ⟨rfl, b2⟩))
  have A2 := RowB.made w2 r 44
  have B2 := (BB.out.trans (b2.mono BB.out.size)).alloc (Nat.le_trans BB.out.size b2.size) (.cells #[.int .u8 r.pr, .int .u32 r.oi, .int .u16 r.op, .int .u32 r.ii, .int .u16 r.ip, .int .i64 (r.lv : Int), .int .i64 (r.hd : Int)] 44)
  have lc : w.heap.size ≤ w2.heap.size := Nat.le_trans BB.out.size b2.size
  clear kn ko a0 a1 b2 BB HH
  generalize w2.alloc (.cells #[.int .u8 r.pr, .int .u32 r.oi, .int .u16 r.op, .int .u32 r.ii, .int .u16 r.ip, .int .i64 (r.lv : Int), .int .i64 (r.hd : Int)] 44) = w3 at A2 B2 ⊢
  generalize w2.heap.size = c at A2 lc ⊢
  obtain ⟨_, a0, a1, a2, a3, a4, a5, a6, fa⟩ := id A2
  have A3 := held_row (n := n) (row_lived (n := m) A2)
  have B3 := (B2.setCell (p := ⟨c, 5, none⟩) lc (.int .i64 (m : Int))).setCell (p := ⟨c, 6, none⟩) lc (.int .i64 (n : Int))
  clear A2 B2
  have t1 : decide ((m : Int) < 0) = false := decide_eq_false (by omega)
  have t2 : decide ((n : Int) < 0) = false := decide_eq_false (by omega)
  go_upto_region 6 with fail
  clear a0 a1 a2 a3 a4 a5 a6 fa
  generalize (w3.setCell ⟨c, 5, none⟩ (.int .i64 (m : Int))).setCell ⟨c, 6, none⟩ (.int .i64 (n : Int)) = w4 at A3 B3 ⊢
  obtain ⟨_, a0, a1, a2, a3, a4, a5, a6, fa⟩ := id A3
  simp only [] at a0 a1 a2 a3 a4 a5 a6
  have kl := pz_lay_ (H.out.on B3) HL.out (r := { r with lv := m, hd := n }) ⟨HR.out.pr0, HR.out.pr1, HR.out.oi0, HR.out.oi1, HR.out.op0, HR.out.op1, HR.out.ii0, HR.out.ii1, HR.out.ip0, HR.out.ip1⟩ L
  have B4 := Lib.hid B3
  clear A3 B3
  go_wp2_with (go_at_call 49; refine kl.mono ?_; rintro e w5 ⟨⟨u, rfl⟩, h5, b5⟩)
  go_ret
  exact ⟨rfl, h5, (Beside.of B4.out).trans b5⟩
end
end Go.Proofs.Ytbbadpidolfleaa

namespace Go.Proofs.Ytbbadpidolfleaa
set_option linter.unusedVariables false
set_option maxRecDepth 100000
set_option linter.unusedSimpArgs false
open Go.ChangeShapes Go.WideShapes Go.ChangeAt Go.RowKit Go.PlainAid
attribute [local go_sem ↓] Go.wp_at_zero Go.wp_at_succ
/-- By how much a change turns a row. -/
def Ch.dl (c : Ch) : Int := match c with | .con => 1 | .drp => 0 | .rel => -1
def Ch.dh (c : Ch) : Int := match c with | .con => -1 | .drp => -1 | .rel => 0
theorem on_same (c : Ch) (r : Ro) : ({ r with lv := (c.on r).lv, hd := (c.on r).hd } : Ro) = c.on r := by cases c <;> rfl
theorem on_sum (c : Ch) {r : Ro} (h : c.may r = true) (h1 : r.lv ≤ 1000) (h2 : r.hd ≤ 1000) : wrap64 ((r.lv : Int) + c.dl) = ((c.on r).lv : Int) ∧ wrap64 ((r.hd : Int) + c.dh) = ((c.on r).hd : Int) := by
  cases c
  · have h3 : 0 < r.hd := of_decide_eq_true h
    exact ⟨up_small h1, down_small h2 h3⟩
  · have h3 : 0 < r.hd := of_decide_eq_true h
    exact ⟨by show wrap64 ((r.lv : Int) + 0) = (r.lv : Int); rw [Int.add_zero]; exact same_small h1, down_small h2 h3⟩
  · have h3 : 0 < r.lv := of_decide_eq_true h
    exact ⟨down_small h1 h3, by show wrap64 ((r.hd : Int) + 0) = (r.hd : Int); rw [Int.add_zero]; exact same_small h2⟩
theorem on_not (c : Ch) {r : Ro} (h : c.may r = false) (h1 : r.lv ≤ 1000) (h2 : r.hd ≤ 1000) : ∃ la ha : Int, wrap64 ((r.lv : Int) + c.dl) = la ∧ wrap64 ((r.hd : Int) + c.dh) = ha ∧ (la < 0 ∨ ha < 0) := by
  refine ⟨_, _, rfl, rfl, ?_⟩
  cases c
  · have h3 : ¬ 0 < r.hd := of_decide_eq_false h
    refine .inr ?_
    show wrap64 ((r.hd : Int) + -1) < 0
    rw [IntWalk.wrap64_in _ (by omega)]; omega
  · have h3 : ¬ 0 < r.hd := of_decide_eq_false h
    refine .inr ?_
    show wrap64 ((r.hd : Int) + -1) < 0
    rw [IntWalk.wrap64_in _ (by omega)]; omega
  · have h3 : ¬ 0 < r.lv := of_decide_eq_false h
    refine .inl ?_
    show wrap64 ((r.lv : Int) + -1) < 0
    rw [IntWalk.wrap64_in _ (by omega)]; omega
theorem zero_not (c : Ch) : c.may Ro.zero = false := by cases c <;> rfl
section
variable {w w' : World} {p rb ob : Nat} {x x' : Po}
theorem pz_turn_ (h : PzI w p rb ob x) (few : x.Few 1000) (c : Ch) {pr oi op : Int} (he : EOk pr oi op) : Calls Try.prog 42 #[.pointer (some ⟨p, 0, none⟩), .int .u8 pr, .agg #[.int .u32 oi, .int .u16 op], .int .i64 c.dl, .int .i64 c.dh] w fun e w' => e = .returned (.int .i64 ((x.chg c pr oi op).1 : Int)) ∧ PzI w' p rb ob (x.chg c pr oi op).2 ∧ Beside (pzS p rb ob) w w' := by
  cases hq : x.ofO pr oi op with
  | none =>
    have e : x.chg c pr oi op = (6, x) := by unfold Po.chg; rw [hq]
    rw [e]
    obtain ⟨la, ha, e1, e2, e3⟩ := on_not c (zero_not c) (Nat.zero_le _) (Nat.zero_le _)
    exact (pz_turn_no h he (r := Ro.zero) (by rw [hq]; rfl) c.dl c.dh la ha e1 e2 e3).mono fun e w' hh => ⟨hh.1, h.on hh.2, Beside.of hh.2⟩
  | some r =>
    have hb := few.by_ r (Po.ofO_some hq).1
    have h1 : r.lv ≤ 1000 := by omega
    have h2 : r.hd ≤ 1000 := by omega
    cases hm : c.may r with
    | true =>
      have e : x.chg c pr oi op = (0, x.alter c pr oi op) := by unfold Po.chg; rw [hq]; simp only [hm, if_true]
      rw [e]
      obtain ⟨e1, e2⟩ := on_sum c hm h1 h2
      obtain ⟨hr, q1, q2, q3⟩ := Po.ofO_some hq
      have L := laid_alter h.ok c hr
      rw [q1, q2, q3, ← on_same c r] at L
      exact pz_turn_yes h few.len he hq c.dl c.dh _ _ e1 e2 L
    | false =>
      have e : x.chg c pr oi op = (6, x) := by unfold Po.chg; rw [hq]; simp only [hm]; rfl
      rw [e]
      obtain ⟨la, ha, e1, e2, e3⟩ := on_not c hm h1 h2
      exact (pz_turn_no h he (r := r) (by rw [hq]; rfl) c.dl c.dh la ha e1 e2 e3).mono fun e w' hh => ⟨hh.1, h.on hh.2, Beside.of hh.2⟩
/-- (*Ports).Confirm. -/
theorem pz_con_ (h : PzI w p rb ob x) (few : x.Few 1000) {pr oi op : Int} (he : EOk pr oi op) : Calls Try.prog 22 #[.pointer (some ⟨p, 0, none⟩), .int .u8 pr, .agg #[.int .u32 oi, .int .u16 op]] w fun e w' => e = .returned (.int .i64 ((x.chg .con pr oi op).1 : Int)) ∧ PzI w' p rb ob (x.chg .con pr oi op).2 ∧ Beside (pzS p rb ob) w w' := by
  have H := Lib.hid h
  clear h
  generalize hY : x.chg .con pr oi op = Y
  obtain ⟨n, y⟩ := Y
  simp only []
  have HY := Lib.hid hY
  clear hY
  go_enter Try.func22, Try.ntmps22
  go_upto_region 1 with fail
  have A1 := EpB.made w oi op 34
  have B1 : Below w.heap.size w (w.alloc (.cells #[.int .u32 oi, .int .u16 op] 34)) := (Below.refl _ _).alloc (Nat.le_refl _) _
  have H1 := H.out.on B1
  generalize w.alloc (.cells #[.int .u32 oi, .int .u16 op] 34) = w1 at A1 B1 H1 ⊢
  have kt := pz_turn_ H1 few .con he
  simp only [Ch.dl, Ch.dh] at kt
  have a0 := A1.c0
  have a1 := A1.c1
  have BB := Lib.hid B1
  rw [HY.out] at kt
  simp only [] at kt
  clear A1 B1 H1 few
  go_wp2_with (go_at_call 42; refine kt.mono ?_; rintro e w5 ⟨rfl, h5, b5⟩)
  go_ret
  exact ⟨rfl, h5, (Beside.of BB.out).trans b5⟩
/-- (*Ports).Drop. -/
theorem pz_drp_ (h : PzI w p rb ob x) (few : x.Few 1000) {pr oi op : Int} (he : EOk pr oi op) : Calls Try.prog 23 #[.pointer (some ⟨p, 0, none⟩), .int .u8 pr, .agg #[.int .u32 oi, .int .u16 op]] w fun e w' => e = .returned (.int .i64 ((x.chg .drp pr oi op).1 : Int)) ∧ PzI w' p rb ob (x.chg .drp pr oi op).2 ∧ Beside (pzS p rb ob) w w' := by
  have H := Lib.hid h
  clear h
  generalize hY : x.chg .drp pr oi op = Y
  obtain ⟨n, y⟩ := Y
  simp only []
  have HY := Lib.hid hY
  clear hY
  go_enter Try.func23, Try.ntmps23
  go_upto_region 1 with fail
  have A1 := EpB.made w oi op 34
  have B1 : Below w.heap.size w (w.alloc (.cells #[.int .u32 oi, .int .u16 op] 34)) := (Below.refl _ _).alloc (Nat.le_refl _) _
  have H1 := H.out.on B1
  generalize w.alloc (.cells #[.int .u32 oi, .int .u16 op] 34) = w1 at A1 B1 H1 ⊢
  have kt := pz_turn_ H1 few .drp he
  simp only [Ch.dl, Ch.dh] at kt
  have a0 := A1.c0
  have a1 := A1.c1
  have BB := Lib.hid B1
  rw [HY.out] at kt
  simp only [] at kt
  clear A1 B1 H1 few
  go_wp2_with (go_at_call 42; refine kt.mono ?_; rintro e w5 ⟨rfl, h5, b5⟩)
  go_ret
  exact ⟨rfl, h5, (Beside.of BB.out).trans b5⟩
/-- (*Ports).Release. -/
theorem pz_rel_ (h : PzI w p rb ob x) (few : x.Few 1000) {pr oi op : Int} (he : EOk pr oi op) : Calls Try.prog 24 #[.pointer (some ⟨p, 0, none⟩), .int .u8 pr, .agg #[.int .u32 oi, .int .u16 op]] w fun e w' => e = .returned (.int .i64 ((x.chg .rel pr oi op).1 : Int)) ∧ PzI w' p rb ob (x.chg .rel pr oi op).2 ∧ Beside (pzS p rb ob) w w' := by
  have H := Lib.hid h
  clear h
  generalize hY : x.chg .rel pr oi op = Y
  obtain ⟨n, y⟩ := Y
  simp only []
  have HY := Lib.hid hY
  clear hY
  go_enter Try.func24, Try.ntmps24
  go_upto_region 1 with fail
  have A1 := EpB.made w oi op 34
  have B1 : Below w.heap.size w (w.alloc (.cells #[.int .u32 oi, .int .u16 op] 34)) := (Below.refl _ _).alloc (Nat.le_refl _) _
  have H1 := H.out.on B1
  generalize w.alloc (.cells #[.int .u32 oi, .int .u16 op] 34) = w1 at A1 B1 H1 ⊢
  have kt := pz_turn_ H1 few .rel he
  simp only [Ch.dl, Ch.dh] at kt
  have a0 := A1.c0
  have a1 := A1.c1
  have BB := Lib.hid B1
  rw [HY.out] at kt
  simp only [] at kt
  clear A1 B1 H1 few
  go_wp2_with (go_at_call 42; refine kt.mono ?_; rintro e w5 ⟨rfl, h5, b5⟩)
  go_ret
  exact ⟨rfl, h5, (Beside.of BB.out).trans b5⟩
end
end Go.Proofs.Ytbbadpidolfleaa

namespace Go.Proofs.Ytbbadpidolfleaa
set_option linter.unusedVariables false
set_option maxRecDepth 100000
set_option linter.unusedSimpArgs false
open Go.ChangeShapes Go.WideShapes Go.ChangeAt Go.RowKit Go.PlainAid
attribute [local go_sem ↓] Go.wp_at_zero Go.wp_at_succ
theorem fix_have {x : Po} {pr ii ip oi op : Int} {r : Ro} (h : x.ofI pr ii ip = some r) (e : ¬ (r.oi = oi ∧ r.op = op)) : x.fix pr ii ip oi op = (7, x) := by unfold Po.fix; rw [h]; simp only []; rw [if_neg e]
theorem fix_hold {x : Po} {pr ii ip oi op : Int} {r : Ro} (h : x.ofI pr ii ip = some r) (e : r.oi = oi ∧ r.op = op) : x.fix pr ii ip oi op = (0, x.hold pr ii ip) := by unfold Po.fix; rw [h]; simp only []; rw [if_pos e]
theorem fix_busy {x : Po} {pr ii ip oi op : Int} {r : Ro} (h : x.ofI pr ii ip = none) (e : x.ofO pr oi op = some r) : x.fix pr ii ip oi op = (10, x) := by unfold Po.fix; rw [h]; simp only []; rw [e]
theorem fix_new {x : Po} {pr ii ip oi op : Int} (h : x.ofI pr ii ip = none) (e : x.ofO pr oi op = none) : x.fix pr ii ip oi op = (0, ⟨Po.ins x.l ⟨pr, oi, op, ii, ip, 0, 1⟩⟩) := by unfold Po.fix; rw [h]; simp only []; rw [e]
section
variable {w w' : World} {p rb ob : Nat} {x x' : Po}
set_option maxHeartbeats 3000000 in
/-- (*Ports).Fix. -/
theorem pz_fix_ (h : PzI w p rb ob x) (few : x.Few 1000) {pr ii ip oi op : Int} (he : EOk pr ii ip) (ho : EOk pr oi op) : Calls Try.prog 21 #[.pointer (some ⟨p, 0, none⟩), .int .u8 pr, .agg #[.int .u32 ii, .int .u16 ip], .agg #[.int .u32 oi, .int .u16 op]] w fun e w' => e = .returned (.int .i64 ((x.fix pr ii ip oi op).1 : Int)) ∧ PzI w' p rb ob (x.fix pr ii ip oi op).2 ∧ Beside (pzS p rb ob) w w' := by
  have H := Lib.hid h
  have HF := Lib.hid few
  have HOK := Lib.hid h.ok
  clear h few
  generalize hY : x.fix pr ii ip oi op = Y
  obtain ⟨n, y⟩ := Y
  simp only []
  have HY := Lib.hid hY
  clear hY
  go_enter Try.func21, Try.ntmps21
  go_upto_region 1 with fail
  have A1 := (EpB.made w ii ip 34).on ((Below.refl _ _).alloc (Nat.le_refl _) (.cells #[.int .u32 oi, .int .u16 op] 34))
  have C1 := EpB.made (w.alloc (.cells #[.int .u32 ii, .int .u16 ip] 34)) oi op 34
  have hz : (w.alloc (.cells #[.int .u32 ii, .int .u16 ip] 34)).heap.size = w.heap.size + 1 := by simp
  rw [hz] at C1
  have B1 : Below w.heap.size w ((w.alloc (.cells #[.int .u32 ii, .int .u16 ip] 34)).alloc (.cells #[.int .u32 oi, .int .u16 op] 34)) := ((Below.refl _ _).alloc (Nat.le_refl _) _).alloc (by simp) _
  have H1 := H.out.on B1
  clear hz
  generalize ((w.alloc (.cells #[.int .u32 ii, .int .u16 ip] 34)).alloc (.cells #[.int .u32 oi, .int .u16 op] 34)) = w1 at A1 C1 B1 H1 ⊢
  have kn := pz_none_ H1
  have ko := pz_of_ H1 he
  have a0 := A1.c0
  have a1 := A1.c1
  have BB := Lib.hid B1
  have HH := Lib.hid H1
  have HA := Lib.hid (And.intro A1 C1)
  clear A1 C1 B1 H1
  unfold rowV at ko
  cases hi : x.ofI pr ii ip with
  | some r =>
    rw [hi] at ko
    simp only [Option.getD_some, Option.isSome_some] at ko
    obtain ⟨hr, q1, q2, q3⟩ := Po.ofI_some hi
    have HR := Lib.hid (And.intro hr (And.intro q1 (And.intro q2 q3)))
    have HI := Lib.hid hi
    clear hr q1 q2 q3 hi
    go_upto_region 4 with (first | (go_at_call 29; refine kn.mono ?_; rintro e w2 ⟨rfl, hw⟩; obtain rfl : w1 = w2 := hw.symm) | (go_at_call 14; refine ko.mono ?_; rintro e w2 ⟨rfl, b2⟩))
    have A2 := RowB.made w2 r 44
    have b3 := b2.trans ((Below.refl _ _).alloc b2.size (.cells #[.int .u8 r.pr, .int .u32 r.oi, .int .u16 r.op, .int .u32 r.ii, .int .u16 r.ip, .int .i64 (r.lv : Int), .int .i64 (r.hd : Int)] 44))
    have HA3 := HA.out.1.on b3
    have HC3 := HA.out.2.on b3
    have H3 := HH.out.on b3
    have B3 := BB.out.trans (b3.mono BB.out.size)
    clear kn ko a0 a1 b2 b3 BB HH HA
    generalize w2.alloc (.cells #[.int .u8 r.pr, .int .u32 r.oi, .int .u16 r.op, .int .u32 r.ii, .int .u16 r.ip, .int .i64 (r.lv : Int), .int .i64 (r.hd : Int)] 44) = w3 at A2 HA3 HC3 H3 B3 ⊢
    generalize w2.heap.size = c at A2 ⊢
    obtain ⟨_, z0, z1, z2, z3, z4, z5, z6, zf⟩ := id A2
    have c0 := HC3.c0
    have c1 := HC3.c1
    have BB := Lib.hid B3
    have HH := Lib.hid H3
    clear A2 HA3 HC3 H3 B3
    by_cases heq : r.oi = oi ∧ r.op = op
    · have HV := Lib.hid (fix_hold HI.out heq)
      have HV2 := Lib.hid (HY.out.symm.trans HV.out)
      have e1 := heq.1
      have e2 := heq.2
      have L : Laid x (x.hold pr ii ip) { r with hd := r.hd + 1 } := by
        have L := laid_hold HOK.out HR.out.1
        have e : x.hold r.pr r.ii r.ip = x.hold pr ii ip := by rw [HR.out.2.1, HR.out.2.2.1, HR.out.2.2.2]
        rw [e] at L
        exact L
      have hd1 : r.hd ≤ 1000 := by have := HF.out.by_ r HR.out.1; omega
      have kh := pz_hold_ HH.out HF.out.len (HOK.out.low r HR.out.1) hd1 L
      rw [e1, e2] at kh
      rw [e1] at z1
      rw [e2] at z2
      clear heq e1 e2 L hd1
      go_wp2_with (go_at_call 35; refine kh.mono ?_; rintro e w5 ⟨⟨u, rfl⟩, h5, b5⟩)
      go_ret
      have hv := HV2.out
      injection hv with hv1 hv2
      rw [hv1, hv2]
      exact ⟨rfl, h5, (Beside.of BB.out).trans b5⟩
    · have HV := Lib.hid (fix_have HI.out heq)
      have HV2 := Lib.hid (HY.out.symm.trans HV.out)
      by_cases n1 : r.oi = oi
      · have n2 : ¬ r.op = op := fun e => heq ⟨n1, e⟩
        have t1 : (r.op == op) = false := beq_false_of_ne n2
        rw [n1] at z1
        clear heq n1
        go_wp2
        go_ret
        have hv := HV2.out
        injection hv with hv1 hv2
        rw [hv1, hv2]
        exact ⟨rfl, HH.out, Beside.of BB.out⟩
      · have t1 : (r.oi == oi) = false := beq_false_of_ne n1
        clear heq
        go_wp2
        go_ret
        have hv := HV2.out
        injection hv with hv1 hv2
        rw [hv1, hv2]
        exact ⟨rfl, HH.out, Beside.of BB.out⟩
  | none =>
    rw [hi] at ko
    simp only [Option.getD_none, Option.isSome_none, Ro.zero] at ko
    have HI := Lib.hid hi
    clear hi
    go_upto_region 4 with (first | (go_at_call 29; refine kn.mono ?_; rintro e w2 ⟨rfl, hw⟩; obtain rfl : w1 = w2 := hw.symm) | (go_at_call 14; refine ko.mono ?_; rintro e w2 ⟨rfl, b2⟩))
    have A2 := RowB.none w2 44
    have b3 := b2.trans ((Below.refl _ _).alloc b2.size (.cells #[.int .u8 0, .int .u32 0, .int .u16 0, .int .u32 0, .int .u16 0, .int .i64 0, .int .i64 0] 44))
    have HA3 := HA.out.1.on b3
    have HC3 := HA.out.2.on b3
    have H3 := HH.out.on b3
    have B3 := BB.out.trans (b3.mono BB.out.size)
    have lc : w.heap.size ≤ w2.heap.size := Nat.le_trans BB.out.size b2.size
    clear kn ko a0 a1 b2 b3 BB HH HA
    generalize w2.alloc (.cells #[.int .u8 0, .int .u32 0, .int .u16 0, .int .u32 0, .int .u16 0, .int .i64 0, .int .i64 0] 44) = w3 at A2 HA3 HC3 H3 B3 ⊢
    generalize w2.heap.size = c at A2 lc ⊢
    have c0 := HC3.c0
    have c1 := HC3.c1
    have kt := pz_taken_ H3 ho
    have BB := Lib.hid B3
    have HH := Lib.hid H3
    have HA := Lib.hid (And.intro A2 (And.intro HA3 HC3))
    have LC := Lib.hid lc
    clear A2 HA3 HC3 H3 B3 lc
    cases hq : x.ofO pr oi op with
    | some r =>
      rw [hq] at kt
      simp only [Option.isSome_some] at kt
      have HV2 := Lib.hid (HY.out.symm.trans (fix_busy HI.out hq))
      clear hq
      go_wp2_with (go_at_call 41; refine kt.mono ?_; rintro e w5 ⟨rfl, b5⟩)
      go_ret
      have hv := HV2.out
      injection hv with hv1 hv2
      rw [hv1, hv2]
      exact ⟨rfl, HH.out.on b5, Beside.of (BB.out.trans (b5.mono BB.out.size))⟩
    | none =>
      rw [hq] at kt
      simp only [Option.isSome_none] at kt
      have HV2 := Lib.hid (HY.out.symm.trans (fix_new HI.out hq))
      have L : Laid x ⟨Po.ins x.l ⟨pr, oi, op, ii, ip, 0, 1⟩⟩ ⟨pr, oi, op, ii, ip, 0, 1⟩ := laid_ins HOK.out (t := ⟨pr, oi, op, ii, ip, 0, 1⟩) hq HI.out (he.row ho) (by show 0 < 0 + 1; omega)
      have LL := Lib.hid L
      clear hq L
      go_upto_region 8 with (go_at_call 41; refine kt.mono ?_; rintro e w5 ⟨rfl, b5⟩)
      have A5 := HA.out.1.on b5
      have HH5 := HH.out.on b5
      have B5 := BB.out.trans (b5.mono BB.out.size)
      have i0 := (HA.out.2.1.on b5).c0
      have i1 := (HA.out.2.1.on b5).c1
      have o0 := (HA.out.2.2.on b5).c0
      have o1 := (HA.out.2.2.on b5).c1
      obtain ⟨_, z0, z1, z2, z3, z4, z5, z6, zf⟩ := id A5
      simp only [Ro.zero] at z0 z1 z2 z3 z4 z5 z6
      have HA5 := Lib.hid A5
      have HHH := Lib.hid (And.intro HH5 B5)
      clear A5 HH5 B5 b5 kt c0 c1 HA HH BB
      go_upto_region 10 with fail
      clear i0 i1 o0 o1 z0 z1 z2 z3 z4 z5 z6 zf
      refine row_ (r := ⟨pr, oi, op, ii, ip, 0, 0⟩) HA5.out fun X hX bX => ?_
      have B6 := one_box HHH.out.2 bX LC.out HHH.out.2.size
      obtain ⟨_, z0, z1, z2, z3, z4, z5, z6, zf⟩ := id hX
      simp only [] at z0 z1 z2 z3 z4 z5 z6
      have kh := pz_hold_ (H.out.on B6) HF.out.len (r := ⟨pr, oi, op, ii, ip, 0, 0⟩) (he.row ho |> fun q => ⟨q.pr0, q.pr1, q.oi0, q.oi1, q.op0, q.op1, q.ii0, q.ii1, q.ip0, q.ip1⟩) (Nat.zero_le _) LL.out
      simp only [] at kh
      have BB := Lib.hid B6
      clear hX bX B6
      go_wp2_with (go_at_call 35; refine kh.mono ?_; rintro e w7 ⟨⟨u, rfl⟩, h7, b7⟩)
      go_ret
      have hv := HV2.out
      injection hv with hv1 hv2
      rw [hv1, hv2]
      exact ⟨rfl, h7, (Beside.of BB.out).trans b7⟩
end
end Go.Proofs.Ytbbadpidolfleaa
