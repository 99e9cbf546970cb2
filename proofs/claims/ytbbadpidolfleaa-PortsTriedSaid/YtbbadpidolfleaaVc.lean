/- Texts of this proof, together: PzB, PzCa. -/
import Derived.Test.YtbbadpidolfleaaVb
namespace Go.Proofs.Ytbbadpidolfleaa
set_option linter.unusedVariables false
set_option maxRecDepth 100000
set_option linter.unusedSimpArgs false
open Go.ChangeShapes Go.WideShapes Go.ChangeAt Go.RowKit Go.PlainAid
attribute [local go_sem ↓] Go.wp_at_zero Go.wp_at_succ
section
variable {w w' : World} {p rb ob : Nat} {x : Po}
set_option maxHeartbeats 1000000 in
/-- (*Ports).Owner. -/
theorem pz_owner_ (h : PzI w p rb ob x) {pr oi op : Int} (he : EOk pr oi op) : Says Try.prog 15 #[.pointer (some ⟨p, 0, none⟩), .int .u8 pr, .agg #[.int .u32 oi, .int .u16 op]] w (rowV (x.ofO pr oi op)) := by
  have H := Lib.hid h
  clear h
  show Calls _ _ _ _ _
  go_enter Try.func15, Try.ntmps15
  go_upto_region 1 with fail
  have A1 := EpB.made w oi op 34
  have Z1 := RowB.none (w.alloc (.cells #[.int .u32 oi, .int .u16 op] 34)) 44
  have hz : (w.alloc (.cells #[.int .u32 oi, .int .u16 op] 34)).heap.size = w.heap.size + 1 := by simp
  have A2 := A1.on ((Below.refl _ _).alloc (Nat.le_refl _) (.cells #[.int .u8 0, .int .u32 0, .int .u16 0, .int .u32 0, .int .u16 0, .int .i64 0, .int .i64 0] 44))
  rw [hz] at Z1
  have B1 : Below w.heap.size w ((w.alloc (.cells #[.int .u32 oi, .int .u16 op] 34)).alloc (.cells #[.int .u8 0, .int .u32 0, .int .u16 0, .int .u32 0, .int .u16 0, .int .i64 0, .int .i64 0] 44)) := ((Below.refl _ _).alloc (Nat.le_refl _) _).alloc (by simp) _
  have H1 := H.out.on B1
  generalize (w.alloc (.cells #[.int .u32 oi, .int .u16 op] 34)).alloc (.cells #[.int .u8 0, .int .u32 0, .int .u16 0, .int .u32 0, .int .u16 0, .int .i64 0, .int .i64 0] 44) = w1 at Z1 B1 A2 H1 ⊢
  clear A1 hz H
  have kn := pz_none_ H1
  have a0 := A2.c0
  have a1 := A2.c1
  have c0 := H1.c0
  have fr := Z1.fr
  obtain ⟨_, z0, z1, z2, z3, z4, z5, z6, _⟩ := id Z1
  have HZ := Lib.hid Z1
  cases hq : x.ofO pr oi op with
  | some r =>
    have hl : (Instr.lookup 60 (.map (some rb)) (.agg #[.int .u8 pr, .int .u32 oi, .int .u16 op]) true).run Try.prog w1.drew = .ok (.tuple #[.agg #[.int .u8 r.pr, .int .u32 r.oi, .int .u16 r.op, .int .u32 r.ii, .int .u16 r.ip, .int .i64 (r.lv : Int), .int .i64 (r.hd : Int)], .bool true]) w1.drew :=
      (H1.mr.on (w' := w1.drew) (Below.refl _ _).drew).look2 Try.underlying60 Try.zeroValue44 (rows_mem hq)
    have BB := Lib.hid B1
    have HQ := Lib.hid hq
    clear Z1 A2 H1 hq B1
    go_upto_region 3 with (go_at_call 29; refine kn.mono ?_; rintro e w2 ⟨rfl, hw⟩; obtain rfl : w1 = w2 := hw.symm)
    go_region
    clear z0 z1 z2 z3 z4 z5 z6 fr hl kn a0 a1 c0
    refine row_d HZ.out fun X hX bX => ?_
    have B2 := Lib.hid (one_box BB.out bX (Nat.le_succ _) BB.out.size)
    obtain ⟨_, z0, z1, z2, z3, z4, z5, z6, fr⟩ := id hX
    have HX := Lib.hid hX
    clear hX bX HZ BB
    go_upto_region 4 with fail
    go_wp2
    refine row_ HX.out fun Y hY bY => ?_
    obtain ⟨_, y0, y1, y2, y3, y4, y5, y6, fy⟩ := id hY
    have B3 := one_box B2.out bY (Nat.le_succ _) B2.out.size
    clear HX z0 z1 z2 z3 z4 z5 z6 fr bY hY
    go_wp2
    refine bodyPost_ret (v := rowV (some r)) (by simp [results, Try.results15, go_sem, y0, y1, y2, y3, y4, y5, y6, rowV]) rfl ?_
    rw [HQ.out]
    exact ⟨rfl, B3⟩
  | none =>
    have hl : (Instr.lookup 60 (.map (some rb)) (.agg #[.int .u8 pr, .int .u32 oi, .int .u16 op]) true).run Try.prog w1.drew = .ok (.tuple #[.agg #[.int .u8 0, .int .u32 0, .int .u16 0, .int .u32 0, .int .u16 0, .int .i64 0, .int .i64 0], .bool false]) w1.drew :=
      (H1.mr.on (w' := w1.drew) (Below.refl _ _).drew).miss Try.underlying60 Try.zeroValue44 (k := ⟨pr, oi, op⟩) he (rows_none hq)
    have BB := Lib.hid B1
    have HQ := Lib.hid hq
    clear Z1 A2 H1 hq B1
    go_upto_region 3 with (go_at_call 29; refine kn.mono ?_; rintro e w2 ⟨rfl, hw⟩; obtain rfl : w1 = w2 := hw.symm)
    go_region
    clear z0 z1 z2 z3 z4 z5 z6 fr hl kn a0 a1 c0
    refine row_d (r := Ro.zero) HZ.out fun X hX bX => ?_
    have B2 := Lib.hid (one_box BB.out bX (Nat.le_succ _) BB.out.size)
    obtain ⟨_, z0, z1, z2, z3, z4, z5, z6, fr⟩ := id hX
    have HX := Lib.hid hX
    clear hX bX HZ BB
    simp only [Ro.zero] at z0 z1 z2 z3 z4 z5 z6
    go_upto_region 4 with fail
    go_wp2
    refine row_ (r := Ro.zero) HX.out fun Y hY bY => ?_
    obtain ⟨_, y0, y1, y2, y3, y4, y5, y6, fy⟩ := id hY
    have B3 := one_box B2.out bY (Nat.le_succ _) B2.out.size
    clear HX z0 z1 z2 z3 z4 z5 z6 fr bY hY
    go_wp2
    refine bodyPost_ret (v := rowV none) (by simp [results, Try.results15, go_sem, y0, y1, y2, y3, y4, y5, y6, rowV]) rfl ?_
    rw [HQ.out]
    exact ⟨rfl, B3⟩
set_option maxHeartbeats 1000000 in
/-- (*Ports).taken. -/
theorem pz_taken_ (h : PzI w p rb ob x) {pr oi op : Int} (he : EOk pr oi op) : Says Try.prog 41 #[.pointer (some ⟨p, 0, none⟩), .int .u8 pr, .agg #[.int .u32 oi, .int .u16 op]] w (.bool (x.ofO pr oi op).isSome) := by
  have H := Lib.hid h
  clear h
  show Calls _ _ _ _ _
  go_enter Try.func41, Try.ntmps41
  go_upto_region 1 with fail
  have A1 := EpB.made w oi op 34
  have B1 : Below w.heap.size w (w.alloc (.cells #[.int .u32 oi, .int .u16 op] 34)) := (Below.refl _ _).alloc (Nat.le_refl _) _
  have H1 := H.out.on B1
  generalize w.alloc (.cells #[.int .u32 oi, .int .u16 op] 34) = w1 at A1 B1 H1 ⊢
  clear H
  have ko := pz_owner_ H1 he
  have a0 := A1.c0
  have a1 := A1.c1
  have BB := Lib.hid B1
  clear A1 H1 B1
  unfold rowV at ko
  cases hq : x.ofO pr oi op with
  | some r =>
    rw [hq] at ko
    simp only [Option.getD_some, Option.isSome_some] at ko
    go_upto_region 2 with (go_at_call 15; refine ko.mono ?_; rintro e w2 ⟨rfl, b2⟩)
    have B2 := Lib.hid ((BB.out.trans (b2.mono BB.out.size)).alloc (Nat.le_trans BB.out.size b2.size) (.cells #[.int .u8 r.pr, .int .u32 r.oi, .int .u16 r.op, .int .u32 r.ii, .int .u16 r.ip, .int .i64 (r.lv : Int), .int .i64 (r.hd : Int)] 44))
    go_wp2
    go_ret
    rw [hq]
    exact ⟨rfl, B2.out⟩
  | none =>
    rw [hq] at ko
    simp only [Option.getD_none, Option.isSome_none, Ro.zero] at ko
    go_upto_region 2 with (go_at_call 15; refine ko.mono ?_; rintro e w2 ⟨rfl, b2⟩)
    have B2 := Lib.hid ((BB.out.trans (b2.mono BB.out.size)).alloc (Nat.le_trans BB.out.size b2.size) (.cells #[.int .u8 0, .int .u32 0, .int .u16 0, .int .u32 0, .int .u16 0, .int .i64 0, .int .i64 0] 44))
    go_wp2
    go_ret
    rw [hq]
    exact ⟨rfl, B2.out⟩
set_option maxHeartbeats 2000000 in
/-- (*Ports).Of. -/
theorem pz_of_ (h : PzI w p rb ob x) {pr ii ip : Int} (he : EOk pr ii ip) : Says Try.prog 14 #[.pointer (some ⟨p, 0, none⟩), .int .u8 pr, .agg #[.int .u32 ii, .int .u16 ip]] w (rowV (x.ofI pr ii ip)) := by
  have H := Lib.hid h
  clear h
  show Calls _ _ _ _ _
  go_enter Try.func14, Try.ntmps14
  go_upto_region 1 with fail
  have A1 := EpB.made w ii ip 34
  have Z1 := RowB.none (w.alloc (.cells #[.int .u32 ii, .int .u16 ip] 34)) 44
  have hz : (w.alloc (.cells #[.int .u32 ii, .int .u16 ip] 34)).heap.size = w.heap.size + 1 := by simp
  have A2 := A1.on ((Below.refl _ _).alloc (Nat.le_refl _) (.cells #[.int .u8 0, .int .u32 0, .int .u16 0, .int .u32 0, .int .u16 0, .int .i64 0, .int .i64 0] 44))
  rw [hz] at Z1
  have B1 : Below w.heap.size w ((w.alloc (.cells #[.int .u32 ii, .int .u16 ip] 34)).alloc (.cells #[.int .u8 0, .int .u32 0, .int .u16 0, .int .u32 0, .int .u16 0, .int .i64 0, .int .i64 0] 44)) := ((Below.refl _ _).alloc (Nat.le_refl _) _).alloc (by simp) _
  have H1 := H.out.on B1
  generalize (w.alloc (.cells #[.int .u32 ii, .int .u16 ip] 34)).alloc (.cells #[.int .u8 0, .int .u32 0, .int .u16 0, .int .u32 0, .int .u16 0, .int .i64 0, .int .i64 0] 44) = w1 at Z1 B1 A2 H1 ⊢
  clear A1 hz H
  have kn := pz_none_ H1
  have a0 := A2.c0
  have a1 := A2.c1
  have c1 := H1.c1
  have HZ := Lib.hid Z1
  have HH := Lib.hid H1
  cases hq : x.ofI pr ii ip with
  | some r =>
    have b1 : Below w1.heap.size w1 (w1.alloc (.cells #[.int .u32 0, .int .u16 0] 34)) := (Below.refl _ _).alloc (Nat.le_refl _) _
    have H2 := H1.on b1
    have A3 := A2.on b1
    have E2 := EpB.made w1 0 0 34
    have hl : (Instr.lookup 61 (.map (some ob)) (.agg #[.int .u8 pr, .int .u32 ii, .int .u16 ip]) true).run Try.prog (w1.alloc (.cells #[.int .u32 0, .int .u16 0] 34)).drew = .ok (.tuple #[.agg #[.int .u32 r.oi, .int .u16 r.op], .bool true]) (w1.alloc (.cells #[.int .u32 0, .int .u16 0] 34)).drew :=
      (H2.mo.on (w' := (w1.alloc (.cells #[.int .u32 0, .int .u16 0] 34)).drew) (Below.refl _ _).drew).look2 Try.underlying61 Try.zeroValue34 (outs_mem hq)
    have hl1 : (Instr.lookup 61 (.map (some ob)) (.agg #[.int .u8 pr, .int .u32 ii, .int .u16 ip]) true).run Try.prog w1.drew = .ok (.tuple #[.agg #[.int .u32 r.oi, .int .u16 r.op], .bool true]) w1.drew :=
      (H1.mo.on (w' := w1.drew) (Below.refl _ _).drew).look2 Try.underlying61 Try.zeroValue34 (outs_mem hq)
    have a0' := A3.c0
    have a1' := A3.c1
    have c1' := H2.c1
    have e0 := E2.c0
    have e1 := E2.c1
    have ef := E2.fr
    have B3 := Lib.hid (B1.alloc B1.size (.cells #[.int .u32 r.oi, .int .u16 r.op] 34)).drew
    have b3 : Below w1.heap.size w1 (w1.alloc (.cells #[.int .u32 r.oi, .int .u16 r.op] 34)).drew := ((Below.refl _ _).alloc (Nat.le_refl _) _).drew
    have E3 := Lib.hid ((EpB.made w1 (r.oi) (r.op) 34).on (w' := (w1.alloc (.cells #[.int .u32 r.oi, .int .u16 r.op] 34)).drew) (Below.refl _ _).drew)
    have HZ3 := Lib.hid (Z1.on b3)
    have HH3 := Lib.hid (H1.on b3)
    have HQ := Lib.hid hq
    clear Z1 A2 H1 hq B1 E2 b1 H2 A3 HH HZ b3
    go_upto_region 3 with (go_at_call 29; refine kn.mono ?_; rintro e w2 ⟨rfl, hw⟩; obtain rfl : w1 = w2 := hw.symm)
    go_region
    all_goals
      clear hl hl1 kn a0 a1 c1 a0' a1' c1' e0 e1 ef
      generalize (w1.alloc (.cells #[.int .u32 r.oi, .int .u16 r.op] 34)).drew = w3 at B3 E3 HZ3 HH3 ⊢
      have e0 := E3.out.c0
      have e1 := E3.out.c1
      have hoo : x.ofO pr r.oi r.op = some r := by
        obtain ⟨hm, q1, _, _⟩ := Po.ofI_some HQ.out
        rw [← q1]
        exact HH3.out.ok.ofO hm
      have ko := pz_owner_ HH3.out (pr := pr) (oi := r.oi) (op := r.op) (by
        have hm := HH3.out.mr.hk _ (List.mem_map.2 ⟨r, (Po.ofI_some HQ.out).1, rfl⟩)
        have hp : EOk r.pr r.oi r.op := hm
        rw [(Po.ofI_some HQ.out).2.1] at hp
        exact hp)
      rw [hoo] at ko
      unfold rowV at ko
      simp only [Option.getD_some, Option.isSome_some] at ko
      clear hoo
      go_upto_region 6 with fail
      go_wp2_with (go_at_call 15; refine ko.mono ?_; rintro e w4 ⟨rfl, b4⟩; have HZ4 := HZ3.out.on b4; obtain ⟨_, z0, z1, z2, z3, z4, z5, z6, fr⟩ := id HZ4; simp only [Ro.zero] at z0 z1 z2 z3 z4 z5 z6; have HZ5 := Lib.hid HZ4; clear HZ4)
      have B4 := Lib.hid (B3.out.trans (b4.mono B3.out.size))
      clear ko b4 e0 e1 HZ3
      refine row_ HZ5.out fun Y hY bY => ?_
      obtain ⟨_, y0, y1, y2, y3, y4, y5, y6, fy⟩ := id hY
      have B5 := one_box B4.out bY (Nat.le_succ _) B4.out.size
      clear z0 z1 z2 z3 z4 z5 z6 fr bY hY
      go_wp2
      refine bodyPost_ret (v := rowV (some r)) (by simp [results, Try.results14, go_sem, y0, y1, y2, y3, y4, y5, y6, rowV]) rfl ?_
      rw [HQ.out]
      exact ⟨rfl, B5⟩
  | none =>
    have b1 : Below w1.heap.size w1 (w1.alloc (.cells #[.int .u32 0, .int .u16 0] 34)) := (Below.refl _ _).alloc (Nat.le_refl _) _
    have H2 := H1.on b1
    have A3 := A2.on b1
    have E2 := EpB.made w1 0 0 34
    have hl : (Instr.lookup 61 (.map (some ob)) (.agg #[.int .u8 pr, .int .u32 ii, .int .u16 ip]) true).run Try.prog (w1.alloc (.cells #[.int .u32 0, .int .u16 0] 34)).drew = .ok (.tuple #[.agg #[.int .u32 0, .int .u16 0], .bool false]) (w1.alloc (.cells #[.int .u32 0, .int .u16 0] 34)).drew :=
      (H2.mo.on (w' := (w1.alloc (.cells #[.int .u32 0, .int .u16 0] 34)).drew) (Below.refl _ _).drew).miss Try.underlying61 Try.zeroValue34 (k := ⟨pr, ii, ip⟩) he (outs_none hq)
    have hl1 : (Instr.lookup 61 (.map (some ob)) (.agg #[.int .u8 pr, .int .u32 ii, .int .u16 ip]) true).run Try.prog w1.drew = .ok (.tuple #[.agg #[.int .u32 0, .int .u16 0], .bool false]) w1.drew :=
      (H1.mo.on (w' := w1.drew) (Below.refl _ _).drew).miss Try.underlying61 Try.zeroValue34 (k := ⟨pr, ii, ip⟩) he (outs_none hq)
    have a0' := A3.c0
    have a1' := A3.c1
    have c1' := H2.c1
    have e0 := E2.c0
    have e1 := E2.c1
    have ef := E2.fr
    have B3 := Lib.hid (B1.alloc B1.size (.cells #[.int .u32 0, .int .u16 0] 34)).drew
    have b3 : Below w1.heap.size w1 (w1.alloc (.cells #[.int .u32 0, .int .u16 0] 34)).drew := ((Below.refl _ _).alloc (Nat.le_refl _) _).drew
    have E3 := Lib.hid ((EpB.made w1 (0) (0) 34).on (w' := (w1.alloc (.cells #[.int .u32 0, .int .u16 0] 34)).drew) (Below.refl _ _).drew)
    have HZ3 := Lib.hid (Z1.on b3)
    have HH3 := Lib.hid (H1.on b3)
    have HQ := Lib.hid hq
    clear Z1 A2 H1 hq B1 E2 b1 H2 A3 HH HZ b3
    go_upto_region 3 with (go_at_call 29; refine kn.mono ?_; rintro e w2 ⟨rfl, hw⟩; obtain rfl : w1 = w2 := hw.symm)
    go_region
    all_goals
      clear hl hl1 kn a0 a1 c1 a0' a1' c1' e0 e1 ef
      generalize (w1.alloc (.cells #[.int .u32 0, .int .u16 0] 34)).drew = w3 at B3 E3 HZ3 HH3 ⊢
      obtain ⟨_, z0, z1, z2, z3, z4, z5, z6, fr⟩ := id HZ3.out
      simp only [Ro.zero] at z0 z1 z2 z3 z4 z5 z6
      go_upto_region 5 with fail
      go_wp2
      refine row_ (r := Ro.zero) HZ3.out fun Y hY bY => ?_
      obtain ⟨_, y0, y1, y2, y3, y4, y5, y6, fy⟩ := id hY
      have B5 := one_box B3.out bY (Nat.le_succ _) B3.out.size
      clear z0 z1 z2 z3 z4 z5 z6 fr bY hY
      go_wp2
      refine bodyPost_ret (v := rowV none) (by simp [results, Try.results14, go_sem, y0, y1, y2, y3, y4, y5, y6, rowV]) rfl ?_
      rw [HQ.out]
      exact ⟨rfl, B5⟩
end
end Go.Proofs.Ytbbadpidolfleaa

namespace Go.Proofs.Ytbbadpidolfleaa
set_option linter.unusedVariables false
set_option maxRecDepth 100000
set_option linter.unusedSimpArgs false
open Go.ChangeShapes Go.WideShapes Go.ChangeAt Go.RowKit Go.PlainAid
attribute [local go_sem ↓] Go.wp_at_zero Go.wp_at_succ
/-- A key's box. -/
structure EnB (w : World) (b : Nat) (k : En) : Prop where
  lt : b < w.heap.size
  c0 : w.cell? ⟨b, 0, none⟩ = some (.int .u8 k.pr)
  c1 : w.cell? ⟨b, 1, none⟩ = some (.int .u32 k.i)
  c2 : w.cell? ⟨b, 2, none⟩ = some (.int .u16 k.p)
section
variable {w w' : World} {b : Nat} {k : En}
theorem EnB.keep (h : EnB w b k) (hs : w.heap.size ≤ w'.heap.size) (hb : w'.heap[b]? = w.heap[b]?) : EnB w' b k :=
  ⟨Nat.lt_of_lt_of_le h.lt hs, (World.cell?_of_block (w := w) (a := ⟨b, 0, none⟩) hb).trans h.c0, (World.cell?_of_block (w := w) (a := ⟨b, 1, none⟩) hb).trans h.c1, (World.cell?_of_block (w := w) (a := ⟨b, 2, none⟩) hb).trans h.c2⟩
theorem EnB.on (h : EnB w b k) (hb : Below w.heap.size w w') : EnB w' b k := h.keep hb.size (hb.block b h.lt)
theorem EnB.made (w : World) (k : En) (T : TypeId) : EnB (w.alloc (.cells #[.int .u8 k.pr, .int .u32 k.i, .int .u16 k.p] T)) w.heap.size k :=
  have c := fun j => World.cell?_alloc_mark w #[.int .u8 k.pr, .int .u32 k.i, .int .u16 k.p] T (0, 0) j
  ⟨by simp, c 0, c 1, c 2⟩
end
/-- What is there behind lay: this row in place of the one that had its endpoints, or none. -/
structure Laid (x x' : Po) (r : Ro) : Prop where
  ok : x'.Ok
  mem : ∀ q, q ∈ x'.l ↔ (q = r ∧ 0 < r.lv + r.hd) ∨ (q ∈ x.l ∧ ¬ (q.pr = r.pr ∧ q.oi = r.oi ∧ q.op = r.op))
  inn : ∀ q ∈ x.l, (q.pr = r.pr ∧ q.oi = r.oi ∧ q.op = r.op) ↔ (q.pr = r.pr ∧ q.ii = r.ii ∧ q.ip = r.ip)
section
variable {x x' : Po} {r : Ro}
theorem nodup_keys {L : List (En × Value)} (h : L.Pairwise fun p q => p.1 ≠ q.1) : L.Nodup := h.imp fun {a b} hn e => hn (congrArg Prod.fst e)
theorem rows_keys (h : x.Ok) : (x.l.map Ro.eR).Pairwise fun p q => p.1 ≠ q.1 := List.pairwise_map.2 (h.st.imp fun {a b} hab (e : a.eR.1 = b.eR.1) => Ro.ahead_ne hab ⟨congrArg En.pr e, congrArg En.i e, congrArg En.p e⟩)
theorem outs_keys (h : x.Ok) : (x.l.map Ro.eO).Pairwise fun p q => p.1 ≠ q.1 := List.pairwise_map.2 (h.nd.imp fun {a b} hab (e : a.eO.1 = b.eO.1) => hab ⟨congrArg En.pr e, congrArg En.i e, congrArg En.p e⟩)
theorem but_nd {L : List (En × Value)} (h : L.Pairwise fun p q => p.1 ≠ q.1) (k : En) : (butV L k).Pairwise fun p q => p.1 ≠ q.1 := h.sublist List.filter_sublist
theorem cons_nd {L : List (En × Value)} (h : L.Pairwise fun p q => p.1 ≠ q.1) (k : En) (v : Value) : ((k, v) :: butV L k).Pairwise fun p q => p.1 ≠ q.1 := List.pairwise_cons.2 ⟨fun q hq e => (KeyK.but_mem.1 hq).2 e.symm, but_nd h k⟩
theorem key_ne {q r : Ro} : (q.eR.1 ≠ (⟨r.pr, r.oi, r.op⟩ : En)) ↔ ¬ (q.pr = r.pr ∧ q.oi = r.oi ∧ q.op = r.op) := by
  unfold Ro.eR
  simp only [ne_eq, En.mk.injEq]
theorem key_ne' {q r : Ro} : (q.eO.1 ≠ (⟨r.pr, r.ii, r.ip⟩ : En)) ↔ ¬ (q.pr = r.pr ∧ q.ii = r.ii ∧ q.ip = r.ip) := by
  unfold Ro.eO
  simp only [ne_eq, En.mk.injEq]
theorem Laid.rows_live (h : Laid x x' r) (hx : x.Ok) (hl : 0 < r.lv + r.hd) : (((⟨r.pr, r.oi, r.op⟩ : En), r.v) :: butV (x.l.map Ro.eR) ⟨r.pr, r.oi, r.op⟩).Perm (x'.l.map Ro.eR) := by
  refine (List.perm_ext_iff_of_nodup (nodup_keys (cons_nd (rows_keys hx) _ _)) (nodup_keys (rows_keys h.ok))).2 fun a => ?_
  rw [List.mem_cons, KeyK.but_mem, List.mem_map, List.mem_map]
  constructor
  · rintro (rfl | ⟨⟨q, hq, rfl⟩, hn⟩)
    · exact ⟨r, (h.mem r).2 (.inl ⟨rfl, hl⟩), rfl⟩
    · exact ⟨q, (h.mem q).2 (.inr ⟨hq, key_ne.1 hn⟩), rfl⟩
  · rintro ⟨q, hq, rfl⟩
    rcases (h.mem q).1 hq with ⟨rfl, _⟩ | ⟨hq, hn⟩
    · exact .inl rfl
    · exact .inr ⟨⟨q, hq, rfl⟩, key_ne.2 hn⟩
theorem Laid.rows_dead (h : Laid x x' r) (hx : x.Ok) (hl : ¬ 0 < r.lv + r.hd) : (butV (x.l.map Ro.eR) ⟨r.pr, r.oi, r.op⟩).Perm (x'.l.map Ro.eR) := by
  refine (List.perm_ext_iff_of_nodup (nodup_keys (but_nd (rows_keys hx) _)) (nodup_keys (rows_keys h.ok))).2 fun a => ?_
  rw [KeyK.but_mem, List.mem_map, List.mem_map]
  constructor
  · rintro ⟨⟨q, hq, rfl⟩, hn⟩
    exact ⟨q, (h.mem q).2 (.inr ⟨hq, key_ne.1 hn⟩), rfl⟩
  · rintro ⟨q, hq, rfl⟩
    rcases (h.mem q).1 hq with ⟨_, h0⟩ | ⟨hq, hn⟩
    · exact absurd h0 hl
    · exact ⟨⟨q, hq, rfl⟩, key_ne.2 hn⟩
theorem Laid.outs_live (h : Laid x x' r) (hx : x.Ok) (hl : 0 < r.lv + r.hd) : (((⟨r.pr, r.ii, r.ip⟩ : En), Value.agg #[.int .u32 r.oi, .int .u16 r.op]) :: butV (x.l.map Ro.eO) ⟨r.pr, r.ii, r.ip⟩).Perm (x'.l.map Ro.eO) := by
  refine (List.perm_ext_iff_of_nodup (nodup_keys (cons_nd (outs_keys hx) _ _)) (nodup_keys (outs_keys h.ok))).2 fun a => ?_
  rw [List.mem_cons, KeyK.but_mem, List.mem_map, List.mem_map]
  constructor
  · rintro (rfl | ⟨⟨q, hq, rfl⟩, hn⟩)
    · exact ⟨r, (h.mem r).2 (.inl ⟨rfl, hl⟩), rfl⟩
    · exact ⟨q, (h.mem q).2 (.inr ⟨hq, fun e => key_ne'.1 hn ((h.inn q hq).1 e)⟩), rfl⟩
  · rintro ⟨q, hq, rfl⟩
    rcases (h.mem q).1 hq with ⟨rfl, _⟩ | ⟨hq, hn⟩
    · exact .inl rfl
    · exact .inr ⟨⟨q, hq, rfl⟩, key_ne'.2 fun e => hn ((h.inn q hq).2 e)⟩
theorem Laid.outs_dead (h : Laid x x' r) (hx : x.Ok) (hl : ¬ 0 < r.lv + r.hd) : (butV (x.l.map Ro.eO) ⟨r.pr, r.ii, r.ip⟩).Perm (x'.l.map Ro.eO) := by
  refine (List.perm_ext_iff_of_nodup (nodup_keys (but_nd (outs_keys hx) _)) (nodup_keys (outs_keys h.ok))).2 fun a => ?_
  rw [KeyK.but_mem, List.mem_map, List.mem_map]
  constructor
  · rintro ⟨⟨q, hq, rfl⟩, hn⟩
    exact ⟨q, (h.mem q).2 (.inr ⟨hq, fun e => key_ne'.1 hn ((h.inn q hq).1 e)⟩), rfl⟩
  · rintro ⟨q, hq, rfl⟩
    rcases (h.mem q).1 hq with ⟨_, h0⟩ | ⟨hq, hn⟩
    · exact absurd h0 hl
    · exact ⟨⟨q, hq, rfl⟩, key_ne'.2 fun e => hn ((h.inn q hq).2 e)⟩
end
section
variable {W W3 W4 : World} {p rb ob : Nat} {x x' : Po}
/-- One map has turned; then the other one. -/
theorem PzI.mid (H : PzI W p rb ob x) (t : W.drew.mapTurned W3 rb) : W3.cell? ⟨p, 1, none⟩ = some (.map (some ob)) ∧ enK.Map W3 ob (x.l.map Ro.eO) ∧ W.heap.size ≤ W3.heap.size ∧ ∀ k, k < W.heap.size → k ≠ rb → W3.heap[k]? = W.heap[k]? := by
  have g := t.grown
  have blk : ∀ k, k < W.heap.size → k ≠ rb → W3.heap[k]? = W.heap[k]? := fun k hk hn => g.block k hk (fun e => hn (by injection e))
  exact ⟨(World.cell?_of_block (w := W) (a := ⟨p, 1, none⟩) (blk p H.lp H.ne0)).trans H.c1, H.mo.keep (blk ob H.mo.lt (Ne.symm H.ne)), g.size, blk⟩
theorem PzI.fin (H : PzI W p rb ob x) (ok : x'.Ok) (m3 : enK.Map W3 rb (x'.l.map Ro.eR)) (t : W.drew.mapTurned W3 rb) (m4 : enK.Map W4 ob (x'.l.map Ro.eO)) (u : W3.drew.mapTurned W4 ob) : PzI W4 p rb ob x' ∧ Beside (pzS p rb ob) W W4 := by
  have g := t.grown
  have g2 := u.grown
  obtain ⟨_, _, sz, blk⟩ := H.mid t
  have sz2 : W3.heap.size ≤ W4.heap.size := g2.size
  have blk2 : ∀ k, k < W3.heap.size → k ≠ ob → W4.heap[k]? = W3.heap[k]? := fun k hk hn => g2.block k hk (fun e => hn (by injection e))
  have bp : W4.heap[p]? = W.heap[p]? := (blk2 p (Nat.lt_of_lt_of_le H.lp sz) H.ne1).trans (blk p H.lp H.ne0)
  exact ⟨⟨ok, Nat.lt_of_lt_of_le H.lp (Nat.le_trans sz sz2), (World.cell?_of_block (w := W) (a := ⟨p, 0, none⟩) bp).trans H.c0, (World.cell?_of_block (w := W) (a := ⟨p, 1, none⟩) bp).trans H.c1, m3.keep (blk2 rb m3.lt H.ne), m4, H.ne⟩,
    ⟨g2.os.trans g.os, g2.tape.trans g.tape, g2.output.trans g.output, Nat.le_trans sz sz2, fun k hk hn => (blk2 k (Nat.lt_of_lt_of_le hk sz) (fun e => hn (.inr (.inr e)))).trans (blk k hk (fun e => hn (.inr (.inl e))))⟩⟩
end
theorem zero_sum {a b : Nat} (h : ¬ 0 < a + b) : a = 0 ∧ b = 0 := by omega
theorem some_sum {a b : Nat} (h : 0 < a + b) : 0 < a ∨ a = 0 ∧ 0 < b := by omega
end Go.Proofs.Ytbbadpidolfleaa
