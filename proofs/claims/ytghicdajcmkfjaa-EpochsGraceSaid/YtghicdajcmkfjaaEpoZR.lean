/- The code's epochs (layer 14): Ripe. Written by gen_epozr.py. -/
import Derived.Test.YtghicdajcmkfjaaEpoZE
namespace Go.Proofs.Ytghicdajcmkfjaa
set_option linter.unusedVariables false
set_option linter.unusedSimpArgs false
open Go.ChangeShapes Go.WideShapes Go.ChangeAt Go.RowKit Go.PlainAid
attribute [local go_sem ↓] Go.wp_at_zero Go.wp_at_succ
theorem Ep.over_all (x : Ep) : x.ripeT = { x with l := x.l.filter fun r => !x.over r } ∧ x.ripe = (x.l.filter x.over).map (fun r => r.1) := by
  refine ⟨?_, rfl⟩
  unfold Ep.ripeT Ep.over
  simp only [decide_not]
/-- The slots of the first k. -/
def slotsL (l : List (Nat × Nat)) (k : Nat) : List Int := (l.take k).map fun r => (r.1 : Int)
theorem slotsL_len {l : List (Nat × Nat)} {k : Nat} (h : k ≤ l.length) : (slotsL l k).length = k := by
  unfold slotsL
  rw [List.length_map, List.length_take]
  omega
theorem slotsL_succ {l : List (Nat × Nat)} {k : Nat} (h : k < l.length) : slotsL l (k + 1) = slotsL l k ++ [((l.getD k (0, 0)).1 : Int)] := by
  unfold slotsL
  rw [List.take_add_one, List.getElem?_eq_getElem h, List.getD_eq_getElem?_getD, List.getElem?_eq_getElem h, List.map_append]
  rfl
theorem slotsL_all (l : List (Nat × Nat)) : slotsL l l.length = (l.map fun r => r.1).map fun (k : Nat) => (k : Int) := by
  unfold slotsL
  rw [List.take_length, List.map_map]
  rfl
/-- The row of slots that is being made. -/
structure SlotsAt (w0 w : World) (v : Value) (l : List (Nat × Nat)) (k : Nat) : Prop where
  r : w.ownsRow w0.heap.size 3 1 v k (valsI (slotsL l k))
  below : Below w0.heap.size w0 w
theorem SlotsAt.on {w0 w w' : World} {v : Value} {l : List (Nat × Nat)} {k : Nat} (h : SlotsAt w0 w v l k) (hb : Below w.heap.size w w') : SlotsAt w0 w' v l k :=
  ⟨own_kept h.r (fun j hj => hb.block j (World.ownsRow.lt h.r j hj).2), h.below.trans (hb.mono h.below.size)⟩
theorem SlotsAt.push {w0 w w' : World} {v v' : Value} {l : List (Nat × Nat)} {k : Nat} {o : Obj} (h : SlotsAt w0 w v l k) (hk : k < l.length) {z1 z2 : Nat} (hz : (z1, z2) = l.getD k (0, 0)) (hg : (w.alloc o).grownBy w' v.ownBlock)
    (hr : w'.ownsRow w0.heap.size 3 1 v' (k + 1) (valsI (slotsL l k) ++ valsI [(z1 : Int)])) : SlotsAt w0 w' v' l (k + 1) := by
  refine ⟨?_, grow_below h.below hg (fun j hj => (World.ownsRow.lt h.r j hj).1)⟩
  rw [slotsL_succ hk, ← hz, ← valsI_push]
  exact hr
set_option maxHeartbeats 4000000 in
set_option maxRecDepth 100000 in
theorem ripe14_ (S p x) (w : World) (H : EpCR w S p x) (hb : x.now < 4611686018427387904) : Calls Try.prog 18 #[.pointer (some ⟨p, 0, none⟩)] w fun e w' => ∃ (a : Option Addr) (len cap : Nat) (S' : Nat → Prop), e = .returned (.slice a len cap) ∧ EpCR w' S' p x.ripeT ∧ Fresh w S S' ∧ Beside S w w' ∧ Row .i64 w' a len (x.ripe.map fun (k : Nat) => (k : Int)) ∧ ∀ b, a = some b → ¬ S' b.block ∧ w.heap.size ≤ b.block := by
  have HR := Lib.hid H
  obtain ⟨vs, vl, H⟩ := H
  obtain ⟨i0, hi0, hz0, hz1, hz2⟩ := int_info14
  have few := Lib.hid H.ok.few
  obtain ⟨al, cl, rfl⟩ := own_slice H.rl
  have eg : ∀ args w, (callFunc 36 args).run Try.prog w = .ok (.enter 36 args) w := enters_of Try.func36 (by kernel_rfl) rfl
  have cp := part_ 36 (.pointer (some ⟨p, 0, none⟩)) x.over al x.l.length cl x.l w eg rfl (own_row H.rl) few.out (fun W r hW _ => over14_ x p r W hb (Nat.lt_of_lt_of_le (H.lt p H.inp) hW.size) (H.on hW).c0)
  have c2 := H.c2
  have HH := Lib.hid H
  clear H eg hb
  obtain ⟨l4, hl4⟩ : ∃ l_, l_ = x.l.filter x.over := ⟨_, rfl⟩
  obtain ⟨l5, hl5⟩ : ∃ l_, l_ = x.l.filter fun r => !x.over r := ⟨_, rfl⟩
  have m4 : l4.length ≤ 256 := by rw [hl4]; exact Nat.le_trans (List.length_filter_le _ _) few.out
  rw [← hl4, ← hl5] at cp
  have hx := x.over_all
  rw [← hl4, ← hl5] at hx
  have OK := Lib.hid HH.out.ok.ripe
  rw [hx.1] at OK
  have HX := Lib.hid hx
  have M4 := Lib.hid m4
  clear hl4 hl5 hx m4
  go_enter Try.func18, Try.ntmps18
  go_wp2_with fail
  refine (none14_ S p x _ HR.out).mono ?_; rintro e w1 ⟨rfl, rfl⟩
  go_wp2_with fail
  refine cp.mono ?_; rintro e w2 ⟨v4, v5, rfl, P2⟩
  clear cp c2
  obtain ⟨a4, c4, rfl⟩ := own_slice P2.r4
  obtain ⟨a5, c5, rfl⟩ := own_slice P2.r5
  have H2 := HH.out.on P2.below
  have c2 := H2.c2
  have f2 := H2.f 2
  have RL := HH.out.relist P2.below P2.r5 OK.out
  have n4 : ∀ k, (Value.slice a4 l4.length c4).ownBlock = some k → k ≠ p := fun k hk e => by have := (World.ownsRow.lt P2.r4 k hk).1; have := HH.out.lt p HH.out.inp; omega
  have r4 := row_low (own_kept (w' := w2.setCell ⟨p, 2, none⟩ (.slice a5 l5.length c5)) P2.r4 (fun k hk => Below.heap_setCell _ _ _ _ (n4 k hk))) (Nat.zero_le _)
  have R4 := Lib.hid (own_row r4)
  have sz : w.heap.size ≤ (w2.setCell ⟨p, 2, none⟩ (.slice a5 l5.length c5)).heap.size := by simpa [World.setCell] using P2.below.size
  have HS := Lib.hid sz
  have HL := Lib.hid RL
  clear H2 RL n4 r4 P2 sz OK
  go_upto_region 7 with fail
  obtain ⟨w3, hw3⟩ : ∃ x_ : World, x_ = w2.setCell ⟨p, 2, none⟩ (.slice a5 l5.length c5) := ⟨_, rfl⟩
  rw [← hw3] at R4 HS HL ⊢
  clear hw3 c2 f2
  go_loopw [5, 26] (fun s5 si wr => ∃ i : Nat, i ≤ l4.length ∧ si = .int .i64 (i : Int) ∧ SlotsAt w3 wr s5 l4 i) (fun _ si _ => l4.length - (intOf si).toNat)
  case atStart => exact ⟨0, Nat.zero_le _, rfl, World.ownsRow_nil _ _ _ _, Below.refl _ _⟩
  case round =>
    obtain ⟨i, hi, rfl, hP⟩ := hrel
    have EW := Lib.hid (step_14 (j := i) (Nat.lt_of_le_of_lt (Nat.le_trans hi M4.out) (by decide)))
    by_cases hlt : i < l4.length
    · have HI := Lib.hid hlt
      obtain ⟨e10, e12, e13⟩ := int_lt hlt
      obtain ⟨b, rfl, hb, hc⟩ := (R4.out.on hP.below).resolve_left (Nat.ne_of_gt (Nat.lt_of_le_of_lt (Nat.zero_le i) hlt))
      obtain ⟨c0, c1⟩ := hc i hlt
      obtain ⟨r, hr⟩ : ∃ r, r = l4.getD i (0, 0) := ⟨_, rfl⟩
      rw [← hr] at c0 c1
      obtain ⟨z1, z2⟩ := r
      have P1 := hP.on ((Below.refl wr.heap.size wr).alloc (Nat.le_refl _) (.cells #[.int .i64 (z1 : Int), .int .i64 (z2 : Int)] 61))
      have b0 : (wr.alloc (.cells #[.int .i64 (z1 : Int), .int .i64 (z2 : Int)] 61)).cell? ⟨wr.heap.size, 0, none⟩ = some (.int .i64 (z1 : Int)) := by simp [go_sem]
      have HR2 := Lib.hid hr
      have mm := few_ok M4.out hi
      clear hr hi hlt hc hP hb
      go_upto_region 9 with fail
      obtain ⟨wy, hwy⟩ : ∃ x_ : World, x_ = wr.alloc (.cells #[.int .i64 (z1 : Int), .int .i64 (z2 : Int)] 61) := ⟨_, rfl⟩
      rw [← hwy] at P1 b0 ⊢
      clear hwy c0 c1
      obtain ⟨m1, m2, m3⟩ := mm
      obtain ⟨v', w', hrun, hown, hgrow, _, hblk⟩ := run_append_own_at (P := Try.prog) (w := wy.alloc (.cells #[.int .i64 (z1 : Int)] 3)) w3.heap.size 36 36 3 i0 _ 1 8 Try.underlying36 hi0 hz0 hz1 hz2 rfl (Nat.succ_pos _) u5 i (valsI (slotsL l4 i)) (P1.r.alloc (.cells #[.int .i64 (z1 : Int)] 3)) ⟨wy.heap.size, 0, none⟩ 1 1 (valsI [(z1 : Int)]) rfl (intP wy z1 _) (onesI _) m1 m3 (Nat.le_trans P1.below.size (Nat.le_trans (Nat.le_succ _) (Nat.le_of_eq (World.size_alloc ..).symm)))
      have RT := Lib.hid (P1.push HI.out HR2.out hgrow hown)
      have RUN := Lib.hid hrun
      clear hrun hown hgrow hblk P1 m1 m2 m3
      go_wp2_with (at_builtin; refine Lib.wpList_append_run _ rfl _ _ 36 36 rfl _ _ rfl rfl _ _ RUN.out ?_)
      go_roundw
      case rel => exact ⟨i + 1, HI.out, by simp [EW.out], RT.out⟩
      case measure => first | exact step_meas14 EW.out (step_less14 HI.out) | (simp [EW.out]; exact step_less14 HI.out) | exact step_less14 HI.out
    · obtain rfl : i = l4.length := Nat.le_antisymm hi (Nat.le_of_not_lt hlt)
      have t1 : decide ((l4.length : Int) < (l4.length : Int)) = false := by simp
      have r0 := hP.r
      have e0 := slotsL_len (l := l4) (Nat.le_refl _)
      obtain ⟨a, c, ev, g6, g7⟩ := row_of (l := slotsL l4 l4.length) (by rw [e0]; exact r0)
      rw [e0] at ev g6
      subst ev
      have P := Lib.hid hP
      have G := Lib.hid (And.intro g6 g7)
      clear hlt hi hP r0 e0 g6 g7
      go_wp2
      go_ret
      have hB := HL.out.1.on P.out.below
      refine ⟨a, l4.length, c, _, rfl, ⟨_, _, by rw [HX.out.1]; exact hB⟩, HL.out.2.1, HL.out.2.2.trans (Beside.of P.out.below), ?_, fun b hb => ⟨fun hs => ?_, ?_⟩⟩
      · rw [HX.out.2, ← slotsL_all]
        exact G.out.1
      · have h1 := (World.ownsRow.lt P.out.r b.block (G.out.2 b hb)).1
        have h2 := HL.out.1.lt _ hs
        omega
      · exact Nat.le_trans HS.out (World.ownsRow.lt P.out.r b.block (G.out.2 b hb)).1
set_option maxHeartbeats 1000000 in
set_option maxRecDepth 100000 in
theorem ripe14N_ (v : Value) (w : World) (H : NoC w v) : Calls Try.prog 18 #[v] w fun e w' => e = .returned (.slice none 0 0) ∧ w = w' := by
  go_enter Try.func18, Try.ntmps18
  go_wp2_with fail
  refine (none14N_ v _ H).mono ?_; rintro e w1 ⟨rfl, rfl⟩
  go_wp2
  go_ret
  exact ⟨rfl, rfl⟩
set_option maxHeartbeats 1000000 in
set_option maxRecDepth 100000 in
theorem defer14N_ (v : Value) (i : Int) (w : World) (H : NoC w v) : Calls Try.prog 20 #[v, .int .i64 i] w fun e w' => e = .returned (.int .i64 1) ∧ Below w.heap.size w w' := by
  have B1 : Below w.heap.size w (w.alloc (.cells #[.int .i64 i, .int .i64 0] 61)) := (Below.refl _ _).alloc (Nat.le_refl _) _
  have H1 := H.on B1
  go_enter Try.func20, Try.ntmps20
  go_wp2_with fail
  refine (now14N_ v _ H).mono ?_; rintro e w0 ⟨rfl, rfl⟩
  go_upto_region 2 with fail
  go_wp2_with fail
  refine (none14N_ v _ H1).mono ?_; rintro e w1 ⟨rfl, rfl⟩
  go_wp2
  go_ret
  exact ⟨rfl, B1⟩
end Go.Proofs.Ytghicdajcmkfjaa
