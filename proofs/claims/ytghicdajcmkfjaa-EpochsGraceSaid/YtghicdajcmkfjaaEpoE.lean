/- The document's epochs (layer 14): New. -/
import Derived.Test.YtghicdajcmkfjaaEpoC
namespace Go.Proofs.Ytghicdajcmkfjaa
set_option linter.unusedVariables false
set_option linter.unusedSimpArgs false
open Go.ChangeShapes Go.WideShapes Go.ChangeAt Go.RowKit Go.PlainAid
attribute [local go_sem ↓] Go.wp_at_zero Go.wp_at_succ
set_option maxHeartbeats 1000000 in
set_option maxRecDepth 100000 in
theorem rnewE14_ (n : Int) (w : World) (hn : n < 1 ∨ 64 < n) : Calls Try.prog 9 #[.int .i64 n] w fun e w' => e = .returned (.tuple #[.pointer none, .int .i64 2]) ∧ w = w' := by
  by_cases h : n < 1
  · have e1 : decide (n < 1) = true := by simpa using h
    clear h hn
    go_enter Try.func9, Try.ntmps9
    go_wp2
    go_ret2
    exact ⟨rfl, rfl⟩
  · have e1 : decide (n < 1) = false := by simpa using h
    have e2 : decide (64 < n) = true := by simp; omega
    clear h hn
    go_enter Try.func9, Try.ntmps9
    go_wp2
    go_ret2
    exact ⟨rfl, rfl⟩
theorem valsI_push_rep (k : Nat) : valsI (List.replicate k (-1)) ++ valsI [-1] = valsI (List.replicate (k + 1) (-1)) := by
  rw [List.replicate_succ', ← valsI_push]
  rfl
/-- Epochs that are being made. -/
structure EpNew (w0 w : World) (p : Nat) (vs : Value) (k : Nat) : Prop where
  pl : w0.heap.size ≤ p
  lt : p < w.heap.size
  c0 : w.cell? ⟨p, 0, none⟩ = some (.int .i64 0)
  c1 : w.cell? ⟨p, 1, none⟩ = some vs
  c2 : w.cell? ⟨p, 2, none⟩ = some (.slice none 0 0)
  f : ∀ i, w.frozen? ⟨p, i, none⟩ = false
  rs : w.ownsRow (p + 1) 3 1 vs k (valsI (List.replicate k (-1)))
  below : Below w0.heap.size w0 w
theorem EpNew.push {w0 w w' : World} {p k : Nat} {vs vs' : Value} {o : Obj} (h : EpNew w0 w p vs k) (hg : (w.alloc o).grownBy w' vs.ownBlock)
    (hr : w'.ownsRow (p + 1) 3 1 vs' (k + 1) (valsI (List.replicate k (-1)) ++ valsI [-1])) : EpNew w0 (w'.setCell ⟨p, 1, none⟩ vs') p vs' (k + 1) := by
  have hp := h.pl
  have n1 : vs.ownBlock ≠ some p := fun e => by have := (World.ownsRow.lt h.rs p e).1; omega
  have e := grow_at hg h.lt n1
  have B1 := grow_below h.below hg (fun j hj => by have := (World.ownsRow.lt h.rs j hj).1; omega)
  have c0 := (World.cell?_of_block (w := w) (a := ⟨p, 0, none⟩) e).trans h.c0
  have c1 := (World.cell?_of_block (w := w) (a := ⟨p, 1, none⟩) e).trans h.c1
  have c2 := (World.cell?_of_block (w := w) (a := ⟨p, 2, none⟩) e).trans h.c2
  refine ⟨hp, by simpa [World.setCell] using Nat.lt_of_lt_of_le h.lt (grow_size hg), ?_, World.cell?_setCell_same' _ _ _ (by rw [c1]; rfl), ?_, fun i => ?_, ?_, B1.setCell (p := ⟨p, 1, none⟩) hp _⟩
  · rw [World.cell?_setCell_other _ _ _ _ (by intro he; injection he with h5 h6; omega)]; exact c0
  · rw [World.cell?_setCell_other _ _ _ _ (by intro he; injection he with h5 h6; omega)]; exact c2
  · rw [World.frozen?_setCell]; exact (World.frozen?_of_block (w := w) (a := ⟨p, i, none⟩) e).trans (h.f i)
  · rw [valsI_push_rep] at hr
    exact own_kept hr (fun j hj => Below.heap_setCell _ _ _ _ (fun e2 => by have := (World.ownsRow.lt hr j hj).1; have e3 : j = p := e2; omega))
theorem EpNew.done {w0 w : World} {p k : Nat} {vs : Value} (h : EpNew w0 w p vs k) (h1 : 1 ≤ k) (h2 : k ≤ 64) : ∃ S : Nat → Prop, (∀ j, S j → w0.heap.size ≤ j) ∧ EpR w S p (Ep.new k) := by
  have hp := h.pl
  refine ⟨fun j => j = p ∨ vs.ownBlock = some j, fun j hj => ?_, vs, .slice none 0 0, ⟨fun j hj => ?_, .inl rfl, h.c0, h.c1, h.c2, h.f, ?_, World.ownsRow_nil _ _ _ _, fun j hj => ⟨.inr hj, fun e => ?_⟩, (fun j h => nomatch h), (fun j _ h => nomatch h), Ep.Ok.new h1 h2⟩⟩
  · rcases hj with rfl | hj
    · exact hp
    · have := (World.ownsRow.lt h.rs j hj).1; omega
  · rcases hj with rfl | hj
    · exact h.lt
    · exact (World.ownsRow.lt h.rs j hj).2
  · show w.ownsRow 0 _ 1 vs (List.replicate k (-1)).length (valsI (List.replicate k (-1)))
    rw [List.length_replicate]
    exact row_low h.rs (Nat.zero_le _)
  · have := (World.ownsRow.lt h.rs j hj).1; omega
set_option maxHeartbeats 2000000 in
set_option maxRecDepth 100000 in
theorem rnew14_ (n : Nat) (w : World) (h1 : 1 ≤ n) (h2 : n ≤ 64) : Calls Try.prog 9 #[.int .i64 (n : Int)] w fun e w' => ∃ q S, e = .returned (.tuple #[.pointer (some ⟨q, 0, none⟩), .int .i64 0]) ∧ Below w.heap.size w w' ∧ (∀ k, S k → w.heap.size ≤ k) ∧ EpR w' S q (Ep.new n) := by
  have e1 : decide ((n : Int) < 1) = false := by simp; omega
  have e2 : decide (64 < (n : Int)) = false := by simp; omega
  obtain ⟨i0, hi0, hz0, hz1, hz2⟩ := int_info14
  go_enter Try.func9, Try.ntmps9
  go_upto_region 5 with fail
  have N1 : EpNew w (w.alloc (.cells #[.int .i64 0, .slice none 0 0, .slice none 0 0] 53)) w.heap.size (.slice none 0 0) 0 :=
    ⟨Nat.le_refl _, by simp, by simp [go_sem], by simp [go_sem], by simp [go_sem], fun i => by simp [go_sem], World.ownsRow_nil _ _ _ _, (Below.refl _ _).alloc (Nat.le_refl _) _⟩
  obtain ⟨w1, hw1⟩ : ∃ w1, w1 = w.alloc (.cells #[.int .i64 0, .slice none 0 0, .slice none 0 0] 53) := ⟨_, rfl⟩
  rw [← hw1] at N1 ⊢
  clear hw1
  go_loopw [5] (fun si wr => ∃ (i : Nat) (vs : Value), i ≤ n ∧ si = .int .i64 (i : Int) ∧ EpNew w wr w.heap.size vs i) (fun si _ => n - (intOf si).toNat)
  case atStart => exact ⟨0, _, Nat.zero_le _, rfl, N1⟩
  case round =>
    obtain ⟨k, vs, hk, rfl, N2⟩ := hrel
    clear N1
    have EW := Lib.hid (step_14 (j := k) (Nat.lt_of_le_of_lt (Nat.le_trans hk h2) (by decide)))
    by_cases hlt : k < n
    · have t1 : decide ((k : Int) < (n : Int)) = true := by simpa using hlt
      obtain ⟨m1, m2, m3⟩ := few_ok (n := 256) (m := k) (Nat.le_refl _) (Nat.le_trans (Nat.le_trans hk h2) (by decide))
      obtain ⟨vs', w13, hrun, hown, hgrow, _, hblk⟩ := run_append_own_at (P := Try.prog) (w := wr.alloc (.cells #[.int .i64 (-1)] 3)) (w.heap.size + 1) 36 36 3 i0 _ 1 8 Try.underlying36 hi0 hz0 hz1 hz2 rfl (Nat.succ_pos _) vs k (valsI (List.replicate k (-1))) (N2.rs.alloc (.cells #[.int .i64 (-1)] 3)) ⟨wr.heap.size, 0, none⟩ 1 1 (valsI [-1]) rfl (intP wr (-1) _) (onesI _) m1 m3 (Nat.le_trans N2.lt (Nat.le_trans (Nat.le_succ _) (Nat.le_of_eq (World.size_alloc ..).symm)))
      have e := grow_at hgrow N2.lt (fun e => Nat.lt_irrefl _ (World.ownsRow.lt N2.rs _ e).1)
      have c1 := N2.c1
      have c1' := (World.cell?_of_block (w := wr) (a := ⟨w.heap.size, 1, none⟩) e).trans N2.c1
      have f1' := (World.frozen?_of_block (w := wr) (a := ⟨w.heap.size, 1, none⟩) e).trans (N2.f 1)
      obtain ⟨av, cv, rfl⟩ := own_slice hown
      obtain ⟨av0, cv0, rfl⟩ := own_slice N2.rs
      have NN := Lib.hid (N2.push hgrow hown)
      have RUN := Lib.hid hrun
      have HL := Lib.hid hlt
      clear hrun hown hgrow hblk N2 m1 m2 m3 hlt hk e
      go_wp2_with (at_builtin; refine Lib.wpList_append_run _ rfl _ _ 36 36 rfl _ _ rfl rfl _ _ RUN.out ?_)
      go_roundw
      case rel => exact ⟨k + 1, _, HL.out, by simp [EW.out], NN.out⟩
      case measure => first | exact step_meas14 EW.out (step_less14 HL.out) | (simp [EW.out]; exact step_less14 HL.out) | exact step_less14 HL.out
    · obtain rfl : k = n := Nat.le_antisymm hk (Nat.le_of_not_lt hlt)
      have t1 : decide ((k : Int) < (k : Int)) = false := by simp
      obtain ⟨S, hS, hE⟩ := N2.done h1 h2
      have B2 := N2.below
      clear N2 hlt hk
      go_wp2
      go_ret2
      exact ⟨_, S, rfl, B2, hS, hE⟩
end Go.Proofs.Ytghicdajcmkfjaa
