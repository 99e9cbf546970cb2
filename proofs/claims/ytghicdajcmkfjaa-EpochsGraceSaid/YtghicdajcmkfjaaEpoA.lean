/- The document's epochs (layer 14): Now, Waiting, Seen, In, set, Enter, Leave. -/
import Derived.Test.YtghicdajcmkfjaaEpoM
import Derived.Test.YtghicdajcmkfjaaRegion
import Derived.BigRegion
import Derived.Deep.DeepCutAuto
namespace Go.Proofs.Ytghicdajcmkfjaa
set_option linter.unusedVariables false
set_option linter.unusedSimpArgs false
open Go.ChangeShapes Go.WideShapes Go.ChangeAt Go.RowKit Go.PlainAid
attribute [local go_sem ↓] Go.wp_at_zero Go.wp_at_succ
theorem refl_says {w w' : World} (h : w = w') : Below w.heap.size w w' := h ▸ Below.refl _ _
set_option maxHeartbeats 1000000 in
set_option maxRecDepth 100000 in
theorem rnow14_ (S p x) (w : World) (H : EpR w S p x) : Says Try.prog 23 #[.pointer (some ⟨p, 0, none⟩)] w (.int .i64 (x.now : Int)) := by
  obtain ⟨vs, vl, H⟩ := H
  have c0 := H.c0
  clear H
  show Calls _ _ _ _ _
  go_enter Try.func23, Try.ntmps23
  go_wp2
  go_ret
  exact ⟨rfl, Below.refl _ _⟩
set_option maxHeartbeats 1000000 in
set_option maxRecDepth 100000 in
theorem rwaiting14_ (S p x) (w : World) (H : EpR w S p x) : Says Try.prog 29 #[.pointer (some ⟨p, 0, none⟩)] w (.int .i64 (x.l.length : Int)) := by
  obtain ⟨vs, vl, H⟩ := H
  have c2 := H.c2
  obtain ⟨a, c, rfl⟩ := own_slice H.rl
  clear H
  show Calls _ _ _ _ _
  go_enter Try.func29, Try.ntmps29
  go_wp2
  go_ret
  exact ⟨rfl, Below.refl _ _⟩
set_option maxHeartbeats 1000000 in
set_option maxRecDepth 100000 in
theorem rseen14_ (S p x) (v : Int) (w : World) (H : EpR w S p x) : Says Try.prog 27 #[.pointer (some ⟨p, 0, none⟩), .int .i64 v] w (.int .i64 (x.seen v)) := by
  obtain ⟨vs, vl, H⟩ := H
  have c1 := H.c1
  obtain ⟨g, c, rfl, hg⟩ := own_block H.rs H.ok.pos
  show Calls _ _ _ _ _
  by_cases h0 : v < 0
  · have HV : Hid (x.seen v = -1) := by
      show _ = _
      unfold Ep.seen
      rw [if_neg (show ¬ x.there v from fun h => by have := h.1; omega)]
    have e1 : decide (v < 0) = true := by simpa using h0
    clear h0 H
    go_enter Try.func27, Try.ntmps27
    go_wp2
    go_ret
    rw [HV.out]
    exact ⟨rfl, Below.refl _ _⟩
  have e1 : decide (v < 0) = false := by simpa using h0
  obtain ⟨k, rfl⟩ := Int.eq_ofNat_of_zero_le (show 0 ≤ v by omega)
  by_cases h1 : x.said.length ≤ k
  · have HV : Hid (x.seen (k : Int) = -1) := by
      show _ = _
      unfold Ep.seen
      rw [if_neg (show ¬ x.there (k : Int) from fun h => by have := h.2; omega)]
    have e2 : decide (x.said.length ≤ k) = true := by simpa using h1
    clear h1 h0 H
    go_enter Try.func27, Try.ntmps27
    go_wp2
    go_ret
    rw [HV.out]
    exact ⟨rfl, Below.refl _ _⟩
  · have HV : Hid (x.seen (k : Int) = x.said.getD k (-1)) := by
      show _ = _
      unfold Ep.seen
      rw [if_pos (show x.there (k : Int) from ⟨by omega, by omega⟩)]
      rfl
    have e2 : decide (x.said.length ≤ k) = false := by simpa using h1
    have x1 : w.cell? ⟨g, k, none⟩ = some (.int .i64 (x.said.getD k (-1))) := (World.ownsRow.cellAt H.rs k (by omega)).trans (valsI_at _ _ (by omega) _)
    have i0 : (0 : Int) ≤ (k : Int) := by omega
    have i1 : (k : Int) < (x.said.length : Int) := by omega
    have i2 : k < x.said.length := by omega
    generalize x.said.getD k (-1) = s at *
    clear h1 h0 H
    go_enter Try.func27, Try.ntmps27
    go_wp2
    go_ret
    rw [HV.out]
    exact ⟨rfl, Below.refl _ _⟩
set_option maxHeartbeats 1000000 in
set_option maxRecDepth 100000 in
theorem rin14_ (S p x) (v : Int) (w : World) (H : EpR w S p x) : Says Try.prog 25 #[.pointer (some ⟨p, 0, none⟩), .int .i64 v] w (.bool (x.inV v)) := by
  have cs := rseen14_ S p x v w H
  unfold Ep.inV
  generalize x.seen v = s at *
  show Calls _ _ _ _ _
  go_enter Try.func25, Try.ntmps25
  go_wp2_with fail
  refine Calls.mono (R := fun e w' => e = .returned (.int .i64 s) ∧ Below w.heap.size w w') cs ?_; rintro e w1 ⟨rfl, b1⟩
  go_wp2
  go_ret
  exact ⟨rfl, b1⟩
set_option maxHeartbeats 1000000 in
set_option maxRecDepth 100000 in
theorem rset14_ (S p x) (v e : Int) (w : World) (H : EpR w S p x) (he : e = -1 ∨ e = x.now) : Told Try.prog epR 31 #[.pointer (some ⟨p, 0, none⟩), .int .i64 v, .int .i64 e] w S p (.int .i64 (x.setE v : Int)) (x.setT v e) := by
  obtain ⟨vs, vl, H⟩ := H
  have c1 := H.c1
  obtain ⟨g, c, rfl, hg⟩ := own_block H.rs H.ok.pos
  show Calls _ _ _ _ _
  by_cases h0 : v < 0
  · have HV : Hid (x.setE v = 2 ∧ x.setT v e = x) := by
      show _ ∧ _
      have ht : ¬ x.there v := fun h => by have := h.1; omega
      unfold Ep.setE Ep.setT
      rw [if_neg ht, if_neg ht]
      exact ⟨rfl, rfl⟩
    have e1 : decide (v < 0) = true := by simpa using h0
    have HH := Lib.hid H
    clear h0 H
    go_enter Try.func31, Try.ntmps31
    go_wp2
    go_ret
    rw [HV.out.1, HV.out.2]
    exact ⟨rfl, S, ⟨_, _, HH.out⟩, Fresh.refl _ _, Beside.refl _ _⟩
  have e1 : decide (v < 0) = false := by simpa using h0
  obtain ⟨k, rfl⟩ := Int.eq_ofNat_of_zero_le (show 0 ≤ v by omega)
  by_cases h1 : x.said.length ≤ k
  · have HV : Hid (x.setE (k : Int) = 2 ∧ x.setT (k : Int) e = x) := by
      show _ ∧ _
      have ht : ¬ x.there (k : Int) := fun h => by have := h.2; omega
      unfold Ep.setE Ep.setT
      rw [if_neg ht, if_neg ht]
      exact ⟨rfl, rfl⟩
    have e2 : decide (x.said.length ≤ k) = true := by simpa using h1
    have HH := Lib.hid H
    clear h1 h0 H
    go_enter Try.func31, Try.ntmps31
    go_wp2
    go_ret
    rw [HV.out.1, HV.out.2]
    exact ⟨rfl, S, ⟨_, _, HH.out⟩, Fresh.refl _ _, Beside.refl _ _⟩
  · have HV : Hid (x.setE (k : Int) = 0) := by
      show _ = _
      unfold Ep.setE
      rw [if_pos (show x.there (k : Int) from ⟨by omega, by omega⟩)]
    have e2 : decide (x.said.length ≤ k) = false := by simpa using h1
    have hk : k < x.said.length := by omega
    have x1 : w.cell? ⟨g, k, none⟩ = some (.int .i64 (x.said.getD k (-1))) := (World.ownsRow.cellAt H.rs k (by omega)).trans (valsI_at _ _ hk _)
    have f1 : w.frozen? ⟨g, k, none⟩ = false := World.ownsRow.frozenAt H.rs k
    have i0 : (0 : Int) ≤ (k : Int) := by omega
    have i1 : (k : Int) < (x.said.length : Int) := by omega
    have HS := Lib.hid (H.set k hk e he)
    generalize x.said.getD k (-1) = s at *
    clear h1 h0 H
    go_enter Try.func31, Try.ntmps31
    go_wp2
    go_ret
    rw [HV.out]
    exact ⟨rfl, S, ⟨_, _, HS.out.1⟩, Fresh.refl _ _, HS.out.2⟩
set_option maxHeartbeats 1000000 in
set_option maxRecDepth 100000 in
theorem renter14_ (S p x) (v : Int) (w : World) (H : EpR w S p x) : Told Try.prog epR 12 #[.pointer (some ⟨p, 0, none⟩), .int .i64 v] w S p (.int .i64 (x.setE v : Int)) (x.setT v x.now) := by
  have cs := rset14_ S p x v x.now w H (.inr rfl)
  obtain ⟨vs, vl, H⟩ := H
  have c0 := H.c0
  clear H
  show Calls _ _ _ _ _
  go_enter Try.func12, Try.ntmps12
  go_wp2_with fail
  refine Calls.mono (R := fun e w' => e = .returned (.int .i64 (x.setE v : Int)) ∧ ∃ S', EpR w' S' p (x.setT v x.now) ∧ Fresh w S S' ∧ Beside S w w') cs ?_; rintro e w1 ⟨rfl, S1, R1, f1, b1⟩
  go_wp2
  go_ret
  exact ⟨rfl, S1, R1, f1, b1⟩
set_option maxHeartbeats 1000000 in
set_option maxRecDepth 100000 in
theorem rleave14_ (S p x) (v : Int) (w : World) (H : EpR w S p x) : Told Try.prog epR 14 #[.pointer (some ⟨p, 0, none⟩), .int .i64 v] w S p (.int .i64 (x.setE v : Int)) (x.setT v (-1)) := by
  have cs := rset14_ S p x v (-1) w H (.inl rfl)
  obtain ⟨vs, vl, H⟩ := H
  have c0 := H.c0
  clear H
  show Calls _ _ _ _ _
  go_enter Try.func14, Try.ntmps14
  go_wp2_with fail
  refine Calls.mono (R := fun e w' => e = .returned (.int .i64 (x.setE v : Int)) ∧ ∃ S', EpR w' S' p (x.setT v (-1)) ∧ Fresh w S S' ∧ Beside S w w') cs ?_; rintro e w1 ⟨rfl, S1, R1, f1, b1⟩
  go_wp2
  go_ret
  exact ⟨rfl, S1, R1, f1, b1⟩
end Go.Proofs.Ytghicdajcmkfjaa
