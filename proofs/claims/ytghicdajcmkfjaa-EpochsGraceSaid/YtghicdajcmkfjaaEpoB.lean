/- The document's epochs (layer 14): Advance, Ripe. -/
import Derived.Test.YtghicdajcmkfjaaEpoA
import Derived.Lib.AppendZeros
namespace Go.Proofs.Ytghicdajcmkfjaa
set_option linter.unusedVariables false
set_option linter.unusedSimpArgs false
open Go.ChangeShapes Go.WideShapes Go.ChangeAt Go.RowKit Go.PlainAid
attribute [local go_sem ↓] Go.wp_at_zero Go.wp_at_succ
theorem Ep.held_at {x : Ep} {k : Nat} (hk : k < x.said.length) (h0 : 0 ≤ x.said.getD k (-1)) (h1 : x.said.getD k (-1) ≠ x.now) : x.held = true := by
  refine List.any_eq_true.2 ⟨x.said.getD k (-1), ?_, by simpa using ⟨h0, h1⟩⟩
  rw [List.getD_eq_getElem?_getD, List.getElem?_eq_getElem hk]
  exact List.getElem_mem hk
theorem Ep.held_no {x : Ep} (h : ∀ k, k < x.said.length → ¬ (0 ≤ x.said.getD k (-1) ∧ x.said.getD k (-1) ≠ x.now)) : x.held = false := by
  refine List.any_eq_false.2 fun s hs => ?_
  obtain ⟨k, hk, rfl⟩ := List.mem_iff_getElem.1 hs
  have := h k hk
  rw [List.getD_eq_getElem?_getD, List.getElem?_eq_getElem hk] at this
  simpa using this
theorem EpD.bump {w : World} {S : Nat → Prop} {p : Nat} {vs vl : Value} {x : Ep} (h : EpD w S p vs vl x) (hh : x.held = false) :
    EpD (w.setCell ⟨p, 0, none⟩ (.int .i64 ((x.now + 1 : Nat) : Int))) S p vs vl x.advT ∧ Beside S w (w.setCell ⟨p, 0, none⟩ (.int .i64 ((x.now + 1 : Nat) : Int))) := by
  have e : x.advT = { x with now := x.now + 1 } := by unfold Ep.advT; rw [hh]; rfl
  have ok := h.ok.adv
  rw [e] at ok ⊢
  have hk1 : ∀ j, j ≠ p → (w.setCell ⟨p, 0, none⟩ (.int .i64 ((x.now + 1 : Nat) : Int))).heap[j]? = w.heap[j]? := fun j hj => Below.heap_setCell _ _ _ _ hj
  refine ⟨⟨fun j hj => by simpa [World.setCell] using h.lt j hj, h.inp, World.cell?_setCell_same' _ _ _ (by rw [h.c0]; rfl), ?_, ?_, fun i => by rw [World.frozen?_setCell]; exact h.f i, own_kept h.rs (fun k hk => hk1 k (h.ns k hk).2), own_kept h.rl (fun k hk => hk1 k (h.nl k hk).2), h.ns, h.nl, h.sl, ok⟩, (Beside.refl S w).setCell (p := ⟨p, 0, none⟩) h.inp _⟩
  · rw [World.cell?_setCell_other _ _ _ _ (by intro he; injection he with h5 h6; omega)]; exact h.c1
  · rw [World.cell?_setCell_other _ _ _ _ (by intro he; injection he with h5 h6; omega)]; exact h.c2
theorem step_less14 {j n : Nat} (h : j < n) : n - (j + 1) < n - j := by omega
theorem step_meas14 {j n : Nat} (h : wrap64 ((j : Int) + 1) = (j : Int) + 1) (hl : n - (j + 1) < n - j) : n - (intOf (.int .i64 (wrap64 ((j : Int) + 1)))).toNat < n - (intOf (.int .i64 (j : Int))).toNat := by
  rw [h]; exact hl
theorem step_14 {j : Nat} (h : j < 4611686018427387904) : wrap64 ((j : Int) + 1) = ((j + 1 : Nat) : Int) := by
  rw [IntWalk.wrap64_in _ (by omega)]; omega
set_option maxHeartbeats 2000000 in
set_option maxRecDepth 100000 in
theorem radvance14_ (S p x) (w : World) (H : EpR w S p x) (hb : x.now < 4611686018427387904) : Told Try.prog epR 16 #[.pointer (some ⟨p, 0, none⟩)] w S p (.bool (!x.held)) x.advT := by
  obtain ⟨vs, vl, H⟩ := H
  obtain ⟨g, c, rfl, hg⟩ := own_block H.rs H.ok.pos
  have h64 := Lib.hid H.ok.le
  have HH := Lib.hid H
  clear H
  show Calls _ _ _ _ _
  go_enter Try.func16, Try.ntmps16
  go_upto_region 2 with fail
  go_loopw [3] (fun si wr => ∃ i : Nat, i ≤ x.said.length ∧ si = .int .i64 (i : Int) ∧ (∀ k, k < i → ¬ (0 ≤ x.said.getD k (-1) ∧ x.said.getD k (-1) ≠ x.now)) ∧ Below w.heap.size w wr) (fun si _ => x.said.length - (intOf si).toNat)
  case atStart => exact ⟨0, Nat.zero_le _, rfl, fun k hk => absurd hk (Nat.not_lt_zero k), Below.refl _ _⟩
  case round =>
    obtain ⟨k, hk, rfl, hm, br⟩ := hrel
    have HM := Lib.hid hm
    have Hr := HH.out.on br
    have HR := Lib.hid Hr
    have c0 := Hr.c0
    have c1 := Hr.c1
    clear hm
    have EW := Lib.hid (step_14 (j := k) (Nat.lt_of_le_of_lt (Nat.le_trans hk h64.out) (by decide)))
    by_cases hlt : k < x.said.length
    · have x1 : wr.cell? ⟨g, k, none⟩ = some (.int .i64 (x.said.getD k (-1))) := (World.ownsRow.cellAt Hr.rs k (by omega)).trans (valsI_at _ _ hlt _)
      have t1 : decide ((k : Int) < (x.said.length : Int)) = true := by simpa using hlt
      have i0 : (0 : Int) ≤ (k : Int) := Int.natCast_nonneg k
      have i1 : (k : Int) < (x.said.length : Int) := Int.ofNat_lt.2 hlt
      have HL := Lib.hid hlt
      clear Hr hlt hk hb
      by_cases h0 : 0 ≤ x.said.getD k (-1)
      · have d0 : decide (0 ≤ x.said.getD k (-1)) = true := by simpa using h0
        by_cases h1 : x.said.getD k (-1) = x.now
        · have d1 : (x.said.getD k (-1) != (x.now : Int)) = false := by simpa using h1
          have HN : Hid (¬ (0 ≤ x.said.getD k (-1) ∧ x.said.getD k (-1) ≠ x.now)) := fun h => h.2 h1
          clear h0 h1
          generalize hs : x.said.getD k (-1) = s at x1 d0 d1
          clear hs
          go_wp2
          go_region
          have bk := br.drew
          generalize wr.drew = wy at bk ⊢
          clear x1 c0 c1 d0 d1
          go_wp2
          go_roundw
          case rel => exact ⟨k + 1, HL.out, by simp [EW.out], fun j hj => by
            by_cases e : j = k
            · subst e; exact HN.out
            · exact HM.out j (by omega), bk⟩
          case measure => first | exact step_meas14 EW.out (step_less14 HL.out) | (simp [EW.out]; exact step_less14 HL.out) | exact step_less14 HL.out
        · have d1 : (x.said.getD k (-1) != (x.now : Int)) = true := by simpa using h1
          have HV : Hid (x.held = true) := Ep.held_at HL.out h0 h1
          clear h0 h1
          generalize hs : x.said.getD k (-1) = s at x1 d0 d1
          clear hs
          go_wp2
          go_region
          go_wp2
          go_ret
          have e : x.advT = x := by unfold Ep.advT; rw [HV.out]; rfl
          rw [e, HV.out]
          exact ⟨rfl, S, ⟨_, _, HR.out.on (Below.refl _ _).drew⟩, Fresh.refl _ _, (Beside.of br).drew⟩
      · have d0 : decide (0 ≤ x.said.getD k (-1)) = false := by simpa using h0
        have HN : Hid (¬ (0 ≤ x.said.getD k (-1) ∧ x.said.getD k (-1) ≠ x.now)) := fun h => h0 h.1
        clear h0
        generalize hs : x.said.getD k (-1) = s at x1 d0
        clear hs
        go_wp2
        go_region
        have bk := br.drew
        generalize wr.drew = wy at bk ⊢
        clear x1 c0 c1 d0
        go_wp2
        go_roundw
        case rel => exact ⟨k + 1, HL.out, by simp [EW.out], fun j hj => by
          by_cases e : j = k
          · subst e; exact HN.out
          · exact HM.out j (by omega), bk⟩
        case measure => first | exact step_meas14 EW.out (step_less14 HL.out) | (simp [EW.out]; exact step_less14 HL.out) | exact step_less14 HL.out
    · obtain rfl : k = x.said.length := Nat.le_antisymm hk (Nat.le_of_not_lt hlt)
      have t1 : decide ((x.said.length : Int) < (x.said.length : Int)) = false := by simp
      have hh := Ep.held_no HM.out
      have HB := Lib.hid (Hr.bump hh)
      have f0 := Hr.f 0
      have q1 : wrap64 ((x.now : Int) + 1) = ((x.now + 1 : Nat) : Int) := step_14 hb
      have q2 : IntKind.i64.wrap ((x.now : Int) + 1) = ((x.now + 1 : Nat) : Int) := by rw [IntWalk.i64_in _ (by omega)]; omega
      clear Hr hlt hk hb
      generalize x.now + 1 = N1 at q1 q2 HB
      go_wp2
      go_ret
      rw [hh]
      exact ⟨rfl, S, ⟨_, _, HB.out.1⟩, Fresh.refl _ _, (Beside.of br).trans HB.out.2⟩
end Go.Proofs.Ytghicdajcmkfjaa
