/- The code's epochs (layer 14): Now, has, Seen, In, announce, Enter, Leave, Waiting. Written by gen_epozb.py. -/
import Derived.Test.YtghicdajcmkfjaaEpoZA
namespace Go.Proofs.Ytghicdajcmkfjaa
set_option linter.unusedVariables false
set_option linter.unusedSimpArgs false
open Go.ChangeShapes Go.WideShapes Go.ChangeAt Go.RowKit Go.PlainAid
attribute [local go_sem ↓] Go.wp_at_zero Go.wp_at_succ
set_option maxHeartbeats 1000000 in
set_option maxRecDepth 100000 in
theorem now14_ (S p x) (w : World) (H : EpCR w S p x) : Calls Try.prog 22 #[.pointer (some ⟨p, 0, none⟩)] w fun e w' => e = .returned (.int .i64 (x.now : Int)) ∧ w = w' := by
  have HH := Lib.hid H
  obtain ⟨vs, vl, H⟩ := H
  have c0 := H.c0
  obtain ⟨a, c, rfl⟩ := own_slice H.rl
  clear H
  go_enter Try.func22, Try.ntmps22
  go_wp2_with fail
  refine (none14_ S p x _ HH.out).mono ?_; rintro e w1 ⟨rfl, rfl⟩
  go_wp2
  go_ret
  exact ⟨rfl, rfl⟩
set_option maxHeartbeats 1000000 in
set_option maxRecDepth 100000 in
theorem waiting14_ (S p x) (w : World) (H : EpCR w S p x) : Calls Try.prog 28 #[.pointer (some ⟨p, 0, none⟩)] w fun e w' => e = .returned (.int .i64 (x.l.length : Int)) ∧ w = w' := by
  have HH := Lib.hid H
  obtain ⟨vs, vl, H⟩ := H
  have c2 := H.c2
  obtain ⟨a, c, rfl⟩ := own_slice H.rl
  clear H
  go_enter Try.func28, Try.ntmps28
  go_wp2_with fail
  refine (none14_ S p x _ HH.out).mono ?_; rintro e w1 ⟨rfl, rfl⟩
  go_wp2
  go_ret
  exact ⟨rfl, rfl⟩
set_option maxHeartbeats 1000000 in
set_option maxRecDepth 100000 in
theorem has14_ (S p x) (v : Int) (w : World) (H : EpCR w S p x) : Calls Try.prog 39 #[.pointer (some ⟨p, 0, none⟩), .int .i64 v] w fun e w' => e = .returned (.bool (decide (x.there v))) ∧ w = w' := by
  have HH := Lib.hid H
  obtain ⟨vs, vl, H⟩ := H
  have c1 := H.c1
  obtain ⟨g, c, rfl, hg⟩ := own_block H.rs H.ok.pos
  clear H
  by_cases h0 : v < 0
  · have HV : Hid (decide (x.there v) = false) := by
      show _ = _
      exact decide_eq_false fun h => by have := h.1; omega
    have e1 : decide (v < 0) = true := by simpa using h0
    have e0 : decide (0 ≤ v) = false := by simp; omega
    have e3 : decide (v < (x.said.length : Int)) = true := by simp; omega
    clear h0
    go_enter Try.func39, Try.ntmps39
    go_wp2_with fail
    refine (none14_ S p x _ HH.out).mono ?_; rintro e w1 ⟨rfl, rfl⟩
    go_wp2
    go_ret
    rw [HV.out]
    exact ⟨rfl, rfl⟩
  obtain ⟨k, rfl⟩ := Int.eq_ofNat_of_zero_le (show 0 ≤ v by omega)
  have e1 : decide ((k : Int) < 0) = false := by simp
  have HV : Hid (decide (x.there (k : Int)) = decide (k < x.said.length)) := by
    show _ = _
    refine decide_eq_decide.2 ⟨fun h => ?_, fun h => ⟨?_, ?_⟩⟩
    · have := h.2; omega
    · omega
    · omega
  rw [HV.out]
  cases hd : decide (k < x.said.length) with
  | true =>
    have hd2 : decide ((k : Int) < (x.said.length : Int)) = true := by rw [← hd]; exact decide_eq_decide.2 Int.ofNat_lt
    go_enter Try.func39, Try.ntmps39
    go_wp2_with fail
    refine (none14_ S p x _ HH.out).mono ?_; rintro e w1 ⟨rfl, rfl⟩
    go_wp2
    go_ret
    exact ⟨rfl, rfl⟩
  | false =>
    have hd2 : decide ((k : Int) < (x.said.length : Int)) = false := by rw [← hd]; exact decide_eq_decide.2 Int.ofNat_lt
    go_enter Try.func39, Try.ntmps39
    go_wp2_with fail
    refine (none14_ S p x _ HH.out).mono ?_; rintro e w1 ⟨rfl, rfl⟩
    go_wp2
    go_ret
    exact ⟨rfl, rfl⟩
set_option maxHeartbeats 1000000 in
set_option maxRecDepth 100000 in
theorem seen14_ (S p x) (v : Int) (w : World) (H : EpCR w S p x) : Calls Try.prog 26 #[.pointer (some ⟨p, 0, none⟩), .int .i64 v] w fun e w' => e = .returned (.int .i64 (x.seen v)) ∧ w = w' := by
  have ch := has14_ S p x v w H
  obtain ⟨vs, vl, H⟩ := H
  have c1 := H.c1
  obtain ⟨g, c, rfl, hg⟩ := own_block H.rs H.ok.pos
  by_cases h : x.there v
  · obtain ⟨h0, h1⟩ := id h
    obtain ⟨k, rfl⟩ := Int.eq_ofNat_of_zero_le h0
    have HV : Hid (x.seen (k : Int) = x.said.getD k (-1)) := by
      show _ = _
      unfold Ep.seen
      rw [if_pos h]
      rfl
    have x1 : w.cell? ⟨g, k, none⟩ = some (.int .i64 (x.said.getD k (-1))) := (World.ownsRow.cellAt H.rs k (by omega)).trans (valsI_at _ _ (by omega) _)
    have i0 : (0 : Int) ≤ (k : Int) := by omega
    have i2 : k < x.said.length := by omega
    rw [decide_eq_true h] at ch
    generalize x.said.getD k (-1) = s at *
    clear h H
    go_enter Try.func26, Try.ntmps26
    go_wp2_with fail
    refine ch.mono ?_; rintro e w1 ⟨rfl, rfl⟩
    go_wp2
    go_ret
    rw [HV.out]
    exact ⟨rfl, rfl⟩
  · have HV : Hid (x.seen v = -1) := by
      show _ = _
      unfold Ep.seen
      rw [if_neg h]
    rw [decide_eq_false h] at ch
    clear h H
    go_enter Try.func26, Try.ntmps26
    go_wp2_with fail
    refine ch.mono ?_; rintro e w1 ⟨rfl, rfl⟩
    go_wp2
    go_ret
    rw [HV.out]
    exact ⟨rfl, rfl⟩
theorem Ep.in_ne {x : Ep} (h : x.Ok) (v : Int) : (x.seen v != -1) = x.inV v := by
  unfold Ep.inV
  have key : x.seen v = -1 ∨ 0 ≤ x.seen v := by
    unfold Ep.seen
    split
    · rename_i ht
      obtain ⟨h0, h1⟩ := ht
      have hk : v.toNat < x.said.length := by omega
      have hm : x.said.getD v.toNat (-1) ∈ x.said := by
        rw [List.getD_eq_getElem?_getD, List.getElem?_eq_getElem hk]
        exact List.getElem_mem hk
      rcases h.sd _ hm with h | h
      · exact .inl h
      · exact .inr h.1
    · exact .inl rfl
  rcases key with h | h
  · rw [h]; rfl
  · rw [decide_eq_true h]
    exact bne_iff_ne.2 (by omega)
set_option maxHeartbeats 1000000 in
set_option maxRecDepth 100000 in
theorem in14_ (S p x) (v : Int) (w : World) (H : EpCR w S p x) : Calls Try.prog 24 #[.pointer (some ⟨p, 0, none⟩), .int .i64 v] w fun e w' => e = .returned (.bool (x.inV v)) ∧ w = w' := by
  have cs := seen14_ S p x v w H
  have HB : Hid ((x.seen v != -1) = x.inV v) := by obtain ⟨vs, vl, H⟩ := H; exact Ep.in_ne H.ok v
  generalize x.seen v = s at *
  go_enter Try.func24, Try.ntmps24
  go_wp2_with fail
  refine cs.mono ?_; rintro e w1 ⟨rfl, rfl⟩
  go_wp2
  go_ret
  rw [← HB.out]
  exact ⟨rfl, rfl⟩
set_option maxHeartbeats 1000000 in
set_option maxRecDepth 100000 in
theorem announce14_ (S p x) (v e : Int) (w : World) (H : EpCR w S p x) (he : e = -1 ∨ e = x.now) : Told Try.prog epC 30 #[.pointer (some ⟨p, 0, none⟩), .int .i64 v, .int .i64 e] w S p (.int .i64 (x.setE v : Int)) (x.setT v e) := by
  have HH := Lib.hid H
  have ch := has14_ S p x v w H
  obtain ⟨vs, vl, H⟩ := H
  have c1 := H.c1
  obtain ⟨g, c, rfl, hg⟩ := own_block H.rs H.ok.pos
  show Calls _ _ _ _ _
  by_cases h : x.there v
  · obtain ⟨h0, h1⟩ := id h
    obtain ⟨k, rfl⟩ := Int.eq_ofNat_of_zero_le h0
    have HV : Hid (x.setE (k : Int) = 0) := by
      show _ = _
      unfold Ep.setE
      rw [if_pos h]
    have hk : k < x.said.length := by omega
    have x1 : w.cell? ⟨g, k, none⟩ = some (.int .i64 (x.said.getD k (-1))) := (World.ownsRow.cellAt H.rs k (by omega)).trans (valsI_at _ _ hk _)
    have f1 : w.frozen? ⟨g, k, none⟩ = false := World.ownsRow.frozenAt H.rs k
    have i0 : (0 : Int) ≤ (k : Int) := by omega
    have HS := Lib.hid (H.set k hk e he)
    rw [decide_eq_true h] at ch
    generalize x.said.getD k (-1) = s at *
    clear h h0 H he
    go_enter Try.func30, Try.ntmps30
    go_wp2_with fail
    refine (none14_ S p x _ HH.out).mono ?_; rintro e w1 ⟨rfl, rfl⟩
    go_wp2_with fail
    refine ch.mono ?_; rintro e w1 ⟨rfl, rfl⟩
    go_wp2
    go_ret
    rw [HV.out]
    exact ⟨rfl, S, ⟨_, _, HS.out.1⟩, Fresh.refl _ _, HS.out.2⟩
  · have HV : Hid (x.setE v = 2 ∧ x.setT v e = x) := by
      show _ ∧ _
      unfold Ep.setE Ep.setT
      rw [if_neg h, if_neg h]
      exact ⟨rfl, rfl⟩
    rw [decide_eq_false h] at ch
    clear h H he
    go_enter Try.func30, Try.ntmps30
    go_wp2_with fail
    refine (none14_ S p x _ HH.out).mono ?_; rintro e w1 ⟨rfl, rfl⟩
    go_wp2_with fail
    refine ch.mono ?_; rintro e w1 ⟨rfl, rfl⟩
    go_wp2
    go_ret
    rw [HV.out.1, HV.out.2]
    exact ⟨rfl, S, HH.out, Fresh.refl _ _, Beside.refl _ _⟩
set_option maxHeartbeats 1000000 in
set_option maxRecDepth 100000 in
theorem enter14_ (S p x) (v : Int) (w : World) (H : EpCR w S p x) : Told Try.prog epC 11 #[.pointer (some ⟨p, 0, none⟩), .int .i64 v] w S p (.int .i64 (x.setE v : Int)) (x.setT v x.now) := by
  have cs := announce14_ S p x v x.now w H (.inr rfl)
  have cn := now14_ S p x w H
  show Calls _ _ _ _ _
  go_enter Try.func11, Try.ntmps11
  go_wp2_with fail
  refine cn.mono ?_; rintro e w0 ⟨rfl, rfl⟩
  go_wp2_with fail
  refine Calls.mono (R := fun e w' => e = .returned (.int .i64 (x.setE v : Int)) ∧ ∃ S', EpCR w' S' p (x.setT v x.now) ∧ Fresh w S S' ∧ Beside S w w') cs ?_; rintro e w1 ⟨rfl, S1, R1, f1, b1⟩
  go_wp2
  go_ret
  exact ⟨rfl, S1, R1, f1, b1⟩
set_option maxHeartbeats 1000000 in
set_option maxRecDepth 100000 in
theorem leave14_ (S p x) (v : Int) (w : World) (H : EpCR w S p x) : Told Try.prog epC 13 #[.pointer (some ⟨p, 0, none⟩), .int .i64 v] w S p (.int .i64 (x.setE v : Int)) (x.setT v (-1)) := by
  have cs := announce14_ S p x v (-1) w H (.inl rfl)
  show Calls _ _ _ _ _
  go_enter Try.func13, Try.ntmps13
  go_wp2_with fail
  refine Calls.mono (R := fun e w' => e = .returned (.int .i64 (x.setE v : Int)) ∧ ∃ S', EpCR w' S' p (x.setT v (-1)) ∧ Fresh w S S' ∧ Beside S w w') cs ?_; rintro e w1 ⟨rfl, S1, R1, f1, b1⟩
  go_wp2
  go_ret
  exact ⟨rfl, S1, R1, f1, b1⟩
set_option maxHeartbeats 1000000 in
set_option maxRecDepth 100000 in
theorem now14N_ (v : Value) (w : World) (H : NoC w v) : Calls Try.prog 22 #[v] w fun e w' => e = .returned (.int .i64 0) ∧ w = w' := by
  go_enter Try.func22, Try.ntmps22
  go_wp2_with fail
  refine (none14N_ v _ H).mono ?_; rintro e w1 ⟨rfl, rfl⟩
  go_wp2
  go_ret
  exact ⟨rfl, rfl⟩
set_option maxHeartbeats 1000000 in
set_option maxRecDepth 100000 in
theorem waiting14N_ (v : Value) (w : World) (H : NoC w v) : Calls Try.prog 28 #[v] w fun e w' => e = .returned (.int .i64 0) ∧ w = w' := by
  go_enter Try.func28, Try.ntmps28
  go_wp2_with fail
  refine (none14N_ v _ H).mono ?_; rintro e w1 ⟨rfl, rfl⟩
  go_wp2
  go_ret
  exact ⟨rfl, rfl⟩
set_option maxHeartbeats 1000000 in
set_option maxRecDepth 100000 in
theorem has14N_ (v : Value) (i : Int) (w : World) (H : NoC w v) : Calls Try.prog 39 #[v, .int .i64 i] w fun e w' => e = .returned (.bool false) ∧ w = w' := by
  go_enter Try.func39, Try.ntmps39
  go_wp2_with fail
  refine (none14N_ v _ H).mono ?_; rintro e w1 ⟨rfl, rfl⟩
  go_wp2
  go_ret
  exact ⟨rfl, rfl⟩
set_option maxHeartbeats 1000000 in
set_option maxRecDepth 100000 in
theorem seen14N_ (v : Value) (i : Int) (w : World) (H : NoC w v) : Calls Try.prog 26 #[v, .int .i64 i] w fun e w' => e = .returned (.int .i64 (-1)) ∧ w = w' := by
  go_enter Try.func26, Try.ntmps26
  go_wp2_with fail
  refine (has14N_ v i _ H).mono ?_; rintro e w1 ⟨rfl, rfl⟩
  go_wp2
  go_ret
  exact ⟨rfl, rfl⟩
set_option maxHeartbeats 1000000 in
set_option maxRecDepth 100000 in
theorem in14N_ (v : Value) (i : Int) (w : World) (H : NoC w v) : Calls Try.prog 24 #[v, .int .i64 i] w fun e w' => e = .returned (.bool false) ∧ w = w' := by
  go_enter Try.func24, Try.ntmps24
  go_wp2_with fail
  refine (seen14N_ v i _ H).mono ?_; rintro e w1 ⟨rfl, rfl⟩
  go_wp2
  go_ret
  exact ⟨rfl, rfl⟩
set_option maxHeartbeats 1000000 in
set_option maxRecDepth 100000 in
theorem announce14N_ (v : Value) (i e : Int) (w : World) (H : NoC w v) : Calls Try.prog 30 #[v, .int .i64 i, .int .i64 e] w fun e w' => e = .returned (.int .i64 1) ∧ w = w' := by
  go_enter Try.func30, Try.ntmps30
  go_wp2_with fail
  refine (none14N_ v _ H).mono ?_; rintro e w1 ⟨rfl, rfl⟩
  go_wp2
  go_ret
  exact ⟨rfl, rfl⟩
set_option maxHeartbeats 1000000 in
set_option maxRecDepth 100000 in
theorem enter14N_ (v : Value) (i : Int) (w : World) (H : NoC w v) : Calls Try.prog 11 #[v, .int .i64 i] w fun e w' => e = .returned (.int .i64 1) ∧ w = w' := by
  go_enter Try.func11, Try.ntmps11
  go_wp2_with fail
  refine (now14N_ v _ H).mono ?_; rintro e w0 ⟨rfl, rfl⟩
  go_wp2_with fail
  refine (announce14N_ v i 0 _ H).mono ?_; rintro e w1 ⟨rfl, rfl⟩
  go_wp2
  go_ret
  exact ⟨rfl, rfl⟩
set_option maxHeartbeats 1000000 in
set_option maxRecDepth 100000 in
theorem leave14N_ (v : Value) (i : Int) (w : World) (H : NoC w v) : Calls Try.prog 13 #[v, .int .i64 i] w fun e w' => e = .returned (.int .i64 1) ∧ w = w' := by
  go_enter Try.func13, Try.ntmps13
  go_wp2_with fail
  refine (announce14N_ v i (-1) _ H).mono ?_; rintro e w1 ⟨rfl, rfl⟩
  go_wp2
  go_ret
  exact ⟨rfl, rfl⟩
end Go.Proofs.Ytghicdajcmkfjaa
