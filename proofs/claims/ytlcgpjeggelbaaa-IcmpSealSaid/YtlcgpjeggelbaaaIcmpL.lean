/- Contracts of package icmp: Query, Error. -/
import Derived.Test.YtlcgpjeggelbaaaIcmpK
import Derived.Test.YtlcgpjeggelbaaaBox5
import Derived.Test.YtlcgpjeggelbaaaLead
import Derived.Deep.RegionHeld3
namespace Go.Proofs.Ytlcgpjeggelbaaa
set_option linter.unusedVariables false
set_option linter.unusedSimpArgs false
open Go.ChangeShapes Go.WideShapes Go.ChangeAt Go.RowKit Go.PlainAid
open Go.Maps (keyOf_int_mk)
theorem kindV_cases (ty : Int) : (kindV ty = 1 ∧ (ty = 8 ∨ ty = 13)) ∨ (kindV ty = 2 ∧ (ty = 0 ∨ ty = 14)) ∨ (kindV ty = 3 ∧ (ty = 3 ∨ ty = 11 ∨ ty = 12)) ∨ (kindV ty = 0 ∧ ¬ ty = 8 ∧ ¬ ty = 13 ∧ ¬ ty = 0 ∧ ¬ ty = 14 ∧ ¬ ty = 3 ∧ ¬ ty = 11 ∧ ¬ ty = 12) := by
  unfold kindV
  split
  · omega
  · split
    · omega
    · split <;> omega
theorem kindV_ask (ty : Int) : qAsk ty 0 = (kindV ty == 1) := by
  rcases kindV_cases ty with ⟨h, h2⟩ | ⟨h, h2⟩ | ⟨h, h2⟩ | ⟨h, h2⟩ <;> rw [h] <;> unfold qAsk <;> simp <;> omega
theorem kindV_is (ty : Int) : qIs ty 0 = (kindV ty == 1 || kindV ty == 2) := by
  rcases kindV_cases ty with ⟨h, h2⟩ | ⟨h, h2⟩ | ⟨h, h2⟩ | ⟨h, h2⟩ <;> rw [h] <;> unfold qIs <;> simp <;> omega
set_option maxRecDepth 100000 in
set_option maxHeartbeats 2000000 in
theorem icmpQuery_ (ty co su : Int) (r d : ByteArray) (w : World) (t0 : 0 ≤ ty) (t1 : ty ≤ 255) (c0 : 0 ≤ co) (c1 : co ≤ 255) :
    Calls Try.prog 12 #[.agg #[.int .u8 ty, .int .u8 co, .int .u16 su, .string r, .string d]] w fun e w' => e = .returned (.tuple #[.bool (qAsk ty co), .bool (qIs ty co)]) ∧ Below w.heap.size w w' := by
  have B0 : Below w.heap.size w (w.alloc (.cells #[.int .u8 ty, .int .u8 co, .int .u16 su, .string r, .string d] 24)) := (Below.refl _ _).alloc (Nat.le_refl _) _
  by_cases h0 : co = 0
  rotate_left
  · have k1 : (co != 0) = true := by simpa using h0
    have HA : Hid (qAsk ty co = false) := by show _ = _; unfold qAsk; simp [h0]
    have HI : Hid (qIs ty co = false) := by show _ = _; unfold qIs; simp [h0]
    clear h0
    go_enter Try.func12, Try.ntmps12
    go_wp2
    go_ret2
    rw [HA.out, HI.out]
    exact ⟨rfl, B0⟩
  subst h0
  have wt : (Lit.int .u8 ty).wf = true := by simp [Lit.wf, IntKind.min, IntKind.max, IntKind.bits, IntKind.signed]; omega
  have HA := Lib.hid (kindV_ask ty)
  have HI := Lib.hid (kindV_is ty)
  have A0 := Box5.make w (.int .u8 ty) (.int .u8 0) (.int .u16 su) (.string r) (.string d) 24
  go_enter Try.func12, Try.ntmps12
  go_wp2_with fail
  obtain ⟨w1, hw1⟩ : ∃ x, x = w.alloc (.cells #[.int .u8 ty, .int .u8 0, .int .u16 su, .string r, .string d] 24) := ⟨_, rfl⟩
  rw [← hw1] at A0 B0 ⊢
  clear hw1
  have MK := Lib.hid (show ∀ w', Below w1.heap.size w1 w' → w'.cell? ⟨w.heap.size, 0, none⟩ = some (.int .u8 ty) ∧ w'.cell? ⟨w.heap.size, 1, none⟩ = some (.int .u8 0) ∧ Below w1.heap.size w1 w' from
    fun w' h => by obtain ⟨_, y0, y1, y2, y3, y4⟩ := A0.on h; exact ⟨y0, y1, h⟩)
  -- the region by hand
  refine wp_region_noPanic ?_
  refine wp_region_held_drew (S := (fun w' => w'.cell? ⟨w.heap.size, 0, none⟩ = some (.int .u8 ty) ∧ w'.cell? ⟨w.heap.size, 1, none⟩ = some (.int .u8 0) ∧ Below w1.heap.size w1 w')) (by kernel_rfl) (MK.out _ (Below.refl _ _).drew) (fun hS => ?_)
  refine wpAnyH_take (i := 1) (oi := _) (v := ?_) rfl (by kernel_rfl) (by kernel_rfl) (by kernel_rfl) (fun _ _ _ h => h) (Or.inl ⟨by rfl, ?_⟩) (by assumption) ?_
  rotate_left
  · intro w hSw
    obtain ⟨h0, h1, _⟩ := hSw
    go_simp
    with_reducible rfl
  try simp only [List.getElem_toArray, List.getElem_cons_succ, List.getElem_cons_zero, Act.put, List.setIfInBounds_toArray, List.set_cons_zero, List.set_cons_succ]
  refine wpAnyH_take (i := 2) (oi := _) (v := ?_) rfl (by kernel_rfl) (by kernel_rfl) (by kernel_rfl) (fun _ _ _ h => h) (Or.inl ⟨by rfl, ?_⟩) (by assumption) ?_
  rotate_left
  · intro w hSw
    obtain ⟨h0, h1, _⟩ := hSw
    go_simp
    with_reducible rfl
  try simp only [List.getElem_toArray, List.getElem_cons_succ, List.getElem_cons_zero, Act.put, List.setIfInBounds_toArray, List.set_cons_zero, List.set_cons_succ]
  refine wpAnyH_ready (rs := [0]) (by kernel_rfl) (by simp) ?_
  refine AllReadyH.cons (o := _) rfl (fun F hF => ?_) AllReadyH.nil
  go_simp
  refine (kinds_ _).mono ?_
  rintro e w2 ⟨⟨b, rfl, own⟩, x2⟩
  show F _ _
  refine hF.out _ _ (MK.out _ (hS.2.2.trans (x2.mono hS.2.2.size))) (fun hA => ?_)
  clear hF F
  try simp only [List.getElem_toArray, List.getElem_cons_succ, List.getElem_cons_zero, Act.put, List.setIfInBounds_toArray, List.set_cons_zero, List.set_cons_succ]
  obtain ⟨c, hrun, hat, _⟩ := own.lookup_int keyU8 Try.underlying55 Try.underlying3 (zeroI _) (keyOf_int_mk Try.underlying5 wt)
  rw [kinds7_at] at hat
  obtain rfl : kindV ty = c := by injection hat with h; injection h
  refine wpAnyH_ready (rs := [3]) (by kernel_rfl) (by simp) ?_
  refine AllReadyH.cons (o := _) rfl (fun F hF => ?_) AllReadyH.nil
  go_simp
  refine hF.out _ _ hA (fun hB => ?_)
  clear hF F
  try simp only [List.getElem_toArray, List.getElem_cons_succ, List.getElem_cons_zero, Act.put, List.setIfInBounds_toArray, List.set_cons_zero, List.set_cons_succ]
  refine wpAnyH_ready (rs := [4]) (by kernel_rfl) (by simp) ?_
  refine AllReadyH.cons (o := _) rfl (fun F hF => ?_) AllReadyH.nil
  go_simp
  refine hF.out _ _ hB (fun hC => ?_)
  clear hF F
  try simp only [List.getElem_toArray, List.getElem_cons_succ, List.getElem_cons_zero, Act.put, List.setIfInBounds_toArray, List.set_cons_zero, List.set_cons_succ]
  refine wpAnyH_done (by kernel_rfl) (NoPanic.normal ?_) _
  have B2 := B0.trans (hB.2.2.mono B0.size)
  obtain ⟨x, hx⟩ : ∃ x, x = (kindV ty == 1) := ⟨_, rfl⟩
  obtain ⟨y, hy⟩ : ∃ y, y = (kindV ty == 2) := ⟨_, rfl⟩
  have e1 := hx.symm
  have e2 := hy.symm
  have HA2 := Lib.hid (show qAsk ty 0 = x by rw [HA.out, hx])
  have HI2 := Lib.hid (show qIs ty 0 = (x || y) by rw [HI.out, hx, hy])
  clear hx hy HA HI hA hB hC hS MK A0 own hrun hat
  cases x
  all_goals
    go_wp2
    go_ret2
    rw [HA2.out, HI2.out]
    exact ⟨rfl, B2⟩
theorem kindV_err (ty : Int) : erM ty = (kindV ty == 3) := by
  rcases kindV_cases ty with ⟨h, h2⟩ | ⟨h, h2⟩ | ⟨h, h2⟩ | ⟨h, h2⟩ <;> rw [h] <;> unfold erM <;> simp <;> omega
set_option maxHeartbeats 2000000 in
set_option maxRecDepth 100000 in
theorem icmpError_ (ty co su : Int) (r d : ByteArray) (w : World) (t0 : 0 ≤ ty) (t1 : ty ≤ 255) (c0 : 0 ≤ co) (c1 : co ≤ 255) :
    Calls Try.prog 14 #[.agg #[.int .u8 ty, .int .u8 co, .int .u16 su, .string r, .string d]] w fun e w' => e = .returned (.bool (erM ty)) ∧ Below w.heap.size w w' := by
  have B0 : Below w.heap.size w (w.alloc (.cells #[.int .u8 ty, .int .u8 co, .int .u16 su, .string r, .string d] 24)) := (Below.refl _ _).alloc (Nat.le_refl _) _
  have wt : (Lit.int .u8 ty).wf = true := by simp [Lit.wf, IntKind.min, IntKind.max, IntKind.bits, IntKind.signed]; omega
  have HA := Lib.hid (kindV_err ty)
  have A0 := Box5.make w (.int .u8 ty) (.int .u8 co) (.int .u16 su) (.string r) (.string d) 24
  go_enter Try.func14, Try.ntmps14
  go_wp2_with fail
  obtain ⟨w1, hw1⟩ : ∃ x, x = w.alloc (.cells #[.int .u8 ty, .int .u8 co, .int .u16 su, .string r, .string d] 24) := ⟨_, rfl⟩
  rw [← hw1] at A0 B0 ⊢
  clear hw1
  have MK := Lib.hid (show ∀ w', Below w1.heap.size w1 w' → w'.cell? ⟨w.heap.size, 0, none⟩ = some (.int .u8 ty) ∧ w'.cell? ⟨w.heap.size, 1, none⟩ = some (.int .u8 co) ∧ Below w1.heap.size w1 w' from
    fun w' h => by obtain ⟨_, y0, y1, y2, y3, y4⟩ := A0.on h; exact ⟨y0, y1, h⟩)
  -- the region by hand
  refine wp_region_noPanic ?_
  refine wp_region_held_drew (S := (fun w' => w'.cell? ⟨w.heap.size, 0, none⟩ = some (.int .u8 ty) ∧ w'.cell? ⟨w.heap.size, 1, none⟩ = some (.int .u8 co) ∧ Below w1.heap.size w1 w')) (by kernel_rfl) (MK.out _ (Below.refl _ _).drew) (fun hS => ?_)
  refine wpAnyH_take (i := 1) (oi := _) (v := ?_) rfl (by kernel_rfl) (by kernel_rfl) (by kernel_rfl) (fun _ _ _ h => h) (Or.inl ⟨by rfl, ?_⟩) (by assumption) ?_
  rotate_left
  · intro w hSw
    obtain ⟨h0, h1, _⟩ := hSw
    go_simp
    with_reducible rfl
  try simp only [List.getElem_toArray, List.getElem_cons_succ, List.getElem_cons_zero, Act.put, List.setIfInBounds_toArray, List.set_cons_zero, List.set_cons_succ]
  refine wpAnyH_take (i := 2) (oi := _) (v := ?_) rfl (by kernel_rfl) (by kernel_rfl) (by kernel_rfl) (fun _ _ _ h => h) (Or.inl ⟨by rfl, ?_⟩) (by assumption) ?_
  rotate_left
  · intro w hSw
    obtain ⟨h0, h1, _⟩ := hSw
    go_simp
    with_reducible rfl
  try simp only [List.getElem_toArray, List.getElem_cons_succ, List.getElem_cons_zero, Act.put, List.setIfInBounds_toArray, List.set_cons_zero, List.set_cons_succ]
  refine wpAnyH_ready (rs := [0]) (by kernel_rfl) (by simp) ?_
  refine AllReadyH.cons (o := _) rfl (fun F hF => ?_) AllReadyH.nil
  go_simp
  refine (kinds_ _).mono ?_
  rintro e w2 ⟨⟨b, rfl, own⟩, x2⟩
  show F _ _
  refine hF.out _ _ (MK.out _ (hS.2.2.trans (x2.mono hS.2.2.size))) (fun hA => ?_)
  clear hF F
  try simp only [List.getElem_toArray, List.getElem_cons_succ, List.getElem_cons_zero, Act.put, List.setIfInBounds_toArray, List.set_cons_zero, List.set_cons_succ]
  obtain ⟨c, hrun, hat, _⟩ := own.lookup_int keyU8 Try.underlying55 Try.underlying3 (zeroI _) (keyOf_int_mk Try.underlying5 wt)
  rw [kinds7_at] at hat
  obtain rfl : kindV ty = c := by injection hat with h; injection h
  refine wpAnyH_ready (rs := [3]) (by kernel_rfl) (by simp) ?_
  refine AllReadyH.cons (o := _) rfl (fun F hF => ?_) AllReadyH.nil
  go_simp
  refine hF.out _ _ hA (fun hB => ?_)
  clear hF F
  try simp only [List.getElem_toArray, List.getElem_cons_succ, List.getElem_cons_zero, Act.put, List.setIfInBounds_toArray, List.set_cons_zero, List.set_cons_succ]
  obtain ⟨x, hx⟩ : ∃ x, (kindV ty == 3) = x := ⟨_, rfl⟩
  refine wpAnyH_ready (rs := [4]) (by kernel_rfl) (by simp) ?_
  refine AllReadyH.cons (o := _) rfl (fun F hF => ?_) AllReadyH.nil
  go_simp
  refine hF.out _ _ hB (fun hC => ?_)
  clear hF F
  try simp only [List.getElem_toArray, List.getElem_cons_succ, List.getElem_cons_zero, Act.put, List.setIfInBounds_toArray, List.set_cons_zero, List.set_cons_succ]
  refine wpAnyH_ready (rs := [5]) (by kernel_rfl) (by simp) ?_
  refine AllReadyH.cons (o := _) rfl (fun F hF => ?_) AllReadyH.nil
  go_simp
  refine hF.out _ _ hC (fun hD => ?_)
  clear hF F
  try simp only [List.getElem_toArray, List.getElem_cons_succ, List.getElem_cons_zero, Act.put, List.setIfInBounds_toArray, List.set_cons_zero, List.set_cons_succ]
  refine wpAnyH_done (by kernel_rfl) (NoPanic.normal ?_) _
  have B2 := B0.trans (hB.2.2.mono B0.size)
  have HA2 := Lib.hid (show erM ty = x by rw [HA.out, hx])
  clear hx HA hA hB hC hD hS MK A0 own hrun hat
  go_wp2
  go_ret
  rw [HA2.out]
  exact ⟨rfl, B2⟩
end Go.Proofs.Ytlcgpjeggelbaaa
