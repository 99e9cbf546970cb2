/- Texts of this proof, together: IcmpK, IcmpL, IcmpH, IcmpG, IcmpN. -/
import Derived.Test.YtbpicngbjggblaaGreatDoorGj
import Derived.Test.YtbpicngbjggblaaGreatDoorGc
import Derived.Test.YtbpicngbjggblaaGreatDoorTake
import Derived.Test.YtbpicngbjggblaaGreatDoorGf
import Derived.Test.YtbpicngbjggblaaGreatDoorGb
import Derived.Test.YtbpicngbjggblaaGreatDoorGa
import Derived.Deep.RegionHeld3
namespace Go.Proofs.YtbpicngbjggblaaGreatDoor
set_option maxHeartbeats 1000000
set_option maxRecDepth 100000
set_option linter.unusedVariables false
set_option linter.unusedSimpArgs false
open Go.ChangeShapes Go.WideShapes Go.ChangeAt Go.RowKit Go.PlainAid
open Go.Maps (Keyed int_keyed keyOf_int_mk atKey_put_same atKey_put_other isMap_empty)
theorem keyU8 : Keyed Tryz.prog 5 := int_keyed Tryz.underlying5
theorem zeroI (w : World) : (zeroValue 3).run Tryz.prog w = .ok (.int .i64 0) w := by kernel_rfl
/-- What types are. -/
def kinds7 : DataW Unit := (((((((DataW.map []).put (.int .u8 8) (.lit (.int .i64 1))).put (.int .u8 13) (.lit (.int .i64 1))).put (.int .u8 0) (.lit (.int .i64 2))).put (.int .u8 14) (.lit (.int .i64 2))).put (.int .u8 3) (.lit (.int .i64 3))).put (.int .u8 11) (.lit (.int .i64 3))).put (.int .u8 12) (.lit (.int .i64 3))
def kindV (ty : Int) : Int := if ty = 8 ∨ ty = 13 then 1 else if ty = 0 ∨ ty = 14 then 2 else if ty = 3 ∨ ty = 11 ∨ ty = 12 then 3 else 0
theorem kinds7_at (ty : Int) : kinds7.atKey (.int .u8 ty) (.lit (.int .i64 0)) = .lit (.int .i64 (kindV ty)) := by
  have key : ∀ (D : DataW Unit) (hD : Go.Maps.IsMap D) (a : Int) (d : Int) (z : DataW Unit), (D.put (.int .u8 a) (.lit (.int .i64 d))).atKey (.int .u8 ty) z = if ty = a then .lit (.int .i64 d) else D.atKey (.int .u8 ty) z := by
    intro D hD a d z
    by_cases h : ty = a
    · subst h; rw [if_pos rfl, atKey_put_same hD (by trivial)]
    · rw [if_neg h, atKey_put_other (fun hh => h (by injection hh))]
  have m0 : Go.Maps.IsMap (DataW.map [] : DataW Unit) := isMap_empty
  unfold kinds7 kindV
  rw [key _ ((((((m0.put _ _).put _ _).put _ _).put _ _).put _ _).put _ _), key _ (((((m0.put _ _).put _ _).put _ _).put _ _).put _ _), key _ ((((m0.put _ _).put _ _).put _ _).put _ _), key _ (((m0.put _ _).put _ _).put _ _), key _ ((m0.put _ _).put _ _), key _ (m0.put _ _), key _ m0]
  rw [show (DataW.map [] : DataW Unit).atKey (.int .u8 ty) (.lit (.int .i64 0)) = .lit (.int .i64 0) from rfl]
  repeat' split
  all_goals first | rfl | (exfalso; omega)
theorem kinds_ (w : World) : Calls Tryz.prog 48 #[] w fun e w' => (∃ b, e = .returned (.map (some b)) ∧ w'.ownsMap Tryz.prog 5 (plainElem (H := Unit) Tryz.prog 3) b 7 kinds7) ∧ Below w.heap.size w w' := by
  have hmm := @run_makeMap Tryz.prog
  have o0 := World.ownsMap_made w Tryz.prog 5 (plainElem (H := Unit) Tryz.prog 3)
  have B0 : Below w.heap.size w (w.alloc (.map #[] 0)) := (Below.refl _ _).alloc (Nat.le_refl _) _
  go_enter Tryz.func48, Tryz.ntmps48
  go_wp2_with (refine wpList_insert_own _ rfl _ _ _ 102 rfl 5 3 keyU8 Tryz.underlying102 _ _ _ _ rfl (by assumption) (by decide) _ _ _ rfl rfl (keyOf_int_mk Tryz.underlying5 (by decide)) _ [] (plainElem_int Tryz.underlying3 (by decide)) ?_; intro w1 o1 g1; have B1 := (show Below w.heap.size w _ by assumption).grown g1 (Below.size (B := w.heap.size) (by assumption)) (fun j hj => by cases hj; exact Nat.le_refl _))
  go_ret
  exact ⟨⟨_, rfl, by assumption⟩, by assumption⟩
end Go.Proofs.YtbpicngbjggblaaGreatDoor
namespace Go.Proofs.YtbpicngbjggblaaGreatDoor
set_option maxHeartbeats 2000000
set_option maxRecDepth 100000
set_option linter.unusedVariables false
set_option linter.unusedSimpArgs false
open Go.ChangeShapes Go.WideShapes Go.ChangeAt Go.RowKit Go.PlainAid
open Go.Maps (keyOf_int_mk)
theorem kindV_cases (ty : Int) : (kindV ty = 1 ∧ (ty = 8 ∨ ty = 13)) ∨ (kindV ty = 2 ∧ (ty = 0 ∨ ty = 14)) ∨ (kindV ty = 3 ∧ (ty = 3 ∨ ty = 11 ∨ ty = 12)) ∨ (kindV ty = 0 ∧ ¬ ty = 8 ∧ ¬ ty = 13 ∧ ¬ ty = 0 ∧ ¬ ty = 14 ∧ ¬ ty = 3 ∧ ¬ ty = 11 ∧ ¬ ty = 12) := by
  unfold kindV
  split
  · omega
  · split
    · omega
    · split <;> omega
theorem kindV_ask (ty : Int) : qAsk ty 0 = (kindV ty == 1) := by
  rcases kindV_cases ty with ⟨h, h2⟩ | ⟨h, h2⟩ | ⟨h, h2⟩ | ⟨h, h2⟩ <;> rw [h] <;> unfold qAsk <;> simp <;> omega
theorem kindV_is (ty : Int) : qIs ty 0 = (kindV ty == 1 || kindV ty == 2) := by
  rcases kindV_cases ty with ⟨h, h2⟩ | ⟨h, h2⟩ | ⟨h, h2⟩ | ⟨h, h2⟩ <;> rw [h] <;> unfold qIs <;> simp <;> omega
theorem icmpQuery_ (ty co su : Int) (r d : ByteArray) (w : World) (t0 : 0 ≤ ty) (t1 : ty ≤ 255) (c0 : 0 ≤ co) (c1 : co ≤ 255) :
    Cw_ 18 #[.agg #[.int .u8 ty, .int .u8 co, .int .u16 su, .string r, .string d]] (.tuple #[.bool (qAsk ty co), .bool (qIs ty co)]) w := by
  have B0 : Below w.heap.size w (w.alloc (.cells #[.int .u8 ty, .int .u8 co, .int .u16 su, .string r, .string d] 63)) := (Below.refl _ _).alloc (Nat.le_refl _) _
  by_cases h0 : co = 0
  rotate_left
  · have k1 : (co != 0) = true := by simpa using h0
    have HA : Hid (qAsk ty co = false) := by show _ = _; unfold qAsk; simp [h0]
    have HI : Hid (qIs ty co = false) := by show _ = _; unfold qIs; simp [h0]
    clear h0
    go_enter Tryz.func18, Tryz.ntmps18
    go_wp2
    go_ret2
    rw [HA.out, HI.out]
    exact ⟨rfl, B0⟩
  subst h0
  have wt : (Lit.int .u8 ty).wf = true := by simp [Lit.wf, IntKind.min, IntKind.max, IntKind.bits, IntKind.signed]; omega
  have HA := Lib.hid (kindV_ask ty)
  have HI := Lib.hid (kindV_is ty)
  have A0 := Box5.make w (.int .u8 ty) (.int .u8 0) (.int .u16 su) (.string r) (.string d) 63
  go_enter Tryz.func18, Tryz.ntmps18
  go_wp2_with fail
  obtain ⟨w1, hw1⟩ : ∃ x, x = w.alloc (.cells #[.int .u8 ty, .int .u8 0, .int .u16 su, .string r, .string d] 63) := ⟨_, rfl⟩
  rw [← hw1] at A0 B0 ⊢
  clear hw1
  have MK := Lib.hid (show ∀ w', Below w1.heap.size w1 w' → w'.cell? ⟨w.heap.size, 0, none⟩ = some (.int .u8 ty) ∧ w'.cell? ⟨w.heap.size, 1, none⟩ = some (.int .u8 0) ∧ Below w1.heap.size w1 w' from
    fun w' h => by obtain ⟨_, y0, y1, y2, y3, y4⟩ := A0.on h; exact ⟨y0, y1, h⟩)
  -- the region by hand
  refine wp_region_noPanic ?_
  refine wp_region_held_drew (S := (fun w' => w'.cell? ⟨w.heap.size, 0, none⟩ = some (.int .u8 ty) ∧ w'.cell? ⟨w.heap.size, 1, none⟩ = some (.int .u8 0) ∧ Below w1.heap.size w1 w')) (by kernel_rfl) (MK.out _ (Below.refl _ _).drew) (fun hS => ?_)
  refine tk_ 1 (v := ?_) (by assumption) ?_ ?_
  rotate_left
  · intro w hSw
    obtain ⟨h0, h1, _⟩ := hSw
    go_simp
    with_reducible rfl
  try simp only [List.getElem_toArray, List.getElem_cons_succ, List.getElem_cons_zero, Act.put, puS_]
  refine tk_ 2 (v := ?_) (by assumption) ?_ ?_
  rotate_left
  · intro w hSw
    obtain ⟨h0, h1, _⟩ := hSw
    go_simp
    with_reducible rfl
  try simp only [List.getElem_toArray, List.getElem_cons_succ, List.getElem_cons_zero, Act.put, puS_]
  refine wpAnyH_ready (rs := [0]) (by kernel_rfl) (by simp) ?_
  refine AllReadyH.cons (o := _) rfl (fun F hF => ?_) AllReadyH.nil
  go_simp
  refine (kinds_ _).mono ?_
  rintro e w2 ⟨⟨b, rfl, own⟩, x2⟩
  show F _ _
  refine hF.out _ _ (MK.out _ (hS.2.2.trans (x2.mono hS.2.2.size))) (fun hA => ?_)
  clear hF F
  try simp only [List.getElem_toArray, List.getElem_cons_succ, List.getElem_cons_zero, Act.put, puS_]
  obtain ⟨c, hrun, hat, _⟩ := own.lookup_int keyU8 Tryz.underlying102 Tryz.underlying3 (zeroI _) (keyOf_int_mk Tryz.underlying5 wt)
  rw [kinds7_at] at hat
  obtain rfl : kindV ty = c := by injection hat with h; injection h
  refine wpAnyH_ready (rs := [3]) (by kernel_rfl) (by simp) ?_
  refine AllReadyH.cons (o := _) rfl (fun F hF => ?_) AllReadyH.nil
  go_simp
  refine hF.out _ _ hA (fun hB => ?_)
  clear hF F
  try simp only [List.getElem_toArray, List.getElem_cons_succ, List.getElem_cons_zero, Act.put, puS_]
  refine wpAnyH_ready (rs := [4]) (by kernel_rfl) (by simp) ?_
  refine AllReadyH.cons (o := _) rfl (fun F hF => ?_) AllReadyH.nil
  go_simp
  refine hF.out _ _ hB (fun hC => ?_)
  clear hF F
  try simp only [List.getElem_toArray, List.getElem_cons_succ, List.getElem_cons_zero, Act.put, puS_]
  refine wpAnyH_done (by kernel_rfl) (NoPanic.normal ?_) _
  have B2 := B0.trans (hB.2.2.mono B0.size)
  obtain ⟨x, hx⟩ : ∃ x, x = (kindV ty == 1) := ⟨_, rfl⟩
  obtain ⟨y, hy⟩ : ∃ y, y = (kindV ty == 2) := ⟨_, rfl⟩
  have e1 := hx.symm
  have e2 := hy.symm
  have HA2 := Lib.hid (show qAsk ty 0 = x by rw [HA.out, hx])
  have HI2 := Lib.hid (show qIs ty 0 = (x || y) by rw [HI.out, hx, hy])
  clear hx hy HA HI hA hB hC hS MK A0 own hrun hat
  cases x
  all_goals
    go_wp2
    go_ret2
    rw [HA2.out, HI2.out]
    exact ⟨rfl, B2⟩
theorem kindV_err (ty : Int) : erM ty = (kindV ty == 3) := by
  rcases kindV_cases ty with ⟨h, h2⟩ | ⟨h, h2⟩ | ⟨h, h2⟩ | ⟨h, h2⟩ <;> rw [h] <;> unfold erM <;> simp <;> omega
theorem icmpError_ (ty co su : Int) (r d : ByteArray) (w : World) (t0 : 0 ≤ ty) (t1 : ty ≤ 255) (c0 : 0 ≤ co) (c1 : co ≤ 255) :
    Cw_ 97 #[.agg #[.int .u8 ty, .int .u8 co, .int .u16 su, .string r, .string d]] (.bool (erM ty)) w := by
  have B0 : Below w.heap.size w (w.alloc (.cells #[.int .u8 ty, .int .u8 co, .int .u16 su, .string r, .string d] 63)) := (Below.refl _ _).alloc (Nat.le_refl _) _
  have wt : (Lit.int .u8 ty).wf = true := by simp [Lit.wf, IntKind.min, IntKind.max, IntKind.bits, IntKind.signed]; omega
  have HA := Lib.hid (kindV_err ty)
  have A0 := Box5.make w (.int .u8 ty) (.int .u8 co) (.int .u16 su) (.string r) (.string d) 63
  go_enter Tryz.func97, Tryz.ntmps97
  go_wp2_with fail
  obtain ⟨w1, hw1⟩ : ∃ x, x = w.alloc (.cells #[.int .u8 ty, .int .u8 co, .int .u16 su, .string r, .string d] 63) := ⟨_, rfl⟩
  rw [← hw1] at A0 B0 ⊢
  clear hw1
  have MK := Lib.hid (show ∀ w', Below w1.heap.size w1 w' → w'.cell? ⟨w.heap.size, 0, none⟩ = some (.int .u8 ty) ∧ w'.cell? ⟨w.heap.size, 1, none⟩ = some (.int .u8 co) ∧ Below w1.heap.size w1 w' from
    fun w' h => by obtain ⟨_, y0, y1, y2, y3, y4⟩ := A0.on h; exact ⟨y0, y1, h⟩)
  -- the region by hand
  refine wp_region_noPanic ?_
  refine wp_region_held_drew (S := (fun w' => w'.cell? ⟨w.heap.size, 0, none⟩ = some (.int .u8 ty) ∧ w'.cell? ⟨w.heap.size, 1, none⟩ = some (.int .u8 co) ∧ Below w1.heap.size w1 w')) (by kernel_rfl) (MK.out _ (Below.refl _ _).drew) (fun hS => ?_)
  refine tk_ 1 (v := ?_) (by assumption) ?_ ?_
  rotate_left
  · intro w hSw
    obtain ⟨h0, h1, _⟩ := hSw
    go_simp
    with_reducible rfl
  try simp only [List.getElem_toArray, List.getElem_cons_succ, List.getElem_cons_zero, Act.put, puS_]
  refine tk_ 2 (v := ?_) (by assumption) ?_ ?_
  rotate_left
  · intro w hSw
    obtain ⟨h0, h1, _⟩ := hSw
    go_simp
    with_reducible rfl
  try simp only [List.getElem_toArray, List.getElem_cons_succ, List.getElem_cons_zero, Act.put, puS_]
  refine wpAnyH_ready (rs := [0]) (by kernel_rfl) (by simp) ?_
  refine AllReadyH.cons (o := _) rfl (fun F hF => ?_) AllReadyH.nil
  go_simp
  refine (kinds_ _).mono ?_
  rintro e w2 ⟨⟨b, rfl, own⟩, x2⟩
  show F _ _
  refine hF.out _ _ (MK.out _ (hS.2.2.trans (x2.mono hS.2.2.size))) (fun hA => ?_)
  clear hF F
  try simp only [List.getElem_toArray, List.getElem_cons_succ, List.getElem_cons_zero, Act.put, puS_]
  obtain ⟨c, hrun, hat, _⟩ := own.lookup_int keyU8 Tryz.underlying102 Tryz.underlying3 (zeroI _) (keyOf_int_mk Tryz.underlying5 wt)
  rw [kinds7_at] at hat
  obtain rfl : kindV ty = c := by injection hat with h; injection h
  refine wpAnyH_ready (rs := [3]) (by kernel_rfl) (by simp) ?_
  refine AllReadyH.cons (o := _) rfl (fun F hF => ?_) AllReadyH.nil
  go_simp
  refine hF.out _ _ hA (fun hB => ?_)
  clear hF F
  try simp only [List.getElem_toArray, List.getElem_cons_succ, List.getElem_cons_zero, Act.put, puS_]
  obtain ⟨x, hx⟩ : ∃ x, (kindV ty == 3) = x := ⟨_, rfl⟩
  refine wpAnyH_ready (rs := [4]) (by kernel_rfl) (by simp) ?_
  refine AllReadyH.cons (o := _) rfl (fun F hF => ?_) AllReadyH.nil
  go_simp
  refine hF.out _ _ hB (fun hC => ?_)
  clear hF F
  try simp only [List.getElem_toArray, List.getElem_cons_succ, List.getElem_cons_zero, Act.put, puS_]
  refine wpAnyH_ready (rs := [5]) (by kernel_rfl) (by simp) ?_
  refine AllReadyH.cons (o := _) rfl (fun F hF => ?_) AllReadyH.nil
  go_simp
  refine hF.out _ _ hC (fun hD => ?_)
  clear hF F
  try simp only [List.getElem_toArray, List.getElem_cons_succ, List.getElem_cons_zero, Act.put, puS_]
  refine wpAnyH_done (by kernel_rfl) (NoPanic.normal ?_) _
  have B2 := B0.trans (hB.2.2.mono B0.size)
  have HA2 := Lib.hid (show erM ty = x by rw [HA.out, hx])
  clear hx HA hA hB hC hD hS MK A0 own hrun hat
  go_wp2
  go_ret
  rw [HA2.out]
  exact ⟨rfl, B2⟩
end Go.Proofs.YtbpicngbjggblaaGreatDoor
namespace Go.Proofs.YtbpicngbjggblaaGreatDoor
set_option maxHeartbeats 2000000
set_option maxRecDepth 100000
set_option linter.unusedVariables false
set_option linter.unusedSimpArgs false
open Go.ChangeShapes Go.WideShapes Go.ChangeAt Go.RowKit Go.PlainAid
attribute [local go_sem ↓] Go.wp_at_zero Go.wp_at_succ
theorem icmpParse_ (s : ByteArray) (w : World) (hs : s.size ≤ 1000000) :
    Cw_ 47 #[.string s] (.tuple #[.agg #[.int .u8 (mI s (bt s 0)), .int .u8 (mI s (bt s 1)), .int .u16 (mI s (g16 s 2)), .string (mR s), .string (mD s)], .bool (mOk s)]) w := by
  have hs2 : s.size ≤ maxLen := by unfold maxLen; omega
  have hb := get_bt s
  by_cases h8 : s.size < 8
  · have hk : mOk s = false := by unfold mOk; simp; omega
    obtain ⟨y1, y2, y3⟩ := mOk_no hk
    rw [y1, y1, y1, y2, y3, hk]
    have e1 : decide ((s.size : Int) < 8) = true := by simp; omega
    clear h8 hk y1 y2 y3 hb
    go_enter Tryz.func47, Tryz.ntmps47
    go_wp2
    refine bodyPost_ret (v := .tuple #[.agg #[.int .u8 0, .int .u8 0, .int .u16 0, .string ⟨#[]⟩, .string ⟨#[]⟩], .bool false]) (by simp [results, Tryz.results47, go_sem]) rfl ?_
    exact ⟨rfl, (Below.refl _ _).alloc (Nat.le_refl _) _⟩
  have e1 : decide ((s.size : Int) < 8) = false := by simp; omega
  have hk : mOk s = true := by unfold mOk; simp; omega
  obtain ⟨_, y1, y2, y3⟩ := mOk_yes hk
  rw [y1, y1, y1, y2, y3, hk]
  have c2 := fun u => get16_yes s 2 u hs2 (by omega)
  have i0 : (0 : Int) < (s.size : Int) := by omega
  have i1 : (1 : Int) < (s.size : Int) := by omega
  have i8 : (8 : Int) ≤ (s.size : Int) := by omega
  have zr := size_extract' s 4 8 (by omega) (by omega)
  have zd := size_extract' s 8 s.size (by omega) (Nat.le_refl _)
  have cr := fun u => clone_ (s.extract 4 8) u (by omega)
  have cd := fun u => clone_ (s.extract 8 s.size) u (by omega)
  generalize g16 s 2 = v2 at *
  clear h8 hk y1 y2 y3 zr zd
  go_enter Tryz.func47, Tryz.ntmps47
  go_wp2_with fail
  refine (c2 _).mono ?_; rintro e w1 ⟨rfl, b1⟩
  have B1 : Below w.heap.size w w1 := ((Below.refl _ _).alloc (Nat.le_refl _) _).trans (b1.mono (by simp))
  obtain ⟨hc, hf⟩ := bcell4_ b1
  have hz : w.heap.size < w1.heap.size := by have := b1.size; simp at this; omega
  have A0 := Box5.make w (.int .u8 0) (.int .u8 0) (.int .u16 0) (.string ⟨#[]⟩) (.string ⟨#[]⟩) 63
  have A1 := A0.on b1
  have F1 : ∀ j, w1.frozen? ⟨w.heap.size, j, none⟩ = false := by intro j; rw [hf _ _ (by simp)]; simp [go_sem]
  clear A0
  clear hc hf b1 c2
  go_wp2_with fail
  refine region_lead (B := w1.heap.size) 12 2 (by kernel_rfl) (by kernel_rfl) (by kernel_rfl) (by kernel_rfl) ?_
  simp only [List.take_succ_cons, List.take_zero]
  repeat (go_big_quiet_step (first
    | (go_at_call_of 52 (s.extract 4 8); exact later_of _ (Nat.le_refl _) (cr _))
    | (go_at_call_of 52 (s.extract 8 s.size); exact later_of _ (Nat.le_refl _) (cd _))))
  refine lead_tail (fin := #[true, true, true, true, true, true, true, true, true, true, true, true, false, false]) (by kernel_rfl) fun f w3 b3 => ?_
  have A3 := A1.on b3
  obtain ⟨_, x0, x1, x2, x3, x4⟩ := id A3
  have F3 : ∀ j, w3.frozen? ⟨w.heap.size, j, none⟩ = false := fun j => (b3.frozen (p := ⟨_, j, none⟩) hz).trans (F1 j)
  have B3 := B1.trans (b3.mono B1.size)
  have hz3 := B3.size
  clear A1 F1 b3 B1 cr cd
  refine wpAny_ready (rs := [12]) (by kernel_rfl) (by simp) (AllReady.cons rfl (fun K hK => ?_) AllReady.nil)
  go_simp
  refine hK _ _ ?_
  clear hK K
  clear x0 x1 x2 x3 x4
  refine box5_ (b := w.heap.size) A3.some B3 (Nat.le_refl _) fun w9 x0 x1 x2 x3 x4 B9 _ _ => ?_
  clear A3 F3 B3
  refine wpAny_ready (rs := [13]) (by kernel_rfl) (by simp) (AllReady.cons rfl (fun K hK => ?_) AllReady.nil)
  go_simp
  refine hK _ _ ?_
  clear hK K
  refine wpAny_done (by kernel_rfl) ?_ _
  go_wp2
  refine bodyPost_ret (v := .tuple #[.agg #[.int .u8 (bt s 0), .int .u8 (bt s 1), .int .u16 v2, .string (s.extract 4 8), .string (s.extract 8 s.size)], .bool true]) (by simp [results, Tryz.results47, go_sem, x0, x1, x2, x3, x4]) rfl ?_
  exact ⟨rfl, B9⟩
theorem icmpPut_ (ty co su : Int) (r d : ByteArray) (w : World) (t0 : 0 ≤ ty) (t1 : ty ≤ 255) (c0 : 0 ≤ co) (c1 : co ≤ 255) (s0 : 0 ≤ su) (s1 : su ≤ 65535) (hr : r.size ≤ 1000000) (hd : d.size ≤ 1000000) :
    Cw_ 36 #[.agg #[.int .u8 ty, .int .u8 co, .int .u16 su, .string r, .string d]] (.tuple #[.string (icP ty co su r d), .int .i64 (icE r.size)]) w := by
  obtain ⟨n, hn⟩ : ∃ n, r.size = n := ⟨_, rfl⟩
  rw [hn] at hr
  by_cases h4 : n = 4
  rotate_left
  · have HV : Hid (icP ty co su r d = ⟨#[]⟩) := by show _ = _; unfold icP; rw [if_neg (by omega)]
    have HE : Hid (icE r.size = 2) := by show _ = _; unfold icE; rw [if_neg (by omega)]
    have e1 : ((n : Int) != 4) = true := by simp; omega
    clear h4
    go_enter Tryz.func36, Tryz.ntmps36
    go_wp2
    go_ret2
    rw [HE.out, HV.out]
    exact ⟨rfl, (Below.refl _ _).alloc (Nat.le_refl _) _⟩
  have e1 : ((n : Int) != 4) = false := by simp; omega
  have HE : Hid (icE r.size = 0) := by show _ = _; unfold icE; rw [if_pos (by omega)]
  have HV : Hid (icP ty co su r d = strOfNums (wordL [256 * ty + co, su]) ++ r ++ d) := by show _ = _; unfold icP icB; rw [if_pos (by omega)]
  obtain ⟨z, hz⟩ : ∃ z, 256 * ty + co = z := ⟨_, rfl⟩
  rw [hz] at HV
  have x := u16_hl ty co t0 t1 c0 c1
  have x1 : IntKind.u16.wrap ty = ty := IntWalk.u16_in _ (by omega)
  have x2 : IntKind.u16.wrap co = co := IntWalk.u16_in _ (by omega)
  have x3 : IntKind.u16.wrap (ty * 256) = ty * 256 := IntWalk.u16_in _ (by omega)
  rw [show ty * 256 + co = z by omega] at x
  have z0 : 0 ≤ z := by omega
  have z1 : z ≤ 65535 := by omega
  have cw : ∀ u (k : Nat), k < u.heap.size → u.cell? ⟨k, 0, none⟩ = some (.int .u16 z) → u.cell? ⟨k, 1, none⟩ = some (.int .u16 su) → Calls Tryz.prog 81 #[.slice (some ⟨k, 0, none⟩) 2 2] u fun e w' => e = .returned (.string (strOfNums (wordL [z, su]))) ∧ Below u.heap.size u w' :=
    fun u k hk h0 h1 => word_any _ 2 2 [z, su] u (row2 hk h0 h1) (by omega) (by intro x hx; simp at hx; omega)
  have zw : (strOfNums (wordL [z, su])).size = 4 := by rw [size_W]; rfl
  generalize strOfNums (wordL [z, su]) = W at *
  have q1 : ¬ 9223372036854775807 < W.size + n := by omega
  have q2 : ¬ 9223372036854775807 < W.size + n + d.size := by omega
  clear zw h4
  go_enter Tryz.func36, Tryz.ntmps36
  clear hz
  go_wp2_with fail
  have A0 := Box5.make w (.int .u8 ty) (.int .u8 co) (.int .u16 su) (.string r) (.string d) 63
  have B0 : Below w.heap.size w (w.alloc (.cells #[.int .u8 ty, .int .u8 co, .int .u16 su, .string r, .string d] 63)) := (Below.refl _ _).alloc (Nat.le_refl _) _
  obtain ⟨w1, hw1⟩ : ∃ x, x = w.alloc (.cells #[.int .u8 ty, .int .u8 co, .int .u16 su, .string r, .string d] 63) := ⟨_, rfl⟩
  rw [← hw1] at A0 B0 ⊢
  clear hw1
  have MK := Lib.hid (show ∀ w', Below w1.heap.size w1 w' → w'.cell? ⟨w.heap.size, 0, none⟩ = some (.int .u8 ty) ∧ w'.cell? ⟨w.heap.size, 1, none⟩ = some (.int .u8 co) ∧ w'.cell? ⟨w.heap.size, 2, none⟩ = some (.int .u16 su) ∧ w'.cell? ⟨w.heap.size, 3, none⟩ = some (.string r) ∧ w'.cell? ⟨w.heap.size, 4, none⟩ = some (.string d) ∧ Below w1.heap.size w1 w' from
    fun w' h => by obtain ⟨_, y0, y1, y2, y3, y4⟩ := A0.on h; exact ⟨y0, y1, y2, y3, y4, h⟩)
  go_region_held3 (fun w' => w'.cell? ⟨w.heap.size, 0, none⟩ = some (.int .u8 ty) ∧ w'.cell? ⟨w.heap.size, 1, none⟩ = some (.int .u8 co) ∧ w'.cell? ⟨w.heap.size, 2, none⟩ = some (.int .u16 su) ∧ w'.cell? ⟨w.heap.size, 3, none⟩ = some (.string r) ∧ w'.cell? ⟨w.heap.size, 4, none⟩ = some (.string d) ∧ Below w1.heap.size w1 w')
    ((go_split_ands
      refine MK.out _ ?_
      repeat
        first
          | assumption
          | exact Below.refl _ _
          | refine Below.drew ?_
          | refine Below.alloc ?_ ?_ _
          | (refine Below.trans ?_ (hbw.mono ?_))
          | (refine Below.size (B := w1.heap.size) ?_
             assumption)
          | focus (simp; done)
          | focus (simp; omega)))
    ((first
      | (go_at_call 81
         refine (cw _ _ ?_ ?_ ?_).mono ?_
         · simp
         · simp [go_sem]
         · simp [go_sem]
         rintro e w2 ⟨rfl, hbw⟩)))
  rename_i HH
  have b2 := HH.2.2.2.2.2
  have B2 := B0.trans (b2.mono B0.size)
  clear HH b2 MK A0 B0 cw
  go_wp2
  go_ret2
  rw [HE.out, HV.out]
  exact ⟨rfl, B2⟩
theorem icmpID_ (ty co su : Int) (r d : ByteArray) (w : World) (hr : r.size ≤ 1000000) :
    Cw_ 96 #[.agg #[.int .u8 ty, .int .u8 co, .int .u16 su, .string r, .string d]] (.int .u16 (idM r)) w := by
  have hr2 : r.size ≤ maxLen := by unfold maxLen; omega
  have c2 := fun u => get16_any r 0 u hr2
  have HV : v16 r 0 = idM r := by
    unfold v16 idM
    by_cases h : 2 ≤ r.size
    · have o : okAt r 0 2 = true := by unfold okAt; simp; omega
      rw [o, if_pos rfl, if_pos h]; rfl
    · have o : okAt r 0 2 = false := by unfold okAt; simp; omega
      rw [o, if_neg (by decide), if_neg h]
  rw [HV] at c2
  generalize okAt r 0 2 = ok at *
  generalize idM r = v at *
  clear HV
  go_enter Tryz.func96, Tryz.ntmps96
  go_wp2_with fail
  refine (c2 _).mono ?_; rintro e w1 ⟨rfl, b1⟩
  have B1 : Below w.heap.size w w1 := ((Below.refl _ _).alloc (Nat.le_refl _) _).trans (b1.mono (by simp))
  clear b1 c2
  go_wp2
  go_ret
  exact ⟨rfl, B1⟩
theorem icmpWith_ (ty co su : Int) (r d : ByteArray) (k : Int) (w : World) (i0 : 0 ≤ k) (i1 : k ≤ 65535) (hr : r.size ≤ 1000000) :
    Cw_ 106 #[.agg #[.int .u8 ty, .int .u8 co, .int .u16 su, .string r, .string d], .int .u16 k] (.agg #[.int .u8 ty, .int .u8 co, .int .u16 su, .string (wiM r k), .string d]) w := by
  have hr2 : r.size ≤ maxLen := by unfold maxLen; omega
  have cp := fun u => put16 k u i0 i1
  have zw : (strOfNums (wordL [k])).size = 2 := by rw [size_W]; rfl
  have cv := fun u => with_any r 0 (strOfNums (wordL [k])) u hr2 (by rw [zw]; decide)
  rw [zw] at cv
  obtain ⟨ok, hok⟩ : ∃ b, okAt r 0 ((2 : Nat) : Int) = b := ⟨_, rfl⟩
  have HV : Hid (wiM r k = if ok then vWith r 0 (strOfNums (wordL [k])) else r) := by
    show _ = _
    rw [← hok]
    unfold wiM
    by_cases h : 2 ≤ r.size
    · have o : okAt r 0 ((2 : Nat) : Int) = true := by unfold okAt; simp; omega
      rw [if_pos h, o, if_pos rfl]
      unfold vWith
      rw [zw, o, if_pos rfl]
      unfold withB
      rw [zw]
      show _ = r.extract 0 0 ++ _ ++ _
      rw [show r.extract 0 0 = ByteArray.empty from by simp, ByteArray.empty_append]
      rfl
    · have o : okAt r 0 ((2 : Nat) : Int) = false := by unfold okAt; simp; omega
      rw [if_neg h, o, if_neg (by decide)]
  rw [hok] at cv
  generalize vWith r 0 (strOfNums (wordL [k])) = V at *
  generalize strOfNums (wordL [k]) = U at *
  clear hok zw
  go_enter Tryz.func106, Tryz.ntmps106
  go_wp2_with fail
  have A0 := (Box5.make w (.int .u8 ty) (.int .u8 co) (.int .u16 su) (.string r) (.string d) 63).past (o := .cells #[.int .u8 0, .int .u8 0, .int .u16 0, .string ⟨#[]⟩, .string ⟨#[]⟩] 63)
  have A1 := Box5.make (w.alloc (.cells #[.int .u8 ty, .int .u8 co, .int .u16 su, .string r, .string d] 63)) (.int .u8 0) (.int .u8 0) (.int .u16 0) (.string ⟨#[]⟩) (.string ⟨#[]⟩) 63
  have hs1 : (w.alloc (.cells #[.int .u8 ty, .int .u8 co, .int .u16 su, .string r, .string d] 63)).heap.size = w.heap.size + 1 := by simp
  rw [hs1] at A1
  have B0 : Below w.heap.size w ((w.alloc (.cells #[.int .u8 ty, .int .u8 co, .int .u16 su, .string r, .string d] 63)).alloc (.cells #[.int .u8 0, .int .u8 0, .int .u16 0, .string ⟨#[]⟩, .string ⟨#[]⟩] 63)) := ((Below.refl _ _).alloc (Nat.le_refl _) _).alloc (by simp) _
  have fz : ∀ j, ((w.alloc (.cells #[.int .u8 ty, .int .u8 co, .int .u16 su, .string r, .string d] 63)).alloc (.cells #[.int .u8 0, .int .u8 0, .int .u16 0, .string ⟨#[]⟩, .string ⟨#[]⟩] 63)).frozen? ⟨w.heap.size, j, none⟩ = false := by intro j; simp [go_sem]
  have gz : ∀ j, ((w.alloc (.cells #[.int .u8 ty, .int .u8 co, .int .u16 su, .string r, .string d] 63)).alloc (.cells #[.int .u8 0, .int .u8 0, .int .u16 0, .string ⟨#[]⟩, .string ⟨#[]⟩] 63)).frozen? ⟨w.heap.size + 1, j, none⟩ = false := by intro j; simp [go_sem]
  obtain ⟨w1, hw1⟩ : ∃ x, x = (w.alloc (.cells #[.int .u8 ty, .int .u8 co, .int .u16 su, .string r, .string d] 63)).alloc (.cells #[.int .u8 0, .int .u8 0, .int .u16 0, .string ⟨#[]⟩, .string ⟨#[]⟩] 63) := ⟨_, rfl⟩
  rw [← hw1] at A0 A1 B0 fz gz ⊢
  clear hw1 hs1
  obtain ⟨lt0, f0, f1, f2, f3, f4⟩ := id A0
  have F3 : ∀ q : Later w1.heap.size w1, q.u.cell? ⟨w.heap.size, 3, none⟩ = some (.string r) := fun q => q.block lt0 f3
  clear f0 f1 f2 f3 f4
  refine region_later (B := w1.heap.size) (by kernel_rfl) (by kernel_rfl) ?_
  repeat (go_big_quiet_step (first
    | (go_at_call 76; exact later_of _ (Nat.le_refl _) (cp _))
    | (go_at_call 126; exact later_of _ (Nat.le_refl _) (cv _))))
  refine later_end fun w2 b2 => ?_
  have lt1 := A1.1
  obtain ⟨_, f0, f1, f2, f3, f4⟩ := A0.on b2
  obtain ⟨_, g0, g1, g2, g3, g4⟩ := A1.on b2
  have fz2 : ∀ j, w2.frozen? ⟨w.heap.size, j, none⟩ = false := fun j => (b2.frozen (p := ⟨_, j, none⟩) lt0).trans (fz j)
  have gz2 : ∀ j, w2.frozen? ⟨w.heap.size + 1, j, none⟩ = false := fun j => (b2.frozen (p := ⟨_, j, none⟩) lt1).trans (gz j)
  have B2 := B0.trans (b2.mono B0.size)
  have hs := b2.size
  clear A0 A1 F3 fz gz b2 B0 cp cv
  cases ok
  · have HW := Lib.hid (show wiM r k = r from HV.out)
    clear HV
    go_wp2
    refine box5_ (b := w.heap.size + 1) (W := w2) (fun j hj => ?_) B2 (by omega) fun w9 x0 x1 x2 x3 x4 B9 _ _ => ?_
    · match j, hj with
      | 0, _ => rw [g0]; rfl
      | 1, _ => rw [g1]; rfl
      | 2, _ => rw [g2]; rfl
      | 3, _ => rw [g3]; rfl
      | 4, _ => rw [g4]; rfl
    refine bodyPost_ret (v := .agg #[.int .u8 ty, .int .u8 co, .int .u16 su, .string r, .string d]) (by simp [results, Tryz.results106, go_sem, x0, x1, x2, x3, x4]) rfl ?_
    rw [HW.out]
    exact ⟨rfl, B9⟩
  · have HW := Lib.hid (show wiM r k = V from HV.out)
    clear HV
    have B3 := B2.setCell (p := ⟨w.heap.size, 3, none⟩) (Nat.le_refl _) (.string V)
    go_wp2
    refine box5_ (b := w.heap.size + 1) (W := w2.setCell ⟨w.heap.size, 3, none⟩ (.string V)) (fun j hj => ?_) B3 (by omega) fun w9 x0 x1 x2 x3 x4 B9 _ _ => ?_
    · match j, hj with
      | 0, _ => simp [go_sem, g0]
      | 1, _ => simp [go_sem, g1]
      | 2, _ => simp [go_sem, g2]
      | 3, _ => simp [go_sem, g3]
      | 4, _ => simp [go_sem, g4]
    refine bodyPost_ret (v := .agg #[.int .u8 ty, .int .u8 co, .int .u16 su, .string V, .string d]) (by simp [results, Tryz.results106, go_sem, x0, x1, x2, x3, x4]) rfl ?_
    rw [HW.out]
    exact ⟨rfl, B9⟩
end Go.Proofs.YtbpicngbjggblaaGreatDoor
