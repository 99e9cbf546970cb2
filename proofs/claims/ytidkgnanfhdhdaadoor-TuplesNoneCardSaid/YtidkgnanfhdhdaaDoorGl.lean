/- Texts of this proof, together: IcmpK, IcmpL, IcmpH, IcmpG, IcmpN. -/
import Derived.Test.YtidkgnanfhdhdaaDoorGj
import Derived.Test.YtidkgnanfhdhdaaDoorGc
import Derived.Test.YtidkgnanfhdhdaaDoorGf
import Derived.Test.YtidkgnanfhdhdaaDoorGb
import Derived.Test.YtidkgnanfhdhdaaDoorGa
import Derived.Deep.RegionHeld3
namespace Go.Proofs.YtidkgnanfhdhdaaDoor
set_option linter.unusedVariables false
set_option linter.unusedSimpArgs false
open Go.ChangeShapes Go.WideShapes Go.ChangeAt Go.RowKit Go.PlainAid
open Go.Maps (Keyed int_keyed keyOf_int_mk atKey_put_same atKey_put_other isMap_empty)
theorem keyU8 : Keyed Tryd.prog 5 := int_keyed Tryd.underlying5
theorem zeroI (w : World) : (zeroValue 3).run Tryd.prog w = .ok (.int .i64 0) w := by kernel_rfl
/-- What types are. -/
def kinds7 : DataW Unit := (((((((DataW.map []).put (.int .u8 8) (.lit (.int .i64 1))).put (.int .u8 13) (.lit (.int .i64 1))).put (.int .u8 0) (.lit (.int .i64 2))).put (.int .u8 14) (.lit (.int .i64 2))).put (.int .u8 3) (.lit (.int .i64 3))).put (.int .u8 11) (.lit (.int .i64 3))).put (.int .u8 12) (.lit (.int .i64 3))
def kindV (ty : Int) : Int := if ty = 8 ∨ ty = 13 then 1 else if ty = 0 ∨ ty = 14 then 2 else if ty = 3 ∨ ty = 11 ∨ ty = 12 then 3 else 0
theorem kinds7_at (ty : Int) : kinds7.atKey (.int .u8 ty) (.lit (.int .i64 0)) = .lit (.int .i64 (kindV ty)) := by
  have key : ∀ (D : DataW Unit) (hD : Go.Maps.IsMap D) (a : Int) (d : Int) (z : DataW Unit), (D.put (.int .u8 a) (.lit (.int .i64 d))).atKey (.int .u8 ty) z = if ty = a then .lit (.int .i64 d) else D.atKey (.int .u8 ty) z := by
    intro D hD a d z
    by_cases h : ty = a
    · subst h; rw [if_pos rfl, atKey_put_same hD (by trivial)]
    · rw [if_neg h, atKey_put_other (fun hh => h (by injection hh))]
  have m0 : Go.Maps.IsMap (DataW.map [] : DataW Unit) := isMap_empty
  unfold kinds7 kindV
  rw [key _ ((((((m0.put _ _).put _ _).put _ _).put _ _).put _ _).put _ _), key _ (((((m0.put _ _).put _ _).put _ _).put _ _).put _ _), key _ ((((m0.put _ _).put _ _).put _ _).put _ _), key _ (((m0.put _ _).put _ _).put _ _), key _ ((m0.put _ _).put _ _), key _ (m0.put _ _), key _ m0]
  rw [show (DataW.map [] : DataW Unit).atKey (.int .u8 ty) (.lit (.int .i64 0)) = .lit (.int .i64 0) from rfl]
  repeat' split
  all_goals first | rfl | (exfalso; omega)
set_option maxRecDepth 100000 in
set_option maxHeartbeats 1000000 in
theorem kinds_ (w : World) : Calls Tryd.prog 59 #[] w fun e w' => (∃ b, e = .returned (.map (some b)) ∧ w'.ownsMap Tryd.prog 5 (plainElem (H := Unit) Tryd.prog 3) b 7 kinds7) ∧ Below w.heap.size w w' := by
  have hmm := @run_makeMap Tryd.prog
  have o0 := World.ownsMap_made w Tryd.prog 5 (plainElem (H := Unit) Tryd.prog 3)
  have B0 : Below w.heap.size w (w.alloc (.map #[] 0)) := (Below.refl _ _).alloc (Nat.le_refl _) _
  go_enter Tryd.func59, Tryd.ntmps59
  go_wp2_with (refine wpList_insert_own _ rfl _ _ _ 111 rfl 5 3 keyU8 Tryd.underlying111 _ _ _ _ rfl (by assumption) (by decide) _ _ _ rfl rfl (keyOf_int_mk Tryd.underlying5 (by decide)) _ [] (plainElem_int Tryd.underlying3 (by decide)) ?_; intro w1 o1 g1; have B1 := (show Below w.heap.size w _ by assumption).grown g1 (Below.size (B := w.heap.size) (by assumption)) (fun j hj => by cases hj; exact Nat.le_refl _))
  go_ret
  exact ⟨⟨_, rfl, by assumption⟩, by assumption⟩
end Go.Proofs.YtidkgnanfhdhdaaDoor

namespace Go.Proofs.YtidkgnanfhdhdaaDoor
set_option linter.unusedVariables false
set_option linter.unusedSimpArgs false
open Go.ChangeShapes Go.WideShapes Go.ChangeAt Go.RowKit Go.PlainAid
open Go.Maps (keyOf_int_mk)
theorem kindV_cases (ty : Int) : (kindV ty = 1 ∧ (ty = 8 ∨ ty = 13)) ∨ (kindV ty = 2 ∧ (ty = 0 ∨ ty = 14)) ∨ (kindV ty = 3 ∧ (ty = 3 ∨ ty = 11 ∨ ty = 12)) ∨ (kindV ty = 0 ∧ ¬ ty = 8 ∧ ¬ ty = 13 ∧ ¬ ty = 0 ∧ ¬ ty = 14 ∧ ¬ ty = 3 ∧ ¬ ty = 11 ∧ ¬ ty = 12) := by
  unfold kindV
  split
  · omega
  · split
    · omega
    · split <;> omega
theorem kindV_ask (ty : Int) : qAsk ty 0 = (kindV ty == 1) := by
  rcases kindV_cases ty with ⟨h, h2⟩ | ⟨h, h2⟩ | ⟨h, h2⟩ | ⟨h, h2⟩ <;> rw [h] <;> unfold qAsk <;> simp <;> omega
theorem kindV_is (ty : Int) : qIs ty 0 = (kindV ty == 1 || kindV ty == 2) := by
  rcases kindV_cases ty with ⟨h, h2⟩ | ⟨h, h2⟩ | ⟨h, h2⟩ | ⟨h, h2⟩ <;> rw [h] <;> unfold qIs <;> simp <;> omega
set_option maxRecDepth 100000 in
set_option maxHeartbeats 2000000 in
theorem icmpQuery_ (ty co su : Int) (r d : ByteArray) (w : World) (t0 : 0 ≤ ty) (t1 : ty ≤ 255) (c0 : 0 ≤ co) (c1 : co ≤ 255) :
    Calls Tryd.prog 36 #[.agg #[.int .u8 ty, .int .u8 co, .int .u16 su, .string r, .string d]] w fun e w' => e = .returned (.tuple #[.bool (qAsk ty co), .bool (qIs ty co)]) ∧ Below w.heap.size w w' := by
  have B0 : Below w.heap.size w (w.alloc (.cells #[.int .u8 ty, .int .u8 co, .int .u16 su, .string r, .string d] 81)) := (Below.refl _ _).alloc (Nat.le_refl _) _
  by_cases h0 : co = 0
  rotate_left
  · have k1 : (co != 0) = true := by simpa using h0
    have HA : Hid (qAsk ty co = false) := by show _ = _; unfold qAsk; simp [h0]
    have HI : Hid (qIs ty co = false) := by show _ = _; unfold qIs; simp [h0]
    clear h0
    go_enter Tryd.func36, Tryd.ntmps36
    go_wp2
    go_ret2
    rw [HA.out, HI.out]
    exact ⟨rfl, B0⟩
  subst h0
  have wt : (Lit.int .u8 ty).wf = true := by simp [Lit.wf, IntKind.min, IntKind.max, IntKind.bits, IntKind.signed]; omega
  have HA := Lib.hid (kindV_ask ty)
  have HI := Lib.hid (kindV_is ty)
  have A0 := Box5.make w (.int .u8 ty) (.int .u8 0) (.int .u16 su) (.string r) (.string d) 81
  go_enter Tryd.func36, Tryd.ntmps36
  go_wp2_with fail
  obtain ⟨w1, hw1⟩ : ∃ x, x = w.alloc (.cells #[.int .u8 ty, .int .u8 0, .int .u16 su, .string r, .string d] 81) := ⟨_, rfl⟩
  rw [← hw1] at A0 B0 ⊢
  clear hw1
  have MK := Lib.hid (show ∀ w', Below w1.heap.size w1 w' → w'.cell? ⟨w.heap.size, 0, none⟩ = some (.int .u8 ty) ∧ w'.cell? ⟨w.heap.size, 1, none⟩ = some (.int .u8 0) ∧ Below w1.heap.size w1 w' from
    fun w' h => by obtain ⟨_, y0, y1, y2, y3, y4⟩ := A0.on h; exact ⟨y0, y1, h⟩)
  -- the region by hand
  refine wp_region_noPanic ?_
  refine wp_region_held_drew (S := (fun w' => w'.cell? ⟨w.heap.size, 0, none⟩ = some (.int .u8 ty) ∧ w'.cell? ⟨w.heap.size, 1, none⟩ = some (.int .u8 0) ∧ Below w1.heap.size w1 w')) (by kernel_rfl) (MK.out _ (Below.refl _ _).drew) (fun hS => ?_)
  refine wpAnyH_take (i := 1) (oi := _) (v := ?_) rfl (by kernel_rfl) (by kernel_rfl) (by kernel_rfl) (fun _ _ _ h => h) (Or.inl ⟨by rfl, ?_⟩) (by assumption) ?_
  rotate_left
  · intro w hSw
    obtain ⟨h0, h1, _⟩ := hSw
    go_simp
    with_reducible rfl
  try simp only [List.getElem_toArray, List.getElem_cons_succ, List.getElem_cons_zero, Act.put, List.setIfInBounds_toArray, List.set_cons_zero, List.set_cons_succ]
  refine wpAnyH_take (i := 2) (oi := _) (v := ?_) rfl (by kernel_rfl) (by kernel_rfl) (by kernel_rfl) (fun _ _ _ h => h) (Or.inl ⟨by rfl, ?_⟩) (by assumption) ?_
  rotate_left
  · intro w hSw
    obtain ⟨h0, h1, _⟩ := hSw
    go_simp
    with_reducible rfl
  try simp only [List.getElem_toArray, List.getElem_cons_succ, List.getElem_cons_zero, Act.put, List.setIfInBounds_toArray, List.set_cons_zero, List.set_cons_succ]
  refine wpAnyH_ready (rs := [0]) (by kernel_rfl) (by simp) ?_
  refine AllReadyH.cons (o := _) rfl (fun F hF => ?_) AllReadyH.nil
  go_simp
  refine (kinds_ _).mono ?_
  rintro e w2 ⟨⟨b, rfl, own⟩, x2⟩
  show F _ _
  refine hF.out _ _ (MK.out _ (hS.2.2.trans (x2.mono hS.2.2.size))) (fun hA => ?_)
  clear hF F
  try simp only [List.getElem_toArray, List.getElem_cons_succ, List.getElem_cons_zero, Act.put, List.setIfInBounds_toArray, List.set_cons_zero, List.set_cons_succ]
  obtain ⟨c, hrun, hat, _⟩ := own.lookup_int keyU8 Tryd.underlying111 Tryd.underlying3 (zeroI _) (keyOf_int_mk Tryd.underlying5 wt)
  rw [kinds7_at] at hat
  obtain rfl : kindV ty = c := by injection hat with h; injection h
  refine wpAnyH_ready (rs := [3]) (by kernel_rfl) (by simp) ?_
  refine AllReadyH.cons (o := _) rfl (fun F hF => ?_) AllReadyH.nil
  go_simp
  refine hF.out _ _ hA (fun hB => ?_)
  clear hF F
  try simp only [List.getElem_toArray, List.getElem_cons_succ, List.getElem_cons_zero, Act.put, List.setIfInBounds_toArray, List.set_cons_zero, List.set_cons_succ]
  refine wpAnyH_ready (rs := [4]) (by kernel_rfl) (by simp) ?_
  refine AllReadyH.cons (o := _) rfl (fun F hF => ?_) AllReadyH.nil
  go_simp
  refine hF.out _ _ hB (fun hC => ?_)
  clear hF F
  try simp only [List.getElem_toArray, List.getElem_cons_succ, List.getElem_cons_zero, Act.put, List.setIfInBounds_toArray, List.set_cons_zero, List.set_cons_succ]
  refine wpAnyH_done (by kernel_rfl) (NoPanic.normal ?_) _
  have B2 := B0.trans (hB.2.2.mono B0.size)
  obtain ⟨x, hx⟩ : ∃ x, x = (kindV ty == 1) := ⟨_, rfl⟩
  obtain ⟨y, hy⟩ : ∃ y, y = (kindV ty == 2) := ⟨_, rfl⟩
  have e1 := hx.symm
  have e2 := hy.symm
  have HA2 := Lib.hid (show qAsk ty 0 = x by rw [HA.out, hx])
  have HI2 := Lib.hid (show qIs ty 0 = (x || y) by rw [HI.out, hx, hy])
  clear hx hy HA HI hA hB hC hS MK A0 own hrun hat
  cases x
  all_goals
    go_wp2
    go_ret2
    rw [HA2.out, HI2.out]
    exact ⟨rfl, B2⟩
theorem kindV_err (ty : Int) : erM ty = (kindV ty == 3) := by
  rcases kindV_cases ty with ⟨h, h2⟩ | ⟨h, h2⟩ | ⟨h, h2⟩ | ⟨h, h2⟩ <;> rw [h] <;> unfold erM <;> simp <;> omega
set_option maxHeartbeats 2000000 in
set_option maxRecDepth 100000 in
theorem icmpError_ (ty co su : Int) (r d : ByteArray) (w : World) (t0 : 0 ≤ ty) (t1 : ty ≤ 255) (c0 : 0 ≤ co) (c1 : co ≤ 255) :
    Calls Tryd.prog 38 #[.agg #[.int .u8 ty, .int .u8 co, .int .u16 su, .string r, .string d]] w fun e w' => e = .returned (.bool (erM ty)) ∧ Below w.heap.size w w' := by
  have B0 : Below w.heap.size w (w.alloc (.cells #[.int .u8 ty, .int .u8 co, .int .u16 su, .string r, .string d] 81)) := (Below.refl _ _).alloc (Nat.le_refl _) _
  have wt : (Lit.int .u8 ty).wf = true := by simp [Lit.wf, IntKind.min, IntKind.max, IntKind.bits, IntKind.signed]; omega
  have HA := Lib.hid (kindV_err ty)
  have A0 := Box5.make w (.int .u8 ty) (.int .u8 co) (.int .u16 su) (.string r) (.string d) 81
  go_enter Tryd.func38, Tryd.ntmps38
  go_wp2_with fail
  obtain ⟨w1, hw1⟩ : ∃ x, x = w.alloc (.cells #[.int .u8 ty, .int .u8 co, .int .u16 su, .string r, .string d] 81) := ⟨_, rfl⟩
  rw [← hw1] at A0 B0 ⊢
  clear hw1
  have MK := Lib.hid (show ∀ w', Below w1.heap.size w1 w' → w'.cell? ⟨w.heap.size, 0, none⟩ = some (.int .u8 ty) ∧ w'.cell? ⟨w.heap.size, 1, none⟩ = some (.int .u8 co) ∧ Below w1.heap.size w1 w' from
    fun w' h => by obtain ⟨_, y0, y1, y2, y3, y4⟩ := A0.on h; exact ⟨y0, y1, h⟩)
  -- the region by hand
  refine wp_region_noPanic ?_
  refine wp_region_held_drew (S := (fun w' => w'.cell? ⟨w.heap.size, 0, none⟩ = some (.int .u8 ty) ∧ w'.cell? ⟨w.heap.size, 1, none⟩ = some (.int .u8 co) ∧ Below w1.heap.size w1 w')) (by kernel_rfl) (MK.out _ (Below.refl _ _).drew) (fun hS => ?_)
  refine wpAnyH_take (i := 1) (oi := _) (v := ?_) rfl (by kernel_rfl) (by kernel_rfl) (by kernel_rfl) (fun _ _ _ h => h) (Or.inl ⟨by rfl, ?_⟩) (by assumption) ?_
  rotate_left
  · intro w hSw
    obtain ⟨h0, h1, _⟩ := hSw
    go_simp
    with_reducible rfl
  try simp only [List.getElem_toArray, List.getElem_cons_succ, List.getElem_cons_zero, Act.put, List.setIfInBounds_toArray, List.set_cons_zero, List.set_cons_succ]
  refine wpAnyH_take (i := 2) (oi := _) (v := ?_) rfl (by kernel_rfl) (by kernel_rfl) (by kernel_rfl) (fun _ _ _ h => h) (Or.inl ⟨by rfl, ?_⟩) (by assumption) ?_
  rotate_left
  · intro w hSw
    obtain ⟨h0, h1, _⟩ := hSw
    go_simp
    with_reducible rfl
  try simp only [List.getElem_toArray, List.getElem_cons_succ, List.getElem_cons_zero, Act.put, List.setIfInBounds_toArray, List.set_cons_zero, List.set_cons_succ]
  refine wpAnyH_ready (rs := [0]) (by kernel_rfl) (by simp) ?_
  refine AllReadyH.cons (o := _) rfl (fun F hF => ?_) AllReadyH.nil
  go_simp
  refine (kinds_ _).mono ?_
  rintro e w2 ⟨⟨b, rfl, own⟩, x2⟩
  show F _ _
  refine hF.out _ _ (MK.out _ (hS.2.2.trans (x2.mono hS.2.2.size))) (fun hA => ?_)
  clear hF F
  try simp only [List.getElem_toArray, List.getElem_cons_succ, List.getElem_cons_zero, Act.put, List.setIfInBounds_toArray, List.set_cons_zero, List.set_cons_succ]
  obtain ⟨c, hrun, hat, _⟩ := own.lookup_int keyU8 Tryd.underlying111 Tryd.underlying3 (zeroI _) (keyOf_int_mk Tryd.underlying5 wt)
  rw [kinds7_at] at hat
  obtain rfl : kindV ty = c := by injection hat with h; injection h
  refine wpAnyH_ready (rs := [3]) (by kernel_rfl) (by simp) ?_
  refine AllReadyH.cons (o := _) rfl (fun F hF => ?_) AllReadyH.nil
  go_simp
  refine hF.out _ _ hA (fun hB => ?_)
  clear hF F
  try simp only [List.getElem_toArray, List.getElem_cons_succ, List.getElem_cons_zero, Act.put, List.setIfInBounds_toArray, List.set_cons_zero, List.set_cons_succ]
  obtain ⟨x, hx⟩ : ∃ x, (kindV ty == 3) = x := ⟨_, rfl⟩
  refine wpAnyH_ready (rs := [4]) (by kernel_rfl) (by simp) ?_
  refine AllReadyH.cons (o := _) rfl (fun F hF => ?_) AllReadyH.nil
  go_simp
  refine hF.out _ _ hB (fun hC => ?_)
  clear hF F
  try simp only [List.getElem_toArray, List.getElem_cons_succ, List.getElem_cons_zero, Act.put, List.setIfInBounds_toArray, List.set_cons_zero, List.set_cons_succ]
  refine wpAnyH_ready (rs := [5]) (by kernel_rfl) (by simp) ?_
  refine AllReadyH.cons (o := _) rfl (fun F hF => ?_) AllReadyH.nil
  go_simp
  refine hF.out _ _ hC (fun hD => ?_)
  clear hF F
  try simp only [List.getElem_toArray, List.getElem_cons_succ, List.getElem_cons_zero, Act.put, List.setIfInBounds_toArray, List.set_cons_zero, List.set_cons_succ]
  refine wpAnyH_done (by kernel_rfl) (NoPanic.normal ?_) _
  have B2 := B0.trans (hB.2.2.mono B0.size)
  have HA2 := Lib.hid (show erM ty = x by rw [HA.out, hx])
  clear hx HA hA hB hC hD hS MK A0 own hrun hat
  go_wp2
  go_ret
  rw [HA2.out]
  exact ⟨rfl, B2⟩
end Go.Proofs.YtidkgnanfhdhdaaDoor

namespace Go.Proofs.YtidkgnanfhdhdaaDoor
set_option linter.unusedVariables false
set_option linter.unusedSimpArgs false
open Go.ChangeShapes Go.WideShapes Go.ChangeAt Go.RowKit Go.PlainAid
attribute [local go_sem ↓] Go.wp_at_zero Go.wp_at_succ
set_option maxHeartbeats 2000000 in
set_option maxRecDepth 100000 in
theorem icmpParse_ (s : ByteArray) (w : World) (hs : s.size ≤ 1000000) :
    Calls Tryd.prog 35 #[.string s] w fun e w' => e = .returned (.tuple #[.agg #[.int .u8 (mI s (bt s 0)), .int .u8 (mI s (bt s 1)), .int .u16 (mI s (g16 s 2)), .string (mR s), .string (mD s)], .bool (mOk s)]) ∧ Below w.heap.size w w' := by
  have hs2 : s.size ≤ maxLen := by unfold maxLen; omega
  have hb := get_bt s
  by_cases h8 : s.size < 8
  · have hk : mOk s = false := by unfold mOk; simp; omega
    obtain ⟨y1, y2, y3⟩ := mOk_no hk
    rw [y1, y1, y1, y2, y3, hk]
    have e1 : decide ((s.size : Int) < 8) = true := by simp; omega
    clear h8 hk y1 y2 y3 hb
    go_enter Tryd.func35, Tryd.ntmps35
    go_wp2
    refine bodyPost_ret (v := .tuple #[.agg #[.int .u8 0, .int .u8 0, .int .u16 0, .string ⟨#[]⟩, .string ⟨#[]⟩], .bool false]) (by simp [results, Tryd.results35, go_sem]) rfl ?_
    exact ⟨rfl, (Below.refl _ _).alloc (Nat.le_refl _) _⟩
  have e1 : decide ((s.size : Int) < 8) = false := by simp; omega
  have hk : mOk s = true := by unfold mOk; simp; omega
  obtain ⟨_, y1, y2, y3⟩ := mOk_yes hk
  rw [y1, y1, y1, y2, y3, hk]
  have c2 := fun u => get16_yes s 2 u hs2 (by omega)
  have i0 : (0 : Int) < (s.size : Int) := by omega
  have i1 : (1 : Int) < (s.size : Int) := by omega
  have i8 : (8 : Int) ≤ (s.size : Int) := by omega
  have zr := size_extract' s 4 8 (by omega) (by omega)
  have zd := size_extract' s 8 s.size (by omega) (Nat.le_refl _)
  have cr := fun u => clone_ (s.extract 4 8) u (by omega)
  have cd := fun u => clone_ (s.extract 8 s.size) u (by omega)
  generalize g16 s 2 = v2 at *
  clear h8 hk y1 y2 y3 zr zd
  go_enter Tryd.func35, Tryd.ntmps35
  go_wp2_with fail
  refine (c2 _).mono ?_; rintro e w1 ⟨rfl, b1⟩
  have B1 : Below w.heap.size w w1 := ((Below.refl _ _).alloc (Nat.le_refl _) _).trans (b1.mono (by simp))
  obtain ⟨hc, hf⟩ := bcell4_ b1
  have hz : w.heap.size < w1.heap.size := by have := b1.size; simp at this; omega
  have A0 := Box5.make w (.int .u8 0) (.int .u8 0) (.int .u16 0) (.string ⟨#[]⟩) (.string ⟨#[]⟩) 81
  have A1 := A0.on b1
  have F1 : ∀ j, w1.frozen? ⟨w.heap.size, j, none⟩ = false := by intro j; rw [hf _ _ (by simp)]; simp [go_sem]
  clear A0
  clear hc hf b1 c2
  go_wp2_with fail
  refine region_lead (B := w1.heap.size) 12 2 (by kernel_rfl) (by kernel_rfl) (by kernel_rfl) (by kernel_rfl) ?_
  simp only [List.take_succ_cons, List.take_zero]
  repeat (go_big_quiet_step (first
    | (go_at_call_of 31 (s.extract 4 8); exact later_of _ (Nat.le_refl _) (cr _))
    | (go_at_call_of 31 (s.extract 8 s.size); exact later_of _ (Nat.le_refl _) (cd _))))
  refine lead_tail (fin := #[true, true, true, true, true, true, true, true, true, true, true, true, false, false]) (by kernel_rfl) fun f w3 b3 => ?_
  have A3 := A1.on b3
  obtain ⟨_, x0, x1, x2, x3, x4⟩ := id A3
  have F3 : ∀ j, w3.frozen? ⟨w.heap.size, j, none⟩ = false := fun j => (b3.frozen (p := ⟨_, j, none⟩) hz).trans (F1 j)
  have B3 := B1.trans (b3.mono B1.size)
  have hz3 := B3.size
  clear A1 F1 b3 B1 cr cd
  refine wpAny_ready (rs := [12]) (by kernel_rfl) (by simp) (AllReady.cons rfl (fun K hK => ?_) AllReady.nil)
  go_simp
  refine hK _ _ ?_
  clear hK K
  clear x0 x1 x2 x3 x4
  refine box5_ (b := w.heap.size) A3.some B3 (Nat.le_refl _) fun w9 x0 x1 x2 x3 x4 B9 _ _ => ?_
  clear A3 F3 B3
  refine wpAny_ready (rs := [13]) (by kernel_rfl) (by simp) (AllReady.cons rfl (fun K hK => ?_) AllReady.nil)
  go_simp
  refine hK _ _ ?_
  clear hK K
  refine wpAny_done (by kernel_rfl) ?_ _
  go_wp2
  refine bodyPost_ret (v := .tuple #[.agg #[.int .u8 (bt s 0), .int .u8 (bt s 1), .int .u16 v2, .string (s.extract 4 8), .string (s.extract 8 s.size)], .bool true]) (by simp [results, Tryd.results35, go_sem, x0, x1, x2, x3, x4]) rfl ?_
  exact ⟨rfl, B9⟩
end Go.Proofs.YtidkgnanfhdhdaaDoor

namespace Go.Proofs.YtidkgnanfhdhdaaDoor
set_option linter.unusedVariables false
set_option linter.unusedSimpArgs false
open Go.ChangeShapes Go.WideShapes Go.ChangeAt Go.RowKit Go.PlainAid
attribute [local go_sem ↓] Go.wp_at_zero Go.wp_at_succ
end Go.Proofs.YtidkgnanfhdhdaaDoor

namespace Go.Proofs.YtidkgnanfhdhdaaDoor
set_option linter.unusedVariables false
set_option linter.unusedSimpArgs false
open Go.ChangeShapes Go.WideShapes Go.ChangeAt Go.RowKit Go.PlainAid
attribute [local go_sem ↓] Go.wp_at_zero Go.wp_at_succ
set_option maxHeartbeats 2000000 in
set_option maxRecDepth 100000 in
theorem icmpID_ (ty co su : Int) (r d : ByteArray) (w : World) (hr : r.size ≤ 1000000) :
    Calls Tryd.prog 37 #[.agg #[.int .u8 ty, .int .u8 co, .int .u16 su, .string r, .string d]] w fun e w' => e = .returned (.int .u16 (idM r)) ∧ Below w.heap.size w w' := by
  have hr2 : r.size ≤ maxLen := by unfold maxLen; omega
  have c2 := fun u => get16_any r 0 u hr2
  have HV : v16 r 0 = idM r := by
    unfold v16 idM
    by_cases h : 2 ≤ r.size
    · have o : okAt r 0 2 = true := by unfold okAt; simp; omega
      rw [o, if_pos rfl, if_pos h]; rfl
    · have o : okAt r 0 2 = false := by unfold okAt; simp; omega
      rw [o, if_neg (by decide), if_neg h]
  rw [HV] at c2
  generalize okAt r 0 2 = ok at *
  generalize idM r = v at *
  clear HV
  go_enter Tryd.func37, Tryd.ntmps37
  go_wp2_with fail
  refine (c2 _).mono ?_; rintro e w1 ⟨rfl, b1⟩
  have B1 : Below w.heap.size w w1 := ((Below.refl _ _).alloc (Nat.le_refl _) _).trans (b1.mono (by simp))
  clear b1 c2
  go_wp2
  go_ret
  exact ⟨rfl, B1⟩
end Go.Proofs.YtidkgnanfhdhdaaDoor
