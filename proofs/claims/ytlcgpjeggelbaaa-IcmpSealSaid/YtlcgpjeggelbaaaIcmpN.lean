/- Contracts of package icmp: ID, WithID; what the laws ask of it. -/
import Derived.Test.YtlcgpjeggelbaaaIcmpL
import Derived.Test.YtlcgpjeggelbaaaIcmpH
import Derived.Test.YtlcgpjeggelbaaaIcmpG
import Derived.Test.YtlcgpjeggelbaaaFieldsE
namespace Go.Proofs.Ytlcgpjeggelbaaa
set_option linter.unusedVariables false
set_option linter.unusedSimpArgs false
open Go.ChangeShapes Go.WideShapes Go.ChangeAt Go.RowKit Go.PlainAid
attribute [local go_sem ↓] Go.wp_at_zero Go.wp_at_succ
set_option maxHeartbeats 2000000 in
set_option maxRecDepth 100000 in
theorem icmpID_ (ty co su : Int) (r d : ByteArray) (w : World) (hr : r.size ≤ 1000000) :
    Calls Try.prog 16 #[.agg #[.int .u8 ty, .int .u8 co, .int .u16 su, .string r, .string d]] w fun e w' => e = .returned (.int .u16 (idM r)) ∧ Below w.heap.size w w' := by
  have hr2 : r.size ≤ maxLen := by unfold maxLen; omega
  have c2 := fun u => get16_any r 0 u hr2
  have HV : v16 r 0 = idM r := by
    unfold v16 idM
    by_cases h : 2 ≤ r.size
    · have o : okAt r 0 2 = true := by unfold okAt; simp; omega
      rw [o, if_pos rfl, if_pos h]; rfl
    · have o : okAt r 0 2 = false := by unfold okAt; simp; omega
      rw [o, if_neg (by decide), if_neg h]
  rw [HV] at c2
  generalize okAt r 0 2 = ok at *
  generalize idM r = v at *
  clear HV
  go_enter Try.func16, Try.ntmps16
  go_wp2_with fail
  refine (c2 _).mono ?_; rintro e w1 ⟨rfl, b1⟩
  have B1 : Below w.heap.size w w1 := ((Below.refl _ _).alloc (Nat.le_refl _) _).trans (b1.mono (by simp))
  clear b1 c2
  go_wp2
  go_ret
  exact ⟨rfl, B1⟩
set_option maxHeartbeats 2000000 in
set_option maxRecDepth 100000 in
theorem icmpWith_ (ty co su : Int) (r d : ByteArray) (k : Int) (w : World) (i0 : 0 ≤ k) (i1 : k ≤ 65535) (hr : r.size ≤ 1000000) :
    Calls Try.prog 18 #[.agg #[.int .u8 ty, .int .u8 co, .int .u16 su, .string r, .string d], .int .u16 k] w fun e w' => e = .returned (.agg #[.int .u8 ty, .int .u8 co, .int .u16 su, .string (wiM r k), .string d]) ∧ Below w.heap.size w w' := by
  have hr2 : r.size ≤ maxLen := by unfold maxLen; omega
  have cp := fun u => put16 k u i0 i1
  have zw : (strOfNums (wordL [k])).size = 2 := by rw [size_W]; rfl
  have cv := fun u => with_any r 0 (strOfNums (wordL [k])) u hr2 (by rw [zw]; decide)
  rw [zw] at cv
  obtain ⟨ok, hok⟩ : ∃ b, okAt r 0 ((2 : Nat) : Int) = b := ⟨_, rfl⟩
  have HV : Hid (wiM r k = if ok then vWith r 0 (strOfNums (wordL [k])) else r) := by
    show _ = _
    rw [← hok]
    unfold wiM
    by_cases h : 2 ≤ r.size
    · have o : okAt r 0 ((2 : Nat) : Int) = true := by unfold okAt; simp; omega
      rw [if_pos h, o, if_pos rfl]
      unfold vWith
      rw [zw, o, if_pos rfl]
      unfold withB
      rw [zw]
      show _ = r.extract 0 0 ++ _ ++ _
      rw [show r.extract 0 0 = ByteArray.empty from by simp, ByteArray.empty_append]
      rfl
    · have o : okAt r 0 ((2 : Nat) : Int) = false := by unfold okAt; simp; omega
      rw [if_neg h, o, if_neg (by decide)]
  rw [hok] at cv
  generalize vWith r 0 (strOfNums (wordL [k])) = V at *
  generalize strOfNums (wordL [k]) = U at *
  clear hok zw
  go_enter Try.func18, Try.ntmps18
  go_wp2_with fail
  have A0 := (Box5.make w (.int .u8 ty) (.int .u8 co) (.int .u16 su) (.string r) (.string d) 24).past (o := .cells #[.int .u8 0, .int .u8 0, .int .u16 0, .string ⟨#[]⟩, .string ⟨#[]⟩] 24)
  have A1 := Box5.make (w.alloc (.cells #[.int .u8 ty, .int .u8 co, .int .u16 su, .string r, .string d] 24)) (.int .u8 0) (.int .u8 0) (.int .u16 0) (.string ⟨#[]⟩) (.string ⟨#[]⟩) 24
  have hs1 : (w.alloc (.cells #[.int .u8 ty, .int .u8 co, .int .u16 su, .string r, .string d] 24)).heap.size = w.heap.size + 1 := by simp
  rw [hs1] at A1
  have B0 : Below w.heap.size w ((w.alloc (.cells #[.int .u8 ty, .int .u8 co, .int .u16 su, .string r, .string d] 24)).alloc (.cells #[.int .u8 0, .int .u8 0, .int .u16 0, .string ⟨#[]⟩, .string ⟨#[]⟩] 24)) := ((Below.refl _ _).alloc (Nat.le_refl _) _).alloc (by simp) _
  have fz : ∀ j, ((w.alloc (.cells #[.int .u8 ty, .int .u8 co, .int .u16 su, .string r, .string d] 24)).alloc (.cells #[.int .u8 0, .int .u8 0, .int .u16 0, .string ⟨#[]⟩, .string ⟨#[]⟩] 24)).frozen? ⟨w.heap.size, j, none⟩ = false := by intro j; simp [go_sem]
  have gz : ∀ j, ((w.alloc (.cells #[.int .u8 ty, .int .u8 co, .int .u16 su, .string r, .string d] 24)).alloc (.cells #[.int .u8 0, .int .u8 0, .int .u16 0, .string ⟨#[]⟩, .string ⟨#[]⟩] 24)).frozen? ⟨w.heap.size + 1, j, none⟩ = false := by intro j; simp [go_sem]
  obtain ⟨w1, hw1⟩ : ∃ x, x = (w.alloc (.cells #[.int .u8 ty, .int .u8 co, .int .u16 su, .string r, .string d] 24)).alloc (.cells #[.int .u8 0, .int .u8 0, .int .u16 0, .string ⟨#[]⟩, .string ⟨#[]⟩] 24) := ⟨_, rfl⟩
  rw [← hw1] at A0 A1 B0 fz gz ⊢
  clear hw1 hs1
  obtain ⟨lt0, f0, f1, f2, f3, f4⟩ := id A0
  have F3 : ∀ q : Later w1.heap.size w1, q.u.cell? ⟨w.heap.size, 3, none⟩ = some (.string r) := fun q => q.block lt0 f3
  clear f0 f1 f2 f3 f4
  refine region_later (B := w1.heap.size) (by kernel_rfl) (by kernel_rfl) ?_
  repeat (go_big_quiet_step (first
    | (go_at_call 31; exact later_of _ (Nat.le_refl _) (cp _))
    | (go_at_call 30; exact later_of _ (Nat.le_refl _) (cv _))))
  refine later_end fun w2 b2 => ?_
  have lt1 := A1.1
  obtain ⟨_, f0, f1, f2, f3, f4⟩ := A0.on b2
  obtain ⟨_, g0, g1, g2, g3, g4⟩ := A1.on b2
  have fz2 : ∀ j, w2.frozen? ⟨w.heap.size, j, none⟩ = false := fun j => (b2.frozen (p := ⟨_, j, none⟩) lt0).trans (fz j)
  have gz2 : ∀ j, w2.frozen? ⟨w.heap.size + 1, j, none⟩ = false := fun j => (b2.frozen (p := ⟨_, j, none⟩) lt1).trans (gz j)
  have B2 := B0.trans (b2.mono B0.size)
  have hs := b2.size
  clear A0 A1 F3 fz gz b2 B0 cp cv
  cases ok
  · have HW := Lib.hid (show wiM r k = r from HV.out)
    clear HV
    go_wp2
    refine box5_ (b := w.heap.size + 1) (W := w2) (fun j hj => ?_) B2 (by omega) fun w9 x0 x1 x2 x3 x4 B9 _ _ => ?_
    · match j, hj with
      | 0, _ => rw [g0]; rfl
      | 1, _ => rw [g1]; rfl
      | 2, _ => rw [g2]; rfl
      | 3, _ => rw [g3]; rfl
      | 4, _ => rw [g4]; rfl
    refine bodyPost_ret (v := .agg #[.int .u8 ty, .int .u8 co, .int .u16 su, .string r, .string d]) (by simp [results, Try.results18, go_sem, x0, x1, x2, x3, x4]) rfl ?_
    rw [HW.out]
    exact ⟨rfl, B9⟩
  · have HW := Lib.hid (show wiM r k = V from HV.out)
    clear HV
    have B3 := B2.setCell (p := ⟨w.heap.size, 3, none⟩) (Nat.le_refl _) (.string V)
    go_wp2
    refine box5_ (b := w.heap.size + 1) (W := w2.setCell ⟨w.heap.size, 3, none⟩ (.string V)) (fun j hj => ?_) B3 (by omega) fun w9 x0 x1 x2 x3 x4 B9 _ _ => ?_
    · match j, hj with
      | 0, _ => simp [go_sem, g0]
      | 1, _ => simp [go_sem, g1]
      | 2, _ => simp [go_sem, g2]
      | 3, _ => simp [go_sem, g3]
      | 4, _ => simp [go_sem, g4]
    refine bodyPost_ret (v := .agg #[.int .u8 ty, .int .u8 co, .int .u16 su, .string V, .string d]) (by simp [results, Try.results18, go_sem, x0, x1, x2, x3, x4]) rfl ?_
    rw [HW.out]
    exact ⟨rfl, B9⟩
theorem icmpOk : IcmpOk := ⟨icmpParse_, icmpPut_, icmpCheck_, icmpSeal_, fun ty co su r d w t0 t1 c0 c1 _ _ _ _ => icmpQuery_ ty co su r d w t0 t1 c0 c1, fun ty co su r d w t0 t1 c0 c1 _ _ _ _ => icmpError_ ty co su r d w t0 t1 c0 c1, fun ty co su r d w _ _ _ _ _ _ hr _ => icmpID_ ty co su r d w hr, fun ty co su r d k w _ _ _ _ _ _ hr _ k0 k1 => icmpWith_ ty co su r d k w k0 k1 hr⟩
end Go.Proofs.Ytlcgpjeggelbaaa
