/- Contracts of the document's answers for layer 7: WithID. -/
import Derived.Test.YtlcgpjeggelbaaaIcmpA
namespace Go.Proofs.Ytlcgpjeggelbaaa
set_option linter.unusedVariables false
set_option linter.unusedSimpArgs false
open Go.ChangeShapes Go.WideShapes Go.ChangeAt Go.RowKit Go.PlainAid
attribute [local go_sem ↓] Go.wp_at_zero Go.wp_at_succ
set_option maxHeartbeats 2000000 in
set_option maxRecDepth 100000 in
theorem rwith7_ (ty co su : Int) (r d : ByteArray) (k : Int) (w : World) (i0 : 0 ≤ k) (i1 : k ≤ 65535) (hr : r.size ≤ 1000000) :
    Calls Try.prog 19 #[.agg #[.int .u8 ty, .int .u8 co, .int .u16 su, .string r, .string d], .int .u16 k] w fun e w' => e = .returned (.agg #[.int .u8 ty, .int .u8 co, .int .u16 su, .string (wiM r k), .string d]) ∧ Below w.heap.size w w' := by
  obtain ⟨n, hn⟩ : ∃ n, r.size = n := ⟨_, rfl⟩
  rw [hn] at hr
  by_cases h2 : n < 2
  · have HV : Hid (wiM r k = r) := by show _ = _; unfold wiM; rw [if_neg (by omega)]
    have e1 : decide ((2 : Int) ≤ (n : Int)) = false := by simp; omega
    clear h2
    go_enter Try.func19, Try.ntmps19
    go_wp2
    refine bodyPost_ret (v := .agg #[.int .u8 ty, .int .u8 co, .int .u16 su, .string r, .string d]) (by simp [results, Try.results19, go_sem]) rfl ?_
    rw [HV.out]
    exact ⟨rfl, ((Below.refl _ _).alloc (Nat.le_refl _) _).alloc (by simp) _⟩
  have e1 : decide ((2 : Int) ≤ (n : Int)) = true := by simp; omega
  have HV : Hid (wiM r k = strOfNums (wordL [k]) ++ r.extract 2 n) := by show _ = _; unfold wiM; rw [hn, if_pos (by omega)]
  have i2 : (2 : Int) ≤ (n : Int) := by omega
  have cp := fun u => rput16 k u i0 i1
  have z1 : (strOfNums (wordL [k])).size = 2 := by rw [size_W]; rfl
  generalize strOfNums (wordL [k]) = U at *
  have q1 : U.size + (n - 2) ≤ 9223372036854775807 := by omega
  have q2 : ¬ 9223372036854775807 < U.size + (n - 2) := by omega
  clear z1 h2
  go_enter Try.func19, Try.ntmps19
  go_wp2_with fail
  have A0 := (Box5.make w (.int .u8 ty) (.int .u8 co) (.int .u16 su) (.string r) (.string d) 28).past (o := .cells #[.int .u8 0, .int .u8 0, .int .u16 0, .string ⟨#[]⟩, .string ⟨#[]⟩] 28)
  have A1 := Box5.make (w.alloc (.cells #[.int .u8 ty, .int .u8 co, .int .u16 su, .string r, .string d] 28)) (.int .u8 0) (.int .u8 0) (.int .u16 0) (.string ⟨#[]⟩) (.string ⟨#[]⟩) 28
  have hs1 : (w.alloc (.cells #[.int .u8 ty, .int .u8 co, .int .u16 su, .string r, .string d] 28)).heap.size = w.heap.size + 1 := by simp
  rw [hs1] at A1
  have B0 : Below w.heap.size w ((w.alloc (.cells #[.int .u8 ty, .int .u8 co, .int .u16 su, .string r, .string d] 28)).alloc (.cells #[.int .u8 0, .int .u8 0, .int .u16 0, .string ⟨#[]⟩, .string ⟨#[]⟩] 28)) := ((Below.refl _ _).alloc (Nat.le_refl _) _).alloc (by simp) _
  have fz : ∀ j, ((w.alloc (.cells #[.int .u8 ty, .int .u8 co, .int .u16 su, .string r, .string d] 28)).alloc (.cells #[.int .u8 0, .int .u8 0, .int .u16 0, .string ⟨#[]⟩, .string ⟨#[]⟩] 28)).frozen? ⟨w.heap.size, j, none⟩ = false := by intro j; simp [go_sem]
  have gz : ∀ j, ((w.alloc (.cells #[.int .u8 ty, .int .u8 co, .int .u16 su, .string r, .string d] 28)).alloc (.cells #[.int .u8 0, .int .u8 0, .int .u16 0, .string ⟨#[]⟩, .string ⟨#[]⟩] 28)).frozen? ⟨w.heap.size + 1, j, none⟩ = false := by intro j; simp [go_sem]
  obtain ⟨w1, hw1⟩ : ∃ x, x = (w.alloc (.cells #[.int .u8 ty, .int .u8 co, .int .u16 su, .string r, .string d] 28)).alloc (.cells #[.int .u8 0, .int .u8 0, .int .u16 0, .string ⟨#[]⟩, .string ⟨#[]⟩] 28) := ⟨_, rfl⟩
  rw [← hw1] at A0 A1 B0 fz gz ⊢
  clear hw1 hs1
  obtain ⟨lt0, f0, f1, f2, f3, f4⟩ := id A0
  have F3 : ∀ q : Later w1.heap.size w1, q.u.cell? ⟨w.heap.size, 3, none⟩ = some (.string r) := fun q => q.block lt0 f3
  clear f0 f1 f2 f3 f4
  refine region_lead (B := w1.heap.size) 7 1 (by kernel_rfl) (by kernel_rfl) (by kernel_rfl) (by kernel_rfl) ?_
  simp only [List.take_succ_cons, List.take_zero]
  repeat (go_big_quiet_step (first
    | (go_at_call 28; exact later_of _ (Nat.le_refl _) (cp _))))
  refine lead_end (by kernel_rfl) (by kernel_rfl) rfl fun w2 b2 K hK => ?_
  have lt1 := A1.1
  obtain ⟨_, f0, f1, f2, f3, f4⟩ := A0.on b2
  obtain ⟨_, g0, g1, g2, g3, g4⟩ := A1.on b2
  have fz2 : ∀ j, w2.frozen? ⟨w.heap.size, j, none⟩ = false := fun j => (b2.frozen (p := ⟨_, j, none⟩) lt0).trans (fz j)
  have gz2 : ∀ j, w2.frozen? ⟨w.heap.size + 1, j, none⟩ = false := fun j => (b2.frozen (p := ⟨_, j, none⟩) lt1).trans (gz j)
  have B2 := B0.trans (b2.mono B0.size)
  have hs := b2.size
  clear A0 A1 F3 fz gz b2 B0 cp
  go_simp
  refine hK.out _ _ ?_
  clear hK K
  have B3 := B2.setCell (p := ⟨w.heap.size, 3, none⟩) (Nat.le_refl _) (.string (U ++ r.extract 2 n))
  go_wp2
  refine box5_ (b := w.heap.size + 1) (W := w2.setCell ⟨w.heap.size, 3, none⟩ (.string (U ++ r.extract 2 n))) (fun j hj => ?_) B3 (by omega) fun w9 x0 x1 x2 x3 x4 B9 _ _ => ?_
  · match j, hj with
    | 0, _ => simp [go_sem, g0]
    | 1, _ => simp [go_sem, g1]
    | 2, _ => simp [go_sem, g2]
    | 3, _ => simp [go_sem, g3]
    | 4, _ => simp [go_sem, g4]
  refine bodyPost_ret (v := .agg #[.int .u8 ty, .int .u8 co, .int .u16 su, .string (U ++ r.extract 2 n), .string d]) (by simp [results, Try.results19, go_sem, x0, x1, x2, x3, x4]) rfl ?_
  rw [HV.out]
  exact ⟨rfl, B9⟩
end Go.Proofs.Ytlcgpjeggelbaaa
