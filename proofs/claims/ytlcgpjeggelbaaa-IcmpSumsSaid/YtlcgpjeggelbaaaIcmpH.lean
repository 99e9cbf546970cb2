/- Contracts of package icmp: Parse, Put. -/
import Derived.Test.YtlcgpjeggelbaaaIcmpM
import Derived.Test.YtlcgpjeggelbaaaUdpB
import Derived.Test.YtlcgpjeggelbaaaLead
import Derived.Test.YtlcgpjeggelbaaaShelfStr
import Derived.Deep.RegionHeld3
namespace Go.Proofs.Ytlcgpjeggelbaaa
set_option linter.unusedVariables false
set_option linter.unusedSimpArgs false
open Go.ChangeShapes Go.WideShapes Go.ChangeAt Go.RowKit Go.PlainAid
attribute [local go_sem ↓] Go.wp_at_zero Go.wp_at_succ
set_option maxHeartbeats 2000000 in
set_option maxRecDepth 100000 in
theorem icmpParse_ (s : ByteArray) (w : World) (hs : s.size ≤ 1000000) :
    Calls Try.prog 8 #[.string s] w fun e w' => e = .returned (.tuple #[.agg #[.int .u8 (mI s (bt s 0)), .int .u8 (mI s (bt s 1)), .int .u16 (mI s (g16 s 2)), .string (mR s), .string (mD s)], .bool (mOk s)]) ∧ Below w.heap.size w w' := by
  have hs2 : s.size ≤ maxLen := by unfold maxLen; omega
  have hb := get_bt s
  by_cases h8 : s.size < 8
  · have hk : mOk s = false := by unfold mOk; simp; omega
    obtain ⟨y1, y2, y3⟩ := mOk_no hk
    rw [y1, y1, y1, y2, y3, hk]
    have e1 : decide ((s.size : Int) < 8) = true := by simp; omega
    clear h8 hk y1 y2 y3 hb
    go_enter Try.func8, Try.ntmps8
    go_wp2
    refine bodyPost_ret (v := .tuple #[.agg #[.int .u8 0, .int .u8 0, .int .u16 0, .string ⟨#[]⟩, .string ⟨#[]⟩], .bool false]) (by simp [results, Try.results8, go_sem]) rfl ?_
    exact ⟨rfl, (Below.refl _ _).alloc (Nat.le_refl _) _⟩
  have e1 : decide ((s.size : Int) < 8) = false := by simp; omega
  have hk : mOk s = true := by unfold mOk; simp; omega
  obtain ⟨_, y1, y2, y3⟩ := mOk_yes hk
  rw [y1, y1, y1, y2, y3, hk]
  have c2 := fun u => get16_yes s 2 u hs2 (by omega)
  have i0 : (0 : Int) < (s.size : Int) := by omega
  have i1 : (1 : Int) < (s.size : Int) := by omega
  have i8 : (8 : Int) ≤ (s.size : Int) := by omega
  have zr := size_extract' s 4 8 (by omega) (by omega)
  have zd := size_extract' s 8 s.size (by omega) (Nat.le_refl _)
  have cr := fun u => clone_ (s.extract 4 8) u (by omega)
  have cd := fun u => clone_ (s.extract 8 s.size) u (by omega)
  generalize g16 s 2 = v2 at *
  clear h8 hk y1 y2 y3 zr zd
  go_enter Try.func8, Try.ntmps8
  go_wp2_with fail
  refine (c2 _).mono ?_; rintro e w1 ⟨rfl, b1⟩
  have B1 : Below w.heap.size w w1 := ((Below.refl _ _).alloc (Nat.le_refl _) _).trans (b1.mono (by simp))
  obtain ⟨hc, hf⟩ := bcell4_ b1
  have hz : w.heap.size < w1.heap.size := by have := b1.size; simp at this; omega
  have A0 := Box5.make w (.int .u8 0) (.int .u8 0) (.int .u16 0) (.string ⟨#[]⟩) (.string ⟨#[]⟩) 24
  have A1 := A0.on b1
  have F1 : ∀ j, w1.frozen? ⟨w.heap.size, j, none⟩ = false := by intro j; rw [hf _ _ (by simp)]; simp [go_sem]
  clear A0
  clear hc hf b1 c2
  go_wp2_with fail
  refine region_lead (B := w1.heap.size) 12 2 (by kernel_rfl) (by kernel_rfl) (by kernel_rfl) (by kernel_rfl) ?_
  simp only [List.take_succ_cons, List.take_zero]
  repeat (go_big_quiet_step (first
    | (go_at_call_of 25 (s.extract 4 8); exact later_of _ (Nat.le_refl _) (cr _))
    | (go_at_call_of 25 (s.extract 8 s.size); exact later_of _ (Nat.le_refl _) (cd _))))
  refine lead_tail (fin := #[true, true, true, true, true, true, true, true, true, true, true, true, false, false]) (by kernel_rfl) fun f w3 b3 => ?_
  have A3 := A1.on b3
  obtain ⟨_, x0, x1, x2, x3, x4⟩ := id A3
  have F3 : ∀ j, w3.frozen? ⟨w.heap.size, j, none⟩ = false := fun j => (b3.frozen (p := ⟨_, j, none⟩) hz).trans (F1 j)
  have B3 := B1.trans (b3.mono B1.size)
  have hz3 := B3.size
  clear A1 F1 b3 B1 cr cd
  refine wpAny_ready (rs := [12]) (by kernel_rfl) (by simp) (AllReady.cons rfl (fun K hK => ?_) AllReady.nil)
  go_simp
  refine hK _ _ ?_
  clear hK K
  clear x0 x1 x2 x3 x4
  refine box5_ (b := w.heap.size) A3.some B3 (Nat.le_refl _) fun w9 x0 x1 x2 x3 x4 B9 _ _ => ?_
  clear A3 F3 B3
  refine wpAny_ready (rs := [13]) (by kernel_rfl) (by simp) (AllReady.cons rfl (fun K hK => ?_) AllReady.nil)
  go_simp
  refine hK _ _ ?_
  clear hK K
  refine wpAny_done (by kernel_rfl) ?_ _
  go_wp2
  refine bodyPost_ret (v := .tuple #[.agg #[.int .u8 (bt s 0), .int .u8 (bt s 1), .int .u16 v2, .string (s.extract 4 8), .string (s.extract 8 s.size)], .bool true]) (by simp [results, Try.results8, go_sem, x0, x1, x2, x3, x4]) rfl ?_
  exact ⟨rfl, B9⟩
set_option maxHeartbeats 2000000 in
set_option maxRecDepth 100000 in
theorem icmpPut_ (ty co su : Int) (r d : ByteArray) (w : World) (t0 : 0 ≤ ty) (t1 : ty ≤ 255) (c0 : 0 ≤ co) (c1 : co ≤ 255) (s0 : 0 ≤ su) (s1 : su ≤ 65535) (hr : r.size ≤ 1000000) (hd : d.size ≤ 1000000) :
    Calls Try.prog 10 #[.agg #[.int .u8 ty, .int .u8 co, .int .u16 su, .string r, .string d]] w fun e w' => e = .returned (.tuple #[.string (icP ty co su r d), .int .i64 (icE r.size)]) ∧ Below w.heap.size w w' := by
  obtain ⟨n, hn⟩ : ∃ n, r.size = n := ⟨_, rfl⟩
  rw [hn] at hr
  by_cases h4 : n = 4
  rotate_left
  · have HV : Hid (icP ty co su r d = ⟨#[]⟩) := by show _ = _; unfold icP; rw [if_neg (by omega)]
    have HE : Hid (icE r.size = 2) := by show _ = _; unfold icE; rw [if_neg (by omega)]
    have e1 : ((n : Int) != 4) = true := by simp; omega
    clear h4
    go_enter Try.func10, Try.ntmps10
    go_wp2
    go_ret2
    rw [HE.out, HV.out]
    exact ⟨rfl, (Below.refl _ _).alloc (Nat.le_refl _) _⟩
  have e1 : ((n : Int) != 4) = false := by simp; omega
  have HE : Hid (icE r.size = 0) := by show _ = _; unfold icE; rw [if_pos (by omega)]
  have HV : Hid (icP ty co su r d = strOfNums (wordL [256 * ty + co, su]) ++ r ++ d) := by show _ = _; unfold icP icB; rw [if_pos (by omega)]
  obtain ⟨z, hz⟩ : ∃ z, 256 * ty + co = z := ⟨_, rfl⟩
  rw [hz] at HV
  have x := u16_hl ty co t0 t1 c0 c1
  have x1 : IntKind.u16.wrap ty = ty := IntWalk.u16_in _ (by omega)
  have x2 : IntKind.u16.wrap co = co := IntWalk.u16_in _ (by omega)
  have x3 : IntKind.u16.wrap (ty * 256) = ty * 256 := IntWalk.u16_in _ (by omega)
  rw [show ty * 256 + co = z by omega] at x
  have z0 : 0 ≤ z := by omega
  have z1 : z ≤ 65535 := by omega
  have cw : ∀ u (k : Nat), k < u.heap.size → u.cell? ⟨k, 0, none⟩ = some (.int .u16 z) → u.cell? ⟨k, 1, none⟩ = some (.int .u16 su) → Calls Try.prog 27 #[.slice (some ⟨k, 0, none⟩) 2 2] u fun e w' => e = .returned (.string (strOfNums (wordL [z, su]))) ∧ Below u.heap.size u w' :=
    fun u k hk h0 h1 => word_any _ 2 2 [z, su] u (row2 hk h0 h1) (by omega) (by intro x hx; simp at hx; omega)
  have zw : (strOfNums (wordL [z, su])).size = 4 := by rw [size_W]; rfl
  generalize strOfNums (wordL [z, su]) = W at *
  have q1 : ¬ 9223372036854775807 < W.size + n := by omega
  have q2 : ¬ 9223372036854775807 < W.size + n + d.size := by omega
  clear zw h4
  go_enter Try.func10, Try.ntmps10
  clear hz
  go_wp2_with fail
  have A0 := Box5.make w (.int .u8 ty) (.int .u8 co) (.int .u16 su) (.string r) (.string d) 24
  have B0 : Below w.heap.size w (w.alloc (.cells #[.int .u8 ty, .int .u8 co, .int .u16 su, .string r, .string d] 24)) := (Below.refl _ _).alloc (Nat.le_refl _) _
  obtain ⟨w1, hw1⟩ : ∃ x, x = w.alloc (.cells #[.int .u8 ty, .int .u8 co, .int .u16 su, .string r, .string d] 24) := ⟨_, rfl⟩
  rw [← hw1] at A0 B0 ⊢
  clear hw1
  have MK := Lib.hid (show ∀ w', Below w1.heap.size w1 w' → w'.cell? ⟨w.heap.size, 0, none⟩ = some (.int .u8 ty) ∧ w'.cell? ⟨w.heap.size, 1, none⟩ = some (.int .u8 co) ∧ w'.cell? ⟨w.heap.size, 2, none⟩ = some (.int .u16 su) ∧ w'.cell? ⟨w.heap.size, 3, none⟩ = some (.string r) ∧ w'.cell? ⟨w.heap.size, 4, none⟩ = some (.string d) ∧ Below w1.heap.size w1 w' from
    fun w' h => by obtain ⟨_, y0, y1, y2, y3, y4⟩ := A0.on h; exact ⟨y0, y1, y2, y3, y4, h⟩)
  go_region_held3 (fun w' => w'.cell? ⟨w.heap.size, 0, none⟩ = some (.int .u8 ty) ∧ w'.cell? ⟨w.heap.size, 1, none⟩ = some (.int .u8 co) ∧ w'.cell? ⟨w.heap.size, 2, none⟩ = some (.int .u16 su) ∧ w'.cell? ⟨w.heap.size, 3, none⟩ = some (.string r) ∧ w'.cell? ⟨w.heap.size, 4, none⟩ = some (.string d) ∧ Below w1.heap.size w1 w')
    ((go_split_ands
      refine MK.out _ ?_
      repeat
        first
          | assumption
          | exact Below.refl _ _
          | refine Below.drew ?_
          | refine Below.alloc ?_ ?_ _
          | (refine Below.trans ?_ (hbw.mono ?_))
          | (refine Below.size (B := w1.heap.size) ?_
             assumption)
          | focus (simp; done)
          | focus (simp; omega)))
    ((first
      | (go_at_call 27
         refine (cw _ _ ?_ ?_ ?_).mono ?_
         · simp
         · simp [go_sem]
         · simp [go_sem]
         rintro e w2 ⟨rfl, hbw⟩)))
  rename_i HH
  have b2 := HH.2.2.2.2.2
  have B2 := B0.trans (b2.mono B0.size)
  clear HH b2 MK A0 B0 cw
  go_wp2
  go_ret2
  rw [HE.out, HV.out]
  exact ⟨rfl, B2⟩
end Go.Proofs.Ytlcgpjeggelbaaa
