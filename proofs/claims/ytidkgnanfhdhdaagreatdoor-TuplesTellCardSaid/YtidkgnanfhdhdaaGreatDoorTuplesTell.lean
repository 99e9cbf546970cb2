/- The walk of TuplesTell. -/
import Derived.Test.YtidkgnanfhdhdaaGreatDoorGo
import Derived.Test.YtidkgnanfhdhdaaGreatDoorTupG
namespace Go.Proofs.YtidkgnanfhdhdaaGreatDoor.TuplesTell
set_option linter.unusedVariables false
set_option linter.unusedSimpArgs false
open Go.ChangeShapes Go.WideShapes Go.ChangeAt Go.RowKit Go.PlainAid
set_option maxRecDepth 100000 in
set_option maxHeartbeats 8000000 in
theorem walkN (K : TupOk) (p a m b n q c k d j : Nat) (s : ByteArray) (w : World) (ht : Tab w) (hp : p ≤ 255) (ha : a < 4294967296) (hm : m ≤ 65535) (hb : b < 4294967296) (hn : n ≤ 65535) (hq : q ≤ 255) (hc : c < 4294967296) (hk : k ≤ 65535) (hd : d < 4294967296) (hj : j ≤ 65535) (hs : s.size ≤ maxLen) :
    Calls Tryz.prog 4 #[.agg #[.int .u8 (p : Int), .int .u32 (a : Int), .int .u16 (m : Int), .int .u32 (b : Int), .int .u16 (n : Int)], .agg #[.int .u8 (q : Int), .int .u32 (c : Int), .int .u16 (k : Int), .int .u32 (d : Int), .int .u16 (j : Int)], .string s] w fun e w' => e = .returned (.bool true) ∧ Below w.heap.size w w' := by
  clear hs
  by_cases h1 : 200 < s.size
  · have e1 : decide (200 < s.size) = true := by simpa using h1
    have e2 : decide ((200 : Int) < (s.size : Int)) = true := by simp; omega
    go_enter Tryz.func4, Tryz.ntmps4
    have B1 := Below.refl w.heap.size w
    go_wp2_with fail
    have B2 := B1.alloc B1.size (.cells #[.int .u8 (p : Int), .int .u32 (a : Int), .int .u16 (m : Int), .int .u32 (b : Int), .int .u16 (n : Int)] 29)
    clear B1
    have B3 := B2.alloc B2.size (.cells #[.int .u8 (q : Int), .int .u32 (c : Int), .int .u16 (k : Int), .int .u32 (d : Int), .int .u16 (j : Int)] 29)
    clear B2
    refine (watched_ K _ (ht.on B3)).mono ?_; rintro e w1 ⟨rfl, x1⟩
    have B4 := B3.trans (x1.mono B3.size)
    clear B3 x1
    go_wp2
    go_ret
    exact ⟨rfl, B4⟩
  have e1 : decide (200 < s.size) = false := by simpa using h1
  have e2 : decide ((200 : Int) < (s.size : Int)) = false := by simp; omega
  obtain ⟨l, hl⟩ := str_of s
  have hll : l.length ≤ 1000000 := by rw [hl, str_size] at h1; omega
  have c1 := fun u hu => K.parses l u hll hu
  have c2 := fun u => rparse8_ l u hll
  rw [← hl] at c1 c2
  have b1 := fun u hu => K.backs p a m b n u (by omega) (by omega) (by omega) (by omega) (by omega) (by omega) (by omega) (by omega) (by omega) (by omega) hu
  have b2 := fun u => rback8_ p a m b n u
  have m1 := fun u hu => K.mays p a m b n u (by omega) (by omega) (by omega) (by omega) (by omega) (by omega) (by omega) (by omega) (by omega) (by omega) hu
  have m2 := fun u => rmay8_ p a m b n u
  have l1 := fun u hu => K.lesses p q a m b n c k d j u (by omega) (by omega) (by omega) (by omega) ha hm hb hn hc hk hd hj hu
  have l2 := fun u => rless8_ p q a m b n c k d j u (by omega) (by omega) ha hm hb hn hc hk hd hj
  have l3 := fun u hu => K.lesses p p a m b n a m b n u (by omega) (by omega) (by omega) (by omega) ha hm hb hn ha hm hb hn hu
  have l4 := fun u => rless8_ p p a m b n a m b n u (by omega) (by omega) ha hm hb hn ha hm hb hn
  have t1 := fun u hu => K.texts p a m b n u hp ha hm hb hn hu
  have t2 := fun u => rtext8_ p a m b n u ha hm hb hn
  generalize tmay (p : Int) m n = mv at *
  generalize tless p q a m b n c k d j = lv at *
  generalize tless p p a m b n a m b n = lw at *
  generalize str (ttextL p a m b n) = S at *
  generalize ((tupP l : Nat) : Int) = v0 at *
  generalize ((tupA l : Nat) : Int) = v1 at *
  generalize ((tupM l : Nat) : Int) = v2 at *
  generalize ((tupB l : Nat) : Int) = v3 at *
  generalize ((tupN l : Nat) : Int) = v4 at *
  generalize tupE l = v5 at *
  clear h1 hl hll hp ha hm hb hn hq hc hk hd hj
  go_enter Tryz.func4, Tryz.ntmps4
  have B1 := Below.refl w.heap.size w
  go_wp2_with fail
  have A_2 := Box5.make w (.int .u8 (p : Int)) (.int .u32 (a : Int)) (.int .u16 (m : Int)) (.int .u32 (b : Int)) (.int .u16 (n : Int)) 29
  have B3 := B1.alloc B1.size (.cells #[.int .u8 (p : Int), .int .u32 (a : Int), .int .u16 (m : Int), .int .u32 (b : Int), .int .u16 (n : Int)] 29)
  clear B1
  have A_4 := A_2.past (o := (.cells #[.int .u8 (q : Int), .int .u32 (c : Int), .int .u16 (k : Int), .int .u32 (d : Int), .int .u16 (j : Int)] 29))
  have hs_ : (w.alloc (.cells #[.int .u8 (p : Int), .int .u32 (a : Int), .int .u16 (m : Int), .int .u32 (b : Int), .int .u16 (n : Int)] 29)).heap.size = w.heap.size + 1 := by simp
  have C_5 := Box5.make (w.alloc (.cells #[.int .u8 (p : Int), .int .u32 (a : Int), .int .u16 (m : Int), .int .u32 (b : Int), .int .u16 (n : Int)] 29)) (.int .u8 (q : Int)) (.int .u32 (c : Int)) (.int .u16 (k : Int)) (.int .u32 (d : Int)) (.int .u16 (j : Int)) 29
  rw [hs_] at C_5
  clear hs_
  have B6 := B3.alloc B3.size (.cells #[.int .u8 (q : Int), .int .u32 (c : Int), .int .u16 (k : Int), .int .u32 (d : Int), .int .u16 (j : Int)] 29)
  clear A_2 B3
  refine (c1 _ (ht.on B6)).mono ?_; rintro e w1 ⟨rfl, x1⟩
  have A_7 := A_4.on x1
  have C_8 := C_5.on x1
  have B9 := B6.trans (x1.mono B6.size)
  clear A_4 C_5 B6 x1
  have A_10 := A_7.past (o := (.cells #[.int .u8 v0, .int .u32 v1, .int .u16 v2, .int .u32 v3, .int .u16 v4] 29))
  have C_11 := C_8.past (o := (.cells #[.int .u8 v0, .int .u32 v1, .int .u16 v2, .int .u32 v3, .int .u16 v4] 29))
  have U_12 := Box5.make w1 (.int .u8 v0) (.int .u32 v1) (.int .u16 v2) (.int .u32 v3) (.int .u16 v4) 29
  have B13 := B9.alloc B9.size (.cells #[.int .u8 v0, .int .u32 v1, .int .u16 v2, .int .u32 v3, .int .u16 v4] 29)
  clear A_7 C_8 B9
  clear c1
  go_wp2_with fail
  refine (c2 _).mono ?_; rintro e w2 ⟨rfl, x2⟩
  have A_14 := A_10.on x2
  have C_15 := C_11.on x2
  have U_16 := U_12.on x2
  have B17 := B13.trans (x2.mono B13.size)
  clear A_10 C_11 U_12 B13 x2
  have A_18 := A_14.past (o := (.cells #[.int .u8 v0, .int .u32 v1, .int .u16 v2, .int .u32 v3, .int .u16 v4] 29))
  have C_19 := C_15.past (o := (.cells #[.int .u8 v0, .int .u32 v1, .int .u16 v2, .int .u32 v3, .int .u16 v4] 29))
  have U_20 := U_16.past (o := (.cells #[.int .u8 v0, .int .u32 v1, .int .u16 v2, .int .u32 v3, .int .u16 v4] 29))
  have Y_21 := Box5.make w2 (.int .u8 v0) (.int .u32 v1) (.int .u16 v2) (.int .u32 v3) (.int .u16 v4) 29
  have B22 := B17.alloc B17.size (.cells #[.int .u8 v0, .int .u32 v1, .int .u16 v2, .int .u32 v3, .int .u16 v4] 29)
  clear A_14 C_15 U_16 B17
  clear c2
  go_wp2_with fail
  obtain ⟨u3, hu3⟩ : ∃ x, x = w2.alloc (.cells #[.int .u8 v0, .int .u32 v1, .int .u16 v2, .int .u32 v3, .int .u16 v4] 29) := ⟨_, rfl⟩
  rw [← hu3] at A_18 C_19 U_20 Y_21 B22 ⊢
  clear hu3
  have HT := ht.on B22
  obtain ⟨za, ga0, ga1, ga2, ga3, ga4⟩ := id A_18
  have Fa0 : ∀ x : Later u3.heap.size u3, x.u.cell? ⟨w.heap.size, 0, none⟩ = some (.int .u8 (p : Int)) := fun x => x.block za ga0
  have Fa1 : ∀ x : Later u3.heap.size u3, x.u.cell? ⟨w.heap.size, 1, none⟩ = some (.int .u32 (a : Int)) := fun x => x.block za ga1
  have Fa2 : ∀ x : Later u3.heap.size u3, x.u.cell? ⟨w.heap.size, 2, none⟩ = some (.int .u16 (m : Int)) := fun x => x.block za ga2
  have Fa3 : ∀ x : Later u3.heap.size u3, x.u.cell? ⟨w.heap.size, 3, none⟩ = some (.int .u32 (b : Int)) := fun x => x.block za ga3
  have Fa4 : ∀ x : Later u3.heap.size u3, x.u.cell? ⟨w.heap.size, 4, none⟩ = some (.int .u16 (n : Int)) := fun x => x.block za ga4
  clear ga0 ga1 ga2 ga3 ga4
  obtain ⟨zc, gc0, gc1, gc2, gc3, gc4⟩ := id C_19
  have Fc0 : ∀ x : Later u3.heap.size u3, x.u.cell? ⟨(w.heap.size + 1), 0, none⟩ = some (.int .u8 (q : Int)) := fun x => x.block zc gc0
  have Fc1 : ∀ x : Later u3.heap.size u3, x.u.cell? ⟨(w.heap.size + 1), 1, none⟩ = some (.int .u32 (c : Int)) := fun x => x.block zc gc1
  have Fc2 : ∀ x : Later u3.heap.size u3, x.u.cell? ⟨(w.heap.size + 1), 2, none⟩ = some (.int .u16 (k : Int)) := fun x => x.block zc gc2
  have Fc3 : ∀ x : Later u3.heap.size u3, x.u.cell? ⟨(w.heap.size + 1), 3, none⟩ = some (.int .u32 (d : Int)) := fun x => x.block zc gc3
  have Fc4 : ∀ x : Later u3.heap.size u3, x.u.cell? ⟨(w.heap.size + 1), 4, none⟩ = some (.int .u16 (j : Int)) := fun x => x.block zc gc4
  clear gc0 gc1 gc2 gc3 gc4
  obtain ⟨zu, gu0, gu1, gu2, gu3, gu4⟩ := id U_20
  have Fu0 : ∀ x : Later u3.heap.size u3, x.u.cell? ⟨w1.heap.size, 0, none⟩ = some (.int .u8 v0) := fun x => x.block zu gu0
  have Fu1 : ∀ x : Later u3.heap.size u3, x.u.cell? ⟨w1.heap.size, 1, none⟩ = some (.int .u32 v1) := fun x => x.block zu gu1
  have Fu2 : ∀ x : Later u3.heap.size u3, x.u.cell? ⟨w1.heap.size, 2, none⟩ = some (.int .u16 v2) := fun x => x.block zu gu2
  have Fu3 : ∀ x : Later u3.heap.size u3, x.u.cell? ⟨w1.heap.size, 3, none⟩ = some (.int .u32 v3) := fun x => x.block zu gu3
  have Fu4 : ∀ x : Later u3.heap.size u3, x.u.cell? ⟨w1.heap.size, 4, none⟩ = some (.int .u16 v4) := fun x => x.block zu gu4
  clear gu0 gu1 gu2 gu3 gu4
  obtain ⟨zy, gy0, gy1, gy2, gy3, gy4⟩ := id Y_21
  have Fy0 : ∀ x : Later u3.heap.size u3, x.u.cell? ⟨w2.heap.size, 0, none⟩ = some (.int .u8 v0) := fun x => x.block zy gy0
  have Fy1 : ∀ x : Later u3.heap.size u3, x.u.cell? ⟨w2.heap.size, 1, none⟩ = some (.int .u32 v1) := fun x => x.block zy gy1
  have Fy2 : ∀ x : Later u3.heap.size u3, x.u.cell? ⟨w2.heap.size, 2, none⟩ = some (.int .u16 v2) := fun x => x.block zy gy2
  have Fy3 : ∀ x : Later u3.heap.size u3, x.u.cell? ⟨w2.heap.size, 3, none⟩ = some (.int .u32 v3) := fun x => x.block zy gy3
  have Fy4 : ∀ x : Later u3.heap.size u3, x.u.cell? ⟨w2.heap.size, 4, none⟩ = some (.int .u16 v4) := fun x => x.block zy gy4
  clear gy0 gy1 gy2 gy3 gy4
  refine region_later (B := u3.heap.size) (by kernel_rfl) (by kernel_rfl) ?_
  repeat (go_big_quiet_step (first
    | (go_at_call 11; exact later_of _ (Nat.le_refl _) (b1 _ (HT.on (Later.h _))))
    | (go_at_call 12; exact later_of _ (Nat.le_refl _) (b2 _))
    | (go_at_call 13; exact later_of _ (Nat.le_refl _) (m1 _ (HT.on (Later.h _))))
    | (go_at_call 14; exact later_of _ (Nat.le_refl _) (m2 _))
    | (go_at_call_of 15 (c : Int); exact later_of _ (Nat.le_refl _) (l1 _ (HT.on (Later.h _))))
    | (go_at_call_of 16 (c : Int); exact later_of _ (Nat.le_refl _) (l2 _))
    | (go_at_call_of 15 (a : Int); exact later_of _ (Nat.le_refl _) (l3 _ (HT.on (Later.h _))))
    | (go_at_call_of 16 (a : Int); exact later_of _ (Nat.le_refl _) (l4 _))
    | (go_at_call 17; exact later_of _ (Nat.le_refl _) (t1 _ (HT.on (Later.h _))))
    | (go_at_call 18; exact later_of _ (Nat.le_refl _) (t2 _))
    | (go_at_call 6; exact later_of _ (Nat.le_refl _) (watched_ K _ (HT.on (Later.h _))))))
  refine later_end fun w4 x4 => ?_
  have A_23 := A_18.on x4
  have C_24 := C_19.on x4
  have U_25 := U_20.on x4
  have Y_26 := Y_21.on x4
  have B27 := B22.trans (x4.mono B22.size)
  clear Fa0 Fa1 Fa2 Fa3 Fa4 za Fc0 Fc1 Fc2 Fc3 Fc4 zc Fu0 Fu1 Fu2 Fu3 Fu4 zu Fy0 Fy1 Fy2 Fy3 Fy4 zy A_18 C_19 U_20 Y_21 B22 x4
  go_wp2
  go_ret
  exact ⟨rfl, B27⟩
theorem walk_ (K : TupOk) (p a m b n q c k d j : Int) (s : ByteArray) (w : World) (ht : Tab w) (hp : (Lit.int .u8 p).wf = true) (ha : (Lit.int .u32 a).wf = true) (hm : (Lit.int .u16 m).wf = true) (hb : (Lit.int .u32 b).wf = true) (hn : (Lit.int .u16 n).wf = true) (hq : (Lit.int .u8 q).wf = true) (hc : (Lit.int .u32 c).wf = true) (hk : (Lit.int .u16 k).wf = true) (hd : (Lit.int .u32 d).wf = true) (hj : (Lit.int .u16 j).wf = true) (hs : s.size ≤ maxLen) :
    Calls Tryz.prog 4 #[.agg #[.int .u8 p, .int .u32 a, .int .u16 m, .int .u32 b, .int .u16 n], .agg #[.int .u8 q, .int .u32 c, .int .u16 k, .int .u32 d, .int .u16 j], .string s] w fun e w' => e = .returned (.bool true) ∧ Below w.heap.size w w' := by
  obtain ⟨p0, p1⟩ := bounds_u8 hp
  obtain ⟨a0, a1⟩ := bounds_u32 ha
  obtain ⟨m0, m1⟩ := bounds_u16 hm
  obtain ⟨b0, b1⟩ := bounds_u32 hb
  obtain ⟨n0, n1⟩ := bounds_u16 hn
  obtain ⟨q0, q1⟩ := bounds_u8 hq
  obtain ⟨c0, c1⟩ := bounds_u32 hc
  obtain ⟨k0, k1⟩ := bounds_u16 hk
  obtain ⟨d0, d1⟩ := bounds_u32 hd
  obtain ⟨j0, j1⟩ := bounds_u16 hj
  have := walkN K p.toNat a.toNat m.toNat b.toNat n.toNat q.toNat c.toNat k.toNat d.toNat j.toNat s w ht (by omega) (by omega) (by omega) (by omega) (by omega) (by omega) (by omega) (by omega) (by omega) (by omega) hs
  rw [Int.toNat_of_nonneg p0, Int.toNat_of_nonneg a0, Int.toNat_of_nonneg m0, Int.toNat_of_nonneg b0, Int.toNat_of_nonneg n0, Int.toNat_of_nonneg q0, Int.toNat_of_nonneg c0, Int.toNat_of_nonneg k0, Int.toNat_of_nonneg d0, Int.toNat_of_nonneg j0] at this
  exact this
end Go.Proofs.YtidkgnanfhdhdaaGreatDoor.TuplesTell
