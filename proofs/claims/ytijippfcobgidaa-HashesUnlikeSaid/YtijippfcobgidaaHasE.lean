/- Contracts of package hashes: point, each, the iterator that each gives. -/
import Derived.Test.YtijippfcobgidaaHasD
import Derived.Test.YtijippfcobgidaaSumsTurned
import Derived.RangeFuncNested
import Derived.RangeFuncBound
import Derived.RangeFuncCalls
import Derived.RangeFuncLeaves
import Derived.Shelf.Abstract
import Derived.Shelf.RegionOpen
import Derived.WalkKit
import Derived.OwnWalkIn
import Derived.TacticsInMore
import Derived.LoopNIn
import Derived.LoopIn
namespace Go.Proofs.Ytijippfcobgidaa
set_option linter.unusedVariables false
set_option linter.unusedSimpArgs false
open Go.ChangeShapes Go.WideShapes Go.ChangeAt Go.RowKit Go.PlainAid Go.Shelf
section
attribute [local go_sem ↓] Go.wp_at_zero Go.wp_at_succ
set_option maxHeartbeats 1000000 in
set_option maxRecDepth 100000 in
theorem point12_ (a p : Nat) (w : World) (h1 : a < 4294967296) (h2 : p < 65536) :
    Calls Try.prog 20 #[.agg #[.int .u32 (a : Int), .int .u16 (p : Int)]] w fun e w' => e = .returned (.string (ptS a p)) ∧ Below w.heap.size w w' := by
  have HV := Lib.hid (pt_two a p h1 h2)
  have c1 := fun u => put32 (a : Int) u (by omega) (by omega)
  have c2 := fun u => put16 (p : Int) u (by omega) (by omega)
  have z1 : (strOfNums (wordL [(a : Int) / 65536, (a : Int) % 65536])).size = 4 := by rw [size_W]; rfl
  have z2 : (strOfNums (wordL [(p : Int)])).size = 2 := by rw [size_W]; rfl
  generalize strOfNums (wordL [(a : Int) / 65536, (a : Int) % 65536]) = U1 at *
  generalize strOfNums (wordL [(p : Int)]) = U2 at *
  have q1 : U1.size + U2.size ≤ 9223372036854775807 := by omega
  have q2 : ¬ 9223372036854775807 < U1.size + U2.size := by omega
  clear z1 z2
  go_enter Try.func20, Try.ntmps20
  go_wp2_with fail
  obtain ⟨w1, hw1⟩ : ∃ w1, w1 = w.alloc (.cells #[.int .u32 (a : Int), .int .u16 (p : Int)] 26) := ⟨_, rfl⟩
  have B1 : Below w.heap.size w w1 := by rw [hw1]; exact (Below.refl _ _).alloc (Nat.le_refl _) _
  have s1 : w.heap.size < w1.heap.size := by rw [hw1]; simp
  have x0 : w1.cell? ⟨w.heap.size, 0, none⟩ = some (.int .u32 (a : Int)) := by rw [hw1]; simp [go_sem]
  have x1 : w1.cell? ⟨w.heap.size, 1, none⟩ = some (.int .u16 (p : Int)) := by rw [hw1]; simp [go_sem]
  rw [← hw1]
  clear hw1
  have p0 : ∀ q : Later w1.heap.size w1, q.u.cell? ⟨w.heap.size, 0, none⟩ = some (.int .u32 (a : Int)) := fun q => q.block s1 x0
  have p1 : ∀ q : Later w1.heap.size w1, q.u.cell? ⟨w.heap.size, 1, none⟩ = some (.int .u16 (p : Int)) := fun q => q.block s1 x1
  clear x0 x1
  refine region_later (B := w1.heap.size) (by kernel_rfl) (by kernel_rfl) ?_
  repeat (go_big_quiet_step (first
    | (go_at_call 23; exact later_of _ (Nat.le_refl _) (c1 _))
    | (go_at_call 24; exact later_of _ (Nat.le_refl _) (c2 _))))
  refine later_end fun w2 b2 => ?_
  have B2 := B1.trans (b2.mono B1.size)
  clear B1 b2 c1 c2 p0 p1
  go_wp2
  go_ret
  rw [HV.out]
  exact ⟨rfl, B2⟩
set_option maxHeartbeats 1000000 in
theorem each12_ (v0 v1 v2 v3 v4 : Value) (w : World) :
    Calls Try.prog 14 #[.agg #[v0, v1, v2, v3, v4]] w fun e w' => e = .returned (.func (.func 19) #[] #[.pointer (some ⟨w.heap.size, 0, none⟩)]) ∧ w' = w.alloc (.cells #[v0, v1, v2, v3, v4] 28) := by
  go_enter Try.func14, Try.ntmps14
  go_wp2
  go_ret
  exact ⟨rfl, rfl⟩
end
/-- All cells but those of block 'nb' are kept. -/
def KeptBut (nb : Nat) (A B : World) : Prop := A.heap.size ≤ B.heap.size ∧ ∀ (p : Addr) (v : Value), p.block ≠ nb → A.cell? p = some v → B.cell? p = some v
theorem KeptBut.refl (nb : Nat) (A : World) : KeptBut nb A A := ⟨Nat.le_refl _, fun _ _ _ h => h⟩
theorem KeptBut.trans {nb : Nat} {A B C : World} (h : KeptBut nb A B) (k : KeptBut nb B C) : KeptBut nb A C := ⟨Nat.le_trans h.1 k.1, fun p v hp hc => k.2 p v hp (h.2 p v hp hc)⟩
theorem KeptBut.of {nb : Nat} {A B : World} (h : Below A.heap.size A B) : KeptBut nb A B := ⟨h.size, fun p v _ hc => (h.cell (World.block_lt_of_cell? _ _ hc)).trans hc⟩
theorem KeptBut.putObj {nb : Nat} (W : World) (l : Nat) (o o' : Obj) (h : W.heap[l]? = some o) (ho : o.isCells = false) : KeptBut nb W (W.putObj l o') :=
  ⟨(grownBy_putObj' W l o').size, fun p v _ hc => cell_kept hc (grownBy_putObj' W l o') (fun r e => by cases e; exact ⟨_, h, ho⟩)⟩
theorem KeptBut.setCell {nb : Nat} (W : World) (v : Value) : KeptBut nb W (W.setCell ⟨nb, 0, none⟩ v) :=
  ⟨by simp [World.setCell], fun p u hp hc => by rw [World.cell?_setCell_other _ _ _ _ (fun e => hp (by rw [← e]))]; exact hc⟩
theorem grown_of {A B : World} (h : Below A.heap.size A B) : A.grownBy B none := ⟨h.os, h.tape, h.output, h.size, fun k hk _ => h.block k hk⟩
attribute [local go_sem] Oper.semAt_some
set_option maxHeartbeats 2000000 in
set_option maxRecDepth 100000 in
theorem iter12_ (n : Nat) (hn : 1 ≤ n) (l nb Bs : Nat) (pr sa sp da dp : Nat) (h0 : pr < 256) (h1 : sa < 4294967296) (h2 : sp < 65536) (h3 : da < 4294967296) (h4 : dp < 65536) (hnb : Bs ≠ nb) (J Jx : List Nat → World → Prop)
    (hJ : ∀ pre W W', J pre W → Below W.heap.size W W' → J pre W')
    (hY : ∀ pre x W, J pre W → pre.length < 13 → YieldAt Fence.wide (n - 1) Try.prog l #[.int .u8 ((x : Nat) : Int)] W fun e W' =>
      (e = .returned (.bool true) ∧ J (pre ++ [x]) W' ∧ KeptBut nb W W') ∨ (e = .returned (.bool false) ∧ Jx (pre ++ [x]) W'))
    (W : World) (hlt : nb < W.heap.size) (hB : Box5 W Bs (.int .u8 (pr : Int)) (.int .u32 (sa : Int)) (.int .u16 (sp : Int)) (.int .u32 (da : Int)) (.int .u16 (dp : Int))) (hj : J [] W) :
    CallsIn Fence.wide n Try.prog 19 #[.func (.yield l) #[] #[], .pointer (some ⟨Bs, 0, none⟩)] W fun e W' => (∃ v, e = .returned v) ∧ (J (haBytes pr sa sp da dp) W' ∨ ∃ pre, Jx pre W') := by
  refine callsIn_of_wp Try.func19 rfl trivial ?_ rfl
  simp only [Try.ntmps19, List.size_toArray, List.length_cons, List.length_nil, Nat.reduceAdd, Nat.reduceSub, Array.replicate_succ, Array.replicate_zero, List.push_toArray, List.append_toArray, List.nil_append, List.cons_append]
  have HT : Hid (∀ k, k < 13 → (haBytes pr sa sp da dp).take k ++ [(haBytes pr sa sp da dp).getD k 0] = (haBytes pr sa sp da dp).take (k + 1)) := fun k hk => by
    rw [List.take_add_one]
    have hl : k < (haBytes pr sa sp da dp).length := hk
    simp [List.getD, hl]
  have HE : Hid ((haBytes pr sa sp da dp).take 13 = haBytes pr sa sp da dp) := List.take_of_length_le (Nat.le_refl _)
  have HN : Hid (∀ k, k ≤ 13 → ((haBytes pr sa sp da dp).take k).length = k) := fun k hk => by rw [List.length_take]; exact Nat.min_eq_left hk
  have HP : Hid (∀ j, bt (ptS sa sp ++ ptS da dp) j = (((haBytes pr sa sp da dp).getD (j + 1) 0 : Nat) : Int)) := fun j => by
    rw [ptS_bt, List.append_assoc]
    rfl
  have h1' : (haBytes pr sa sp da dp).take 1 = [pr] := rfl
  have hj1 : J [] W → ∀ W', J ([] ++ [pr]) W' → J ((haBytes pr sa sp da dp).take 1) W' := fun _ W' h => by rw [h1']; exact h
  obtain ⟨s0, x0, x1, x2, x3, x4⟩ := id hB
  obtain ⟨f1, t1, a1, b1, hy1, hR1⟩ := hY [] pr W hj (by simp)
  have HJ1 := Lib.hid (hj1 hj)
  clear h1' hj1
  generalize haBytes pr sa sp da dp = L at *
  have zS : (ptS sa sp ++ ptS da dp).size = 12 := by rw [ByteArray.size_append, ptS_size, ptS_size]
  have c1 := fun u => point12_ sa sp u h1 h2
  have c2 := fun u => point12_ da dp u h3 h4
  have z1 := ptS_size sa sp
  have z2 := ptS_size da dp
  generalize ptS sa sp = U1 at *
  generalize ptS da dp = U2 at *
  have q1 : U1.size + U2.size ≤ 9223372036854775807 := by omega
  have q2 : ¬ 9223372036854775807 < U1.size + U2.size := by omega
  have HZ := Lib.hid zS
  have HZ1 := Lib.hid z1
  have HZ2 := Lib.hid z2
  clear z1 z2 zS
  gi_wp2
  refine hR1.mono ?_
  rintro e W1 (⟨rfl, hJ1, hk1⟩ | ⟨rfl, hf⟩)
  · have hJ1' := HJ1.out _ hJ1
    have y1 := hk1.2 ⟨Bs, 1, none⟩ _ hnb x1
    have y2 := hk1.2 ⟨Bs, 2, none⟩ _ hnb x2
    have y3 := hk1.2 ⟨Bs, 3, none⟩ _ hnb x3
    have y4 := hk1.2 ⟨Bs, 4, none⟩ _ hnb x4
    have s1 := World.block_lt_of_cell? _ _ y1
    have hz1 := hk1.1
    have p1 : ∀ q : Later W1.heap.size W1, q.u.cell? ⟨Bs, 1, none⟩ = some (.int .u32 (sa : Int)) := fun q => q.block s1 y1
    have p2 : ∀ q : Later W1.heap.size W1, q.u.cell? ⟨Bs, 2, none⟩ = some (.int .u16 (sp : Int)) := fun q => q.block s1 y2
    have p3 : ∀ q : Later W1.heap.size W1, q.u.cell? ⟨Bs, 3, none⟩ = some (.int .u32 (da : Int)) := fun q => q.block s1 y3
    have p4 : ∀ q : Later W1.heap.size W1, q.u.cell? ⟨Bs, 4, none⟩ = some (.int .u16 (dp : Int)) := fun q => q.block s1 y4
    clear x0 x1 x2 x3 x4 y1 y2 y3 y4 hB hj hJ1 HJ1 hk1 hR1 hy1
    gi_wp2
    refine wpIn_wide.2 ?_
    refine wp_region_noPanic (wp_region_any (by kernel_rfl) ?_)
    show wpAny _ _ _ _ _ _ _ (World.drew _)
    refine wpAny_take (i := 9) (v := ?_) rfl (by kernel_rfl) (by kernel_rfl) (by kernel_rfl) (fun _ _ _ h => h) (Or.inl ⟨by rfl, ?_⟩) ?_
    rotate_left
    · intro w
      go_simp
      with_reducible rfl
    simp only [List.getElem_toArray, List.getElem_cons_succ, List.getElem_cons_zero, Act.put, List.setIfInBounds_toArray, List.set_cons_zero, List.set_cons_succ]
    refine any_lead (B := W1.heap.size) 7 2 #[false, false, true] rfl (by kernel_rfl) (by kernel_rfl) (by kernel_rfl) (by kernel_rfl) ?_
    simp only [List.take_succ_cons, List.take_zero]
    repeat (go_big_quiet_step (first
      | (go_at_call_of 20 (Value.int IntKind.u32 (sa : Int)); exact later_of _ (Nat.le_refl _) (c1 _))
      | (go_at_call_of 20 (Value.int IntKind.u32 (da : Int)); exact later_of _ (Nat.le_refl _) (c2 _))))
    refine lead_tail (fin := #[true, true, true, true, true, true, true, false, false, true]) (by kernel_rfl) fun f w3 b3 => ?_
    obtain ⟨w4, cp, hcv, b4, lt4, hbs⟩ := bytes_of_string (U1 ++ U2) w3
    have z1 := HZ1.out
    have z2 := HZ2.out
    refine wpAny_ready (rs := [7]) (by kernel_rfl) (by simp) (AllReady.cons rfl (fun K hK => ?_) AllReady.nil)
    go_simp
    refine hK _ _ ?_
    clear hK K
    refine wpAny_ready (rs := [8]) (by kernel_rfl) (by simp) (AllReady.cons rfl (fun K hK => ?_) AllReady.nil)
    go_simp
    refine hK _ _ ?_
    clear hK K
    refine wpAny_done (by kernel_rfl) (NoPanic.normal ?_) _
    have hJ4 := hJ _ _ _ (hJ _ _ _ hJ1' b3) b4
    have hb12 : ∀ j, j < 12 → w4.cell? ⟨w3.heap.size, j, none⟩ = some (.int .u8 ((L.getD (j + 1) 0 : Nat) : Int)) := fun j h => by rw [← HP.out]; exact (hbs j (by rw [HZ.out]; exact h)).1
    obtain ⟨b, hb⟩ : ∃ b, b = w3.heap.size := ⟨_, rfl⟩
    rw [← hb] at hb12 lt4 ⊢
    have hbn : b ≠ nb := by rw [hb]; have := b3.size; omega
    clear hbs hcv b3 b4 hb hJ1' p1 p2 p3 p4 c1 c2 q1 q2
    clear HZ HP HZ1 HZ2
    gi_wp2
    gi_loopw [19] (fun i wr => ∃ k : Nat, k ≤ 12 ∧ i = .int .i64 (k : Int) ∧ J (L.take (k + 1)) wr ∧ (∀ j, j < 12 → wr.cell? ⟨b, j, none⟩ = some (.int .u8 ((L.getD (j + 1) 0 : Nat) : Int))))
      (fun i _ => 12 - (intOf i).toNat)
    case atStart => exact ⟨0, by omega, rfl, hJ4, hb12⟩
    case round =>
      obtain ⟨k, hk, rfl, hJs, hbk⟩ := hrel
      by_cases hlt2 : k < 12
      · have hcx := hbk k hlt2
        have hT := HT.out (k + 1) (by omega)
        obtain ⟨c, hc⟩ : ∃ c, c = L.getD (k + 1) 0 := ⟨_, rfl⟩
        rw [← hc] at hcx hT
        have HBK := Lib.hid hbk
        have HTT := Lib.hid hT
        have hN := HN.out (k + 1) (by omega)
        clear hbk hT hc
        obtain ⟨fn, tmps, assign, body, hy, hR⟩ := hY _ c wr hJs (by rw [hN]; omega)
        have i0 : (0 : Int) ≤ (k : Int) := by omega
        have i1 : (k : Int) < (12 : Int) := by omega
        have i2 : k < 12 := hlt2
        have t1 : decide ((k : Int) < (12 : Int)) = true := by simp; omega
        gi_wp2
        refine hR.mono ?_
        rintro e W3 (⟨rfl, hJ3, hk3⟩ | ⟨rfl, hf⟩)
        · gi_wp2
          go_roundw
          case rel => exact ⟨k + 1, by omega, by simp, by rw [← HTT.out]; exact hJ3, fun j hj => hk3.2 ⟨b, j, none⟩ _ hbn (HBK.out j hj)⟩
          case measure => simp [intOf]; omega
        · gi_wp2
          refine bodyPost_ret (results_none rfl _ _ _) rfl ?_
          exact ⟨⟨_, rfl⟩, .inr ⟨_, hf⟩⟩
      · obtain rfl : k = 12 := by omega
        gi_wp2
        go_end0
        rw [HE.out] at hJs
        exact ⟨⟨_, rfl⟩, .inl hJs⟩
  · gi_wp2
    refine bodyPost_ret (results_none rfl _ _ _) rfl ?_
    exact ⟨⟨_, rfl⟩, .inr ⟨_, hf⟩⟩
theorem stops12_ (n : Nat) (hn : 1 ≤ n) (nb Bs : Nat) (pr sa sp da dp : Nat) (h0 : pr < 256) (h1 : sa < 4294967296) (h2 : sp < 65536) (h3 : da < 4294967296) (h4 : dp < 65536) (hnb : Bs ≠ nb) (w : World) (hlt : nb < w.heap.size)
    (hB : Box5 w Bs (.int .u8 (pr : Int)) (.int .u32 (sa : Int)) (.int .u16 (sp : Int)) (.int .u32 (da : Int)) (.int .u16 (dp : Int))) :
    SeqStopsK Fence.wide n Try.prog 19 #[.pointer (some ⟨Bs, 0, none⟩)] (fun x : Nat => #[Value.int .u8 (x : Int)]) (KeptBut nb) (fun ys => ys = haBytes pr sa sp da dp) (fun _ => True) 13 w := fun l J Jx W hW hJ _ hY hj =>
  (iter12_ n hn l nb Bs pr sa sp da dp h0 h1 h2 h3 h4 hnb J Jx (fun pre A B h b => hJ pre A B none h (grown_of b) (fun r e => by cases e)) hY W (Nat.lt_of_lt_of_le hlt hW.size) (hB.on hW) hj).mono
    fun e W' ⟨he, h⟩ => ⟨he, h.imp (fun h => ⟨_, rfl, h⟩) (fun ⟨pre, h⟩ => ⟨pre, trivial, h⟩)⟩
end Go.Proofs.Ytijippfcobgidaa
