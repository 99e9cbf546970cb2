/- The walk of SumsHold. -/
import Derived.Test.YtdddgbpiabimbaaDoorSumsHoldP
import Derived.OwnWalk
import Derived.Deep.RegionHeld3
namespace Go.Proofs.YtdddgbpiabimbaaDoor.SumsHold
open Go.ChangeShapes Go.WideShapes Go.ChangeAt Go.RowKit Go.PlainAid
theorem Tryd.info25 : (Tryd.prog.info? 25).map (fun i => (i.zero, i.size, i.bytes)) = some (some (.int .u16 0), 1, 2) := by kernel_rfl
theorem row1 {w : World} {b : Nat} {x : Int} (hb : b < w.heap.size) (h0 : w.cell? ⟨b, 0, none⟩ = some (.int .u16 x)) : Row .u16 w (some ⟨b, 0, none⟩) 1 [x] :=
  ⟨rfl, .inr ⟨b, 0, rfl, hb, by
    intro t ht
    match t, ht with
    | 0, _ => simpa using h0⟩⟩
theorem new1 {W w : World} {v : Value} {t : TypeId} {b : Nat} (h : W.heap = (w.alloc (.cells #[v] t)).heap) (hb : b = w.heap.size) : W.cell? ⟨b, 0, none⟩ = some v := by
  subst hb
  have e : (w.alloc (.cells #[v] t)).cell? ⟨w.heap.size, 0, none⟩ = some v := by simp
  rw [← e]
  unfold World.cell?
  rw [h]
theorem old1 {W w : World} {o : Obj} {v : Value} {b : Nat} (h : W.heap = (w.alloc o).heap) (hb : b < w.heap.size) (hc : w.cell? ⟨b, 0, none⟩ = some v) : W.cell? ⟨b, 0, none⟩ = some v := by
  have e : (w.alloc o).cell? ⟨b, 0, none⟩ = some v := (World.cell?_alloc_lt _ _ _ hb).trans hc
  rw [← e]
  unfold World.cell?
  rw [h]
set_option maxRecDepth 100000 in
set_option maxHeartbeats 1000000 in
theorem first (a : Option Addr) (len cap : Nat) (a' : Option Addr) (len' cap' : Nat) (p q : Int) (w : World) (hl : len ≤ maxLen) (h : 100 < len ∨ len = 0 ∨ len < len') :
    Calls Tryd.prog 3 #[.slice a len cap, .slice a' len' cap', .agg #[.int .u8 p, .int .u8 q]] w fun e w' => e = .returned (.bool true) ∧ Below w.heap.size w w' := by
  unfold maxLen at hl
  by_cases h1 : 100 < len
  · have e1 : decide ((100 : Int) < len) = true := by simp; omega
    go_enter Tryd.func3, Tryd.ntmps3
    go_wp2_with fail
    refine (summed_ _).mono ?_; rintro e w1 ⟨rfl, b1⟩
    have B1 : Below w.heap.size w w1 := ((Below.refl _ _).alloc (Nat.le_refl _) _).trans (b1.mono (by simp))
    clear b1
    go_wp2
    go_ret
    exact ⟨rfl, B1⟩
  · have e1 : decide ((100 : Int) < len) = false := by simp; omega
    by_cases h2 : len = 0
    · subst h2
      clear h
      go_enter Tryd.func3, Tryd.ntmps3
      go_wp2_with fail
      refine (summed_ _).mono ?_; rintro e w1 ⟨rfl, b1⟩
      have B1 : Below w.heap.size w w1 := ((Below.refl _ _).alloc (Nat.le_refl _) _).trans (b1.mono (by simp))
      clear b1
      go_wp2
      go_ret
      exact ⟨rfl, B1⟩
    · have e2 : ((len : Int) == 0) = false := by simp; omega
      have e3 : decide (len < len') = true := by simp; omega
      clear h
      go_enter Tryd.func3, Tryd.ntmps3
      go_wp2_with fail
      refine (summed_ _).mono ?_; rintro e w1 ⟨rfl, b1⟩
      have B1 : Below w.heap.size w w1 := ((Below.refl _ _).alloc (Nat.le_refl _) _).trans (b1.mono (by simp))
      clear b1
      go_wp2
      go_ret
      exact ⟨rfl, B1⟩
set_option maxRecDepth 100000 in
set_option maxHeartbeats 2000000 in
theorem walk (a : Option Addr) (len cap : Nat) (zs : List Int) (a' : Option Addr) (len' cap' : Nat) (zs' : List Int) (p q : Int) (w : World) (hr : IsRow .u16 w a len cap zs) (hr' : IsRow .u16 w a' len' cap' zs') (hp : (Lit.int .u8 p).wf = true) (hq : (Lit.int .u8 q).wf = true) :
    Calls Tryd.prog 3 #[.slice a len cap, .slice a' len' cap', .agg #[.int .u8 p, .int .u8 q]] w fun e w' => e = .returned (.bool true) ∧ Below w.heap.size w w' := by
  obtain ⟨p0, p1⟩ := bounds_u8 hp
  obtain ⟨q0, q1⟩ := bounds_u8 hq
  by_cases hf : 100 < len ∨ len = 0 ∨ len < len'
  · exact first a len cap a' len' cap' p q w hr.len_le hf
  have e1 : decide ((100 : Int) < len) = false := by simp; omega
  have e2 : ((len : Int) == 0) = false := by simp; omega
  have e3 : decide (len < len') = false := by simp; omega
  have hl100 : len ≤ 100 := by omega
  have hll : len' ≤ len := by omega
  have hl0 : 0 < len := by omega
  have hrow := hr.row
  have hrow' := hr'.row
  have WF := Lib.hid (fun x hx => bounds_u16 (hr.wf x hx))
  have WF' := Lib.hid (fun x hx => bounds_u16 (hr'.wf x hx))
  clear hr hr' hp hq hf
  obtain ⟨ys, hys⟩ : ∃ ys, ys = zs.take len := ⟨_, rfl⟩
  obtain ⟨ms, hms⟩ : ∃ ys, ys = zs'.take len' := ⟨_, rfl⟩
  rw [← hys] at hrow WF
  rw [← hms] at hrow' WF'
  clear hys hms
  have ROW := Lib.hid hrow
  have ROW' := Lib.hid hrow'
  obtain ⟨hyl, hrow⟩ := hrow
  obtain ⟨b, off, rfl, hb, hc⟩ := hrow.resolve_left (by omega)
  have hk0 : 0 ≤ p % (len : Int) := Int.emod_nonneg _ (by omega)
  have hk1 : p % (len : Int) < (len : Int) := Int.emod_lt_of_pos _ (by omega)
  obtain ⟨k, hk⟩ := Int.eq_ofNat_of_zero_le hk0
  have hkl : k < len := by omega
  have hkI : (k : Int) < (len : Int) := by omega
  have hf0 : 0 ≤ q % ((len : Int) - len' + 1) := Int.emod_nonneg _ (by omega)
  have hf1 : q % ((len : Int) - len' + 1) < (len : Int) - len' + 1 := Int.emod_lt_of_pos _ (by omega)
  obtain ⟨fr, hfr⟩ := Int.eq_ofNat_of_zero_le hf0
  have hfl : fr + len' ≤ len := by omega
  have j9 : (((len : Int) - len' + 1) == 0) = false := by simp; omega
  have HC := Lib.hid hc
  have HYL := Lib.hid hyl
  have KL := Lib.hid hkl
  have FL := Lib.hid hfl
  obtain ⟨i0, hi, hz0, hz1, hz2⟩ := info_parts Tryd.info25
  have hck := hc k hkl
  clear hk0 hk1 hf0 hf1 hyl hrow hc hkl hfl hrow'
  go_enter Tryd.func3, Tryd.ntmps3
  go_wp2_with (at_builtin; refine wpList_append_own _ rfl _ _ 22 rfl (w.heap.size + 1) 25 i0 (.int .u16 0) 1 2 Tryd.underlying22 hi hz0 hz1 hz2 rfl (by decide) _ 0 [] rfl (World.ownsRow_nil _ _ _ _) ⟨b, off, none⟩ len cap (ys.map (Value.int .u16)) rfl ?c1 ?c2 ?c3 ?c4 ?c5 ?c6 ?_)
  case c1 => simp [HYL.out]
  case c2 =>
    intro j u hj
    have hjl : j < ys.length := by
      have := (List.getElem?_eq_some_iff.1 hj).1
      simpa using this
    rw [World.cell?_alloc_lt _ _ _ (by rw [addr_add]; exact hb), addr_add, HC.out j (by rw [← HYL.out]; exact hjl)]
    simp [List.getElem?_eq_getElem hjl] at hj
    rw [← hj]
    simp [List.getD, hjl]
  case c3 => intro u hu; simp at hu; obtain ⟨x, _, rfl⟩ := hu; rfl
  case c4 => unfold maxLen; omega
  case c5 => omega
  case c6 => simp
  intro v w1 hown hgrow _
  obtain ⟨g, C, rfl, hg0, hO⟩ := OwnR.of hown HYL.out hl0
  have B1 : Below w.heap.size w w1 := ((Below.refl _ _).alloc (Nat.le_refl _) _).grown (row := none) hgrow (by simp) (fun k h => by cases h)
  have hB : w.heap.size ≤ g := by omega
  clear hown hgrow
  have hck1 := (B1.cell (by exact hb)).trans hck
  have OW := Lib.hid hO
  clear hO hck hg0
  obtain ⟨xk, hxk⟩ : ∃ x, x = ys.getD k 0 := ⟨_, rfl⟩
  rw [← hxk] at hck1
  have HXK := Lib.hid hxk
  have hxb : 0 ≤ xk ∧ xk ≤ 65535 := by
    rw [hxk, getD_lt _ _ _ (by rw [HYL.out]; exact KL.out)]
    exact WF.out _ (List.getElem_mem _)
  have I0 := Lib.hid (show Inv w w1 g len k fr ys 0 xk ys from ⟨hxb.1, hxb.2, WF.out, OW.out, B1, by rw [hxk]; omega, fun j _ _ => rfl⟩)
  clear hxk
  go_wp2_with fail
  clear hck1 B1 OW hxb
  go_loopw [10, 11] (fun v si wr => ∃ (i : Nat) (u : Int) (ns : List Int), i ≤ len' ∧ si = .int .i64 i ∧ v = .int .u16 u ∧ Hid (Inv w wr g len k fr ys i u ns)) (fun _ si _ => len' - (intOf si).toNat)
  case atStart => exact ⟨0, xk, ys, Nat.zero_le _, rfl, rfl, I0⟩
  case round =>
    obtain ⟨i, u, ns, hil, rfl, rfl, I⟩ := hrel
    by_cases hlt : i < len'
    · obtain ⟨b', off', rfl, hb', hc'⟩ : ∃ b off, a' = some ⟨b, off, none⟩ ∧ b < w.heap.size ∧ ∀ t, t < len' → w.cell? ⟨b, off + t, none⟩ = some (.int .u16 (ms.getD t 0)) := ROW'.out.2.resolve_left (by omega)
      have hfi : fr + i < len := by have := FL.out; omega
      by_cases hki : fr + i = k
      · have hne : ((fr : Int) + (i : Int) != (k : Int)) = false := by simp; omega
        have hki' : (fr : Int) + (i : Int) = (k : Int) := by omega
        clear hc' hki
        go_wp2
        go_roundw
        case rel => exact ⟨i + 1, u, ns, by omega, by go_num, rfl, Lib.hid I.out.skip⟩
        case measure => simp [intOf]; omega
      · have hne : ((fr : Int) + (i : Int) != (k : Int)) = true := by simp; omega
        have hki' : ¬ (fr : Int) + (i : Int) = (k : Int) := by omega
        have r1 : wr.cell? ⟨b, off + (fr + i), none⟩ = some (.int .u16 (ys.getD (fr + i) 0)) := (I.out.bel.cell (by exact hb)).trans (HC.out _ hfi)
        have r2 : wr.cell? ⟨b', off' + i, none⟩ = some (.int .u16 (ms.getD i 0)) := (I.out.bel.cell (by exact hb')).trans (hc' _ hlt)
        have x0 : 0 ≤ ys.getD (fr + i) 0 ∧ ys.getD (fr + i) 0 ≤ 65535 := by
          rw [getD_lt _ _ _ (by rw [HYL.out]; exact hfi)]
          exact WF.out _ (List.getElem_mem _)
        have y0 : 0 ≤ ms.getD i 0 ∧ ms.getD i 0 ≤ 65535 := by
          rw [getD_lt _ _ _ (by rw [ROW'.out.1]; exact hlt)]
          exact WF'.out _ (List.getElem_mem _)
        obtain ⟨x, hx⟩ : ∃ x, x = ys.getD (fr + i) 0 := ⟨_, rfl⟩
        obtain ⟨y, hy⟩ : ∃ y, y = ms.getD i 0 := ⟨_, rfl⟩
        rw [← hx] at r1 x0
        rw [← hy] at r2 y0
        have HX := Lib.hid hx
        have HY := Lib.hid hy
        obtain ⟨x0, x1⟩ := x0
        obtain ⟨y0, y1⟩ := y0
        have e4 : IntKind.i64.wrap ((fr : Int) + (i : Int)) = (fr : Int) + (i : Int) := IntWalk.i64_in _ (by omega)
        have e5 : ((fr : Int) + (i : Int)).toNat = fr + i := by omega
        have e6 : 0 ≤ (fr : Int) + (i : Int) := by omega
        have e7 : (fr : Int) + (i : Int) < (len : Int) := by omega
        have e8 : (i : Int) < (len' : Int) := by omega
        clear hc' hx hy
        go_wp2_with fail
        have hwx : ∀ n ∈ [x], 0 ≤ n ∧ n ≤ 65535 := by intro n hn; simp at hn; omega
        have hwy : ∀ n ∈ [y], 0 ≤ n ∧ n ≤ 65535 := by intro n hn; simp at hn; omega
        have WX := Lib.hid hwx
        have WY := Lib.hid hwy
        have SX : Hid ((strOfNums (wordL [x])).size ≤ maxLen) := by show _ ≤ _; rw [size_W]; unfold maxLen; simp
        have SY : Hid ((strOfNums (wordL [y])).size ≤ maxLen) := by show _ ≤ _; rw [size_W]; unfold maxLen; simp
        have UO := Lib.hid (updV_one u x y x0 x1 y0 y1)
        have MK := Lib.hid (show ∀ w', Below wr.heap.size wr w' → w'.cell? ⟨b, off + (fr + i), none⟩ = some (.int .u16 x) ∧ w'.cell? ⟨b', off' + i, none⟩ = some (.int .u16 y) ∧ Below wr.heap.size wr w' from
          fun w' h => ⟨(h.cell (World.block_lt_of_cell? _ _ r1)).trans r1, (h.cell (World.block_lt_of_cell? _ _ r2)).trans r2, h⟩)
        have u0 := I.out.u0
        have u1 := I.out.u1
        clear hwx hwy
        go_region_held3 (fun w' => w'.cell? ⟨b, off + (fr + i), none⟩ = some (.int .u16 x) ∧ w'.cell? ⟨b', off' + i, none⟩ = some (.int .u16 y) ∧ Below wr.heap.size wr w')
          ((go_split_ands
            refine MK.out _ ?_
            repeat
              first
                | assumption
                | exact Below.refl _ _
                | refine Below.drew ?_
                | refine Below.alloc ?_ ?_ _
                | (refine Below.trans ?_ (hbw.mono ?_))
                | (refine Below.size (B := wr.heap.size) ?_
                   assumption)
                | focus (simp; done)
                | focus (simp; omega)))
          ((first
            | (go_at_call 7
               refine (word_any _ _ _ [x] _ (row1 ?_ ?_) (by omega) WX.out).mono ?_
               · first
                   | (simp; done)
                   | (simp; omega)
                   | (refine Nat.lt_of_lt_of_le ?_ hbw.size; simp; done)
                   | (refine Nat.lt_of_lt_of_le ?_ hbw.size; simp; omega)
               · first
                   | (refine new1 rfl ?_; simp; done)
                   | (refine old1 rfl ?_ (new1 rfl ?_) <;> first | (simp; done) | (simp; omega))
                   | (refine (hbw.cell ?_).trans (new1 rfl ?_) <;> first | (simp; done) | (simp; omega))
                   | (refine (hbw.cell ?_).trans (old1 rfl ?_ (new1 rfl ?_)) <;> first | (simp; done) | (simp; omega))
               rintro e w2 ⟨rfl, hbw⟩)
            | (go_at_call 7
               refine (word_any _ _ _ [y] _ (row1 ?_ ?_) (by omega) WY.out).mono ?_
               · first
                   | (simp; done)
                   | (simp; omega)
                   | (refine Nat.lt_of_lt_of_le ?_ hbw.size; simp; done)
                   | (refine Nat.lt_of_lt_of_le ?_ hbw.size; simp; omega)
               · first
                   | (refine new1 rfl ?_; simp; done)
                   | (refine old1 rfl ?_ (new1 rfl ?_) <;> first | (simp; done) | (simp; omega))
                   | (refine (hbw.cell ?_).trans (new1 rfl ?_) <;> first | (simp; done) | (simp; omega))
                   | (refine (hbw.cell ?_).trans (old1 rfl ?_ (new1 rfl ?_)) <;> first | (simp; done) | (simp; omega))
               rintro e w2 ⟨rfl, hbw⟩)
            | (go_at_call 6
               refine (updates_ _ _ _ _ u0 u1 SX.out SY.out).mono ?_
               rintro e w2 ⟨rfl, hbw⟩)))
        all_goals
          obtain ⟨s1, s2, BW⟩ : w2.cell? ⟨b, off + (fr + i), none⟩ = some (.int .u16 x) ∧ w2.cell? ⟨b', off' + i, none⟩ = some (.int .u16 y) ∧ Below wr.heap.size wr w2 := by assumption
          rw [UO.out]
          have ST := Lib.hid (I.out.step y0 y1 (by rw [← HX.out]; exact x0) (by rw [← HX.out]; exact x1) hfi hki KL.out BW hB)
          rw [← HX.out] at ST
          obtain ⟨sc1, sc2⟩ := (I.out.own.kept BW).2.2 (fr + i) hfi
          clear hki s1
          go_wp2
          go_roundw
          case rel => exact ⟨i + 1, updW u x y, ns.set (fr + i) y, by omega, by go_num, rfl, ST⟩
          case measure => simp [intOf]; omega
    · have e4 : decide ((i : Int) < (len' : Int)) = false := by simp; omega
      have hns : ns.length = len := I.out.own.1
      have NS := Lib.hid (show k < ns.length by rw [hns]; exact KL.out)
      have SAME := Lib.hid (fun v1 v2 => fin1 WF.out I.out.wf I.out.u0 I.out.u1 NS.out I.out.same v1 v2)
      have FIN := Lib.hid (fin2 (k := k) I.out.wf NS.out)
      have u0 := I.out.u0
      have u1 := I.out.u1
      have WN := Lib.hid I.out.wf
      have hB' := hB
      have B1 := I.out.bel
      have O1 := Lib.hid (I.out.own.set k KL.out u)
      obtain ⟨f1, f2⟩ := I.out.own.2.2 k KL.out
      have B2 : Below w.heap.size w (wr.setCell ⟨g, k, none⟩ (.int .u16 u)) := B1.setCell hB _
      have SZ1 := Lib.hid (show (strOfNums (wordL ys)).size = 2 * len by rw [size_W, HYL.out])
      have SZ2 := Lib.hid (show (strOfNums (wordL (ns.set k u))).size = 2 * len by rw [size_W, List.length_set, hns])
      have W1 : Hid (∀ n ∈ ns.set k u, 0 ≤ n ∧ n ≤ 65535) := wf_set I.out.wf k u0 u1
      obtain ⟨s, hs⟩ : ∃ s, s = strOfNums (wordL ys) := ⟨_, rfl⟩
      obtain ⟨t, ht⟩ : ∃ t, t = strOfNums (wordL (ns.set k u)) := ⟨_, rfl⟩
      rw [← hs] at SZ1 SAME
      rw [← ht] at SZ2 SAME
      have HS := Lib.hid hs
      have HT := Lib.hid ht
      have s1 : (s.size : Int) = 2 * (len : Int) := by have := SZ1.out; omega
      have s2 : (!decide ((s.size : Int) = 2 * (len : Int))) = false := by simp; omega
      have MS : Hid (s.size ≤ maxLen) := by show _ ≤ _; rw [SZ1.out]; unfold maxLen; omega
      have MT : Hid (t.size ≤ maxLen) := by show _ ≤ _; rw [SZ2.out]; unfold maxLen; omega
      obtain ⟨c1, hc1⟩ : ∃ c, c = voidV s := ⟨_, rfl⟩
      obtain ⟨c2, hc2⟩ : ∃ c, c = voidV t := ⟨_, rfl⟩
      obtain ⟨ha, hha⟩ : ∃ c, c = holdsV [s] := ⟨_, rfl⟩
      obtain ⟨hb2, hhb⟩ : ∃ c, c = holdsV [t] := ⟨_, rfl⟩
      rw [← hc1, ← hc2, ← hha, ← hhb] at SAME
      have C1 := Lib.hid hc1
      have C2 := Lib.hid hc2
      have HA := Lib.hid hha
      have HB2 := Lib.hid hhb
      clear hs ht hc1 hc2 hha hhb hns
      go_wp2_with fail
      obtain ⟨w2, hw2⟩ : ∃ w2, w2 = wr.setCell ⟨g, k, none⟩ (.int .u16 u) := ⟨_, rfl⟩
      rw [← hw2] at O1 B2
      rw [← hw2]
      clear hw2 f1 f2 B1 I
      refine (word_any _ _ _ _ _ (ROW.out.kept B2) (by omega) WF.out).mono ?_; rintro e w3 ⟨rfl, b3⟩
      rw [← HS.out]
      have B3 := B2.trans (b3.mono B2.size)
      have O3 := Lib.hid (O1.out.kept b3)
      clear B2 b3 O1
      go_wp2_with fail
      refine (word_any _ _ _ _ _ O3.out.row (by omega) W1.out).mono ?_; rintro e w4 ⟨rfl, b4⟩
      rw [← HT.out]
      have B4 := B3.trans (b4.mono B3.size)
      have O4 := Lib.hid (O3.out.kept b4)
      clear B3 b4 O3
      go_wp2_with fail
      refine (void_ s _ MS.out).mono ?_; rintro e w5 ⟨rfl, b5⟩
      rw [← C1.out]
      have B5 := B4.trans (b5.mono B4.size)
      have O5 := Lib.hid (O4.out.kept b5)
      clear B4 b5 O4
      cases c1
      focus
        go_wp2_with fail
        refine (void_ t _ MT.out).mono ?_; rintro e w6 ⟨rfl, b6⟩
        rw [← C2.out]
        have B6 := B5.trans (b6.mono B5.size)
        have O6 := Lib.hid (O5.out.kept b6)
        clear B5 b6 O5
        cases c2
        focus
          have hab : ha = hb2 := SAME.out (by first | rfl | trivial) (by first | rfl | trivial)
          subst hab
          go_wp2_with fail
          refine (holds_ _ 1 1 [s] _ (rowS1 (by simp) (by simp) MS.out)).mono ?_; rintro e w7 ⟨rfl, b7⟩
          rw [← HA.out]
          have B7 : Below w.heap.size w w7 := (B6.alloc B6.size _).trans (b7.mono (by simp; have := B6.size; omega))
          have O7 := Lib.hid ((O6.out.kept ((Below.refl _ _).alloc (Nat.le_refl _) _)).kept b7)
          clear B6 b7 O6
          go_wp2_with fail
          refine (holds_ _ 1 1 [t] _ (rowS1 (by simp) (by simp) MT.out)).mono ?_; rintro e w8 ⟨rfl, b8⟩
          rw [← HB2.out]
          have B8 : Below w.heap.size w w8 := (B7.alloc B7.size _).trans (b8.mono (by simp; have := B7.size; omega))
          have O8 := Lib.hid ((O7.out.kept ((Below.refl _ _).alloc (Nat.le_refl _) _)).kept b8)
          clear B7 b8 O7
        rotate_left
        focus
          obtain ⟨w8, hw8⟩ : ∃ w8, w8 = w6 := ⟨_, rfl⟩
          rw [← hw8] at B6 O6
          rw [← hw8]
          have B8 := B6
          have O8 := O6
          clear B6 O6 hw8
      rotate_left
      rotate_left
      focus
        obtain ⟨w8, hw8⟩ : ∃ w8, w8 = w5 := ⟨_, rfl⟩
        rw [← hw8] at B5 O5
        rw [← hw8]
        have B8 := B5
        have O8 := O5
        clear B5 O5 hw8
      all_goals
        obtain ⟨f3, f4⟩ := O8.out.2.2 k KL.out
        have B9 : Below w.heap.size w (w8.setCell ⟨g, k, none⟩ (.int .u16 0)) := B8.setCell hB _
        have O9 := Lib.hid (O8.out.set k KL.out 0)
        rw [List.set_set] at O9
        obtain ⟨w9, hw9⟩ : ∃ w9, w9 = w8.setCell ⟨g, k, none⟩ (.int .u16 0) := ⟨_, rfl⟩
        have HW9 := Lib.hid hw9
        clear hw9
        rw [← HW9.out] at O9 B9
        go_wp2_with fail
        rw [← HW9.out]
        clear HW9 f3 f4 O8 B8
        refine (word_any _ _ _ _ _ O9.out.row (by omega) (wf_set WN.out k (by omega) (by omega))).mono ?_; rintro e w10 ⟨rfl, b10⟩
        have B10 := B9.trans (b10.mono B9.size)
        have O10 := Lib.hid (O9.out.kept b10)
        clear B9 b10 O9
        have MZ : Hid ((strOfNums (wordL (ns.set k 0))).size ≤ maxLen) := by show _ ≤ _; rw [size_W, List.length_set]; have := O10.out.1; rw [List.length_set] at this; unfold maxLen; omega
        have vb := sumV_bd [strOfNums (wordL (ns.set k 0))]
        have FIN2 := FIN
        obtain ⟨v2, hv2⟩ : ∃ v, v = sumV [strOfNums (wordL (ns.set k 0))] := ⟨_, rfl⟩
        rw [← hv2] at FIN2 vb
        have HV2 := Lib.hid hv2
        obtain ⟨v20, v21⟩ := vb
        clear hv2
        go_wp2_with fail
        refine (sum_ _ 1 1 [strOfNums (wordL (ns.set k 0))] _ (rowS1 (by simp) (by simp) MZ.out)).mono ?_; rintro e w11 ⟨rfl, b11⟩
        rw [← HV2.out]
        have B11 : Below w.heap.size w w11 := (B10.alloc B10.size _).trans (b11.mono (by simp; have := B10.size; omega))
        have O11 := Lib.hid ((O10.out.kept ((Below.refl _ _).alloc (Nat.le_refl _) _)).kept b11)
        clear B10 b11 O10
        obtain ⟨f5, f6⟩ := O11.out.2.2 k KL.out
        have B12 : Below w.heap.size w (w11.setCell ⟨g, k, none⟩ (.int .u16 v2)) := B11.setCell hB _
        have O12 := Lib.hid (O11.out.set k KL.out v2)
        rw [List.set_set] at O12
        obtain ⟨w12, hw12⟩ : ∃ w12, w12 = w11.setCell ⟨g, k, none⟩ (.int .u16 v2) := ⟨_, rfl⟩
        have HW12 := Lib.hid hw12
        clear hw12
        rw [← HW12.out] at O12 B12
        go_wp2_with fail
        rw [← HW12.out]
        clear HW12 f5 f6 O11 B11
        refine (word_any _ _ _ _ _ O12.out.row (by omega) (wf_set WN.out k v20 v21)).mono ?_; rintro e w13 ⟨rfl, b13⟩
        have B13 := B12.trans (b13.mono B12.size)
        have MY : Hid ((strOfNums (wordL (ns.set k v2))).size ≤ maxLen) := by show _ ≤ _; rw [size_W, List.length_set]; have := O12.out.1; rw [List.length_set] at this; unfold maxLen; omega
        clear B12 b13 O12
        go_wp2_with fail
        refine (holds_ _ 1 1 [strOfNums (wordL (ns.set k v2))] _ (rowS1 (by simp) (by simp) MY.out)).mono ?_; rintro e w14 ⟨rfl, b14⟩
        rw [FIN2.out]
        have B14 : Below w.heap.size w w14 := (B13.alloc B13.size _).trans (b14.mono (by simp; have := B13.size; omega))
        clear B13 b14
        go_wp2_with fail
        refine (summed_ _).mono ?_; rintro e w15 ⟨rfl, b15⟩
        have B15 := B14.trans (b15.mono B14.size)
        clear B14 b15
        go_wp2
        go_ret
        exact ⟨rfl, B15⟩
end Go.Proofs.YtdddgbpiabimbaaDoor.SumsHold
