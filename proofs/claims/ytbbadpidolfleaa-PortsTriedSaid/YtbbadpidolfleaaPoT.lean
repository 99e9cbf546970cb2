/- The document's ports (layer 16): Tried. Written by gen_pot.py. -/
import Derived.Test.YtbbadpidolfleaaPoD
import Derived.Test.YtbbadpidolfleaaPzT
namespace Go.Proofs.Ytbbadpidolfleaa
set_option linter.unusedVariables false
set_option maxRecDepth 100000
set_option linter.unusedSimpArgs false
open Go.ChangeShapes Go.WideShapes Go.ChangeAt Go.RowKit Go.PlainAid
attribute [local go_sem ↓] Go.wp_at_zero Go.wp_at_succ
/-- Ports, as a row. -/
def eltU : Elt Int where
  enc x := [.int .u16 x]
  d := 0
  k := 1
  bytes := 2
  T := 32
  TS := 49
  pos := by decide
  len _ := rfl
  one x u hu := by rw [List.mem_singleton.1 hu]; rfl
  und := Try.underlying49
  el := by kernel_rfl
  inf := by
    have h : (Try.prog.info? 32).map (fun i => (i.zero, i.size, i.bytes)) = some (some (.int .u16 0), 1, 2) := by kernel_rfl
    cases hq : Try.prog.info? 32 with
    | none => rw [hq] at h; simp at h
    | some i0 =>
      rw [hq] at h
      simp only [Option.map_some, Option.some.injEq, Prod.mk.injEq] at h
      exact ⟨i0, _, rfl, h.1, h.2.1, h.2.2, rfl⟩
  sz w := Try.sizeOf32 w
/-- What Tried has in memory. -/
structure TrI (w wr : World) (v : Wi) (l : Value) (pre : List Int) : Prop where
  own : eltU.Own wr (w.heap.size + 1) l pre
  box : WiB wr w.heap.size v
  below : Below w.heap.size w wr
theorem TrI.on {w wr w' : World} {v : Wi} {l : Value} {pre : List Int} (h : TrI w wr v l pre) (hb : Below wr.heap.size wr w') : TrI w w' v l pre := ⟨h.own.on hb, h.box.on hb, h.below.trans (hb.mono h.below.size)⟩
theorem TrI.more {w wr : World} {v : Wi} {l : Value} {pre : List Int} (h : TrI w wr v l pre) (k : Int) (hl : pre.length ≤ 200000) : ∃ l' w', (Builtin.append_ #[49, 49] 49 #[l, .slice (some ⟨wr.heap.size, 0, none⟩) 1 1]).run Try.prog (wr.alloc (.cells #[.int .u16 k] 32)) = .ok l' w' ∧ TrI w w' v l' (pre ++ [k]) := by
  obtain ⟨l', w', hrun, hown, hgrow, _⟩ := (h.own.alloc (.cells #[.int .u16 k] 32)).append 49 (Elt.Sl.box (E := eltU) wr k 32 #[.int .u16 k] rfl)
    (by show (pre.length + 1) * 2 ≤ _; omega) (by show pre.length + 1 ≤ 9223372036854775807; omega) (by have := h.box.lt; simp; omega)
  have sz := hgrow.size
  simp only [World.size_alloc] at sz
  have nb : ∀ k, l.ownBlock = some k → w.heap.size + 1 ≤ k := fun k e => (h.own.lt k e).1
  refine ⟨l', w', hrun, hown, h.box.keep (by omega) ?_, (h.below.alloc h.below.size _).grown hgrow (by simp; have := h.below.size; omega) (fun k e => by have := nb k e; omega)⟩
  rw [hgrow.block _ (by have := h.box.lt; simp; omega) (fun e => by have := nb _ e.symm; omega)]
  exact Below.heap_alloc _ _ _ h.box.lt
namespace Wi
theorem pre_len {w : Wi} (h : (w.many : Int) ≤ 65536) (i j : Nat) : (w.own ++ ((w.round.take i).filter w.even ++ w.round.take j)).length ≤ 200000 := by
  have h1 : w.own.length ≤ 1 := by unfold own; split <;> simp
  have h2 : w.round.length = w.many := by unfold round; simp
  have h3 := List.length_filter_le w.even (w.round.take i)
  rw [List.length_take] at h3
  rw [List.length_append, List.length_append, List.length_take]
  omega
theorem take_yes {w : Wi} {i : Nat} (hi : i < w.many) (h : w.even (w.nth i) = true) : (w.own ++ ((w.round.take i).filter w.even ++ w.round.take 0)) ++ [w.nth i] = w.own ++ ((w.round.take (i + 1)).filter w.even ++ w.round.take 0) := by
  rw [← round_take hi, List.filter_append, List.filter_cons, if_pos h]
  simp
theorem take_no {w : Wi} {i : Nat} (hi : i < w.many) (h : w.even (w.nth i) = false) : w.own ++ ((w.round.take i).filter w.even ++ w.round.take 0) = w.own ++ ((w.round.take (i + 1)).filter w.even ++ w.round.take 0) := by
  rw [← round_take hi, List.filter_append, List.filter_cons, if_neg (by rw [h]; decide)]
  simp
theorem take_two {w : Wi} {i : Nat} (hi : i < w.many) : (w.own ++ ((w.round.take w.many).filter w.even ++ w.round.take i)) ++ [w.nth i] = w.own ++ ((w.round.take w.many).filter w.even ++ w.round.take (i + 1)) := by
  rw [← round_take hi]
  simp
def lay0 (w : Wi) (j : Nat) : List Int := w.own ++ ((w.round.take j).filter w.even ++ w.round.take 0)
def lay1 (w : Wi) (j : Nat) : List Int := w.own ++ ((w.round.take w.many).filter w.even ++ w.round.take j)
/-- What has been laid behind so many turns. -/
def turned (w : Wi) : Nat → List Int
  | 0 => w.lay0 0
  | 1 => w.lay1 0
  | _ + 2 => w.lay1 w.many
theorem take_all {w : Wi} : w.own ++ ((w.round.take w.many).filter w.even ++ w.round.take w.many) = w.tried := by rw [round_all]; rfl
/-- The numbers of the document's way. -/
theorem dfacts {w : Wi} (hw : WOk w) (h : w.may) {i : Nat} (hi : i < w.many) : wrap64 (w.first + (i : Int)) = w.first + (i : Int) ∧ (w.to < w.first + (i : Int) → wrap64 (w.first + (i : Int) - (w.many : Int)) = w.nth i ∧ w.first + (i : Int) - (w.many : Int) = w.nth i) ∧ (¬ w.to < w.first + (i : Int) → w.first + (i : Int) = w.nth i) ∧ (w.nth i).tmod 2 = w.nth i % 2 ∧ w.ip.tmod 2 = w.ip % 2 ∧ IntKind.u16.wrap (w.nth i) = w.nth i ∧ wrap64 (w.nth i) = w.nth i := by
  obtain ⟨h0, h3⟩ := many_pos h
  have hf := first_in h hw.dr0
  have hn := nth_in h hw.dr0 hi
  have b1 := hw.to1
  have b2 := hw.fr0
  have b3 := h.1
  have b4 := hw.ip0
  refine ⟨by rw [IntWalk.wrap64_in _ (by omega)], fun hc => ?_, fun hc => by unfold nth; rw [if_neg (by omega)], Int.tmod_eq_emod_of_nonneg (by omega), Int.tmod_eq_emod_of_nonneg b4, by rw [IntKind.wrap_u16]; omega, by rw [IntWalk.wrap64_in _ (by omega)]⟩
  have e : w.first + (i : Int) - (w.many : Int) = w.nth i := by unfold nth; rw [if_pos (by omega)]
  exact ⟨by rw [e, IntWalk.wrap64_in _ (by omega)], e⟩
theorem ffacts {w : Wi} (hw : WOk w) (h : w.may) : wrap64 w.dr = w.dr ∧ w.dr.tmod (w.many : Int) = w.dr % (w.many : Int) ∧ wrap64 (w.dr % (w.many : Int)) = w.dr % (w.many : Int) ∧ wrap64 (w.fr + w.dr % (w.many : Int)) = w.first ∧ w.fr + w.dr % (w.many : Int) = w.first ∧ wrap64 w.ip = w.ip ∧ wrap64 w.first = w.first := by
  have hf := first_in h hw.dr0
  have b1 := hw.dr1
  have b2 := hw.dr0
  have b3 := hw.to1
  have b4 := h.1
  have b5 := hw.ip0
  have b6 := hw.ip1
  have h1 := Int.emod_nonneg w.dr (b := (w.many : Int)) (by have := (many_pos h).1; omega)
  have h2 := Int.emod_lt_of_pos w.dr (b := (w.many : Int)) (by have := (many_pos h).1; omega)
  have h3 := (many_pos h).2
  have e : w.fr + w.dr % (w.many : Int) = w.first := rfl
  exact ⟨by rw [IntWalk.wrap64_in _ (by omega)], Int.tmod_eq_emod_of_nonneg b2, by rw [IntWalk.wrap64_in _ (by omega)], by rw [e, IntWalk.wrap64_in _ (by omega)], e, by rw [IntWalk.wrap64_in _ (by omega)], by rw [IntWalk.wrap64_in _ (by omega)]⟩
end Wi
set_option maxHeartbeats 4000000 in
theorem rtried16_ (v : Wi) (hv : WOk v) (hm : v.may) (w : World) : Calls Try.prog 20 #[.agg #[.int .u8 v.pr, .int .u32 v.ii, .int .u16 v.ip, .int .u32 v.oi, .int .u16 v.fr, .int .u16 v.to, .int .u16 v.dr]] w fun e w' => ∃ l, e = .returned l ∧ eltU.Own w' w.heap.size l v.tried ∧ Below w.heap.size w w' := by
  obtain ⟨⟨e1, e2, e3, e4⟩, dr, m0, m1⟩ := Wi.wraps hv hm
  obtain ⟨f1, f2, f3, f4, f5, f6, f7⟩ := Wi.ffacts hv hm
  have HV := Lib.hid hv
  have HM := Lib.hid hm
  have MM := Lib.hid (And.intro m0 m1)
  have nz : ¬ v.many = 0 := Nat.ne_of_gt m0
  have A1 := WiB.made w v 51
  have B1 : Below w.heap.size w (w.alloc (.cells #[.int .u8 v.pr, .int .u32 v.ii, .int .u16 v.ip, .int .u32 v.oi, .int .u16 v.fr, .int .u16 v.to, .int .u16 v.dr] 51)) := (Below.refl _ _).alloc (Nat.le_refl _) _
  have T1 : TrI w (w.alloc (.cells #[.int .u8 v.pr, .int .u32 v.ii, .int .u16 v.ip, .int .u32 v.oi, .int .u16 v.fr, .int .u16 v.to, .int .u16 v.dr] 51)) v (.slice none 0 0) [] := ⟨Elt.Own.nil _ _, A1, B1⟩
  clear hv hm m0 m1 dr B1 A1
  go_enter Try.func20, Try.ntmps20
  go_upto_region 2 with fail
  generalize w.alloc (.cells #[.int .u8 v.pr, .int .u32 v.ii, .int .u16 v.ip, .int .u32 v.oi, .int .u16 v.fr, .int .u16 v.to, .int .u16 v.dr] 51) = w1 at T1 ⊢
  obtain ⟨_, a0, a1, a2, a3, a4, a5, a6⟩ := id T1.box
  have H1 := Lib.hid T1
  clear T1
  cases hq : v.hasB v.ip with
  | true =>
    have q1 := (v.hasB_iff _).1 hq
    have t1 : decide (v.fr ≤ v.ip) = true := decide_eq_true q1.1
    have t2 : decide (v.ip ≤ v.to) = true := decide_eq_true q1.2
    obtain ⟨l2, w2, hrun, T2⟩ := H1.out.more v.ip (by simp)
    have RUN := Lib.hid hrun
    have P : Hid (TrI w w2 v l2 (v.own ++ ((v.round.take 0).filter v.even ++ v.round.take 0))) := by show TrI _ _ _ _ _; rw [Wi.own_yes hq]; simpa using T2
    clear hrun T2 hq q1
    go_upto_region 4 with (at_builtin; refine Lib.wpList_append_run _ rfl _ _ 49 49 rfl _ _ rfl rfl _ _ RUN.out ?_)
    clear a0 a1 a2 a3 a4 a5 a6 t1 t2 H1 RUN
    obtain ⟨_, a0, a1, a2, a3, a4, a5, a6⟩ := id P.out.box
    go_upto_region 5 with fail
    have F4 : ∀ q : Later w2.heap.size w2, q.u.cell? ⟨w.heap.size, 4, none⟩ = some (.int .u16 v.fr) := fun q => q.block P.out.box.lt P.out.box.c4
    have F6 : ∀ q : Later w2.heap.size w2, q.u.cell? ⟨w.heap.size, 6, none⟩ = some (.int .u16 v.dr) := fun q => q.block P.out.box.lt P.out.box.c6
    rw [e4]
    refine region_later (B := w2.heap.size) (by kernel_rfl) (by kernel_rfl) ?_
    repeat (go_big_quiet_step (fail))
    refine later_end fun w3 x3 => ?_
    have P3 := Lib.hid (P.out.on x3)
    clear F4 F6 P x3 a0 a1 a2 a3 a4 a5 a6 
    go_upto_region 7 with fail
    simp only [e1, e2, e3, f1, f7]
    go_loopw [3, 6, 7, 8] (fun a s _ _ wr => ∃ t : Int, (t = 0 ∨ t = 1 ∨ t = 2) ∧ s = .int .i64 t ∧ Hid (TrI w wr v a (v.turned t.toNat))) (fun _ s _ _ _ => 2 - (intOf s).toNat)
    case atStart => exact ⟨0, .inl rfl, rfl, P3⟩
    case round =>
      clear P3
      obtain ⟨t, ht, rfl, HT⟩ := hrel
      obtain rfl | rfl | rfl := ht
      · skip
        go_upto_region 10 with fail
        go_loopw [3, 7, 8] (fun a s _ wx => ∃ j : Nat, j ≤ v.many ∧ s = .int .i64 (j : Int) ∧ Hid (TrI w wx v a (v.lay0 j))) (fun _ s _ _ => v.many - (intOf s).toNat)
        case atStart => exact ⟨0, Nat.zero_le _, rfl, HT⟩
        case round =>
          clear HT
          obtain ⟨j, hj, rfl, HQ⟩ := hrel
          by_cases hlt : j < v.many
          · have g0 : decide ((j : Int) < (v.many : Int)) = true := by simpa using hlt
            have EW := Lib.hid (up_many hlt MM.out.2)
            obtain ⟨h1, h2, h3, h4, h5, h6, h7⟩ := Wi.dfacts HV.out HM.out hlt
            obtain ⟨_, a0, a1, a2, a3, a4, a5, a6⟩ := id HQ.out.box
            have HL := Lib.hid hlt
            clear hj
            by_cases hc : v.to < v.first + (j : Int)
            · have h8 := (h2 hc).1
              obtain ⟨m, hm⟩ : ∃ m, m = v.first + (j : Int) := ⟨_, rfl⟩
              rw [← hm] at h8
              replace h1 := h1.trans hm.symm
              have g1 : decide (v.to < m) = true := decide_eq_true (hm ▸ hc)
              clear h2 h3 hc hm hlt
              cases hx : v.even (v.nth j) with
              | true =>
                have g2 : (v.nth j % 2 == v.ip % 2) = true := hx
                obtain ⟨l5, w5, hrun, T5⟩ := HQ.out.more (v.nth j) (Wi.pre_len MM.out.2 _ _)
                have RUN := Lib.hid hrun
                have FIN : Hid (TrI w w5 v l5 (v.lay0 (j + 1))) := by show TrI _ _ _ _ _; rw [show v.lay0 (j + 1) = _ from (Wi.take_yes HL.out hx).symm]; exact T5
                clear hrun T5 HQ hx
                go_wp2_with (at_builtin; refine Lib.wpList_append_run _ rfl _ _ 49 49 rfl _ _ rfl rfl _ _ RUN.out ?_)
                go_wp2
                go_roundw
                case rel => first | exact ⟨j + 1, HL.out, by simp [EW.out], FIN⟩ | ((repeat apply Exists.intro); refine ⟨⟨j + 1, HL.out, ?_, FIN⟩, rfl⟩; simp [EW.out])
                case measure => first | exact meas_up EW.out HL.out | (simp [EW.out]; exact step_less16 HL.out) | exact step_less16 HL.out
              | false =>
                have g2 : (v.nth j % 2 == v.ip % 2) = false := hx
                have FIN := HQ.out
                rw [show v.lay0 j = v.lay0 (j + 1) from Wi.take_no HL.out hx] at FIN
                replace FIN := Lib.hid FIN
                clear HQ hx
                go_wp2
                go_roundw
                case rel => first | exact ⟨j + 1, HL.out, by simp [EW.out], FIN⟩ | ((repeat apply Exists.intro); refine ⟨⟨j + 1, HL.out, ?_, FIN⟩, rfl⟩; simp [EW.out])
                case measure => first | exact meas_up EW.out HL.out | (simp [EW.out]; exact step_less16 HL.out) | exact step_less16 HL.out
            · replace h1 := h1.trans (h3 hc)
              have g1 : decide (v.to < v.nth j) = false := decide_eq_false (h3 hc ▸ hc)
              clear h2 h3 hc hlt
              cases hx : v.even (v.nth j) with
              | true =>
                have g2 : (v.nth j % 2 == v.ip % 2) = true := hx
                obtain ⟨l5, w5, hrun, T5⟩ := HQ.out.more (v.nth j) (Wi.pre_len MM.out.2 _ _)
                have RUN := Lib.hid hrun
                have FIN : Hid (TrI w w5 v l5 (v.lay0 (j + 1))) := by show TrI _ _ _ _ _; rw [show v.lay0 (j + 1) = _ from (Wi.take_yes HL.out hx).symm]; exact T5
                clear hrun T5 HQ hx
                go_wp2_with (at_builtin; refine Lib.wpList_append_run _ rfl _ _ 49 49 rfl _ _ rfl rfl _ _ RUN.out ?_)
                go_wp2
                go_roundw
                case rel => first | exact ⟨j + 1, HL.out, by simp [EW.out], FIN⟩ | ((repeat apply Exists.intro); refine ⟨⟨j + 1, HL.out, ?_, FIN⟩, rfl⟩; simp [EW.out])
                case measure => first | exact meas_up EW.out HL.out | (simp [EW.out]; exact step_less16 HL.out) | exact step_less16 HL.out
              | false =>
                have g2 : (v.nth j % 2 == v.ip % 2) = false := hx
                have FIN := HQ.out
                rw [show v.lay0 j = v.lay0 (j + 1) from Wi.take_no HL.out hx] at FIN
                replace FIN := Lib.hid FIN
                clear HQ hx
                go_wp2
                go_roundw
                case rel => first | exact ⟨j + 1, HL.out, by simp [EW.out], FIN⟩ | ((repeat apply Exists.intro); refine ⟨⟨j + 1, HL.out, ?_, FIN⟩, rfl⟩; simp [EW.out])
                case measure => first | exact meas_up EW.out HL.out | (simp [EW.out]; exact step_less16 HL.out) | exact step_less16 HL.out
          · obtain rfl : j = v.many := Nat.le_antisymm hj (Nat.le_of_not_lt hlt)
            have g0 : decide ((v.many : Int) < (v.many : Int)) = false := by simp
            clear hlt hj
            go_wp2
            go_roundw
            case rel => exact ⟨1, .inr (.inl rfl), by first | rfl | simp, HQ⟩
            case measure => first | decide | simp [intOf]
      · skip
        go_upto_region 10 with fail
        go_loopw [3, 7, 8] (fun a s _ wx => ∃ j : Nat, j ≤ v.many ∧ s = .int .i64 (j : Int) ∧ Hid (TrI w wx v a (v.lay1 j))) (fun _ s _ _ => v.many - (intOf s).toNat)
        case atStart => exact ⟨0, Nat.zero_le _, rfl, HT⟩
        case round =>
          clear HT
          obtain ⟨j, hj, rfl, HQ⟩ := hrel
          by_cases hlt : j < v.many
          · have g0 : decide ((j : Int) < (v.many : Int)) = true := by simpa using hlt
            have EW := Lib.hid (up_many hlt MM.out.2)
            obtain ⟨h1, h2, h3, h4, h5, h6, h7⟩ := Wi.dfacts HV.out HM.out hlt
            obtain ⟨_, a0, a1, a2, a3, a4, a5, a6⟩ := id HQ.out.box
            have HL := Lib.hid hlt
            clear hj
            by_cases hc : v.to < v.first + (j : Int)
            · have h8 := (h2 hc).1
              obtain ⟨m, hm⟩ : ∃ m, m = v.first + (j : Int) := ⟨_, rfl⟩
              rw [← hm] at h8
              replace h1 := h1.trans hm.symm
              have g1 : decide (v.to < m) = true := decide_eq_true (hm ▸ hc)
              clear h2 h3 hc hm hlt
              obtain ⟨l5, w5, hrun, T5⟩ := HQ.out.more (v.nth j) (Wi.pre_len MM.out.2 _ _)
              have RUN := Lib.hid hrun
              have FIN : Hid (TrI w w5 v l5 (v.lay1 (j + 1))) := by show TrI _ _ _ _ _; rw [show v.lay1 (j + 1) = _ from (Wi.take_two HL.out).symm]; exact T5
              clear hrun T5 HQ
              go_wp2_with (at_builtin; refine Lib.wpList_append_run _ rfl _ _ 49 49 rfl _ _ rfl rfl _ _ RUN.out ?_)
              go_wp2
              go_roundw
              case rel => first | exact ⟨j + 1, HL.out, by simp [EW.out], FIN⟩ | ((repeat apply Exists.intro); refine ⟨⟨j + 1, HL.out, ?_, FIN⟩, rfl⟩; simp [EW.out])
              case measure => first | exact meas_up EW.out HL.out | (simp [EW.out]; exact step_less16 HL.out) | exact step_less16 HL.out
            · replace h1 := h1.trans (h3 hc)
              have g1 : decide (v.to < v.nth j) = false := decide_eq_false (h3 hc ▸ hc)
              clear h2 h3 hc hlt
              obtain ⟨l5, w5, hrun, T5⟩ := HQ.out.more (v.nth j) (Wi.pre_len MM.out.2 _ _)
              have RUN := Lib.hid hrun
              have FIN : Hid (TrI w w5 v l5 (v.lay1 (j + 1))) := by show TrI _ _ _ _ _; rw [show v.lay1 (j + 1) = _ from (Wi.take_two HL.out).symm]; exact T5
              clear hrun T5 HQ
              go_wp2_with (at_builtin; refine Lib.wpList_append_run _ rfl _ _ 49 49 rfl _ _ rfl rfl _ _ RUN.out ?_)
              go_wp2
              go_roundw
              case rel => first | exact ⟨j + 1, HL.out, by simp [EW.out], FIN⟩ | ((repeat apply Exists.intro); refine ⟨⟨j + 1, HL.out, ?_, FIN⟩, rfl⟩; simp [EW.out])
              case measure => first | exact meas_up EW.out HL.out | (simp [EW.out]; exact step_less16 HL.out) | exact step_less16 HL.out
          · obtain rfl : j = v.many := Nat.le_antisymm hj (Nat.le_of_not_lt hlt)
            have g0 : decide ((v.many : Int) < (v.many : Int)) = false := by simp
            clear hlt hj
            go_wp2
            go_roundw
            case rel => exact ⟨2, .inr (.inr rfl), by first | rfl | simp, HQ⟩
            case measure => first | decide | simp [intOf]
      · clear e1 e2 e3 e4 f1 f2 f3 f4 f5 nz
        go_wp2
        go_ret
        refine ⟨_, rfl, ?_, HT.out.below⟩
        have ho := HT.out.own
        rw [show v.turned (2 : Int).toNat = v.tried from Wi.take_all] at ho
        exact ho.down (Nat.le_succ _)
  | false =>
    have P : Hid (TrI w w1 v (.slice none 0 0) (v.own ++ ((v.round.take 0).filter v.even ++ v.round.take 0))) := by show TrI _ _ _ _ _; rw [Wi.own_no hq]; simpa using H1.out
    have hn : v.fr ≤ v.ip → ¬ v.ip ≤ v.to := fun h1 h2 => by rw [(v.hasB_iff _).2 ⟨h1, h2⟩] at hq; cases hq
    clear hq
    by_cases t0 : v.fr ≤ v.ip
    · have t1 : decide (v.fr ≤ v.ip) = true := decide_eq_true t0
      have t2 : decide (v.ip ≤ v.to) = false := decide_eq_false (hn t0)
      clear hn t0
      go_upto_region 4 with fail
      clear t1 t2 H1
      go_upto_region 5 with fail
      have F4 : ∀ q : Later w1.heap.size w1, q.u.cell? ⟨w.heap.size, 4, none⟩ = some (.int .u16 v.fr) := fun q => q.block P.out.box.lt P.out.box.c4
      have F6 : ∀ q : Later w1.heap.size w1, q.u.cell? ⟨w.heap.size, 6, none⟩ = some (.int .u16 v.dr) := fun q => q.block P.out.box.lt P.out.box.c6
      rw [e4]
      refine region_later (B := w1.heap.size) (by kernel_rfl) (by kernel_rfl) ?_
      repeat (go_big_quiet_step (fail))
      refine later_end fun w3 x3 => ?_
      have P3 := Lib.hid (P.out.on x3)
      clear F4 F6 P x3 a0 a1 a2 a3 a4 a5 a6 
      go_upto_region 7 with fail
      simp only [e1, e2, e3, f1, f7]
      go_loopw [3, 6, 7, 8] (fun a s _ _ wr => ∃ t : Int, (t = 0 ∨ t = 1 ∨ t = 2) ∧ s = .int .i64 t ∧ Hid (TrI w wr v a (v.turned t.toNat))) (fun _ s _ _ _ => 2 - (intOf s).toNat)
      case atStart => exact ⟨0, .inl rfl, rfl, P3⟩
      case round =>
        clear P3
        obtain ⟨t, ht, rfl, HT⟩ := hrel
        obtain rfl | rfl | rfl := ht
        · skip
          go_upto_region 10 with fail
          go_loopw [3, 7, 8] (fun a s _ wx => ∃ j : Nat, j ≤ v.many ∧ s = .int .i64 (j : Int) ∧ Hid (TrI w wx v a (v.lay0 j))) (fun _ s _ _ => v.many - (intOf s).toNat)
          case atStart => exact ⟨0, Nat.zero_le _, rfl, HT⟩
          case round =>
            clear HT
            obtain ⟨j, hj, rfl, HQ⟩ := hrel
            by_cases hlt : j < v.many
            · have g0 : decide ((j : Int) < (v.many : Int)) = true := by simpa using hlt
              have EW := Lib.hid (up_many hlt MM.out.2)
              obtain ⟨h1, h2, h3, h4, h5, h6, h7⟩ := Wi.dfacts HV.out HM.out hlt
              obtain ⟨_, a0, a1, a2, a3, a4, a5, a6⟩ := id HQ.out.box
              have HL := Lib.hid hlt
              clear hj
              by_cases hc : v.to < v.first + (j : Int)
              · have h8 := (h2 hc).1
                obtain ⟨m, hm⟩ : ∃ m, m = v.first + (j : Int) := ⟨_, rfl⟩
                rw [← hm] at h8
                replace h1 := h1.trans hm.symm
                have g1 : decide (v.to < m) = true := decide_eq_true (hm ▸ hc)
                clear h2 h3 hc hm hlt
                cases hx : v.even (v.nth j) with
                | true =>
                  have g2 : (v.nth j % 2 == v.ip % 2) = true := hx
                  obtain ⟨l5, w5, hrun, T5⟩ := HQ.out.more (v.nth j) (Wi.pre_len MM.out.2 _ _)
                  have RUN := Lib.hid hrun
                  have FIN : Hid (TrI w w5 v l5 (v.lay0 (j + 1))) := by show TrI _ _ _ _ _; rw [show v.lay0 (j + 1) = _ from (Wi.take_yes HL.out hx).symm]; exact T5
                  clear hrun T5 HQ hx
                  go_wp2_with (at_builtin; refine Lib.wpList_append_run _ rfl _ _ 49 49 rfl _ _ rfl rfl _ _ RUN.out ?_)
                  go_wp2
                  go_roundw
                  case rel => first | exact ⟨j + 1, HL.out, by simp [EW.out], FIN⟩ | ((repeat apply Exists.intro); refine ⟨⟨j + 1, HL.out, ?_, FIN⟩, rfl⟩; simp [EW.out])
                  case measure => first | exact meas_up EW.out HL.out | (simp [EW.out]; exact step_less16 HL.out) | exact step_less16 HL.out
                | false =>
                  have g2 : (v.nth j % 2 == v.ip % 2) = false := hx
                  have FIN := HQ.out
                  rw [show v.lay0 j = v.lay0 (j + 1) from Wi.take_no HL.out hx] at FIN
                  replace FIN := Lib.hid FIN
                  clear HQ hx
                  go_wp2
                  go_roundw
                  case rel => first | exact ⟨j + 1, HL.out, by simp [EW.out], FIN⟩ | ((repeat apply Exists.intro); refine ⟨⟨j + 1, HL.out, ?_, FIN⟩, rfl⟩; simp [EW.out])
                  case measure => first | exact meas_up EW.out HL.out | (simp [EW.out]; exact step_less16 HL.out) | exact step_less16 HL.out
              · replace h1 := h1.trans (h3 hc)
                have g1 : decide (v.to < v.nth j) = false := decide_eq_false (h3 hc ▸ hc)
                clear h2 h3 hc hlt
                cases hx : v.even (v.nth j) with
                | true =>
                  have g2 : (v.nth j % 2 == v.ip % 2) = true := hx
                  obtain ⟨l5, w5, hrun, T5⟩ := HQ.out.more (v.nth j) (Wi.pre_len MM.out.2 _ _)
                  have RUN := Lib.hid hrun
                  have FIN : Hid (TrI w w5 v l5 (v.lay0 (j + 1))) := by show TrI _ _ _ _ _; rw [show v.lay0 (j + 1) = _ from (Wi.take_yes HL.out hx).symm]; exact T5
                  clear hrun T5 HQ hx
                  go_wp2_with (at_builtin; refine Lib.wpList_append_run _ rfl _ _ 49 49 rfl _ _ rfl rfl _ _ RUN.out ?_)
                  go_wp2
                  go_roundw
                  case rel => first | exact ⟨j + 1, HL.out, by simp [EW.out], FIN⟩ | ((repeat apply Exists.intro); refine ⟨⟨j + 1, HL.out, ?_, FIN⟩, rfl⟩; simp [EW.out])
                  case measure => first | exact meas_up EW.out HL.out | (simp [EW.out]; exact step_less16 HL.out) | exact step_less16 HL.out
                | false =>
                  have g2 : (v.nth j % 2 == v.ip % 2) = false := hx
                  have FIN := HQ.out
                  rw [show v.lay0 j = v.lay0 (j + 1) from Wi.take_no HL.out hx] at FIN
                  replace FIN := Lib.hid FIN
                  clear HQ hx
                  go_wp2
                  go_roundw
                  case rel => first | exact ⟨j + 1, HL.out, by simp [EW.out], FIN⟩ | ((repeat apply Exists.intro); refine ⟨⟨j + 1, HL.out, ?_, FIN⟩, rfl⟩; simp [EW.out])
                  case measure => first | exact meas_up EW.out HL.out | (simp [EW.out]; exact step_less16 HL.out) | exact step_less16 HL.out
            · obtain rfl : j = v.many := Nat.le_antisymm hj (Nat.le_of_not_lt hlt)
              have g0 : decide ((v.many : Int) < (v.many : Int)) = false := by simp
              clear hlt hj
              go_wp2
              go_roundw
              case rel => exact ⟨1, .inr (.inl rfl), by first | rfl | simp, HQ⟩
              case measure => first | decide | simp [intOf]
        · skip
          go_upto_region 10 with fail
          go_loopw [3, 7, 8] (fun a s _ wx => ∃ j : Nat, j ≤ v.many ∧ s = .int .i64 (j : Int) ∧ Hid (TrI w wx v a (v.lay1 j))) (fun _ s _ _ => v.many - (intOf s).toNat)
          case atStart => exact ⟨0, Nat.zero_le _, rfl, HT⟩
          case round =>
            clear HT
            obtain ⟨j, hj, rfl, HQ⟩ := hrel
            by_cases hlt : j < v.many
            · have g0 : decide ((j : Int) < (v.many : Int)) = true := by simpa using hlt
              have EW := Lib.hid (up_many hlt MM.out.2)
              obtain ⟨h1, h2, h3, h4, h5, h6, h7⟩ := Wi.dfacts HV.out HM.out hlt
              obtain ⟨_, a0, a1, a2, a3, a4, a5, a6⟩ := id HQ.out.box
              have HL := Lib.hid hlt
              clear hj
              by_cases hc : v.to < v.first + (j : Int)
              · have h8 := (h2 hc).1
                obtain ⟨m, hm⟩ : ∃ m, m = v.first + (j : Int) := ⟨_, rfl⟩
                rw [← hm] at h8
                replace h1 := h1.trans hm.symm
                have g1 : decide (v.to < m) = true := decide_eq_true (hm ▸ hc)
                clear h2 h3 hc hm hlt
                obtain ⟨l5, w5, hrun, T5⟩ := HQ.out.more (v.nth j) (Wi.pre_len MM.out.2 _ _)
                have RUN := Lib.hid hrun
                have FIN : Hid (TrI w w5 v l5 (v.lay1 (j + 1))) := by show TrI _ _ _ _ _; rw [show v.lay1 (j + 1) = _ from (Wi.take_two HL.out).symm]; exact T5
                clear hrun T5 HQ
                go_wp2_with (at_builtin; refine Lib.wpList_append_run _ rfl _ _ 49 49 rfl _ _ rfl rfl _ _ RUN.out ?_)
                go_wp2
                go_roundw
                case rel => first | exact ⟨j + 1, HL.out, by simp [EW.out], FIN⟩ | ((repeat apply Exists.intro); refine ⟨⟨j + 1, HL.out, ?_, FIN⟩, rfl⟩; simp [EW.out])
                case measure => first | exact meas_up EW.out HL.out | (simp [EW.out]; exact step_less16 HL.out) | exact step_less16 HL.out
              · replace h1 := h1.trans (h3 hc)
                have g1 : decide (v.to < v.nth j) = false := decide_eq_false (h3 hc ▸ hc)
                clear h2 h3 hc hlt
                obtain ⟨l5, w5, hrun, T5⟩ := HQ.out.more (v.nth j) (Wi.pre_len MM.out.2 _ _)
                have RUN := Lib.hid hrun
                have FIN : Hid (TrI w w5 v l5 (v.lay1 (j + 1))) := by show TrI _ _ _ _ _; rw [show v.lay1 (j + 1) = _ from (Wi.take_two HL.out).symm]; exact T5
                clear hrun T5 HQ
                go_wp2_with (at_builtin; refine Lib.wpList_append_run _ rfl _ _ 49 49 rfl _ _ rfl rfl _ _ RUN.out ?_)
                go_wp2
                go_roundw
                case rel => first | exact ⟨j + 1, HL.out, by simp [EW.out], FIN⟩ | ((repeat apply Exists.intro); refine ⟨⟨j + 1, HL.out, ?_, FIN⟩, rfl⟩; simp [EW.out])
                case measure => first | exact meas_up EW.out HL.out | (simp [EW.out]; exact step_less16 HL.out) | exact step_less16 HL.out
            · obtain rfl : j = v.many := Nat.le_antisymm hj (Nat.le_of_not_lt hlt)
              have g0 : decide ((v.many : Int) < (v.many : Int)) = false := by simp
              clear hlt hj
              go_wp2
              go_roundw
              case rel => exact ⟨2, .inr (.inr rfl), by first | rfl | simp, HQ⟩
              case measure => first | decide | simp [intOf]
        · clear e1 e2 e3 e4 f1 f2 f3 f4 f5 nz
          go_wp2
          go_ret
          refine ⟨_, rfl, ?_, HT.out.below⟩
          have ho := HT.out.own
          rw [show v.turned (2 : Int).toNat = v.tried from Wi.take_all] at ho
          exact ho.down (Nat.le_succ _)
    · have t1 : decide (v.fr ≤ v.ip) = false := decide_eq_false t0
      clear hn t0
      go_upto_region 4 with fail
      clear t1 H1
      go_upto_region 5 with fail
      have F4 : ∀ q : Later w1.heap.size w1, q.u.cell? ⟨w.heap.size, 4, none⟩ = some (.int .u16 v.fr) := fun q => q.block P.out.box.lt P.out.box.c4
      have F6 : ∀ q : Later w1.heap.size w1, q.u.cell? ⟨w.heap.size, 6, none⟩ = some (.int .u16 v.dr) := fun q => q.block P.out.box.lt P.out.box.c6
      rw [e4]
      refine region_later (B := w1.heap.size) (by kernel_rfl) (by kernel_rfl) ?_
      repeat (go_big_quiet_step (fail))
      refine later_end fun w3 x3 => ?_
      have P3 := Lib.hid (P.out.on x3)
      clear F4 F6 P x3 a0 a1 a2 a3 a4 a5 a6 
      go_upto_region 7 with fail
      simp only [e1, e2, e3, f1, f7]
      go_loopw [3, 6, 7, 8] (fun a s _ _ wr => ∃ t : Int, (t = 0 ∨ t = 1 ∨ t = 2) ∧ s = .int .i64 t ∧ Hid (TrI w wr v a (v.turned t.toNat))) (fun _ s _ _ _ => 2 - (intOf s).toNat)
      case atStart => exact ⟨0, .inl rfl, rfl, P3⟩
      case round =>
        clear P3
        obtain ⟨t, ht, rfl, HT⟩ := hrel
        obtain rfl | rfl | rfl := ht
        · skip
          go_upto_region 10 with fail
          go_loopw [3, 7, 8] (fun a s _ wx => ∃ j : Nat, j ≤ v.many ∧ s = .int .i64 (j : Int) ∧ Hid (TrI w wx v a (v.lay0 j))) (fun _ s _ _ => v.many - (intOf s).toNat)
          case atStart => exact ⟨0, Nat.zero_le _, rfl, HT⟩
          case round =>
            clear HT
            obtain ⟨j, hj, rfl, HQ⟩ := hrel
            by_cases hlt : j < v.many
            · have g0 : decide ((j : Int) < (v.many : Int)) = true := by simpa using hlt
              have EW := Lib.hid (up_many hlt MM.out.2)
              obtain ⟨h1, h2, h3, h4, h5, h6, h7⟩ := Wi.dfacts HV.out HM.out hlt
              obtain ⟨_, a0, a1, a2, a3, a4, a5, a6⟩ := id HQ.out.box
              have HL := Lib.hid hlt
              clear hj
              by_cases hc : v.to < v.first + (j : Int)
              · have h8 := (h2 hc).1
                obtain ⟨m, hm⟩ : ∃ m, m = v.first + (j : Int) := ⟨_, rfl⟩
                rw [← hm] at h8
                replace h1 := h1.trans hm.symm
                have g1 : decide (v.to < m) = true := decide_eq_true (hm ▸ hc)
                clear h2 h3 hc hm hlt
                cases hx : v.even (v.nth j) with
                | true =>
                  have g2 : (v.nth j % 2 == v.ip % 2) = true := hx
                  obtain ⟨l5, w5, hrun, T5⟩ := HQ.out.more (v.nth j) (Wi.pre_len MM.out.2 _ _)
                  have RUN := Lib.hid hrun
                  have FIN : Hid (TrI w w5 v l5 (v.lay0 (j + 1))) := by show TrI _ _ _ _ _; rw [show v.lay0 (j + 1) = _ from (Wi.take_yes HL.out hx).symm]; exact T5
                  clear hrun T5 HQ hx
                  go_wp2_with (at_builtin; refine Lib.wpList_append_run _ rfl _ _ 49 49 rfl _ _ rfl rfl _ _ RUN.out ?_)
                  go_wp2
                  go_roundw
                  case rel => first | exact ⟨j + 1, HL.out, by simp [EW.out], FIN⟩ | ((repeat apply Exists.intro); refine ⟨⟨j + 1, HL.out, ?_, FIN⟩, rfl⟩; simp [EW.out])
                  case measure => first | exact meas_up EW.out HL.out | (simp [EW.out]; exact step_less16 HL.out) | exact step_less16 HL.out
                | false =>
                  have g2 : (v.nth j % 2 == v.ip % 2) = false := hx
                  have FIN := HQ.out
                  rw [show v.lay0 j = v.lay0 (j + 1) from Wi.take_no HL.out hx] at FIN
                  replace FIN := Lib.hid FIN
                  clear HQ hx
                  go_wp2
                  go_roundw
                  case rel => first | exact ⟨j + 1, HL.out, by simp [EW.out], FIN⟩ | ((repeat apply Exists.intro); refine ⟨⟨j + 1, HL.out, ?_, FIN⟩, rfl⟩; simp [EW.out])
                  case measure => first | exact meas_up EW.out HL.out | (simp [EW.out]; exact step_less16 HL.out) | exact step_less16 HL.out
              · replace h1 := h1.trans (h3 hc)
                have g1 : decide (v.to < v.nth j) = false := decide_eq_false (h3 hc ▸ hc)
                clear h2 h3 hc hlt
                cases hx : v.even (v.nth j) with
                | true =>
                  have g2 : (v.nth j % 2 == v.ip % 2) = true := hx
                  obtain ⟨l5, w5, hrun, T5⟩ := HQ.out.more (v.nth j) (Wi.pre_len MM.out.2 _ _)
                  have RUN := Lib.hid hrun
                  have FIN : Hid (TrI w w5 v l5 (v.lay0 (j + 1))) := by show TrI _ _ _ _ _; rw [show v.lay0 (j + 1) = _ from (Wi.take_yes HL.out hx).symm]; exact T5
                  clear hrun T5 HQ hx
                  go_wp2_with (at_builtin; refine Lib.wpList_append_run _ rfl _ _ 49 49 rfl _ _ rfl rfl _ _ RUN.out ?_)
                  go_wp2
                  go_roundw
                  case rel => first | exact ⟨j + 1, HL.out, by simp [EW.out], FIN⟩ | ((repeat apply Exists.intro); refine ⟨⟨j + 1, HL.out, ?_, FIN⟩, rfl⟩; simp [EW.out])
                  case measure => first | exact meas_up EW.out HL.out | (simp [EW.out]; exact step_less16 HL.out) | exact step_less16 HL.out
                | false =>
                  have g2 : (v.nth j % 2 == v.ip % 2) = false := hx
                  have FIN := HQ.out
                  rw [show v.lay0 j = v.lay0 (j + 1) from Wi.take_no HL.out hx] at FIN
                  replace FIN := Lib.hid FIN
                  clear HQ hx
                  go_wp2
                  go_roundw
                  case rel => first | exact ⟨j + 1, HL.out, by simp [EW.out], FIN⟩ | ((repeat apply Exists.intro); refine ⟨⟨j + 1, HL.out, ?_, FIN⟩, rfl⟩; simp [EW.out])
                  case measure => first | exact meas_up EW.out HL.out | (simp [EW.out]; exact step_less16 HL.out) | exact step_less16 HL.out
            · obtain rfl : j = v.many := Nat.le_antisymm hj (Nat.le_of_not_lt hlt)
              have g0 : decide ((v.many : Int) < (v.many : Int)) = false := by simp
              clear hlt hj
              go_wp2
              go_roundw
              case rel => exact ⟨1, .inr (.inl rfl), by first | rfl | simp, HQ⟩
              case measure => first | decide | simp [intOf]
        · skip
          go_upto_region 10 with fail
          go_loopw [3, 7, 8] (fun a s _ wx => ∃ j : Nat, j ≤ v.many ∧ s = .int .i64 (j : Int) ∧ Hid (TrI w wx v a (v.lay1 j))) (fun _ s _ _ => v.many - (intOf s).toNat)
          case atStart => exact ⟨0, Nat.zero_le _, rfl, HT⟩
          case round =>
            clear HT
            obtain ⟨j, hj, rfl, HQ⟩ := hrel
            by_cases hlt : j < v.many
            · have g0 : decide ((j : Int) < (v.many : Int)) = true := by simpa using hlt
              have EW := Lib.hid (up_many hlt MM.out.2)
              obtain ⟨h1, h2, h3, h4, h5, h6, h7⟩ := Wi.dfacts HV.out HM.out hlt
              obtain ⟨_, a0, a1, a2, a3, a4, a5, a6⟩ := id HQ.out.box
              have HL := Lib.hid hlt
              clear hj
              by_cases hc : v.to < v.first + (j : Int)
              · have h8 := (h2 hc).1
                obtain ⟨m, hm⟩ : ∃ m, m = v.first + (j : Int) := ⟨_, rfl⟩
                rw [← hm] at h8
                replace h1 := h1.trans hm.symm
                have g1 : decide (v.to < m) = true := decide_eq_true (hm ▸ hc)
                clear h2 h3 hc hm hlt
                obtain ⟨l5, w5, hrun, T5⟩ := HQ.out.more (v.nth j) (Wi.pre_len MM.out.2 _ _)
                have RUN := Lib.hid hrun
                have FIN : Hid (TrI w w5 v l5 (v.lay1 (j + 1))) := by show TrI _ _ _ _ _; rw [show v.lay1 (j + 1) = _ from (Wi.take_two HL.out).symm]; exact T5
                clear hrun T5 HQ
                go_wp2_with (at_builtin; refine Lib.wpList_append_run _ rfl _ _ 49 49 rfl _ _ rfl rfl _ _ RUN.out ?_)
                go_wp2
                go_roundw
                case rel => first | exact ⟨j + 1, HL.out, by simp [EW.out], FIN⟩ | ((repeat apply Exists.intro); refine ⟨⟨j + 1, HL.out, ?_, FIN⟩, rfl⟩; simp [EW.out])
                case measure => first | exact meas_up EW.out HL.out | (simp [EW.out]; exact step_less16 HL.out) | exact step_less16 HL.out
              · replace h1 := h1.trans (h3 hc)
                have g1 : decide (v.to < v.nth j) = false := decide_eq_false (h3 hc ▸ hc)
                clear h2 h3 hc hlt
                obtain ⟨l5, w5, hrun, T5⟩ := HQ.out.more (v.nth j) (Wi.pre_len MM.out.2 _ _)
                have RUN := Lib.hid hrun
                have FIN : Hid (TrI w w5 v l5 (v.lay1 (j + 1))) := by show TrI _ _ _ _ _; rw [show v.lay1 (j + 1) = _ from (Wi.take_two HL.out).symm]; exact T5
                clear hrun T5 HQ
                go_wp2_with (at_builtin; refine Lib.wpList_append_run _ rfl _ _ 49 49 rfl _ _ rfl rfl _ _ RUN.out ?_)
                go_wp2
                go_roundw
                case rel => first | exact ⟨j + 1, HL.out, by simp [EW.out], FIN⟩ | ((repeat apply Exists.intro); refine ⟨⟨j + 1, HL.out, ?_, FIN⟩, rfl⟩; simp [EW.out])
                case measure => first | exact meas_up EW.out HL.out | (simp [EW.out]; exact step_less16 HL.out) | exact step_less16 HL.out
            · obtain rfl : j = v.many := Nat.le_antisymm hj (Nat.le_of_not_lt hlt)
              have g0 : decide ((v.many : Int) < (v.many : Int)) = false := by simp
              clear hlt hj
              go_wp2
              go_roundw
              case rel => exact ⟨2, .inr (.inr rfl), by first | rfl | simp, HQ⟩
              case measure => first | decide | simp [intOf]
        · clear e1 e2 e3 e4 f1 f2 f3 f4 f5 nz
          go_wp2
          go_ret
          refine ⟨_, rfl, ?_, HT.out.below⟩
          have ho := HT.out.own
          rw [show v.turned (2 : Int).toNat = v.tried from Wi.take_all] at ho
          exact ho.down (Nat.le_succ _)
end Go.Proofs.Ytbbadpidolfleaa
