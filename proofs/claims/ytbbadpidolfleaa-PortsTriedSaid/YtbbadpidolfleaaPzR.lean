/- The code's ports (layer 16): the ports that are gone through: round. -/
import Derived.Test.YtbbadpidolfleaaVb
import Derived.Test.YtbbadpidolfleaaSeq
import Derived.RangeFuncNested
import Derived.RangeFuncBound
import Derived.RangeFuncCalls
import Derived.RangeFuncLeaves
import Derived.WalkKit
import Derived.OwnWalkIn
import Derived.TacticsInMore
import Derived.LoopNIn
import Derived.LoopIn
namespace Go.Proofs.Ytbbadpidolfleaa
set_option linter.unusedVariables false
set_option maxRecDepth 100000
set_option linter.unusedSimpArgs false
open Go.ChangeShapes Go.WideShapes Go.ChangeAt Go.RowKit Go.PlainAid
namespace Wi
theorem nth_mod {w : Wi} (h : w.may) (hd : 0 ≤ w.dr) {k : Nat} (hk : k < w.many) : w.fr + (w.dr + (k : Int)) % (w.many : Int) = w.nth k := by
  obtain ⟨h0, h3⟩ := many_pos h
  have h1 := Int.emod_nonneg w.dr (b := (w.many : Int)) (by omega)
  have h2 := Int.emod_lt_of_pos w.dr (b := (w.many : Int)) (by omega)
  have e : (w.dr + (k : Int)) % (w.many : Int) = (w.dr % (w.many : Int) + (k : Int)) % (w.many : Int) := by rw [Int.emod_add_emod]
  rw [e]
  unfold nth first
  by_cases hc : w.dr % (w.many : Int) + (k : Int) < (w.many : Int)
  · rw [Int.emod_eq_of_lt (by omega) hc, if_neg (by omega)]; omega
  · have e2 : (w.dr % (w.many : Int) + (k : Int)) % (w.many : Int) = w.dr % (w.many : Int) + (k : Int) - (w.many : Int) := by
      rw [← Int.sub_emod_right, Int.emod_eq_of_lt (by omega) (by omega)]
    rw [e2, if_pos (by omega)]; omega
theorem round_take {w : Wi} {k : Nat} (hk : k < w.many) : w.round.take k ++ [w.nth k] = w.round.take (k + 1) := by
  have hl : k < w.round.length := by unfold round; rw [List.length_map, List.length_range]; exact hk
  rw [List.take_add_one]
  have : w.round[k]? = some (w.nth k) := by unfold round; simp [hk]
  rw [this]
  rfl
theorem round_pre {w : Wi} (k : Nat) : w.round.take k <+: w.round := List.take_prefix _ _
theorem round_all {w : Wi} : w.round.take w.many = w.round := List.take_of_length_le (by unfold round; simp)
theorem facts {w : Wi} (hw : WOk w) (h : w.may) {k : Nat} (hk : k < w.many) : ∃ a : Int, a = (w.dr + (k : Int)) % (w.many : Int) ∧ (w.dr + (k : Int)).tmod (w.many : Int) = a ∧ 0 ≤ a ∧ a < 65536 ∧ w.fr + a = w.nth k ∧ IntKind.u16.wrap a = a ∧ IntKind.u16.wrap (w.nth k) = w.nth k ∧ IntKind.i64.wrap (w.dr + (k : Int)) = w.dr + (k : Int) ∧ wrap64 (w.dr + (k : Int)) = w.dr + (k : Int) := by
  obtain ⟨h0, h3⟩ := many_pos h
  have h1 := Int.emod_nonneg (w.dr + (k : Int)) (b := (w.many : Int)) (by omega)
  have h2 := Int.emod_lt_of_pos (w.dr + (k : Int)) (b := (w.many : Int)) (by omega)
  have e := nth_mod h hw.dr0 hk
  have hn := nth_in h hw.dr0 hk
  have b1 := hw.to1
  have b2 := hw.fr0
  have b3 := h.1
  have b4 := hw.dr1
  have b5 := hw.dr0
  refine ⟨_, rfl, Int.tmod_eq_emod_of_nonneg (by omega), h1, by omega, e, ?_, ?_, ?_, ?_⟩
  · rw [IntKind.wrap_u16]; omega
  · rw [IntKind.wrap_u16]; omega
  · rw [IntKind.wrap_i64]; omega
  · rw [IntWalk.wrap64_in _ (by omega)]
end Wi
theorem meas_up {j n : Nat} (h : wrap64 ((j : Int) + 1) = ((j + 1 : Nat) : Int)) (hl : j < n) : n - (intOf (.int .i64 (wrap64 ((j : Int) + 1)))).toNat < n - (intOf (.int .i64 (j : Int))).toNat := by
  rw [h]
  show n - (((j + 1 : Nat) : Int)).toNat < n - ((j : Int)).toNat
  omega
theorem meas_up' {j n : Nat} (hl : j < n) : n - (intOf (.int .i64 ((j + 1 : Nat) : Int))).toNat < n - (intOf (.int .i64 (j : Int))).toNat := by
  show n - (((j + 1 : Nat) : Int)).toNat < n - ((j : Int)).toNat
  omega
theorem eq_of_not {k n : Nat} (h : k ≤ n) (hn : ¬ k < n) : k = n := by omega
theorem nz_many {n : Nat} (h : 0 < n) : ((n : Int) == 0) = false := by rw [beq_eq_false_iff_ne]; omega
theorem up_many {k n : Nat} (hk : k < n) (h : (n : Int) ≤ 65536) : wrap64 ((k : Int) + 1) = ((k + 1 : Nat) : Int) := by rw [IntWalk.wrap64_in _ (by omega)]; omega
theorem Wi.wraps {v : Wi} (hv : WOk v) (hm : v.may) : (wrap64 v.to = v.to ∧ wrap64 v.fr = v.fr ∧ wrap64 (v.to - v.fr) = v.to - v.fr ∧ wrap64 (v.to - v.fr + 1) = (v.many : Int)) ∧ wrap64 v.dr = v.dr ∧ 0 < v.many ∧ (v.many : Int) ≤ 65536 := by
  obtain ⟨m0, m1⟩ := Wi.many_pos hm
  have a1 := hv.to1
  have a2 := hv.to0
  have a3 := hv.fr1
  have a4 := hv.fr0
  have a5 := hv.dr1
  have a6 := hv.dr0
  have a7 := hm.1
  have a8 := hm.2
  refine ⟨⟨?_, ?_, ?_, ?_⟩, ?_, m0, by omega⟩
  · rw [IntWalk.wrap64_in _ (by omega)]
  · rw [IntWalk.wrap64_in _ (by omega)]
  · rw [IntWalk.wrap64_in _ (by omega)]
  · rw [m1, IntWalk.wrap64_in _ (by omega)]
  · rw [IntWalk.wrap64_in _ (by omega)]
attribute [local go_sem] Oper.semAt_some
set_option maxHeartbeats 2000000 in
theorem pz_round_ (v : Wi) (hv : WOk v) (hm : v.may) (W0 : World) : GivesL Try.prog 59 #[.agg #[.int .u8 v.pr, .int .u32 v.ii, .int .u16 v.ip, .int .u32 v.oi, .int .u16 v.fr, .int .u16 v.to, .int .u16 v.dr]] #[] (fun k : Int => .int .u16 k) v.round W0 := by
  intro l J Jx hl hJ hJx hY h0
  refine (callsIn_wide (n := 9)).1 ?_
  refine callsIn_of_wp Try.func59 rfl trivial ?_ rfl
  simp only [Try.ntmps59, List.size_toArray, List.length_cons, List.length_nil, Nat.reduceAdd, Nat.reduceSub, Array.replicate_succ, Array.replicate_zero, List.push_toArray, List.append_toArray, List.nil_append, List.cons_append, Array.append_empty]
  have HM := Lib.hid hm
  have HV := Lib.hid hv
  have HJ := Lib.hid hJ
  have HY := Lib.hid hY
  have HJX := Lib.hid hJx
  have H0 := Lib.hid h0
  obtain ⟨⟨e1, e2, e3, e4⟩, dr, m0, m1⟩ := Wi.wraps hv hm
  have DR := Lib.hid dr
  have MM := Lib.hid (And.intro m0 m1)
  clear hm hv hJ hJx hY h0 m0 m1 dr
  gi_wp2_with fail
  have B0 : Below W0.heap.size W0 (W0.alloc (.cells #[.int .u8 v.pr, .int .u32 v.ii, .int .u16 v.ip, .int .u32 v.oi, .int .u16 v.fr, .int .u16 v.to, .int .u16 v.dr] 36)) := (Below.refl _ _).alloc (Nat.le_refl _) _
  have A0 := WiB.made W0 v 36
  have J0 : J (v.round.take 0) (W0.alloc (.cells #[.int .u8 v.pr, .int .u32 v.ii, .int .u16 v.ip, .int .u32 v.oi, .int .u16 v.fr, .int .u16 v.to, .int .u16 v.dr] 36)) := HJ.out _ _ _ H0.out B0
  generalize W0.alloc (.cells #[.int .u8 v.pr, .int .u32 v.ii, .int .u16 v.ip, .int .u32 v.oi, .int .u16 v.fr, .int .u16 v.to, .int .u16 v.dr] 36) = W1 at B0 A0 J0 ⊢
  have P0 := Lib.hid (And.intro J0 (And.intro A0 B0.size))
  clear B0 A0 J0 H0 e1 e2 e3 e4
  gi_loopw [16] (fun i wr => ∃ k : Nat, k ≤ v.many ∧ i = .int .i64 (k : Int) ∧ Hid (J (v.round.take k) wr ∧ WiB wr W0.heap.size v ∧ W0.heap.size ≤ wr.heap.size))
    (fun i _ => v.many - (intOf i).toNat)
  case atStart => exact ⟨0, Nat.zero_le _, rfl, P0⟩
  case round =>
    clear P0
    obtain ⟨k, hk, rfl, HQ⟩ := hrel
    by_cases hlt : k < v.many
    · have hb := HQ.out.2.1
      have c4 := hb.c4
      have c6 := hb.c6
      obtain ⟨a, ea, f1, f2, f3, f4, f5, f6, f7, f8⟩ := Wi.facts HV.out HM.out hlt
      obtain ⟨fn, tmps, assign, body, hy, hR⟩ := yieldAt_any (k := 8) (HY.out (v.round.take k) (v.nth k) wr HQ.out.2.2 HQ.out.1 (by rw [Wi.round_take hlt]; exact Wi.round_pre _))
      have HT := Lib.hid (Wi.round_take hlt)
      have i1 : (k : Int) < (v.many : Int) := Int.ofNat_lt.2 hlt
      have i2 : k < v.many := hlt
      have t1 : decide ((k : Int) < (v.many : Int)) = true := decide_eq_true i1
      have nz := nz_many MM.out.1
      have EW := Lib.hid (up_many hlt MM.out.2)
      have f0 := DR.out
      clear hb ea
      gi_wp2
      refine hR.mono ?_
      rintro e W3 (⟨rfl, hJ3, hk3⟩ | ⟨rfl, hf, _⟩)
      · gi_wp2
        have Q3 := Lib.hid (And.intro (show J (v.round.take (k + 1)) W3 by rw [← HT.out]; exact hJ3) (And.intro (HQ.out.2.1.keep hk3.size (hk3.same _ (Nat.le_refl _) HQ.out.2.1.lt)) (Nat.le_trans HQ.out.2.2 hk3.size)))
        clear hJ3 hk3 HQ HT
        go_roundw
        case rel => exact ⟨k + 1, hlt, by simp [EW.out], Q3⟩
        case measure => first | exact meas_up EW.out hlt | exact meas_up' hlt
      · gi_wp2
        refine bodyPost_ret (results_none rfl _ _ _) rfl ?_
        exact ⟨⟨_, rfl⟩, .inr ⟨_, by rw [HT.out]; exact Wi.round_pre _, hf⟩⟩
    · obtain rfl : k = v.many := eq_of_not hk hlt
      have t1 : decide ((v.many : Int) < (v.many : Int)) = false := decide_eq_false (Int.lt_irrefl _)
      gi_wp2
      first | go_end0 | refine bodyPost_ret (results_none rfl _ _ _) rfl ?_
      exact ⟨⟨_, rfl⟩, .inl (by have h := HQ.out.1; rw [Wi.round_all] at h; exact h)⟩
end Go.Proofs.Ytbbadpidolfleaa
