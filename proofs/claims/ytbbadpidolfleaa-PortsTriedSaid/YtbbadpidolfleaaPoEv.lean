/- Layer 16, plain: what PortsEven counts. -/
import Derived.Test.YtbbadpidolfleaaVa
namespace Go.Proofs.Ytbbadpidolfleaa
set_option linter.unusedVariables false
set_option linter.unusedSimpArgs false
namespace Po
/-- The port so far behind the first one is free. -/
def openAt (x : Po) (v : Wi) (j : Nat) : Bool := !x.taken v.pr v.oi (v.fr + (j : Int))
def cntFree (x : Po) (v : Wi) (k : Nat) : Nat := ((List.range k).filter fun j => x.openAt v j).length
def cntEven (x : Po) (v : Wi) (k : Nat) : Nat := ((List.range k).filter fun j => x.openAt v j && v.even (v.fr + (j : Int))).length
def anyOwn (x : Po) (v : Wi) (k : Nat) : Bool := (List.range k).any fun j => x.openAt v j && (v.fr + (j : Int) == v.ip)
theorem cntFree_no {x : Po} {v : Wi} {k : Nat} (h : x.openAt v k = false) : x.cntFree v (k + 1) = x.cntFree v k := by unfold cntFree; rw [List.range_succ, List.filter_append]; simp [h]
theorem cntFree_yes {x : Po} {v : Wi} {k : Nat} (h : x.openAt v k = true) : x.cntFree v (k + 1) = x.cntFree v k + 1 := by unfold cntFree; rw [List.range_succ, List.filter_append]; simp [h]
theorem cntEven_no {x : Po} {v : Wi} {k : Nat} (h : (x.openAt v k && v.even (v.fr + (k : Int))) = false) : x.cntEven v (k + 1) = x.cntEven v k := by unfold cntEven; rw [List.range_succ, List.filter_append]; simp only [List.filter_cons, h]; simp
theorem cntEven_yes {x : Po} {v : Wi} {k : Nat} (h : (x.openAt v k && v.even (v.fr + (k : Int))) = true) : x.cntEven v (k + 1) = x.cntEven v k + 1 := by unfold cntEven; rw [List.range_succ, List.filter_append]; simp only [List.filter_cons, h]; simp
theorem anyOwn_succ {x : Po} {v : Wi} {k : Nat} : x.anyOwn v (k + 1) = (x.anyOwn v k || (x.openAt v k && (v.fr + (k : Int) == v.ip))) := by unfold anyOwn; rw [List.range_succ, List.any_append]; simp
theorem in_range {v : Wi} (hm : v.may) {n : Int} (h : v.fr ≤ n ∧ n ≤ v.to) : ∃ j, j < v.many ∧ n = v.fr + (j : Int) := by
  refine ⟨(n - v.fr).toNat, ?_, by omega⟩
  unfold Wi.many
  have := hm.2
  omega
theorem of_range {v : Wi} (hm : v.may) {j : Nat} (h : j < v.many) : v.fr ≤ v.fr + (j : Int) ∧ v.fr + (j : Int) ≤ v.to := by
  unfold Wi.many at h
  have := hm.2
  omega
theorem free_zero {x : Po} {v : Wi} (hm : v.may) (hd : 0 ≤ v.dr) (h : x.cntFree v v.many = 0) : x.free v = none := by
  unfold Po.free
  rw [List.find?_eq_none]
  intro n hn
  obtain ⟨j, hj, e⟩ := in_range hm ((Wi.tried_mem hm hd).1 hn)
  have h0 := List.eq_nil_of_length_eq_zero h
  have h1 := (List.filter_eq_nil_iff.1 h0) j (List.mem_range.2 hj)
  rw [e]
  exact h1
theorem free_more {x : Po} {v : Wi} (hm : v.may) (hd : 0 ≤ v.dr) (h : x.cntFree v v.many ≠ 0) : ∃ k, x.free v = some k := by
  cases hf : x.free v with
  | some k => exact ⟨k, rfl⟩
  | none =>
    exfalso
    apply h
    unfold cntFree
    rw [List.filter_eq_nil_iff.2, List.length_nil]
    intro j hj
    have := List.find?_eq_none.1 hf (v.fr + (j : Int)) ((Wi.tried_mem hm hd).2 (of_range hm (List.mem_range.1 hj)))
    exact this
theorem free_own {x : Po} {v : Wi} (hm : v.may) (h : x.anyOwn v v.many = true) : x.free v = some v.ip := by
  obtain ⟨j, hj, hq⟩ := List.any_eq_true.1 h
  rw [Bool.and_eq_true] at hq
  have e : v.fr + (j : Int) = v.ip := beq_iff_eq.1 hq.2
  have hr := of_range hm (List.mem_range.1 hj)
  rw [e] at hr
  have ho : v.own = [v.ip] := by unfold Wi.own; rw [if_pos hr]
  have ht : (!x.taken v.pr v.oi v.ip) = true := by rw [← e]; exact hq.1
  unfold Po.free Wi.tried
  rw [ho]
  simp only [List.cons_append, List.nil_append, List.find?_cons, ht]
theorem free_even {x : Po} {v : Wi} (hm : v.may) (hd : 0 ≤ v.dr) (h : x.cntEven v v.many ≠ 0) {k : Int} (hf : x.free v = some k) : k % 2 = v.ip % 2 := by
  obtain ⟨j, hj⟩ : ∃ j, j ∈ (List.range v.many).filter fun j => x.openAt v j && v.even (v.fr + (j : Int)) := by
    cases hl : (List.range v.many).filter fun j => x.openAt v j && v.even (v.fr + (j : Int)) with
    | nil => exact absurd (by unfold cntEven; rw [hl]; rfl) h
    | cons a l => exact ⟨a, List.mem_cons_self ..⟩
  obtain ⟨hj1, hj2⟩ := List.mem_filter.1 hj
  rw [Bool.and_eq_true] at hj2
  unfold Po.free Wi.tried at hf
  rw [List.find?_append] at hf
  cases ho : v.own.find? fun k => !x.taken v.pr v.oi k with
  | some a =>
    rw [ho] at hf
    simp only [Option.some_or, Option.some.injEq] at hf
    have hm2 := List.mem_of_find?_eq_some ho
    unfold Wi.own at hm2
    split at hm2
    · rw [← hf, List.mem_singleton.1 hm2]
    · cases hm2
  | none =>
    rw [ho, Option.none_or, List.find?_append] at hf
    cases he : (v.round.filter v.even).find? fun k => !x.taken v.pr v.oi k with
    | some a =>
      rw [he] at hf
      simp only [Option.some_or, Option.some.injEq] at hf
      have hm2 := (List.mem_filter.1 (List.mem_of_find?_eq_some he)).2
      rw [← hf]
      exact beq_iff_eq.1 hm2
    | none =>
      exfalso
      have h2 := (Wi.round_mem hm hd).2 (of_range hm (List.mem_range.1 hj1))
      have := List.find?_eq_none.1 he _ (List.mem_filter.2 ⟨h2, hj2.2⟩)
      exact this hj2.1
end Po
end Go.Proofs.Ytbbadpidolfleaa
