/- The code's ports (layer 16): List. -/
import Derived.Test.YtbbadpidolfleaaPzSO
import Derived.Test.YtbbadpidolfleaaVs
namespace Go.Proofs.Ytbbadpidolfleaa
set_option linter.unusedVariables false
set_option maxRecDepth 100000
set_option linter.unusedSimpArgs false
open Go.ChangeShapes Go.WideShapes Go.ChangeAt Go.RowKit Go.PlainAid
attribute [local go_sem ↓] Go.wp_at_zero Go.wp_at_succ
theorem pz_values_ {w : World} {rb : Nat} : Calls Try.prog 44 #[.map (some rb)] w fun e w' => e = .returned (.func (.func 54) #[] #[.pointer (some ⟨w.heap.size, 0, none⟩)]) ∧ w' = w.alloc (.cells #[.map (some rb)] 60) := by
  go_enter Try.func44, Try.ntmps44
  go_wp2
  go_ret
  exact ⟨rfl, rfl⟩
theorem vals_enters : ∀ args w, (callFunc 54 args).run Try.prog w = .ok (.enter 54 args) w := enters_of Try.func54 (by kernel_rfl) rfl
section
variable {w : World} {rb Bm : Nat} {x : Po}
theorem pz_collect_ (h : enK.Map w rb (x.l.map Ro.eR)) (hB : w.cell? ⟨Bm, 0, none⟩ = some (.map (some rb))) (hl : x.l.length ≤ 1000) : Calls Try.prog 52 #[.func (.func 54) #[] #[.pointer (some ⟨Bm, 0, none⟩)]] w fun e w' => ∃ v l, e = .returned v ∧ l.Perm x.l ∧ eltR.Own w' w.heap.size v l ∧ Below w.heap.size w w' := by
  have ka := pz_append_ vals_enters hl (pz_vals_ h hB)
  clear h hB
  go_enter Try.func52, Try.ntmps52
  go_wp2_with (go_at_call 61; refine ka.mono ?_; rintro e w1 ⟨v, l, rfl, hp, ho, hb⟩)
  go_ret
  exact ⟨v, l, rfl, hp, ho, hb⟩
theorem pz_sorted_ (h : enK.Map w rb (x.l.map Ro.eR)) (ok : x.Ok) (hB : w.cell? ⟨Bm, 0, none⟩ = some (.map (some rb))) (hl : x.l.length ≤ 1000) : Calls Try.prog 43 #[.func (.func 54) #[] #[.pointer (some ⟨Bm, 0, none⟩)], .func (.func 45) #[] #[]] w fun e w' => ∃ v, e = .returned v ∧ eltR.Own w' w.heap.size v x.l ∧ Below w.heap.size w w' := by
  have kc := pz_collect_ h hB hl
  have OK := Lib.hid ok
  have HL := Lib.hid hl
  clear h hB ok hl
  go_enter Try.func43, Try.ntmps43
  go_upto_region 2 with (go_at_call 52; refine kc.mono ?_; rintro e w1 ⟨v, l, rfl, hp, ho, hb⟩)
  have ks := pz_sort_ ho hb.size (by rw [hp.length_eq]; exact HL.out)
  have HP := Lib.hid hp
  have HB := Lib.hid hb
  clear hp ho hb kc
  go_wp2_with (go_at_call 53; refine ks.mono ?_; rintro e w2 ⟨rfl, l', p2, s2, o2, b2⟩)
  go_ret
  have e : l' = x.l := sorted_rows OK.out (p2.trans HP.out) (s2.imp fun h => by omega)
  subst e
  exact ⟨v, rfl, o2, HB.out.trans b2⟩
end
set_option maxHeartbeats 1000000 in
/-- (*Ports).List. -/
theorem pz_list_ {w : World} {p rb ob : Nat} {x : Po} (h : PzI w p rb ob x) (hl : x.l.length ≤ 1000) : Calls Try.prog 25 #[.pointer (some ⟨p, 0, none⟩)] w fun e w' => ∃ (a : Option Addr) (c : Nat), e = .returned (.slice a x.l.length c) ∧ Below w.heap.size w w' ∧ eltR.Sl w' a c x.l ∧ ∀ b off, a = some ⟨b, off, none⟩ → w.heap.size ≤ b ∧ b < w'.heap.size := by
  have kn := pz_none_ h
  have c0 := h.c0
  have kv := pz_values_ (w := w) (rb := rb)
  have b1 : Below w.heap.size w (w.alloc (.cells #[.map (some rb)] 60)) := (Below.refl _ _).alloc (Nat.le_refl _) _
  have ks := pz_sorted_ (h.on b1).mr h.ok (Bm := w.heap.size) (by simp [go_sem]) hl
  have hz : (w.alloc (.cells #[.map (some rb)] 60)).heap.size = w.heap.size + 1 := by simp
  rw [hz] at ks
  have BB := Lib.hid b1
  clear h hl b1 hz
  go_enter Try.func25, Try.ntmps25
  go_wp2_with (first
    | (go_at_call 29; refine kn.mono ?_; rintro e w2 ⟨rfl, hw⟩; obtain rfl : w = w2 := hw.symm)
    | (go_at_call 44; refine kv.mono ?_; rintro e w2 ⟨rfl, rfl⟩)
    | (go_at_call 43; refine ks.mono ?_; rintro e w3 ⟨v, rfl, ho, hb⟩))
  go_ret
  obtain ⟨a, c, e, hs, hn⟩ := ho.sl
  subst e
  exact ⟨a, c, rfl, BB.out.trans (hb.mono (Nat.le_succ _)), hs, fun b off e => by
    obtain ⟨q1, q2⟩ := ho.lt b (hn b off e)
    exact ⟨by omega, q2⟩⟩
end Go.Proofs.Ytbbadpidolfleaa
