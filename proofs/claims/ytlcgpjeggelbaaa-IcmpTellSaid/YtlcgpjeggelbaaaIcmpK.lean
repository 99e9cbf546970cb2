/- Contracts of package icmp: the map of types. -/
import Derived.Test.YtlcgpjeggelbaaaIcmpM
import Derived.Test.YtlcgpjeggelbaaaMap
namespace Go.Proofs.Ytlcgpjeggelbaaa
set_option linter.unusedVariables false
set_option linter.unusedSimpArgs false
open Go.ChangeShapes Go.WideShapes Go.ChangeAt Go.RowKit Go.PlainAid
open Go.Maps (Keyed int_keyed keyOf_int_mk atKey_put_same atKey_put_other isMap_empty)
theorem keyU8 : Keyed Try.prog 5 := int_keyed Try.underlying5
theorem zeroI (w : World) : (zeroValue 3).run Try.prog w = .ok (.int .i64 0) w := by kernel_rfl
/-- What types are. -/
def kinds7 : DataW Unit := (((((((DataW.map []).put (.int .u8 8) (.lit (.int .i64 1))).put (.int .u8 13) (.lit (.int .i64 1))).put (.int .u8 0) (.lit (.int .i64 2))).put (.int .u8 14) (.lit (.int .i64 2))).put (.int .u8 3) (.lit (.int .i64 3))).put (.int .u8 11) (.lit (.int .i64 3))).put (.int .u8 12) (.lit (.int .i64 3))
def kindV (ty : Int) : Int := if ty = 8 ∨ ty = 13 then 1 else if ty = 0 ∨ ty = 14 then 2 else if ty = 3 ∨ ty = 11 ∨ ty = 12 then 3 else 0
theorem kinds7_at (ty : Int) : kinds7.atKey (.int .u8 ty) (.lit (.int .i64 0)) = .lit (.int .i64 (kindV ty)) := by
  have key : ∀ (D : DataW Unit) (hD : Go.Maps.IsMap D) (a : Int) (d : Int) (z : DataW Unit), (D.put (.int .u8 a) (.lit (.int .i64 d))).atKey (.int .u8 ty) z = if ty = a then .lit (.int .i64 d) else D.atKey (.int .u8 ty) z := by
    intro D hD a d z
    by_cases h : ty = a
    · subst h; rw [if_pos rfl, atKey_put_same hD (by trivial)]
    · rw [if_neg h, atKey_put_other (fun hh => h (by injection hh))]
  have m0 : Go.Maps.IsMap (DataW.map [] : DataW Unit) := isMap_empty
  unfold kinds7 kindV
  rw [key _ ((((((m0.put _ _).put _ _).put _ _).put _ _).put _ _).put _ _), key _ (((((m0.put _ _).put _ _).put _ _).put _ _).put _ _), key _ ((((m0.put _ _).put _ _).put _ _).put _ _), key _ (((m0.put _ _).put _ _).put _ _), key _ ((m0.put _ _).put _ _), key _ (m0.put _ _), key _ m0]
  rw [show (DataW.map [] : DataW Unit).atKey (.int .u8 ty) (.lit (.int .i64 0)) = .lit (.int .i64 0) from rfl]
  repeat' split
  all_goals first | rfl | (exfalso; omega)
set_option maxRecDepth 100000 in
set_option maxHeartbeats 1000000 in
theorem kinds_ (w : World) : Calls Try.prog 29 #[] w fun e w' => (∃ b, e = .returned (.map (some b)) ∧ w'.ownsMap Try.prog 5 (plainElem (H := Unit) Try.prog 3) b 7 kinds7) ∧ Below w.heap.size w w' := by
  have hmm := @run_makeMap Try.prog
  have o0 := World.ownsMap_made w Try.prog 5 (plainElem (H := Unit) Try.prog 3)
  have B0 : Below w.heap.size w (w.alloc (.map #[] 0)) := (Below.refl _ _).alloc (Nat.le_refl _) _
  go_enter Try.func29, Try.ntmps29
  go_wp2_with (refine wpList_insert_own _ rfl _ _ _ 55 rfl 5 3 keyU8 Try.underlying55 _ _ _ _ rfl (by assumption) (by decide) _ _ _ rfl rfl (keyOf_int_mk Try.underlying5 (by decide)) _ [] (plainElem_int Try.underlying3 (by decide)) ?_; intro w1 o1 g1; have B1 := (show Below w.heap.size w _ by assumption).grown g1 (Below.size (B := w.heap.size) (by assumption)) (fun j hj => by cases hj; exact Nat.le_refl _))
  go_ret
  exact ⟨⟨_, rfl, by assumption⟩, by assumption⟩
end Go.Proofs.Ytlcgpjeggelbaaa
