/- Contracts: strings.Cut, the document's Cut, the program's numbers. -/
import Derived.Test.YtaaobacmlaaajaaDoorAddrsA
namespace Go.Proofs.YtaaobacmlaaajaaDoor
set_option linter.unusedVariables false
set_option linter.unusedSimpArgs false
open Go.ChangeShapes Go.WideShapes Go.ChangeAt Go.RowKit Go.PlainAid
set_option maxHeartbeats 1000000 in
theorem cut_ (l : List UInt8) (c : UInt8) (w : World) (hl : l.length ≤ maxLen) :
    Calls Tryd.prog 29 #[.string (str l), .string ⟨#[c]⟩] w fun e w' => e = .returned (.tuple #[.string (str (cut1 c l).1), .string (str (cut1 c l).2.1), .bool (cut1 c l).2.2]) ∧ Below w.heap.size w w' := by
  go_enter Tryd.func29, Tryd.ntmps29
  go_wp2_with (go_at_call 35; refine (cutIn_ l c _ hl).mono ?_; rintro e w1 ⟨rfl, b1⟩)
  go_ret3
  exact ⟨rfl, b1⟩
theorem getD_lt' (l : List UInt8) (k : Nat) (h : k < l.length) : l.getD k 0 = l[k] := by simp [List.getD, h]
theorem drop_cons' (l : List UInt8) (k : Nat) (h : k < l.length) : l.drop k = l.getD k 0 :: l.drop (k + 1) := by
  rw [getD_lt' l k h]; exact List.drop_eq_getElem_cons h
theorem take_snoc (l : List UInt8) (k : Nat) (h : k < l.length) : l.take (k + 1) = l.take k ++ [l.getD k 0] := by
  rw [getD_lt' l k h, List.take_add_one, List.getElem?_eq_getElem h]; rfl
theorem split_at (l : List UInt8) (k : Nat) (h : k < l.length) : l = l.take k ++ l.getD k 0 :: l.drop (k + 1) := by
  rw [← drop_cons' l k h, List.take_append_drop]
end Go.Proofs.YtaaobacmlaaajaaDoor
