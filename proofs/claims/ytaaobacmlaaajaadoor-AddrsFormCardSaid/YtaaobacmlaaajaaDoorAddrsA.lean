/- Contracts: a cut at the first byte of a kind (strings.Cut at a text of one byte), the document's cut at the last one. -/
import Derived.Test.YtaaobacmlaaajaaDoorRows
import Derived.Test.YtaaobacmlaaajaaDoorAddrsP
import Derived.Test.YtaaobacmlaaajaaDoorText
import Derived.WalkKit
import Derived.ProofKit
import Derived.OpenShut
import Derived.ShutString
import Derived.Below
import Derived.Outline
import Derived.WalkSpells
import Derived.WalkLawsBesides
import Derived.IntWalk
import Derived.Deep.QuietTactic
import Derived.BigQuiet
import Derived.Lib.Hide
namespace Go.Proofs.YtaaobacmlaaajaaDoor
set_option linter.unusedVariables false
set_option linter.unusedSimpArgs false
open Go.ChangeShapes Go.WideShapes Go.ChangeAt Go.RowKit Go.PlainAid
theorem drewN_below {B : Nat} {a w : World} (h : Below B a w) (n : Nat) : Below B a (w.drewN n) := ⟨h.os, h.tape, h.output, h.size, h.block⟩
set_option maxHeartbeats 1000000 in
set_option maxRecDepth 100000 in
theorem indexByte_ (s : ByteArray) (c : Int) (w : World) :
    Calls Tryd.prog 47 #[.string s, .int .u8 c] w fun e w' => e = .returned (.int .i64 (Lib.indexByte s.data.toList c.toNat.toUInt8)) ∧ w = w' := by
  go_enter Tryd.func47, Tryd.ntmps47
  go_wp2
  rw [run_callFunc_extern Tryd.func53 (by kernel_rfl) (by kernel_rfl) (by kernel_rfl) (e := Extern.BytealgIndexByte.indexByte) (by kernel_rfl), Lib.run_indexByteString]
  simp only [Result.andThen]
  rw [Oper.upon_value]
  go_wp2
  go_ret
  exact ⟨rfl, rfl⟩
set_option maxHeartbeats 2000000 in
set_option maxRecDepth 100000 in
theorem index1_ (s : ByteArray) (c : UInt8) (w : World) :
    Calls Tryd.prog 41 #[.string s, .string ⟨#[c]⟩] w fun e w' => e = .returned (.int .i64 (Lib.indexByte s.data.toList c)) ∧ w = w' := by
  go_enter Tryd.func41, Tryd.ntmps41
  go_wp2_with (go_at_call 47; refine (indexByte_ _ _ _).mono ?_; rintro e w' ⟨rfl, rfl⟩)
  · have h : ([c] == s.toList) = true := by assumption
    go_ret
    refine ⟨?_, rfl⟩
    have e : s.data.toList = [c] := by rw [← Lib.toList_data]; exact (beq_iff_eq.1 h).symm
    rw [e]
    simp [Lib.indexByte]
  · go_ret
    exact ⟨rfl, rfl⟩
set_option maxHeartbeats 1000000 in
set_option maxRecDepth 100000 in
theorem cutIn_ (l : List UInt8) (c : UInt8) (w : World) (hl : l.length ≤ maxLen) :
    Calls Tryd.prog 35 #[.string (str l), .string ⟨#[c]⟩] w fun e w' => e = .returned (.tuple #[.string (str (cut1 c l).1), .string (str (cut1 c l).2.1), .bool (cut1 c l).2.2]) ∧ Below w.heap.size w w' := by
  unfold maxLen at hl
  have hi := index1_ (str l) c
  rcases cut1_cases c l with ⟨a, b, rfl, ha, hc⟩ | ⟨hx, hc⟩
  · rw [hc]
    rw [str_data, index_app c a b ha] at hi
    have hs := str_size (a ++ c :: b)
    have e1 : (str (a ++ c :: b)).extract 0 a.length = str a := by rw [str_extract]; simp
    have e2 : (str (a ++ c :: b)).extract (a.length + 1) (str (a ++ c :: b)).size = str b := by rw [str_extract, hs, List.take_length]; simp
    have hl' : a.length + 1 + b.length = (str (a ++ c :: b)).size := by rw [hs]; simp; omega
    rw [← hs] at hl
    clear hs hc ha
    generalize str (a ++ c :: b) = s at *
    have g1 : (0 : Int) ≤ (a.length : Int) := by omega
    have g2 : (a.length : Int) ≤ (s.size : Int) := by omega
    have g3 : (0 : Int) ≤ (a.length : Int) + 1 := by omega
    have g4 : (a.length : Int) + 1 ≤ (s.size : Int) := by omega
    have g5 : (a.length : Int) + 1 ≤ 9223372036854775807 := by omega
    have g6 : ((a.length : Int) + 1).toNat = a.length + 1 := by omega
    have HL := Lib.hid hl'
    clear hl'
    go_enter Tryd.func35, Tryd.ntmps35
    go_wp2_with (go_at_call 41; refine (hi _).mono ?_; rintro e w' ⟨rfl, rfl⟩)
    go_region
    go_wp2
    go_ret3
    exact ⟨rfl, drewN_below (Below.refl _ _) _⟩
  · rw [hc]
    rw [str_data, index_none c l hx] at hi
    go_enter Tryd.func35, Tryd.ntmps35
    go_wp2_with (go_at_call 41; refine (hi _).mono ?_; rintro e w' ⟨rfl, rfl⟩)
    go_ret3
    exact ⟨rfl, Below.refl _ _⟩
end Go.Proofs.YtaaobacmlaaajaaDoor
