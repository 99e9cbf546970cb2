/- Contracts of package fields: there, Get16, Get32, With. -/
import Derived.Test.YtlcgpjeggelbaaaDoorRows
import Derived.Test.YtlcgpjeggelbaaaDoorPlain
import Derived.WalkKit
import Derived.ProofKit
import Derived.OpenShut
import Derived.ShutString
import Derived.Below
import Derived.Outline
import Derived.WalkSpells
import Derived.WalkLawsBesides
import Derived.IntWalk
import Derived.Deep.QuietTactic
import Derived.BigQuiet
import Derived.Lib.Hide
namespace Go.Proofs.YtlcgpjeggelbaaaDoor
open Go.ChangeShapes Go.WideShapes Go.ChangeAt Go.RowKit Go.PlainAid

theorem below_drewN {B : Nat} {a w : World} (h : Below B a w) (n : Nat) : Below B a (w.drewN n) := ⟨h.os, h.tape, h.output, h.size, h.block⟩

set_option maxHeartbeats 400000 in
theorem there_yes (s : ByteArray) (i m : Int) (w : World) (hs : s.size ≤ maxLen) (h0 : 0 ≤ i) (h1 : i ≤ (s.size : Int) - m) (hm0 : 0 ≤ m) (hm1 : m ≤ 9223372036854775807) :
    Calls Tryd.prog 33 #[.string s, .int .i64 i, .int .i64 m] w fun e w' => e = .returned (.bool true) ∧ w = w' := by
  unfold maxLen at hs
  go_enter Tryd.func33, Tryd.ntmps33
  go_wp2
  go_ret
  exact ⟨rfl, rfl⟩
set_option maxHeartbeats 400000 in
theorem there_no (s : ByteArray) (i m : Int) (w : World) (hs : s.size ≤ maxLen) (h : i < 0 ∨ (s.size : Int) - m < i) (hm0 : 0 ≤ m) (hm1 : m ≤ 9223372036854775807) :
    Calls Tryd.prog 33 #[.string s, .int .i64 i, .int .i64 m] w fun e w' => e = .returned (.bool false) ∧ w = w' := by
  unfold maxLen at hs
  by_cases h0 : i < 0
  · go_enter Tryd.func33, Tryd.ntmps33
    go_wp2
    go_ret
    exact ⟨rfl, rfl⟩
  · have h1 : (s.size : Int) - m < i := by omega
    clear h
    have h2 : decide (i ≤ (s.size : Int) - m) = false := by simp; omega
    go_enter Tryd.func33, Tryd.ntmps33
    go_wp2
    go_ret
    exact ⟨rfl, rfl⟩
set_option maxHeartbeats 400000 in
theorem get16_yes (s : ByteArray) (k : Nat) (w : World) (hs : s.size ≤ maxLen) (h : k + 2 ≤ s.size) :
    Calls Tryd.prog 18 #[.string s, .int .i64 k] w fun e w' => e = .returned (.tuple #[.int .u16 (g16 s k), .bool true]) ∧ Below w.heap.size w w' := by
  unfold maxLen at hs
  have hb := get_bt s
  have b0 := bt_nonneg s k
  have b1 := bt_le s k
  have b2 := bt_nonneg s (k + 1)
  have b3 := bt_le s (k + 1)
  have h1 : (k : Int) + 1 < (s.size : Int) := by omega
  have h2 : (k : Int) < (s.size : Int) := by omega
  have h3 : (k : Int) ≤ (s.size : Int) - 2 := by omega
  have h4 : (0 : Int) ≤ (k : Int) + 1 := by omega
  have e1 : IntKind.i64.wrap ((k : Int) + 1) = (k : Int) + 1 := IntWalk.i64_in _ (by omega)
  have e2 : ((k : Int) + 1).toNat = k + 1 := by omega
  have e3 : IntKind.u16.wrap (bt s k) = bt s k := IntWalk.u16_in _ (by omega)
  have e4 : IntKind.u16.wrap (bt s k * 256) = bt s k * 256 := IntWalk.u16_in _ (by omega)
  have e5 : IntKind.u16.wrap (bt s (k + 1)) = bt s (k + 1) := IntWalk.u16_in _ (by omega)
  have e6 := u16_hl _ _ b0 b1 b2 b3
  go_enter Tryd.func18, Tryd.ntmps18
  go_wp2_with (go_at_call 33; refine (there_yes _ _ _ _ hs (by omega) h3 (by omega) (by omega)).mono ?_; rintro e w' ⟨rfl, rfl⟩)
  go_quiet (fail)
  clear hb e1 e2 e3 e4 e5 e6
  go_wp2
  go_ret2
  exact ⟨rfl, below_drewN (Below.refl _ _) _⟩
set_option maxHeartbeats 400000 in
theorem get16_no (s : ByteArray) (i : Int) (w : World) (hs : s.size ≤ maxLen) (h : i < 0 ∨ (s.size : Int) - 2 < i) :
    Calls Tryd.prog 18 #[.string s, .int .i64 i] w fun e w' => e = .returned (.tuple #[.int .u16 0, .bool false]) ∧ Below w.heap.size w w' := by
  go_enter Tryd.func18, Tryd.ntmps18
  go_wp2_with (go_at_call 33; refine (there_no _ _ _ _ hs h (by omega) (by omega)).mono ?_; rintro e w' ⟨rfl, rfl⟩)
  go_ret2
  exact ⟨rfl, Below.refl _ _⟩
end Go.Proofs.YtlcgpjeggelbaaaDoor
