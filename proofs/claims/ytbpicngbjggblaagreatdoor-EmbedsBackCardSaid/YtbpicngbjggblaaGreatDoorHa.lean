/- Texts of this proof, together: EmbD, EmbE, EmbF, EmbG, EmbH, EmbI, EmbJ. -/
import Derived.Test.YtbpicngbjggblaaGreatDoorGz
import Derived.Test.YtbpicngbjggblaaGreatDoorGt
import Derived.Test.YtbpicngbjggblaaGreatDoorGc
import Derived.Test.YtbpicngbjggblaaGreatDoorGj
import Derived.Test.YtbpicngbjggblaaGreatDoorGn
import Derived.Test.YtbpicngbjggblaaGreatDoorGs
import Derived.Test.YtbpicngbjggblaaGreatDoorGo
import Derived.BigRegion
import Derived.Deep.DeepCutAuto
import Derived.Deep.RegionHeld3
import Derived.Deep.DrawnRows
namespace Go.Proofs.YtbpicngbjggblaaGreatDoor
set_option linter.unusedVariables false
set_option linter.unusedSimpArgs false
open Go.ChangeShapes Go.WideShapes Go.ChangeAt Go.RowKit Go.PlainAid
attribute [local go_sem ↓] Go.wp_at_zero Go.wp_at_succ
end Go.Proofs.YtbpicngbjggblaaGreatDoor

namespace Go.Proofs.YtbpicngbjggblaaGreatDoor
set_option linter.unusedVariables false
set_option linter.unusedSimpArgs false
open Go.ChangeShapes Go.WideShapes Go.ChangeAt Go.RowKit Go.PlainAid
attribute [local go_sem ↓] Go.wp_at_zero Go.wp_at_succ
end Go.Proofs.YtbpicngbjggblaaGreatDoor

namespace Go.Proofs.YtbpicngbjggblaaGreatDoor
set_option linter.unusedVariables false
set_option linter.unusedSimpArgs false
open Go.ChangeShapes Go.WideShapes Go.ChangeAt Go.RowKit Go.PlainAid
attribute [local go_sem ↓] Go.wp_at_zero Go.wp_at_succ
def lkI (D : ByteArray) (v : Int) : Int := if lkR D = 0 then v else 0
def lkB (D : ByteArray) : Bool := decide (lkR D = 0) && decide (bt D 9 = 1) && inAsk D
theorem lk_no {D : ByteArray} (h : ¬ lkR D = 0) : (∀ v, lkI D v = 0) ∧ lkB D = false := ⟨fun v => by unfold lkI; rw [if_neg h], by unfold lkB; rw [decide_eq_false h]; rfl⟩
theorem lk_yes {D : ByteArray} (h : lkR D = 0) : (∀ v, lkI D v = v) ∧ lkB D = (decide (bt D 9 = 1) && inAsk D) := ⟨fun v => by unfold lkI; rw [if_pos h], by unfold lkB; rw [decide_eq_true h]; rfl⟩
end Go.Proofs.YtbpicngbjggblaaGreatDoor

namespace Go.Proofs.YtbpicngbjggblaaGreatDoor
set_option linter.unusedVariables false
set_option linter.unusedSimpArgs false
open Go.ChangeShapes Go.WideShapes Go.ChangeAt Go.RowKit Go.PlainAid
attribute [local go_sem ↓] Go.wp_at_zero Go.wp_at_succ
def iI (s : ByteArray) (v : Int) : Int := if inR s = 0 then v else 0
end Go.Proofs.YtbpicngbjggblaaGreatDoor

namespace Go.Proofs.YtbpicngbjggblaaGreatDoor
set_option linter.unusedVariables false
set_option linter.unusedSimpArgs false
open Go.ChangeShapes Go.WideShapes Go.ChangeAt Go.RowKit Go.PlainAid
attribute [local go_sem ↓] Go.wp_at_zero Go.wp_at_succ
theorem emS_V {D : ByteArray} {a b : Int} (h : 20 ≤ D.size) (hc : okC a 0 b 0) : updV (g16 D 10) (strOfNums (wordL (adW (g32 D 12) (g32 D 16)))) (strOfNums (wordL (adW a b))) = emS D a b := by
  rw [updV_L _ (adW (g32 D 12) (g32 D 16)) (adW a b) (by rfl) (adW_wf (okC_of D)) (adW_wf hc)]
  rfl
end Go.Proofs.YtbpicngbjggblaaGreatDoor

namespace Go.Proofs.YtbpicngbjggblaaGreatDoor
set_option linter.unusedVariables false
set_option linter.unusedSimpArgs false
open Go.ChangeShapes Go.WideShapes Go.ChangeAt Go.RowKit Go.PlainAid
attribute [local go_sem ↓] Go.wp_at_zero Go.wp_at_succ
end Go.Proofs.YtbpicngbjggblaaGreatDoor

namespace Go.Proofs.YtbpicngbjggblaaGreatDoor
set_option linter.unusedVariables false
set_option linter.unusedSimpArgs false
open Go.ChangeShapes Go.WideShapes Go.ChangeAt Go.RowKit Go.PlainAid
attribute [local go_sem ↓] Go.wp_at_zero Go.wp_at_succ
/-- An ICMP error of a type, about a packet. -/
def wrM (k : Int) (p : ByteArray) : ByteArray := icP k 1 0 ⟨#[0, 0, 0, 0]⟩ (p.extract 0 (min p.size 548))
def wrB (a b k : Int) (p : ByteArray) : ByteArray := putB 0 0 false 64 1 a b ⟨#[]⟩ (slI (wrM k p))
theorem wrM_size (k : Int) (p : ByteArray) : (wrM k p).size ≤ 600 := by
  have z := size_extract' p 0 (min p.size 548) (Nat.zero_le _) (Nat.min_le_left _ _)
  have h : (⟨#[0, 0, 0, 0]⟩ : ByteArray).size = 4 := rfl
  have z2 : (strOfNums (wordL [256 * k + 1, 0])).size = 4 := by rw [size_W]; rfl
  unfold wrM icP
  rw [if_pos h]
  unfold icB
  rw [ByteArray.size_append, ByteArray.size_append, z, z2, h]
  omega
set_option maxHeartbeats 4000000 in
set_option maxRecDepth 100000 in
theorem rwrong10_ (a b k : Int) (s : ByteArray) (w : World) (a0 : 0 ≤ a) (a1 : a ≤ 4294967295) (b0 : 0 ≤ b) (b1 : b ≤ 4294967295) (k0 : 0 ≤ k) (k1 : k ≤ 255) (hs : s.size ≤ 1000000) :
    Calls Tryz.prog 26 #[.int .u32 a, .int .u32 b, .int .u8 k, .string s] w fun e w' => e = .returned (.string (wrB a b k s)) ∧ Below w.heap.size w w' := by
  have hmin : ∃ m : Nat, m = min s.size 548 ∧ m ≤ s.size ∧ m ≤ 548 ∧ ∀ W, (Builtin.min_ #[3, 3] 3 #[.int .i64 (s.size : Int), .int .i64 548]).run Tryz.prog W = .ok (.int .i64 (m : Int)) W := by
    by_cases hk : 548 < s.size
    · refine ⟨548, by omega, by omega, by omega, fun W => ?_⟩
      have : (548 : Int) < (s.size : Int) := by omega
      simp [Builtin.min_, Builtin.min2, this]
    · refine ⟨s.size, by omega, by omega, by omega, fun W => ?_⟩
      have : ¬ (548 : Int) < (s.size : Int) := by omega
      simp [Builtin.min_, Builtin.min2, this]
  obtain ⟨m, hm, hm1, hm2, hmin⟩ := hmin
  have zm := wrM_size k s
  have zx := size_extract' s 0 m (Nat.zero_le _) hm1
  have e1 : wrM k s = icP k 1 0 ⟨#[0, 0, 0, 0]⟩ (s.extract 0 m) := by unfold wrM; rw [hm]
  have c7 := fun u => rput7_ k 1 0 ⟨#[0, 0, 0, 0]⟩ (s.extract 0 m) u k0 k1 (by omega) (by omega) (by omega) (by omega) (by decide) (by omega)
  rw [← e1] at c7
  have cs := fun u => rseal7_ (wrM k s) u (by omega)
  have zs := slI_size (wrM k s)
  have c4 := fun u => rput4_ 0 0 false 64 1 a b ⟨#[]⟩ (slI (wrM k s)) u (by omega) (by omega) (by omega) (by omega) (by omega) (by omega) (by omega) (by omega) a0 a1 b0 b1 (by decide) (by unfold maxLen; omega)
  have HV : Hid (wrB a b k s = putB 0 0 false 64 1 a b ⟨#[]⟩ (slI (wrM k s))) := rfl
  have i1 : (m : Int) ≤ (s.size : Int) := by omega
  generalize putB 0 0 false 64 1 a b ⟨#[]⟩ (slI (wrM k s)) = R at *
  generalize putE (⟨#[]⟩ : ByteArray).size (slI (wrM k s)).size = q at *
  generalize slI (wrM k s) = L at *
  generalize wrM k s = M at *
  generalize icE (⟨#[0, 0, 0, 0]⟩ : ByteArray).size = q7 at *
  clear e1 zm zx zs hm hm2
  go_enter Tryz.func26, Tryz.ntmps26
  have B1 := Below.refl w.heap.size w
  go_wp2_with fail
  refine (c7 _).mono ?_; rintro e w1 ⟨rfl, x1⟩
  have B2 := B1.trans (x1.mono B1.size)
  clear B1 x1
  go_wp2_with fail
  refine (cs _).mono ?_; rintro e w2 ⟨rfl, x2⟩
  have B3 := B2.trans (x2.mono B2.size)
  clear B2 x2
  go_wp2_with fail
  refine (c4 _).mono ?_; rintro e w3 ⟨rfl, x3⟩
  have B4 := B3.trans (x3.mono B3.size)
  clear B3 x3
  go_wp2
  go_ret
  rw [HV.out]
  exact ⟨rfl, B4⟩
end Go.Proofs.YtbpicngbjggblaaGreatDoor
