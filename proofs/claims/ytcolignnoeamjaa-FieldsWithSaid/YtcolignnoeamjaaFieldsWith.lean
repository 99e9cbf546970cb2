/- The walk of FieldsWith. -/
import Derived.Test.YtcolignnoeamjaaFieldsE
import Derived.Test.YtcolignnoeamjaaFieldsQ
import Derived.StillTailTactics
namespace Go.Proofs.Ytcolignnoeamjaa.FieldsWith
open Go.ChangeShapes Go.WideShapes Go.ChangeAt Go.RowKit Go.PlainAid
set_option maxRecDepth 100000 in
set_option maxHeartbeats 1000000 in
theorem first (s : ByteArray) (n : Int) (p : ByteArray) (w : World) (hs : s.size ≤ maxLen) (n0 : 0 ≤ n) (n1 : n ≤ 65535) (hp : p.size ≤ maxLen) (h : 400 < s.size ∨ s.size < p.size) :
    Calls Try.prog 6 #[.string s, .int .u16 n, .string p] w fun e w' => e = .returned (.bool true) ∧ Below w.heap.size w w' := by
  have hs' := hs
  have hp' := hp
  unfold maxLen at hs' hp'
  have hok : okAt s n p.size = decide (n ≤ (s.size : Int) - p.size) := by unfold okAt; simp [n0]
  by_cases h1 : 400 < s.size
  · have e1 : decide ((400 : Int) < s.size) = true := by simp; omega
    clear h
    go_enter Try.func6, Try.ntmps6
    go_wp2_with fail
    refine (with_any _ _ _ _ hs hp).mono ?_; rintro e w1 ⟨rfl, b1⟩
    go_wp2_with fail
    refine (fields_laid _).mono ?_; rintro e w2 ⟨rfl, b2⟩
    have B2 := b1.trans (b2.mono b1.size)
    clear b1 b2
    go_wp2
    go_ret
    exact ⟨rfl, B2⟩
  · have e1 : decide ((400 : Int) < s.size) = false := by simp; omega
    have e2 : decide (s.size < p.size) = true := by simp; omega
    clear h
    go_enter Try.func6, Try.ntmps6
    go_wp2_with fail
    refine (with_any _ _ _ _ hs hp).mono ?_; rintro e w1 ⟨rfl, b1⟩
    go_wp2_with fail
    refine (fields_laid _).mono ?_; rintro e w2 ⟨rfl, b2⟩
    have B2 := b1.trans (b2.mono b1.size)
    clear b1 b2
    go_wp2
    go_ret
    exact ⟨rfl, B2⟩
set_option maxRecDepth 100000 in
set_option maxHeartbeats 1000000 in
theorem walk (s : ByteArray) (n : Int) (p : ByteArray) (w : World) (hs : s.size ≤ maxLen) (hn : (Lit.int .u16 n).wf = true) (hp : p.size ≤ maxLen) :
    Calls Try.prog 6 #[.string s, .int .u16 n, .string p] w fun e w' => e = .returned (.bool true) ∧ Below w.heap.size w w' := by
  obtain ⟨n0, n1⟩ := bounds_u16 hn
  by_cases hf : 400 < s.size ∨ s.size < p.size
  · exact first s n p w hs n0 n1 hp hf
  clear hn
  have e1 : decide ((400 : Int) < s.size) = false := by simp; omega
  have e2 : decide (s.size < p.size) = false := by simp; omega
  have hk0 : 0 ≤ n % ((s.size : Int) - p.size + 1) := Int.emod_nonneg _ (by omega)
  have hk1 : n % ((s.size : Int) - p.size + 1) < (s.size : Int) - p.size + 1 := Int.emod_lt_of_pos _ (by omega)
  obtain ⟨k, hk⟩ := Int.eq_ofNat_of_zero_le hk0
  have hkp : k + p.size ≤ s.size := by omega
  have HK := Lib.hid hkp
  have hq := size_extract' s k (k + p.size) (by omega) hkp
  have hT := size_withB s k p hkp
  have hU := withB_back s k p hkp
  have hA := withB_ahead s k p hkp
  have hB := withB_there s k p hkp
  have hC := withB_behind s k p hkp
  have j1 : (k : Int) + (p.size : Int) ≤ (s.size : Int) := by omega
  have j2 : (k : Int) ≤ (s.size : Int) := by omega
  have j3 : 0 ≤ (k : Int) + (p.size : Int) := by omega
  have j4 : (k : Int) ≤ (k : Int) + (p.size : Int) := by omega
  have j5 : ((k : Int) + (p.size : Int)).toNat = k + p.size := by omega
  have j6 : IntKind.i64.wrap ((k : Int) + p.size) = (k : Int) + p.size := IntWalk.i64_in _ (by omega)
  have HQ := Lib.hid hq
  have HT := Lib.hid hT
  have j7 : s.size ≤ 400 := by omega
  have j8 : p.size ≤ s.size := by omega
  have j9 : (((s.size : Int) - p.size + 1) == 0) = false := by simp; omega
  clear hk0 hk1 hf hkp hq
  go_enter Try.func6, Try.ntmps6
  go_wp2_with fail
  refine (with_yes _ _ k _ hs hp HK.out).mono ?_; rintro e w1 ⟨rfl, b1⟩
  go_wp2_with fail
  refine (with_yes _ _ k _ (by rw [HT.out]; exact hs) (by rw [HQ.out]; omega) (by rw [HT.out, HQ.out]; have := HK.out; omega)).mono ?_; rintro e w2 ⟨rfl, b2⟩
  have B2 := b1.trans (b2.mono b1.size)
  clear b1 b2
  go_wp2_with fail
  clear hU
  go_still_tail 34, (by kernel_rfl)
  change wpList _ _ _ _ _ w2.drew
  have B3 : Below w.heap.size w w2.drew := B2.drew
  generalize w2.drew = w3 at B3
  clear B2
  go_wp2_with fail
  refine (fields_laid _).mono ?_; rintro e w4 ⟨rfl, b4⟩
  have B4 := B3.trans (b4.mono B3.size)
  clear b4 B3
  go_wp2
  go_ret
  exact ⟨rfl, B4⟩
end Go.Proofs.Ytcolignnoeamjaa.FieldsWith
