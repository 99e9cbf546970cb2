/- Contracts: strings.Cut, the document's Cut, the program's numbers. -/
import Derived.Test.YtaaobacmlaaajaaAddrsA
namespace Go.Proofs.Ytaaobacmlaaajaa
set_option linter.unusedVariables false
set_option linter.unusedSimpArgs false
open Go.ChangeShapes Go.WideShapes Go.ChangeAt Go.RowKit Go.PlainAid
set_option maxHeartbeats 1000000 in
theorem cut_ (l : List UInt8) (c : UInt8) (w : World) (hl : l.length ≤ maxLen) :
    Calls Try.prog 14 #[.string (str l), .string ⟨#[c]⟩] w fun e w' => e = .returned (.tuple #[.string (str (cut1 c l).1), .string (str (cut1 c l).2.1), .bool (cut1 c l).2.2]) ∧ Below w.heap.size w w' := by
  go_enter Try.func14, Try.ntmps14
  go_wp2_with (go_at_call 23; refine (cutIn_ l c _ hl).mono ?_; rintro e w1 ⟨rfl, b1⟩)
  go_ret3
  exact ⟨rfl, b1⟩
theorem getD_lt' (l : List UInt8) (k : Nat) (h : k < l.length) : l.getD k 0 = l[k] := by simp [List.getD, h]
theorem drop_cons' (l : List UInt8) (k : Nat) (h : k < l.length) : l.drop k = l.getD k 0 :: l.drop (k + 1) := by
  rw [getD_lt' l k h]; exact List.drop_eq_getElem_cons h
theorem take_snoc (l : List UInt8) (k : Nat) (h : k < l.length) : l.take (k + 1) = l.take k ++ [l.getD k 0] := by
  rw [getD_lt' l k h, List.take_add_one, List.getElem?_eq_getElem h]; rfl
theorem split_at (l : List UInt8) (k : Nat) (h : k < l.length) : l = l.take k ++ l.getD k 0 :: l.drop (k + 1) := by
  rw [← drop_cons' l k h, List.take_append_drop]
set_option maxHeartbeats 1000000 in
set_option maxRecDepth 100000 in
theorem cutz_ (l : List UInt8) (c : UInt8) (w : World) (hl : l.length ≤ maxLen) :
    Calls Try.prog 16 #[.string (str l), .int .u8 (c.toNat : Int)] w fun e w' => e = .returned (.tuple #[.string (str (cutZ c l).1), .string (str (cutZ c l).2.1), .bool (cutZ c l).2.2]) ∧ Below w.heap.size w w' := by
  unfold maxLen at hl
  have hs := str_size l
  have hb : ∀ k, bt (str l) k = ((l.getD k 0).toNat : Int) := str_bt l
  have he : ∀ i j, (str l).extract i j = str ((l.take j).drop i) := str_extract l
  obtain ⟨s, hS⟩ : ∃ s, s = str l := ⟨_, rfl⟩
  rw [← hS] at hs hb he ⊢
  clear hS
  have HB := Lib.hid hb
  have HE := Lib.hid he
  have HS := Lib.hid hs
  have hg := get_bt s
  have hs2 : (s.size : Int) ≤ 9223372036854775807 := by omega
  clear hb he hs
  go_enter Try.func16, Try.ntmps16
  go_wp2_with fail
  go_loop [7] (fun v => ∃ k : Nat, k ≤ s.size ∧ v = .int .i64 ((k : Int) - 1) ∧ c ∉ l.drop k) (fun v => (intOf v + 1).toNat)
  case atStart => exact ⟨s.size, Nat.le_refl _, by simp, by rw [HS.out, List.drop_length]; simp⟩
  case round =>
    obtain ⟨k, hk, rfl, hC⟩ := hrel
    have HC := Lib.hid hC
    clear hC
    match k, hk, HC with
    | 0, hk, HC =>
      have HZ := Lib.hid (cutZ_none c l HC.out)
      go_wp2
      go_ret3
      rw [HZ.out]
      exact ⟨rfl, Below.refl _ _⟩
    | k + 1, hk, HC =>
      have e0 : ((k + 1 : Nat) : Int) - 1 = (k : Int) := by omega
      rw [e0]
      have hk' : k < l.length := by have := HS.out; omega
      have g0 : (k : Int) < (s.size : Int) := by omega
      by_cases hx : l.getD k 0 = c
      · have HZ : Hid (cutZ c l = (l.take k, l.drop (k + 1), true)) := by
          have h := split_at l k hk'
          rw [hx] at h
          rw [h]
          show _ = _
          rw [cutZ_app c _ _ HC.out, ← h]
        have e1 : (bt s k == (c.toNat : Int)) = true := by rw [HB.out, hx]; simp
        have e2 : bt s k = (c.toNat : Int) := by rw [HB.out, hx]
        have e3 : s.extract 0 k = str (l.take k) := by rw [HE.out]; simp
        have e4 : s.extract (k + 1) s.size = str (l.drop (k + 1)) := by rw [HE.out, HS.out, List.take_length]
        have g1 : (k : Int) + 1 ≤ (s.size : Int) := by omega
        have g2 : ((k : Int) + 1).toNat = k + 1 := by omega
        have g3 : (k : Int) + 1 ≤ 9223372036854775807 := by omega
        have g4 : (k : Int) ≤ (s.size : Int) := by omega
        have g5 : (0 : Int) ≤ (k : Int) + 1 := by omega
        go_wp2
        go_region
        go_wp2
        go_ret3
        rw [HZ.out]
        exact ⟨rfl, drewN_below (Below.refl _ _) _⟩
      · have e1 : ¬ bt s k = (c.toNat : Int) := by
          rw [HB.out]
          intro h
          exact hx (UInt8.toNat_inj.1 (by omega))
        have HN : Hid (c ∉ l.drop k) := by
          show _
          rw [drop_cons' l k hk']
          simp only [List.mem_cons, not_or]
          exact ⟨fun h => hx h.symm, HC.out⟩
        clear hx
        go_wp2
        go_round
        case rel => exact ⟨k, by omega, rfl, HN.out⟩
        case measure => simp [intOf]
end Go.Proofs.Ytaaobacmlaaajaa
