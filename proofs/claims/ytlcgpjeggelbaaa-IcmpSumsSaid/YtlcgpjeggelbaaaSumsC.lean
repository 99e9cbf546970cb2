/- Contracts of the document's answers for layer 2. -/
import Derived.Test.YtlcgpjeggelbaaaSumsB
namespace Go.Proofs.Ytlcgpjeggelbaaa
open Go.ChangeShapes Go.WideShapes Go.ChangeAt Go.RowKit Go.PlainAid
set_option maxHeartbeats 400000 in
theorem radd_ (a b : Int) (w : World) (h0 : 0 ≤ a) (h1 : a ≤ 65535) (h2 : 0 ≤ b) (h3 : b ≤ 65535) :
    Calls Try.prog 41 #[.int .u16 a, .int .u16 b] w fun e w' => e = .returned (.int .u16 (addW a b)) ∧ w = w' := by
  have e : Hid (addW a b = if 65535 < a + b then a + b - 65535 else a + b) := rfl
  by_cases h : 65535 < a + b
  · have E : Hid (addW a b = a + b - 65535) := by rw [e.out, if_pos h]; show _ = _; rfl
    clear e
    go_enter Try.func41, Try.ntmps41
    go_wp2
    go_ret
    rw [E.out]
    exact ⟨rfl, rfl⟩
  · have E : Hid (addW a b = a + b) := by rw [e.out, if_neg h]; show _ = _; rfl
    clear e
    go_enter Try.func41, Try.ntmps41
    go_wp2
    go_ret
    rw [E.out]
    exact ⟨rfl, rfl⟩
set_option maxHeartbeats 400000 in
theorem rwordAt (s : ByteArray) (k : Nat) (w : World) (hs : s.size < maxLen) (hk : k < s.size) :
    Calls Try.prog 42 #[.string s, .int .i64 k] w fun e w' => e = .returned (.int .u16 (g16 s k)) ∧ w = w' := by
  have hs' := hs
  unfold maxLen at hs'
  have hsz : s.size + (⟨#[0]⟩ : ByteArray).size ≤ 9223372036854775807 := by show s.size + 1 ≤ _; omega
  have HY := Lib.hid (show (s ++ ⟨#[0]⟩).size = s.size + 1 by rw [ByteArray.size_append]; rfl)
  have G := Lib.hid (g16_zero_tail s k)
  go_enter Try.func42, Try.ntmps42
  go_wp2_with fail
  refine (rget16_yes _ k _ (by rw [HY.out]; unfold maxLen; omega) (by rw [HY.out]; omega)).mono ?_; rintro e w' ⟨rfl, rfl⟩
  rw [G.out]
  go_wp2
  go_ret
  exact ⟨rfl, rfl⟩
set_option maxRecDepth 100000 in
set_option maxHeartbeats 1000000 in
theorem rsum_ (a : Option Addr) (len cap : Nat) (ss : List ByteArray) (w : World) (h : RowS w a len ss) (hm : ∀ s ∈ ss, s.size < maxLen) :
    Calls Try.prog 35 #[.slice a len cap] w fun e w' => e = .returned (.int .u16 (sumV ss)) ∧ w = w' := by
  have ROW := Lib.hid h
  have hlen := h.2.2.1
  unfold maxLen at hlen
  have HV := Lib.hid (show sumV ss = 65535 - addTs 0 ss from rfl)
  have HL := Lib.hid h.1
  have HM := Lib.hid hm
  clear h hm
  go_enter Try.func35, Try.ntmps35
  go_wp2_with fail
  go_loop [3, 4] (fun v si => ∃ i : Nat, i ≤ len ∧ si = .int .i64 i ∧ v = .int .u16 (addTs 0 (ss.take i))) (fun _ si => len - (intOf si).toNat)
  case atStart => exact ⟨0, Nat.zero_le _, rfl, rfl⟩
  case round =>
    obtain ⟨i, hi, rfl, rfl⟩ := hrel
    obtain ⟨b0, b1⟩ := addTs_bd (ss.take i) (n := 0) (by omega) (by omega)
    by_cases hlt : i < len
    · obtain ⟨b, off, rfl, hb, hc⟩ : ∃ b off, a = some ⟨b, off, none⟩ ∧ b < w.heap.size ∧ ∀ t, t < len → w.cell? ⟨b, off + t, none⟩ = some (.string (ss.getD t ByteArray.empty)) := by
        rcases ROW.out.2.2.2 with h | h
        · omega
        · exact h
      have hcell := hc i hlt
      have hsz : (ss.getD i ByteArray.empty).size < maxLen := by
        have hl : i < ss.length := by rw [HL.out]; exact hlt
        rw [getD_lt _ _ _ hl]
        exact HM.out _ (List.getElem_mem hl)
      have HT := Lib.hid (take_snoc_getB ss i (by rw [HL.out]; exact hlt))
      obtain ⟨s, hs⟩ : ∃ s, s = ss.getD i ByteArray.empty := ⟨_, rfl⟩
      rw [← hs] at hcell hsz HT
      clear hc hs
      have hsz' := hsz
      unfold maxLen at hsz'
      obtain ⟨v0, hv0⟩ : ∃ v0, v0 = addTs 0 (ss.take i) := ⟨_, rfl⟩
      have HV0 := Lib.hid hv0
      rw [← hv0] at b0 b1
      rw [← hv0]
      clear hv0
      go_wp2_with fail
      go_loop [3, 5] (fun v si => ∃ j : Nat, j ≤ half s ∧ si = .int .i64 (2 * j) ∧ v = .int .u16 (addWs s v0 j)) (fun _ si => 2 * half s - (intOf si).toNat)
      case atStart => exact ⟨0, Nat.zero_le _, rfl, rfl⟩
      case round =>
        obtain ⟨j, hj, rfl, rfl⟩ := hrel
        obtain ⟨c0, c1⟩ := addWs_bd s b0 b1 j
        have HH := Lib.hid (show half s = (s.size + 1) / 2 from rfl)
        by_cases hjt : j < half s
        · have HN : Hid (addWs s v0 (j + 1) = addW (addWs s v0 j) (g16 s (2 * j))) := rfl
          have d0 := g16_nonneg s (2 * j)
          have d1 := g16_le s (2 * j)
          have e4 : decide (2 * (j : Int) < (s.size : Int)) = true := by have := HH.out; simp; omega
          have e5 : 2 * (j : Int) + 2 ≤ 9223372036854775807 := by have := HH.out; omega
          go_wp2_with fail
          refine (rwordAt s (2 * j) _ hsz (by have := HH.out; omega)).mono ?_; rintro e w' ⟨rfl, rfl⟩
          go_wp2_with fail
          refine (radd_ _ _ _ c0 c1 d0 d1).mono ?_; rintro e w' ⟨rfl, rfl⟩
          go_wp2
          go_round
          case rel => exact ⟨j + 1, by omega, by go_num, by rw [HN.out]⟩
          case measure => simp [intOf]; omega
        · have e4 : decide (2 * (j : Int) < (s.size : Int)) = false := by have := HH.out; simp; omega
          have HJ : Hid (addWs s v0 j = addTs 0 (ss.take (i + 1))) := by
            rw [HT.out, addTs_snoc, ← HV0.out]; show _ = _; unfold addT; congr 1; omega
          go_wp2
          go_round
          case rel => exact ⟨i + 1, by omega, by go_num, by rw [HJ.out]⟩
          case measure => simp [intOf]; omega
    · have HT : Hid (ss.take i = ss) := by have := HL.out; show _ = _; rw [List.take_of_length_le]; omega
      go_wp2
      go_ret
      rw [HV.out]
      exact ⟨by rw [HT.out]; rfl, rfl⟩
set_option maxHeartbeats 400000 in
theorem rholds_ (a : Option Addr) (len cap : Nat) (ss : List ByteArray) (w : World) (h : RowS w a len ss) (hm : ∀ s ∈ ss, s.size < maxLen) :
    Calls Try.prog 33 #[.slice a len cap] w fun e w' => e = .returned (.bool (holdsV ss)) ∧ w = w' := by
  have hb := sumV_bd ss
  have HM := Lib.hid hm
  clear hm
  have H := Lib.hid (show holdsV ss = decide (sumV ss = 0) from rfl)
  go_enter Try.func33, Try.ntmps33
  go_wp2_with fail
  refine (rsum_ _ _ _ _ _ h HM.out).mono ?_; rintro e w1 ⟨rfl, rfl⟩
  by_cases h0 : sumV ss = 0
  · rw [h0]
    go_wp2
    go_ret
    rw [H.out, h0]
    exact ⟨rfl, rfl⟩
  · have e : (sumV ss == 0) = false := by simp [h0]
    go_wp2
    go_ret
    rw [H.out]
    rw [show decide (sumV ss = 0) = false by simp [h0]]
    exact ⟨rfl, rfl⟩
end Go.Proofs.Ytlcgpjeggelbaaa
