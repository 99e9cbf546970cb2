/- Contracts of package sums: Sum, Holds, Updates. -/
import Derived.Test.YtdddgbpiabimbaaDoorSumsA
namespace Go.Proofs.YtdddgbpiabimbaaDoor
open Go.ChangeShapes Go.WideShapes Go.ChangeAt Go.RowKit Go.PlainAid
theorem take_snoc_getB (ss : List ByteArray) (k : Nat) (h : k < ss.length) : ss.take (k + 1) = ss.take k ++ [ss.getD k ByteArray.empty] := by
  rw [List.take_succ_eq_append_getElem h]; simp [List.getD, h]
set_option maxRecDepth 100000 in
set_option maxHeartbeats 1000000 in
theorem sum_ (a : Option Addr) (len cap : Nat) (ss : List ByteArray) (w : World) (h : RowS w a len ss) :
    Calls Tryd.prog 10 #[.slice a len cap] w fun e w' => e = .returned (.int .u16 (sumV ss)) ∧ Below w.heap.size w w' := by
  have ROW := Lib.hid h
  have hlen := h.2.2.1
  unfold maxLen at hlen
  have HV := Lib.hid (show sumV ss = 65535 - addTs 0 ss from rfl)
  have HL := Lib.hid h.1
  clear h
  go_enter Tryd.func10, Tryd.ntmps10
  go_wp2_with fail
  go_loopw [3, 8] (fun v si wr => ∃ i : Nat, i ≤ len ∧ si = .int .i64 i ∧ v = .int .u16 (addTs 0 (ss.take i)) ∧ Below w.heap.size w wr) (fun _ si _ => len - (intOf si).toNat)
  case atStart => exact ⟨0, Nat.zero_le _, rfl, rfl, Below.refl _ _⟩
  case round =>
    obtain ⟨i, hi, rfl, rfl, B⟩ := hrel
    obtain ⟨b0, b1⟩ := addTs_bd (ss.take i) (n := 0) (by omega) (by omega)
    by_cases hlt : i < len
    · obtain ⟨b, off, rfl, hb, hc⟩ : ∃ b off, a = some ⟨b, off, none⟩ ∧ b < w.heap.size ∧ ∀ t, t < len → w.cell? ⟨b, off + t, none⟩ = some (.string (ss.getD t ByteArray.empty)) := by
        rcases ROW.out.2.2.2 with h | h
        · omega
        · exact h
      have hcell := (B.cell (by exact hb)).trans (hc i hlt)
      have hsz := ROW.out.mem hlt
      have HT := Lib.hid (take_snoc_getB ss i (by rw [HL.out]; exact hlt))
      obtain ⟨s, hs⟩ : ∃ s, s = ss.getD i ByteArray.empty := ⟨_, rfl⟩
      rw [← hs] at hcell hsz HT
      clear hc hs
      go_wp2_with fail
      refine (addWords_ _ s _ b0 b1 hsz).mono ?_; rintro e w1 ⟨rfl, B1⟩
      have B2 := B.trans (B1.mono B.size)
      clear B B1 hcell
      go_wp2
      go_roundw
      case rel => exact ⟨i + 1, by omega, by go_num, by rw [HT.out, addTs_snoc], B2⟩
      case measure => simp [intOf]; omega
    · have HT : Hid (ss.take i = ss) := by have := HL.out; show _ = _; rw [List.take_of_length_le]; omega
      go_wp2_with fail
      refine (turn_ _ _ b0 b1).mono ?_; rintro e w1 ⟨rfl, rfl⟩
      go_wp2
      go_ret
      rw [HV.out]
      exact ⟨by rw [HT.out]; rfl, B⟩
set_option maxHeartbeats 400000 in
theorem holds_ (a : Option Addr) (len cap : Nat) (ss : List ByteArray) (w : World) (h : RowS w a len ss) :
    Calls Tryd.prog 9 #[.slice a len cap] w fun e w' => e = .returned (.bool (holdsV ss)) ∧ Below w.heap.size w w' := by
  have hb := sumV_bd ss
  have H := Lib.hid (show holdsV ss = decide (sumV ss = 0) from rfl)
  go_enter Tryd.func9, Tryd.ntmps9
  go_wp2_with fail
  refine (sum_ _ _ _ _ _ h).mono ?_; rintro e w1 ⟨rfl, B1⟩
  by_cases h0 : sumV ss = 0
  · rw [h0]
    go_wp2
    go_ret
    rw [H.out, h0]
    exact ⟨rfl, B1⟩
  · have e : (sumV ss == 0) = false := by simp [h0]
    go_wp2
    go_ret
    rw [H.out]
    rw [show decide (sumV ss = 0) = false by simp [h0]]
    exact ⟨rfl, B1⟩
set_option maxRecDepth 100000 in
set_option maxHeartbeats 1000000 in
theorem updates_ (n : Int) (f t : ByteArray) (w : World) (h0 : 0 ≤ n) (h1 : n ≤ 65535) (hf : f.size ≤ maxLen) (ht : t.size ≤ maxLen) :
    Calls Tryd.prog 6 #[.int .u16 n, .string f, .string t] w fun e w' => e = .returned (.int .u16 (updV n f t)) ∧ Below w.heap.size w w' := by
  have hf' := hf
  have ht' := ht
  unfold maxLen at hf' ht'
  have HV := Lib.hid (show updV n f t = if f.size ≠ t.size ∨ f.size % 2 = 1 then n else updWs n f t (f.size / 2) from rfl)
  by_cases hz : f.size = t.size
  · have e1 : (!decide ((f.size : Int) = (t.size : Int))) = false := by simp; omega
    have e1' : ((f.size : Int) != (t.size : Int)) = false := by simp; omega
    by_cases hodd : f.size % 2 = 1
    · have E : Hid (updV n f t = n) := by rw [HV.out, if_pos (.inr hodd)]; show _ = _; rfl
      have e2 : (f.size : Int) % 2 = 1 := by omega
      clear HV hodd hz
      go_enter Tryd.func6, Tryd.ntmps6
      go_wp2
      go_ret
      rw [E.out]
      exact ⟨rfl, Below.refl _ _⟩
    · have E : Hid (updV n f t = updWs n f t (f.size / 2)) := by rw [HV.out, if_neg (by omega)]; show _ = _; rfl
      have e2 : (f.size : Int) % 2 = 0 := by omega
      obtain ⟨k, hk⟩ : ∃ k, f.size = 2 * k := ⟨f.size / 2, by omega⟩
      have HK := Lib.hid hk
      have HZ := Lib.hid hz
      have e3 : (f.size : Int) = 2 * (k : Int) := by omega
      have e3' : (t.size : Int) = 2 * (k : Int) := by omega
      clear e1 e1' e2
      have e2 : (2 * (k : Int)) % 2 = 0 := by omega
      clear HV hodd hz hk
      go_enter Tryd.func6, Tryd.ntmps6
      go_wp2_with fail
      go_loopw [0, 7] (fun v si wr => ∃ i : Nat, i ≤ k ∧ si = .int .i64 (2 * i) ∧ v = .int .u16 (updWs n f t i) ∧ Below w.heap.size w wr) (fun _ si _ => 2 * k - (intOf si).toNat)
      case atStart => exact ⟨0, Nat.zero_le _, rfl, rfl, Below.refl _ _⟩
      case round =>
        obtain ⟨i, hi, rfl, rfl, B⟩ := hrel
        obtain ⟨b0, b1⟩ := updWs_bd f t h0 h1 i
        by_cases hlt : i < k
        · have HN : Hid (updWs n f t (i + 1) = updW (updWs n f t i) (g16 f (2 * i)) (g16 t (2 * i))) := rfl
          have c0 := g16_nonneg f (2 * i)
          have c1 := g16_le f (2 * i)
          have d0 := g16_nonneg t (2 * i)
          have d1 := g16_le t (2 * i)
          have e4 : decide (2 * (i : Int) < 2 * (k : Int)) = true := by simp; omega
          have e5 : 2 * (i : Int) + 2 ≤ 9223372036854775807 := by omega
          go_wp2_with fail
          refine (get16_yes f (2 * i) _ hf (by have := HK.out; omega)).mono ?_; rintro e w1 ⟨rfl, B1⟩
          go_wp2_with fail
          refine (get16_yes t (2 * i) _ ht (by have := HK.out; have := HZ.out; omega)).mono ?_; rintro e w2 ⟨rfl, B2⟩
          go_wp2_with fail
          refine (update_ _ _ _ _ b0 b1 c0 c1 d0 d1).mono ?_; rintro e w3 ⟨rfl, rfl⟩
          have B3 := (B.trans (B1.mono B.size)).trans (B2.mono (by have := B.size; have := B1.size; omega))
          clear B B1 B2
          go_wp2
          go_roundw
          case rel => exact ⟨i + 1, by omega, by go_num, by rw [HN.out], B3⟩
          case measure => simp [intOf]; omega
        · have hik : i = k := by omega
          have E2 : Hid (updV n f t = updWs n f t i) := by have := HK.out; rw [E.out, hik]; show _ = _; congr 1; omega
          have e4 : decide (2 * (i : Int) < 2 * (k : Int)) = false := by simp; omega
          clear hik E
          go_wp2
          go_ret
          rw [E2.out]
          exact ⟨rfl, B⟩
  · have E : Hid (updV n f t = n) := by rw [HV.out, if_pos (.inl hz)]; show _ = _; rfl
    have e1 : (!decide ((f.size : Int) = (t.size : Int))) = true := by simp; omega
    have e1' : ((f.size : Int) != (t.size : Int)) = true := by simp; omega
    have e2 : ¬ (f.size : Int) = (t.size : Int) := by omega
    clear HV hz
    go_enter Tryd.func6, Tryd.ntmps6
    go_wp2
    go_ret
    rw [E.out]
    exact ⟨rfl, Below.refl _ _⟩
end Go.Proofs.YtdddgbpiabimbaaDoor
