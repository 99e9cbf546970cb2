/- Contracts of package sums: Sum, Holds, Updates. -/
import Derived.Test.YtlcgpjeggelbaaaDoorSumsA
namespace Go.Proofs.YtlcgpjeggelbaaaDoor
open Go.ChangeShapes Go.WideShapes Go.ChangeAt Go.RowKit Go.PlainAid
theorem take_snoc_getB (ss : List ByteArray) (k : Nat) (h : k < ss.length) : ss.take (k + 1) = ss.take k ++ [ss.getD k ByteArray.empty] := by
  rw [List.take_succ_eq_append_getElem h]; simp [List.getD, h]
set_option maxRecDepth 100000 in
set_option maxHeartbeats 1000000 in
theorem sum_ (a : Option Addr) (len cap : Nat) (ss : List ByteArray) (w : World) (h : RowS w a len ss) :
    Calls Tryd.prog 15 #[.slice a len cap] w fun e w' => e = .returned (.int .u16 (sumV ss)) ∧ Below w.heap.size w w' := by
  have ROW := Lib.hid h
  have hlen := h.2.2.1
  unfold maxLen at hlen
  have HV := Lib.hid (show sumV ss = 65535 - addTs 0 ss from rfl)
  have HL := Lib.hid h.1
  clear h
  go_enter Tryd.func15, Tryd.ntmps15
  go_wp2_with fail
  go_loopw [3, 8] (fun v si wr => ∃ i : Nat, i ≤ len ∧ si = .int .i64 i ∧ v = .int .u16 (addTs 0 (ss.take i)) ∧ Below w.heap.size w wr) (fun _ si _ => len - (intOf si).toNat)
  case atStart => exact ⟨0, Nat.zero_le _, rfl, rfl, Below.refl _ _⟩
  case round =>
    obtain ⟨i, hi, rfl, rfl, B⟩ := hrel
    obtain ⟨b0, b1⟩ := addTs_bd (ss.take i) (n := 0) (by omega) (by omega)
    by_cases hlt : i < len
    · obtain ⟨b, off, rfl, hb, hc⟩ : ∃ b off, a = some ⟨b, off, none⟩ ∧ b < w.heap.size ∧ ∀ t, t < len → w.cell? ⟨b, off + t, none⟩ = some (.string (ss.getD t ByteArray.empty)) := by
        rcases ROW.out.2.2.2 with h | h
        · omega
        · exact h
      have hcell := (B.cell (by exact hb)).trans (hc i hlt)
      have hsz := ROW.out.mem hlt
      have HT := Lib.hid (take_snoc_getB ss i (by rw [HL.out]; exact hlt))
      obtain ⟨s, hs⟩ : ∃ s, s = ss.getD i ByteArray.empty := ⟨_, rfl⟩
      rw [← hs] at hcell hsz HT
      clear hc hs
      go_wp2_with fail
      refine (addWords_ _ s _ b0 b1 hsz).mono ?_; rintro e w1 ⟨rfl, B1⟩
      have B2 := B.trans (B1.mono B.size)
      clear B B1 hcell
      go_wp2
      go_roundw
      case rel => exact ⟨i + 1, by omega, by go_num, by rw [HT.out, addTs_snoc], B2⟩
      case measure => simp [intOf]; omega
    · have HT : Hid (ss.take i = ss) := by have := HL.out; show _ = _; rw [List.take_of_length_le]; omega
      go_wp2_with fail
      refine (turn_ _ _ b0 b1).mono ?_; rintro e w1 ⟨rfl, rfl⟩
      go_wp2
      go_ret
      rw [HV.out]
      exact ⟨by rw [HT.out]; rfl, B⟩
set_option maxHeartbeats 400000 in
theorem holds_ (a : Option Addr) (len cap : Nat) (ss : List ByteArray) (w : World) (h : RowS w a len ss) :
    Calls Tryd.prog 30 #[.slice a len cap] w fun e w' => e = .returned (.bool (holdsV ss)) ∧ Below w.heap.size w w' := by
  have hb := sumV_bd ss
  have H := Lib.hid (show holdsV ss = decide (sumV ss = 0) from rfl)
  go_enter Tryd.func30, Tryd.ntmps30
  go_wp2_with fail
  refine (sum_ _ _ _ _ _ h).mono ?_; rintro e w1 ⟨rfl, B1⟩
  by_cases h0 : sumV ss = 0
  · rw [h0]
    go_wp2
    go_ret
    rw [H.out, h0]
    exact ⟨rfl, B1⟩
  · have e : (sumV ss == 0) = false := by simp [h0]
    go_wp2
    go_ret
    rw [H.out]
    rw [show decide (sumV ss = 0) = false by simp [h0]]
    exact ⟨rfl, B1⟩
end Go.Proofs.YtlcgpjeggelbaaaDoor
