/- Contracts of package sums, and of the document's answers for layer 2. -/
import Derived.Test.YtlcgpjeggelbaaaFieldsE
import Derived.Test.YtlcgpjeggelbaaaSumsP
namespace Go.Proofs.Ytlcgpjeggelbaaa
open Go.ChangeShapes Go.WideShapes Go.ChangeAt Go.RowKit Go.PlainAid
/-- What a callee wants of a slice of strings: its elements. -/
def RowS (w : World) (a : Option Addr) (len : Nat) (ss : List ByteArray) : Prop :=
  ss.length = len ∧ (∀ s ∈ ss, s.size ≤ maxLen) ∧ len ≤ maxLen ∧
  (len = 0 ∨ ∃ b off, a = some ⟨b, off, none⟩ ∧ b < w.heap.size ∧ ∀ t, t < len → w.cell? ⟨b, off + t, none⟩ = some (.string (ss.getD t ByteArray.empty)))
theorem RowS.kept {w w' : World} {a : Option Addr} {len : Nat} {ss : List ByteArray} (h : RowS w a len ss) (hb : Below w.heap.size w w') : RowS w' a len ss := by
  obtain ⟨h1, h2, h3, h4⟩ := h
  refine ⟨h1, h2, h3, h4.imp id ?_⟩
  rintro ⟨b, off, rfl, hlt, hc⟩
  exact ⟨b, off, rfl, Nat.lt_of_lt_of_le hlt hb.size, fun t ht => (hb.cell (by exact hlt)).trans (hc t ht)⟩
theorem RowS.mem {w : World} {a : Option Addr} {len : Nat} {ss : List ByteArray} (h : RowS w a len ss) {t : Nat} (ht : t < len) : (ss.getD t ByteArray.empty).size ≤ maxLen := by
  have hl : t < ss.length := by rw [h.1]; exact ht
  rw [getD_lt _ _ _ hl]
  exact h.2.1 _ (List.getElem_mem hl)

set_option maxHeartbeats 400000 in
theorem add_ (a b : Int) (w : World) (h0 : 0 ≤ a) (h1 : a ≤ 65535) (h2 : 0 ≤ b) (h3 : b ≤ 65535) :
    Calls Try.prog 44 #[.int .u16 a, .int .u16 b] w fun e w' => e = .returned (.int .u16 (addW a b)) ∧ w = w' := by
  have e : Hid (addW a b = if 65535 < a + b then a + b - 65535 else a + b) := rfl
  by_cases h : 65535 < a + b
  · have E : Hid (addW a b = a + b - 65535) := by rw [e.out, if_pos h]; show _ = _; rfl
    clear e
    go_enter Try.func44, Try.ntmps44
    go_wp2
    go_ret
    rw [E.out]
    exact ⟨rfl, rfl⟩
  · have E : Hid (addW a b = a + b) := by rw [e.out, if_neg h]; show _ = _; rfl
    clear e
    go_enter Try.func44, Try.ntmps44
    go_wp2
    go_ret
    rw [E.out]
    exact ⟨rfl, rfl⟩
set_option maxHeartbeats 400000 in
theorem turn_ (a : Int) (w : World) (h0 : 0 ≤ a) (h1 : a ≤ 65535) :
    Calls Try.prog 40 #[.int .u16 a] w fun e w' => e = .returned (.int .u16 (65535 - a)) ∧ w = w' := by
  go_enter Try.func40, Try.ntmps40
  go_wp2
  go_ret
  exact ⟨rfl, rfl⟩
set_option maxRecDepth 100000 in
set_option maxHeartbeats 1000000 in
theorem addWords_ (n : Int) (s : ByteArray) (w : World) (h0 : 0 ≤ n) (h1 : n ≤ 65535) (hs : s.size ≤ maxLen) :
    Calls Try.prog 39 #[.int .u16 n, .string s] w fun e w' => e = .returned (.int .u16 (addT n s)) ∧ Below w.heap.size w w' := by
  have hs' := hs
  unfold maxLen at hs'
  obtain ⟨k, r, hkr, hr⟩ : ∃ k r, s.size = 2 * k + r ∧ r < 2 := ⟨s.size / 2, s.size % 2, by omega, by omega⟩
  have e1 : (s.size : Int) % 2 = r := by omega
  have e2 : (s.size : Int) - r = 2 * k := by omega
  have HKR := Lib.hid hkr
  clear hkr
  go_enter Try.func39, Try.ntmps39
  go_wp2_with fail
  clear e1 e2
  go_loopw [0, 6] (fun v si wr => ∃ i : Nat, i ≤ k ∧ si = .int .i64 (2 * i) ∧ v = .int .u16 (addWs s n i) ∧ Below w.heap.size w wr) (fun _ si _ => 2 * k - (intOf si).toNat)
  case atStart => exact ⟨0, Nat.zero_le _, rfl, rfl, Below.refl _ _⟩
  case round =>
    obtain ⟨i, hi, rfl, rfl, B⟩ := hrel
    obtain ⟨b0, b1⟩ := addWs_bd s h0 h1 i
    by_cases hlt : i < k
    · have HN : Hid (addWs s n (i + 1) = addW (addWs s n i) (g16 s (2 * i))) := rfl
      have c0 := g16_nonneg s (2 * i)
      have c1 := g16_le s (2 * i)
      have e3 : decide (2 * (i : Int) < 2 * (k : Int)) = true := by simp; omega
      have e4 : 2 * (i : Int) + 2 ≤ 9223372036854775807 := by have := HKR.out; omega
      go_wp2_with fail
      refine (get16_yes s (2 * i) _ hs (by have := HKR.out; omega)).mono ?_; rintro e w1 ⟨rfl, B1⟩
      go_wp2_with fail
      refine (add_ _ _ _ b0 b1 c0 c1).mono ?_; rintro e w2 ⟨rfl, rfl⟩
      have B2 := B.trans (B1.mono B.size)
      clear B B1
      go_wp2
      go_roundw
      case rel => exact ⟨i + 1, by omega, by go_num, by rw [HN.out], B2⟩
      case measure => simp [intOf]; omega
    · have hik : i = k := by omega
      have e3 : decide (2 * (i : Int) < 2 * (k : Int)) = false := by simp; omega
      by_cases hr1 : r = 1
      · have e4 : decide (2 * (k : Int) < (s.size : Int)) = true := by have := HKR.out; simp; omega
        have e5 : 2 * (k : Int) ≤ (s.size : Int) := by have := HKR.out; omega
        have hx : (s.extract (2 * k) s.size).size = 1 := by rw [ByteArray.size_extract]; have := HKR.out; omega
        have hsz : (s.extract (2 * k) s.size).size + (⟨#[0]⟩ : ByteArray).size ≤ 9223372036854775807 := by rw [hx]; simp [ByteArray.size]
        have G := Lib.hid (g16_extract_end s (2 * k) (by omega))
        have hy : (s.extract (2 * k) s.size ++ ⟨#[0]⟩).size = 2 := by rw [ByteArray.size_append, hx]; rfl
        have HY := Lib.hid hy
        have HN : Hid (addT n s = addW (addWs s n i) (g16 s (2 * k))) := by
          have : half s = k + 1 := by have := HKR.out; unfold half; omega
          unfold addT; rw [this, hik]; rfl
        have c0 := g16_nonneg s (2 * k)
        have c1 := g16_le s (2 * k)
        clear hx hy hik hr1
        go_wp2_with fail
        refine (get16_yes _ 0 _ (by rw [HY.out]; unfold maxLen; omega) (by rw [HY.out]; omega)).mono ?_; rintro e w1 ⟨rfl, B1⟩
        rw [G.out]
        go_wp2_with fail
        refine (add_ _ _ _ b0 b1 c0 c1).mono ?_; rintro e w2 ⟨rfl, rfl⟩
        have B2 := B.trans (B1.mono B.size)
        clear B B1
        go_wp2
        go_ret
        rw [HN.out]
        exact ⟨rfl, B2⟩
      · have e4 : decide (2 * (k : Int) < (s.size : Int)) = false := by have := HKR.out; simp; omega
        have HN : Hid (addT n s = addWs s n i) := by
          have : half s = k := by have := HKR.out; unfold half; omega
          unfold addT; rw [this, hik]; show _ = _; rfl
        clear hik hr1
        go_wp2
        go_ret
        rw [HN.out]
        exact ⟨rfl, B⟩
end Go.Proofs.Ytlcgpjeggelbaaa
