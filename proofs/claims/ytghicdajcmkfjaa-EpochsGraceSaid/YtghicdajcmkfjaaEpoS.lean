/- Layer 14: within, same; the chapter's examples. -/
import Derived.Test.YtghicdajcmkfjaaEpoC
namespace Go.Proofs.Ytghicdajcmkfjaa
set_option linter.unusedVariables false
set_option linter.unusedSimpArgs false
open Go.ChangeShapes Go.WideShapes Go.ChangeAt Go.RowKit Go.PlainAid
attribute [local go_sem ↓] Go.wp_at_zero Go.wp_at_succ
/-- A number, from 0 to below another one. -/
def wN (n : Int) (m : Nat) : Nat := (n % 18446744073709551616).toNat % m
theorem wN_lt (n : Int) {m : Nat} (h : 1 ≤ m) : wN n m < m := Nat.mod_lt _ h
theorem within_facts (n : Int) {m : Nat} (h1 : 1 ≤ m) (h2 : m ≤ 1000) : ∃ A : Nat, IntKind.u64.wrap n = (A : Int) ∧ IntKind.u64.wrap (m : Int) = (m : Int) ∧ (A : Int).tmod (m : Int) = ((wN n m : Nat) : Int) ∧ (A : Int) % (m : Int) = ((wN n m : Nat) : Int) ∧ ((m : Int) == 0) = false ∧ IntKind.i64.wrap ((wN n m : Nat) : Int) = ((wN n m : Nat) : Int) := by
  have h3 := wN_lt n h1
  have e : (n % 18446744073709551616) = (((n % 18446744073709551616).toNat : Nat) : Int) := (Int.toNat_of_nonneg (Int.emod_nonneg _ (by omega))).symm
  refine ⟨(n % 18446744073709551616).toNat, ?_, ?_, ?_, ?_, beq_false_of_ne (by omega), IntWalk.i64_in _ (by omega)⟩
  · rw [IntKind.wrap_u64]; exact e
  · rw [IntKind.wrap_u64]; omega
  · rw [Int.tmod_eq_emod_of_nonneg (by omega)]; exact (Int.natCast_emod _ m).symm
  · exact (Int.natCast_emod _ m).symm
set_option maxHeartbeats 1000000 in
set_option maxRecDepth 100000 in
theorem within_ (n : Int) (m : Nat) (w : World) (h1 : 1 ≤ m) (h2 : m ≤ 1000) : Calls Try.prog 10 #[.int .i64 n, .int .i64 (m : Int)] w fun e w' => e = .returned (.int .i64 ((wN n m : Nat) : Int)) ∧ w = w' := by
  obtain ⟨A, e1, e2, e3, e4, e5, e6⟩ := within_facts n h1 h2
  have e7 : ¬ m = 0 := by omega
  generalize wN n m = z at *
  clear h1 h2
  go_enter Try.func10, Try.ntmps10
  go_wp2
  go_ret
  exact ⟨rfl, rfl⟩
set_option maxHeartbeats 1000000 in
set_option maxRecDepth 100000 in
theorem same14_ (a b : Option Addr) (ca cb len : Nat) (zs : List Int) (w : World) (hl : len ≤ 256) (ha : Row .i64 w a len zs) (hb : Row .i64 w b len zs) : Says Try.prog 17 #[.slice a len ca, .slice b len cb] w (.bool true) := by
  show Calls _ _ _ _ _
  go_enter Try.func17, Try.ntmps17
  go_upto_region 4 with fail
  go_loopw [5] (fun si wr => ∃ i : Nat, i ≤ len ∧ si = .int .i64 (i : Int) ∧ Below w.heap.size w wr) (fun si _ => len - (intOf si).toNat)
  case atStart => exact ⟨0, Nat.zero_le _, rfl, Below.refl _ _⟩
  case round =>
    obtain ⟨k, hk, rfl, br⟩ := hrel
    have EW := Lib.hid (step_14 (j := k) (Nat.lt_of_le_of_lt (Nat.le_trans hk hl) (by decide)))
    by_cases hlt : k < len
    · obtain ⟨ba, oa, rfl, hla, hca⟩ := ha.2.resolve_left (fun e => by omega)
      obtain ⟨bb, ob, rfl, hlb, hcb⟩ := hb.2.resolve_left (fun e => by omega)
      have y1 := (br.cell (p := ⟨ba, oa + k, none⟩) hla).trans (hca k hlt)
      have y2 := (br.cell (p := ⟨bb, ob + k, none⟩) hlb).trans (hcb k hlt)
      have t1 : decide ((k : Int) < (len : Int)) = true := by simpa using hlt
      have k0 : (0 : Int) ≤ (k : Int) := Int.natCast_nonneg k
      have k1 : (k : Int) < (len : Int) := Int.ofNat_lt.2 hlt
      have HL := Lib.hid hlt
      clear hlt hk hl hca hcb hla hlb ha hb
      generalize zs.getD k 0 = s at y1 y2
      go_upto_region 6 with fail
      go_region
      have bk := br.drew
      generalize wr.drew = wy at bk ⊢
      clear y1 y2
      go_wp2
      go_roundw
      case rel => exact ⟨k + 1, HL.out, by simp [EW.out], bk⟩
      case measure => first | exact step_meas14 EW.out (step_less14 HL.out) | (simp [EW.out]; exact step_less14 HL.out) | exact step_less14 HL.out
    · obtain rfl : k = len := Nat.le_antisymm hk (Nat.le_of_not_lt hlt)
      have t1 : decide ((k : Int) < (k : Int)) = false := by simp
      clear hlt hk ha hb
      go_wp2
      go_ret
      exact ⟨rfl, br⟩
end Go.Proofs.Ytghicdajcmkfjaa
