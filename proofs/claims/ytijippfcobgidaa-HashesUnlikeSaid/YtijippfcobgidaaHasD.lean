/- Contracts of the document's Number, Of, Both (layer 12). -/
import Derived.Test.YtijippfcobgidaaHasC
import Derived.Laws.Bits64
namespace Go.Proofs.Ytijippfcobgidaa
set_option linter.unusedVariables false
set_option linter.unusedSimpArgs false
open Go.ChangeShapes Go.WideShapes Go.ChangeAt Go.RowKit Go.PlainAid
attribute [local go_sem ↓] Go.wp_at_zero Go.wp_at_succ
theorem bits_xor_u32_nat (a b : Nat) (ha : a < 4294967296) (hb : b < 4294967296) : bits .xor .u32 (a : Int) (b : Int) = ((a ^^^ b : Nat) : Int) := by
  have hx : a ^^^ b < 2 ^ 32 := Nat.xor_lt_two_pow (by omega) (by omega)
  have h1 : (BitVec.ofInt 32 (a : Int)).toNat = a := by
    rw [BitVec.ofInt_natCast, BitVec.toNat_ofNat]; exact Nat.mod_eq_of_lt (by omega)
  have h2 : (BitVec.ofInt 32 (b : Int)).toNat = b := by
    rw [BitVec.ofInt_natCast, BitVec.toNat_ofNat]; exact Nat.mod_eq_of_lt (by omega)
  show IntKind.u32.wrap ((BitVec.ofInt 32 (a : Int) ^^^ BitVec.ofInt 32 (b : Int)).toNat : Int) = _
  rw [BitVec.toNat_xor, h1, h2]
  exact IntWalk.u32_in _ (by omega)
theorem bits_xor_u16_nat (a b : Nat) (ha : a < 65536) (hb : b < 65536) : bits .xor .u16 (a : Int) (b : Int) = ((a ^^^ b : Nat) : Int) := by
  have hx : a ^^^ b < 2 ^ 16 := Nat.xor_lt_two_pow (by omega) (by omega)
  have h1 : (BitVec.ofInt 16 (a : Int)).toNat = a := by
    rw [BitVec.ofInt_natCast, BitVec.toNat_ofNat]; exact Nat.mod_eq_of_lt (by omega)
  have h2 : (BitVec.ofInt 16 (b : Int)).toNat = b := by
    rw [BitVec.ofInt_natCast, BitVec.toNat_ofNat]; exact Nat.mod_eq_of_lt (by omega)
  show IntKind.u16.wrap ((BitVec.ofInt 16 (a : Int) ^^^ BitVec.ofInt 16 (b : Int)).toNat : Int) = _
  rw [BitVec.toNat_xor, h1, h2]
  exact IntWalk.u16_in _ (by omega)
theorem bits_xor_u8_nat (a b : Nat) (ha : a < 256) (hb : b < 256) : bits .xor .u8 (a : Int) (b : Int) = ((a ^^^ b : Nat) : Int) := by
  have hx : a ^^^ b < 2 ^ 8 := Nat.xor_lt_two_pow (by omega) (by omega)
  have h1 : (BitVec.ofInt 8 (a : Int)).toNat = a := by
    rw [BitVec.ofInt_natCast, BitVec.toNat_ofNat]; exact Nat.mod_eq_of_lt (by omega)
  have h2 : (BitVec.ofInt 8 (b : Int)).toNat = b := by
    rw [BitVec.ofInt_natCast, BitVec.toNat_ofNat]; exact Nat.mod_eq_of_lt (by omega)
  show IntKind.u8.wrap ((BitVec.ofInt 8 (a : Int) ^^^ BitVec.ofInt 8 (b : Int)).toNat : Int) = _
  rw [BitVec.toNat_xor, h1, h2]
  exact IntWalk.u8_in _ (by omega)
/-- The number behind the first bytes. -/
def haPre (l : List Nat) (i : Nat) : Nat := (l.take i).foldl haStep 0
theorem haPre_zero (l : List Nat) : haPre l 0 = 0 := rfl
theorem haPre_lt (l : List Nat) (i : Nat) : haPre l i < 4294967296 := fold_lt _ 0 (by omega)
theorem haPre_succ (l : List Nat) (i : Nat) (h : i < l.length) : haStep (haPre l i) (l.getD i 0) = haPre l (i + 1) := by
  unfold haPre
  rw [List.take_add_one, List.foldl_append]
  simp [List.getD, h]
theorem haPre_all (l : List Nat) (i : Nat) (h : l.length ≤ i) : haFin (haPre l i) = haNum l := by unfold haPre haNum; rw [List.take_of_length_le h]
theorem haBytes_at {pr sa sp da dp i : Nat} (h0 : pr < 256) (hi : i < 13) : (haBytes pr sa sp da dp).getD i 0 < 256 := by
  have hl : i < (haBytes pr sa sp da dp).length := hi
  refine haBytes_lt (sa := sa) (sp := sp) (da := da) (dp := dp) h0 ?_
  rw [show (haBytes pr sa sp da dp).getD i 0 = (haBytes pr sa sp da dp)[i] by simp [List.getD, hl]]
  exact List.getElem_mem _
/-- A tuple's number. -/
def haT (pr sa sp da dp : Nat) : Nat := haNum (haBytes pr sa sp da dp)
set_option maxHeartbeats 2000000 in
set_option maxRecDepth 100000 in
theorem rnum12_ (pr sa sp da dp : Nat) (w : World) (h0 : pr < 256) (h1 : sa < 4294967296) (h2 : sp < 65536) (h3 : da < 4294967296) (h4 : dp < 65536) :
    Calls Try.prog 13 #[.agg #[.int .u8 (pr : Int), .int .u32 (sa : Int), .int .u16 (sp : Int), .int .u32 (da : Int), .int .u16 (dp : Int)]] w fun e w' => e = .returned (.int .u64 (haT pr sa sp da dp : Int)) ∧ Below w.heap.size w w' := by
  have cb := fun u => rbytes12_ pr sa sp da dp u h0 h1 h2 h3 h4
  have hz := haS_size pr sa sp da dp
  have hbt := fun k => haS_bt pr sa sp da dp k h0
  have hlt : ∀ i, i < 13 → (haBytes pr sa sp da dp).getD i 0 < 256 := fun i hi => haBytes_at h0 hi
  have HA : Hid (∀ i, 13 ≤ i → haFin (haPre (haBytes pr sa sp da dp) i) = haT pr sa sp da dp) := fun i hi => haPre_all _ i hi
  have HS : Hid (∀ i, i < 13 → haStep (haPre (haBytes pr sa sp da dp) i) ((haBytes pr sa sp da dp).getD i 0) = haPre (haBytes pr sa sp da dp) (i + 1)) := fun i hi => haPre_succ _ i hi
  have H0 : Hid (haPre (haBytes pr sa sp da dp) 0 = 0) := rfl
  have HL : Hid (∀ i, haPre (haBytes pr sa sp da dp) i < 4294967296) := fun i => haPre_lt _ i
  generalize haBytes pr sa sp da dp = L at *
  generalize haS pr sa sp da dp = S at *
  have HZ := Lib.hid hz
  have HBT := Lib.hid hbt
  have HLT := Lib.hid hlt
  clear hz hbt hlt
  go_enter Try.func13, Try.ntmps13
  go_wp2_with fail
  refine (cb _).mono ?_; rintro e w1 ⟨rfl, b1⟩
  have B1 := ((Below.refl _ _).alloc (Nat.le_refl _) _).trans (b1.mono (Nat.le_of_lt (by simp)))
  clear b1 cb
  go_wp2_with fail
  go_loop [4, 5] (fun v si => ∃ (i : Nat), i ≤ 13 ∧ si = .int .i64 (i : Int) ∧ v = .int .u64 (haPre L i : Int)) (fun _ si => 13 - (intOf si).toNat)
  case atStart => exact ⟨0, by omega, rfl, by rw [H0.out]; rfl⟩
  case round =>
    obtain ⟨i, hi, rfl, rfl⟩ := hrel
    by_cases hlt : i < 13
    · have hb := get_bt S
      have i1 : (i : Int) < (S.size : Int) := by rw [HZ.out]; omega
      have i0 : (0 : Int) ≤ (i : Int) := by omega
      have hn := HL.out i
      have hc := HLT.out i hlt
      have hv := HBT.out i
      have hst := HS.out i hlt
      generalize haPre L i = n at *
      generalize L.getD i 0 = c at *
      have k1 := fun u => rplus12_ n c u hn (by omega)
      have l1 : haA n c < 4294967296 := haA_lt n c
      have k2 := fun u => rshifted_ (haA n c) 10 u l1 (by omega)
      have l2 : haA n c * 2 ^ 10 % 4294967296 < 4294967296 := Nat.mod_lt _ (by omega)
      have k3 := fun u => rplus12_ (haA n c) (haA n c * 2 ^ 10 % 4294967296) u l1 l2
      have l3 : haB (haA n c) < 4294967296 := haB_lt _
      have k4 := fun u => rright_ (haB (haA n c)) 6 u l3 (by omega)
      have l4 : haB (haA n c) / 2 ^ 6 < 4294967296 := Nat.lt_of_le_of_lt (Nat.div_le_self _ _) l3
      have x1 := bits_xor_u64_nat (haB (haA n c)) (haB (haA n c) / 2 ^ 6) (by omega) (by omega)
      rw [show (n + c) % 4294967296 = haA n c from rfl] at k1
      rw [show (haA n c + haA n c * 2 ^ 10 % 4294967296) % 4294967296 = haB (haA n c) from rfl] at k3
      rw [show (haB (haA n c) ^^^ haB (haA n c) / 2 ^ 6) = haPre L (i + 1) from hst] at x1
      generalize haA n c * 2 ^ 10 % 4294967296 = T at *
      generalize hB : haB (haA n c) = B at *
      generalize haA n c = A at *
      generalize B / 2 ^ 6 = D at *
      have lN := HL.out (i + 1)
      have HQ := Lib.hid (rfl : haPre L (i + 1) = haPre L (i + 1))
      have e1 : IntKind.u64.wrap (bt S i) = (c : Int) := by rw [hv]; exact u64_cast c (by omega)
      clear hst hB HA HS H0 HL HBT HLT HZ HQ
      obtain ⟨N, hN⟩ : ∃ N, N = haPre L (i + 1) := ⟨_, rfl⟩
      rw [← hN] at x1 lN
      have HN := Lib.hid hN
      clear hN hv hn hc l1 l2 l3 l4
      have t1 : decide ((i : Int) < (S.size : Int)) = true := by simp; omega
      go_wp2_with fail
      refine (k1 _).mono ?_; rintro e w2 ⟨rfl, rfl⟩
      go_wp2_with fail
      refine (k2 _).mono ?_; rintro e w2 ⟨rfl, rfl⟩
      go_wp2_with fail
      refine (k3 _).mono ?_; rintro e w2 ⟨rfl, rfl⟩
      go_wp2_with fail
      refine (k4 _).mono ?_; rintro e w2 ⟨rfl, rfl⟩
      go_wp2
      go_round
      case rel => exact ⟨i + 1, by omega, by simp, by rw [HN.out]⟩
      case measure => simp [intOf]; omega
    · obtain rfl : i = 13 := by omega
      have t1 : decide ((13 : Int) < (S.size : Int)) = false := by rw [HZ.out]; decide
      have hn := HL.out 13
      have hA := HA.out 13 (Nat.le_refl _)
      generalize haPre L 13 = n at *
      have k1 := fun u => rshifted_ n 3 u hn (by omega)
      have l1 : n * 2 ^ 3 % 4294967296 < 4294967296 := Nat.mod_lt _ (by omega)
      have k2 := fun u => rplus12_ n (n * 2 ^ 3 % 4294967296) u hn l1
      rw [show (n + n * 2 ^ 3 % 4294967296) % 4294967296 = haD n from rfl] at k2
      have l2 : haD n < 4294967296 := haD_lt _
      have k3 := fun u => rright_ (haD n) 11 u l2 (by omega)
      have l3 : haD n / 2 ^ 11 < 4294967296 := Nat.lt_of_le_of_lt (Nat.div_le_self _ _) l2
      have x1 := bits_xor_u64_nat (haD n) (haD n / 2 ^ 11) (by omega) (by omega)
      rw [show (haD n ^^^ haD n / 2 ^ 11) = haE (haD n) from rfl] at x1
      have l4 : haE (haD n) < 4294967296 := haE_lt l2
      have k4 := fun u => rshifted_ (haE (haD n)) 15 u l4 (by omega)
      have l5 : haE (haD n) * 2 ^ 15 % 4294967296 < 4294967296 := Nat.mod_lt _ (by omega)
      have k5 := fun u => rplus12_ (haE (haD n)) (haE (haD n) * 2 ^ 15 % 4294967296) u l4 l5
      rw [show (haE (haD n) + haE (haD n) * 2 ^ 15 % 4294967296) % 4294967296 = haT pr sa sp da dp from hA] at k5
      obtain ⟨V, hV⟩ : ∃ V, V = haT pr sa sp da dp := ⟨_, rfl⟩
      rw [← hV] at k5
      have HV := Lib.hid hV
      generalize haE (haD n) * 2 ^ 15 % 4294967296 = U at *
      generalize haE (haD n) = E at *
      generalize haD n / 2 ^ 11 = D at *
      generalize haD n = B at *
      generalize n * 2 ^ 3 % 4294967296 = A at *
      clear hA hV HA HS H0 HL HBT HLT HZ hn l1 l2 l3 l4 l5
      go_wp2_with fail
      refine (k1 _).mono ?_; rintro e w2 ⟨rfl, rfl⟩
      go_wp2_with fail
      refine (k2 _).mono ?_; rintro e w2 ⟨rfl, rfl⟩
      go_wp2_with fail
      refine (k3 _).mono ?_; rintro e w2 ⟨rfl, rfl⟩
      go_wp2_with fail
      refine (k4 _).mono ?_; rintro e w2 ⟨rfl, rfl⟩
      go_wp2_with fail
      refine (k5 _).mono ?_; rintro e w2 ⟨rfl, rfl⟩
      go_wp2
      go_ret
      rw [← HV.out]
      exact ⟨rfl, B1⟩
/-- A tuple's chain. -/
def ofV (k : Int) (n : Nat) : Int := if k < 1 then 0 else (n : Int) % k
theorem ofV_bd {k : Int} {n : Nat} (hn : n < 4294967296) : 0 ≤ ofV k n ∧ ofV k n ≤ 4294967295 := by
  unfold ofV
  split
  · omega
  · rename_i h
    have h1 := Int.emod_nonneg (n : Int) (show k ≠ 0 by omega)
    have h2 : (n : Int) % k ≤ n := by
      rw [Int.emod_def]
      have : 0 ≤ k * ((n : Int) / k) := Int.mul_nonneg (by omega) (Int.ediv_nonneg (by omega) (by omega))
      omega
    omega
theorem haT_lt (pr sa sp da dp : Nat) : haT pr sa sp da dp < 4294967296 := haNum_lt _
set_option maxHeartbeats 1000000 in
set_option maxRecDepth 100000 in
theorem rof12_ (pr sa sp da dp : Nat) (k : Int) (w : World) (h0 : pr < 256) (h1 : sa < 4294967296) (h2 : sp < 65536) (h3 : da < 4294967296) (h4 : dp < 65536) (k1 : k ≤ 9223372036854775807) :
    Calls Try.prog 11 #[.agg #[.int .u8 (pr : Int), .int .u32 (sa : Int), .int .u16 (sp : Int), .int .u32 (da : Int), .int .u16 (dp : Int)], .int .i64 k] w fun e w' => e = .returned (.int .i64 (ofV k (haT pr sa sp da dp))) ∧ Below w.heap.size w w' := by
  by_cases hk : k < 1
  · have HV : Hid (ofV k (haT pr sa sp da dp) = 0) := by show _ = _; unfold ofV; rw [if_pos hk]
    have t1 : decide (k < 1) = true := by simpa using hk
    clear hk
    go_enter Try.func11, Try.ntmps11
    go_wp2
    go_ret
    rw [HV.out]
    exact ⟨rfl, (Below.refl _ _).alloc (Nat.le_refl _) _⟩
  · have hbd := ofV_bd (k := k) (haT_lt pr sa sp da dp)
    have HV : Hid (ofV k (haT pr sa sp da dp) = ((haT pr sa sp da dp : Nat) : Int) % k) := by show _ = _; unfold ofV; rw [if_neg hk]
    rw [HV.out] at hbd
    have cn := fun u => rnum12_ pr sa sp da dp u h0 h1 h2 h3 h4
    generalize haT pr sa sp da dp = n at *
    have t1 : decide (k < 1) = false := by simpa using hk
    have t2 : (k == 0) = false := by simp; omega
    have e1 : IntKind.u64.wrap k = k := IntWalk.u64_in _ (by omega)
    have e2 : ((n : Nat) : Int).tmod k = ((n : Nat) : Int) % k := Int.tmod_eq_emod_of_nonneg (by omega)
    obtain ⟨q, hq⟩ : ∃ q, q = ((n : Nat) : Int) % k := ⟨_, rfl⟩
    rw [← hq] at e2 hbd
    have HQ : Hid (ofV k n = q) := by show _ = _; rw [HV.out, hq]
    have e3 : IntKind.u64.wrap q = q := IntWalk.u64_in _ (by omega)
    have e4 : IntKind.i64.wrap q = q := IntWalk.i64_in _ (by omega)
    have e5 := hq.symm
    clear hq HV
    go_enter Try.func11, Try.ntmps11
    go_wp2_with fail
    refine (cn _).mono ?_; rintro e w1 ⟨rfl, b1⟩
    have B1 := ((Below.refl _ _).alloc (Nat.le_refl _) _).trans (b1.mono (Nat.le_of_lt (by simp)))
    clear b1 cn
    go_wp2
    go_ret
    rw [HQ.out]
    exact ⟨rfl, B1⟩
-- both
set_option maxHeartbeats 1000000 in
set_option maxRecDepth 100000 in
theorem rboth12_ (pr sa sp da dp pr' sa' sp' da' dp' : Nat) (k : Int) (w : World) (h0 : pr < 256) (h1 : sa < 4294967296) (h2 : sp < 65536) (h3 : da < 4294967296) (h4 : dp < 65536) (i0 : pr' < 256) (i1 : sa' < 4294967296) (i2 : sp' < 65536) (i3 : da' < 4294967296) (i4 : dp' < 65536) (k1 : k ≤ 9223372036854775807) :
    Calls Try.prog 7 #[.agg #[.int .u8 (pr : Int), .int .u32 (sa : Int), .int .u16 (sp : Int), .int .u32 (da : Int), .int .u16 (dp : Int)], .agg #[.int .u8 (pr' : Int), .int .u32 (sa' : Int), .int .u16 (sp' : Int), .int .u32 (da' : Int), .int .u16 (dp' : Int)], .int .i64 k] w fun e w' => e = .returned (.tuple #[.int .i64 (ofV k (haT pr sa sp da dp)), .int .i64 (ofV k (haT pr' sa' sp' da' dp'))]) ∧ Below w.heap.size w w' := by
  have ca := fun u => rof12_ pr sa sp da dp k u h0 h1 h2 h3 h4 k1
  have cb := fun u => rof12_ pr' sa' sp' da' dp' k u i0 i1 i2 i3 i4 k1
  obtain ⟨x, hx⟩ : ∃ x, x = ofV k (haT pr sa sp da dp) := ⟨_, rfl⟩
  obtain ⟨y, hy⟩ : ∃ y, y = ofV k (haT pr' sa' sp' da' dp') := ⟨_, rfl⟩
  rw [← hx] at ca
  rw [← hy] at cb
  have HX := Lib.hid hx
  have HY := Lib.hid hy
  clear hx hy
  go_enter Try.func7, Try.ntmps7
  go_wp2_with fail
  have A0 := (Box5.make w (.int .u8 (pr : Int)) (.int .u32 (sa : Int)) (.int .u16 (sp : Int)) (.int .u32 (da : Int)) (.int .u16 (dp : Int)) 28).past (o := .cells #[.int .u8 (pr' : Int), .int .u32 (sa' : Int), .int .u16 (sp' : Int), .int .u32 (da' : Int), .int .u16 (dp' : Int)] 28)
  have D0 := Box5.make (w.alloc (.cells #[.int .u8 (pr : Int), .int .u32 (sa : Int), .int .u16 (sp : Int), .int .u32 (da : Int), .int .u16 (dp : Int)] 28)) (.int .u8 (pr' : Int)) (.int .u32 (sa' : Int)) (.int .u16 (sp' : Int)) (.int .u32 (da' : Int)) (.int .u16 (dp' : Int)) 28
  rw [show (w.alloc (.cells #[.int .u8 (pr : Int), .int .u32 (sa : Int), .int .u16 (sp : Int), .int .u32 (da : Int), .int .u16 (dp : Int)] 28)).heap.size = w.heap.size + 1 by simp] at D0
  have B0 : Below w.heap.size w ((w.alloc (.cells #[.int .u8 (pr : Int), .int .u32 (sa : Int), .int .u16 (sp : Int), .int .u32 (da : Int), .int .u16 (dp : Int)] 28)).alloc (.cells #[.int .u8 (pr' : Int), .int .u32 (sa' : Int), .int .u16 (sp' : Int), .int .u32 (da' : Int), .int .u16 (dp' : Int)] 28)) := ((Below.refl _ _).alloc (Nat.le_refl _) _).alloc (by simp) _
  obtain ⟨w1, hw1⟩ : ∃ w1, w1 = (w.alloc (.cells #[.int .u8 (pr : Int), .int .u32 (sa : Int), .int .u16 (sp : Int), .int .u32 (da : Int), .int .u16 (dp : Int)] 28)).alloc (.cells #[.int .u8 (pr' : Int), .int .u32 (sa' : Int), .int .u16 (sp' : Int), .int .u32 (da' : Int), .int .u16 (dp' : Int)] 28) := ⟨_, rfl⟩
  rw [← hw1] at A0 B0 D0 ⊢
  clear hw1
  obtain ⟨s1, x0, x1, x2, x3, x4⟩ := id A0
  obtain ⟨s2, z0, z1, z2, z3, z4⟩ := id D0
  have p0 : ∀ q : Later w1.heap.size w1, q.u.cell? ⟨w.heap.size, 0, none⟩ = some (.int .u8 (pr : Int)) := fun q => q.block s1 x0
  have r0 : ∀ q : Later w1.heap.size w1, q.u.cell? ⟨w.heap.size + 1, 0, none⟩ = some (.int .u8 (pr' : Int)) := fun q => q.block s2 z0
  have p1 : ∀ q : Later w1.heap.size w1, q.u.cell? ⟨w.heap.size, 1, none⟩ = some (.int .u32 (sa : Int)) := fun q => q.block s1 x1
  have r1 : ∀ q : Later w1.heap.size w1, q.u.cell? ⟨w.heap.size + 1, 1, none⟩ = some (.int .u32 (sa' : Int)) := fun q => q.block s2 z1
  have p2 : ∀ q : Later w1.heap.size w1, q.u.cell? ⟨w.heap.size, 2, none⟩ = some (.int .u16 (sp : Int)) := fun q => q.block s1 x2
  have r2 : ∀ q : Later w1.heap.size w1, q.u.cell? ⟨w.heap.size + 1, 2, none⟩ = some (.int .u16 (sp' : Int)) := fun q => q.block s2 z2
  have p3 : ∀ q : Later w1.heap.size w1, q.u.cell? ⟨w.heap.size, 3, none⟩ = some (.int .u32 (da : Int)) := fun q => q.block s1 x3
  have r3 : ∀ q : Later w1.heap.size w1, q.u.cell? ⟨w.heap.size + 1, 3, none⟩ = some (.int .u32 (da' : Int)) := fun q => q.block s2 z3
  have p4 : ∀ q : Later w1.heap.size w1, q.u.cell? ⟨w.heap.size, 4, none⟩ = some (.int .u16 (dp : Int)) := fun q => q.block s1 x4
  have r4 : ∀ q : Later w1.heap.size w1, q.u.cell? ⟨w.heap.size + 1, 4, none⟩ = some (.int .u16 (dp' : Int)) := fun q => q.block s2 z4
  clear A0 D0 x0 x1 x2 x3 x4 z0 z1 z2 z3 z4 s1 s2
  refine region_later (B := w1.heap.size) (by kernel_rfl) (by kernel_rfl) ?_
  repeat (go_big_quiet_step (first
    | (go_at_call_of 11 (Value.int IntKind.u32 (sa : Int)); exact later_of _ (Nat.le_refl _) (ca _))
    | (go_at_call_of 11 (Value.int IntKind.u32 (sa' : Int)); exact later_of _ (Nat.le_refl _) (cb _))))
  refine later_end fun w2 b2 => ?_
  have B2 := B0.trans (b2.mono B0.size)
  clear B0 b2 ca cb p0 p1 p2 p3 p4 r0 r1 r2 r3 r4
  go_wp2
  go_ret2
  rw [← HX.out, ← HY.out]
  exact ⟨rfl, B2⟩
end Go.Proofs.Ytijippfcobgidaa
