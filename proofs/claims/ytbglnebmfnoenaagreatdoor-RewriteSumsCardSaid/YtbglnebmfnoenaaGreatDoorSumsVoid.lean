/- A text that is nothing but bytes 0: strings.Trim at the byte 0. -/
import Derived.Test.YtbglnebmfnoenaaGreatDoorGb
namespace Go.Proofs.YtbglnebmfnoenaaGreatDoor
set_option linter.unusedVariables false
set_option linter.unusedSimpArgs false
open Go.ChangeShapes Go.WideShapes Go.ChangeAt Go.RowKit Go.PlainAid
def strLen (v : Value) : Nat := match v with | .string u => u.size | _ => 0
def trimR (s : ByteArray) : Nat → Nat
  | 0 => 0
  | k + 1 => if bt s k = 0 then trimR s k else k + 1
def trimL (s : ByteArray) : Nat → Nat → Nat
  | 0, j => j
  | m + 1, j => if bt s j = 0 then trimL s m (j + 1) else j
theorem bt_extract_ahead (s : ByteArray) (k j : Nat) (hj : j < k) (hk : k ≤ s.size) : bt (s.extract 0 k) j = bt s j := by
  rw [bt_eq, bt_eq, data_extract, List.drop_zero]
  simp [List.getD, List.getElem?_take, hj]
theorem extract_ahead (s : ByteArray) (k : Nat) (hk : k + 1 ≤ s.size) : (s.extract 0 (k + 1)).extract 0 k = s.extract 0 k := by
  apply ba_ext
  simp only [data_extract, List.drop_zero, List.take_take]
  congr 1; omega
theorem extract_behind (s : ByteArray) (j : Nat) (hj : j + 1 ≤ s.size) : (s.extract j s.size).extract 1 (s.size - j) = s.extract (j + 1) s.size := by
  apply ba_ext
  rw [Lib.extract_data, Lib.extract_data, Lib.extract_data]
  simp only [List.drop_take, List.drop_drop, List.take_take]
  congr 1
  omega
set_option maxRecDepth 100000 in
set_option maxHeartbeats 1000000 in
theorem trimRight_ (s : ByteArray) (w : World) (hs : s.size ≤ maxLen) :
    Calls Tryz.prog 81 #[.string s, .int .u8 0] w fun e w' => e = .returned (.string (s.extract 0 (trimR s s.size))) ∧ w = w' := by
  unfold maxLen at hs
  have hself : s.extract 0 s.size = s := by apply ba_ext; rw [data_extract, List.drop_zero, List.take_of_length_le (by rw [len_data]; exact Nat.le_refl _)]
  have HSELF := Lib.hid hself
  clear hself
  go_enter Tryz.func81, Tryz.ntmps81
  go_wp2_with fail
  go_loop [0] (fun v => ∃ k : Nat, k ≤ s.size ∧ v = .string (s.extract 0 k) ∧ trimR s k = trimR s s.size) (fun v => strLen v)
  case atStart => exact ⟨s.size, Nat.le_refl _, by rw [HSELF.out], rfl⟩
  case round =>
    obtain ⟨k, hk, rfl, hT⟩ := hrel
    have HT := Lib.hid hT
    have hus : (s.extract 0 k).size = k := by rw [ByteArray.size_extract]; omega
    clear hT
    match k, hk, HT, hus with
    | 0, hk, HT, hus =>
      obtain ⟨u, hu⟩ : ∃ u, u = s.extract 0 0 := ⟨_, rfl⟩
      rw [← hu] at hus
      rw [← hu]
      have HU := Lib.hid hu
      clear hu
      have hus' : (u.size : Int) = 0 := by omega
      go_wp2
      go_ret
      rw [← HT.out]
      exact ⟨by rw [HU.out]; rfl, rfl⟩
    | k + 1, hk, HT, hus =>
      have hb := bt_extract_ahead s (k + 1) k (by omega) hk
      have hx := extract_ahead s k hk
      obtain ⟨u, hu⟩ : ∃ u, u = s.extract 0 (k + 1) := ⟨_, rfl⟩
      rw [← hu] at hus hb hx
      rw [← hu]
      have HU := Lib.hid hu
      have hg := get_bt u
      have HUS := Lib.hid hus
      have hus' : (u.size : Int) = (k : Int) + 1 := by omega
      have e0 : (k : Int) < (u.size : Int) := by omega
      have e1 : 0 < (u.size : Int) := by omega
      have e4 : ((k : Int) + 1 - 1) = (k : Int) := by omega
      clear hu hus
      have HX := Lib.hid hx
      clear hx
      by_cases h0 : bt s k = 0
      · have e2 : bt u k = 0 := by rw [hb, h0]
        have HN : Hid (trimR s k = trimR s s.size) := by rw [← HT.out]; show _ = _; simp [trimR, h0]
        clear hb
        go_wp2
        go_round
        case rel => exact ⟨k, by omega, by rw [HX.out], HN.out⟩
        case measure => simp [strLen, ByteArray.size_extract]; omega
      · have e2 : ¬ bt u k = 0 := by rw [hb]; exact h0
        have HN : Hid (trimR s s.size = k + 1) := by rw [← HT.out]; show _ = _; simp [trimR, h0]
        clear hb
        go_wp2
        go_ret
        exact ⟨by rw [HN.out, ← HU.out]; rfl, rfl⟩
theorem bt_extract_tail (s : ByteArray) (j : Nat) (hj : j ≤ s.size) : bt (s.extract j s.size) 0 = bt s j := by
  have := bt_extract_end s j 0 hj
  rwa [Nat.add_zero] at this
set_option maxRecDepth 100000 in
set_option maxHeartbeats 1000000 in
theorem trimLeft_ (s : ByteArray) (w : World) (hs : s.size ≤ maxLen) :
    Calls Tryz.prog 80 #[.string s, .int .u8 0] w fun e w' => e = .returned (.string (s.extract (trimL s s.size 0) s.size)) ∧ w = w' := by
  unfold maxLen at hs
  have hself : s.extract 0 s.size = s := by apply ba_ext; rw [data_extract, List.drop_zero, List.take_of_length_le (by rw [len_data]; exact Nat.le_refl _)]
  have HSELF := Lib.hid hself
  clear hself
  go_enter Tryz.func80, Tryz.ntmps80
  go_wp2_with fail
  go_loop [0] (fun v => ∃ j : Nat, j ≤ s.size ∧ v = .string (s.extract j s.size) ∧ trimL s (s.size - j) j = trimL s s.size 0) (fun v => strLen v)
  case atStart => exact ⟨0, Nat.zero_le _, by rw [HSELF.out], rfl⟩
  case round =>
    obtain ⟨j, hj, rfl, hT⟩ := hrel
    have HT := Lib.hid hT
    have hus : (s.extract j s.size).size = s.size - j := by rw [ByteArray.size_extract]; omega
    clear hT
    by_cases hend : j = s.size
    · have HN : Hid (trimL s s.size 0 = j) := by rw [← HT.out]; show _ = _; rw [show s.size - j = 0 by omega]; rfl
      obtain ⟨u, hu⟩ : ∃ u, u = s.extract j s.size := ⟨_, rfl⟩
      rw [← hu] at hus
      rw [← hu]
      have HU := Lib.hid hu
      clear hu
      have hus' : (u.size : Int) = 0 := by omega
      clear hus hend
      go_wp2
      go_ret
      rw [HN.out]
      exact ⟨by rw [HU.out]; rfl, rfl⟩
    · have hb := bt_extract_tail s j hj
      have hx := extract_behind s j (by omega)
      rw [← hus] at hx
      obtain ⟨u, hu⟩ : ∃ u, u = s.extract j s.size := ⟨_, rfl⟩
      rw [← hu] at hus hb hx
      rw [← hu]
      have HU := Lib.hid hu
      have hg := get_bt u
      have e1 : 0 < (u.size : Int) := by omega
      have e2' : 0 < u.size := by omega
      have e3 : 1 ≤ (u.size : Int) := by omega
      have hu400 : (u.size : Int) ≤ 9223372036854775807 := by omega
      have HUS := Lib.hid hus
      have HX := Lib.hid hx
      have HNE := Lib.hid hend
      clear hu hus hx hend
      by_cases h0 : bt s j = 0
      · have e2 : bt u 0 = 0 := by rw [hb, h0]
        have HN : Hid (trimL s (s.size - (j + 1)) (j + 1) = trimL s s.size 0) := by
          rw [← HT.out]; show _ = _
          rw [show s.size - j = (s.size - (j + 1)) + 1 by have := HNE.out; omega]
          simp [trimL, h0]
        clear hb
        go_wp2
        go_round
        case rel => exact ⟨j + 1, by have := HNE.out; omega, by rw [HX.out], HN.out⟩
        case measure => simp [strLen, ByteArray.size_extract]; omega
      · have e2 : ¬ bt u 0 = 0 := by rw [hb]; exact h0
        have HN : Hid (trimL s s.size 0 = j) := by
          rw [← HT.out]; show _ = _
          rw [show s.size - j = (s.size - (j + 1)) + 1 by have := HNE.out; omega]
          simp [trimL, h0]
        clear hb
        go_wp2
        go_ret
        exact ⟨by rw [HN.out, ← HU.out]; rfl, rfl⟩
theorem tl_nil {s : ByteArray} : s.toList = [] ↔ s.size = 0 := by
  rw [ByteArray.toList_eq, ← List.length_eq_zero_iff, len_data]
def trimB (s : ByteArray) : ByteArray := (s.extract 0 (trimR s s.size)).extract (trimL (s.extract 0 (trimR s s.size)) (s.extract 0 (trimR s s.size)).size 0) (s.extract 0 (trimR s s.size)).size
set_option maxRecDepth 100000 in
set_option maxHeartbeats 1000000 in
theorem trim_ (s : ByteArray) (w : World) (hs : s.size ≤ maxLen) (h0 : 0 < s.size) :
    Calls Tryz.prog 30 #[.string s, .string ⟨#[0]⟩] w fun e w' => e = .returned (.string (trimB s)) ∧ Below w.heap.size w w' := by
  have hs' := hs
  unfold maxLen at hs'
  have hz : (s.extract 0 (trimR s s.size)).size ≤ maxLen := by rw [ByteArray.size_extract]; omega
  have HB : Hid (trimB s = (s.extract 0 (trimR s s.size)).extract (trimL (s.extract 0 (trimR s s.size)) (s.extract 0 (trimR s s.size)).size 0) (s.extract 0 (trimR s s.size)).size) := rfl
  obtain ⟨u, hu⟩ : ∃ u, u = s.extract 0 (trimR s s.size) := ⟨_, rfl⟩
  rw [← hu] at HB hz
  have HU := Lib.hid hu
  clear hu
  have hl : ¬ s.toList = [] := by rw [tl_nil]; omega
  have hl2 : s.toList.isEmpty = false := by
    cases h : s.toList with
    | nil => exact absurd h hl
    | cons a b => rfl
  go_enter Tryz.func30, Tryz.ntmps30
  go_wp2_with fail
  refine region_later (B := w.heap.size) (by kernel_rfl) (by kernel_rfl) ?_
  repeat (go_big_quiet_step (first
    | (go_at_call 81; exact later_same _ (trimRight_ _ _ hs))
    | (go_at_call 80; exact later_same _ (by rw [← HU.out]; exact trimLeft_ u _ hz))))
  refine later_end fun w2 B2 => ?_
  go_wp2
  go_ret
  rw [HB.out]
  exact ⟨rfl, B2⟩
set_option maxRecDepth 100000 in
set_option maxHeartbeats 1000000 in
theorem trim_0 (s : ByteArray) (w : World) (h0 : s.size = 0) :
    Calls Tryz.prog 30 #[.string s, .string ⟨#[0]⟩] w fun e w' => e = .returned (.string (trimB s)) ∧ Below w.heap.size w w' := by
  obtain rfl : s = ⟨#[]⟩ := by apply ba_ext; exact List.length_eq_zero_iff.1 (by rw [len_data]; exact h0)
  have E : Hid (trimB ⟨#[]⟩ = ⟨#[]⟩) := by show _ = _; decide +kernel
  go_enter Tryz.func30, Tryz.ntmps30
  go_wp2
  go_ret
  rw [E.out]
  exact ⟨rfl, Below.refl _ _⟩
def voidV (s : ByteArray) : Bool := decide ((trimB s).size = 0)
theorem trimR_spec (s : ByteArray) : ∀ n, trimR s n ≤ n ∧ (∀ j, trimR s n ≤ j → j < n → bt s j = 0) ∧ (0 < trimR s n → bt s (trimR s n - 1) ≠ 0)
  | 0 => by simp [trimR]
  | n + 1 => by
    obtain ⟨h1, h2, h3⟩ := trimR_spec s n
    by_cases h : bt s n = 0
    · have e : trimR s (n + 1) = trimR s n := by simp [trimR, h]
      rw [e]
      refine ⟨by omega, fun j hj hn => ?_, h3⟩
      by_cases hjn : j = n
      · rw [hjn]; exact h
      · exact h2 j hj (by omega)
    · have e : trimR s (n + 1) = n + 1 := by simp [trimR, h]
      rw [e]
      refine ⟨Nat.le_refl _, fun j hj hn => by omega, fun _ => h⟩
theorem trimL_spec (s : ByteArray) : ∀ m j, j ≤ trimL s m j ∧ trimL s m j ≤ j + m ∧ ∀ i, j ≤ i → i < trimL s m j → bt s i = 0
  | 0, j => by simp [trimL]; omega
  | m + 1, j => by
    by_cases h : bt s j = 0
    · have e : trimL s (m + 1) j = trimL s m (j + 1) := by simp [trimL, h]
      obtain ⟨h1, h2, h3⟩ := trimL_spec s m (j + 1)
      rw [e]
      refine ⟨by omega, by omega, fun i hi hn => ?_⟩
      by_cases hij : i = j
      · rw [hij]; exact h
      · exact h3 i (by omega) hn
    · have e : trimL s (m + 1) j = j := by simp [trimL, h]
      rw [e]
      exact ⟨Nat.le_refl _, by omega, fun i hi hn => by omega⟩
theorem voidV_iff (s : ByteArray) : voidV s = true ↔ ∀ k, k < s.size → bt s k = 0 := by
  obtain ⟨r1, r2, r3⟩ := trimR_spec s s.size
  have hu : (s.extract 0 (trimR s s.size)).size = trimR s s.size := by rw [ByteArray.size_extract]; omega
  obtain ⟨l1, l2, l3⟩ := trimL_spec (s.extract 0 (trimR s s.size)) (trimR s s.size) 0
  have hz : (trimB s).size = trimR s s.size - trimL (s.extract 0 (trimR s s.size)) (trimR s s.size) 0 := by
    unfold trimB
    rw [ByteArray.size_extract, hu]; omega
  unfold voidV
  rw [decide_eq_true_iff, hz]
  constructor
  · intro h k hk
    by_cases hkm : trimR s s.size ≤ k
    · exact r2 k hkm hk
    · exfalso
      have hb := r3 (by omega)
      rw [← bt_extract_ahead s (trimR s s.size) (trimR s s.size - 1) (by omega) r1] at hb
      exact hb (l3 _ (Nat.zero_le _) (by omega))
  · intro h
    have : trimR s s.size = 0 := by
      rcases Nat.eq_zero_or_pos (trimR s s.size) with h0 | h0
      · exact h0
      · exact absurd (h _ (by omega)) (r3 h0)
    omega
end Go.Proofs.YtbglnebmfnoenaaGreatDoor
