/- Texts of this proof, together: TcpP, TcpA, TcpB, TcpC, TcpM. -/
import Derived.Test.YtbpicngbjggblaaGreatDoorGf
import Derived.Test.YtbpicngbjggblaaGreatDoorTake
import Derived.Test.YtbpicngbjggblaaGreatDoorGc
import Derived.Deep.RegionHeld3
namespace Go.Proofs.YtbpicngbjggblaaGreatDoor
set_option linter.unusedVariables false
set_option linter.unusedSimpArgs false
open Go.ChangeShapes Go.WideShapes Go.ChangeAt Go.RowKit Go.PlainAid
/-- How many bytes a segment's header says that it has. -/
def tOwn (s : ByteArray) : Nat := (bt s 12 / 16).toNat * 4
/-- A text that is a segment. -/
def tOk (s : ByteArray) : Bool := decide (20 ≤ s.size) && decide (20 ≤ tOwn s) && decide (tOwn s ≤ s.size)
def tI (s : ByteArray) (v : Int) : Int := if tOk s then v else 0
def tO (s : ByteArray) : ByteArray := if tOk s then s.extract 20 (tOwn s) else ⟨#[]⟩
def tP (s : ByteArray) : ByteArray := if tOk s then s.extract (tOwn s) s.size else ⟨#[]⟩
/-- A segment's words, but for its options; its bytes; why it can't be put. -/
def tcpW (sp dp sq ak lo fl wi su ur : Int) (n : Nat) : List Int := [sp, dp, sq / 65536, sq % 65536, ak / 65536, ak % 65536, 256 * (80 + 4 * (n : Int) + lo) + fl, wi, su, ur]
def tcpB (sp dp sq ak lo fl wi su ur : Int) (o p : ByteArray) : ByteArray := strOfNums (wordL (tcpW sp dp sq ak lo fl wi su ur o.size)) ++ o ++ p
def tE (n : Nat) (lo : Int) : Int := if 40 < n ∨ ¬ n % 4 = 0 ∨ 15 < lo then 2 else 0
def ckT (a b : Int) (s : ByteArray) : Bool := decide (20 ≤ s.size) && holdsV [pseuB a b 6 s.size, s]
def slM (a b : Int) (s : ByteArray) : Int := sumV [pseuB a b 6 s.size, zeroB s 16]
def slT (a b : Int) (s : ByteArray) : ByteArray := if s.size < 20 then s else s.extract 0 16 ++ strOfNums (wordL [slM a b s]) ++ s.extract 18 s.size
theorem tOk_yes {s : ByteArray} (h : tOk s = true) : 20 ≤ s.size ∧ 20 ≤ tOwn s ∧ tOwn s ≤ s.size ∧ (∀ v, tI s v = v) ∧ tO s = s.extract 20 (tOwn s) ∧ tP s = s.extract (tOwn s) s.size := by
  have h' := h
  unfold tOk at h'
  simp only [Bool.and_eq_true, decide_eq_true_eq] at h'
  refine ⟨h'.1.1, h'.1.2, h'.2, fun v => ?_, ?_, ?_⟩
  · unfold tI; rw [if_pos h]
  · unfold tO; rw [if_pos h]
  · unfold tP; rw [if_pos h]
theorem tOk_no {s : ByteArray} (h : tOk s = false) : (∀ v, tI s v = 0) ∧ tO s = ⟨#[]⟩ ∧ tP s = ⟨#[]⟩ := by
  refine ⟨fun v => ?_, ?_, ?_⟩
  · unfold tI; rw [if_neg (by rw [h]; decide)]
  · unfold tO; rw [if_neg (by rw [h]; decide)]
  · unfold tP; rw [if_neg (by rw [h]; decide)]
end Go.Proofs.YtbpicngbjggblaaGreatDoor
namespace Go.Proofs.YtbpicngbjggblaaGreatDoor
set_option maxHeartbeats 2000000
set_option maxRecDepth 100000
set_option linter.unusedVariables false
set_option linter.unusedSimpArgs false
open Go.ChangeShapes Go.WideShapes Go.ChangeAt Go.RowKit Go.PlainAid
attribute [local go_sem ↓] Go.wp_at_zero Go.wp_at_succ
theorem two6_ (s : ByteArray) (k : Nat) (w : World) (hs : s.size ≤ maxLen) (h : k + 2 ≤ s.size) :
    Calls Tryz.prog 139 #[.string s, .int .i64 (k : Int)] w fun e w' => e = .returned (.int .u16 (g16 s k)) ∧ w = w' := by
  go_enter Tryz.func139, Tryz.ntmps139
  go_wp2_with fail
  refine (rget16_yes s k _ hs h).mono ?_; rintro e w' ⟨rfl, rfl⟩
  go_wp2
  go_ret
  exact ⟨rfl, rfl⟩
theorem four6_ (s : ByteArray) (k : Nat) (w : World) (hs : s.size ≤ maxLen) (h : k + 4 ≤ s.size) :
    Calls Tryz.prog 140 #[.string s, .int .i64 (k : Int)] w fun e w' => e = .returned (.int .u32 (g32 s k)) ∧ w = w' := by
  go_enter Tryz.func140, Tryz.ntmps140
  go_wp2_with fail
  refine (rget32_yes s k _ hs h).mono ?_; rintro e w' ⟨rfl, rfl⟩
  go_wp2
  go_ret
  exact ⟨rfl, rfl⟩
theorem rseal6_ (a b : Int) (s : ByteArray) (w : World) (a0 : 0 ≤ a) (a1 : a ≤ 4294967295) (b0 : 0 ≤ b) (b1 : b ≤ 4294967295) (hs : s.size ≤ 1000000) :
    Cw_ 109 #[.int .u32 a, .int .u32 b, .string s] (.string (slT a b s)) w := by
  have hs2 : s.size ≤ maxLen := by unfold maxLen; omega
  by_cases h8 : s.size < 20
  · have HV : Hid (slT a b s = s) := by show _ = _; unfold slT; rw [if_pos h8]
    have e1 : decide ((s.size : Int) < 20) = true := by simp; omega
    clear h8
    go_enter Tryz.func109, Tryz.ntmps109
    go_wp2
    go_ret
    rw [HV.out]
    exact ⟨rfl, Below.refl _ _⟩
  have e1 : decide ((s.size : Int) < 20) = false := by simp; omega
  have cp := fun u => pseudo5_ a b 6 (s.size : Int) u a0 a1 b0 b1 (by omega) (by omega) (by omega) (by omega)
  have zp := pseuB_size a b 6 (s.size : Int)
  have zx := size_extract' s 0 16 (by omega) (by omega)
  have zz := size_extract' s 18 s.size (by omega) (Nat.le_refl _)
  have hn : 0 ≤ slM a b s ∧ slM a b s ≤ 65535 := sumV_bd _
  have HV : Hid (slT a b s = s.extract 0 16 ++ strOfNums (wordL [slM a b s]) ++ s.extract 18 s.size) := by show _ = _; unfold slT; rw [if_neg h8]
  have hN : slM a b s = sumV [pseuB a b 6 s.size, s.extract 0 16 ++ ⟨#[0, 0]⟩ ++ s.extract 18 s.size] := by unfold slM zeroB; rw [show strOfNums [0, 0] = ⟨#[0, 0]⟩ from rfl]
  generalize pseuB a b 6 (s.size : Int) = P at *
  have zZ : (s.extract 0 16 ++ ⟨#[0, 0]⟩ ++ s.extract 18 s.size).size = s.size := by rw [ByteArray.size_append, ByteArray.size_append, zx, zz]; show 16 - 0 + 2 + (s.size - 18) = s.size; omega
  obtain ⟨Z, hZ⟩ : ∃ Z, Z = s.extract 0 16 ++ ⟨#[0, 0]⟩ ++ s.extract 18 s.size := ⟨_, rfl⟩
  rw [← hZ] at hN zZ
  have HZ := Lib.hid hZ
  clear hZ
  have hss : ∀ x ∈ [P, Z], x.size < maxLen := by
    intro x hx
    rcases List.mem_cons.1 hx with h | h
    · rw [h, zp]; unfold maxLen; omega
    · rw [List.mem_singleton.1 h, zZ]; unfold maxLen; omega
  have cs : ∀ (u : World) (k : Nat), k < u.heap.size → u.cell? ⟨k, 0, none⟩ = some (.string P) → u.cell? ⟨k, 1, none⟩ = some (.string Z) → Calls Tryz.prog 42 #[.slice (some ⟨k, 0, none⟩) 2 2] u fun e w' => e = .returned (.int .u16 (sumV [P, Z])) ∧ u = w' :=
    fun u k hk h0 h1 => rsum_ _ 2 2 [P, Z] u (rowS2 hk h0 h1 (by unfold maxLen; omega) (by omega)) hss
  have sb := sumV_bd [P, Z]
  generalize sumV [P, Z] = g at *
  have i6 : (16 : Int) ≤ (s.size : Int) := by omega
  have i8 : (18 : Int) ≤ (s.size : Int) := by omega
  have k1 : ¬ 9223372036854775807 < min 16 s.size + 2 := by omega
  have k2 : ¬ 9223372036854775807 < min 16 s.size + 2 + (s.size - 18) := by omega
  have c16 := fun u => rput16 (slM a b s) u (by omega) hn.2
  have zw : (strOfNums (wordL [slM a b s])).size = 2 := by rw [size_W]; rfl
  generalize strOfNums (wordL [slM a b s]) = W at *
  have q1 : min 16 s.size + W.size ≤ 9223372036854775807 := by omega
  have q2 : min 16 s.size + W.size + (s.size - 18) ≤ 9223372036854775807 := by omega
  have q3 : ¬ 9223372036854775807 < min 16 s.size + W.size := by omega
  have q4 : ¬ 9223372036854775807 < min 16 s.size + W.size + (s.size - 18) := by omega
  obtain ⟨v, hv⟩ : ∃ v, v = slM a b s := ⟨_, rfl⟩
  rw [← hv] at c16 hN
  clear hv hn hss zZ zx zz h8 zp zw
  subst hN
  go_enter Tryz.func109, Tryz.ntmps109
  go_wp2_with fail
  go_region_held3 (fun w' => True) (trivial)
    ((first
      | (go_at_call 136
         refine (cp _).mono ?_
         rintro e w1 ⟨rfl, x1⟩)
      | (go_at_call 42
         refine (cs _ _ ?_ ?_ ?_).mono ?_
         · simp
         · simp [go_sem]
         · simp [go_sem, HZ.out]
         rintro e w2 ⟨rfl, rfl⟩)))
  have B1 : Below w.heap.size w w1 := ((Below.refl w.heap.size w).drew).trans x1
  have B2 := B1.alloc B1.size (.cells #[.string P, .string (s.extract 0 16 ++ ⟨#[0, 0]⟩ ++ s.extract 18 s.size)] 9)
  clear x1 B1 cp cs HZ k1 k2
  obtain ⟨w2, hw2⟩ : ∃ x, x = w1.alloc (.cells #[.string P, .string (s.extract 0 16 ++ ⟨#[0, 0]⟩ ++ s.extract 18 s.size)] 9) := ⟨_, rfl⟩
  rw [← hw2] at B2 ⊢
  clear hw2
  go_wp2_with fail
  refine region_later (B := w2.heap.size) (by kernel_rfl) (by kernel_rfl) ?_
  repeat (go_big_quiet_step (first
    | (go_at_call 41; exact later_of _ (Nat.le_refl _) (c16 _))))
  refine later_end fun w3 b3 => ?_
  have B3 := B2.trans (b3.mono B2.size)
  clear B2 b3 c16
  go_wp2
  go_ret
  rw [HV.out]
  exact ⟨rfl, B3⟩
end Go.Proofs.YtbpicngbjggblaaGreatDoor
namespace Go.Proofs.YtbpicngbjggblaaGreatDoor
set_option maxHeartbeats 4000000
set_option maxRecDepth 100000
set_option linter.unusedVariables false
set_option linter.unusedSimpArgs false
open Go.ChangeShapes Go.WideShapes Go.ChangeAt Go.RowKit Go.PlainAid
attribute [local go_sem ↓] Go.wp_at_zero Go.wp_at_succ
theorem rparse6_ (s : ByteArray) (w : World) (hs : s.size ≤ 1000000) :
    Cw_ 116 #[.string s] (.tuple #[.agg #[.int .u16 (tI s (g16 s 0)), .int .u16 (tI s (g16 s 2)), .int .u32 (tI s (g32 s 4)), .int .u32 (tI s (g32 s 8)), .int .u8 (tI s (bt s 12 % 16)), .int .u8 (tI s (bt s 13)), .int .u16 (tI s (g16 s 14)), .int .u16 (tI s (g16 s 16)), .int .u16 (tI s (g16 s 18)), .string (tO s)], .string (tP s), .bool (tOk s)]) w := by
  have hs2 : s.size ≤ maxLen := by unfold maxLen; omega
  have hb := get_bt s
  by_cases h20 : s.size < 20
  · have hk : tOk s = false := by unfold tOk; simp; omega
    obtain ⟨y1, y2, y3⟩ := tOk_no hk
    rw [y1, y1, y1, y1, y1, y1, y1, y1, y1, y2, y3, hk]
    have e1 : decide ((s.size : Int) < 20) = true := by simp; omega
    clear h20 hk y1 y2 y3 hb
    go_enter Tryz.func116, Tryz.ntmps116
    go_wp2
    refine bodyPost_ret (v := .tuple #[.agg #[.int .u16 0, .int .u16 0, .int .u32 0, .int .u32 0, .int .u8 0, .int .u8 0, .int .u16 0, .int .u16 0, .int .u16 0, .string ⟨#[]⟩], .string ⟨#[]⟩, .bool false]) (by simp [results, Tryz.results116, go_sem]) rfl ?_
    exact ⟨rfl, (Below.refl _ _).alloc (Nat.le_refl _) _⟩
  have e1 : decide ((s.size : Int) < 20) = false := by simp; omega
  have b0 := bt_nonneg s 12
  have b1 := bt_le s 12
  obtain ⟨n, hn⟩ : ∃ n, tOwn s = n := ⟨_, rfl⟩
  have e4 : bt s 12 / 16 * 4 = (n : Int) := by rw [← hn]; unfold tOwn; omega
  have n60 : n ≤ 60 := by omega
  have i12 : (12 : Int) < (s.size : Int) := by omega
  have i13 : (13 : Int) < (s.size : Int) := by omega
  by_cases h1 : n < 20
  · have hk : tOk s = false := by unfold tOk; rw [hn]; simp; omega
    obtain ⟨y1, y2, y3⟩ := tOk_no hk
    rw [y1, y1, y1, y1, y1, y1, y1, y1, y1, y2, y3, hk]
    have e2 : decide ((n : Int) < 20) = true := by simp; omega
    clear h20 hk y1 y2 y3 hn h1
    go_enter Tryz.func116, Tryz.ntmps116
    go_wp2
    refine bodyPost_ret (v := .tuple #[.agg #[.int .u16 0, .int .u16 0, .int .u32 0, .int .u32 0, .int .u8 0, .int .u8 0, .int .u16 0, .int .u16 0, .int .u16 0, .string ⟨#[]⟩], .string ⟨#[]⟩, .bool false]) (by simp [results, Tryz.results116, go_sem]) rfl ?_
    exact ⟨rfl, (Below.refl _ _).alloc (Nat.le_refl _) _⟩
  have e2 : decide ((n : Int) < 20) = false := by simp; omega
  by_cases h2 : s.size < n
  · have hk : tOk s = false := by unfold tOk; rw [hn]; simp; omega
    obtain ⟨y1, y2, y3⟩ := tOk_no hk
    rw [y1, y1, y1, y1, y1, y1, y1, y1, y1, y2, y3, hk]
    have e3 : decide (s.size < n) = true := by simp; omega
    clear h20 hk y1 y2 y3 hn h1 h2
    go_enter Tryz.func116, Tryz.ntmps116
    go_wp2
    refine bodyPost_ret (v := .tuple #[.agg #[.int .u16 0, .int .u16 0, .int .u32 0, .int .u32 0, .int .u8 0, .int .u8 0, .int .u16 0, .int .u16 0, .int .u16 0, .string ⟨#[]⟩], .string ⟨#[]⟩, .bool false]) (by simp [results, Tryz.results116, go_sem]) rfl ?_
    exact ⟨rfl, (Below.refl _ _).alloc (Nat.le_refl _) _⟩
  have e3 : decide (s.size < n) = false := by simp; omega
  have hk : tOk s = true := by unfold tOk; rw [hn]; simp; omega
  obtain ⟨_, _, _, y1, y2, y3⟩ := tOk_yes hk
  rw [y1, y1, y1, y1, y1, y1, y1, y1, y1, y2, y3, hk, hn]
  have c0 := fun u => two6_ s 0 u hs2 (by omega)
  have c2 := fun u => two6_ s 2 u hs2 (by omega)
  have c4 := fun u => four6_ s 4 u hs2 (by omega)
  have c8 := fun u => four6_ s 8 u hs2 (by omega)
  have c14 := fun u => two6_ s 14 u hs2 (by omega)
  have c16 := fun u => two6_ s 16 u hs2 (by omega)
  have c18 := fun u => two6_ s 18 u hs2 (by omega)
  have i20 : (20 : Int) ≤ (n : Int) := by omega
  have in_ : (n : Int) ≤ (s.size : Int) := by omega
  generalize g16 s 0 = v0 at *
  generalize g16 s 2 = v1 at *
  generalize g32 s 4 = v2 at *
  generalize g32 s 8 = v3 at *
  generalize g16 s 14 = v6 at *
  generalize g16 s 16 = v7 at *
  generalize g16 s 18 = v8 at *
  obtain ⟨v4, hv4⟩ : ∃ v, bt s 12 % 16 = v := ⟨_, rfl⟩
  have hv4' : (bt s 12).tmod 16 = v4 := by rw [Int.tmod_eq_emod_of_nonneg b0]; exact hv4
  obtain ⟨v5, hv5⟩ : ∃ v, bt s 13 = v := ⟨_, rfl⟩
  rw [hv4, hv5]
  clear h20 hk y1 y2 y3 hn h1 h2
  go_enter Tryz.func116, Tryz.ntmps116
  go_wp2_with fail
  obtain ⟨w1, hw1⟩ : ∃ w1, w1 = w.alloc (.cells #[.int .u16 0, .int .u16 0, .int .u32 0, .int .u32 0, .int .u8 0, .int .u8 0, .int .u16 0, .int .u16 0, .int .u16 0, .string ⟨#[]⟩] 166) := ⟨_, rfl⟩
  have B1 : Below w.heap.size w w1 := by rw [hw1]; exact (Below.refl _ _).alloc (Nat.le_refl _) _
  have R1 := Box10.make w (.int .u16 0) (.int .u16 0) (.int .u32 0) (.int .u32 0) (.int .u8 0) (.int .u8 0) (.int .u16 0) (.int .u16 0) (.int .u16 0) (.string ⟨#[]⟩) 166
  have fz1 : ∀ j, w1.frozen? ⟨w.heap.size, j, none⟩ = false := by rw [hw1]; intro j; simp [go_sem]
  rw [← hw1] at R1 ⊢
  clear hw1
  refine wp_region_noPanic ?_
  refine wp_region_held_drew (S := (fun w' => True)) (by kernel_rfl) trivial (fun hHeld => ?_)
  refine tk_ 0 (v := ?_) (by assumption) ?_ ?_
  rotate_left
  · intro w hSw
    go_simp
    with_reducible rfl
  try simp only [List.getElem_toArray, List.getElem_cons_succ, List.getElem_cons_zero, Act.put, puS_]
  refine tk_ 2 (v := ?_) (by assumption) ?_ ?_
  rotate_left
  · intro w hSw
    go_simp
    with_reducible rfl
  try simp only [List.getElem_toArray, List.getElem_cons_succ, List.getElem_cons_zero, Act.put, puS_]
  refine tk_ 4 (v := ?_) (by assumption) ?_ ?_
  rotate_left
  · intro w hSw
    go_simp
    with_reducible rfl
  try simp only [List.getElem_toArray, List.getElem_cons_succ, List.getElem_cons_zero, Act.put, puS_]
  refine tk_ 6 (v := ?_) (by assumption) ?_ ?_
  rotate_left
  · intro w hSw
    go_simp
    with_reducible rfl
  try simp only [List.getElem_toArray, List.getElem_cons_succ, List.getElem_cons_zero, Act.put, puS_]
  refine tk_ 8 (v := ?_) (by assumption) ?_ ?_
  rotate_left
  · intro w hSw
    go_simp
    with_reducible rfl
  try simp only [List.getElem_toArray, List.getElem_cons_succ, List.getElem_cons_zero, Act.put, puS_]
  refine tk_ 9 (v := ?_) (by assumption) ?_ ?_
  rotate_left
  · intro w hSw
    go_simp
    with_reducible rfl
  try simp only [List.getElem_toArray, List.getElem_cons_succ, List.getElem_cons_zero, Act.put, puS_]
  refine tk_ 10 (v := ?_) (by assumption) ?_ ?_
  rotate_left
  · intro w hSw
    go_simp
    with_reducible rfl
  try simp only [List.getElem_toArray, List.getElem_cons_succ, List.getElem_cons_zero, Act.put, puS_]
  refine tk_ 11 (v := ?_) (by assumption) ?_ ?_
  rotate_left
  · intro w hSw
    go_simp
    with_reducible rfl
  try simp only [List.getElem_toArray, List.getElem_cons_succ, List.getElem_cons_zero, Act.put, puS_]
  refine tk_ 12 (v := ?_) (by assumption) ?_ ?_
  rotate_left
  · intro w hSw
    go_simp
    with_reducible rfl
  try simp only [List.getElem_toArray, List.getElem_cons_succ, List.getElem_cons_zero, Act.put, puS_]
  refine tk_ 13 (v := ?_) (by assumption) ?_ ?_
  rotate_left
  · intro w hSw
    go_simp
    with_reducible rfl
  try simp only [List.getElem_toArray, List.getElem_cons_succ, List.getElem_cons_zero, Act.put, puS_]
  refine tk_ 15 (v := ?_) (by assumption) ?_ ?_
  rotate_left
  · intro w hSw
    go_simp
    with_reducible rfl
  try simp only [List.getElem_toArray, List.getElem_cons_succ, List.getElem_cons_zero, Act.put, puS_]
  refine tk_ 17 (v := ?_) (by assumption) ?_ ?_
  rotate_left
  · intro w hSw
    go_simp
    with_reducible rfl
  try simp only [List.getElem_toArray, List.getElem_cons_succ, List.getElem_cons_zero, Act.put, puS_]
  refine tk_ 19 (v := ?_) (by assumption) ?_ ?_
  rotate_left
  · intro w hSw
    go_simp
    with_reducible rfl
  try simp only [List.getElem_toArray, List.getElem_cons_succ, List.getElem_cons_zero, Act.put, puS_]
  refine tk_ 20 (v := ?_) (by assumption) ?_ ?_
  rotate_left
  · intro w hSw
    go_simp
    with_reducible rfl
  try simp only [List.getElem_toArray, List.getElem_cons_succ, List.getElem_cons_zero, Act.put, puS_]
  refine tk_ 21 (v := ?_) (by assumption) ?_ ?_
  rotate_left
  · intro w hSw
    go_simp
    with_reducible rfl
  try simp only [List.getElem_toArray, List.getElem_cons_succ, List.getElem_cons_zero, Act.put, puS_]
  apply pqk_
  · intro tail
    refine wpAnyH_ready (rs := [1, 23]) (by kernel_rfl) (by simp) ?_
    refine AllReadyH.cons (o := _) rfl (fun K hK => ?_) ?_
    · go_simp
      refine (c0 _).mono ?_
      rintro e w5 ⟨rfl, rfl⟩
      show K _ _
      refine hK.out _ _ trivial (fun _ => ?_)
      clear hK K
      try simp only [List.getElem_toArray, List.getElem_cons_succ, List.getElem_cons_zero, Act.put, puS_]
      refine wpAnyH_ready (rs := [3, 23]) (by kernel_rfl) (by simp) ?_
      refine AllReadyH.cons (o := _) rfl (fun K hK => ?_) ?_
      · go_simp
        refine (c2 _).mono ?_
        rintro e w5 ⟨rfl, rfl⟩
        show K _ _
        refine hK.out _ _ trivial (fun _ => ?_)
        clear hK K
        try simp only [List.getElem_toArray, List.getElem_cons_succ, List.getElem_cons_zero, Act.put, puS_]
        refine wpAnyH_ready (rs := [5, 23]) (by kernel_rfl) (by simp) ?_
        refine AllReadyH.cons (o := _) rfl (fun K hK => ?_) ?_
        · go_simp
          refine (c4 _).mono ?_
          rintro e w5 ⟨rfl, rfl⟩
          show K _ _
          refine hK.out _ _ trivial (fun _ => ?_)
          clear hK K
          try simp only [List.getElem_toArray, List.getElem_cons_succ, List.getElem_cons_zero, Act.put, puS_]
          refine wpAnyH_ready (rs := [7, 23]) (by kernel_rfl) (by simp) ?_
          refine AllReadyH.cons (o := _) rfl (fun K hK => ?_) ?_
          · go_simp
            refine (c8 _).mono ?_
            rintro e w5 ⟨rfl, rfl⟩
            show K _ _
            refine hK.out _ _ trivial (fun _ => ?_)
            clear hK K
            try simp only [List.getElem_toArray, List.getElem_cons_succ, List.getElem_cons_zero, Act.put, puS_]
            refine wpAnyH_ready (rs := [14, 23]) (by kernel_rfl) (by simp) ?_
            refine AllReadyH.cons (o := _) rfl (fun K hK => ?_) ?_
            · go_simp
              refine (c14 _).mono ?_
              rintro e w5 ⟨rfl, rfl⟩
              show K _ _
              refine hK.out _ _ trivial (fun _ => ?_)
              clear hK K
              try simp only [List.getElem_toArray, List.getElem_cons_succ, List.getElem_cons_zero, Act.put, puS_]
              refine wpAnyH_ready (rs := [16, 23]) (by kernel_rfl) (by simp) ?_
              refine AllReadyH.cons (o := _) rfl (fun K hK => ?_) ?_
              · go_simp
                refine (c16 _).mono ?_
                rintro e w5 ⟨rfl, rfl⟩
                show K _ _
                refine hK.out _ _ trivial (fun _ => ?_)
                clear hK K
                try simp only [List.getElem_toArray, List.getElem_cons_succ, List.getElem_cons_zero, Act.put, puS_]
                refine wpAnyH_ready (rs := [18, 23]) (by kernel_rfl) (by simp) ?_
                refine AllReadyH.cons (o := _) rfl (fun K hK => ?_) ?_
                · go_simp
                  refine (c18 _).mono ?_
                  rintro e w5 ⟨rfl, rfl⟩
                  show K _ _
                  refine hK.out _ _ trivial (fun _ => ?_)
                  clear hK K
                  try simp only [List.getElem_toArray, List.getElem_cons_succ, List.getElem_cons_zero, Act.put, puS_]
                  refine tk_ 22 (v := ?_) (by assumption) ?_ ?_
                  rotate_left
                  · intro w hSw
                    go_simp
                    with_reducible rfl
                  try simp only [List.getElem_toArray, List.getElem_cons_succ, List.getElem_cons_zero, Act.put, puS_]
                  refine wpAnyH_ready (rs := [23]) (by kernel_rfl) (by simp) ?_
                  refine AllReadyH.cons (o := _) rfl (fun K hK => ?_) ?_
                  · go_simp
                    refine hK.out _ _ trivial (fun _ => ?_)
                    clear hK K
                    try simp only [List.getElem_toArray, List.getElem_cons_succ, List.getElem_cons_zero, Act.put, puS_]
                    refine wpAnyH_ready (rs := [24]) (by kernel_rfl) (by simp) ?_
                    refine AllReadyH.cons (o := _) rfl (fun K hK => ?_) ?_
                    · go_simp
                      refine hK.out _ _ trivial (fun _ => ?_)
                      clear hK K
                      try simp only [List.getElem_toArray, List.getElem_cons_succ, List.getElem_cons_zero, Act.put, puS_]
                      refine wpAnyH_done (by kernel_rfl) (NoPanic.normal ?_) _
                      exact tail
                    exact AllReadyH.nil
                  exact AllReadyH.nil
                refine AllReadyH.cons (o := _) rfl (fun K hK => ?_) ?_
                · go_simp
                  refine hK.out _ _ trivial (fun _ => ?_)
                  clear hK K
                  try simp only [List.getElem_toArray, List.getElem_cons_succ, List.getElem_cons_zero, Act.put, puS_]
                  refine wpAnyH_ready (rs := [18]) (by kernel_rfl) (by simp) ?_
                  refine AllReadyH.cons (o := _) rfl (fun K hK => ?_) ?_
                  · go_simp
                    refine (c18 _).mono ?_
                    rintro e w5 ⟨rfl, rfl⟩
                    show K _ _
                    refine hK.out _ _ trivial (fun _ => ?_)
                    clear hK K
                    try simp only [List.getElem_toArray, List.getElem_cons_succ, List.getElem_cons_zero, Act.put, puS_]
                    refine tk_ 22 (v := ?_) (by assumption) ?_ ?_
                    rotate_left
                    · intro w hSw
                      go_simp
                      with_reducible rfl
                    try simp only [List.getElem_toArray, List.getElem_cons_succ, List.getElem_cons_zero, Act.put, puS_]
                    refine wpAnyH_ready (rs := [24]) (by kernel_rfl) (by simp) ?_
                    refine AllReadyH.cons (o := _) rfl (fun K hK => ?_) ?_
                    · go_simp
                      refine hK.out _ _ trivial (fun _ => ?_)
                      clear hK K
                      try simp only [List.getElem_toArray, List.getElem_cons_succ, List.getElem_cons_zero, Act.put, puS_]
                      refine wpAnyH_done (by kernel_rfl) (NoPanic.normal ?_) _
                      exact tail
                    exact AllReadyH.nil
                  exact AllReadyH.nil
                exact AllReadyH.nil
              refine AllReadyH.cons (o := _) rfl (fun K hK => ?_) ?_
              · go_simp
                refine hK.out _ _ trivial (fun _ => ?_)
                clear hK K
                try simp only [List.getElem_toArray, List.getElem_cons_succ, List.getElem_cons_zero, Act.put, puS_]
                refine wpAnyH_ready (rs := [16]) (by kernel_rfl) (by simp) ?_
                refine AllReadyH.cons (o := _) rfl (fun K hK => ?_) ?_
                · go_simp
                  refine (c16 _).mono ?_
                  rintro e w5 ⟨rfl, rfl⟩
                  show K _ _
                  refine hK.out _ _ trivial (fun _ => ?_)
                  clear hK K
                  try simp only [List.getElem_toArray, List.getElem_cons_succ, List.getElem_cons_zero, Act.put, puS_]
                  refine wpAnyH_ready (rs := [18]) (by kernel_rfl) (by simp) ?_
                  refine AllReadyH.cons (o := _) rfl (fun K hK => ?_) ?_
                  · go_simp
                    refine (c18 _).mono ?_
                    rintro e w5 ⟨rfl, rfl⟩
                    show K _ _
                    refine hK.out _ _ trivial (fun _ => ?_)
                    clear hK K
                    try simp only [List.getElem_toArray, List.getElem_cons_succ, List.getElem_cons_zero, Act.put, puS_]
                    refine tk_ 22 (v := ?_) (by assumption) ?_ ?_
                    rotate_left
                    · intro w hSw
                      go_simp
                      with_reducible rfl
                    try simp only [List.getElem_toArray, List.getElem_cons_succ, List.getElem_cons_zero, Act.put, puS_]
                    refine wpAnyH_ready (rs := [24]) (by kernel_rfl) (by simp) ?_
                    refine AllReadyH.cons (o := _) rfl (fun K hK => ?_) ?_
                    · go_simp
                      refine hK.out _ _ trivial (fun _ => ?_)
                      clear hK K
                      try simp only [List.getElem_toArray, List.getElem_cons_succ, List.getElem_cons_zero, Act.put, puS_]
                      refine wpAnyH_done (by kernel_rfl) (NoPanic.normal ?_) _
                      exact tail
                    exact AllReadyH.nil
                  exact AllReadyH.nil
                exact AllReadyH.nil
              exact AllReadyH.nil
            refine AllReadyH.cons (o := _) rfl (fun K hK => ?_) ?_
            · go_simp
              refine hK.out _ _ trivial (fun _ => ?_)
              clear hK K
              try simp only [List.getElem_toArray, List.getElem_cons_succ, List.getElem_cons_zero, Act.put, puS_]
              refine wpAnyH_ready (rs := [14]) (by kernel_rfl) (by simp) ?_
              refine AllReadyH.cons (o := _) rfl (fun K hK => ?_) ?_
              · go_simp
                refine (c14 _).mono ?_
                rintro e w5 ⟨rfl, rfl⟩
                show K _ _
                refine hK.out _ _ trivial (fun _ => ?_)
                clear hK K
                try simp only [List.getElem_toArray, List.getElem_cons_succ, List.getElem_cons_zero, Act.put, puS_]
                refine wpAnyH_ready (rs := [16]) (by kernel_rfl) (by simp) ?_
                refine AllReadyH.cons (o := _) rfl (fun K hK => ?_) ?_
                · go_simp
                  refine (c16 _).mono ?_
                  rintro e w5 ⟨rfl, rfl⟩
                  show K _ _
                  refine hK.out _ _ trivial (fun _ => ?_)
                  clear hK K
                  try simp only [List.getElem_toArray, List.getElem_cons_succ, List.getElem_cons_zero, Act.put, puS_]
                  refine wpAnyH_ready (rs := [18]) (by kernel_rfl) (by simp) ?_
                  refine AllReadyH.cons (o := _) rfl (fun K hK => ?_) ?_
                  · go_simp
                    refine (c18 _).mono ?_
                    rintro e w5 ⟨rfl, rfl⟩
                    show K _ _
                    refine hK.out _ _ trivial (fun _ => ?_)
                    clear hK K
                    try simp only [List.getElem_toArray, List.getElem_cons_succ, List.getElem_cons_zero, Act.put, puS_]
                    refine tk_ 22 (v := ?_) (by assumption) ?_ ?_
                    rotate_left
                    · intro w hSw
                      go_simp
                      with_reducible rfl
                    try simp only [List.getElem_toArray, List.getElem_cons_succ, List.getElem_cons_zero, Act.put, puS_]
                    refine wpAnyH_ready (rs := [24]) (by kernel_rfl) (by simp) ?_
                    refine AllReadyH.cons (o := _) rfl (fun K hK => ?_) ?_
                    · go_simp
                      refine hK.out _ _ trivial (fun _ => ?_)
                      clear hK K
                      try simp only [List.getElem_toArray, List.getElem_cons_succ, List.getElem_cons_zero, Act.put, puS_]
                      refine wpAnyH_done (by kernel_rfl) (NoPanic.normal ?_) _
                      exact tail
                    exact AllReadyH.nil
                  exact AllReadyH.nil
                exact AllReadyH.nil
              exact AllReadyH.nil
            exact AllReadyH.nil
          refine AllReadyH.cons (o := _) rfl (fun K hK => ?_) ?_
          · go_simp
            refine hK.out _ _ trivial (fun _ => ?_)
            clear hK K
            try simp only [List.getElem_toArray, List.getElem_cons_succ, List.getElem_cons_zero, Act.put, puS_]
            refine wpAnyH_ready (rs := [7]) (by kernel_rfl) (by simp) ?_
            refine AllReadyH.cons (o := _) rfl (fun K hK => ?_) ?_
            · go_simp
              refine (c8 _).mono ?_
              rintro e w5 ⟨rfl, rfl⟩
              show K _ _
              refine hK.out _ _ trivial (fun _ => ?_)
              clear hK K
              try simp only [List.getElem_toArray, List.getElem_cons_succ, List.getElem_cons_zero, Act.put, puS_]
              refine wpAnyH_ready (rs := [14]) (by kernel_rfl) (by simp) ?_
              refine AllReadyH.cons (o := _) rfl (fun K hK => ?_) ?_
              · go_simp
                refine (c14 _).mono ?_
                rintro e w5 ⟨rfl, rfl⟩
                show K _ _
                refine hK.out _ _ trivial (fun _ => ?_)
                clear hK K
                try simp only [List.getElem_toArray, List.getElem_cons_succ, List.getElem_cons_zero, Act.put, puS_]
                refine wpAnyH_ready (rs := [16]) (by kernel_rfl) (by simp) ?_
                refine AllReadyH.cons (o := _) rfl (fun K hK => ?_) ?_
                · go_simp
                  refine (c16 _).mono ?_
                  rintro e w5 ⟨rfl, rfl⟩
                  show K _ _
                  refine hK.out _ _ trivial (fun _ => ?_)
                  clear hK K
                  try simp only [List.getElem_toArray, List.getElem_cons_succ, List.getElem_cons_zero, Act.put, puS_]
                  refine wpAnyH_ready (rs := [18]) (by kernel_rfl) (by simp) ?_
                  refine AllReadyH.cons (o := _) rfl (fun K hK => ?_) ?_
                  · go_simp
                    refine (c18 _).mono ?_
                    rintro e w5 ⟨rfl, rfl⟩
                    show K _ _
                    refine hK.out _ _ trivial (fun _ => ?_)
                    clear hK K
                    try simp only [List.getElem_toArray, List.getElem_cons_succ, List.getElem_cons_zero, Act.put, puS_]
                    refine tk_ 22 (v := ?_) (by assumption) ?_ ?_
                    rotate_left
                    · intro w hSw
                      go_simp
                      with_reducible rfl
                    try simp only [List.getElem_toArray, List.getElem_cons_succ, List.getElem_cons_zero, Act.put, puS_]
                    refine wpAnyH_ready (rs := [24]) (by kernel_rfl) (by simp) ?_
                    refine AllReadyH.cons (o := _) rfl (fun K hK => ?_) ?_
                    · go_simp
                      refine hK.out _ _ trivial (fun _ => ?_)
                      clear hK K
                      try simp only [List.getElem_toArray, List.getElem_cons_succ, List.getElem_cons_zero, Act.put, puS_]
                      refine wpAnyH_done (by kernel_rfl) (NoPanic.normal ?_) _
                      exact tail
                    exact AllReadyH.nil
                  exact AllReadyH.nil
                exact AllReadyH.nil
              exact AllReadyH.nil
            exact AllReadyH.nil
          exact AllReadyH.nil
        refine AllReadyH.cons (o := _) rfl (fun K hK => ?_) ?_
        · go_simp
          refine hK.out _ _ trivial (fun _ => ?_)
          clear hK K
          try simp only [List.getElem_toArray, List.getElem_cons_succ, List.getElem_cons_zero, Act.put, puS_]
          refine wpAnyH_ready (rs := [5]) (by kernel_rfl) (by simp) ?_
          refine AllReadyH.cons (o := _) rfl (fun K hK => ?_) ?_
          · go_simp
            refine (c4 _).mono ?_
            rintro e w5 ⟨rfl, rfl⟩
            show K _ _
            refine hK.out _ _ trivial (fun _ => ?_)
            clear hK K
            try simp only [List.getElem_toArray, List.getElem_cons_succ, List.getElem_cons_zero, Act.put, puS_]
            refine wpAnyH_ready (rs := [7]) (by kernel_rfl) (by simp) ?_
            refine AllReadyH.cons (o := _) rfl (fun K hK => ?_) ?_
            · go_simp
              refine (c8 _).mono ?_
              rintro e w5 ⟨rfl, rfl⟩
              show K _ _
              refine hK.out _ _ trivial (fun _ => ?_)
              clear hK K
              try simp only [List.getElem_toArray, List.getElem_cons_succ, List.getElem_cons_zero, Act.put, puS_]
              refine wpAnyH_ready (rs := [14]) (by kernel_rfl) (by simp) ?_
              refine AllReadyH.cons (o := _) rfl (fun K hK => ?_) ?_
              · go_simp
                refine (c14 _).mono ?_
                rintro e w5 ⟨rfl, rfl⟩
                show K _ _
                refine hK.out _ _ trivial (fun _ => ?_)
                clear hK K
                try simp only [List.getElem_toArray, List.getElem_cons_succ, List.getElem_cons_zero, Act.put, puS_]
                refine wpAnyH_ready (rs := [16]) (by kernel_rfl) (by simp) ?_
                refine AllReadyH.cons (o := _) rfl (fun K hK => ?_) ?_
                · go_simp
                  refine (c16 _).mono ?_
                  rintro e w5 ⟨rfl, rfl⟩
                  show K _ _
                  refine hK.out _ _ trivial (fun _ => ?_)
                  clear hK K
                  try simp only [List.getElem_toArray, List.getElem_cons_succ, List.getElem_cons_zero, Act.put, puS_]
                  refine wpAnyH_ready (rs := [18]) (by kernel_rfl) (by simp) ?_
                  refine AllReadyH.cons (o := _) rfl (fun K hK => ?_) ?_
                  · go_simp
                    refine (c18 _).mono ?_
                    rintro e w5 ⟨rfl, rfl⟩
                    show K _ _
                    refine hK.out _ _ trivial (fun _ => ?_)
                    clear hK K
                    try simp only [List.getElem_toArray, List.getElem_cons_succ, List.getElem_cons_zero, Act.put, puS_]
                    refine tk_ 22 (v := ?_) (by assumption) ?_ ?_
                    rotate_left
                    · intro w hSw
                      go_simp
                      with_reducible rfl
                    try simp only [List.getElem_toArray, List.getElem_cons_succ, List.getElem_cons_zero, Act.put, puS_]
                    refine wpAnyH_ready (rs := [24]) (by kernel_rfl) (by simp) ?_
                    refine AllReadyH.cons (o := _) rfl (fun K hK => ?_) ?_
                    · go_simp
                      refine hK.out _ _ trivial (fun _ => ?_)
                      clear hK K
                      try simp only [List.getElem_toArray, List.getElem_cons_succ, List.getElem_cons_zero, Act.put, puS_]
                      refine wpAnyH_done (by kernel_rfl) (NoPanic.normal ?_) _
                      exact tail
                    exact AllReadyH.nil
                  exact AllReadyH.nil
                exact AllReadyH.nil
              exact AllReadyH.nil
            exact AllReadyH.nil
          exact AllReadyH.nil
        exact AllReadyH.nil
      refine AllReadyH.cons (o := _) rfl (fun K hK => ?_) ?_
      · go_simp
        refine hK.out _ _ trivial (fun _ => ?_)
        clear hK K
        try simp only [List.getElem_toArray, List.getElem_cons_succ, List.getElem_cons_zero, Act.put, puS_]
        refine wpAnyH_ready (rs := [3]) (by kernel_rfl) (by simp) ?_
        refine AllReadyH.cons (o := _) rfl (fun K hK => ?_) ?_
        · go_simp
          refine (c2 _).mono ?_
          rintro e w5 ⟨rfl, rfl⟩
          show K _ _
          refine hK.out _ _ trivial (fun _ => ?_)
          clear hK K
          try simp only [List.getElem_toArray, List.getElem_cons_succ, List.getElem_cons_zero, Act.put, puS_]
          refine wpAnyH_ready (rs := [5]) (by kernel_rfl) (by simp) ?_
          refine AllReadyH.cons (o := _) rfl (fun K hK => ?_) ?_
          · go_simp
            refine (c4 _).mono ?_
            rintro e w5 ⟨rfl, rfl⟩
            show K _ _
            refine hK.out _ _ trivial (fun _ => ?_)
            clear hK K
            try simp only [List.getElem_toArray, List.getElem_cons_succ, List.getElem_cons_zero, Act.put, puS_]
            refine wpAnyH_ready (rs := [7]) (by kernel_rfl) (by simp) ?_
            refine AllReadyH.cons (o := _) rfl (fun K hK => ?_) ?_
            · go_simp
              refine (c8 _).mono ?_
              rintro e w5 ⟨rfl, rfl⟩
              show K _ _
              refine hK.out _ _ trivial (fun _ => ?_)
              clear hK K
              try simp only [List.getElem_toArray, List.getElem_cons_succ, List.getElem_cons_zero, Act.put, puS_]
              refine wpAnyH_ready (rs := [14]) (by kernel_rfl) (by simp) ?_
              refine AllReadyH.cons (o := _) rfl (fun K hK => ?_) ?_
              · go_simp
                refine (c14 _).mono ?_
                rintro e w5 ⟨rfl, rfl⟩
                show K _ _
                refine hK.out _ _ trivial (fun _ => ?_)
                clear hK K
                try simp only [List.getElem_toArray, List.getElem_cons_succ, List.getElem_cons_zero, Act.put, puS_]
                refine wpAnyH_ready (rs := [16]) (by kernel_rfl) (by simp) ?_
                refine AllReadyH.cons (o := _) rfl (fun K hK => ?_) ?_
                · go_simp
                  refine (c16 _).mono ?_
                  rintro e w5 ⟨rfl, rfl⟩
                  show K _ _
                  refine hK.out _ _ trivial (fun _ => ?_)
                  clear hK K
                  try simp only [List.getElem_toArray, List.getElem_cons_succ, List.getElem_cons_zero, Act.put, puS_]
                  refine wpAnyH_ready (rs := [18]) (by kernel_rfl) (by simp) ?_
                  refine AllReadyH.cons (o := _) rfl (fun K hK => ?_) ?_
                  · go_simp
                    refine (c18 _).mono ?_
                    rintro e w5 ⟨rfl, rfl⟩
                    show K _ _
                    refine hK.out _ _ trivial (fun _ => ?_)
                    clear hK K
                    try simp only [List.getElem_toArray, List.getElem_cons_succ, List.getElem_cons_zero, Act.put, puS_]
                    refine tk_ 22 (v := ?_) (by assumption) ?_ ?_
                    rotate_left
                    · intro w hSw
                      go_simp
                      with_reducible rfl
                    try simp only [List.getElem_toArray, List.getElem_cons_succ, List.getElem_cons_zero, Act.put, puS_]
                    refine wpAnyH_ready (rs := [24]) (by kernel_rfl) (by simp) ?_
                    refine AllReadyH.cons (o := _) rfl (fun K hK => ?_) ?_
                    · go_simp
                      refine hK.out _ _ trivial (fun _ => ?_)
                      clear hK K
                      try simp only [List.getElem_toArray, List.getElem_cons_succ, List.getElem_cons_zero, Act.put, puS_]
                      refine wpAnyH_done (by kernel_rfl) (NoPanic.normal ?_) _
                      exact tail
                    exact AllReadyH.nil
                  exact AllReadyH.nil
                exact AllReadyH.nil
              exact AllReadyH.nil
            exact AllReadyH.nil
          exact AllReadyH.nil
        exact AllReadyH.nil
      exact AllReadyH.nil
    refine AllReadyH.cons (o := _) rfl (fun K hK => ?_) ?_
    · go_simp
      refine hK.out _ _ trivial (fun _ => ?_)
      clear hK K
      try simp only [List.getElem_toArray, List.getElem_cons_succ, List.getElem_cons_zero, Act.put, puS_]
      refine wpAnyH_ready (rs := [1]) (by kernel_rfl) (by simp) ?_
      refine AllReadyH.cons (o := _) rfl (fun K hK => ?_) ?_
      · go_simp
        refine (c0 _).mono ?_
        rintro e w5 ⟨rfl, rfl⟩
        show K _ _
        refine hK.out _ _ trivial (fun _ => ?_)
        clear hK K
        try simp only [List.getElem_toArray, List.getElem_cons_succ, List.getElem_cons_zero, Act.put, puS_]
        refine wpAnyH_ready (rs := [3]) (by kernel_rfl) (by simp) ?_
        refine AllReadyH.cons (o := _) rfl (fun K hK => ?_) ?_
        · go_simp
          refine (c2 _).mono ?_
          rintro e w5 ⟨rfl, rfl⟩
          show K _ _
          refine hK.out _ _ trivial (fun _ => ?_)
          clear hK K
          try simp only [List.getElem_toArray, List.getElem_cons_succ, List.getElem_cons_zero, Act.put, puS_]
          refine wpAnyH_ready (rs := [5]) (by kernel_rfl) (by simp) ?_
          refine AllReadyH.cons (o := _) rfl (fun K hK => ?_) ?_
          · go_simp
            refine (c4 _).mono ?_
            rintro e w5 ⟨rfl, rfl⟩
            show K _ _
            refine hK.out _ _ trivial (fun _ => ?_)
            clear hK K
            try simp only [List.getElem_toArray, List.getElem_cons_succ, List.getElem_cons_zero, Act.put, puS_]
            refine wpAnyH_ready (rs := [7]) (by kernel_rfl) (by simp) ?_
            refine AllReadyH.cons (o := _) rfl (fun K hK => ?_) ?_
            · go_simp
              refine (c8 _).mono ?_
              rintro e w5 ⟨rfl, rfl⟩
              show K _ _
              refine hK.out _ _ trivial (fun _ => ?_)
              clear hK K
              try simp only [List.getElem_toArray, List.getElem_cons_succ, List.getElem_cons_zero, Act.put, puS_]
              refine wpAnyH_ready (rs := [14]) (by kernel_rfl) (by simp) ?_
              refine AllReadyH.cons (o := _) rfl (fun K hK => ?_) ?_
              · go_simp
                refine (c14 _).mono ?_
                rintro e w5 ⟨rfl, rfl⟩
                show K _ _
                refine hK.out _ _ trivial (fun _ => ?_)
                clear hK K
                try simp only [List.getElem_toArray, List.getElem_cons_succ, List.getElem_cons_zero, Act.put, puS_]
                refine wpAnyH_ready (rs := [16]) (by kernel_rfl) (by simp) ?_
                refine AllReadyH.cons (o := _) rfl (fun K hK => ?_) ?_
                · go_simp
                  refine (c16 _).mono ?_
                  rintro e w5 ⟨rfl, rfl⟩
                  show K _ _
                  refine hK.out _ _ trivial (fun _ => ?_)
                  clear hK K
                  try simp only [List.getElem_toArray, List.getElem_cons_succ, List.getElem_cons_zero, Act.put, puS_]
                  refine wpAnyH_ready (rs := [18]) (by kernel_rfl) (by simp) ?_
                  refine AllReadyH.cons (o := _) rfl (fun K hK => ?_) ?_
                  · go_simp
                    refine (c18 _).mono ?_
                    rintro e w5 ⟨rfl, rfl⟩
                    show K _ _
                    refine hK.out _ _ trivial (fun _ => ?_)
                    clear hK K
                    try simp only [List.getElem_toArray, List.getElem_cons_succ, List.getElem_cons_zero, Act.put, puS_]
                    refine tk_ 22 (v := ?_) (by assumption) ?_ ?_
                    rotate_left
                    · intro w hSw
                      go_simp
                      with_reducible rfl
                    try simp only [List.getElem_toArray, List.getElem_cons_succ, List.getElem_cons_zero, Act.put, puS_]
                    refine wpAnyH_ready (rs := [24]) (by kernel_rfl) (by simp) ?_
                    refine AllReadyH.cons (o := _) rfl (fun K hK => ?_) ?_
                    · go_simp
                      refine hK.out _ _ trivial (fun _ => ?_)
                      clear hK K
                      try simp only [List.getElem_toArray, List.getElem_cons_succ, List.getElem_cons_zero, Act.put, puS_]
                      refine wpAnyH_done (by kernel_rfl) (NoPanic.normal ?_) _
                      exact tail
                    exact AllReadyH.nil
                  exact AllReadyH.nil
                exact AllReadyH.nil
              exact AllReadyH.nil
            exact AllReadyH.nil
          exact AllReadyH.nil
        exact AllReadyH.nil
      exact AllReadyH.nil
    exact AllReadyH.nil
  refine new10_ fun w9 x0 x1 x2 x3 x4 x5 x6 x7 x8 x9 B9 s9 => ?_
  have R9 := R1.on B9
  have B := B1.trans (B9.mono B1.size)
  have fz9 : ∀ j, w9.frozen? ⟨w.heap.size, j, none⟩ = false := fun j => (B9.frozen (p := ⟨_, j, none⟩) R1.1).trans (fz1 j)
  have hne : ¬ w.heap.size = w1.heap.size := by have := R1.1; omega
  clear B9 c0 c2 c4 c8 c14 c16 c18 hb
  go_wp2_with fail
  refine wp_region_noPanic ?_
  refine wp_region_held_drew (S := (fun w' => w'.cell? ⟨w1.heap.size, 0, none⟩ = some (.int .u16 v0) ∧ w'.cell? ⟨w1.heap.size, 1, none⟩ = some (.int .u16 v1) ∧ w'.cell? ⟨w1.heap.size, 2, none⟩ = some (.int .u32 v2) ∧ w'.cell? ⟨w1.heap.size, 3, none⟩ = some (.int .u32 v3) ∧ w'.cell? ⟨w1.heap.size, 4, none⟩ = some (.int .u8 v4) ∧ w'.cell? ⟨w1.heap.size, 5, none⟩ = some (.int .u8 v5) ∧ w'.cell? ⟨w1.heap.size, 6, none⟩ = some (.int .u16 v6) ∧ w'.cell? ⟨w1.heap.size, 7, none⟩ = some (.int .u16 v7) ∧ w'.cell? ⟨w1.heap.size, 8, none⟩ = some (.int .u16 v8) ∧ w'.cell? ⟨w1.heap.size, 9, none⟩ = some (.string (s.extract 20 n)))) (by kernel_rfl) ?_ (fun hHeld => ?_)
  · simp [x0, x1, x2, x3, x4, x5, x6, x7, x8, x9]
  refine tk_ 0 (v := ?_) (by assumption) ?_ ?_
  rotate_left
  · intro w hSw
    obtain ⟨g0, g1, g2, g3, g4, g5, g6, g7, g8, g9⟩ := hSw
    go_simp
    with_reducible rfl
  try simp only [List.getElem_toArray, List.getElem_cons_succ, List.getElem_cons_zero, Act.put, puS_]
  refine tk_ 1 (v := ?_) (by assumption) ?_ ?_
  rotate_left
  · intro w hSw
    obtain ⟨g0, g1, g2, g3, g4, g5, g6, g7, g8, g9⟩ := hSw
    go_simp
    with_reducible rfl
  try simp only [List.getElem_toArray, List.getElem_cons_succ, List.getElem_cons_zero, Act.put, puS_]
  refine tk_ 2 (v := ?_) (by assumption) ?_ ?_
  rotate_left
  · intro w hSw
    obtain ⟨g0, g1, g2, g3, g4, g5, g6, g7, g8, g9⟩ := hSw
    go_simp
    with_reducible rfl
  try simp only [List.getElem_toArray, List.getElem_cons_succ, List.getElem_cons_zero, Act.put, puS_]
  refine tk_ 3 (v := ?_) (by assumption) ?_ ?_
  rotate_left
  · intro w hSw
    obtain ⟨g0, g1, g2, g3, g4, g5, g6, g7, g8, g9⟩ := hSw
    go_simp
    with_reducible rfl
  try simp only [List.getElem_toArray, List.getElem_cons_succ, List.getElem_cons_zero, Act.put, puS_]
  obtain ⟨_, r0, r1, r2, r3, r4, r5, r6, r7, r8, r9⟩ := id R9
  refine rd_ 4 (fun K hK => ?_)
  go_simp
  refine box10d_ (b := w.heap.size) R9.some B (Nat.le_refl _) fun wz y0 y1 y2 y3 y4 y5 y6 y7 y8 y9 BZ far => ?_
  have hS2 : wz.cell? ⟨w1.heap.size, 0, none⟩ = some (.int .u16 v0) ∧ wz.cell? ⟨w1.heap.size, 1, none⟩ = some (.int .u16 v1) ∧ wz.cell? ⟨w1.heap.size, 2, none⟩ = some (.int .u32 v2) ∧ wz.cell? ⟨w1.heap.size, 3, none⟩ = some (.int .u32 v3) ∧ wz.cell? ⟨w1.heap.size, 4, none⟩ = some (.int .u8 v4) ∧ wz.cell? ⟨w1.heap.size, 5, none⟩ = some (.int .u8 v5) ∧ wz.cell? ⟨w1.heap.size, 6, none⟩ = some (.int .u16 v6) ∧ wz.cell? ⟨w1.heap.size, 7, none⟩ = some (.int .u16 v7) ∧ wz.cell? ⟨w1.heap.size, 8, none⟩ = some (.int .u16 v8) ∧ wz.cell? ⟨w1.heap.size, 9, none⟩ = some (.string (s.extract 20 n)) :=
    ⟨(far _ hne).trans x0, (far _ hne).trans x1, (far _ hne).trans x2, (far _ hne).trans x3, (far _ hne).trans x4, (far _ hne).trans x5, (far _ hne).trans x6, (far _ hne).trans x7, (far _ hne).trans x8, (far _ hne).trans x9⟩
  refine hK.out _ _ hS2 (fun hHeld2 => ?_)
  clear hK K hHeld hHeld2 far fz9 x0 x1 x2 x3 x4 x5 x6 x7 x8 x9 r0 r1 r2 r3 r4 r5 r6 r7 r8 r9 R9 B
  try simp only [List.getElem_toArray, List.getElem_cons_succ, List.getElem_cons_zero, Act.put, puS_]
  refine rd_ 5 (fun K hK => ?_)
  go_simp
  refine hK.out _ _ hS2 (fun _ => ?_)
  clear hK K
  try simp only [List.getElem_toArray, List.getElem_cons_succ, List.getElem_cons_zero, Act.put, puS_]
  refine rd_ 6 (fun K hK => ?_)
  go_simp
  refine hK.out _ _ hS2 (fun _ => ?_)
  clear hK K
  try simp only [List.getElem_toArray, List.getElem_cons_succ, List.getElem_cons_zero, Act.put, puS_]
  refine wpAnyH_done (by kernel_rfl) (NoPanic.normal ?_) _
  clear hS2
  go_wp2
  refine bodyPost_ret (v := .tuple #[.agg #[.int .u16 v0, .int .u16 v1, .int .u32 v2, .int .u32 v3, .int .u8 v4, .int .u8 v5, .int .u16 v6, .int .u16 v7, .int .u16 v8, .string (s.extract 20 n)], .string (s.extract n s.size), .bool true]) (by simp [results, Tryz.results116, go_sem, y0, y1, y2, y3, y4, y5, y6, y7, y8, y9]) rfl ?_
  exact ⟨rfl, BZ⟩
def tPutB (sp dp sq ak lo fl wi su ur : Int) (o p : ByteArray) : ByteArray := if tE o.size lo = 0 then tcpB sp dp sq ak lo fl wi su ur o p else ⟨#[]⟩
theorem tcpB_parts (sp dp sq ak lo fl wi su ur : Int) (o p : ByteArray) (f0 : 0 ≤ fl) (f1 : fl ≤ 255) :
    strOfNums (wordL [sp, dp]) ++ strOfNums (wordL [sq / 65536, sq % 65536]) ++ strOfNums (wordL [ak / 65536, ak % 65536]) ++ strOfNums [80 + 4 * (o.size : Int) + lo, fl] ++ strOfNums (wordL [wi, su, ur]) ++ o ++ p = tcpB sp dp sq ak lo fl wi su ur o p := by
  unfold tcpB
  congr 2
  simp only [strOfNums_append]
  congr 1
  simp only [tcpW, wordL, List.flatMap_cons, List.flatMap_nil, List.append_nil, List.cons_append, List.nil_append]
  rw [show (256 * (80 + 4 * (o.size : Int) + lo) + fl) / 256 = 80 + 4 * (o.size : Int) + lo by omega, show (256 * (80 + 4 * (o.size : Int) + lo) + fl) % 256 = fl by omega]
theorem row3_ {k : IntKind} {w : World} {b : Nat} {x y z : Int} (hb : b < w.heap.size) (h0 : w.cell? ⟨b, 0, none⟩ = some (.int k x)) (h1 : w.cell? ⟨b, 1, none⟩ = some (.int k y)) (h2 : w.cell? ⟨b, 2, none⟩ = some (.int k z)) : Row k w (some ⟨b, 0, none⟩) 3 [x, y, z] :=
  ⟨rfl, .inr ⟨b, 0, rfl, hb, by
    intro t ht
    match t, ht with
    | 0, _ => simpa using h0
    | 1, _ => simpa using h1
    | 2, _ => simpa using h2⟩⟩
theorem rput6_ (sp dp sq ak lo fl wi su ur : Int) (o p : ByteArray) (w : World) (a0 : 0 ≤ sp) (a1 : sp ≤ 65535) (b0 : 0 ≤ dp) (b1 : dp ≤ 65535) (c0 : 0 ≤ sq) (c1 : sq ≤ 4294967295) (d0 : 0 ≤ ak) (d1 : ak ≤ 4294967295) (e0 : 0 ≤ lo) (e1 : lo ≤ 255) (f0 : 0 ≤ fl) (f1 : fl ≤ 255)
    (g0 : 0 ≤ wi) (g1 : wi ≤ 65535) (h0 : 0 ≤ su) (h1 : su ≤ 65535) (i0 : 0 ≤ ur) (i1 : ur ≤ 65535) (ho : o.size ≤ 1000000) (hp : p.size ≤ 1000000) :
    Cw_ 108 #[.agg #[.int .u16 sp, .int .u16 dp, .int .u32 sq, .int .u32 ak, .int .u8 lo, .int .u8 fl, .int .u16 wi, .int .u16 su, .int .u16 ur, .string o], .string p] (.tuple #[.string (tPutB sp dp sq ak lo fl wi su ur o p), .int .i64 (tE o.size lo)]) w := by
  obtain ⟨n, hn⟩ : ∃ n, o.size = n := ⟨_, rfl⟩
  rw [hn] at ho
  by_cases hE : tE n lo = 0
  rotate_left
  · have hE2 : tE n lo = 2 := by unfold tE at hE ⊢; split <;> simp_all
    have HE : Hid (tE o.size lo = 2) := by show _ = _; rw [hn]; exact hE2
    have HB : Hid (tPutB sp dp sq ak lo fl wi su ur o p = ⟨#[]⟩) := by show _ = _; unfold tPutB; rw [HE.out]; rfl
    have key : ∃ x y z : Bool, decide ((40 : Int) < (n : Int)) = x ∧ decide ((0 : Int) < (n : Int) % 4) = y ∧ decide ((15 : Int) < lo) = z ∧ (x = true ∨ (x = false ∧ y = true) ∨ (x = false ∧ y = false ∧ z = true)) := by
      refine ⟨_, _, _, rfl, rfl, rfl, ?_⟩
      simp only [decide_eq_true_eq, decide_eq_false_iff_not]
      unfold tE at hE2
      split at hE2
      · omega
      · omega
    obtain ⟨x, y, z, k1, k2, k3, hk⟩ := key
    clear hE hE2
    rcases hk with rfl | ⟨rfl, rfl⟩ | ⟨rfl, rfl, rfl⟩
    all_goals
      go_enter Tryz.func108, Tryz.ntmps108
      go_wp2
      go_ret2
      rw [HE.out, HB.out]
      exact ⟨rfl, (Below.refl _ _).alloc (Nat.le_refl _) _⟩
  have hh : n ≤ 40 ∧ n % 4 = 0 ∧ lo ≤ 15 := by
    unfold tE at hE
    split at hE
    · omega
    · omega
  obtain ⟨j1, j2, j3⟩ := hh
  have HE : Hid (tE o.size lo = 0) := by show _ = _; rw [hn]; exact hE
  have HB : Hid (tPutB sp dp sq ak lo fl wi su ur o p = tcpB sp dp sq ak lo fl wi su ur o p) := by show _ = _; unfold tPutB; rw [HE.out, if_pos rfl]
  have HV := tcpB_parts sp dp sq ak lo fl wi su ur o p f0 f1
  have k1 : decide ((40 : Int) < (n : Int)) = false := by simp; omega
  have k2 : (n : Int) % 4 = 0 := by omega
  have k3 : decide ((15 : Int) < lo) = false := by simp; omega
  rw [hn] at HV
  obtain ⟨x, hx⟩ : ∃ x : Int, 80 + 4 * (n : Int) + lo = x := ⟨_, rfl⟩
  rw [hx] at HV
  have k4 : IntKind.u8.wrap (80 + 4 * (n : Int)) = 80 + 4 * (n : Int) := IntWalk.u8_in _ (by omega)
  have k5 : IntKind.u8.wrap x = x := IntWalk.u8_in _ (by omega)
  have ca : ∀ u (k : Nat), k < u.heap.size → u.cell? ⟨k, 0, none⟩ = some (.int .u16 sp) → u.cell? ⟨k, 1, none⟩ = some (.int .u16 dp) → Calls Tryz.prog 91 #[.slice (some ⟨k, 0, none⟩) 2 2] u fun e w' => e = .returned (.string (strOfNums (wordL [sp, dp]))) ∧ Below u.heap.size u w' :=
    fun u k hk h0 h1 => rword_any _ 2 2 [sp, dp] u (row2 hk h0 h1) (by omega) (by intro x hx; simp at hx; omega)
  have cw : ∀ u (k : Nat), k < u.heap.size → u.cell? ⟨k, 0, none⟩ = some (.int .u16 wi) → u.cell? ⟨k, 1, none⟩ = some (.int .u16 su) → u.cell? ⟨k, 2, none⟩ = some (.int .u16 ur) → Calls Tryz.prog 91 #[.slice (some ⟨k, 0, none⟩) 3 3] u fun e w' => e = .returned (.string (strOfNums (wordL [wi, su, ur]))) ∧ Below u.heap.size u w' :=
    fun u k hk h0 h1 h2 => rword_any _ 3 3 [wi, su, ur] u (row3_ hk h0 h1 h2) (by omega) (by intro x hx; simp at hx; omega)
  have cb := fun u => rput32 sq u c0 c1
  have cc := fun u => rput32 ak u d0 d1
  have cv := fun W : World => conv2 W W.heap.size x fl rfl
  have z1 : (strOfNums (wordL [sp, dp])).size = 4 := by rw [size_W]; rfl
  have z2 : (strOfNums (wordL [sq / 65536, sq % 65536])).size = 4 := by rw [size_W]; rfl
  have z3 : (strOfNums (wordL [ak / 65536, ak % 65536])).size = 4 := by rw [size_W]; rfl
  have z4 : (strOfNums [x, fl]).size = 2 := by rw [strOfNums_size]; rfl
  have z5 : (strOfNums (wordL [wi, su, ur])).size = 6 := by rw [size_W]; rfl
  generalize strOfNums (wordL [sp, dp]) = U1 at *
  generalize strOfNums (wordL [sq / 65536, sq % 65536]) = U2 at *
  generalize strOfNums (wordL [ak / 65536, ak % 65536]) = U3 at *
  generalize strOfNums [x, fl] = U4 at *
  generalize strOfNums (wordL [wi, su, ur]) = U5 at *
  obtain ⟨U, hU⟩ : ∃ U, U = U1 ++ U2 ++ U3 := ⟨_, rfl⟩
  obtain ⟨V, hV⟩ : ∃ V, V = U ++ U4 := ⟨_, rfl⟩
  have zU : U.size = 12 := by rw [hU, ByteArray.size_append, ByteArray.size_append]; omega
  have zV : V.size = 14 := by rw [hV, ByteArray.size_append]; omega
  have q1 : ¬ 9223372036854775807 < U1.size + U2.size := by omega
  have q2 : ¬ 9223372036854775807 < U1.size + U2.size + U3.size := by omega
  have q3 : U.size + U4.size ≤ 9223372036854775807 := by omega
  have q4 : ¬ 9223372036854775807 < V.size + U5.size := by omega
  have q5 : ¬ 9223372036854775807 < V.size + U5.size + n := by omega
  have q6 : ¬ 9223372036854775807 < V.size + U5.size + n + p.size := by omega
  have HV2 := Lib.hid HV
  have HU := Lib.hid hU
  have HV3 := Lib.hid hV
  clear HV hU hV z1 z2 z3 z4 z5 zU zV hE j1 j2 j3
  go_enter Tryz.func108, Tryz.ntmps108
  go_wp2_with fail
  have A0 := Box10.make w (.int .u16 sp) (.int .u16 dp) (.int .u32 sq) (.int .u32 ak) (.int .u8 lo) (.int .u8 fl) (.int .u16 wi) (.int .u16 su) (.int .u16 ur) (.string o) 166
  have B0 : Below w.heap.size w (w.alloc (.cells #[.int .u16 sp, .int .u16 dp, .int .u32 sq, .int .u32 ak, .int .u8 lo, .int .u8 fl, .int .u16 wi, .int .u16 su, .int .u16 ur, .string o] 166)) := (Below.refl _ _).alloc (Nat.le_refl _) _
  obtain ⟨w1, hw1⟩ : ∃ x, x = w.alloc (.cells #[.int .u16 sp, .int .u16 dp, .int .u32 sq, .int .u32 ak, .int .u8 lo, .int .u8 fl, .int .u16 wi, .int .u16 su, .int .u16 ur, .string o] 166) := ⟨_, rfl⟩
  rw [← hw1] at A0 B0 ⊢
  clear hw1
  have MK := Lib.hid (show ∀ w', Below w1.heap.size w1 w' → w'.cell? ⟨w.heap.size, 0, none⟩ = some (.int .u16 sp) ∧ w'.cell? ⟨w.heap.size, 1, none⟩ = some (.int .u16 dp) ∧ w'.cell? ⟨w.heap.size, 2, none⟩ = some (.int .u32 sq) ∧ w'.cell? ⟨w.heap.size, 3, none⟩ = some (.int .u32 ak) ∧ Below w1.heap.size w1 w' from
    fun w' h => by obtain ⟨_, y0, y1, y2, y3, _⟩ := A0.on h; exact ⟨y0, y1, y2, y3, h⟩)
  go_region_held3 (fun w' => w'.cell? ⟨w.heap.size, 0, none⟩ = some (.int .u16 sp) ∧ w'.cell? ⟨w.heap.size, 1, none⟩ = some (.int .u16 dp) ∧ w'.cell? ⟨w.heap.size, 2, none⟩ = some (.int .u32 sq) ∧ w'.cell? ⟨w.heap.size, 3, none⟩ = some (.int .u32 ak) ∧ Below w1.heap.size w1 w')
    ((go_split_ands
      refine MK.out _ ?_
      repeat
        first
          | assumption
          | exact Below.refl _ _
          | refine Below.drew ?_
          | refine Below.alloc ?_ ?_ _
          | (refine Below.trans ?_ (hbw.mono ?_))
          | (refine Below.size (B := w1.heap.size) ?_
             assumption)
          | focus (simp; done)
          | focus (simp; omega)))
    ((first
      | (go_at_call 91
         refine (ca _ _ ?_ ?_ ?_).mono ?_
         · simp
         · simp [go_sem]
         · simp [go_sem]
         rintro e w2 ⟨rfl, hbw⟩)
      | (go_at_call_of 92 sq
         refine (cb _).mono ?_
         rintro e w2 ⟨rfl, hbw⟩)
      | (go_at_call_of 92 ak
         refine (cc _).mono ?_
         rintro e w2 ⟨rfl, hbw⟩)))
  rename_i HH
  have b2 := HH.2.2.2.2
  have A2 := A0.on b2
  have B2 := B0.trans (b2.mono B0.size)
  clear HH b2 MK A0 B0 ca cb cc q1 q2
  rw [← HU.out]
  have cv2 := cv w2
  obtain ⟨_, y0, y1, y2, y3, y4, y5, y6, y7, y8, y9⟩ := id A2
  go_wp2_with fail
  clear y0 y1 y2 y3 y4 y5 y6 y7 y8 y9 cv cv2
  rw [← HV3.out]
  have A3 := A2.past (o := .cells #[.int .u8 x, .int .u8 fl] 5)
  have B3 := B2.alloc B2.size (.cells #[.int .u8 x, .int .u8 fl] 5)
  obtain ⟨w3, hw3⟩ : ∃ y, y = w2.alloc (.cells #[.int .u8 x, .int .u8 fl] 5) := ⟨_, rfl⟩
  rw [← hw3] at A3 B3 ⊢
  clear hw3 A2 B2
  have MK := Lib.hid (show ∀ w', Below w3.heap.size w3 w' → w'.cell? ⟨w.heap.size, 6, none⟩ = some (.int .u16 wi) ∧ w'.cell? ⟨w.heap.size, 7, none⟩ = some (.int .u16 su) ∧ w'.cell? ⟨w.heap.size, 8, none⟩ = some (.int .u16 ur) ∧ w'.cell? ⟨w.heap.size, 9, none⟩ = some (.string o) ∧ Below w3.heap.size w3 w' from
    fun w' h => by obtain ⟨_, y0, y1, y2, y3, y4, y5, y6, y7, y8, y9⟩ := A3.on h; exact ⟨y6, y7, y8, y9, h⟩)
  go_region_held3 (fun w' => w'.cell? ⟨w.heap.size, 6, none⟩ = some (.int .u16 wi) ∧ w'.cell? ⟨w.heap.size, 7, none⟩ = some (.int .u16 su) ∧ w'.cell? ⟨w.heap.size, 8, none⟩ = some (.int .u16 ur) ∧ w'.cell? ⟨w.heap.size, 9, none⟩ = some (.string o) ∧ Below w3.heap.size w3 w')
    ((go_split_ands
      refine MK.out _ ?_
      repeat
        first
          | assumption
          | exact Below.refl _ _
          | refine Below.drew ?_
          | refine Below.alloc ?_ ?_ _
          | (refine Below.trans ?_ (hbw.mono ?_))
          | (refine Below.size (B := w3.heap.size) ?_
             assumption)
          | focus (simp; done)
          | focus (simp; omega)))
    ((first
      | (go_at_call 91
         refine (cw _ _ ?_ ?_ ?_ ?_).mono ?_
         · simp
         · simp [go_sem]
         · simp [go_sem]
         · simp [go_sem]
         rintro e w4 ⟨rfl, hbw⟩)))
  rename_i HH
  have B4 := B3.trans (HH.2.2.2.2.mono B3.size)
  clear HH MK A3 B3 cw
  go_wp2
  go_ret2
  rw [HE.out, HB.out, ← HV2.out, ← HU.out, ← HV3.out]
  exact ⟨rfl, B4⟩
end Go.Proofs.YtbpicngbjggblaaGreatDoor
namespace Go.Proofs.YtbpicngbjggblaaGreatDoor
set_option maxHeartbeats 4000000
set_option maxRecDepth 100000
set_option linter.unusedVariables false
set_option linter.unusedSimpArgs false
open Go.ChangeShapes Go.WideShapes Go.ChangeAt Go.RowKit Go.PlainAid
attribute [local go_sem ↓] Go.wp_at_zero Go.wp_at_succ
namespace TcpLaid
def A0 : ByteArray := ⟨#[0, 1, 0, 2, 0, 0, 0, 3, 0, 0, 0, 4, 80, 2, 0, 5, 0, 0, 0, 0]⟩
def B0 : ByteArray := ⟨#[0, 1, 0, 2, 0, 0, 0, 3, 0, 0, 0, 4, 80, 2, 0, 5, 159, 192, 0, 0]⟩
def Z0 : ByteArray := ⟨#[0, 0, 0, 0, 0, 0, 0, 0, 0, 0, 0, 0, 0, 0, 0, 0, 0, 0, 0, 0]⟩
theorem v1 : tPutB 1 2 3 4 0 2 5 0 0 ⟨#[]⟩ ⟨#[]⟩ = A0 := by kernel_rfl
theorem v2 : slT 16909060 84281096 A0 = B0 := by kernel_rfl
theorem v3 : str (Lib.repeatL (⟨#[0]⟩ : ByteArray).data.toList 20) = Z0 := by kernel_rfl
theorem v4 : tOk Z0 = false := by kernel_rfl
theorem v5 : tOk (A0.extract 0 12 ++ ⟨#[96]⟩ ++ A0.extract 13 20) = false := by kernel_rfl
theorem v6 : tPutB 0 0 0 0 16 0 0 0 0 ⟨#[]⟩ ⟨#[]⟩ = ⟨#[]⟩ := by kernel_rfl
theorem v7 : tPutB 0 0 0 0 0 0 0 0 0 ⟨#[97, 98]⟩ ⟨#[]⟩ = ⟨#[]⟩ := by kernel_rfl
theorem v8 : ckT 16909060 84281096 B0 = true := by kernel_rfl
end TcpLaid
end Go.Proofs.YtbpicngbjggblaaGreatDoor
