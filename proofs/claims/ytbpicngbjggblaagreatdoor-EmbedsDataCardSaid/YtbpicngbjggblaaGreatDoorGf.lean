/- Texts of this proof, together: UdpP, UdpA, UdpB, UdpM, UdpC. -/
import Derived.Test.YtbpicngbjggblaaGreatDoorGd
import Derived.Test.YtbpicngbjggblaaGreatDoorTake
import Derived.Test.YtbpicngbjggblaaGreatDoorGc
import Derived.Test.YtbpicngbjggblaaGreatDoorGb
import Derived.Deep.RegionHeld3
namespace Go.Proofs.YtbpicngbjggblaaGreatDoor
set_option linter.unusedVariables false
set_option linter.unusedSimpArgs false
open Go.ChangeShapes Go.WideShapes Go.ChangeAt Go.RowKit Go.PlainAid
/-- A text that is a datagram. -/
def uOk (s : ByteArray) : Bool := decide (8 ≤ s.size) && decide (g16 s 4 = (s.size : Int))
def uI (s : ByteArray) (v : Int) : Int := if uOk s then v else 0
def uP (s : ByteArray) : ByteArray := if uOk s then s.extract 8 s.size else ⟨#[]⟩
/-- A datagram's bytes. -/
def udpB (a b c : Int) (p : ByteArray) : ByteArray := strOfNums (wordL [a, b, (8 + (p.size : Int)) % 65536, c]) ++ p
/-- What is summed ahead of a text of so many bytes. -/
def pseuB (a b pr n : Int) : ByteArray := strOfNums (wordL [a / 65536, a % 65536, b / 65536, b % 65536, pr, n % 65536])
def zeroB (s : ByteArray) (k : Nat) : ByteArray := s.extract 0 k ++ strOfNums [0, 0] ++ s.extract (k + 2) s.size
def ckU (a b : Int) (s : ByteArray) : Bool := decide (8 ≤ s.size) && (decide (g16 s 6 = 0) || holdsV [pseuB a b 17 s.size, s])
def slN (a b : Int) (s : ByteArray) : Int := if sumV [pseuB a b 17 s.size, zeroB s 6] = 0 then 65535 else sumV [pseuB a b 17 s.size, zeroB s 6]
def slU (a b : Int) (s : ByteArray) : ByteArray := if s.size < 8 then s else s.extract 0 6 ++ strOfNums (wordL [slN a b s]) ++ s.extract 8 s.size
theorem uOk_yes {s : ByteArray} (h : uOk s = true) : 8 ≤ s.size ∧ g16 s 4 = (s.size : Int) ∧ (∀ v, uI s v = v) ∧ uP s = s.extract 8 s.size := by
  have h' := h
  unfold uOk at h'
  simp only [Bool.and_eq_true, decide_eq_true_eq] at h'
  refine ⟨h'.1, h'.2, fun v => ?_, ?_⟩
  · unfold uI; rw [if_pos h]
  · unfold uP; rw [if_pos h]
theorem uOk_no {s : ByteArray} (h : uOk s = false) : (∀ v, uI s v = 0) ∧ uP s = ⟨#[]⟩ := by
  refine ⟨fun v => ?_, ?_⟩
  · unfold uI; rw [if_neg (by rw [h]; decide)]
  · unfold uP; rw [if_neg (by rw [h]; decide)]
theorem pseuB_size (a b pr n : Int) : (pseuB a b pr n).size = 12 := by unfold pseuB; rw [size_W]; rfl
theorem slN_bd (a b : Int) (s : ByteArray) : 0 < slN a b s ∧ slN a b s ≤ 65535 := by
  have := sumV_bd [pseuB a b 17 s.size, zeroB s 6]
  unfold slN
  split <;> omega
end Go.Proofs.YtbpicngbjggblaaGreatDoor
namespace Go.Proofs.YtbpicngbjggblaaGreatDoor
set_option maxHeartbeats 2000000
set_option maxRecDepth 100000
set_option linter.unusedVariables false
set_option linter.unusedSimpArgs false
open Go.ChangeShapes Go.WideShapes Go.ChangeAt Go.RowKit Go.PlainAid
attribute [local go_sem ↓] Go.wp_at_zero Go.wp_at_succ
theorem word5_ (s : ByteArray) (k : Nat) (w : World) (hs : s.size ≤ maxLen) (h : k + 2 ≤ s.size) :
    Calls Tryz.prog 141 #[.string s, .int .i64 (k : Int)] w fun e w' => e = .returned (.int .u16 (g16 s k)) ∧ w = w' := by
  go_enter Tryz.func141, Tryz.ntmps141
  go_wp2_with fail
  refine (rget16_yes s k _ hs h).mono ?_; rintro e w' ⟨rfl, rfl⟩
  go_wp2
  go_ret
  exact ⟨rfl, rfl⟩
theorem rparse5_ (s : ByteArray) (w : World) (hs : s.size ≤ 1000000) :
    Cw_ 117 #[.string s] (.tuple #[.agg #[.int .u16 (uI s (g16 s 0)), .int .u16 (uI s (g16 s 2)), .int .u16 (uI s (g16 s 4)), .int .u16 (uI s (g16 s 6))], .string (uP s), .bool (uOk s)]) w := by
  have hs2 : s.size ≤ maxLen := by unfold maxLen; omega
  by_cases h8 : s.size < 8
  · have hk : uOk s = false := by unfold uOk; simp; omega
    obtain ⟨y1, y2⟩ := uOk_no hk
    rw [y1, y1, y1, y1, y2, hk]
    have e1 : decide ((s.size : Int) < 8) = true := by simp; omega
    clear h8 hk y1 y2
    go_enter Tryz.func117, Tryz.ntmps117
    go_wp2
    refine bodyPost_ret (v := .tuple #[.agg #[.int .u16 0, .int .u16 0, .int .u16 0, .int .u16 0], .string ⟨#[]⟩, .bool false]) (by simp [results, Tryz.results117, go_sem]) rfl ?_
    exact ⟨rfl, (Below.refl _ _).alloc (Nat.le_refl _) _⟩
  have e1 : decide ((s.size : Int) < 8) = false := by simp; omega
  have c4 := fun u => word5_ s 4 u hs2 (by omega)
  by_cases h4 : g16 s 4 = (s.size : Int)
  rotate_left
  · have hk : uOk s = false := by unfold uOk; simp [h4]
    obtain ⟨y1, y2⟩ := uOk_no hk
    rw [y1, y1, y1, y1, y2, hk]
    obtain ⟨z, hz⟩ : ∃ z : Int, z = g16 s 4 := ⟨_, rfl⟩
    have z0 := g16_nonneg s 4
    have z1 := g16_le s 4
    rw [← hz] at h4 c4 z0 z1
    have e2 : (z == (s.size : Int)) = false := by simpa using h4
    have e3 : (z != (s.size : Int)) = true := by simpa using h4
    clear h8 hk y1 y2 h4 hz
    go_enter Tryz.func117, Tryz.ntmps117
    go_wp2_with fail
    refine (c4 _).mono ?_; rintro e w1 ⟨rfl, rfl⟩
    go_wp2
    refine bodyPost_ret (v := .tuple #[.agg #[.int .u16 0, .int .u16 0, .int .u16 0, .int .u16 0], .string ⟨#[]⟩, .bool false]) (by simp [results, Tryz.results117, go_sem]) rfl ?_
    exact ⟨rfl, (Below.refl _ _).alloc (Nat.le_refl _) _⟩
  have hk : uOk s = true := by unfold uOk; simp [h4]; omega
  obtain ⟨_, _, y1, y2⟩ := uOk_yes hk
  rw [y1, y1, y1, y1, y2, hk]
  have c0 := fun u => word5_ s 0 u hs2 (by omega)
  have c2 := fun u => word5_ s 2 u hs2 (by omega)
  have c6 := fun u => word5_ s 6 u hs2 (by omega)
  have e2 : ((s.size : Int) == (s.size : Int)) = true := by simp
  have i8 : (8 : Int) ≤ (s.size : Int) := by omega
  have hb : (s.size : Int) ≤ 65535 := by rw [← h4]; exact g16_le s 4
  rw [h4] at c4 ⊢
  generalize g16 s 0 = v0 at *
  generalize g16 s 2 = v2 at *
  generalize g16 s 6 = v6 at *
  clear h8 hk y1 y2 h4
  go_enter Tryz.func117, Tryz.ntmps117
  go_wp2_with fail
  refine (c4 _).mono ?_; rintro e w1 ⟨rfl, rfl⟩
  go_wp2_with fail
  obtain ⟨w1, hw1⟩ : ∃ w1, w1 = w.alloc (.cells #[.int .u16 0, .int .u16 0, .int .u16 0, .int .u16 0] 169) := ⟨_, rfl⟩
  rw [← hw1]
  refine wp_region_noPanic (wp_region_any (by kernel_rfl) ?_)
  show wpAny _ _ _ _ _ _ _ (World.drew _)
  refine wpAny_take (i := 9) (v := ?_) rfl (by kernel_rfl) (by kernel_rfl) (by kernel_rfl) (fun _ _ _ h => h) (Or.inl ⟨by rfl, ?_⟩) ?_
  rotate_left
  · intro w
    go_simp
    with_reducible rfl
  simp only [List.getElem_toArray, List.getElem_cons_succ, List.getElem_cons_zero, Act.put, puS_]
  refine wpAny_take (i := 10) (v := ?_) rfl (by kernel_rfl) (by kernel_rfl) (by kernel_rfl) (fun _ _ _ h => h) (Or.inl ⟨by rfl, ?_⟩) ?_
  rotate_left
  · intro w
    go_simp
    with_reducible rfl
  simp only [List.getElem_toArray, List.getElem_cons_succ, List.getElem_cons_zero, Act.put, puS_]
  refine any_lead (B := w1.heap.size) 9 3 #[true, true, false, false, false] rfl (by kernel_rfl) (by kernel_rfl) (by kernel_rfl) (by kernel_rfl) ?_
  simp only [List.take_succ_cons, List.take_zero]
  repeat (go_big_quiet_step (first
    | (go_at_call_of 141 (0 : Int); exact later_same _ (c0 _))
    | (go_at_call_of 141 (2 : Int); exact later_same _ (c2 _))
    | (go_at_call_of 141 (4 : Int); exact later_same _ (c4 _))
    | (go_at_call_of 141 (6 : Int); exact later_same _ (c6 _))))
  refine lead_tail (fin := #[true, true, true, true, true, true, true, true, true, true, true, false, false, false]) (by kernel_rfl) fun f w3 b3 => ?_
  subst hw1
  obtain ⟨hc, hf⟩ := bcell4_ b3
  have hz : w.heap.size < w3.heap.size := by have := b3.size; simp at this; omega
  have B3 : Below w.heap.size w w3 := ((Below.refl _ _).alloc (Nat.le_refl _) _).trans (b3.mono (by simp))
  have hz2 := B3.size
  refine wpAny_ready (rs := [11]) (by kernel_rfl) (by simp) (AllReady.cons rfl (fun K hK => ?_) AllReady.nil)
  go_simp
  refine hK _ _ ?_
  clear hK K
  refine box4_ (b := w.heap.size) (box4_is rfl hc) B3 (Nat.le_refl _) fun w9 x0 x1 x2 x3 B9 _ _ => ?_
  clear hc hf b3 B3
  refine wpAny_ready (rs := [12]) (by kernel_rfl) (by simp) (AllReady.cons rfl (fun K hK => ?_) AllReady.nil)
  go_simp
  refine hK _ _ ?_
  clear hK K
  refine wpAny_ready (rs := [13]) (by kernel_rfl) (by simp) (AllReady.cons rfl (fun K hK => ?_) AllReady.nil)
  go_simp
  refine hK _ _ ?_
  clear hK K
  refine wpAny_done (by kernel_rfl) (NoPanic.normal ?_) _
  go_wp2
  refine bodyPost_ret (v := .tuple #[.agg #[.int .u16 v0, .int .u16 v2, .int .u16 (s.size : Int), .int .u16 v6], .string (s.extract 8 s.size), .bool true]) (by simp [results, Tryz.results117, go_sem, x0, x1, x2, x3]) rfl ?_
  exact ⟨rfl, B9⟩
end Go.Proofs.YtbpicngbjggblaaGreatDoor
namespace Go.Proofs.YtbpicngbjggblaaGreatDoor
set_option maxHeartbeats 1000000
set_option maxRecDepth 100000
set_option linter.unusedVariables false
set_option linter.unusedSimpArgs false
open Go.ChangeShapes Go.WideShapes Go.ChangeAt Go.RowKit Go.PlainAid
attribute [local go_sem ↓] Go.wp_at_zero Go.wp_at_succ
theorem row2 {k : IntKind} {w : World} {b : Nat} {x y : Int} (hb : b < w.heap.size) (h0 : w.cell? ⟨b, 0, none⟩ = some (.int k x)) (h1 : w.cell? ⟨b, 1, none⟩ = some (.int k y)) : Row k w (some ⟨b, 0, none⟩) 2 [x, y] :=
  ⟨rfl, .inr ⟨b, 0, rfl, hb, by
    intro t ht
    match t, ht with
    | 0, _ => simpa using h0
    | 1, _ => simpa using h1⟩⟩
theorem row4 {k : IntKind} {w : World} {b : Nat} {x y z t : Int} (hb : b < w.heap.size) (h0 : w.cell? ⟨b, 0, none⟩ = some (.int k x)) (h1 : w.cell? ⟨b, 1, none⟩ = some (.int k y)) (h2 : w.cell? ⟨b, 2, none⟩ = some (.int k z)) (h3 : w.cell? ⟨b, 3, none⟩ = some (.int k t)) : Row k w (some ⟨b, 0, none⟩) 4 [x, y, z, t] :=
  ⟨rfl, .inr ⟨b, 0, rfl, hb, by
    intro t ht
    match t, ht with
    | 0, _ => simpa using h0
    | 1, _ => simpa using h1
    | 2, _ => simpa using h2
    | 3, _ => simpa using h3⟩⟩
theorem rput5_ (a b l c : Int) (p : ByteArray) (w : World) (a0 : 0 ≤ a) (a1 : a ≤ 65535) (b0 : 0 ≤ b) (b1 : b ≤ 65535) (c0 : 0 ≤ c) (c1 : c ≤ 65535) (hp : p.size ≤ 1000000) :
    Cw_ 111 #[.agg #[.int .u16 a, .int .u16 b, .int .u16 l, .int .u16 c], .string p] (.string (udpB a b c p)) w := by
  obtain ⟨z, hz⟩ : ∃ z : Int, z = (8 + (p.size : Int)) % 65536 := ⟨_, rfl⟩
  have HV : Hid (strOfNums (wordL [a, b, z, c]) ++ p = udpB a b c p) := by show _ = _; unfold udpB; rw [hz]
  have z0 : 0 ≤ z := by omega
  have z1 : z ≤ 65535 := by omega
  obtain ⟨m, hm⟩ : ∃ m, p.size = m := ⟨_, rfl⟩
  rw [hm] at hz hp
  have e1 : (8 + (m : Int)) % 65536 = z := hz.symm
  have e2 : (8 + (m : Int)).tmod 65536 = z := by rw [Int.tmod_eq_emod_of_nonneg (by omega)]; exact e1
  have cw : ∀ u (k : Nat), k < u.heap.size → u.cell? ⟨k, 0, none⟩ = some (.int .u16 a) → u.cell? ⟨k, 1, none⟩ = some (.int .u16 b) → u.cell? ⟨k, 2, none⟩ = some (.int .u16 z) → u.cell? ⟨k, 3, none⟩ = some (.int .u16 c) → Calls Tryz.prog 91 #[.slice (some ⟨k, 0, none⟩) 4 4] u fun e w' => e = .returned (.string (strOfNums (wordL [a, b, z, c]))) ∧ Below u.heap.size u w' :=
    fun u k hk h0 h1 h2 h3 => rword_any _ 4 4 [a, b, z, c] u (row4 hk h0 h1 h2 h3) (by omega) (by intro x hx; simp at hx; omega)
  have zw : (strOfNums (wordL [a, b, z, c])).size = 8 := by rw [size_W]; rfl
  generalize strOfNums (wordL [a, b, z, c]) = W at *
  have q1 : W.size + p.size ≤ 9223372036854775807 := by omega
  have ZW := Lib.hid zw
  clear hz zw
  go_enter Tryz.func111, Tryz.ntmps111
  go_wp2_with fail
  refine (cw _ _ (by simp) (by simp [go_sem]) (by simp [go_sem]) (by simp [go_sem]) (by simp [go_sem])).mono ?_; rintro e w2 ⟨rfl, b2⟩
  have B2 : Below w.heap.size w w2 := (((Below.refl _ _).alloc (Nat.le_refl _) _).alloc (by simp) _).trans (b2.mono (by simp; omega))
  clear b2 cw
  go_wp2
  go_ret
  rw [HV.out]
  exact ⟨rfl, B2⟩
theorem pseudo5_ (a b pr n : Int) (w : World) (a0 : 0 ≤ a) (a1 : a ≤ 4294967295) (b0 : 0 ≤ b) (b1 : b ≤ 4294967295) (p0 : 0 ≤ pr) (p1 : pr ≤ 255) (n0 : 0 ≤ n) (n1 : n ≤ 1000000) :
    Cw_ 136 #[.int .u32 a, .int .u32 b, .int .u8 pr, .int .i64 n] (.string (pseuB a b pr n)) w := by
  obtain ⟨z, hz⟩ : ∃ z : Int, z = n % 65536 := ⟨_, rfl⟩
  have z0 : 0 ≤ z := by omega
  have z1 : z ≤ 65535 := by omega
  have HV : Hid (strOfNums (wordL [a / 65536, a % 65536]) ++ strOfNums (wordL [b / 65536, b % 65536]) ++ strOfNums (wordL [pr, z]) = pseuB a b pr n) := by
    show _ = _
    unfold pseuB
    rw [strOfNums_append, strOfNums_append, hz]
    rfl
  have e1 : n % 65536 = z := hz.symm
  have e2 : n.tmod 65536 = z := by rw [Int.tmod_eq_emod_of_nonneg n0]; exact e1
  have ca := fun u => rput32 a u a0 a1
  have cb := fun u => rput32 b u b0 b1
  have cw : ∀ u (k : Nat), k < u.heap.size → u.cell? ⟨k, 0, none⟩ = some (.int .u16 pr) → u.cell? ⟨k, 1, none⟩ = some (.int .u16 z) → Calls Tryz.prog 91 #[.slice (some ⟨k, 0, none⟩) 2 2] u fun e w' => e = .returned (.string (strOfNums (wordL [pr, z]))) ∧ Below u.heap.size u w' :=
    fun u k hk h0 h1 => rword_any _ 2 2 [pr, z] u (row2 hk h0 h1) (by omega) (by intro x hx; simp at hx; omega)
  have z1' : (strOfNums (wordL [a / 65536, a % 65536])).size = 4 := by rw [size_W]; rfl
  have z2' : (strOfNums (wordL [b / 65536, b % 65536])).size = 4 := by rw [size_W]; rfl
  have z3' : (strOfNums (wordL [pr, z])).size = 4 := by rw [size_W]; rfl
  generalize strOfNums (wordL [a / 65536, a % 65536]) = U1 at *
  generalize strOfNums (wordL [b / 65536, b % 65536]) = U2 at *
  generalize strOfNums (wordL [pr, z]) = U3 at *
  have q1 : U1.size + U2.size ≤ 9223372036854775807 := by omega
  have q2 : U1.size + U2.size + U3.size ≤ 9223372036854775807 := by omega
  clear hz z1' z2' z3'
  go_enter Tryz.func136, Tryz.ntmps136
  go_wp2_with fail
  refine (ca _).mono ?_; rintro e w1 ⟨rfl, b1⟩
  go_wp2_with fail
  refine (cb _).mono ?_; rintro e w2 ⟨rfl, b2⟩
  have B2 := b1.trans (b2.mono b1.size)
  clear b1 b2 ca cb
  go_wp2_with fail
  refine (cw _ _ (by simp) (by simp [go_sem]) (by simp [go_sem])).mono ?_; rintro e w3 ⟨rfl, b3⟩
  have B3 : Below w.heap.size w w3 := (B2.alloc B2.size _).trans (b3.mono (by have := B2.size; simp; omega))
  clear b3 B2 cw
  go_wp2
  go_ret
  rw [HV.out]
  exact ⟨rfl, B3⟩
end Go.Proofs.YtbpicngbjggblaaGreatDoor
namespace Go.Proofs.YtbpicngbjggblaaGreatDoor
set_option maxHeartbeats 2000000
set_option maxRecDepth 100000
set_option linter.unusedVariables false
set_option linter.unusedSimpArgs false
open Go.ChangeShapes Go.WideShapes Go.ChangeAt Go.RowKit Go.PlainAid
attribute [local go_sem ↓] Go.wp_at_zero Go.wp_at_succ
namespace UdpLaid
def A0 : ByteArray := ⟨#[0, 1, 0, 2, 0, 10, 0, 0, 97, 98]⟩
def B0 : ByteArray := ⟨#[0, 1, 0, 2, 0, 10, 142, 97, 97, 98]⟩
theorem v1 : udpB 1 2 0 ⟨#[97, 98]⟩ = A0 := by kernel_rfl
theorem v2 : slU 16909060 84281096 A0 = B0 := by kernel_rfl
theorem v3 : uOk ⟨#[0, 1, 0, 2, 0, 8, 0, 0, 97]⟩ = false := by kernel_rfl
theorem v4 : ckU 16909060 84281096 A0 = true := by kernel_rfl
theorem v5 : ckU 16909060 84281096 B0 = true := by kernel_rfl
theorem v6 : ckU 16909061 84281096 B0 = false := by kernel_rfl
end UdpLaid
end Go.Proofs.YtbpicngbjggblaaGreatDoor
namespace Go.Proofs.YtbpicngbjggblaaGreatDoor
set_option maxHeartbeats 2000000
set_option maxRecDepth 100000
set_option linter.unusedVariables false
set_option linter.unusedSimpArgs false
open Go.ChangeShapes Go.WideShapes Go.ChangeAt Go.RowKit Go.PlainAid
attribute [local go_sem ↓] Go.wp_at_zero Go.wp_at_succ
theorem rseal5_ (a b : Int) (s : ByteArray) (w : World) (a0 : 0 ≤ a) (a1 : a ≤ 4294967295) (b0 : 0 ≤ b) (b1 : b ≤ 4294967295) (hs : s.size ≤ 1000000) :
    Cw_ 110 #[.int .u32 a, .int .u32 b, .string s] (.string (slU a b s)) w := by
  have hs2 : s.size ≤ maxLen := by unfold maxLen; omega
  by_cases h8 : s.size < 8
  · have HV : Hid (slU a b s = s) := by show _ = _; unfold slU; rw [if_pos h8]
    have e1 : decide ((s.size : Int) < 8) = true := by simp; omega
    clear h8
    go_enter Tryz.func110, Tryz.ntmps110
    go_wp2
    go_ret
    rw [HV.out]
    exact ⟨rfl, Below.refl _ _⟩
  have e1 : decide ((s.size : Int) < 8) = false := by simp; omega
  have cp := fun u => pseudo5_ a b 17 (s.size : Int) u a0 a1 b0 b1 (by omega) (by omega) (by omega) (by omega)
  have zp := pseuB_size a b 17 (s.size : Int)
  have zx := size_extract' s 0 6 (by omega) (by omega)
  have zz := size_extract' s 8 s.size (by omega) (Nat.le_refl _)
  have hn := slN_bd a b s
  have HV : Hid (slU a b s = s.extract 0 6 ++ strOfNums (wordL [slN a b s]) ++ s.extract 8 s.size) := by show _ = _; unfold slU; rw [if_neg h8]
  have hN : slN a b s = if sumV [pseuB a b 17 s.size, s.extract 0 6 ++ ⟨#[0, 0]⟩ ++ s.extract 8 s.size] = 0 then 65535 else sumV [pseuB a b 17 s.size, s.extract 0 6 ++ ⟨#[0, 0]⟩ ++ s.extract 8 s.size] := by unfold slN zeroB; rw [show strOfNums [0, 0] = ⟨#[0, 0]⟩ from rfl]
  generalize pseuB a b 17 (s.size : Int) = P at *
  have zZ : (s.extract 0 6 ++ ⟨#[0, 0]⟩ ++ s.extract 8 s.size).size = s.size := by rw [ByteArray.size_append, ByteArray.size_append, zx, zz]; show 6 - 0 + 2 + (s.size - 8) = s.size; omega
  obtain ⟨Z, hZ⟩ : ∃ Z, Z = s.extract 0 6 ++ ⟨#[0, 0]⟩ ++ s.extract 8 s.size := ⟨_, rfl⟩
  rw [← hZ] at hN zZ
  have HZ := Lib.hid hZ
  clear hZ
  have hss : ∀ x ∈ [P, Z], x.size < maxLen := by
    intro x hx
    rcases List.mem_cons.1 hx with h | h
    · rw [h, zp]; unfold maxLen; omega
    · rw [List.mem_singleton.1 h, zZ]; unfold maxLen; omega
  have cs : ∀ (u : World) (k : Nat), k < u.heap.size → u.cell? ⟨k, 0, none⟩ = some (.string P) → u.cell? ⟨k, 1, none⟩ = some (.string Z) → Calls Tryz.prog 42 #[.slice (some ⟨k, 0, none⟩) 2 2] u fun e w' => e = .returned (.int .u16 (sumV [P, Z])) ∧ u = w' :=
    fun u k hk h0 h1 => rsum_ _ 2 2 [P, Z] u (rowS2 hk h0 h1 (by unfold maxLen; omega) (by omega)) hss
  have sb := sumV_bd [P, Z]
  generalize sumV [P, Z] = g at *
  have i6 : (6 : Int) ≤ (s.size : Int) := by omega
  have i8 : (8 : Int) ≤ (s.size : Int) := by omega
  have k1 : ¬ 9223372036854775807 < min 6 s.size + 2 := by omega
  have k2 : ¬ 9223372036854775807 < min 6 s.size + 2 + (s.size - 8) := by omega
  have c16 := fun u => rput16 (slN a b s) u (by omega) hn.2
  have zw : (strOfNums (wordL [slN a b s])).size = 2 := by rw [size_W]; rfl
  generalize strOfNums (wordL [slN a b s]) = W at *
  have q1 : min 6 s.size + W.size ≤ 9223372036854775807 := by omega
  have q2 : min 6 s.size + W.size + (s.size - 8) ≤ 9223372036854775807 := by omega
  have q3 : ¬ 9223372036854775807 < min 6 s.size + W.size := by omega
  have q4 : ¬ 9223372036854775807 < min 6 s.size + W.size + (s.size - 8) := by omega
  obtain ⟨v, hv⟩ : ∃ v, v = slN a b s := ⟨_, rfl⟩
  rw [← hv] at c16 hN
  clear hv hn hss zZ zx zz h8 zp zw
  by_cases g0 : g = 0
  · rw [if_pos g0] at hN
    subst g0 hN
    go_enter Tryz.func110, Tryz.ntmps110
    go_wp2_with fail
    go_region_held3 (fun w' => True) (trivial)
      ((first
        | (go_at_call 136
           refine (cp _).mono ?_
           rintro e w1 ⟨rfl, x1⟩)
        | (go_at_call 42
           refine (cs _ _ ?_ ?_ ?_).mono ?_
           · simp
           · simp [go_sem]
           · simp [go_sem, HZ.out]
           rintro e w2 ⟨rfl, rfl⟩)))
    have B1 : Below w.heap.size w w1 := ((Below.refl w.heap.size w).drew).trans x1
    have B2 := B1.alloc B1.size (.cells #[.string P, .string (s.extract 0 6 ++ ⟨#[0, 0]⟩ ++ s.extract 8 s.size)] 9)
    clear x1 B1 cp cs HZ k1 k2
    obtain ⟨w2, hw2⟩ : ∃ x, x = w1.alloc (.cells #[.string P, .string (s.extract 0 6 ++ ⟨#[0, 0]⟩ ++ s.extract 8 s.size)] 9) := ⟨_, rfl⟩
    rw [← hw2] at B2 ⊢
    clear hw2
    go_wp2_with fail
    refine region_later (B := w2.heap.size) (by kernel_rfl) (by kernel_rfl) ?_
    repeat (go_big_quiet_step (first
      | (go_at_call 41; exact later_of _ (Nat.le_refl _) (c16 _))))
    refine later_end fun w3 b3 => ?_
    have B3 := B2.trans (b3.mono B2.size)
    clear B2 b3 c16
    go_wp2
    go_ret
    rw [HV.out]
    exact ⟨rfl, B3⟩
  · rw [if_neg g0] at hN
    subst hN
    have e2 : (v == 0) = false := by simpa using g0
    go_enter Tryz.func110, Tryz.ntmps110
    go_wp2_with fail
    go_region_held3 (fun w' => True) (trivial)
      ((first
        | (go_at_call 136
           refine (cp _).mono ?_
           rintro e w1 ⟨rfl, x1⟩)
        | (go_at_call 42
           refine (cs _ _ ?_ ?_ ?_).mono ?_
           · simp
           · simp [go_sem]
           · simp [go_sem, HZ.out]
           rintro e w2 ⟨rfl, rfl⟩)))
    have B1 : Below w.heap.size w w1 := ((Below.refl w.heap.size w).drew).trans x1
    have B2 := B1.alloc B1.size (.cells #[.string P, .string (s.extract 0 6 ++ ⟨#[0, 0]⟩ ++ s.extract 8 s.size)] 9)
    clear x1 B1 cp cs HZ k1 k2
    obtain ⟨w2, hw2⟩ : ∃ x, x = w1.alloc (.cells #[.string P, .string (s.extract 0 6 ++ ⟨#[0, 0]⟩ ++ s.extract 8 s.size)] 9) := ⟨_, rfl⟩
    rw [← hw2] at B2 ⊢
    clear hw2
    go_wp2_with fail
    refine region_later (B := w2.heap.size) (by kernel_rfl) (by kernel_rfl) ?_
    repeat (go_big_quiet_step (first
      | (go_at_call 41; exact later_of _ (Nat.le_refl _) (c16 _))))
    refine later_end fun w3 b3 => ?_
    have B3 := B2.trans (b3.mono B2.size)
    clear B2 b3 c16
    go_wp2
    go_ret
    rw [HV.out]
    exact ⟨rfl, B3⟩
end Go.Proofs.YtbpicngbjggblaaGreatDoor
