/- Texts of this proof, together: Plain, FieldsA, FieldsB, FieldsC, FieldsD, FieldsLaid, FieldsE, FieldsP, FieldsQ. -/
import Derived.PlainAid
import Derived.Laws.BitsAllLaws
import Derived.Lib.Hide
import Derived.Test.YtbpicngbjggblaaGreatDoorRows
import Derived.WalkKit
import Derived.ProofKit
import Derived.OpenShut
import Derived.ShutString
import Derived.Below
import Derived.Outline
import Derived.WalkSpells
import Derived.WalkLawsBesides
import Derived.IntWalk
import Derived.Deep.QuietTactic
import Derived.BigQuiet
import Derived.OwnWalk
import Derived.Laws.BytesArg
namespace Go.Proofs.YtbpicngbjggblaaGreatDoor
open Go.PlainAid Go.RowKit
theorem pqk_ {p q : Prop} (h : p → q) (k : p) : q := h k

theorem u16_hl (a b : Int) (ha : 0 ≤ a) (ha' : a ≤ 255) (hb : 0 ≤ b) (hb' : b ≤ 255) : bits .or .u16 (a * 256) b = a * 256 + b := by
  rw [u16_or _ _ (by omega) (by omega) hb (by omega)]
  have h := Nat.two_pow_add_eq_or_of_lt (i := 8) (b := b.toNat) (by omega) a.toNat
  have e : (a * 256).toNat = 2 ^ 8 * a.toNat := by omega
  rw [e, ← h]
  omega
theorem u32_hl8 (a b : Int) (ha : 0 ≤ a) (ha' : a ≤ 255) (hb : 0 ≤ b) (hb' : b ≤ 255) : bits .or .u32 (a * 256) b = a * 256 + b := by
  rw [u32_or _ _ (by omega) (by omega) hb (by omega)]
  have h := Nat.two_pow_add_eq_or_of_lt (i := 8) (b := b.toNat) (by omega) a.toNat
  have e : (a * 256).toNat = 2 ^ 8 * a.toNat := by omega
  rw [e, ← h]
  omega
theorem u32_hl24 (a b : Int) (ha : 0 ≤ a) (ha' : a ≤ 255) (hb : 0 ≤ b) (hb' : b ≤ 255) : bits .or .u32 (a * 16777216) (b * 65536) = a * 16777216 + b * 65536 := by
  rw [u32_or _ _ (by omega) (by omega) (by omega) (by omega)]
  have h := Nat.two_pow_add_eq_or_of_lt (i := 24) (b := b.toNat * 65536) (by omega) a.toNat
  have e : (a * 16777216).toNat = 2 ^ 24 * a.toNat := by omega
  have e' : (b * 65536).toNat = b.toNat * 65536 := by omega
  rw [e, e', ← h]
  omega
theorem u32_hl16 (a b c : Int) (ha : 0 ≤ a) (ha' : a ≤ 255) (hb : 0 ≤ b) (hb' : b ≤ 255) (hc : 0 ≤ c) (hc' : c ≤ 65535) : bits .or .u32 (a * 16777216 + b * 65536) c = a * 16777216 + b * 65536 + c := by
  rw [u32_or _ _ (by omega) (by omega) (by omega) (by omega)]
  have h := Nat.two_pow_add_eq_or_of_lt (i := 16) (b := c.toNat) (by omega) (a.toNat * 256 + b.toNat)
  have e : (a * 16777216 + b * 65536).toNat = 2 ^ 16 * (a.toNat * 256 + b.toNat) := by omega
  rw [e, ← h]
  omega
/-- The number of two bytes, of four, at a place. -/
def g16 (s : ByteArray) (k : Nat) : Int := bt s k * 256 + bt s (k + 1)
def g32 (s : ByteArray) (k : Nat) : Int := bt s k * 16777216 + bt s (k + 1) * 65536 + bt s (k + 2) * 256 + bt s (k + 3)
end Go.Proofs.YtbpicngbjggblaaGreatDoor
namespace Go.Proofs.YtbpicngbjggblaaGreatDoor
set_option maxHeartbeats 1000000
set_option maxRecDepth 100000
open Go.ChangeShapes Go.WideShapes Go.ChangeAt Go.RowKit Go.PlainAid
theorem fzA_ {w : World} {o : Obj} {b : Nat} (h : b < w.heap.size) (f : ∀ i, w.frozen? ⟨b, i, none⟩ = false) : ∀ i, (w.alloc o).frozen? ⟨b, i, none⟩ = false := fun i => (((Below.refl w.heap.size w).alloc (Nat.le_refl _) o).frozen (p := ⟨_, i, none⟩) h).trans (f i)
theorem fzB_ {w w' : World} {b : Nat} (x : Below w.heap.size w w') (h : b < w.heap.size) (f : ∀ i, w.frozen? ⟨b, i, none⟩ = false) : ∀ i, w'.frozen? ⟨b, i, none⟩ = false := fun i => (x.frozen (p := ⟨_, i, none⟩) h).trans (f i)
theorem fzD_ {w : World} {b : Nat} (h : b < w.heap.size) (f : ∀ i, w.frozen? ⟨b, i, none⟩ = false) : ∀ i, w.drew.frozen? ⟨b, i, none⟩ = false := fun i => ((Below.refl w.heap.size w).drew.frozen (p := ⟨_, i, none⟩) h).trans (f i)
theorem alO_ {n : Nat} {w0 w : World} (_h : Below n w0 w) (o : Obj) : Below w.heap.size w (w.alloc o) := (Below.refl _ _).alloc (Nat.le_refl _) o
abbrev Cw_ (f : FuncId) (args : Array Value) (v : Value) (w : World) : Prop := Calls Tryz.prog f args w fun e w' => e = .returned v ∧ Below w.heap.size w w'
abbrev Cb_ (f : FuncId) (args : Array Value) (v : Value) : Prop := ∀ u : World, Calls Tryz.prog f args u fun e w' => e = .returned v ∧ Below u.heap.size u w'

theorem below_drewN {B : Nat} {a w : World} (h : Below B a w) (n : Nat) : Below B a (w.drewN n) := ⟨h.os, h.tape, h.output, h.size, h.block⟩

theorem there_yes (s : ByteArray) (i m : Int) (w : World) (hs : s.size ≤ maxLen) (h0 : 0 ≤ i) (h1 : i ≤ (s.size : Int) - m) (hm0 : 0 ≤ m) (hm1 : m ≤ 9223372036854775807) :
    Calls Tryz.prog 129 #[.string s, .int .i64 i, .int .i64 m] w fun e w' => e = .returned (.bool true) ∧ w = w' := by
  unfold maxLen at hs
  go_enter Tryz.func129, Tryz.ntmps129
  go_wp2
  go_ret
  exact ⟨rfl, rfl⟩
theorem there_no (s : ByteArray) (i m : Int) (w : World) (hs : s.size ≤ maxLen) (h : i < 0 ∨ (s.size : Int) - m < i) (hm0 : 0 ≤ m) (hm1 : m ≤ 9223372036854775807) :
    Calls Tryz.prog 129 #[.string s, .int .i64 i, .int .i64 m] w fun e w' => e = .returned (.bool false) ∧ w = w' := by
  unfold maxLen at hs
  by_cases h0 : i < 0
  · go_enter Tryz.func129, Tryz.ntmps129
    go_wp2
    go_ret
    exact ⟨rfl, rfl⟩
  · have h1 : (s.size : Int) - m < i := by omega
    clear h
    have h2 : decide (i ≤ (s.size : Int) - m) = false := by simp; omega
    go_enter Tryz.func129, Tryz.ntmps129
    go_wp2
    go_ret
    exact ⟨rfl, rfl⟩
theorem get16_yes (s : ByteArray) (k : Nat) (w : World) (hs : s.size ≤ maxLen) (h : k + 2 ≤ s.size) :
    Cw_ 79 #[.string s, .int .i64 k] (.tuple #[.int .u16 (g16 s k), .bool true]) w := by
  unfold maxLen at hs
  have hb := get_bt s
  have b0 := bt_nonneg s k
  have b1 := bt_le s k
  have b2 := bt_nonneg s (k + 1)
  have b3 := bt_le s (k + 1)
  have h1 : (k : Int) + 1 < (s.size : Int) := by omega
  have h2 : (k : Int) < (s.size : Int) := by omega
  have h3 : (k : Int) ≤ (s.size : Int) - 2 := by omega
  have h4 : (0 : Int) ≤ (k : Int) + 1 := by omega
  have e1 : IntKind.i64.wrap ((k : Int) + 1) = (k : Int) + 1 := IntWalk.i64_in _ (by omega)
  have e2 : ((k : Int) + 1).toNat = k + 1 := by omega
  have e3 : IntKind.u16.wrap (bt s k) = bt s k := IntWalk.u16_in _ (by omega)
  have e4 : IntKind.u16.wrap (bt s k * 256) = bt s k * 256 := IntWalk.u16_in _ (by omega)
  have e5 : IntKind.u16.wrap (bt s (k + 1)) = bt s (k + 1) := IntWalk.u16_in _ (by omega)
  have e6 := u16_hl _ _ b0 b1 b2 b3
  go_enter Tryz.func79, Tryz.ntmps79
  go_wp2_with (go_at_call 129; refine (there_yes _ _ _ _ hs (by omega) h3 (by omega) (by omega)).mono ?_; rintro e w' ⟨rfl, rfl⟩)
  go_quiet (fail)
  clear hb e1 e2 e3 e4 e5 e6
  go_wp2
  go_ret2
  exact ⟨rfl, below_drewN (Below.refl _ _) _⟩
theorem get16_no (s : ByteArray) (i : Int) (w : World) (hs : s.size ≤ maxLen) (h : i < 0 ∨ (s.size : Int) - 2 < i) :
    Cw_ 79 #[.string s, .int .i64 i] (.tuple #[.int .u16 0, .bool false]) w := by
  go_enter Tryz.func79, Tryz.ntmps79
  go_wp2_with (go_at_call 129; refine (there_no _ _ _ _ hs h (by omega) (by omega)).mono ?_; rintro e w' ⟨rfl, rfl⟩)
  go_ret2
  exact ⟨rfl, Below.refl _ _⟩
theorem get32_no (s : ByteArray) (i : Int) (w : World) (hs : s.size ≤ maxLen) (h : i < 0 ∨ (s.size : Int) - 4 < i) :
    Cw_ 115 #[.string s, .int .i64 i] (.tuple #[.int .u32 0, .bool false]) w := by
  go_enter Tryz.func115, Tryz.ntmps115
  go_wp2_with (go_at_call 129; refine (there_no _ _ _ _ hs h (by omega) (by omega)).mono ?_; rintro e w' ⟨rfl, rfl⟩)
  go_ret2
  exact ⟨rfl, Below.refl _ _⟩
theorem get32_yes (s : ByteArray) (k : Nat) (w : World) (hs : s.size ≤ maxLen) (h : k + 4 ≤ s.size) :
    Cw_ 115 #[.string s, .int .i64 k] (.tuple #[.int .u32 (g32 s k), .bool true]) w := by
  unfold maxLen at hs
  have hb := get_bt s
  have b0 := bt_nonneg s k
  have b1 := bt_le s k
  have b2 := bt_nonneg s (k + 1)
  have b3 := bt_le s (k + 1)
  have b4 := bt_nonneg s (k + 2)
  have b5 := bt_le s (k + 2)
  have b6 := bt_nonneg s (k + 3)
  have b7 := bt_le s (k + 3)
  have h1 : (k : Int) + 1 < (s.size : Int) := by omega
  have h2 : (k : Int) < (s.size : Int) := by omega
  have h3 : (k : Int) ≤ (s.size : Int) - 4 := by omega
  have h4 : (0 : Int) ≤ (k : Int) + 1 := by omega
  have h5 : (0 : Int) ≤ (k : Int) + 2 := by omega
  have h6 : (0 : Int) ≤ (k : Int) + 3 := by omega
  have h7 : (k : Int) + 2 < (s.size : Int) := by omega
  have h8 : (k : Int) + 3 < (s.size : Int) := by omega
  have e1 : IntKind.i64.wrap ((k : Int) + 1) = (k : Int) + 1 := IntWalk.i64_in _ (by omega)
  have e2 : IntKind.i64.wrap ((k : Int) + 2) = (k : Int) + 2 := IntWalk.i64_in _ (by omega)
  have e3 : IntKind.i64.wrap ((k : Int) + 3) = (k : Int) + 3 := IntWalk.i64_in _ (by omega)
  have n1 : ((k : Int) + 1).toNat = k + 1 := by omega
  have n2 : ((k : Int) + 2).toNat = k + 2 := by omega
  have n3 : ((k : Int) + 3).toNat = k + 3 := by omega
  have p0 : IntKind.u32.wrap (bt s k) = bt s k := IntWalk.u32_in _ (by omega)
  have p1 : IntKind.u32.wrap (bt s (k + 1)) = bt s (k + 1) := IntWalk.u32_in _ (by omega)
  have p2 : IntKind.u32.wrap (bt s (k + 2)) = bt s (k + 2) := IntWalk.u32_in _ (by omega)
  have p3 : IntKind.u32.wrap (bt s (k + 3)) = bt s (k + 3) := IntWalk.u32_in _ (by omega)
  have q0 : IntKind.u32.wrap (bt s k * 16777216) = bt s k * 16777216 := IntWalk.u32_in _ (by omega)
  have q1 : IntKind.u32.wrap (bt s (k + 1) * 65536) = bt s (k + 1) * 65536 := IntWalk.u32_in _ (by omega)
  have q2 : IntKind.u32.wrap (bt s (k + 2) * 256) = bt s (k + 2) * 256 := IntWalk.u32_in _ (by omega)
  have r1 := u32_hl24 _ _ b0 b1 b2 b3
  have r2 := u32_hl8 _ _ b4 b5 b6 b7
  have r3 := u32_hl16 (bt s k) (bt s (k + 1)) (bt s (k + 2) * 256 + bt s (k + 3)) b0 b1 b2 b3 (by omega) (by omega)
  have fin : bt s k * 16777216 + bt s (k + 1) * 65536 + (bt s (k + 2) * 256 + bt s (k + 3)) = g32 s k := by unfold g32; omega
  have FIN := Lib.hid fin
  clear fin
  go_enter Tryz.func115, Tryz.ntmps115
  go_wp2_with (go_at_call 129; refine (there_yes _ _ _ _ hs (by omega) h3 (by omega) (by omega)).mono ?_; rintro e w' ⟨rfl, rfl⟩)
  go_quiet (fail)
  go_wp2_with fail
  go_quiet (fail)
  clear hb e1 e2 e3 n1 n2 n3 p0 p1 p2 p3 q0 q1 q2
  go_wp2
  go_ret2
  refine ⟨?_, below_drewN (Below.refl _ _) _⟩
  rw [← FIN.out]
  rfl
/-- A text with a part in the place of as many bytes. -/
def withB (s : ByteArray) (k : Nat) (p : ByteArray) : ByteArray := s.extract 0 k ++ p ++ s.extract (k + p.size) s.size
theorem with_no (s p : ByteArray) (i : Int) (w : World) (hs : s.size ≤ maxLen) (hp : p.size ≤ maxLen) (h : i < 0 ∨ (s.size : Int) - p.size < i) :
    Cw_ 126 #[.string s, .int .i64 i, .string p] (.tuple #[.string ⟨#[]⟩, .bool false]) w := by
  have hp' := hp
  unfold maxLen at hp'
  go_enter Tryz.func126, Tryz.ntmps126
  go_wp2_with (go_at_call 129; refine (there_no _ _ _ _ hs h (by omega) (by omega)).mono ?_; rintro e w' ⟨rfl, rfl⟩)
  go_ret2
  exact ⟨rfl, Below.refl _ _⟩
theorem with_yes (s p : ByteArray) (k : Nat) (w : World) (hs : s.size ≤ maxLen) (hp : p.size ≤ maxLen) (h : k + p.size ≤ s.size) :
    Cw_ 126 #[.string s, .int .i64 k, .string p] (.tuple #[.string (withB s k p), .bool true]) w := by
  have hp' := hp
  have hs' := hs
  unfold maxLen at hp' hs'
  have h1 : (k : Int) ≤ (s.size : Int) - p.size := by omega
  have h2 : (k : Int) ≤ (s.size : Int) := by omega
  have h3 : (k : Int) + (p.size : Int) ≤ (s.size : Int) := by omega
  have h4 : 0 ≤ (k : Int) + (p.size : Int) := by omega
  have e1 : IntKind.i64.wrap ((k : Int) + p.size) = (k : Int) + p.size := IntWalk.i64_in _ (by omega)
  have e2 : ((k : Int) + (p.size : Int)).toNat = k + p.size := by omega
  go_enter Tryz.func126, Tryz.ntmps126
  go_wp2_with (go_at_call 129; refine (there_yes _ _ _ _ hs (by omega) h1 (by omega) (by omega)).mono ?_; rintro e w' ⟨rfl, rfl⟩)
  go_quiet (fail)
  clear e1 e2
  go_wp2
  go_ret2
  exact ⟨rfl, below_drewN (Below.refl _ _) _⟩

/-- The bytes of numbers. -/
def wordL (zs : List Int) : List Int := zs.flatMap fun n => [n / 256, n % 256]
theorem wordL_snoc (zs : List Int) (n : Int) : wordL (zs ++ [n]) = wordL zs ++ [n / 256, n % 256] := by simp [wordL]
theorem wordL_length (zs : List Int) : (wordL zs).length = 2 * zs.length := by
  induction zs with
  | nil => rfl
  | cons z r ih => simp [wordL] at ih ⊢; omega
theorem take_snoc_getD (zs : List Int) (k : Nat) (h : k < zs.length) : zs.take (k + 1) = zs.take k ++ [zs.getD k 0] := by
  rw [List.take_succ_eq_append_getElem h]; simp [List.getD, h]
theorem Tryz.info5 : (Tryz.prog.info? 5).map (fun i => (i.zero, i.size, i.bytes)) = some (some (.int .u8 0), 1, 1) := by kernel_rfl

theorem addr_add0 (b j : Nat) : (⟨b, 0, none⟩ : Addr).add j = ⟨b, 0 + j, none⟩ := by unfold Addr.add; split <;> simp_all

theorem word_row (b off len cap : Nat) (zs : List Int) (w : World) (hz : zs.length = len) (hl : len ≤ 1000000) (hr : ∀ n ∈ zs, 0 ≤ n ∧ n ≤ 65535) (hb : b < w.heap.size)
    (hc : ∀ t, t < len → w.cell? ⟨b, off + t, none⟩ = some (.int .u16 (zs.getD t 0))) :
    Cw_ 81 #[.slice (some ⟨b, off, none⟩) len cap] (.string (strOfNums (wordL zs))) w := by
  obtain ⟨i0, hi, hz0, hz1, hz2⟩ := info_parts Tryz.info5
  have c2 : IntKind.i64.wrap (2 * (len : Int)) = ((2 * len : Nat) : Int) := by rw [IntWalk.i64_in _ (by omega)]; omega
  go_enter Tryz.func81, Tryz.ntmps81
  go_wp2_with (at_make; refine wpList_make_own _ rfl _ _ 45 rfl w.heap.size 5 i0 (.int .u8 0) 1 Tryz.underlying45 hi hz0 hz1 _ _ _ (2 * len) rfl rfl (by omega) ?b2 ?b3 (Nat.le_refl _) ?_)
  case b2 => rw [hz2]; omega
  case b3 => unfold maxLen; omega
  intro w0 hown0 hgrow0
  clear c2
  go_wp2
  go_loopw [3, 12] (fun bs si wr => ∃ (i : Nat), i ≤ len ∧ si = .int .i64 i ∧ bs = .slice (some ⟨w.heap.size, 0, none⟩) (2 * i) (2 * len) ∧
      wr.ownsRow w.heap.size 5 1 (.slice (some ⟨w.heap.size, 0, none⟩) (2 * i) (2 * len)) (2 * i) ((wordL (zs.take i)).map (Value.int .u8)) ∧ Below w.heap.size w wr)
    (fun _ si _ => len - (intOf si).toNat)
  case atStart => exact ⟨0, Nat.zero_le _, rfl, rfl, hown0, (Below.refl _ _).grown hgrow0 (Nat.le_refl _) (fun k h => by cases h)⟩
  case round =>
    obtain ⟨i, hil, rfl, rfl, hown, hnx⟩ := hrel
    by_cases hlt : i < len
    · have hcell : wr.cell? ⟨b, off + i, none⟩ = some (.int .u16 (zs.getD i 0)) := (hnx.cell (by exact hb)).trans (hc i hlt)
      obtain ⟨n, hn⟩ : ∃ n, n = zs.getD i 0 := ⟨_, rfl⟩
      have hn0 : 0 ≤ n ∧ n ≤ 65535 := by
        rw [hn]; have : zs.getD i 0 = zs[i]'(by omega) := by simp [List.getD, show i < zs.length by omega]
        rw [this]; exact hr _ (List.getElem_mem _)
      obtain ⟨hn1, hn2⟩ := hn0
      have HT := Lib.hid (take_snoc_getD zs i (by omega))
      rw [← hn] at hcell HT
      clear hn hc
      go_wp2_with (at_builtin; refine wpList_append_fits _ rfl (.tmp 16) (.tmp 22) 45 rfl w.heap.size 5 i0 1 Tryz.underlying45 hi hz1 w.heap.size (2 * i) (2 * len) _ rfl (hown.alloc _) ⟨wr.heap.size, 0, none⟩ 2 2 [.int .u8 (n / 256), .int .u8 (n % 256)] rfl rfl ?c1 ?c2 (by omega) ?_)
      case c1 =>
        intro t u ht
        match t, ht with
        | 0, ht => simp at ht; subst ht; simp [Addr.add]
        | 1, ht => simp at ht; subst ht; simp [Addr.add]
      case c2 => intro u hu; simp at hu; rcases hu with rfl | rfl <;> rfl
      intro w1 hown1 hgrow1
      have hnx1 : Below w.heap.size w w1 := (hnx.alloc hnx.size _).grown hgrow1 (by simp; have := hnx.size; omega) (fun k hk => by cases hk; exact Nat.le_refl _)
      have hE : List.map (Value.int .u8) (wordL (zs.take i)) ++ [.int .u8 (n / 256), .int .u8 (n % 256)] = (wordL (zs.take (i + 1))).map (Value.int .u8) := by rw [HT.out, wordL_snoc]; simp
      rw [hE] at hown1
      clear hE hown hgrow1 hcell
      go_wp2
      go_roundw
      case rel => exact ⟨i + 1, by omega, by go_num, rfl, hown1, hnx1⟩
      case measure => simp [intOf]; omega
    · have hie : i = len := by omega
      have hT : zs.take i = zs := by rw [hie, ← hz]; simp
      have hcs : ∀ j, j < 2 * i → wr.cell? ⟨w.heap.size, 0 + j, none⟩ = some (.int .u8 ((wordL zs).getD j 0)) := by
        intro j hj
        have h := hown.cells (g := w.heap.size) rfl j (.int .u8 ((wordL zs).getD j 0)) (by
          have hjl : j < (wordL zs).length := by rw [wordL_length]; omega
          rw [hT]; simp [List.getD, hjl])
        rw [addr_add0] at h
        exact h
      have hconv := run_convert_bytes_arg (P := Tryz.prog) wr 45 5 Tryz.underlying45 Tryz.underlying5 w.heap.size 0 (2 * i) (2 * len) (wordL zs) (by rw [wordL_length]; omega) hcs 9 Tryz.underlying9
      clear hcs hT hown hie
      go_wp2
      go_ret
      exact ⟨rfl, hnx⟩
theorem word_nil (a : Option Addr) (cap : Nat) (w : World) :
    Cw_ 81 #[.slice a 0 cap] (.string (strOfNums (wordL []))) w := by
  obtain ⟨i0, hi, hz0, hz1, hz2⟩ := info_parts Tryz.info5
  go_enter Tryz.func81, Tryz.ntmps81
  go_wp2_with (at_make; refine wpList_make_own _ rfl _ _ 45 rfl w.heap.size 5 i0 (.int .u8 0) 1 Tryz.underlying45 hi hz0 hz1 _ _ _ 0 rfl rfl (by omega) ?b2 ?b3 (Nat.le_refl _) ?_)
  case b2 => rw [hz2]; omega
  case b3 => unfold maxLen; omega
  intro w0 hown0 hgrow0
  have hconv := run_convert_bytes_arg (P := Tryz.prog) w0 45 5 Tryz.underlying45 Tryz.underlying5 w.heap.size 0 0 0 (wordL []) rfl (by intro i hi; omega) 9 Tryz.underlying9
  have HN : Below w.heap.size w w0 := (Below.refl _ _).grown hgrow0 (Nat.le_refl _) (fun k h => by cases h)
  clear hown0 hgrow0
  go_wp2
  go_loop [3, 12] (fun v si => v = .slice (some ⟨w.heap.size, 0, none⟩) 0 0 ∧ si = .int .i64 0) (fun _ _ => 0)
  case atStart => exact ⟨rfl, rfl⟩
  case round =>
    obtain ⟨rfl, rfl⟩ := hrel
    go_wp2
    go_ret
    exact ⟨rfl, HN⟩

theorem put16 (n : Int) (w : World) (h0 : 0 ≤ n) (h1 : n ≤ 65535) :
    Cw_ 76 #[.int .u16 n] (.string (strOfNums (wordL [n]))) w := by
  go_enter Tryz.func76, Tryz.ntmps76
  go_wp2_with fail
  refine (word_row w.heap.size 0 1 1 [n] _ rfl (by omega) (by intro x hx; simp at hx; omega) (by simp) ?_).mono ?_
  · intro t ht
    obtain rfl : t = 0 := by omega
    simp
  rintro e w' ⟨rfl, hb⟩
  go_wp2
  go_ret
  exact ⟨rfl, ((Below.refl _ _).alloc (Nat.le_refl _) _).trans (hb.mono (by simp))⟩

theorem put32 (n : Int) (w : World) (h0 : 0 ≤ n) (h1 : n ≤ 4294967295) :
    Cw_ 125 #[.int .u32 n] (.string (strOfNums (wordL [n / 65536, n % 65536]))) w := by
  have e1 : IntKind.u16.wrap n = n % 65536 := IntKind.wrap_u16 n
  go_enter Tryz.func125, Tryz.ntmps125
  go_wp2_with fail
  refine (word_row w.heap.size 0 2 2 [n / 65536, n % 65536] _ rfl (by omega) (by intro x hx; simp at hx; omega) (by simp) ?_).mono ?_
  · intro t ht
    match t, ht with
    | 0, _ => simp
    | 1, _ => simp
  rintro e w' ⟨rfl, hb⟩
  go_wp2
  go_ret
  exact ⟨rfl, ((Below.refl _ _).alloc (Nat.le_refl _) _).trans (hb.mono (by simp))⟩
/-- The number of the first bytes from a place on. -/
def numB (s : ByteArray) (k : Nat) : Nat → Int
  | 0 => 0
  | i + 1 => numB s k i * 256 + bt s (k + i)
theorem numB_nonneg (s : ByteArray) (k : Nat) : ∀ i, 0 ≤ numB s k i
  | 0 => by simp [numB]
  | i + 1 => by have := numB_nonneg s k i; have := bt_nonneg s (k + i); simp only [numB]; omega
theorem numB_le3 (s : ByteArray) (k i : Nat) (h : i ≤ 3) : numB s k i ≤ 16777215 := by
  have a0 := bt_nonneg s (k + 0)
  have a1 := bt_nonneg s (k + 1)
  have a2 := bt_nonneg s (k + 2)
  have b0 := bt_le s (k + 0)
  have b1 := bt_le s (k + 1)
  have b2 := bt_le s (k + 2)
  match i, h with
  | 0, _ => simp [numB]
  | 1, _ => simp only [numB]; omega
  | 2, _ => simp only [numB]; omega
  | 3, _ => simp only [numB]; omega
theorem numB_2 (s : ByteArray) (k : Nat) : numB s k 2 = g16 s k := by simp [numB, g16]
theorem numB_4 (s : ByteArray) (k : Nat) : numB s k 4 = g32 s k := by simp only [numB, g32, Nat.add_zero]; omega
theorem g16_nonneg (s : ByteArray) (k : Nat) : 0 ≤ g16 s k := by have := bt_nonneg s k; have := bt_nonneg s (k + 1); unfold g16; omega
theorem g16_le (s : ByteArray) (k : Nat) : g16 s k ≤ 65535 := by have := bt_le s k; have := bt_le s (k + 1); unfold g16; omega

theorem rthere_yes (s : ByteArray) (i m : Int) (w : World) (hs : s.size ≤ maxLen) (h0 : 0 ≤ i) (h1 : i ≤ (s.size : Int) - m) (hm0 : 0 ≤ m) (hm1 : m ≤ 9223372036854775807) :
    Calls Tryz.prog 131 #[.string s, .int .i64 i, .int .i64 m] w fun e w' => e = .returned (.bool true) ∧ w = w' := by
  unfold maxLen at hs
  go_enter Tryz.func131, Tryz.ntmps131
  go_wp2
  go_ret
  exact ⟨rfl, rfl⟩
theorem rthere_no (s : ByteArray) (i m : Int) (w : World) (hs : s.size ≤ maxLen) (h : i < 0 ∨ (s.size : Int) - m < i) (hm0 : 0 ≤ m) (hm1 : m ≤ 9223372036854775807) :
    Calls Tryz.prog 131 #[.string s, .int .i64 i, .int .i64 m] w fun e w' => e = .returned (.bool false) ∧ w = w' := by
  unfold maxLen at hs
  by_cases h0 : i < 0
  · go_enter Tryz.func131, Tryz.ntmps131
    go_wp2
    go_ret
    exact ⟨rfl, rfl⟩
  · have h1 : (s.size : Int) - m < i := by omega
    clear h
    have h2 : decide (i ≤ (s.size : Int) - m) = false := by simp; omega
    go_enter Tryz.func131, Tryz.ntmps131
    go_wp2
    go_ret
    exact ⟨rfl, rfl⟩

theorem rget_no (s : ByteArray) (i m : Int) (w : World) (hs : s.size ≤ maxLen) (h : i < 0 ∨ (s.size : Int) - m < i) (hm0 : 0 ≤ m) (hm1 : m ≤ 9223372036854775807) :
    Calls Tryz.prog 142 #[.string s, .int .i64 i, .int .i64 m] w fun e w' => e = .returned (.tuple #[.int .u32 0, .bool false]) ∧ w = w' := by
  go_enter Tryz.func142, Tryz.ntmps142
  go_wp2_with (go_at_call 131; refine (rthere_no _ _ _ _ hs h hm0 hm1).mono ?_; rintro e w' ⟨rfl, rfl⟩)
  go_ret2
  exact ⟨rfl, rfl⟩
theorem rget_yes (s : ByteArray) (k m : Nat) (w : World) (hs : s.size ≤ maxLen) (h : k + m ≤ s.size) (hm : m ≤ 4) :
    Calls Tryz.prog 142 #[.string s, .int .i64 k, .int .i64 m] w fun e w' => e = .returned (.tuple #[.int .u32 (numB s k m), .bool true]) ∧ w = w' := by
  have hs' := hs
  unfold maxLen at hs'
  have h1 : (k : Int) ≤ (s.size : Int) - m := by omega
  go_enter Tryz.func142, Tryz.ntmps142
  go_wp2_with (go_at_call 131; refine (rthere_yes _ _ _ _ hs (by omega) h1 (by omega) (by omega)).mono ?_; rintro e w' ⟨rfl, rfl⟩)
  go_loop [8, 9] (fun v si => ∃ i : Nat, i ≤ m ∧ si = .int .i64 i ∧ v = .int .u32 (numB s k i)) (fun _ si => m - (intOf si).toNat)
  case atStart => exact ⟨0, Nat.zero_le _, rfl, rfl⟩
  case round =>
    obtain ⟨i, hi, rfl, rfl⟩ := hrel
    by_cases hlt : i < m
    · have hb := get_bt s
      have a0 := numB_nonneg s k i
      have a1 := numB_le3 s k i (by omega)
      have a2 := bt_nonneg s (k + i)
      have a3 := bt_le s (k + i)
      have HN : Hid (numB s k (i + 1) = numB s k i * 256 + bt s (k + i)) := rfl
      go_wp2
      clear hb
      go_round
      case rel => exact ⟨i + 1, by omega, by go_num, by rw [HN.out]⟩
      case measure => simp [intOf]; omega
    · have hie : i = m := by omega
      have HIE := Lib.hid hie
      clear hie
      go_wp2
      go_ret2
      refine ⟨?_, rfl⟩
      rw [← HIE.out]
      rfl
theorem rget16_no (s : ByteArray) (i : Int) (w : World) (hs : s.size ≤ maxLen) (h : i < 0 ∨ (s.size : Int) - 2 < i) :
    Calls Tryz.prog 123 #[.string s, .int .i64 i] w fun e w' => e = .returned (.tuple #[.int .u16 0, .bool false]) ∧ w = w' := by
  go_enter Tryz.func123, Tryz.ntmps123
  go_wp2_with (go_at_call 142; refine (rget_no _ _ _ _ hs h (by omega) (by omega)).mono ?_; rintro e w' ⟨rfl, rfl⟩)
  go_ret2
  exact ⟨rfl, rfl⟩
theorem rget16_yes (s : ByteArray) (k : Nat) (w : World) (hs : s.size ≤ maxLen) (h : k + 2 ≤ s.size) :
    Calls Tryz.prog 123 #[.string s, .int .i64 k] w fun e w' => e = .returned (.tuple #[.int .u16 (g16 s k), .bool true]) ∧ w = w' := by
  have a0 := g16_nonneg s k
  have a1 := g16_le s k
  go_enter Tryz.func123, Tryz.ntmps123
  go_wp2_with (go_at_call 142; refine (rget_yes _ _ 2 _ hs h (by omega)).mono ?_; rw [numB_2]; rintro e w' ⟨rfl, rfl⟩)
  go_ret2
  exact ⟨rfl, rfl⟩
theorem rget32_no (s : ByteArray) (i : Int) (w : World) (hs : s.size ≤ maxLen) (h : i < 0 ∨ (s.size : Int) - 4 < i) :
    Calls Tryz.prog 124 #[.string s, .int .i64 i] w fun e w' => e = .returned (.tuple #[.int .u32 0, .bool false]) ∧ w = w' := by
  go_enter Tryz.func124, Tryz.ntmps124
  go_wp2_with (go_at_call 142; refine (rget_no _ _ _ _ hs h (by omega) (by omega)).mono ?_; rintro e w' ⟨rfl, rfl⟩)
  go_ret2
  exact ⟨rfl, rfl⟩
theorem rget32_yes (s : ByteArray) (k : Nat) (w : World) (hs : s.size ≤ maxLen) (h : k + 4 ≤ s.size) :
    Calls Tryz.prog 124 #[.string s, .int .i64 k] w fun e w' => e = .returned (.tuple #[.int .u32 (g32 s k), .bool true]) ∧ w = w' := by
  go_enter Tryz.func124, Tryz.ntmps124
  go_wp2_with (go_at_call 142; refine (rget_yes _ _ 4 _ hs h (by omega)).mono ?_; rw [numB_4]; rintro e w' ⟨rfl, rfl⟩)
  go_ret2
  exact ⟨rfl, rfl⟩
theorem rwith_no (s p : ByteArray) (i : Int) (w : World) (hs : s.size ≤ maxLen) (hp : p.size ≤ maxLen) (h : i < 0 ∨ (s.size : Int) - p.size < i) :
    Cw_ 89 #[.string s, .int .i64 i, .string p] (.tuple #[.string ⟨#[]⟩, .bool false]) w := by
  have hp' := hp
  unfold maxLen at hp'
  go_enter Tryz.func89, Tryz.ntmps89
  go_wp2_with (go_at_call 131; refine (rthere_no _ _ _ _ hs h (by omega) (by omega)).mono ?_; rintro e w' ⟨rfl, rfl⟩)
  go_ret2
  exact ⟨rfl, Below.refl _ _⟩
theorem rwith_yes (s p : ByteArray) (k : Nat) (w : World) (hs : s.size ≤ maxLen) (hp : p.size ≤ maxLen) (h : k + p.size ≤ s.size) :
    Cw_ 89 #[.string s, .int .i64 k, .string p] (.tuple #[.string (withB s k p), .bool true]) w := by
  have hp' := hp
  have hs' := hs
  unfold maxLen at hp' hs'
  have h1 : (k : Int) ≤ (s.size : Int) - p.size := by omega
  have h2 : (k : Int) ≤ (s.size : Int) := by omega
  have h3 : (k : Int) + (p.size : Int) ≤ (s.size : Int) := by omega
  have h4 : 0 ≤ (k : Int) + (p.size : Int) := by omega
  have e1 : IntKind.i64.wrap ((k : Int) + p.size) = (k : Int) + p.size := IntWalk.i64_in _ (by omega)
  have e2 : ((k : Int) + (p.size : Int)).toNat = k + p.size := by omega
  go_enter Tryz.func89, Tryz.ntmps89
  go_wp2_with (go_at_call 131; refine (rthere_yes _ _ _ _ hs (by omega) h1 (by omega) (by omega)).mono ?_; rintro e w' ⟨rfl, rfl⟩)
  go_quiet (fail)
  clear e1 e2
  go_wp2
  go_ret2
  exact ⟨rfl, below_drewN (Below.refl _ _) _⟩
theorem strOfNums_append (a b : List Int) : strOfNums a ++ strOfNums b = strOfNums (a ++ b) := by
  apply ByteArray.ext
  simp [strOfNums]
theorem wordL_append (a b : List Int) : wordL (a ++ b) = wordL a ++ wordL b := by simp [wordL]

theorem rput16 (n : Int) (w : World) (h0 : 0 ≤ n) (h1 : n ≤ 65535) :
    Cw_ 41 #[.int .u16 n] (.string (strOfNums (wordL [n]))) w := by
  have e0 : IntKind.u16.wrap (n.tdiv 256) = n / 256 := by rw [Int.tdiv_eq_ediv_of_nonneg h0]; exact IntWalk.u16_in _ (by omega)
  have e1 : IntKind.u8.wrap (n / 256) = n / 256 := IntWalk.u8_in _ (by omega)
  have hconv := run_convert_bytes_arg (P := Tryz.prog) (w.alloc (.cells #[.int .u8 (n / 256), .int .u8 (n % 256)] 5)) 45 5 Tryz.underlying45 Tryz.underlying5 w.heap.size 0 2 2 (wordL [n]) rfl (by
    intro i hi
    match i, hi with
    | 0, _ => simp [wordL]
    | 1, _ => simp [wordL]) 9 Tryz.underlying9
  go_enter Tryz.func41, Tryz.ntmps41
  go_wp2
  go_ret
  exact ⟨rfl, (Below.refl _ _).alloc (Nat.le_refl _) _⟩

theorem rput32 (n : Int) (w : World) (h0 : 0 ≤ n) (h1 : n ≤ 4294967295) :
    Cw_ 92 #[.int .u32 n] (.string (strOfNums (wordL [n / 65536, n % 65536]))) w := by
  have HS := Lib.hid (strOfNums_append (wordL [n / 65536]) (wordL [n % 65536]))
  go_enter Tryz.func92, Tryz.ntmps92
  go_wp2_with fail
  refine (rput16 _ _ (by omega) (by omega)).mono ?_
  rintro e w1 ⟨rfl, hb1⟩
  go_wp2_with fail
  refine (rput16 _ _ (by omega) (by omega)).mono ?_
  rintro e w2 ⟨rfl, hb2⟩
  go_wp2
  go_ret
  exact ⟨congrArg (fun s => Ending.returned (Value.string s)) HS.out, hb1.trans (hb2.mono hb1.size)⟩

theorem rword_row (b off len cap : Nat) (zs : List Int) (w : World) (hz : zs.length = len) (hl : len ≤ 1000000) (hr : ∀ n ∈ zs, 0 ≤ n ∧ n ≤ 65535) (hb : b < w.heap.size)
    (hc : ∀ t, t < len → w.cell? ⟨b, off + t, none⟩ = some (.int .u16 (zs.getD t 0))) :
    Cw_ 91 #[.slice (some ⟨b, off, none⟩) len cap] (.string (strOfNums (wordL zs))) w := by
  go_enter Tryz.func91, Tryz.ntmps91
  go_wp2
  go_loopw [3, 4] (fun v si wr => ∃ (i : Nat), i ≤ len ∧ si = .int .i64 i ∧ v = .string (strOfNums (wordL (zs.take i))) ∧ Below w.heap.size w wr)
    (fun _ si _ => len - (intOf si).toNat)
  case atStart => exact ⟨0, Nat.zero_le _, rfl, rfl, Below.refl _ _⟩
  case round =>
    obtain ⟨i, hil, rfl, rfl, hnx⟩ := hrel
    by_cases hlt : i < len
    · have hcell : wr.cell? ⟨b, off + i, none⟩ = some (.int .u16 (zs.getD i 0)) := (hnx.cell (by exact hb)).trans (hc i hlt)
      obtain ⟨n, hn⟩ : ∃ n, n = zs.getD i 0 := ⟨_, rfl⟩
      have hn0 : 0 ≤ n ∧ n ≤ 65535 := by
        rw [hn]; have : zs.getD i 0 = zs[i]'(by omega) := by simp [List.getD, show i < zs.length by omega]
        rw [this]; exact hr _ (List.getElem_mem _)
      obtain ⟨hn1, hn2⟩ := hn0
      have HT := Lib.hid (take_snoc_getD zs i (by omega))
      rw [← hn] at hcell HT
      have HS := Lib.hid (strOfNums_append (wordL (zs.take i)) (wordL [n]))
      rw [← wordL_append, ← HT.out] at HS
      clear hn hc
      go_wp2_with fail
      refine (rput16 _ _ hn1 hn2).mono ?_
      rintro e w1 ⟨rfl, hb1⟩
      clear hcell
      have hsz : (strOfNums (wordL (zs.take i))).size + (strOfNums (wordL [n])).size ≤ 9223372036854775807 := by
        rw [strOfNums_size, strOfNums_size, wordL_length, wordL_length]
        have : (zs.take i).length ≤ zs.length := by rw [List.length_take]; exact Nat.min_le_right _ _
        simp only [List.length_singleton]; omega
      go_wp2
      go_roundw
      case rel => exact ⟨i + 1, by omega, by go_num, congrArg Value.string HS.out, hnx.trans (hb1.mono hnx.size)⟩
      case measure => simp [intOf]; omega
    · have hie : i = len := by omega
      have HT : Hid (zs.take i = zs) := by rw [hie, ← hz]; show _ = _; simp
      clear hie
      go_wp2
      go_ret
      refine ⟨?_, hnx⟩
      rw [← HT.out]
      simp [HT.out]
theorem rword_nil (a : Option Addr) (cap : Nat) (w : World) :
    Cw_ 91 #[.slice a 0 cap] (.string (strOfNums (wordL []))) w := by
  go_enter Tryz.func91, Tryz.ntmps91
  go_wp2
  go_loop [3, 4] (fun v si => v = .string (strOfNums (wordL [])) ∧ si = .int .i64 0) (fun _ _ => 0)
  case atStart => exact ⟨rfl, rfl⟩
  case round =>
    obtain ⟨rfl, rfl⟩ := hrel
    go_wp2
    go_ret
    exact ⟨rfl, Below.refl _ _⟩
end Go.Proofs.YtbpicngbjggblaaGreatDoor
namespace Go.Proofs.YtbpicngbjggblaaGreatDoor
set_option maxHeartbeats 1000000
set_option maxRecDepth 100000
open Go.ChangeShapes Go.WideShapes Go.ChangeAt Go.RowKit Go.PlainAid
namespace FieldsLaid
theorem c1 (w : World) : Calls Tryz.prog 79 #[.string ⟨#[97, 98, 99]⟩, .int .i64 1] w fun e w' => e = .returned (.tuple #[.int .u16 25187, .bool true]) ∧ Below w.heap.size w w' := by
  have h := get16_yes ⟨#[97, 98, 99]⟩ 1 w (by simp [ByteArray.size, maxLen]) (by simp [ByteArray.size])
  rw [show g16 ⟨#[97, 98, 99]⟩ 1 = 25187 from by decide] at h
  exact h
theorem c2 (w : World) : Calls Tryz.prog 79 #[.string ⟨#[97, 98, 99]⟩, .int .i64 2] w fun e w' => e = .returned (.tuple #[.int .u16 0, .bool false]) ∧ Below w.heap.size w w' :=
  get16_no ⟨#[97, 98, 99]⟩ 2 w (by simp [ByteArray.size, maxLen]) (by simp [ByteArray.size])
theorem c3 (w : World) : Calls Tryz.prog 115 #[.string ⟨#[97, 98, 99]⟩, .int .i64 0] w fun e w' => e = .returned (.tuple #[.int .u32 0, .bool false]) ∧ Below w.heap.size w w' :=
  get32_no ⟨#[97, 98, 99]⟩ 0 w (by simp [ByteArray.size, maxLen]) (by simp [ByteArray.size])
theorem c4 (w : World) : Calls Tryz.prog 126 #[.string ⟨#[97, 98, 99, 100]⟩, .int .i64 1, .string ⟨#[88, 89]⟩] w fun e w' => e = .returned (.tuple #[.string ⟨#[97, 88, 89, 100]⟩, .bool true]) ∧ Below w.heap.size w w' := by
  have h := with_yes ⟨#[97, 98, 99, 100]⟩ ⟨#[88, 89]⟩ 1 w (by simp [ByteArray.size, maxLen]) (by simp [ByteArray.size, maxLen]) (by simp [ByteArray.size])
  rw [show withB ⟨#[97, 98, 99, 100]⟩ 1 ⟨#[88, 89]⟩ = ⟨#[97, 88, 89, 100]⟩ from by decide +kernel] at h
  exact h
theorem c5 (w : World) : Calls Tryz.prog 126 #[.string ⟨#[97, 98, 99, 100]⟩, .int .i64 3, .string ⟨#[88, 89]⟩] w fun e w' => e = .returned (.tuple #[.string ⟨#[]⟩, .bool false]) ∧ Below w.heap.size w w' :=
  with_no ⟨#[97, 98, 99, 100]⟩ ⟨#[88, 89]⟩ 3 w (by simp [ByteArray.size, maxLen]) (by simp [ByteArray.size, maxLen]) (by simp [ByteArray.size])
theorem c6 (w : World) : Calls Tryz.prog 126 #[.string ⟨#[97, 98, 99, 100]⟩, .int .i64 4, .string ⟨#[]⟩] w fun e w' => e = .returned (.tuple #[.string ⟨#[97, 98, 99, 100]⟩, .bool true]) ∧ Below w.heap.size w w' := by
  have h := with_yes ⟨#[97, 98, 99, 100]⟩ ⟨#[]⟩ 4 w (by simp [ByteArray.size, maxLen]) (by simp [ByteArray.size, maxLen]) (by simp [ByteArray.size])
  rw [show withB ⟨#[97, 98, 99, 100]⟩ 4 ⟨#[]⟩ = ⟨#[97, 98, 99, 100]⟩ from by decide +kernel] at h
  exact h
theorem c7 (w : World) : Calls Tryz.prog 76 #[.int .u16 258] w fun e w' => e = .returned (.string ⟨#[1, 2]⟩) ∧ Below w.heap.size w w' := by
  have h := put16 258 w (by omega) (by omega)
  rw [show strOfNums (wordL [258]) = ⟨#[1, 2]⟩ from by decide +kernel] at h
  exact h
theorem c8 (w : World) : Calls Tryz.prog 125 #[.int .u32 1] w fun e w' => e = .returned (.string ⟨#[0, 0, 0, 1]⟩) ∧ Below w.heap.size w w' := by
  have h := put32 1 w (by omega) (by omega)
  rw [show strOfNums (wordL [1 / 65536, 1 % 65536]) = ⟨#[0, 0, 0, 1]⟩ from by decide +kernel] at h
  exact h
theorem c9 (b : Nat) (w : World) (hb : b < w.heap.size) (h0 : w.cell? ⟨b, 0, none⟩ = some (.int .u16 1)) (h1 : w.cell? ⟨b, 1, none⟩ = some (.int .u16 2)) :
    Cw_ 81 #[.slice (some ⟨b, 0, none⟩) 2 2] (.string ⟨#[0, 1, 0, 2]⟩) w := by
  have h := word_row b 0 2 2 [1, 2] w rfl (by omega) (by intro x hx; simp at hx; omega) hb (by
    intro t ht
    match t, ht with
    | 0, _ => simpa using h0
    | 1, _ => simpa using h1)
  rw [show strOfNums (wordL [1, 2]) = ⟨#[0, 1, 0, 2]⟩ from by decide +kernel] at h
  exact h
end FieldsLaid
end Go.Proofs.YtbpicngbjggblaaGreatDoor
namespace Go.Proofs.YtbpicngbjggblaaGreatDoor
open Go.ChangeShapes Go.WideShapes Go.ChangeAt Go.RowKit Go.PlainAid
/-- So many bytes are there. -/
def okAt (s : ByteArray) (i m : Int) : Bool := decide (0 ≤ i ∧ i ≤ (s.size : Int) - m)
def v16 (s : ByteArray) (i : Int) : Int := if okAt s i 2 then g16 s i.toNat else 0
def v32 (s : ByteArray) (i : Int) : Int := if okAt s i 4 then g32 s i.toNat else 0
def vWith (s : ByteArray) (i : Int) (p : ByteArray) : ByteArray := if okAt s i p.size then withB s i.toNat p else ⟨#[]⟩
theorem okAt_yes {s : ByteArray} {k m : Nat} (h : k + m ≤ s.size) : okAt s k m = true := by unfold okAt; simp; omega
theorem okAt_no {s : ByteArray} {i m : Int} (h : i < 0 ∨ (s.size : Int) - m < i) : okAt s i m = false := by unfold okAt; simp; omega
theorem okAt_cases (s : ByteArray) (i m : Int) (_ : 0 ≤ m) : (∃ k : Nat, i = k ∧ (k : Int) + m ≤ s.size) ∨ (i < 0 ∨ (s.size : Int) - m < i) := by
  by_cases h : 0 ≤ i ∧ i ≤ (s.size : Int) - m
  · exact .inl ⟨i.toNat, by omega, by omega⟩
  · exact .inr (by omega)
theorem get16_any (s : ByteArray) (i : Int) (w : World) (hs : s.size ≤ maxLen) :
    Cw_ 79 #[.string s, .int .i64 i] (.tuple #[.int .u16 (v16 s i), .bool (okAt s i 2)]) w := by
  rcases okAt_cases s i 2 (by omega) with ⟨k, rfl, h⟩ | h
  · have e : okAt s k 2 = true := okAt_yes (m := 2) (by omega)
    rw [show v16 s k = g16 s k by simp [v16, e], e]
    exact get16_yes s k w hs (by omega)
  · have e := okAt_no h
    rw [show v16 s i = 0 by simp [v16, e], e]
    exact get16_no s i w hs h
theorem rget16_any (s : ByteArray) (i : Int) (w : World) (hs : s.size ≤ maxLen) :
    Calls Tryz.prog 123 #[.string s, .int .i64 i] w fun e w' => e = .returned (.tuple #[.int .u16 (v16 s i), .bool (okAt s i 2)]) ∧ w = w' := by
  rcases okAt_cases s i 2 (by omega) with ⟨k, rfl, h⟩ | h
  · have e : okAt s k 2 = true := okAt_yes (m := 2) (by omega)
    rw [show v16 s k = g16 s k by simp [v16, e], e]
    exact rget16_yes s k w hs (by omega)
  · have e := okAt_no h
    rw [show v16 s i = 0 by simp [v16, e], e]
    exact rget16_no s i w hs h
theorem get32_any (s : ByteArray) (i : Int) (w : World) (hs : s.size ≤ maxLen) :
    Cw_ 115 #[.string s, .int .i64 i] (.tuple #[.int .u32 (v32 s i), .bool (okAt s i 4)]) w := by
  rcases okAt_cases s i 4 (by omega) with ⟨k, rfl, h⟩ | h
  · have e : okAt s k 4 = true := okAt_yes (m := 4) (by omega)
    rw [show v32 s k = g32 s k by simp [v32, e], e]
    exact get32_yes s k w hs (by omega)
  · have e := okAt_no h
    rw [show v32 s i = 0 by simp [v32, e], e]
    exact get32_no s i w hs h
theorem rget32_any (s : ByteArray) (i : Int) (w : World) (hs : s.size ≤ maxLen) :
    Calls Tryz.prog 124 #[.string s, .int .i64 i] w fun e w' => e = .returned (.tuple #[.int .u32 (v32 s i), .bool (okAt s i 4)]) ∧ w = w' := by
  rcases okAt_cases s i 4 (by omega) with ⟨k, rfl, h⟩ | h
  · have e : okAt s k 4 = true := okAt_yes (m := 4) (by omega)
    rw [show v32 s k = g32 s k by simp [v32, e], e]
    exact rget32_yes s k w hs (by omega)
  · have e := okAt_no h
    rw [show v32 s i = 0 by simp [v32, e], e]
    exact rget32_no s i w hs h
theorem with_any (s : ByteArray) (i : Int) (p : ByteArray) (w : World) (hs : s.size ≤ maxLen) (hp : p.size ≤ maxLen) :
    Cw_ 126 #[.string s, .int .i64 i, .string p] (.tuple #[.string (vWith s i p), .bool (okAt s i p.size)]) w := by
  rcases okAt_cases s i p.size (by omega) with ⟨k, rfl, h⟩ | h
  · have e : okAt s k p.size = true := okAt_yes (by omega)
    rw [show vWith s k p = withB s k p by simp [vWith, e], e]
    exact with_yes s p k w hs hp (by omega)
  · have e := okAt_no h
    rw [show vWith s i p = ⟨#[]⟩ by simp [vWith, e], e]
    exact with_no s p i w hs hp h
theorem rwith_any (s : ByteArray) (i : Int) (p : ByteArray) (w : World) (hs : s.size ≤ maxLen) (hp : p.size ≤ maxLen) :
    Cw_ 89 #[.string s, .int .i64 i, .string p] (.tuple #[.string (vWith s i p), .bool (okAt s i p.size)]) w := by
  rcases okAt_cases s i p.size (by omega) with ⟨k, rfl, h⟩ | h
  · have e : okAt s k p.size = true := okAt_yes (by omega)
    rw [show vWith s k p = withB s k p by simp [vWith, e], e]
    exact rwith_yes s p k w hs hp (by omega)
  · have e := okAt_no h
    rw [show vWith s i p = ⟨#[]⟩ by simp [vWith, e], e]
    exact rwith_no s p i w hs hp h

/-- A slice of integers that came in: nil; or a row of 'cap' cells, the numbers 'zs' (the first 'len' are its elements), each fitting its kind. -/
def IsRow (k : IntKind) (w : World) (a : Option Addr) (len cap : Nat) (zs : List Int) : Prop :=
  (a = none ∧ len = 0 ∧ cap = 0 ∧ zs = []) ∨
  ∃ x, a = some x ∧ len ≤ cap ∧ cap ≤ maxLen ∧ zs.length = cap ∧ (∀ i, i < zs.length → w.cell? (x.add i) = some (.int k (zs.getD i 0))) ∧ ∀ n ∈ zs, (Lit.int k n).wf = true
/-- What a callee wants of a slice of integers: its elements. -/
def Row (k : IntKind) (w : World) (a : Option Addr) (len : Nat) (zs : List Int) : Prop :=
  zs.length = len ∧ (len = 0 ∨ ∃ b off, a = some ⟨b, off, none⟩ ∧ b < w.heap.size ∧ ∀ t, t < len → w.cell? ⟨b, off + t, none⟩ = some (.int k (zs.getD t 0)))
theorem addr_add (b o j : Nat) : (⟨b, o, none⟩ : Addr).add j = ⟨b, o + j, none⟩ := by unfold Addr.add; split <;> simp_all
theorem IsRow.row {k : IntKind} {w : World} {a : Option Addr} {len cap : Nat} {zs : List Int} (h : IsRow k w a len cap zs) : Row k w a len (zs.take len) := by
  rcases h with ⟨rfl, rfl, rfl, rfl⟩ | ⟨x, rfl, hl, hm, hz, hc, hw⟩
  · exact ⟨rfl, .inl rfl⟩
  · refine ⟨by simp; omega, ?_⟩
    by_cases h0 : len = 0
    · exact .inl h0
    · obtain ⟨b, off, spot⟩ := x
      have hc0 := hc 0 (by omega)
      have hspot : spot = none := by simpa [Addr.add] using World.cell?_spot hc0
      subst hspot
      refine .inr ⟨b, off, rfl, ?_, fun t ht => ?_⟩
      · have := World.block_lt_of_cell? w _ hc0
        simpa [addr_add] using this
      · have := hc t (by omega)
        rw [addr_add] at this
        rw [this]
        simp [List.getD, ht]
theorem IsRow.wf {k : IntKind} {w : World} {a : Option Addr} {len cap : Nat} {zs : List Int} (h : IsRow k w a len cap zs) : ∀ n ∈ zs.take len, (Lit.int k n).wf = true := by
  rcases h with ⟨rfl, rfl, rfl, rfl⟩ | ⟨x, rfl, hl, hm, hz, hc, hw⟩
  · intro n hn; simp at hn
  · intro n hn; exact hw n (List.mem_of_mem_take hn)
theorem word_any (a : Option Addr) (len cap : Nat) (zs : List Int) (w : World) (h : Row .u16 w a len zs) (hl : len ≤ 1000000) (hr : ∀ n ∈ zs, 0 ≤ n ∧ n ≤ 65535) :
    Cw_ 81 #[.slice a len cap] (.string (strOfNums (wordL zs))) w := by
  obtain ⟨h1, rfl | ⟨b, off, rfl, hb, hc⟩⟩ := h
  · obtain rfl : zs = [] := List.length_eq_zero_iff.1 h1
    exact word_nil a cap w
  · exact word_row b off len cap zs w h1 hl hr hb hc
theorem rword_any (a : Option Addr) (len cap : Nat) (zs : List Int) (w : World) (h : Row .u16 w a len zs) (hl : len ≤ 1000000) (hr : ∀ n ∈ zs, 0 ≤ n ∧ n ≤ 65535) :
    Cw_ 91 #[.slice a len cap] (.string (strOfNums (wordL zs))) w := by
  obtain ⟨h1, rfl | ⟨b, off, rfl, hb, hc⟩⟩ := h
  · obtain rfl : zs = [] := List.length_eq_zero_iff.1 h1
    exact rword_nil a cap w
  · exact rword_row b off len cap zs w h1 hl hr hb hc
end Go.Proofs.YtbpicngbjggblaaGreatDoor
namespace Go.Proofs.YtbpicngbjggblaaGreatDoor
open Go.PlainAid
theorem getD_lt {α : Type} (l : List α) (i : Nat) (d : α) (h : i < l.length) : l.getD i d = l[i] := by simp [List.getD, h]
theorem getD_ge {α : Type} (l : List α) (i : Nat) (d : α) (h : l.length ≤ i) : l.getD i d = d := by simp [List.getD, h]
theorem getD_app_r {α : Type} (a b : List α) (i : Nat) (d : α) (h : a.length ≤ i) : (a ++ b).getD i d = b.getD (i - a.length) d := by simp [List.getD, List.getElem?_append_right h]
theorem getD_app_l {α : Type} (a b : List α) (i : Nat) (d : α) (h : i < a.length) : (a ++ b).getD i d = a.getD i d := by simp [List.getD, List.getElem?_append_left h]
theorem len_data (s : ByteArray) : s.data.toList.length = s.size := Array.length_toList
theorem bt_eq (s : ByteArray) (k : Nat) : bt s k = ((s.data.toList.getD k 0).toNat : Int) := by
  unfold bt
  by_cases h : k < s.size
  · have h' : k < s.data.toList.length := by rw [len_data]; exact h
    rw [dif_pos h, getD_lt _ _ _ h']
    rfl
  · rw [dif_neg h, getD_ge _ _ _ (by rw [len_data]; omega)]
    rfl
theorem data_append (a b : ByteArray) : (a ++ b).data.toList = a.data.toList ++ b.data.toList := by simp
theorem bt_append_right (a b : ByteArray) (j : Nat) : bt (a ++ b) (a.size + j) = bt b j := by
  rw [bt_eq, bt_eq, data_append, getD_app_r _ _ _ _ (by rw [len_data]; omega), len_data, Nat.add_sub_cancel_left]
theorem bt_append_left (a b : ByteArray) (j : Nat) (h : j < a.size) : bt (a ++ b) j = bt a j := by
  rw [bt_eq, bt_eq, data_append, getD_app_l _ _ _ _ (by rw [len_data]; omega)]
theorem bt_nums (xs : List Int) (j : Nat) (h : ∀ x ∈ xs, 0 ≤ x ∧ x ≤ 255) : bt (strOfNums xs) j = xs.getD j 0 := by
  rw [bt_eq, strOfNums_data]
  by_cases hj : j < xs.length
  · have hx := h xs[j] (List.getElem_mem hj)
    rw [getD_lt _ _ _ (by simpa using hj), getD_lt _ _ _ hj, List.getElem_map]
    have e : (UInt8.ofNat xs[j].toNat).toNat = xs[j].toNat % 256 := by simp
    rw [e]
    omega
  · rw [getD_ge _ _ _ (by simpa using hj), getD_ge _ _ _ (by omega)]
    rfl
theorem wordL_wf (zs : List Int) (h : ∀ n ∈ zs, 0 ≤ n ∧ n ≤ 65535) : ∀ x ∈ wordL zs, 0 ≤ x ∧ x ≤ 255 := by
  intro x hx
  simp only [wordL, List.mem_flatMap] at hx
  obtain ⟨n, hn, hx⟩ := hx
  have := h n hn
  simp at hx
  omega
theorem wordL_even : ∀ (zs : List Int) (i : Nat), (wordL zs).getD (2 * i) 0 = zs.getD i 0 / 256
  | [], i => by simp [wordL]
  | z :: r, 0 => by simp [wordL]
  | z :: r, i + 1 => by
    have := wordL_even r i
    rw [show 2 * (i + 1) = 2 * i + 2 by omega]
    simp [wordL] at this ⊢
    exact this
theorem wordL_odd : ∀ (zs : List Int) (i : Nat), (wordL zs).getD (2 * i + 1) 0 = zs.getD i 0 % 256
  | [], i => by simp [wordL]
  | z :: r, 0 => by simp [wordL]
  | z :: r, i + 1 => by
    have := wordL_odd r i
    rw [show 2 * (i + 1) + 1 = 2 * i + 1 + 2 by omega]
    simp [wordL] at this ⊢
    exact this
end Go.Proofs.YtbpicngbjggblaaGreatDoor
namespace Go.Proofs.YtbpicngbjggblaaGreatDoor
theorem ba_ext {a b : ByteArray} (h : a.data.toList = b.data.toList) : a = b := ByteArray.ext (Array.toList_inj.1 h)
theorem data_extract (s : ByteArray) (a b : Nat) : (s.extract a b).data.toList = (s.data.toList.take b).drop a := by
  simp [ByteArray.data_extract, List.extract, List.drop_take]
theorem size_extract' (s : ByteArray) (a b : Nat) (h1 : a ≤ b) (h2 : b ≤ s.size) : (s.extract a b).size = b - a := by
  rw [← len_data, data_extract, List.length_drop, List.length_take, len_data]; omega
theorem data_withB (s : ByteArray) (k : Nat) (p : ByteArray) (_ : k + p.size ≤ s.size) : (withB s k p).data.toList = s.data.toList.take k ++ p.data.toList ++ s.data.toList.drop (k + p.size) := by
  unfold withB
  rw [data_append, data_append, data_extract, data_extract, List.drop_zero, ← len_data s, List.take_length]
theorem size_withB (s : ByteArray) (k : Nat) (p : ByteArray) (h : k + p.size ≤ s.size) : (withB s k p).size = s.size := by
  rw [← len_data, data_withB s k p h, List.length_append, List.length_append, List.length_take, List.length_drop, len_data, len_data]; omega
theorem withB_there (s : ByteArray) (k : Nat) (p : ByteArray) (h : k + p.size ≤ s.size) : (withB s k p).extract k (k + p.size) = p := by
  apply ba_ext
  have l := len_data s
  have lp := len_data p
  have lt : (s.data.toList.take k).length = k := by rw [List.length_take]; omega
  rw [data_extract, data_withB s k p h, List.take_append_of_le_length (by rw [List.length_append, lt]; omega), List.take_of_length_le (by rw [List.length_append, lt]; omega), List.drop_append_of_le_length (by omega), List.drop_of_length_le (by omega), List.nil_append]
end Go.Proofs.YtbpicngbjggblaaGreatDoor
