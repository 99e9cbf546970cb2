/- Contracts of package fields: With, Word, Put16, Put32. -/
import Derived.Test.YtijippfcobgidaaFieldsA
import Derived.OwnWalk
import Derived.Laws.BytesArg
namespace Go.Proofs.Ytijippfcobgidaa
open Go.ChangeShapes Go.WideShapes Go.ChangeAt Go.RowKit Go.PlainAid
/-- A text with a part in the place of as many bytes. -/
def withB (s : ByteArray) (k : Nat) (p : ByteArray) : ByteArray := s.extract 0 k ++ p ++ s.extract (k + p.size) s.size
/-- The bytes of numbers. -/
def wordL (zs : List Int) : List Int := zs.flatMap fun n => [n / 256, n % 256]
theorem wordL_snoc (zs : List Int) (n : Int) : wordL (zs ++ [n]) = wordL zs ++ [n / 256, n % 256] := by simp [wordL]
theorem wordL_length (zs : List Int) : (wordL zs).length = 2 * zs.length := by
  induction zs with
  | nil => rfl
  | cons z r ih => simp [wordL] at ih ⊢; omega
theorem take_snoc_getD (zs : List Int) (k : Nat) (h : k < zs.length) : zs.take (k + 1) = zs.take k ++ [zs.getD k 0] := by
  rw [List.take_succ_eq_append_getElem h]; simp [List.getD, h]
theorem Try.info5 : (Try.prog.info? 5).map (fun i => (i.zero, i.size, i.bytes)) = some (some (.int .u8 0), 1, 1) := by kernel_rfl

theorem addr_add0 (b j : Nat) : (⟨b, 0, none⟩ : Addr).add j = ⟨b, 0 + j, none⟩ := by unfold Addr.add; split <;> simp_all

set_option maxRecDepth 100000 in
set_option maxHeartbeats 1000000 in
theorem word_row (b off len cap : Nat) (zs : List Int) (w : World) (hz : zs.length = len) (hl : len ≤ 1000000) (hr : ∀ n ∈ zs, 0 ≤ n ∧ n ≤ 65535) (hb : b < w.heap.size)
    (hc : ∀ t, t < len → w.cell? ⟨b, off + t, none⟩ = some (.int .u16 (zs.getD t 0))) :
    Calls Try.prog 25 #[.slice (some ⟨b, off, none⟩) len cap] w fun e w' => e = .returned (.string (strOfNums (wordL zs))) ∧ Below w.heap.size w w' := by
  obtain ⟨i0, hi, hz0, hz1, hz2⟩ := info_parts Try.info5
  have c2 : IntKind.i64.wrap (2 * (len : Int)) = ((2 * len : Nat) : Int) := by rw [IntWalk.i64_in _ (by omega)]; omega
  go_enter Try.func25, Try.ntmps25
  go_wp2_with (at_make; refine wpList_make_own _ rfl _ _ 48 rfl w.heap.size 5 i0 (.int .u8 0) 1 Try.underlying48 hi hz0 hz1 _ _ _ (2 * len) rfl rfl (by omega) ?b2 ?b3 (Nat.le_refl _) ?_)
  case b2 => rw [hz2]; omega
  case b3 => unfold maxLen; omega
  intro w0 hown0 hgrow0
  clear c2
  go_wp2
  go_loopw [3, 12] (fun bs si wr => ∃ (i : Nat), i ≤ len ∧ si = .int .i64 i ∧ bs = .slice (some ⟨w.heap.size, 0, none⟩) (2 * i) (2 * len) ∧
      wr.ownsRow w.heap.size 5 1 (.slice (some ⟨w.heap.size, 0, none⟩) (2 * i) (2 * len)) (2 * i) ((wordL (zs.take i)).map (Value.int .u8)) ∧ Below w.heap.size w wr)
    (fun _ si _ => len - (intOf si).toNat)
  case atStart => exact ⟨0, Nat.zero_le _, rfl, rfl, hown0, (Below.refl _ _).grown hgrow0 (Nat.le_refl _) (fun k h => by cases h)⟩
  case round =>
    obtain ⟨i, hil, rfl, rfl, hown, hnx⟩ := hrel
    by_cases hlt : i < len
    · have hcell : wr.cell? ⟨b, off + i, none⟩ = some (.int .u16 (zs.getD i 0)) := (hnx.cell (by exact hb)).trans (hc i hlt)
      obtain ⟨n, hn⟩ : ∃ n, n = zs.getD i 0 := ⟨_, rfl⟩
      have hn0 : 0 ≤ n ∧ n ≤ 65535 := by
        rw [hn]; have : zs.getD i 0 = zs[i]'(by omega) := by simp [List.getD, show i < zs.length by omega]
        rw [this]; exact hr _ (List.getElem_mem _)
      obtain ⟨hn1, hn2⟩ := hn0
      have HT := Lib.hid (take_snoc_getD zs i (by omega))
      rw [← hn] at hcell HT
      clear hn hc
      go_wp2_with (at_builtin; refine wpList_append_fits _ rfl (.tmp 16) (.tmp 22) 48 rfl w.heap.size 5 i0 1 Try.underlying48 hi hz1 w.heap.size (2 * i) (2 * len) _ rfl (hown.alloc _) ⟨wr.heap.size, 0, none⟩ 2 2 [.int .u8 (n / 256), .int .u8 (n % 256)] rfl rfl ?c1 ?c2 (by omega) ?_)
      case c1 =>
        intro t u ht
        match t, ht with
        | 0, ht => simp at ht; subst ht; simp [Addr.add]
        | 1, ht => simp at ht; subst ht; simp [Addr.add]
      case c2 => intro u hu; simp at hu; rcases hu with rfl | rfl <;> rfl
      intro w1 hown1 hgrow1
      have hnx1 : Below w.heap.size w w1 := (hnx.alloc hnx.size _).grown hgrow1 (by simp; have := hnx.size; omega) (fun k hk => by cases hk; exact Nat.le_refl _)
      have hE : List.map (Value.int .u8) (wordL (zs.take i)) ++ [.int .u8 (n / 256), .int .u8 (n % 256)] = (wordL (zs.take (i + 1))).map (Value.int .u8) := by rw [HT.out, wordL_snoc]; simp
      rw [hE] at hown1
      clear hE hown hgrow1 hcell
      go_wp2
      go_roundw
      case rel => exact ⟨i + 1, by omega, by go_num, rfl, hown1, hnx1⟩
      case measure => simp [intOf]; omega
    · have hie : i = len := by omega
      have hT : zs.take i = zs := by rw [hie, ← hz]; simp
      have hcs : ∀ j, j < 2 * i → wr.cell? ⟨w.heap.size, 0 + j, none⟩ = some (.int .u8 ((wordL zs).getD j 0)) := by
        intro j hj
        have h := hown.cells (g := w.heap.size) rfl j (.int .u8 ((wordL zs).getD j 0)) (by
          have hjl : j < (wordL zs).length := by rw [wordL_length]; omega
          rw [hT]; simp [List.getD, hjl])
        rw [addr_add0] at h
        exact h
      have hconv := run_convert_bytes_arg (P := Try.prog) wr 48 5 Try.underlying48 Try.underlying5 w.heap.size 0 (2 * i) (2 * len) (wordL zs) (by rw [wordL_length]; omega) hcs 9 Try.underlying9
      clear hcs hT hown hie
      go_wp2
      go_ret
      exact ⟨rfl, hnx⟩
set_option maxRecDepth 100000 in
set_option maxHeartbeats 400000 in
theorem word_nil (a : Option Addr) (cap : Nat) (w : World) :
    Calls Try.prog 25 #[.slice a 0 cap] w fun e w' => e = .returned (.string (strOfNums (wordL []))) ∧ Below w.heap.size w w' := by
  obtain ⟨i0, hi, hz0, hz1, hz2⟩ := info_parts Try.info5
  go_enter Try.func25, Try.ntmps25
  go_wp2_with (at_make; refine wpList_make_own _ rfl _ _ 48 rfl w.heap.size 5 i0 (.int .u8 0) 1 Try.underlying48 hi hz0 hz1 _ _ _ 0 rfl rfl (by omega) ?b2 ?b3 (Nat.le_refl _) ?_)
  case b2 => rw [hz2]; omega
  case b3 => unfold maxLen; omega
  intro w0 hown0 hgrow0
  have hconv := run_convert_bytes_arg (P := Try.prog) w0 48 5 Try.underlying48 Try.underlying5 w.heap.size 0 0 0 (wordL []) rfl (by intro i hi; omega) 9 Try.underlying9
  have HN : Below w.heap.size w w0 := (Below.refl _ _).grown hgrow0 (Nat.le_refl _) (fun k h => by cases h)
  clear hown0 hgrow0
  go_wp2
  go_loop [3, 12] (fun v si => v = .slice (some ⟨w.heap.size, 0, none⟩) 0 0 ∧ si = .int .i64 0) (fun _ _ => 0)
  case atStart => exact ⟨rfl, rfl⟩
  case round =>
    obtain ⟨rfl, rfl⟩ := hrel
    go_wp2
    go_ret
    exact ⟨rfl, HN⟩

set_option maxRecDepth 100000 in
set_option maxHeartbeats 400000 in
theorem put16 (n : Int) (w : World) (h0 : 0 ≤ n) (h1 : n ≤ 65535) :
    Calls Try.prog 24 #[.int .u16 n] w fun e w' => e = .returned (.string (strOfNums (wordL [n]))) ∧ Below w.heap.size w w' := by
  go_enter Try.func24, Try.ntmps24
  go_wp2_with fail
  refine (word_row w.heap.size 0 1 1 [n] _ rfl (by omega) (by intro x hx; simp at hx; omega) (by simp) ?_).mono ?_
  · intro t ht
    obtain rfl : t = 0 := by omega
    simp
  rintro e w' ⟨rfl, hb⟩
  go_wp2
  go_ret
  exact ⟨rfl, ((Below.refl _ _).alloc (Nat.le_refl _) _).trans (hb.mono (by simp))⟩

set_option maxRecDepth 100000 in
set_option maxHeartbeats 400000 in
theorem put32 (n : Int) (w : World) (h0 : 0 ≤ n) (h1 : n ≤ 4294967295) :
    Calls Try.prog 23 #[.int .u32 n] w fun e w' => e = .returned (.string (strOfNums (wordL [n / 65536, n % 65536]))) ∧ Below w.heap.size w w' := by
  have e1 : IntKind.u16.wrap n = n % 65536 := IntKind.wrap_u16 n
  go_enter Try.func23, Try.ntmps23
  go_wp2_with fail
  refine (word_row w.heap.size 0 2 2 [n / 65536, n % 65536] _ rfl (by omega) (by intro x hx; simp at hx; omega) (by simp) ?_).mono ?_
  · intro t ht
    match t, ht with
    | 0, _ => simp
    | 1, _ => simp
  rintro e w' ⟨rfl, hb⟩
  go_wp2
  go_ret
  exact ⟨rfl, ((Below.refl _ _).alloc (Nat.le_refl _) _).trans (hb.mono (by simp))⟩
end Go.Proofs.Ytijippfcobgidaa
