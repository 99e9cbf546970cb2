/- Contracts of the document's answers for layer 1: Put16, Put32, Word. -/
import Derived.Test.YtckcdmijhemchaaFieldsC
namespace Go.Proofs.Ytckcdmijhemchaa
open Go.ChangeShapes Go.WideShapes Go.ChangeAt Go.RowKit Go.PlainAid

theorem strOfNums_append (a b : List Int) : strOfNums a ++ strOfNums b = strOfNums (a ++ b) := by
  apply ByteArray.ext
  simp [strOfNums]
theorem wordL_append (a b : List Int) : wordL (a ++ b) = wordL a ++ wordL b := by simp [wordL]

set_option maxRecDepth 100000 in
set_option maxHeartbeats 400000 in
theorem rput16 (n : Int) (w : World) (h0 : 0 ≤ n) (h1 : n ≤ 65535) :
    Calls Try.prog 33 #[.int .u16 n] w fun e w' => e = .returned (.string (strOfNums (wordL [n]))) ∧ Below w.heap.size w w' := by
  have e0 : IntKind.u16.wrap (n.tdiv 256) = n / 256 := by rw [Int.tdiv_eq_ediv_of_nonneg h0]; exact IntWalk.u16_in _ (by omega)
  have e1 : IntKind.u8.wrap (n / 256) = n / 256 := IntWalk.u8_in _ (by omega)
  have hconv := run_convert_bytes_arg (P := Try.prog) (w.alloc (.cells #[.int .u8 (n / 256), .int .u8 (n % 256)] 5)) 45 5 Try.underlying45 Try.underlying5 w.heap.size 0 2 2 (wordL [n]) rfl (by
    intro i hi
    match i, hi with
    | 0, _ => simp [wordL]
    | 1, _ => simp [wordL]) 9 Try.underlying9
  go_enter Try.func33, Try.ntmps33
  go_wp2
  go_ret
  exact ⟨rfl, (Below.refl _ _).alloc (Nat.le_refl _) _⟩

set_option maxRecDepth 100000 in
set_option maxHeartbeats 400000 in
theorem rput32 (n : Int) (w : World) (h0 : 0 ≤ n) (h1 : n ≤ 4294967295) :
    Calls Try.prog 24 #[.int .u32 n] w fun e w' => e = .returned (.string (strOfNums (wordL [n / 65536, n % 65536]))) ∧ Below w.heap.size w w' := by
  have HS := Lib.hid (strOfNums_append (wordL [n / 65536]) (wordL [n % 65536]))
  go_enter Try.func24, Try.ntmps24
  go_wp2_with fail
  refine (rput16 _ _ (by omega) (by omega)).mono ?_
  rintro e w1 ⟨rfl, hb1⟩
  go_wp2_with fail
  refine (rput16 _ _ (by omega) (by omega)).mono ?_
  rintro e w2 ⟨rfl, hb2⟩
  go_wp2
  go_ret
  exact ⟨congrArg (fun s => Ending.returned (Value.string s)) HS.out, hb1.trans (hb2.mono hb1.size)⟩

set_option maxRecDepth 100000 in
set_option maxHeartbeats 1000000 in
theorem rword_row (b off len cap : Nat) (zs : List Int) (w : World) (hz : zs.length = len) (hl : len ≤ 1000000) (hr : ∀ n ∈ zs, 0 ≤ n ∧ n ≤ 65535) (hb : b < w.heap.size)
    (hc : ∀ t, t < len → w.cell? ⟨b, off + t, none⟩ = some (.int .u16 (zs.getD t 0))) :
    Calls Try.prog 23 #[.slice (some ⟨b, off, none⟩) len cap] w fun e w' => e = .returned (.string (strOfNums (wordL zs))) ∧ Below w.heap.size w w' := by
  go_enter Try.func23, Try.ntmps23
  go_wp2
  go_loopw [3, 4] (fun v si wr => ∃ (i : Nat), i ≤ len ∧ si = .int .i64 i ∧ v = .string (strOfNums (wordL (zs.take i))) ∧ Below w.heap.size w wr)
    (fun _ si _ => len - (intOf si).toNat)
  case atStart => exact ⟨0, Nat.zero_le _, rfl, rfl, Below.refl _ _⟩
  case round =>
    obtain ⟨i, hil, rfl, rfl, hnx⟩ := hrel
    by_cases hlt : i < len
    · have hcell : wr.cell? ⟨b, off + i, none⟩ = some (.int .u16 (zs.getD i 0)) := (hnx.cell (by exact hb)).trans (hc i hlt)
      obtain ⟨n, hn⟩ : ∃ n, n = zs.getD i 0 := ⟨_, rfl⟩
      have hn0 : 0 ≤ n ∧ n ≤ 65535 := by
        rw [hn]; have : zs.getD i 0 = zs[i]'(by omega) := by simp [List.getD, show i < zs.length by omega]
        rw [this]; exact hr _ (List.getElem_mem _)
      obtain ⟨hn1, hn2⟩ := hn0
      have HT := Lib.hid (take_snoc_getD zs i (by omega))
      rw [← hn] at hcell HT
      have HS := Lib.hid (strOfNums_append (wordL (zs.take i)) (wordL [n]))
      rw [← wordL_append, ← HT.out] at HS
      clear hn hc
      go_wp2_with fail
      refine (rput16 _ _ hn1 hn2).mono ?_
      rintro e w1 ⟨rfl, hb1⟩
      clear hcell
      have hsz : (strOfNums (wordL (zs.take i))).size + (strOfNums (wordL [n])).size ≤ 9223372036854775807 := by
        rw [strOfNums_size, strOfNums_size, wordL_length, wordL_length]
        have : (zs.take i).length ≤ zs.length := by rw [List.length_take]; exact Nat.min_le_right _ _
        simp only [List.length_singleton]; omega
      go_wp2
      go_roundw
      case rel => exact ⟨i + 1, by omega, by go_num, congrArg Value.string HS.out, hnx.trans (hb1.mono hnx.size)⟩
      case measure => simp [intOf]; omega
    · have hie : i = len := by omega
      have HT : Hid (zs.take i = zs) := by rw [hie, ← hz]; show _ = _; simp
      clear hie
      go_wp2
      go_ret
      refine ⟨?_, hnx⟩
      rw [← HT.out]
      simp [HT.out]
set_option maxHeartbeats 400000 in
theorem rword_nil (a : Option Addr) (cap : Nat) (w : World) :
    Calls Try.prog 23 #[.slice a 0 cap] w fun e w' => e = .returned (.string (strOfNums (wordL []))) ∧ Below w.heap.size w w' := by
  go_enter Try.func23, Try.ntmps23
  go_wp2
  go_loop [3, 4] (fun v si => v = .string (strOfNums (wordL [])) ∧ si = .int .i64 0) (fun _ _ => 0)
  case atStart => exact ⟨rfl, rfl⟩
  case round =>
    obtain ⟨rfl, rfl⟩ := hrel
    go_wp2
    go_ret
    exact ⟨rfl, Below.refl _ _⟩
end Go.Proofs.Ytckcdmijhemchaa
