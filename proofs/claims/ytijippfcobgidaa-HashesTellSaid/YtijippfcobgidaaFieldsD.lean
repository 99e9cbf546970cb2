/- Contracts of the document's answers for layer 1: Put16, Put32, Word. -/
import Derived.Test.YtijippfcobgidaaFieldsC
namespace Go.Proofs.Ytijippfcobgidaa
open Go.ChangeShapes Go.WideShapes Go.ChangeAt Go.RowKit Go.PlainAid

theorem strOfNums_append (a b : List Int) : strOfNums a ++ strOfNums b = strOfNums (a ++ b) := by
  apply ByteArray.ext
  simp [strOfNums]
theorem wordL_append (a b : List Int) : wordL (a ++ b) = wordL a ++ wordL b := by simp [wordL]

set_option maxRecDepth 100000 in
set_option maxHeartbeats 400000 in
theorem rput16 (n : Int) (w : World) (h0 : 0 ≤ n) (h1 : n ≤ 65535) :
    Calls Try.prog 22 #[.int .u16 n] w fun e w' => e = .returned (.string (strOfNums (wordL [n]))) ∧ Below w.heap.size w w' := by
  have e0 : IntKind.u16.wrap (n.tdiv 256) = n / 256 := by rw [Int.tdiv_eq_ediv_of_nonneg h0]; exact IntWalk.u16_in _ (by omega)
  have e1 : IntKind.u8.wrap (n / 256) = n / 256 := IntWalk.u8_in _ (by omega)
  have hconv := run_convert_bytes_arg (P := Try.prog) (w.alloc (.cells #[.int .u8 (n / 256), .int .u8 (n % 256)] 5)) 48 5 Try.underlying48 Try.underlying5 w.heap.size 0 2 2 (wordL [n]) rfl (by
    intro i hi
    match i, hi with
    | 0, _ => simp [wordL]
    | 1, _ => simp [wordL]) 9 Try.underlying9
  go_enter Try.func22, Try.ntmps22
  go_wp2
  go_ret
  exact ⟨rfl, (Below.refl _ _).alloc (Nat.le_refl _) _⟩

set_option maxRecDepth 100000 in
set_option maxHeartbeats 400000 in
theorem rput32 (n : Int) (w : World) (h0 : 0 ≤ n) (h1 : n ≤ 4294967295) :
    Calls Try.prog 21 #[.int .u32 n] w fun e w' => e = .returned (.string (strOfNums (wordL [n / 65536, n % 65536]))) ∧ Below w.heap.size w w' := by
  have HS := Lib.hid (strOfNums_append (wordL [n / 65536]) (wordL [n % 65536]))
  go_enter Try.func21, Try.ntmps21
  go_wp2_with fail
  refine (rput16 _ _ (by omega) (by omega)).mono ?_
  rintro e w1 ⟨rfl, hb1⟩
  go_wp2_with fail
  refine (rput16 _ _ (by omega) (by omega)).mono ?_
  rintro e w2 ⟨rfl, hb2⟩
  go_wp2
  go_ret
  exact ⟨congrArg (fun s => Ending.returned (Value.string s)) HS.out, hb1.trans (hb2.mono hb1.size)⟩

end Go.Proofs.Ytijippfcobgidaa
