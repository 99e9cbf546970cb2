/- The walk of FieldsBack. -/
import Derived.Test.YtcolignnoeamjaaFieldsE
import Derived.Test.YtcolignnoeamjaaFieldsP
namespace Go.Proofs.Ytcolignnoeamjaa.FieldsBack
open Go.ChangeShapes Go.WideShapes Go.ChangeAt Go.RowKit Go.PlainAid
def S (a : ByteArray) (zs : List Int) (n : Int) : ByteArray := a ++ strOfNums (wordL zs) ++ strOfNums (wordL [n / 65536, n % 65536])
theorem S_size (a : ByteArray) (zs : List Int) (n : Int) : (S a zs n).size = a.size + 2 * zs.length + 4 := by
  unfold S
  rw [ByteArray.size_append, ByteArray.size_append, strOfNums_size, strOfNums_size, wordL_length, wordL_length]
  simp
theorem S_16 (a : ByteArray) (zs : List Int) (n : Int) (h : ∀ n ∈ zs, 0 ≤ n ∧ n ≤ 65535) (i : Nat) (hi : i < zs.length) : v16 (S a zs n) ((a.size : Int) + 2 * i) = zs.getD i 0 ∧ okAt (S a zs n) ((a.size : Int) + 2 * i) 2 = true := by
  have e : ((a.size : Int) + 2 * i) = ((a.size + 2 * i : Nat) : Int) := by omega
  have ok : okAt (S a zs n) ((a.size + 2 * i : Nat) : Int) 2 = true := okAt_yes (m := 2) (by rw [S_size]; omega)
  rw [e]
  refine ⟨?_, ok⟩
  unfold v16
  rw [if_pos ok, Int.toNat_natCast]
  exact g16_word a _ zs h i hi
theorem S_32 (a : ByteArray) (zs : List Int) (n : Int) (h0 : 0 ≤ n) (h1 : n ≤ 4294967295) : v32 (S a zs n) ((a.size + 2 * zs.length : Nat) : Int) = n ∧ okAt (S a zs n) ((a.size + 2 * zs.length : Nat) : Int) 4 = true := by
  have ok : okAt (S a zs n) ((a.size + 2 * zs.length : Nat) : Int) 4 = true := okAt_yes (m := 4) (by rw [S_size]; omega)
  refine ⟨?_, ok⟩
  unfold v32
  rw [if_pos ok, Int.toNat_natCast]
  have := g32_word (a ++ strOfNums (wordL zs)) n h0 h1
  rw [ByteArray.size_append, strOfNums_size, wordL_length] at this
  exact this
theorem S_32no (a : ByteArray) (zs : List Int) (n : Int) : v32 (S a zs n) ((a.size + 2 * zs.length + 1 : Nat) : Int) = 0 ∧ okAt (S a zs n) ((a.size + 2 * zs.length + 1 : Nat) : Int) 4 = false := by
  have ok : okAt (S a zs n) ((a.size + 2 * zs.length + 1 : Nat) : Int) 4 = false := okAt_no (by rw [S_size]; omega)
  refine ⟨?_, ok⟩
  unfold v32
  rw [ok]; simp
set_option maxRecDepth 100000 in
set_option maxHeartbeats 1000000 in
theorem walk (a : Option Addr) (len cap : Nat) (zs : List Int) (s : ByteArray) (n : Int) (w : World) (hr : IsRow .u16 w a len cap zs) (hs : s.size ≤ maxLen) (hn : (Lit.int .u32 n).wf = true) :
    Calls Try.prog 5 #[.slice a len cap, .string s, .int .u32 n] w fun e w' => e = .returned (.bool true) ∧ Below w.heap.size w w' := by
  obtain ⟨n0, n1⟩ := bounds_u32 hn
  have hlen := hr.len_le
  unfold maxLen at hlen hs
  have ROW := Lib.hid hr.row
  have WF := Lib.hid (fun x hx => bounds_u16 (hr.wf x hx))
  clear hr hn
  by_cases h1 : 200 < len
  · have e1 : decide ((200 : Int) < len) = true := by simp; omega
    go_enter Try.func5, Try.ntmps5
    go_wp2_with fail
    refine (fields_laid _).mono ?_; rintro e w1 ⟨rfl, b1⟩
    go_wp2
    go_ret
    exact ⟨rfl, b1⟩
  have e1 : decide ((200 : Int) < len) = false := by simp; omega
  by_cases h2 : 200 < s.size
  · have e2 : decide ((200 : Int) < s.size) = true := by simp; omega
    go_enter Try.func5, Try.ntmps5
    go_wp2_with fail
    refine (fields_laid _).mono ?_; rintro e w1 ⟨rfl, b1⟩
    go_wp2
    go_ret
    exact ⟨rfl, b1⟩
  have e2 : decide ((200 : Int) < s.size) = false := by simp; omega
  obtain ⟨ys, hys⟩ : ∃ ys, ys = zs.take len := ⟨_, rfl⟩
  rw [← hys] at ROW WF
  have HL : ys.length = len := ROW.out.1
  clear hys
  have hz1 : s.size + (strOfNums (wordL ys)).size ≤ 9223372036854775807 := by rw [strOfNums_size, wordL_length]; omega
  have hz2 : (s ++ strOfNums (wordL ys)).size + (strOfNums (wordL [n / 65536, n % 65536])).size ≤ 9223372036854775807 := by rw [ByteArray.size_append, strOfNums_size, strOfNums_size, wordL_length, wordL_length]; simp only [List.length_cons, List.length_nil]; omega
  have hS : s ++ strOfNums (wordL ys) ++ strOfNums (wordL [n / 65536, n % 65536]) = S s ys n := rfl
  have hSz : ((S s ys n).size : Int) = (s.size : Int) + 2 * len + 4 := by rw [S_size]; omega
  have HL := Lib.hid HL
  go_enter Try.func5, Try.ntmps5
  go_wp2_with fail
  refine (word_any _ _ _ _ _ ROW.out (by omega) WF.out).mono ?_; rintro e w1 ⟨rfl, b1⟩
  go_wp2_with fail
  refine (put32 _ _ n0 n1).mono ?_; rintro e w2 ⟨rfl, b2⟩
  have B2 := b1.trans (b2.mono b1.size)
  clear b1 b2
  go_wp2_with fail
  clear hz1 hz2 hS
  go_loopw [8] (fun si wr => ∃ i : Nat, i ≤ len ∧ si = .int .i64 i ∧ Below w.heap.size w wr) (fun si _ => len - (intOf si).toNat)
  case atStart => exact ⟨0, Nat.zero_le _, rfl, B2⟩
  case round =>
    obtain ⟨i, hil, rfl, B⟩ := hrel
    by_cases hlt : i < len
    · obtain ⟨b, off, rfl, hb, hc⟩ : ∃ b off, a = some ⟨b, off, none⟩ ∧ b < w.heap.size ∧ ∀ t, t < len → w.cell? ⟨b, off + t, none⟩ = some (.int .u16 (ys.getD t 0)) := by
        rcases ROW.out.2 with h | h
        · omega
        · exact h
      obtain ⟨x, hx⟩ : ∃ x, x = ys.getD i 0 := ⟨_, rfl⟩
      have hcell := hc i hlt
      obtain ⟨e5, e6⟩ := S_16 s ys n WF.out i (by rw [HL.out]; omega)
      rw [← hx] at hcell e5
      clear hc hx
      go_wp2_with fail
      refine (get16_any _ _ _ (by rw [S_size, HL.out]; unfold maxLen; omega)).mono ?_
      rintro e w3 ⟨rfl, b3⟩
      have B3 := B.trans (b3.mono B.size)
      have hcell3 := (B3.cell (by exact hb)).trans hcell
      clear hcell b3
      go_wp2
      clear hcell3
      go_roundw
      case rel => exact ⟨i + 1, by omega, by go_num, B3⟩
      case measure => simp [intOf]; omega
    · clear B2
      have i1 : (s.size : Int) + 2 * (len : Int) = ((s.size + 2 * ys.length : Nat) : Int) := by rw [HL.out]; omega
      have i2 : (s.size : Int) + 2 * (len : Int) + 4 - 3 = ((s.size + 2 * ys.length + 1 : Nat) : Int) := by rw [HL.out]; omega
      obtain ⟨e5, e6⟩ := S_32 s ys n n0 n1
      obtain ⟨e7, e8⟩ := S_32no s ys n
      rw [← i1] at e5 e6
      rw [← i2] at e7 e8
      clear i1 i2
      have e10 : decide ((i : Int) < len) = false := by simp; omega
      have e9 : IntKind.u16.wrap n = n % 65536 := IntKind.wrap_u16 n
      go_wp2_with fail
      refine (get32_any _ _ _ (by rw [S_size, HL.out]; unfold maxLen; omega)).mono ?_
      rintro e w3 ⟨rfl, b3⟩
      have B3 := B.trans (b3.mono B.size)
      clear b3 B
      go_wp2_with fail
      refine (get32_any _ _ _ (by rw [S_size, HL.out]; unfold maxLen; omega)).mono ?_
      rintro e w4 ⟨rfl, b4⟩
      have B4 := B3.trans (b4.mono B3.size)
      clear b4 B3
      go_wp2_with fail
      refine (word_row w4.heap.size 0 2 2 [n / 65536, n % 65536] _ rfl (by omega) (by intro x hx; simp at hx; omega) (by simp) ?_).mono ?_
      · intro t ht
        match t, ht with
        | 0, _ => simp
        | 1, _ => simp
      rintro e w5 ⟨rfl, b5⟩
      have B5 : Below w.heap.size w w5 := (B4.alloc B4.size _).trans (b5.mono (by simp; have := B4.size; omega))
      clear b5 B4
      go_wp2_with fail
      refine (put32 _ _ n0 n1).mono ?_; rintro e w6 ⟨rfl, b6⟩
      have B6 := B5.trans (b6.mono B5.size)
      clear b6 B5
      go_wp2_with fail
      refine (fields_laid _).mono ?_; rintro e w7 ⟨rfl, b7⟩
      have B7 := B6.trans (b7.mono B6.size)
      clear b7 B6
      go_wp2
      go_ret
      exact ⟨rfl, B7⟩
end Go.Proofs.Ytcolignnoeamjaa.FieldsBack
