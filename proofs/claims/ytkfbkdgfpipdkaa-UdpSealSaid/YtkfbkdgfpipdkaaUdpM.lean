/- What the laws of layer 5 ask of package udp (UdpOk: proved of the code elsewhere); the chapter's examples from it. -/
import Derived.Test.YtkfbkdgfpipdkaaUdpP
import Derived.Test.YtkfbkdgfpipdkaaBox4
namespace Go.Proofs.Ytkfbkdgfpipdkaa
set_option linter.unusedVariables false
set_option linter.unusedSimpArgs false
open Go.ChangeShapes Go.WideShapes Go.ChangeAt Go.RowKit Go.PlainAid
attribute [local go_sem ↓] Go.wp_at_zero Go.wp_at_succ
structure UdpOk : Prop where
  parses : ∀ (s : ByteArray) (w : World), s.size ≤ 1000000 → Calls Try.prog 9 #[.string s] w fun e w' => e = .returned (.tuple #[.agg #[.int .u16 (uI s (g16 s 0)), .int .u16 (uI s (g16 s 2)), .int .u16 (uI s (g16 s 4)), .int .u16 (uI s (g16 s 6))], .string (uP s), .bool (uOk s)]) ∧ Below w.heap.size w w'
  puts : ∀ (a b l c : Int) (p : ByteArray) (w : World), 0 ≤ a → a ≤ 65535 → 0 ≤ b → b ≤ 65535 → 0 ≤ c → c ≤ 65535 → p.size ≤ 1000000 → Calls Try.prog 11 #[.agg #[.int .u16 a, .int .u16 b, .int .u16 l, .int .u16 c], .string p] w fun e w' => e = .returned (.string (udpB a b c p)) ∧ Below w.heap.size w w'
  checks : ∀ (a b : Int) (s : ByteArray) (w : World), 0 ≤ a → a ≤ 4294967295 → 0 ≤ b → b ≤ 4294967295 → s.size ≤ 1000000 → Calls Try.prog 13 #[.int .u32 a, .int .u32 b, .string s] w fun e w' => e = .returned (.bool (ckU a b s)) ∧ Below w.heap.size w w'
  seals : ∀ (a b : Int) (s : ByteArray) (w : World), 0 ≤ a → a ≤ 4294967295 → 0 ≤ b → b ≤ 4294967295 → s.size ≤ 1000000 → Calls Try.prog 15 #[.int .u32 a, .int .u32 b, .string s] w fun e w' => e = .returned (.string (slU a b s)) ∧ Below w.heap.size w w'
namespace UdpLaid
def A0 : ByteArray := ⟨#[0, 1, 0, 2, 0, 10, 0, 0, 97, 98]⟩
def B0 : ByteArray := ⟨#[0, 1, 0, 2, 0, 10, 142, 97, 97, 98]⟩
theorem v1 : udpB 1 2 0 ⟨#[97, 98]⟩ = A0 := by kernel_rfl
theorem v2 : slU 16909060 84281096 A0 = B0 := by kernel_rfl
theorem v3 : uOk ⟨#[0, 1, 0, 2, 0, 8, 0, 0, 97]⟩ = false := by kernel_rfl
theorem v4 : ckU 16909060 84281096 A0 = true := by kernel_rfl
theorem v5 : ckU 16909060 84281096 B0 = true := by kernel_rfl
theorem v6 : ckU 16909061 84281096 B0 = false := by kernel_rfl
end UdpLaid
set_option maxHeartbeats 2000000 in
set_option maxRecDepth 100000 in
theorem sent_ (K : UdpOk) (w : World) :
    Calls Try.prog 8 #[] w fun e w' => e = .returned (.bool true) ∧ Below w.heap.size w w' := by
  have c1 := fun u => K.puts 1 2 99 0 ⟨#[97, 98]⟩ u (by omega) (by omega) (by omega) (by omega) (by omega) (by omega) (by decide)
  have c2 := fun u => K.seals 16909060 84281096 UdpLaid.A0 u (by omega) (by omega) (by omega) (by omega) (by decide)
  have c3 := fun u => K.parses ⟨#[0, 1, 0, 2, 0, 8, 0, 0, 97]⟩ u (by decide)
  have c4 := fun u => K.checks 16909060 84281096 UdpLaid.A0 u (by omega) (by omega) (by omega) (by omega) (by decide)
  have c5 := fun u => K.checks 16909060 84281096 UdpLaid.B0 u (by omega) (by omega) (by omega) (by omega) (by decide)
  have c6 := fun u => K.checks 16909061 84281096 UdpLaid.B0 u (by omega) (by omega) (by omega) (by omega) (by decide)
  obtain ⟨y1, y2⟩ := uOk_no UdpLaid.v3
  rw [UdpLaid.v1] at c1
  rw [UdpLaid.v2] at c2
  rw [y1, y1, y1, y1, y2, UdpLaid.v3] at c3
  rw [UdpLaid.v4] at c4
  rw [UdpLaid.v5] at c5
  rw [UdpLaid.v6] at c6
  obtain ⟨A, hA⟩ : ∃ A, A = UdpLaid.A0 := ⟨_, rfl⟩
  obtain ⟨B, hB⟩ : ∃ B, B = UdpLaid.B0 := ⟨_, rfl⟩
  have e1 : (A.toList == [0, 1, 0, 2, 0, 10, 0, 0, 97, 98]) = true := by rw [hA, Lib.toList_data]; rfl
  have e2 : (B.toList == [0, 1, 0, 2, 0, 10, 142, 97, 97, 98]) = true := by rw [hB, Lib.toList_data]; rfl
  rw [← hA] at c1 c2 c4
  rw [← hB] at c2 c5 c6
  clear hA hB y1 y2
  go_enter Try.func8, Try.ntmps8
  go_wp2_with fail
  refine (c1 _).mono ?_; rintro e w1 ⟨rfl, b1⟩
  clear c1
  go_wp2_with fail
  refine (c2 _).mono ?_; rintro e w2 ⟨rfl, b2⟩
  have B2 := b1.trans (b2.mono b1.size)
  clear c2 b1 b2
  go_wp2_with fail
  refine (c3 _).mono ?_; rintro e w3 ⟨rfl, b3⟩
  have B3 := B2.trans (b3.mono B2.size)
  have B4 := B3.alloc B3.size (.cells #[.int .u16 0, .int .u16 0, .int .u16 0, .int .u16 0] 24)
  clear c3 b3 B2 B3
  go_wp2_with fail
  refine (c4 _).mono ?_; rintro e w4 ⟨rfl, b4⟩
  have B5 := B4.trans (b4.mono B4.size)
  clear c4 b4 B4
  go_wp2_with fail
  refine (c5 _).mono ?_; rintro e w5 ⟨rfl, b5⟩
  have B6 := B5.trans (b5.mono B5.size)
  clear c5 b5 B5
  go_wp2_with fail
  refine (c6 _).mono ?_; rintro e w6 ⟨rfl, b6⟩
  have B7 := B6.trans (b6.mono B6.size)
  clear c6 b6 B6
  go_wp2
  go_ret
  exact ⟨rfl, B7⟩
end Go.Proofs.Ytkfbkdgfpipdkaa
