/- What the laws of layer 6 ask of package tcp (TcpOk: proved of the code elsewhere); the chapter's examples from it. -/
import Derived.Test.YtckcdmijhemchaaTcpC
import Derived.Test.YtckcdmijhemchaaShelfStr
namespace Go.Proofs.Ytckcdmijhemchaa
set_option linter.unusedVariables false
set_option linter.unusedSimpArgs false
open Go.ChangeShapes Go.WideShapes Go.ChangeAt Go.RowKit Go.PlainAid
attribute [local go_sem ↓] Go.wp_at_zero Go.wp_at_succ
structure TcpOk : Prop where
  parses : ∀ (s : ByteArray) (w : World), s.size ≤ 1000000 → Calls Try.prog 9 #[.string s] w fun e w' => e = .returned (.tuple #[.agg #[.int .u16 (tI s (g16 s 0)), .int .u16 (tI s (g16 s 2)), .int .u32 (tI s (g32 s 4)), .int .u32 (tI s (g32 s 8)), .int .u8 (tI s (bt s 12 % 16)), .int .u8 (tI s (bt s 13)), .int .u16 (tI s (g16 s 14)), .int .u16 (tI s (g16 s 16)), .int .u16 (tI s (g16 s 18)), .string (tO s)], .string (tP s), .bool (tOk s)]) ∧ Below w.heap.size w w'
  puts : ∀ (sp dp sq ak lo fl wi su ur : Int) (o p : ByteArray) (w : World), 0 ≤ sp → sp ≤ 65535 → 0 ≤ dp → dp ≤ 65535 → 0 ≤ sq → sq ≤ 4294967295 → 0 ≤ ak → ak ≤ 4294967295 → 0 ≤ lo → lo ≤ 255 → 0 ≤ fl → fl ≤ 255 → 0 ≤ wi → wi ≤ 65535 → 0 ≤ su → su ≤ 65535 → 0 ≤ ur → ur ≤ 65535 → o.size ≤ 1000000 → p.size ≤ 1000000 → Calls Try.prog 11 #[.agg #[.int .u16 sp, .int .u16 dp, .int .u32 sq, .int .u32 ak, .int .u8 lo, .int .u8 fl, .int .u16 wi, .int .u16 su, .int .u16 ur, .string o], .string p] w fun e w' => e = .returned (.tuple #[.string (tPutB sp dp sq ak lo fl wi su ur o p), .int .i64 (tE o.size lo)]) ∧ Below w.heap.size w w'
  checks : ∀ (a b : Int) (s : ByteArray) (w : World), 0 ≤ a → a ≤ 4294967295 → 0 ≤ b → b ≤ 4294967295 → s.size ≤ 1000000 → Calls Try.prog 13 #[.int .u32 a, .int .u32 b, .string s] w fun e w' => e = .returned (.bool (ckT a b s)) ∧ Below w.heap.size w w'
  seals : ∀ (a b : Int) (s : ByteArray) (w : World), 0 ≤ a → a ≤ 4294967295 → 0 ≤ b → b ≤ 4294967295 → s.size ≤ 1000000 → Calls Try.prog 15 #[.int .u32 a, .int .u32 b, .string s] w fun e w' => e = .returned (.string (slT a b s)) ∧ Below w.heap.size w w'
namespace TcpLaid
def A0 : ByteArray := ⟨#[0, 1, 0, 2, 0, 0, 0, 3, 0, 0, 0, 4, 80, 2, 0, 5, 0, 0, 0, 0]⟩
def B0 : ByteArray := ⟨#[0, 1, 0, 2, 0, 0, 0, 3, 0, 0, 0, 4, 80, 2, 0, 5, 159, 192, 0, 0]⟩
def Z0 : ByteArray := ⟨#[0, 0, 0, 0, 0, 0, 0, 0, 0, 0, 0, 0, 0, 0, 0, 0, 0, 0, 0, 0]⟩
theorem v1 : tPutB 1 2 3 4 0 2 5 0 0 ⟨#[]⟩ ⟨#[]⟩ = A0 := by kernel_rfl
theorem v1e : tE (⟨#[]⟩ : ByteArray).size 0 = 0 := by kernel_rfl
theorem v2 : slT 16909060 84281096 A0 = B0 := by kernel_rfl
theorem v3 : str (Lib.repeatL (⟨#[0]⟩ : ByteArray).data.toList 20) = Z0 := by kernel_rfl
theorem v4 : tOk Z0 = false := by kernel_rfl
theorem v5 : tOk (A0.extract 0 12 ++ ⟨#[96]⟩ ++ A0.extract 13 20) = false := by kernel_rfl
theorem v6 : tPutB 0 0 0 0 16 0 0 0 0 ⟨#[]⟩ ⟨#[]⟩ = ⟨#[]⟩ := by kernel_rfl
theorem v6e : tE (⟨#[]⟩ : ByteArray).size 16 = 2 := by kernel_rfl
theorem v7 : tPutB 0 0 0 0 0 0 0 0 0 ⟨#[97, 98]⟩ ⟨#[]⟩ = ⟨#[]⟩ := by kernel_rfl
theorem v7e : tE (⟨#[97, 98]⟩ : ByteArray).size 0 = 2 := by kernel_rfl
theorem v8 : ckT 16909060 84281096 B0 = true := by kernel_rfl
end TcpLaid
theorem TcpOk.none_ (K : TcpOk) {s : ByteArray} (h : tOk s = false) (hs : s.size ≤ 1000000) (w : World) : Calls Try.prog 9 #[.string s] w fun e w' => e = .returned (.tuple #[.agg #[.int .u16 0, .int .u16 0, .int .u32 0, .int .u32 0, .int .u8 0, .int .u8 0, .int .u16 0, .int .u16 0, .int .u16 0, .string ⟨#[]⟩], .string ⟨#[]⟩, .bool false]) ∧ Below w.heap.size w w' := by
  have k := K.parses s w hs
  obtain ⟨y1, y2, y3⟩ := tOk_no h
  rw [y1, y1, y1, y1, y1, y1, y1, y1, y1, y2, y3, h] at k
  exact k
set_option maxHeartbeats 4000000 in
set_option maxRecDepth 100000 in
theorem begun_ (K : TcpOk) (w : World) :
    Calls Try.prog 8 #[] w fun e w' => e = .returned (.bool true) ∧ Below w.heap.size w w' := by
  have c1 := fun u => K.puts 1 2 3 4 0 2 5 0 0 ⟨#[]⟩ ⟨#[]⟩ u (by omega) (by omega) (by omega) (by omega) (by omega) (by omega) (by omega) (by omega) (by omega) (by omega) (by omega) (by omega) (by omega) (by omega) (by omega) (by omega) (by omega) (by omega) (by decide) (by decide)
  have c2 := fun u => K.seals 16909060 84281096 TcpLaid.A0 u (by omega) (by omega) (by omega) (by omega) (by decide)
  have c3 := fun u => repeat_ ⟨#[0]⟩ 20 u (by omega) (by decide)
  have c4 := fun u => K.none_ TcpLaid.v4 (by decide) u
  have c5 := fun u => K.none_ TcpLaid.v5 (by decide) u
  have c6 := fun u => K.puts 0 0 0 0 16 0 0 0 0 ⟨#[]⟩ ⟨#[]⟩ u (by omega) (by omega) (by omega) (by omega) (by omega) (by omega) (by omega) (by omega) (by omega) (by omega) (by omega) (by omega) (by omega) (by omega) (by omega) (by omega) (by omega) (by omega) (by decide) (by decide)
  have c7 := fun u => K.puts 0 0 0 0 0 0 0 0 0 ⟨#[97, 98]⟩ ⟨#[]⟩ u (by omega) (by omega) (by omega) (by omega) (by omega) (by omega) (by omega) (by omega) (by omega) (by omega) (by omega) (by omega) (by omega) (by omega) (by omega) (by omega) (by omega) (by omega) (by decide) (by decide)
  have c8 := fun u => K.checks 16909060 84281096 TcpLaid.B0 u (by omega) (by omega) (by omega) (by omega) (by decide)
  rw [TcpLaid.v1, TcpLaid.v1e] at c1
  rw [TcpLaid.v2] at c2
  rw [TcpLaid.v3] at c3
  rw [TcpLaid.v6, TcpLaid.v6e] at c6
  rw [TcpLaid.v7, TcpLaid.v7e] at c7
  rw [TcpLaid.v8] at c8
  obtain ⟨A, hA⟩ : ∃ A, A = TcpLaid.A0 := ⟨_, rfl⟩
  obtain ⟨B, hB⟩ : ∃ B, B = TcpLaid.B0 := ⟨_, rfl⟩
  obtain ⟨Y, hY⟩ : ∃ Y, Y = TcpLaid.Z0 := ⟨_, rfl⟩
  have zA : A.size = 20 := by rw [hA]; rfl
  have zB : B.size = 20 := by rw [hB]; rfl
  have e1 : (A.toList == [0, 1, 0, 2, 0, 0, 0, 3, 0, 0, 0, 4, 80, 2, 0, 5, 0, 0, 0, 0]) = true := by rw [hA, Lib.toList_data]; rfl
  have e2 : ((B.extract 16 18).toList == [159, 192]) = true := by rw [hB, Lib.toList_data]; rfl
  rw [← hA] at c1 c2 c5
  rw [← hB] at c2 c8
  rw [← hY] at c3 c4
  clear hA hB hY
  go_enter Try.func8, Try.ntmps8
  go_wp2_with fail
  refine (c1 _).mono ?_; rintro e w1 ⟨rfl, b1⟩
  clear c1
  go_wp2_with fail
  refine (c2 _).mono ?_; rintro e w2 ⟨rfl, b2⟩
  have B2 := b1.trans (b2.mono b1.size)
  clear c2 b1 b2
  go_wp2_with fail
  refine (c3 _).mono ?_; rintro e w3 ⟨rfl, b3⟩
  have B3 := B2.trans (b3.mono B2.size)
  clear c3 B2 b3
  go_wp2_with fail
  refine (c4 _).mono ?_; rintro e w4 ⟨rfl, b4⟩
  have B4 := (B3.trans (b4.mono B3.size)).alloc (B3.trans (b4.mono B3.size)).size (.cells #[.int .u16 0, .int .u16 0, .int .u32 0, .int .u32 0, .int .u8 0, .int .u8 0, .int .u16 0, .int .u16 0, .int .u16 0, .string ⟨#[]⟩] 25)
  clear c4 B3 b4
  go_wp2_with fail
  obtain ⟨v4, hv4⟩ : ∃ v, v = w4.alloc (.cells #[.int .u16 0, .int .u16 0, .int .u32 0, .int .u32 0, .int .u8 0, .int .u8 0, .int .u16 0, .int .u16 0, .int .u16 0, .string ⟨#[]⟩] 25) := ⟨_, rfl⟩
  rw [← hv4] at B4 ⊢
  clear hv4
  have k1 : ¬ 9223372036854775807 < (A.extract 0 12).size + 1 := by rw [size_extract' A 0 12 (by omega) (by omega)]; omega
  have k2 : ¬ 9223372036854775807 < (A.extract 0 12).size + 1 + (A.extract 13 20).size := by rw [size_extract' A 0 12 (by omega) (by omega), size_extract' A 13 20 (by omega) (by omega)]; omega
  go_region_held3 (fun w' => True) (trivial)
    ((first
      | (go_at_call 9
         refine (c5 _).mono ?_
         rintro e w5 ⟨rfl, b5⟩
         first
           | (have z : Box10 w5 v4.heap.size (.int .u16 0) (.int .u16 0) (.int .u32 0) (.int .u32 0) (.int .u8 0) (.int .u8 0) (.int .u16 0) (.int .u16 0) (.int .u16 0) (.string ⟨#[]⟩) := (Box10.make v4.drew (.int .u16 0) (.int .u16 0) (.int .u32 0) (.int .u32 0) (.int .u8 0) (.int .u8 0) (.int .u16 0) (.int .u16 0) (.int .u16 0) (.string ⟨#[]⟩) 25).on b5
              obtain ⟨f, f0, f1, f2, f3, f4, f5, f6, f7, f8, f9⟩ := z
              have fz : ∀ j, w5.frozen? ⟨v4.heap.size, j, none⟩ = false := fun j => by
                rw [b5.frozen (p := ⟨_, j, none⟩) (by simp)]
                simp [go_sem])
           | skip)))
  · have b := ((Below.refl v4.heap.size v4).drew).trans b5
    have B5 := (B4.trans (b.mono B4.size)).alloc (B4.trans (b.mono B4.size)).size (.cells #[.int .u16 0, .int .u16 0, .int .u32 0, .int .u32 0, .int .u8 0, .int .u8 0, .int .u16 0, .int .u16 0, .int .u16 0, .string ⟨#[]⟩] 25)
    clear b b5 B4 k1 k2
    obtain ⟨v7, hv7⟩ : ∃ v, v = w5.alloc (.cells #[.int .u16 0, .int .u16 0, .int .u32 0, .int .u32 0, .int .u8 0, .int .u8 0, .int .u16 0, .int .u16 0, .int .u16 0, .string ⟨#[]⟩] 25) := ⟨_, rfl⟩
    rw [← hv7] at B5 ⊢
    clear hv7
    go_wp2_with fail
    refine (c6 _).mono ?_; rintro e w6 ⟨rfl, b6⟩
    have B6 := B5.trans (b6.mono B5.size)
    clear B5 b6 c6
    go_wp2_with fail
    refine (c7 _).mono ?_; rintro e w7 ⟨rfl, b7⟩
    have B7 := B6.trans (b7.mono B6.size)
    clear B6 b7 c7
    go_wp2_with fail
    refine (c8 _).mono ?_; rintro e w8 ⟨rfl, b8⟩
    have B8 := B7.trans (b8.mono B7.size)
    clear B7 b8 c8
    go_wp2
    go_ret
    exact ⟨rfl, B8⟩
  · have b := (((Below.refl v4.heap.size v4).drew).alloc (Nat.le_refl _) (.cells #[.int .u16 0, .int .u16 0, .int .u32 0, .int .u32 0, .int .u8 0, .int .u8 0, .int .u16 0, .int .u16 0, .int .u16 0, .string ⟨#[]⟩] 25)).trans (b5.mono (by simp))
    have B := B4.trans (b.mono B4.size)
    refine box10_ (b := v4.heap.size) (Box10.some ⟨f, f0, f1, f2, f3, f4, f5, f6, f7, f8, f9⟩) B B4.size fun v7 _ _ _ _ _ _ _ _ _ _ B5 _ _ => ?_
    clear B4 b b5 B f f0 f1 f2 f3 f4 f5 f6 f7 f8 f9 fz k1 k2
    go_wp2_with fail
    refine (c6 _).mono ?_; rintro e w6 ⟨rfl, b6⟩
    have B6 := B5.trans (b6.mono B5.size)
    clear B5 b6 c6
    go_wp2_with fail
    refine (c7 _).mono ?_; rintro e w7 ⟨rfl, b7⟩
    have B7 := B6.trans (b7.mono B6.size)
    clear B6 b7 c7
    go_wp2_with fail
    refine (c8 _).mono ?_; rintro e w8 ⟨rfl, b8⟩
    have B8 := B7.trans (b8.mono B7.size)
    clear B7 b8 c8
    go_wp2
    go_ret
    exact ⟨rfl, B8⟩
end Go.Proofs.Ytckcdmijhemchaa
