/- The chapter's examples: each call, and the contract of the function that asks them. -/
import Derived.Test.YtaaobacmlaaajaaDoorAddrsI
namespace Go.Proofs.YtaaobacmlaaajaaDoor
set_option linter.unusedVariables false
set_option linter.unusedSimpArgs false
open Go.ChangeShapes Go.WideShapes Go.ChangeAt Go.RowKit Go.PlainAid
namespace AddrsLaid
theorem lit_le (l : List UInt8) (h : decide (l.length ≤ 100) = true) : l.length ≤ maxLen := by
  have : l.length ≤ 100 := by simpa using h
  unfold maxLen; omega
theorem a_ (l : List UInt8) (a : Nat) (e : Int) (w : World) (h : decide (l.length ≤ 100) = true) (h1 : parseA l = a) (h2 : parseE l = e) :
    Calls Tryd.prog 21 #[.string (str l)] w fun r w' => r = .returned (.tuple #[.int .u32 (a : Int), .int .i64 e]) ∧ Below w.heap.size w w' := by
  have c := parse_ l w (lit_le l h)
  rw [h1, h2] at c
  exact c
theorem p_ (l : List UInt8) (a n : Nat) (e : Int) (w : World) (h : decide (l.length ≤ 100) = true) (h1 : prefR l = (a, n, e)) :
    Calls Tryd.prog 22 #[.string (str l)] w fun r w' => r = .returned (.tuple #[.agg #[.int .u32 (a : Int), .int .i64 (n : Int)], .int .i64 e]) ∧ Below w.heap.size w w' := by
  have c := prefix_ l w (lit_le l h)
  rw [h1] at c
  exact c
theorem x_ (l : List UInt8) (a n : Nat) (e : Int) (w : World) (h : decide (l.length ≤ 100) = true) (h1 : pointA l = a) (h2 : pointN l = n) (h3 : pointE l = e) :
    Calls Tryd.prog 20 #[.string (str l)] w fun r w' => r = .returned (.tuple #[.agg #[.int .u32 (a : Int), .int .u16 (n : Int)], .int .i64 e]) ∧ Below w.heap.size w w' := by
  have c := point_ l w (lit_le l h)
  rw [h1, h2, h3] at c
  exact c
theorem c1 (w : World) : Calls Tryd.prog 21 #[.string ⟨#[49, 46, 50, 46, 51, 46, 52]⟩] w fun r w' => r = .returned (.tuple #[.int .u32 16909060, .int .i64 0]) ∧ Below w.heap.size w w' :=
  a_ [49, 46, 50, 46, 51, 46, 52] 16909060 0 w (by decide) (by decide +kernel) (by decide +kernel)
theorem c2 (w : World) : Calls Tryd.prog 21 #[.string ⟨#[49, 46, 50, 46, 51]⟩] w fun r w' => r = .returned (.tuple #[.int .u32 0, .int .i64 3]) ∧ Below w.heap.size w w' :=
  a_ [49, 46, 50, 46, 51] 0 3 w (by decide) (by decide +kernel) (by decide +kernel)
theorem c3 (w : World) : Calls Tryd.prog 21 #[.string ⟨#[48, 49, 46, 50, 46, 51, 46, 52]⟩] w fun r w' => r = .returned (.tuple #[.int .u32 0, .int .i64 3]) ∧ Below w.heap.size w w' :=
  a_ [48, 49, 46, 50, 46, 51, 46, 52] 0 3 w (by decide) (by decide +kernel) (by decide +kernel)
theorem c4 (w : World) : Calls Tryd.prog 21 #[.string ⟨#[49, 46, 50, 46, 51, 46, 50, 53, 54]⟩] w fun r w' => r = .returned (.tuple #[.int .u32 0, .int .i64 3]) ∧ Below w.heap.size w w' :=
  a_ [49, 46, 50, 46, 51, 46, 50, 53, 54] 0 3 w (by decide) (by decide +kernel) (by decide +kernel)
theorem c5 (w : World) : Calls Tryd.prog 21 #[.string ⟨#[49, 46, 50, 46, 51, 46, 52, 46]⟩] w fun r w' => r = .returned (.tuple #[.int .u32 0, .int .i64 3]) ∧ Below w.heap.size w w' :=
  a_ [49, 46, 50, 46, 51, 46, 52, 46] 0 3 w (by decide) (by decide +kernel) (by decide +kernel)
theorem c6 (w : World) : Calls Tryd.prog 22 #[.string ⟨#[49, 48, 46, 48, 46, 48, 46, 48, 47, 56]⟩] w fun r w' => r = .returned (.tuple #[.agg #[.int .u32 167772160, .int .i64 8], .int .i64 0]) ∧ Below w.heap.size w w' :=
  p_ [49, 48, 46, 48, 46, 48, 46, 48, 47, 56] 167772160 8 0 w (by decide) (by decide +kernel)
theorem c7 (w : World) : Calls Tryd.prog 22 #[.string ⟨#[49, 48, 46, 48, 46, 48, 46, 49, 47, 56]⟩] w fun r w' => r = .returned (.tuple #[.agg #[.int .u32 0, .int .i64 0], .int .i64 2]) ∧ Below w.heap.size w w' :=
  p_ [49, 48, 46, 48, 46, 48, 46, 49, 47, 56] 0 0 2 w (by decide) (by decide +kernel)
theorem c8 (w : World) : Calls Tryd.prog 22 #[.string ⟨#[49, 48, 46, 48, 46, 48, 46, 48, 47, 51, 51]⟩] w fun r w' => r = .returned (.tuple #[.agg #[.int .u32 0, .int .i64 0], .int .i64 3]) ∧ Below w.heap.size w w' :=
  p_ [49, 48, 46, 48, 46, 48, 46, 48, 47, 51, 51] 0 0 3 w (by decide) (by decide +kernel)
theorem c9 (w : World) : Calls Tryd.prog 22 #[.string ⟨#[48, 46, 48, 46, 48, 46, 48, 47, 48]⟩] w fun r w' => r = .returned (.tuple #[.agg #[.int .u32 0, .int .i64 0], .int .i64 0]) ∧ Below w.heap.size w w' :=
  p_ [48, 46, 48, 46, 48, 46, 48, 47, 48] 0 0 0 w (by decide) (by decide +kernel)
theorem c10 (w : World) : Calls Tryd.prog 20 #[.string ⟨#[49, 46, 50, 46, 51, 46, 52, 58, 56, 48]⟩] w fun r w' => r = .returned (.tuple #[.agg #[.int .u32 16909060, .int .u16 80], .int .i64 0]) ∧ Below w.heap.size w w' :=
  x_ [49, 46, 50, 46, 51, 46, 52, 58, 56, 48] 16909060 80 0 w (by decide) (by decide +kernel) (by decide +kernel) (by decide +kernel)
theorem c11 (w : World) : Calls Tryd.prog 20 #[.string ⟨#[49, 46, 50, 46, 51, 46, 52, 58, 54, 53, 53, 51, 54]⟩] w fun r w' => r = .returned (.tuple #[.agg #[.int .u32 0, .int .u16 0], .int .i64 3]) ∧ Below w.heap.size w w' :=
  x_ [49, 46, 50, 46, 51, 46, 52, 58, 54, 53, 53, 51, 54] 0 0 3 w (by decide) (by decide +kernel) (by decide +kernel) (by decide +kernel)
theorem c12 (w : World) : Calls Tryd.prog 20 #[.string ⟨#[49, 46, 50, 46, 51, 46, 52, 58]⟩] w fun r w' => r = .returned (.tuple #[.agg #[.int .u32 0, .int .u16 0], .int .i64 3]) ∧ Below w.heap.size w w' :=
  x_ [49, 46, 50, 46, 51, 46, 52, 58] 0 0 3 w (by decide) (by decide +kernel) (by decide +kernel) (by decide +kernel)
theorem c13 (w : World) : Calls Tryd.prog 14 #[.agg #[.int .u32 167772160, .int .i64 8], .int .u32 184483841] w fun r w' => r = .returned (.bool true) ∧ Below w.heap.size w w' := by
  have h := has_ 167772160 8 184483841 w (by omega) (by omega) (by omega)
  rw [show hasV 167772160 8 184483841 = true by decide +kernel] at h
  exact h
theorem c14 (w : World) : Calls Tryd.prog 14 #[.agg #[.int .u32 167772160, .int .i64 8], .int .u32 184549376] w fun r w' => r = .returned (.bool false) ∧ Below w.heap.size w w' := by
  have h := has_ 167772160 8 184549376 w (by omega) (by omega) (by omega)
  rw [show hasV 167772160 8 184549376 = false by decide +kernel] at h
  exact h
theorem ix (z : Int) (s : ByteArray) (hz : (z = 0 ∧ s = ⟨#[49, 46, 50, 46, 51]⟩) ∨ (z = 1 ∧ s = ⟨#[48, 49, 46, 50, 46, 51, 46, 52]⟩) ∨ (z = 2 ∧ s = ⟨#[49, 46, 50, 46, 51, 46, 50, 53, 54]⟩) ∨ (z = 3 ∧ s = ⟨#[49, 46, 50, 46, 51, 46, 52, 46]⟩)) (w : World) :
    (Instr.index 55 (.agg #[.string ⟨#[49, 46, 50, 46, 51]⟩, .string ⟨#[48, 49, 46, 50, 46, 51, 46, 52]⟩, .string ⟨#[49, 46, 50, 46, 51, 46, 50, 53, 54]⟩, .string ⟨#[49, 46, 50, 46, 51, 46, 52, 46]⟩]) (.int .i64 z)).run Tryd.prog w = .ok (.string s) w := by
  rcases hz with ⟨rfl, rfl⟩ | ⟨rfl, rfl⟩ | ⟨rfl, rfl⟩ | ⟨rfl, rfl⟩ <;> simp [Instr.index, run_underlying Tryd.underlying55, asIntOf, go_sem]
end AddrsLaid
/-- What a call has made ahead of a call: it stands behind it. -/
theorem kept_ {W w1 : World} {a : Addr} {v : Value} (hb : Below W.heap.size W w1) (h : W.cell? a = some v) (ha : a.block < W.heap.size) : w1.cell? a = some v := (hb.cell ha).trans h
theorem kept2_ {W w1 : World} {o : Obj} {a : Addr} {v : Value} (hb : Below (W.alloc o).heap.size (W.alloc o) w1) (h : W.cell? a = some v) (ha : a.block < W.heap.size) : w1.cell? a = some v :=
  kept_ (((Below.refl _ W).alloc (Nat.le_refl _) o).trans (hb.mono (by simp))) h ha
theorem step_ {w W w1 : World} {o : Obj} (B : Below w.heap.size w W) (b : Below (W.alloc o).heap.size (W.alloc o) w1) : Below w.heap.size w w1 ∧ W.heap.size < w1.heap.size := by
  have h1 := B.size
  have h2 := b.size
  simp at h2
  exact ⟨(B.alloc h1 _).trans (b.mono (by simp; omega)), by omega⟩
set_option maxHeartbeats 4000000 in
set_option maxRecDepth 100000 in
theorem named_ (w : World) :
    Calls Tryd.prog 18 #[] w fun e w' => e = .returned (.bool true) ∧ Below w.heap.size w w' := by
  go_enter Tryd.func18, Tryd.ntmps18
  go_wp2_with fail
  refine (AddrsLaid.c1 _).mono ?_; rintro e w1 ⟨rfl, b1⟩
  go_wp2_with fail
  go_loopw [3, 27] (fun v si wr => ∃ z : Int, 0 ≤ z ∧ z ≤ 4 ∧ si = .int .i64 z ∧ v = .int .i64 z ∧ Below w.heap.size w wr) (fun _ si _ => 4 - (intOf si).toNat)
  case atStart => exact ⟨0, by omega, by omega, rfl, rfl, b1⟩
  case round =>
    obtain ⟨z, hz0, hz4, rfl, rfl, B⟩ := hrel
    clear b1
    rcases (show z = 0 ∨ z = 1 ∨ z = 2 ∨ z = 3 ∨ z = 4 by omega) with h | h | h | h | h <;> subst h <;> clear hz0 hz4
    · have hix := AddrsLaid.ix 0 ⟨#[49, 46, 50, 46, 51]⟩ (by simp)
      go_wp2_with fail
      refine (AddrsLaid.c2 _).mono ?_; rintro e w2 ⟨rfl, b2⟩
      go_wp2
      go_roundw
      case rel => exact ⟨1, by omega, by omega, rfl, rfl, B.trans (b2.mono B.size)⟩
      case measure => simp [intOf]
    · have hix := AddrsLaid.ix 1 ⟨#[48, 49, 46, 50, 46, 51, 46, 52]⟩ (by simp)
      go_wp2_with fail
      refine (AddrsLaid.c3 _).mono ?_; rintro e w2 ⟨rfl, b2⟩
      go_wp2
      go_roundw
      case rel => exact ⟨2, by omega, by omega, rfl, rfl, B.trans (b2.mono B.size)⟩
      case measure => simp [intOf]
    · have hix := AddrsLaid.ix 2 ⟨#[49, 46, 50, 46, 51, 46, 50, 53, 54]⟩ (by simp)
      go_wp2_with fail
      refine (AddrsLaid.c4 _).mono ?_; rintro e w2 ⟨rfl, b2⟩
      go_wp2
      go_roundw
      case rel => exact ⟨3, by omega, by omega, rfl, rfl, B.trans (b2.mono B.size)⟩
      case measure => simp [intOf]
    · have hix := AddrsLaid.ix 3 ⟨#[49, 46, 50, 46, 51, 46, 52, 46]⟩ (by simp)
      go_wp2_with fail
      refine (AddrsLaid.c5 _).mono ?_; rintro e w2 ⟨rfl, b2⟩
      go_wp2
      go_roundw
      case rel => exact ⟨4, by omega, by omega, rfl, rfl, B.trans (b2.mono B.size)⟩
      case measure => simp [intOf]
    · go_wp2_with fail
      refine (AddrsLaid.c6 _).mono ?_; rintro e w2 ⟨rfl, b2⟩
      have B2 := B.trans (b2.mono B.size)
      clear B b2
      go_wp2_with fail
      refine (AddrsLaid.c7 _).mono ?_; rintro e w3 ⟨rfl, b3⟩
      have p0 : w3.cell? ⟨w2.heap.size, 0, none⟩ = some (.int .u32 167772160) := kept_ b3 (by simp [go_sem]) (by simp)
      have p1 : w3.cell? ⟨w2.heap.size, 1, none⟩ = some (.int .i64 8) := kept_ b3 (by simp [go_sem]) (by simp)
      obtain ⟨B3, s3⟩ := step_ B2 b3
      clear B2 b3
      go_wp2_with fail
      refine (AddrsLaid.c8 _).mono ?_; rintro e w4 ⟨rfl, b4⟩
      have p0 := kept2_ b4 p0 s3
      have p1 := kept2_ b4 p1 s3
      obtain ⟨B4, s4⟩ := step_ B3 b4
      have s3 := Nat.lt_trans s3 s4
      clear B3 b4
      go_wp2_with fail
      refine (AddrsLaid.c9 _).mono ?_; rintro e w5 ⟨rfl, b5⟩
      have p0 := kept2_ b5 p0 s3
      have p1 := kept2_ b5 p1 s3
      obtain ⟨B5, s5⟩ := step_ B4 b5
      have s3 := Nat.lt_trans s3 s5
      clear B4 b5 s4
      go_wp2_with fail
      refine (AddrsLaid.c10 _).mono ?_; rintro e w6 ⟨rfl, b6⟩
      have q0 : w6.cell? ⟨w5.heap.size, 0, none⟩ = some (.int .u32 0) := kept_ b6 (by simp [go_sem]) (by simp)
      have q1 : w6.cell? ⟨w5.heap.size, 1, none⟩ = some (.int .i64 0) := kept_ b6 (by simp [go_sem]) (by simp)
      have p0 := kept2_ b6 p0 s3
      have p1 := kept2_ b6 p1 s3
      obtain ⟨B6, s6⟩ := step_ B5 b6
      have s3 := Nat.lt_trans s3 s6
      clear B5 b6 s5
      go_wp2_with fail
      refine (AddrsLaid.c11 _).mono ?_; rintro e w7 ⟨rfl, b7⟩
      have x0 : w7.cell? ⟨w6.heap.size, 0, none⟩ = some (.int .u32 16909060) := kept_ b7 (by simp [go_sem]) (by simp)
      have x1 : w7.cell? ⟨w6.heap.size, 1, none⟩ = some (.int .u16 80) := kept_ b7 (by simp [go_sem]) (by simp)
      have p0 := kept2_ b7 p0 s3
      have p1 := kept2_ b7 p1 s3
      have q0 := kept2_ b7 q0 s6
      have q1 := kept2_ b7 q1 s6
      obtain ⟨B7, s7⟩ := step_ B6 b7
      have s3 := Nat.lt_trans s3 s7
      have s6 := Nat.lt_trans s6 s7
      clear B6 b7
      go_wp2_with fail
      refine (AddrsLaid.c12 _).mono ?_; rintro e w8 ⟨rfl, b8⟩
      have p0 := kept2_ b8 p0 s3
      have p1 := kept2_ b8 p1 s3
      have q0 := kept2_ b8 q0 s6
      have q1 := kept2_ b8 q1 s6
      have x0 := kept2_ b8 x0 s7
      have x1 := kept2_ b8 x1 s7
      obtain ⟨B8, s8⟩ := step_ B7 b8
      have s3 := Nat.lt_trans s3 s8
      have s6 := Nat.lt_trans s6 s8
      have s7 := Nat.lt_trans s7 s8
      clear B7 b8
      go_wp2_with fail
      refine (AddrsLaid.c13 _).mono ?_; rintro e w9 ⟨rfl, b9⟩
      have p0 := kept2_ b9 p0 s3
      have p1 := kept2_ b9 p1 s3
      obtain ⟨B9, s9⟩ := step_ B8 b9
      clear B8 b9 q0 q1 x0 x1
      go_wp2_with fail
      refine (AddrsLaid.c14 _).mono ?_; rintro e w10 ⟨rfl, b10⟩
      have B10 := B9.trans (b10.mono B9.size)
      clear B9 b10
      go_wp2
      go_ret
      exact ⟨rfl, B10⟩
end Go.Proofs.YtaaobacmlaaajaaDoor
