/- What the laws of layer 13 ask of the slab; a box of two cells. -/
import Derived.Test.YtlnbjpabcldmnaaSlaP
import Derived.Test.YtlnbjpabcldmnaaBeside
namespace Go.Proofs.Ytlnbjpabcldmnaa
set_option linter.unusedVariables false
set_option linter.unusedSimpArgs false
open Go.ChangeShapes Go.WideShapes Go.ChangeAt Go.RowKit Go.PlainAid
/-- The slab behind a pointer: a class of worlds that speaks of one block alone. -/
structure SlabOk where
  Rep : World → Nat → Sl → Prop
  lt : ∀ {w p t}, Rep w p t → p < w.heap.size
  ok : ∀ {w p t}, Rep w p t → t.Ok
  keep : ∀ {w w' : World} {p t}, Rep w p t → w.heap.size ≤ w'.heap.size → w'.heap[p]? = w.heap[p]? → Rep w' p t
  newE : ∀ (n : Int) (w : World), -9223372036854775808 ≤ n → n ≤ 9223372036854775807 → (n < 1 ∨ 256 < n) → Calls Try.prog 8 #[.int .i64 n] w fun e w' => e = .returned (.tuple #[.pointer none, .int .i64 2]) ∧ Below w.heap.size w w'
  news : ∀ (n : Nat) (w : World), 1 ≤ n → n ≤ 256 → Calls Try.prog 8 #[.int .i64 (n : Int)] w fun e w' => ∃ q, e = .returned (.tuple #[.pointer (some ⟨q, 0, none⟩), .int .i64 0]) ∧ Below w.heap.size w w' ∧ w.heap.size ≤ q ∧ Rep w' q (slNew n)
  takes : ∀ (p : Nat) (t : Sl) (w : World), Rep w p t → Calls Try.prog 10 #[.pointer (some ⟨p, 0, none⟩)] w fun e w' => e = .returned (.tuple #[.agg #[.int .i64 (takeS t : Int), .int .u32 (takeG t : Int)], .int .i64 (takeE t : Int)]) ∧ Rep w' p (slTake t) ∧ Beside (fun k => k = p) w w'
  gives : ∀ (p : Nat) (t : Sl) (i : Int) (g : Nat) (w : World), Rep w p t → g < 4294967296 → Calls Try.prog 12 #[.pointer (some ⟨p, 0, none⟩), .agg #[.int .i64 i, .int .u32 (g : Int)]] w fun e w' => e = .returned (.int .i64 (endE t i g : Int)) ∧ Rep w' p (endT t i g 0) ∧ Beside (fun k => k = p) w w'
  retires : ∀ (p : Nat) (t : Sl) (i : Int) (g : Nat) (w : World), Rep w p t → g < 4294967296 → Calls Try.prog 14 #[.pointer (some ⟨p, 0, none⟩), .agg #[.int .i64 i, .int .u32 (g : Int)]] w fun e w' => e = .returned (.int .i64 (endE t i g : Int)) ∧ Rep w' p (endT t i g 2) ∧ Beside (fun k => k = p) w w'
  frees : ∀ (p : Nat) (t : Sl) (i : Int) (w : World), Rep w p t → Calls Try.prog 16 #[.pointer (some ⟨p, 0, none⟩), .int .i64 i] w fun e w' => e = .returned (.int .i64 (freeE t i : Int)) ∧ Rep w' p (freeT t i) ∧ Beside (fun k => k = p) w w'
  states : ∀ (p : Nat) (t : Sl) (i : Int) (w : World), Rep w p t → Calls Try.prog 20 #[.pointer (some ⟨p, 0, none⟩), .int .i64 i] w fun e w' => e = .returned (.int .i64 (stateV t i)) ∧ Below w.heap.size w w'
  lives : ∀ (p : Nat) (t : Sl) (i : Int) (g : Nat) (w : World), Rep w p t → g < 4294967296 → Calls Try.prog 22 #[.pointer (some ⟨p, 0, none⟩), .agg #[.int .i64 i, .int .u32 (g : Int)]] w fun e w' => e = .returned (.bool (liveV t i g)) ∧ Below w.heap.size w w'
  counts : ∀ (p : Nat) (t : Sl) (w : World), Rep w p t → Calls Try.prog 18 #[.pointer (some ⟨p, 0, none⟩)] w fun e w' => e = .returned (.tuple #[.int .i64 (cnt t 0 : Int), .int .i64 (cnt t 1 : Int), .int .i64 (cnt t 2 : Int)]) ∧ Below w.heap.size w w'
  sizes : ∀ (p : Nat) (t : Sl) (w : World), Rep w p t → Calls Try.prog 24 #[.pointer (some ⟨p, 0, none⟩)] w fun e w' => e = .returned (.int .i64 (t.length : Int)) ∧ Below w.heap.size w w'
theorem SlabOk.on (K : SlabOk) {w w' : World} {p : Nat} {t : Sl} (h : K.Rep w p t) (hb : Below w.heap.size w w') : K.Rep w' p t := K.keep h hb.size (hb.block p (K.lt h))
theorem SlabOk.by (K : SlabOk) {S : Nat → Prop} {w w' : World} {p : Nat} {t : Sl} (h : K.Rep w p t) (hb : Beside S w w') (hn : ¬ S p) : K.Rep w' p t := K.keep h hb.size (hb.block p (K.lt h) hn)
/-- A box of two cells of the call's own, that may be written. -/
structure Two (w : World) (b : Nat) (x y : Value) : Prop where
  lt : b < w.heap.size
  c0 : w.cell? ⟨b, 0, none⟩ = some x
  c1 : w.cell? ⟨b, 1, none⟩ = some y
theorem Two.make (w : World) (x y : Value) (T : TypeId) : Two (w.alloc (.cells #[x, y] T)) w.heap.size x y := ⟨by simp, by simp [go_sem], by simp [go_sem]⟩
theorem Two.on {w w' : World} {b : Nat} {x y : Value} (h : Two w b x y) (hb : Below w.heap.size w w') : Two w' b x y :=
  ⟨Nat.lt_of_lt_of_le h.lt hb.size, (hb.cell (p := ⟨b, 0, none⟩) h.lt).trans h.c0, (hb.cell (p := ⟨b, 1, none⟩) h.lt).trans h.c1⟩
theorem Two.by {S : Nat → Prop} {w w' : World} {b : Nat} {x y : Value} (h : Two w b x y) (hb : Beside S w w') (hn : ¬ S b) : Two w' b x y :=
  ⟨Nat.lt_of_lt_of_le h.lt hb.size, (hb.cell (p := ⟨b, 0, none⟩) h.lt hn).trans h.c0, (hb.cell (p := ⟨b, 1, none⟩) h.lt hn).trans h.c1⟩
/-- The slab's own block is newer than all that lay when the law began. -/
theorem below_own {w a b : World} {p : Nat} (h : Below w.heap.size w a) (hp : w.heap.size ≤ p) (hb : Beside (fun k => k = p) a b) : Below w.heap.size w b :=
  hb.after h h.size (fun k _ e => by rw [show k = p from e]; exact hp)
end Go.Proofs.Ytlnbjpabcldmnaa
