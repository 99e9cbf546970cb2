/- What the laws of layer 15 ask of the code's wheels. -/
import Derived.Test.YtmephmjlajaopaaObj
import Derived.Test.YtmephmjlajaopaaWheP
import Derived.Test.YtmephmjlajaopaaRowE
import Derived.Test.YtmephmjlajaopaaFieldsE
namespace Go.Proofs.Ytmephmjlajaopaa
set_option linter.unusedVariables false
set_option linter.unusedSimpArgs false
open Go.ChangeShapes Go.WideShapes Go.ChangeAt Go.RowKit Go.PlainAid
/-- Handles: a slot and a generation. -/
def eltH : Elt (Int × Int) where
  enc x := [.int .i64 x.1, .int .u32 x.2]
  d := (0, 0)
  k := 2
  bytes := 16
  T := 34
  TS := 42
  pos := by decide
  len _ := rfl
  one x u hu := by
    simp only [List.mem_cons, List.not_mem_nil, or_false] at hu
    rcases hu with rfl | rfl <;> rfl
  und := Try.underlying42
  el := by kernel_rfl
  inf := by
    have h : (Try.prog.info? 34).map (fun i => (i.zero, i.size, i.bytes)) = some (some (.agg #[.int .i64 0, .int .u32 0]), 2, 16) := by kernel_rfl
    cases hq : Try.prog.info? 34 with
    | none => rw [hq] at h; simp at h
    | some i0 =>
      rw [hq] at h
      simp only [Option.map_some, Option.some.injEq, Prod.mk.injEq] at h
      exact ⟨i0, _, rfl, h.1, h.2.1, h.2.2, rfl⟩
  sz w := Try.sizeOf34 w
def Ti.h (t : Ti) : Int × Int := (t.s, t.g)
/-- What a handle's numbers may be. -/
structure HOk (s g : Int) : Prop where
  s0 : -9223372036854775808 ≤ s
  s1 : s ≤ 9223372036854775807
  g0 : 0 ≤ g
  g1 : g < 4294967296
structure WheelsOk extends ObjP Wh where
  ok : ∀ {w S p x}, Rep w S p x → x.Ok
  newE : ∀ (n : Int) (w : World), -9223372036854775808 ≤ n → n ≤ 9223372036854775807 → (n < 1 ∨ 64 < n) → Says Try.prog 9 #[.int .i64 n] w (.tuple #[.pointer none, .int .i64 2])
  news : ∀ (n : Nat) (w : World), 1 ≤ n → n ≤ 64 → Calls Try.prog 9 #[.int .i64 (n : Int)] w fun e w' => ∃ q S, e = .returned (.tuple #[.pointer (some ⟨q, 0, none⟩), .int .i64 0]) ∧ Below w.heap.size w w' ∧ (∀ k, S k → w.heap.size ≤ k) ∧ Rep w' S q Wh.new
  puts : ∀ (p S x) (s g n : Int) (w : World), Rep w S p x → x.l.length ≤ 1000 → HOk s g → Told Try.prog toObjP 17 #[.pointer (some ⟨p, 0, none⟩), .agg #[.int .i64 s, .int .u32 g], .int .i64 n] w S p (.int .i64 (x.putE s g n : Int)) (x.putT s g n)
  cuts : ∀ (p S x) (s g : Int) (w : World), Rep w S p x → x.l.length ≤ 1000 → HOk s g → Told Try.prog toObjP 12 #[.pointer (some ⟨p, 0, none⟩), .agg #[.int .i64 s, .int .u32 g]] w S p (.bool (x.has s g)) (x.cutT s g)
  dues : ∀ (p S x) (s g : Int) (w : World), Rep w S p x → x.l.length ≤ 1000 → HOk s g → Says Try.prog 19 #[.pointer (some ⟨p, 0, none⟩), .agg #[.int .i64 s, .int .u32 g]] w (.tuple #[.int .i64 (x.dueN s g : Int), .bool (x.has s g)])
  turns : ∀ (p S x) (n : Int) (w : World), Rep w S p x → x.l.length ≤ 1000 → Calls Try.prog 14 #[.pointer (some ⟨p, 0, none⟩), .int .i64 n] w fun e w' => ∃ (a : Option Addr) (c : Nat) (S' : Nat → Prop), e = .returned (.tuple #[.slice a (x.turnL n).length c, .int .i64 (x.turnE n : Int)]) ∧ Rep w' S' p (x.turnT n) ∧ Fresh w S S' ∧ Beside S w w' ∧ eltH.Sl w' a c ((x.turnL n).map Ti.h) ∧ ∀ b off, a = some ⟨b, off, none⟩ → ¬ S' b ∧ w.heap.size ≤ b ∧ b < w'.heap.size
  nexts : ∀ (p S x) (w : World), Rep w S p x → x.l.length ≤ 1000 → Says Try.prog 21 #[.pointer (some ⟨p, 0, none⟩)] w (.tuple #[.int .i64 (x.nextN : Int), .bool x.nextB])
  counts : ∀ (p S x) (w : World), Rep w S p x → x.l.length ≤ 1000 → Says Try.prog 23 #[.pointer (some ⟨p, 0, none⟩)] w (.int .i64 (x.l.length : Int))
end Go.Proofs.Ytmephmjlajaopaa
