/- What the laws of layer 14 ask of the code's epochs. -/
import Derived.Test.YtghicdajcmkfjaaObj
import Derived.Test.YtghicdajcmkfjaaEpoP
import Derived.Test.YtghicdajcmkfjaaFieldsE
namespace Go.Proofs.Ytghicdajcmkfjaa
set_option linter.unusedVariables false
set_option linter.unusedSimpArgs false
open Go.ChangeShapes Go.WideShapes Go.ChangeAt Go.RowKit Go.PlainAid
structure EpochsOk extends ObjP Ep where
  ok : ∀ {w S p x}, Rep w S p x → x.Ok
  newE : ∀ (n : Int) (w : World), -9223372036854775808 ≤ n → n ≤ 9223372036854775807 → (n < 1 ∨ 64 < n) → Says Try.prog 8 #[.int .i64 n] w (.tuple #[.pointer none, .int .i64 2])
  news : ∀ (n : Nat) (w : World), 1 ≤ n → n ≤ 64 → Calls Try.prog 8 #[.int .i64 (n : Int)] w fun e w' => ∃ q S, e = .returned (.tuple #[.pointer (some ⟨q, 0, none⟩), .int .i64 0]) ∧ Below w.heap.size w w' ∧ (∀ k, S k → w.heap.size ≤ k) ∧ Rep w' S q (Ep.new n)
  nows : ∀ (p S x) (w : World), Rep w S p x → Says Try.prog 22 #[.pointer (some ⟨p, 0, none⟩)] w (.int .i64 (x.now : Int))
  enters : ∀ (p S x) (v : Int) (w : World), Rep w S p x → x.now < 4611686018427387904 → Told Try.prog toObjP 11 #[.pointer (some ⟨p, 0, none⟩), .int .i64 v] w S p (.int .i64 (x.setE v : Int)) (x.setT v x.now)
  leaves : ∀ (p S x) (v : Int) (w : World), Rep w S p x → x.now < 4611686018427387904 → Told Try.prog toObjP 13 #[.pointer (some ⟨p, 0, none⟩), .int .i64 v] w S p (.int .i64 (x.setE v : Int)) (x.setT v (-1))
  ins : ∀ (p S x) (v : Int) (w : World), Rep w S p x → x.now < 4611686018427387904 → Says Try.prog 24 #[.pointer (some ⟨p, 0, none⟩), .int .i64 v] w (.bool (x.inV v))
  seens : ∀ (p S x) (v : Int) (w : World), Rep w S p x → x.now < 4611686018427387904 → Says Try.prog 26 #[.pointer (some ⟨p, 0, none⟩), .int .i64 v] w (.int .i64 (x.seen v))
  advs : ∀ (p S x) (w : World), Rep w S p x → x.now < 4611686018427387904 → Told Try.prog toObjP 15 #[.pointer (some ⟨p, 0, none⟩)] w S p (.bool (!x.held)) x.advT
  defers : ∀ (p S x) (s : Int) (w : World), Rep w S p x → x.now < 4611686018427387904 → Told Try.prog toObjP 20 #[.pointer (some ⟨p, 0, none⟩), .int .i64 s] w S p (.int .i64 (x.defE s : Int)) (x.defT s)
  ripes : ∀ (p S x) (w : World), Rep w S p x → x.now < 4611686018427387904 → Calls Try.prog 18 #[.pointer (some ⟨p, 0, none⟩)] w fun e w' => ∃ (a : Option Addr) (len cap : Nat) (S' : Nat → Prop), e = .returned (.slice a len cap) ∧ Rep w' S' p x.ripeT ∧ Fresh w S S' ∧ Beside S w w' ∧ Row .i64 w' a len (x.ripe.map fun (k : Nat) => (k : Int)) ∧ ∀ b, a = some b → ¬ S' b.block ∧ w.heap.size ≤ b.block
  waits : ∀ (p S x) (w : World), Rep w S p x → x.now < 4611686018427387904 → Says Try.prog 28 #[.pointer (some ⟨p, 0, none⟩)] w (.int .i64 (x.l.length : Int))
end Go.Proofs.Ytghicdajcmkfjaa
