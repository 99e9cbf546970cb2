/- SlabNone (layer 13), over what is asked of a slab that is none. -/
import Derived.Test.YtlnbjpabcldmnaaSlaL
import Derived.Test.YtlnbjpabcldmnaaFieldsE
namespace Go.Proofs.Ytlnbjpabcldmnaa.SlabNone
set_option linter.unusedVariables false
open Go.ChangeShapes Go.WideShapes Go.ChangeAt Go.RowKit Go.PlainAid
theorem walk_ (K : SlabOk) (N : NoneOk) (s g i : Int) (w : World) (hs : (Lit.int .i64 s).wf = true) (hg : (Lit.int .u32 g).wf = true) (hi : (Lit.int .i64 i).wf = true) :
    Calls Try.prog 4 #[.agg #[.int .i64 s, .int .u32 g], .int .i64 i] w fun e w' => e = .returned (.bool true) ∧ Below w.heap.size w w' := by
  obtain ⟨g0, g1⟩ := bounds_u32 hg
  obtain ⟨g, rfl⟩ := Int.eq_ofNat_of_zero_le g0
  exact walkN K N s i g w (by omega)
end Go.Proofs.Ytlnbjpabcldmnaa.SlabNone
