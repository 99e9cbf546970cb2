/- The walk of AddrsNest, of numbers that came in. -/
import Derived.Test.YtaaobacmlaaajaaAddrsNest
namespace Go.Proofs.Ytaaobacmlaaajaa.AddrsNest
open Go.ChangeShapes Go.WideShapes Go.ChangeAt Go.RowKit Go.PlainAid
theorem walk (a b x y : Int) (w : World) (ha : (Lit.int .u32 a).wf = true) (hb : (Lit.int .u32 b).wf = true) (hx : (Lit.int .u8 x).wf = true) (hy : (Lit.int .u8 y).wf = true) :
    Calls Try.prog 4 #[.int .u32 a, .int .u32 b, .agg #[.int .u8 x, .int .u8 y]] w fun e w' => e = .returned (.bool true) ∧ Below w.heap.size w w' := by
  obtain ⟨a0, a1⟩ := bounds_u32 ha
  obtain ⟨b0, b1⟩ := bounds_u32 hb
  obtain ⟨x0, x1⟩ := bounds_u8 hx
  obtain ⟨y0, y1⟩ := bounds_u8 hy
  obtain ⟨a, rfl⟩ := Int.eq_ofNat_of_zero_le a0
  obtain ⟨b, rfl⟩ := Int.eq_ofNat_of_zero_le b0
  obtain ⟨x, rfl⟩ := Int.eq_ofNat_of_zero_le x0
  obtain ⟨y, rfl⟩ := Int.eq_ofNat_of_zero_le y0
  exact walkN a b x y w (by omega) (by omega) (by omega) (by omega)
end Go.Proofs.Ytaaobacmlaaajaa.AddrsNest
