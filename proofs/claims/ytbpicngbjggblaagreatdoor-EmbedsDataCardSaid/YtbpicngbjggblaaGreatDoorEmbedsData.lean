/- The walk of EmbedsData. -/
import Derived.Test.YtbpicngbjggblaaGreatDoorEmbV
import Derived.Test.YtbpicngbjggblaaGreatDoorHb
namespace Go.Proofs.YtbpicngbjggblaaGreatDoor.EmbedsData
set_option linter.unusedVariables false
open Go.ChangeShapes Go.WideShapes Go.ChangeAt Go.RowKit Go.PlainAid
theorem walk_ (K : EmOk) (f g h : Int) (D : ByteArray) (a m b n c k d l : Int) (w : World) (ht : Tab w) (hf : (Lit.int .u8 f).wf = true) (hg : (Lit.int .u8 g).wf = true) (hh : (Lit.int .u16 h).wf = true) (hD : D.size ≤ maxLen) (ha : (Lit.int .u32 a).wf = true) (hm : (Lit.int .u16 m).wf = true) (hb : (Lit.int .u32 b).wf = true) (hn : (Lit.int .u16 n).wf = true) (hc : (Lit.int .u32 c).wf = true) (hk : (Lit.int .u16 k).wf = true) (hd : (Lit.int .u32 d).wf = true) (hl : (Lit.int .u16 l).wf = true) :
    Calls Tryz.prog 4 #[.agg #[.int .u8 f, .int .u8 g, .int .u16 h, .string D], .agg #[.int .u32 a, .int .u16 m, .int .u32 b, .int .u16 n, .int .u32 c, .int .u16 k, .int .u32 d, .int .u16 l]] w fun e w' => e = .returned (.bool true) ∧ Below w.heap.size w w' :=
  data10w_ K (fun u hu => told10_ K u hu) f g h D a m b n c k d l w ht (bounds_u8 hf).1 (bounds_u8 hf).2 (bounds_u8 hg).1 (bounds_u8 hg).2 (bounds_u16 hh).1 (bounds_u16 hh).2 ⟨(bounds_u32 ha).1, (bounds_u32 ha).2, (bounds_u16 hm).1, (bounds_u16 hm).2, (bounds_u32 hb).1, (bounds_u32 hb).2, (bounds_u16 hn).1, (bounds_u16 hn).2⟩ ⟨(bounds_u32 hc).1, (bounds_u32 hc).2, (bounds_u16 hk).1, (bounds_u16 hk).2, (bounds_u32 hd).1, (bounds_u32 hd).2, (bounds_u16 hl).1, (bounds_u16 hl).2⟩
end Go.Proofs.YtbpicngbjggblaaGreatDoor.EmbedsData
