/- PortsOwn (layer 16): its arguments as they come in. -/
import Derived.Test.YtbbadpidolfleaaPortsOwn
import Derived.Test.YtbbadpidolfleaaPortsPlayW
namespace Go.Proofs.Ytbbadpidolfleaa
set_option linter.unusedVariables false
set_option linter.unusedSimpArgs false
open Go.ChangeShapes Go.WideShapes Go.ChangeAt Go.RowKit Go.PlainAid
namespace PortsOwn
theorem walk_ (K : PortsOk) (a : Option Addr) (len cap : Nat) (l : List A16) (z0 z1 z2 z3 z4 z5 z6 : Int) (w : World) (v : len ≤ maxLen) (hr : A16At w a len l) (w0 : (Lit.int .u8 z0).wf = true) (w1 : (Lit.int .u32 z1).wf = true) (w2 : (Lit.int .u16 z2).wf = true) (w3 : (Lit.int .u32 z3).wf = true) (w4 : (Lit.int .u16 z4).wf = true) (w5 : (Lit.int .u16 z5).wf = true) (w6 : (Lit.int .u16 z6).wf = true) :
    Calls Try.prog 6 #[.slice a len cap, .agg #[.int .u8 z0, .int .u32 z1, .int .u16 z2, .int .u32 z3, .int .u16 z4, .int .u16 z5, .int .u16 z6]] w fun e w' => e = .returned (.bool true) ∧ Below w.heap.size w w' := by
  have k0 := bounds_u8 w0
  have k1 := bounds_u32 w1
  have k2 := bounds_u16 w2
  have k3 := bounds_u32 w3
  have k4 := bounds_u16 w4
  have k5 := bounds_u16 w5
  have k6 := bounds_u16 w6
  refine run_ K ⟨z0, z1, z2, z3, z4, z5, z6⟩ ⟨?_, ?_, ?_, ?_, ?_, ?_, ?_, ?_, ?_, ?_, ?_, ?_, ?_, ?_⟩ a len cap (l.map A16.ac) w hr.acs <;> simp only [] <;> omega
end PortsOwn
end Go.Proofs.Ytbbadpidolfleaa
