/- PortsPlay (layer 16): its arguments as they come in. -/
import Derived.Test.YtbbadpidolfleaaPortsPlay
import Derived.Test.YtbbadpidolfleaaVm
namespace Go.Proofs.Ytbbadpidolfleaa
set_option linter.unusedVariables false
set_option linter.unusedSimpArgs false
open Go.ChangeShapes Go.WideShapes Go.ChangeAt Go.RowKit Go.PlainAid
def A16.ac (x : A16) : Ac := ⟨x.kd, x.pr, x.inn, x.out, x.sp, ⟨x.wpr, x.wii, x.wip, x.woi, x.wfr, x.wto, x.wdr⟩, x.fi, x.fp⟩
theorem A16.Ok.ac {x : A16} (h : x.Ok) : AOk x.ac := by
  obtain ⟨h1, h2, h3, h4, h5, h6, h7, h8, h9, h10, h11, h12, h13, h14⟩ := h
  have k1 := bounds_u8 h1
  have k2 := bounds_u8 h2
  have k3 := bounds_u8 h3
  have k4 := bounds_u8 h4
  have k5 := bounds_u8 h5
  have k6 := bounds_u8 h6
  have k7 := bounds_u32 h7
  have k8 := bounds_u16 h8
  have k9 := bounds_u32 h9
  have k10 := bounds_u16 h10
  have k11 := bounds_u16 h11
  have k12 := bounds_u16 h12
  have k13 := bounds_u32 h13
  have k14 := bounds_u16 h14
  refine ⟨?_, ?_, ?_, ?_, ?_, ⟨?_, ?_, ?_, ?_, ?_, ?_, ?_, ?_, ?_, ?_, ?_, ?_, ?_, ?_⟩, ?_, ?_⟩ <;> simp only [A16.ac] <;> omega
theorem A16At.acs {w : World} {a : Option Addr} {len : Nat} {l : List A16} (h : A16At w a len l) : AcsAt w a len (l.map A16.ac) := by
  refine ⟨by rw [List.length_map]; exact h.cnt, fun x hx => ?_, h.cells.imp id fun ⟨b, off, e, hb, hc⟩ => ⟨b, off, e, hb, fun i hi => ?_⟩⟩
  · obtain ⟨y, hy, rfl⟩ := List.mem_map.1 hx
    exact (h.ok y hy).ac
  · have e : (l.map A16.ac).getD i Ac.zero = (l.getD i A16.zero).ac := by
      rw [List.getD_eq_getElem?_getD, List.getD_eq_getElem?_getD, List.getElem?_map]
      cases l[i]? <;> rfl
    rw [e]
    obtain ⟨c0, c1, c2, c3, c4, c5, c6, c7, c8, c9, c10, c11, c12, c13⟩ := hc i hi
    exact ⟨hb, c0, c1, c2, c3, c4, c5, c6, c7, c8, c9, c10, c11, c12, c13⟩
namespace PortsPlay
theorem walk_ (K : PortsOk) (a : Option Addr) (len cap : Nat) (l : List A16) (w : World) (v : len ≤ maxLen) (hr : A16At w a len l) :
    Calls Try.prog 3 #[.slice a len cap] w fun e w' => e = .returned (.bool true) ∧ Below w.heap.size w w' :=
  run_ K a len cap (l.map A16.ac) w hr.acs
end PortsPlay
end Go.Proofs.Ytbbadpidolfleaa
