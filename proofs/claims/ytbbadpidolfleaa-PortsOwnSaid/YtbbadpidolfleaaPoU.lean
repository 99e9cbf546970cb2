/- Layer 16: what Do has in memory. Written by gen_pdo.py. -/
import Derived.Test.YtbbadpidolfleaaVg
import Derived.Test.YtbbadpidolfleaaVh
import Derived.Test.YtbbadpidolfleaaVa
import Derived.Test.YtbbadpidolfleaaPoS
namespace Go.Proofs.Ytbbadpidolfleaa
set_option linter.unusedVariables false
set_option maxRecDepth 100000
set_option linter.unusedSimpArgs false
open Go.ChangeShapes Go.WideShapes Go.ChangeAt Go.RowKit Go.PlainAid
structure DoS (K : PortsOk) (w0 w : World) (S T : Nat → Prop) (p q : Nat) (X Y : Po) (a b : Nat) (x : Ac) (v : Wi) : Prop where
  pr : Pair K.toObjP poR w0 w S T p q X Y
  ac : AcB w a x
  wi : WiB w b v
  sa : ¬ S a
  ta : ¬ T a
  sb : ¬ S b
  tb : ¬ T b
section
variable {K : PortsOk} {w0 w w' : World} {S T S' T' : Nat → Prop} {p q a b : Nat} {X Y X' Y' : Po} {x : Ac} {v : Wi}
theorem DoS.on (h : DoS K w0 w S T p q X Y a b x v) (hb : Below w.heap.size w w') : DoS K w0 w' S T p q X Y a b x v := ⟨h.pr.on hb, h.ac.on hb, h.wi.on hb, h.sa, h.ta, h.sb, h.tb⟩
theorem DoS.one (h : DoS K w0 w S T p q X Y a b x v) (hr : K.toObjP.Rep w' S' p X') (hf : Fresh w S S') (hb : Beside S w w') : DoS K w0 w' S' T p q X' Y a b x v :=
  ⟨h.pr.one hr hf hb, h.ac.keep hb.size (hb.block a h.ac.lt h.sa), h.wi.keep hb.size (hb.block b h.wi.lt h.sb), hf.not h.ac.lt h.sa, h.ta, hf.not h.wi.lt h.sb, h.tb⟩
theorem DoS.two (h : DoS K w0 w S T p q X Y a b x v) (hr : poR.Rep w' T' q Y') (hf : Fresh w T T') (hb : Beside T w w') : DoS K w0 w' S T' p q X Y' a b x v :=
  ⟨h.pr.two hr hf hb, h.ac.keep hb.size (hb.block a h.ac.lt h.ta), h.wi.keep hb.size (hb.block b h.wi.lt h.tb), h.sa, hf.not h.ac.lt h.ta, h.sb, hf.not h.wi.lt h.tb⟩
theorem DoS.put {v' : Wi} (h : DoS K w0 w S T p q X Y a b x v) (hv : WiB w' b v') (hb : Beside (fun k => k = b) w w') (hab : a ≠ b) (hw : w0.heap.size ≤ b) : DoS K w0 w' S T p q X Y a b x v' :=
  ⟨⟨K.toObjP.by h.pr.fst hb (fun k hk e => h.sb (e ▸ hk)), poR.by h.pr.snd hb (fun k hk e => h.tb (e ▸ hk)), h.pr.ap, h.pr.la, h.pr.lb, one_box h.pr.below hb hw h.pr.below.size⟩, h.ac.keep hb.size (hb.block a h.ac.lt hab), hv, h.sa, h.ta, h.sb, h.tb⟩
end
/-- A raw wish, as it is taken. -/
def Ac.big (x : Ac) : Wi := if 3000 < x.w.to - x.w.fr then ⟨x.w.pr, x.w.ii, x.w.ip, x.w.oi, x.w.fr, x.w.fr + 3000, x.w.dr⟩ else x.w
theorem AOk.big {x : Ac} (h : AOk x) : WOk x.big := by
  have hw := h.w
  unfold Ac.big
  split
  · obtain ⟨a1, a2, a3, a4, a5, a6, a7, a8, a9, a10, a11, a12, a13, a14⟩ := hw
    constructor <;> simp only [] <;> omega
  · exact hw
theorem big_yes {x : Ac} (h : AOk x) (hc : 3000 < x.w.to - x.w.fr) : x.big = ⟨x.w.pr, x.w.ii, x.w.ip, x.w.oi, x.w.fr, x.w.fr + 3000, x.w.dr⟩ ∧ IntKind.u16.wrap (x.w.fr + 3000) = x.w.fr + 3000 := by
  have h1 := h.w.fr0
  have h2 := h.w.to1
  refine ⟨by unfold Ac.big; rw [if_pos hc], by rw [IntKind.wrap_u16]; omega⟩
theorem big_wraps {x : Ac} (h : AOk x) : wrap64 x.w.to = x.w.to ∧ wrap64 x.w.fr = x.w.fr ∧ wrap64 (x.w.to - x.w.fr) = x.w.to - x.w.fr := by
  have h1 := h.w.fr0
  have h2 := h.w.to1
  have h3 := h.w.fr1
  have h4 := h.w.to0
  exact ⟨by rw [IntWalk.wrap64_in _ (by omega)], by rw [IntWalk.wrap64_in _ (by omega)], by rw [IntWalk.wrap64_in _ (by omega)]⟩
end Go.Proofs.Ytbbadpidolfleaa
