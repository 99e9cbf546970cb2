/- The code's epochs (layer 14): all that the laws ask of it. Written by gen_epozr.py. -/
import Derived.Test.YtghicdajcmkfjaaEpoZR
import Derived.Test.YtghicdajcmkfjaaEpochsNone
namespace Go.Proofs.Ytghicdajcmkfjaa
set_option linter.unusedVariables false
set_option linter.unusedSimpArgs false
open Go.ChangeShapes Go.WideShapes Go.ChangeAt Go.RowKit Go.PlainAid
theorem says_of {P : Program} {f : FuncId} {args : Array Value} {w : World} {v : Value} (h : Calls P f args w fun e w' => e = .returned v ∧ w = w') : Says P f args w v := Calls.mono h fun _ _ ⟨he, hb⟩ => ⟨he, hb ▸ Below.refl _ _⟩
/-- The code's epochs keep what the laws ask of them. -/
def epochsOk : EpochsOk where
  toObjP := epC
  ok := fun ⟨_, _, h⟩ => h.ok
  newE n w _ _ h := says_of (new14E_ n w h)
  news n w h1 h2 := new14_ n w h1 h2
  nows p S x w H := says_of (now14_ S p x w H)
  enters p S x v w H _ := enter14_ S p x v w H
  leaves p S x v w H _ := leave14_ S p x v w H
  ins p S x v w H _ := says_of (in14_ S p x v w H)
  seens p S x v w H _ := says_of (seen14_ S p x v w H)
  advs p S x w H hb := advance14_ S p x w H hb
  defers p S x s w H _ := defer14_ S p x s w H
  ripes p S x w H hb := ripe14_ S p x w H hb
  waits p S x w H _ := says_of (waiting14_ S p x w H)
/-- So do those that are none. -/
def epNone : EpNone where
  No := NoC
  Z := #[.int .i64 0, .slice none 0 0, .slice none 0 0]
  nil w := .inl rfl
  zrun u := by kernel_rfl
  zero w := .inr ⟨_, rfl, by simp, by simp [go_sem]⟩
  on := NoC.on
  nows v w H := says_of (now14N_ v w H)
  enters v i w H := says_of (enter14N_ v i w H)
  leaves v i w H := says_of (leave14N_ v i w H)
  ins v i w H := says_of (in14N_ v i w H)
  seens v i w H := says_of (seen14N_ v i w H)
  advs v w H := says_of (advance14N_ v w H)
  defers v i w H := defer14N_ v i w H
  ripes v w H := Calls.mono (ripe14N_ v w H) fun _ _ ⟨he, hb⟩ => ⟨none, 0, he, hb ▸ Below.refl _ _⟩
  waits v w H := says_of (waiting14N_ v w H)
end Go.Proofs.Ytghicdajcmkfjaa
