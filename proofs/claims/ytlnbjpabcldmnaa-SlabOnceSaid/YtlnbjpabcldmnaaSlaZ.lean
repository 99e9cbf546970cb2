/- What the laws of layer 13 ask of the slab, shown of the code's. -/
import Derived.Test.YtlnbjpabcldmnaaSlaZE
import Derived.Test.YtlnbjpabcldmnaaSlaL
namespace Go.Proofs.Ytlnbjpabcldmnaa
set_option linter.unusedVariables false
set_option linter.unusedSimpArgs false
open Go.ChangeShapes Go.WideShapes Go.ChangeAt Go.RowKit Go.PlainAid
theorem refl_of {w w' : World} (h : w = w') : Below w.heap.size w w' := h ▸ Below.refl _ _
noncomputable def slabOk : SlabOk where
  Rep := SlC
  lt := fun h => h.bl
  ok := fun h => h.ok
  keep := fun h hs hb => h.keep hs hb
  newE := fun n w _ _ h => newE13_ n w h
  news := fun n w h1 h2 => new13_ n w h1 h2
  takes := fun p t w h => take13_ p t w h
  gives := fun p t i g w h hg => give13_ p t i g w h hg
  retires := fun p t i g w h hg => retire13_ p t i g w h hg
  frees := fun p t i w h => free13_ p t i w h
  states := fun p t i w h => (state13_ p t i w h).mono fun _ _ ⟨h1, h2⟩ => ⟨h1, refl_of h2⟩
  lives := fun p t i g w h _ => live13_ p t i g w h
  counts := fun p t w h => count13_ p t w h
  sizes := fun p t w h => (size13_ p t w h).mono fun _ _ ⟨h1, h2⟩ => ⟨h1, refl_of h2⟩
noncomputable def noneOk : NoneOk where
  No := NoC
  Z := slab0
  nil := fun w => .inl rfl
  zrun := zero_slab
  zero := fun w => .inr ⟨w.heap.size, rfl, by simp, by
    have k := World.cell?_alloc_mark w slab0 51 (0, 0) 0
    rw [slab0_at 0 (by omega), if_pos (.inl rfl)] at k
    exact k⟩
  on := fun h hb => h.on hb
  takes := fun v w h => takeN13_ v w h
  counts := fun v w h => countN13_ v w h
  lives := fun v i g w h _ => liveN13_ v i g w h
  gives := fun v i g w h _ => giveN13_ v i g w h
  retires := fun v i g w h _ => retireN13_ v i g w h
  frees := fun v i w h => (freeN13_ v i w h).mono fun _ _ ⟨h1, h2⟩ => ⟨h1, refl_of h2⟩
  states := fun v i w h => (stateN13_ v i w h).mono fun _ _ ⟨h1, h2⟩ => ⟨h1, refl_of h2⟩
  sizes := fun v w h => (sizeN13_ v w h).mono fun _ _ ⟨h1, h2⟩ => ⟨h1, refl_of h2⟩
end Go.Proofs.Ytlnbjpabcldmnaa
