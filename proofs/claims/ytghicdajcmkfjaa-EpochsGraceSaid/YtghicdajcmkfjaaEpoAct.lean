/- Slices of porter/porterlaw14.Act that come in. Written by gen_acts.py. -/
import Derived.Test.YtghicdajcmkfjaaCells
namespace Go.Proofs.Ytghicdajcmkfjaa
set_option linter.unusedVariables false
set_option linter.unusedSimpArgs false
open Go.ChangeShapes Go.WideShapes Go.ChangeAt Go.RowKit
structure A14 where
  kd : Int
  wk : Int
  slot : Int
structure A14.Ok (x : A14) : Prop where
  kd : (Lit.int .u8 x.kd).wf = true
  wk : (Lit.int .i64 x.wk).wf = true
  slot : (Lit.int .i64 x.slot).wf = true
def A14.zero : A14 := ⟨0, 0, 0⟩
def A14C (w : World) (b o : Nat) (x : A14) : Prop := w.cell? ⟨b, o, none⟩ = some (.int .u8 x.kd) ∧ w.cell? ⟨b, o + 1, none⟩ = some (.int .i64 x.wk) ∧ w.cell? ⟨b, o + 2, none⟩ = some (.int .i64 x.slot)
theorem A14C.on {w w' : World} {b o : Nat} {x : A14} (h : A14C w b o x) (hb : b < w.heap.size) (k : Below w.heap.size w w') : A14C w' b o x := by
  obtain ⟨h0, h1, h2⟩ := h
  exact ⟨(k.cell (p := ⟨b, o, none⟩) hb).trans h0, (k.cell (p := ⟨b, o + 1, none⟩) hb).trans h1, (k.cell (p := ⟨b, o + 2, none⟩) hb).trans h2⟩
structure A14At (w : World) (a : Option Addr) (len : Nat) (l : List A14) : Prop where
  cnt : l.length = len
  ok : ∀ x ∈ l, x.Ok
  cells : len = 0 ∨ ∃ b off, a = some ⟨b, off, none⟩ ∧ b < w.heap.size ∧ ∀ i, i < len → A14C w b (off + i * 3) (l.getD i A14.zero)
theorem A14At.on {w w' : World} {a : Option Addr} {len : Nat} {l : List A14} (h : A14At w a len l) (k : Below w.heap.size w w') : A14At w' a len l :=
  ⟨h.cnt, h.ok, h.cells.imp id fun ⟨b, off, e, hb, hc⟩ => ⟨b, off, e, Nat.lt_of_lt_of_le hb k.size, fun i hi => (hc i hi).on hb k⟩⟩
theorem A14At.okAt {w : World} {a : Option Addr} {len : Nat} {l : List A14} (h : A14At w a len l) {i : Nat} (hi : i < len) : (l.getD i A14.zero).Ok := by
  refine h.ok _ ?_
  rw [List.getD_eq_getElem?_getD, List.getElem?_eq_getElem (by rw [h.cnt]; exact hi)]
  exact List.getElem_mem _
section
variable {H : Type} {enc : TypeId × Value → H} {w : World} {base : Nat} {spare : Nat → Bool} {held : Bool}
set_option maxRecDepth 100000 in
theorem A14_of {n : Nat} {zs : List Value} {y : DataW H × List MemPlace} (hl : zs.length = 3) (h : DataW.trod enc Try.prog w base spare held n 32 zs = some y) : ∃ x : A14, x.Ok ∧ zs = [.int .u8 x.kd, .int .i64 x.wk, .int .i64 x.slot] := by
  obtain ⟨c0, c1, c2, rfl⟩ : ∃ c0 c1 c2, zs = [c0, c1, c2] := by
    match zs, hl with
    | [c0, c1, c2], _ => exact ⟨c0, c1, c2, rfl⟩
  obtain ⟨_, _, t0⟩ := nest_at Try.underlying32 h 0 _ rfl [c0] (by kernel_rfl)
  obtain ⟨z0, e0, -, w0⟩ := DataW.trod_int Try.underlying5 t0
  obtain rfl : c0 = .int .u8 z0 := by simpa using e0
  obtain ⟨_, _, t1⟩ := nest_at Try.underlying32 h 1 _ rfl [c1] (by kernel_rfl)
  obtain ⟨z1, e1, -, w1⟩ := DataW.trod_int Try.underlying3 t1
  obtain rfl : c1 = .int .i64 z1 := by simpa using e1
  obtain ⟨_, _, t2⟩ := nest_at Try.underlying32 h 2 _ rfl [c2] (by kernel_rfl)
  obtain ⟨z2, e2, -, w2⟩ := DataW.trod_int Try.underlying3 t2
  obtain rfl : c2 = .int .i64 z2 := by simpa using e2
  exact ⟨⟨z0, z1, z2⟩, ⟨w0, w1, w2⟩, rfl⟩
theorem open_A14 {t : TypeId} {fuel : Nat} {a : Option Addr} {len cap : Nat} {x : DataW H × List MemPlace} (ht : Try.prog.underlying t = some (.slice 32))
    (h : DataW.trod enc Try.prog w base spare held fuel t [.slice a len cap] = some x) : len ≤ maxLen ∧ ∃ l, A14At w a len l := by
  rcases openCells ht (N := 3) (by kernel_rfl) (by omega) h with h0 | ⟨x, len', cap', h0, h1, h2, hr⟩
  · simp at h0
    obtain ⟨rfl, rfl, rfl⟩ := h0
    exact ⟨Nat.zero_le _, [], rfl, by simp, .inl rfl⟩
  · simp at h0
    obtain ⟨rfl, rfl, rfl⟩ := h0
    refine ⟨by omega, ?_⟩
    rcases hr with rfl | ⟨b, off, rfl, hb, n, hr⟩
    · exact ⟨[], rfl, by simp, .inl rfl⟩
    · obtain ⟨l, hl, hq⟩ := listOf A14.zero (fun i d => d.Ok ∧ A14C w b (off + i * 3) d) len (fun i hi => by
        obtain ⟨zs, y, l1, c1, t1⟩ := hr i hi
        obtain ⟨d, hd, rfl⟩ := A14_of l1 t1
        exact ⟨d, hd, c1 0 (by omega), c1 1 (by omega), c1 2 (by omega)⟩)
      refine ⟨l, hl, fun d hd => ?_, .inr ⟨b, off, rfl, hb, fun i hi => (hq i hi).2⟩⟩
      obtain ⟨i, hi, rfl⟩ := List.getElem_of_mem hd
      have := (hq i (by omega)).1
      rw [List.getD_eq_getElem?_getD, List.getElem?_eq_getElem hi] at this
      exact this
end
end Go.Proofs.Ytghicdajcmkfjaa
