/- Slices of porter/porterlaw13.Act that come in. Written by gen_acts.py. -/
import Derived.Test.YtlnbjpabcldmnaaCells
namespace Go.Proofs.Ytlnbjpabcldmnaa
set_option linter.unusedVariables false
set_option linter.unusedSimpArgs false
open Go.ChangeShapes Go.WideShapes Go.ChangeAt Go.RowKit
structure A13 where
  kd : Int
  at_ : Int
  s : Int
  g : Int
  raw : Int
structure A13.Ok (x : A13) : Prop where
  kd : (Lit.int .u8 x.kd).wf = true
  at_ : (Lit.int .u8 x.at_).wf = true
  s : (Lit.int .i64 x.s).wf = true
  g : (Lit.int .u32 x.g).wf = true
  raw : (Lit.int .i64 x.raw).wf = true
def A13.zero : A13 := ⟨0, 0, 0, 0, 0⟩
def A13C (w : World) (b o : Nat) (x : A13) : Prop := w.cell? ⟨b, o, none⟩ = some (.int .u8 x.kd) ∧ w.cell? ⟨b, o + 1, none⟩ = some (.int .u8 x.at_) ∧ w.cell? ⟨b, o + 2, none⟩ = some (.int .i64 x.s) ∧ w.cell? ⟨b, o + 3, none⟩ = some (.int .u32 x.g) ∧ w.cell? ⟨b, o + 4, none⟩ = some (.int .i64 x.raw)
theorem A13C.on {w w' : World} {b o : Nat} {x : A13} (h : A13C w b o x) (hb : b < w.heap.size) (k : Below w.heap.size w w') : A13C w' b o x := by
  obtain ⟨h0, h1, h2, h3, h4⟩ := h
  exact ⟨(k.cell (p := ⟨b, o, none⟩) hb).trans h0, (k.cell (p := ⟨b, o + 1, none⟩) hb).trans h1, (k.cell (p := ⟨b, o + 2, none⟩) hb).trans h2, (k.cell (p := ⟨b, o + 3, none⟩) hb).trans h3, (k.cell (p := ⟨b, o + 4, none⟩) hb).trans h4⟩
structure A13At (w : World) (a : Option Addr) (len : Nat) (l : List A13) : Prop where
  cnt : l.length = len
  ok : ∀ x ∈ l, x.Ok
  cells : len = 0 ∨ ∃ b off, a = some ⟨b, off, none⟩ ∧ b < w.heap.size ∧ ∀ i, i < len → A13C w b (off + i * 5) (l.getD i A13.zero)
theorem A13At.on {w w' : World} {a : Option Addr} {len : Nat} {l : List A13} (h : A13At w a len l) (k : Below w.heap.size w w') : A13At w' a len l :=
  ⟨h.cnt, h.ok, h.cells.imp id fun ⟨b, off, e, hb, hc⟩ => ⟨b, off, e, Nat.lt_of_lt_of_le hb k.size, fun i hi => (hc i hi).on hb k⟩⟩
theorem A13At.okAt {w : World} {a : Option Addr} {len : Nat} {l : List A13} (h : A13At w a len l) {i : Nat} (hi : i < len) : (l.getD i A13.zero).Ok := by
  refine h.ok _ ?_
  rw [List.getD_eq_getElem?_getD, List.getElem?_eq_getElem (by rw [h.cnt]; exact hi)]
  exact List.getElem_mem _
section
variable {H : Type} {enc : TypeId × Value → H} {w : World} {base : Nat} {spare : Nat → Bool} {held : Bool}
set_option maxRecDepth 100000 in
theorem A13_of {n : Nat} {zs : List Value} {y : DataW H × List MemPlace} (hl : zs.length = 5) (h : DataW.trod enc Try.prog w base spare held n 36 zs = some y) : ∃ x : A13, x.Ok ∧ zs = [.int .u8 x.kd, .int .u8 x.at_, .int .i64 x.s, .int .u32 x.g, .int .i64 x.raw] := by
  obtain ⟨c0, c1, c2, c3, c4, rfl⟩ : ∃ c0 c1 c2 c3 c4, zs = [c0, c1, c2, c3, c4] := by
    match zs, hl with
    | [c0, c1, c2, c3, c4], _ => exact ⟨c0, c1, c2, c3, c4, rfl⟩
  obtain ⟨_, _, t0⟩ := nest_at Try.underlying36 h 0 _ rfl [c0] (by kernel_rfl)
  obtain ⟨z0, e0, -, w0⟩ := DataW.trod_int Try.underlying5 t0
  obtain rfl : c0 = .int .u8 z0 := by simpa using e0
  obtain ⟨_, _, t1⟩ := nest_at Try.underlying36 h 1 _ rfl [c1] (by kernel_rfl)
  obtain ⟨z1, e1, -, w1⟩ := DataW.trod_int Try.underlying5 t1
  obtain rfl : c1 = .int .u8 z1 := by simpa using e1
  obtain ⟨_, _, s2⟩ := nest_at Try.underlying36 h 2 _ rfl [c2, c3] (by kernel_rfl)
  obtain ⟨_, _, t2⟩ := nest_at Try.underlying34 s2 0 _ rfl [c2] (by kernel_rfl)
  obtain ⟨z2, e2, -, w2⟩ := DataW.trod_int Try.underlying3 t2
  obtain rfl : c2 = .int .i64 z2 := by simpa using e2
  obtain ⟨_, _, t3⟩ := nest_at Try.underlying34 s2 1 _ rfl [c3] (by kernel_rfl)
  obtain ⟨z3, e3, -, w3⟩ := DataW.trod_int Try.underlying32 t3
  obtain rfl : c3 = .int .u32 z3 := by simpa using e3
  obtain ⟨_, _, t4⟩ := nest_at Try.underlying36 h 3 _ rfl [c4] (by kernel_rfl)
  obtain ⟨z4, e4, -, w4⟩ := DataW.trod_int Try.underlying3 t4
  obtain rfl : c4 = .int .i64 z4 := by simpa using e4
  exact ⟨⟨z0, z1, z2, z3, z4⟩, ⟨w0, w1, w2, w3, w4⟩, rfl⟩
theorem open_A13 {t : TypeId} {fuel : Nat} {a : Option Addr} {len cap : Nat} {x : DataW H × List MemPlace} (ht : Try.prog.underlying t = some (.slice 36))
    (h : DataW.trod enc Try.prog w base spare held fuel t [.slice a len cap] = some x) : len ≤ maxLen ∧ ∃ l, A13At w a len l := by
  rcases openCells ht (N := 5) (by kernel_rfl) (by omega) h with h0 | ⟨x, len', cap', h0, h1, h2, hr⟩
  · simp at h0
    obtain ⟨rfl, rfl, rfl⟩ := h0
    exact ⟨Nat.zero_le _, [], rfl, by simp, .inl rfl⟩
  · simp at h0
    obtain ⟨rfl, rfl, rfl⟩ := h0
    refine ⟨by omega, ?_⟩
    rcases hr with rfl | ⟨b, off, rfl, hb, n, hr⟩
    · exact ⟨[], rfl, by simp, .inl rfl⟩
    · obtain ⟨l, hl, hq⟩ := listOf A13.zero (fun i d => d.Ok ∧ A13C w b (off + i * 5) d) len (fun i hi => by
        obtain ⟨zs, y, l1, c1, t1⟩ := hr i hi
        obtain ⟨d, hd, rfl⟩ := A13_of l1 t1
        exact ⟨d, hd, c1 0 (by omega), c1 1 (by omega), c1 2 (by omega), c1 3 (by omega), c1 4 (by omega)⟩)
      refine ⟨l, hl, fun d hd => ?_, .inr ⟨b, off, rfl, hb, fun i hi => (hq i hi).2⟩⟩
      obtain ⟨i, hi, rfl⟩ := List.getElem_of_mem hd
      have := (hq i (by omega)).1
      rw [List.getD_eq_getElem?_getD, List.getElem?_eq_getElem hi] at this
      exact this
end
end Go.Proofs.Ytlnbjpabcldmnaa
