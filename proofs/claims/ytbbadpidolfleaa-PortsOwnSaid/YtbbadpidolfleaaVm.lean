/- Texts of this proof, together: Cells, PoAct. -/
import Derived.Test.YtbbadpidolfleaaOpenNest
import Derived.Test.YtbbadpidolfleaaGa
import Derived.ChangeArms
namespace Go.Proofs.Ytbbadpidolfleaa
set_option linter.unusedVariables false
set_option linter.unusedSimpArgs false
open Go.ChangeShapes Go.WideShapes Go.ChangeAt Go.RowKit
theorem listOf {α : Type} (z : α) (Q : Nat → α → Prop) : ∀ n, (∀ i, i < n → ∃ d, Q i d) → ∃ ds : List α, ds.length = n ∧ ∀ i, i < n → Q i (ds.getD i z)
  | 0, _ => ⟨[], rfl, fun i hi => by omega⟩
  | n + 1, h => by
    obtain ⟨ds, hl, hq⟩ := listOf z Q n (fun i hi => h i (by omega))
    obtain ⟨d, hd⟩ := h n (by omega)
    refine ⟨ds ++ [d], by simp [hl], fun i hi => ?_⟩
    by_cases e : i = n
    · subst e
      rw [← hl, List.getD_eq_getElem?_getD, List.getElem?_append_right (Nat.le_refl _)]
      simpa [hl] using hd
    · have := hq i (by omega)
      rw [List.getD_eq_getElem?_getD, List.getElem?_append_left (by omega), ← List.getD_eq_getElem?_getD]
      exact this
section
variable {H : Type} {enc : TypeId × Value → H} {P : Program} {w : World} {base : Nat} {spare : Nat → Bool} {held : Bool}
/-- A slice whose elements have N cells: nil, or each element's cells. -/
theorem openCells {t e : TypeId} {fuel : Nat} {N : Nat} {cs : List Value} {x : DataW H × List MemPlace} (ht : P.underlying t = some (.slice e)) (hc : P.cellsOf e = N) (hN : 0 < N) (h : DataW.trod enc P w base spare held fuel t cs = some x) :
    cs = [.slice none 0 0] ∨ ∃ (a : Addr) (len cap : Nat), cs = [.slice (some a) len cap] ∧ len ≤ cap ∧ cap ≤ maxLen ∧
      (len = 0 ∨ ∃ b off, a = ⟨b, off, none⟩ ∧ b < w.heap.size ∧ ∃ n, ∀ i, i < len → ∃ (zs : List Value) (y : DataW H × List MemPlace), zs.length = N ∧ (∀ j, j < N → w.cell? ⟨b, off + i * N + j, none⟩ = zs[j]?) ∧ DataW.trod enc P w base spare held n e zs = some y) := by
  rcases DataW.trod_slice ht h with ⟨h0, _⟩ | ⟨a, len, cap, elems, rest, n, _, rfl, _, hb, hl, hm, hlen, hel, _, _⟩
  · exact .inl h0
  · refine .inr ⟨a, len, cap, rfl, hl, hm, ?_⟩
    by_cases h0 : len = 0
    · exact .inl h0
    right
    rw [hc] at hel
    have each : ∀ i, i < len → ∃ (zs : List Value) (y : DataW H × List MemPlace), zs.length = N ∧ (∀ j, j < N → w.cell? ((a.add (i * N)).add j) = zs[j]?) ∧ DataW.trod enc P w base spare held n e zs = some y := by
      intro i hi
      have k := hel i hi
      rw [List.getElem?_eq_getElem (by omega), Option.bind_eq_some_iff] at k
      obtain ⟨zs, h1, h2⟩ := k
      obtain ⟨_, g1, g2⟩ := World.cells?_some h1
      exact ⟨zs, _, g1, g2, h2⟩
    obtain ⟨b, off, spot⟩ := a
    obtain ⟨zs, _, l0, c0, _⟩ := each 0 (by omega)
    have k0 := c0 0 hN
    rw [List.getElem?_eq_getElem (by omega)] at k0
    have hspot : spot = none := by simpa [Addr.add] using World.cell?_spot k0
    subst hspot
    have hlt : b < w.heap.size := by
      have := World.block_lt_of_cell? w _ k0
      simpa [addr_add] using this
    refine ⟨b, off, rfl, hlt, n, fun i hi => ?_⟩
    obtain ⟨zs, y, l1, c1, t1⟩ := each i hi
    refine ⟨zs, y, l1, fun j hj => ?_, t1⟩
    have := c1 j hj
    rw [addr_add, addr_add] at this
    exact this
end
end Go.Proofs.Ytbbadpidolfleaa

namespace Go.Proofs.Ytbbadpidolfleaa
set_option linter.unusedVariables false
set_option linter.unusedSimpArgs false
open Go.ChangeShapes Go.WideShapes Go.ChangeAt Go.RowKit
structure A16 where
  kd : Int
  pr : Int
  inn : Int
  out : Int
  sp : Int
  wpr : Int
  wii : Int
  wip : Int
  woi : Int
  wfr : Int
  wto : Int
  wdr : Int
  fi : Int
  fp : Int
structure A16.Ok (x : A16) : Prop where
  kd : (Lit.int .u8 x.kd).wf = true
  pr : (Lit.int .u8 x.pr).wf = true
  inn : (Lit.int .u8 x.inn).wf = true
  out : (Lit.int .u8 x.out).wf = true
  sp : (Lit.int .u8 x.sp).wf = true
  wpr : (Lit.int .u8 x.wpr).wf = true
  wii : (Lit.int .u32 x.wii).wf = true
  wip : (Lit.int .u16 x.wip).wf = true
  woi : (Lit.int .u32 x.woi).wf = true
  wfr : (Lit.int .u16 x.wfr).wf = true
  wto : (Lit.int .u16 x.wto).wf = true
  wdr : (Lit.int .u16 x.wdr).wf = true
  fi : (Lit.int .u32 x.fi).wf = true
  fp : (Lit.int .u16 x.fp).wf = true
def A16.zero : A16 := ⟨0, 0, 0, 0, 0, 0, 0, 0, 0, 0, 0, 0, 0, 0⟩
def A16C (w : World) (b o : Nat) (x : A16) : Prop := w.cell? ⟨b, o, none⟩ = some (.int .u8 x.kd) ∧ w.cell? ⟨b, o + 1, none⟩ = some (.int .u8 x.pr) ∧ w.cell? ⟨b, o + 2, none⟩ = some (.int .u8 x.inn) ∧ w.cell? ⟨b, o + 3, none⟩ = some (.int .u8 x.out) ∧ w.cell? ⟨b, o + 4, none⟩ = some (.int .u8 x.sp) ∧ w.cell? ⟨b, o + 5, none⟩ = some (.int .u8 x.wpr) ∧ w.cell? ⟨b, o + 6, none⟩ = some (.int .u32 x.wii) ∧ w.cell? ⟨b, o + 7, none⟩ = some (.int .u16 x.wip) ∧ w.cell? ⟨b, o + 8, none⟩ = some (.int .u32 x.woi) ∧ w.cell? ⟨b, o + 9, none⟩ = some (.int .u16 x.wfr) ∧ w.cell? ⟨b, o + 10, none⟩ = some (.int .u16 x.wto) ∧ w.cell? ⟨b, o + 11, none⟩ = some (.int .u16 x.wdr) ∧ w.cell? ⟨b, o + 12, none⟩ = some (.int .u32 x.fi) ∧ w.cell? ⟨b, o + 13, none⟩ = some (.int .u16 x.fp)
theorem A16C.on {w w' : World} {b o : Nat} {x : A16} (h : A16C w b o x) (hb : b < w.heap.size) (k : Below w.heap.size w w') : A16C w' b o x := by
  obtain ⟨h0, h1, h2, h3, h4, h5, h6, h7, h8, h9, h10, h11, h12, h13⟩ := h
  exact ⟨(k.cell (p := ⟨b, o, none⟩) hb).trans h0, (k.cell (p := ⟨b, o + 1, none⟩) hb).trans h1, (k.cell (p := ⟨b, o + 2, none⟩) hb).trans h2, (k.cell (p := ⟨b, o + 3, none⟩) hb).trans h3, (k.cell (p := ⟨b, o + 4, none⟩) hb).trans h4, (k.cell (p := ⟨b, o + 5, none⟩) hb).trans h5, (k.cell (p := ⟨b, o + 6, none⟩) hb).trans h6, (k.cell (p := ⟨b, o + 7, none⟩) hb).trans h7, (k.cell (p := ⟨b, o + 8, none⟩) hb).trans h8, (k.cell (p := ⟨b, o + 9, none⟩) hb).trans h9, (k.cell (p := ⟨b, o + 10, none⟩) hb).trans h10, (k.cell (p := ⟨b, o + 11, none⟩) hb).trans h11, (k.cell (p := ⟨b, o + 12, none⟩) hb).trans h12, (k.cell (p := ⟨b, o + 13, none⟩) hb).trans h13⟩
structure A16At (w : World) (a : Option Addr) (len : Nat) (l : List A16) : Prop where
  cnt : l.length = len
  ok : ∀ x ∈ l, x.Ok
  cells : len = 0 ∨ ∃ b off, a = some ⟨b, off, none⟩ ∧ b < w.heap.size ∧ ∀ i, i < len → A16C w b (off + i * 14) (l.getD i A16.zero)
theorem A16At.on {w w' : World} {a : Option Addr} {len : Nat} {l : List A16} (h : A16At w a len l) (k : Below w.heap.size w w') : A16At w' a len l :=
  ⟨h.cnt, h.ok, h.cells.imp id fun ⟨b, off, e, hb, hc⟩ => ⟨b, off, e, Nat.lt_of_lt_of_le hb k.size, fun i hi => (hc i hi).on hb k⟩⟩
theorem A16At.okAt {w : World} {a : Option Addr} {len : Nat} {l : List A16} (h : A16At w a len l) {i : Nat} (hi : i < len) : (l.getD i A16.zero).Ok := by
  refine h.ok _ ?_
  rw [List.getD_eq_getElem?_getD, List.getElem?_eq_getElem (by rw [h.cnt]; exact hi)]
  exact List.getElem_mem _
section
variable {H : Type} {enc : TypeId × Value → H} {w : World} {base : Nat} {spare : Nat → Bool} {held : Bool}
set_option maxRecDepth 100000 in
theorem A16_of {n : Nat} {zs : List Value} {y : DataW H × List MemPlace} (hl : zs.length = 14) (h : DataW.trod enc Try.prog w base spare held n 38 zs = some y) : ∃ x : A16, x.Ok ∧ zs = [.int .u8 x.kd, .int .u8 x.pr, .int .u8 x.inn, .int .u8 x.out, .int .u8 x.sp, .int .u8 x.wpr, .int .u32 x.wii, .int .u16 x.wip, .int .u32 x.woi, .int .u16 x.wfr, .int .u16 x.wto, .int .u16 x.wdr, .int .u32 x.fi, .int .u16 x.fp] := by
  obtain ⟨c0, c1, c2, c3, c4, c5, c6, c7, c8, c9, c10, c11, c12, c13, rfl⟩ : ∃ c0 c1 c2 c3 c4 c5 c6 c7 c8 c9 c10 c11 c12 c13, zs = [c0, c1, c2, c3, c4, c5, c6, c7, c8, c9, c10, c11, c12, c13] := by
    match zs, hl with
    | [c0, c1, c2, c3, c4, c5, c6, c7, c8, c9, c10, c11, c12, c13], _ => exact ⟨c0, c1, c2, c3, c4, c5, c6, c7, c8, c9, c10, c11, c12, c13, rfl⟩
  obtain ⟨_, _, t0⟩ := nest_at Try.underlying38 h 0 _ rfl [c0] (by kernel_rfl)
  obtain ⟨z0, e0, -, w0⟩ := DataW.trod_int Try.underlying5 t0
  obtain rfl : c0 = .int .u8 z0 := by simpa using e0
  obtain ⟨_, _, t1⟩ := nest_at Try.underlying38 h 1 _ rfl [c1] (by kernel_rfl)
  obtain ⟨z1, e1, -, w1⟩ := DataW.trod_int Try.underlying5 t1
  obtain rfl : c1 = .int .u8 z1 := by simpa using e1
  obtain ⟨_, _, t2⟩ := nest_at Try.underlying38 h 2 _ rfl [c2] (by kernel_rfl)
  obtain ⟨z2, e2, -, w2⟩ := DataW.trod_int Try.underlying5 t2
  obtain rfl : c2 = .int .u8 z2 := by simpa using e2
  obtain ⟨_, _, t3⟩ := nest_at Try.underlying38 h 3 _ rfl [c3] (by kernel_rfl)
  obtain ⟨z3, e3, -, w3⟩ := DataW.trod_int Try.underlying5 t3
  obtain rfl : c3 = .int .u8 z3 := by simpa using e3
  obtain ⟨_, _, t4⟩ := nest_at Try.underlying38 h 4 _ rfl [c4] (by kernel_rfl)
  obtain ⟨z4, e4, -, w4⟩ := DataW.trod_int Try.underlying5 t4
  obtain rfl : c4 = .int .u8 z4 := by simpa using e4
  obtain ⟨_, _, s1⟩ := nest_at Try.underlying38 h 5 _ rfl [c5, c6, c7, c8, c9, c10, c11] (by kernel_rfl)
  obtain ⟨_, _, t5⟩ := nest_at Try.underlying36 s1 0 _ rfl [c5] (by kernel_rfl)
  obtain ⟨z5, e5, -, w5⟩ := DataW.trod_int Try.underlying5 t5
  obtain rfl : c5 = .int .u8 z5 := by simpa using e5
  obtain ⟨_, _, s2⟩ := nest_at Try.underlying36 s1 1 _ rfl [c6, c7] (by kernel_rfl)
  obtain ⟨_, _, t6⟩ := nest_at Try.underlying34 s2 0 _ rfl [c6] (by kernel_rfl)
  obtain ⟨z6, e6, -, w6⟩ := DataW.trod_int Try.underlying31 t6
  obtain rfl : c6 = .int .u32 z6 := by simpa using e6
  obtain ⟨_, _, t7⟩ := nest_at Try.underlying34 s2 1 _ rfl [c7] (by kernel_rfl)
  obtain ⟨z7, e7, -, w7⟩ := DataW.trod_int Try.underlying32 t7
  obtain rfl : c7 = .int .u16 z7 := by simpa using e7
  obtain ⟨_, _, t8⟩ := nest_at Try.underlying36 s1 2 _ rfl [c8] (by kernel_rfl)
  obtain ⟨z8, e8, -, w8⟩ := DataW.trod_int Try.underlying31 t8
  obtain rfl : c8 = .int .u32 z8 := by simpa using e8
  obtain ⟨_, _, t9⟩ := nest_at Try.underlying36 s1 3 _ rfl [c9] (by kernel_rfl)
  obtain ⟨z9, e9, -, w9⟩ := DataW.trod_int Try.underlying32 t9
  obtain rfl : c9 = .int .u16 z9 := by simpa using e9
  obtain ⟨_, _, t10⟩ := nest_at Try.underlying36 s1 4 _ rfl [c10] (by kernel_rfl)
  obtain ⟨z10, e10, -, w10⟩ := DataW.trod_int Try.underlying32 t10
  obtain rfl : c10 = .int .u16 z10 := by simpa using e10
  obtain ⟨_, _, t11⟩ := nest_at Try.underlying36 s1 5 _ rfl [c11] (by kernel_rfl)
  obtain ⟨z11, e11, -, w11⟩ := DataW.trod_int Try.underlying32 t11
  obtain rfl : c11 = .int .u16 z11 := by simpa using e11
  obtain ⟨_, _, s3⟩ := nest_at Try.underlying38 h 6 _ rfl [c12, c13] (by kernel_rfl)
  obtain ⟨_, _, t12⟩ := nest_at Try.underlying34 s3 0 _ rfl [c12] (by kernel_rfl)
  obtain ⟨z12, e12, -, w12⟩ := DataW.trod_int Try.underlying31 t12
  obtain rfl : c12 = .int .u32 z12 := by simpa using e12
  obtain ⟨_, _, t13⟩ := nest_at Try.underlying34 s3 1 _ rfl [c13] (by kernel_rfl)
  obtain ⟨z13, e13, -, w13⟩ := DataW.trod_int Try.underlying32 t13
  obtain rfl : c13 = .int .u16 z13 := by simpa using e13
  exact ⟨⟨z0, z1, z2, z3, z4, z5, z6, z7, z8, z9, z10, z11, z12, z13⟩, ⟨w0, w1, w2, w3, w4, w5, w6, w7, w8, w9, w10, w11, w12, w13⟩, rfl⟩
theorem open_A16 {t : TypeId} {fuel : Nat} {a : Option Addr} {len cap : Nat} {x : DataW H × List MemPlace} (ht : Try.prog.underlying t = some (.slice 38))
    (h : DataW.trod enc Try.prog w base spare held fuel t [.slice a len cap] = some x) : len ≤ maxLen ∧ ∃ l, A16At w a len l := by
  rcases openCells ht (N := 14) (by kernel_rfl) (by omega) h with h0 | ⟨x, len', cap', h0, h1, h2, hr⟩
  · simp at h0
    obtain ⟨rfl, rfl, rfl⟩ := h0
    exact ⟨Nat.zero_le _, [], rfl, by simp, .inl rfl⟩
  · simp at h0
    obtain ⟨rfl, rfl, rfl⟩ := h0
    refine ⟨by omega, ?_⟩
    rcases hr with rfl | ⟨b, off, rfl, hb, n, hr⟩
    · exact ⟨[], rfl, by simp, .inl rfl⟩
    · obtain ⟨l, hl, hq⟩ := listOf A16.zero (fun i d => d.Ok ∧ A16C w b (off + i * 14) d) len (fun i hi => by
        obtain ⟨zs, y, l1, c1, t1⟩ := hr i hi
        obtain ⟨d, hd, rfl⟩ := A16_of l1 t1
        exact ⟨d, hd, c1 0 (by omega), c1 1 (by omega), c1 2 (by omega), c1 3 (by omega), c1 4 (by omega), c1 5 (by omega), c1 6 (by omega), c1 7 (by omega), c1 8 (by omega), c1 9 (by omega), c1 10 (by omega), c1 11 (by omega), c1 12 (by omega), c1 13 (by omega)⟩)
      refine ⟨l, hl, fun d hd => ?_, .inr ⟨b, off, rfl, hb, fun i hi => (hq i hi).2⟩⟩
      obtain ⟨i, hi, rfl⟩ := List.getElem_of_mem hd
      have := (hq i (by omega)).1
      rw [List.getD_eq_getElem?_getD, List.getElem?_eq_getElem hi] at this
      exact this
end
end Go.Proofs.Ytbbadpidolfleaa
