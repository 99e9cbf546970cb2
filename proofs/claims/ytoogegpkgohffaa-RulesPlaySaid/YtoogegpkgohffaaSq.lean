/- Texts of this proof, together: OpenArr, RulRow, RulIn, OpenNest, RulAct, RulL. -/
import Derived.Test.YtoogegpkgohffaaSa
import Derived.Test.YtoogegpkgohffaaTa
import Derived.Test.YtoogegpkgohffaaSm
import Derived.Test.YtoogegpkgohffaaSp
import Derived.WalkKit
import Derived.ProofKit
import Derived.OpenShut
import Derived.ShutString
import Derived.Below
import Derived.ChangeArms
import Derived.Lib.SmallJoins
namespace Go.Proofs.Ytoogegpkgohffaa
open Go.ChangeShapes Go.WideShapes Go.ChangeAt Go.RowKit
section
variable {H : Type} {enc : TypeId × Value → H} {P : Program} {w : World} {base : Nat} {spare : Nat → Bool} {held : Bool}
theorem open_int_array {fuel : Nat} {t e : TypeId} {n : Nat} {k : IntKind} {cs : List Value} {x : DataW H × List MemPlace} (ht : P.underlying t = some (.array n e)) (he : P.underlying e = some (.int k)) (hce : P.cellsOf e = 1)
    (hct : P.cellsOf t = n) (h : DataW.trod enc P w base spare held fuel t cs = some x) : ∃ zs : List Int, zs.length = n ∧ cs = zs.map (Value.int k) ∧ ∀ z ∈ zs, (Lit.int k z).wf = true := by
  obtain ⟨xs, m, rfl, rfl, hl, hn, hel⟩ := DataW.trod_array ht h
  have hln : cs.length = n := by rw [hl, hct]
  have each : ∀ i (hi : i < cs.length), ∃ z, cs[i] = .int k z ∧ (Lit.int k z).wf = true := by
    intro i hi
    have := hel i (by omega)
    rw [hce, Nat.mul_one] at this
    have e : (cs.drop i).take 1 = [cs[i]] := by rw [List.drop_eq_getElem_cons hi]; rfl
    rw [e, List.getElem?_eq_getElem (by omega)] at this
    obtain ⟨z, e1, _, w⟩ := DataW.trod_int he this
    exact ⟨z, by simpa using e1, w⟩
  refine ⟨cs.map intOf, by simpa using hln, ?_, ?_⟩
  · apply List.ext_getElem
    · simp
    · intro i h1 h2
      obtain ⟨z, e, _⟩ := each i h1
      simp [e, intOf]
  · intro z hz
    obtain ⟨v, hv, rfl⟩ := List.mem_map.1 hz
    obtain ⟨i, hi, rfl⟩ := List.getElem_of_mem hv
    obtain ⟨z, e, w⟩ := each i hi
    rw [e]
    exact w
end
end Go.Proofs.Ytoogegpkgohffaa
namespace Go.Proofs.Ytoogegpkgohffaa
set_option linter.unusedVariables false
set_option linter.unusedSimpArgs false
open Go.ChangeShapes Go.WideShapes Go.ChangeAt Go.RowKit
theorem list_of {α : Type} (z : α) (Q : Nat → α → Prop) : ∀ n, (∀ i, i < n → ∃ d, Q i d) → ∃ ds : List α, ds.length = n ∧ ∀ i, i < n → Q i (ds.getD i z)
  | 0, _ => ⟨[], rfl, fun i hi => by omega⟩
  | n + 1, h => by
    obtain ⟨ds, hl, hq⟩ := list_of z Q n (fun i hi => h i (by omega))
    obtain ⟨d, hd⟩ := h n (by omega)
    refine ⟨ds ++ [d], by simp [hl], fun i hi => ?_⟩
    by_cases e : i = n
    · subst e
      rw [← hl, List.getD_eq_getElem?_getD, List.getElem?_append_right (Nat.le_refl _)]
      simpa [hl] using hd
    · have := hq i (by omega)
      rw [List.getD_eq_getElem?_getD, List.getElem?_append_left (by omega), ← List.getD_eq_getElem?_getD]
      exact this
section
variable {H : Type} {enc : TypeId × Value → H} {P : Program} {w : World} {base : Nat} {spare : Nat → Bool} {held : Bool}
/-- A slice whose elements have N cells: nil, or each element's cells. -/
theorem open_cells {t e : TypeId} {fuel : Nat} {N : Nat} {cs : List Value} {x : DataW H × List MemPlace} (ht : P.underlying t = some (.slice e)) (hc : P.cellsOf e = N) (hN : 0 < N) (h : DataW.trod enc P w base spare held fuel t cs = some x) :
    cs = [.slice none 0 0] ∨ ∃ (a : Addr) (len cap : Nat), cs = [.slice (some a) len cap] ∧ len ≤ cap ∧ cap ≤ maxLen ∧
      (len = 0 ∨ ∃ b off, a = ⟨b, off, none⟩ ∧ b < w.heap.size ∧ ∃ n, ∀ i, i < len → ∃ (zs : List Value) (y : DataW H × List MemPlace), zs.length = N ∧ (∀ j, j < N → w.cell? ⟨b, off + i * N + j, none⟩ = zs[j]?) ∧ DataW.trod enc P w base spare held n e zs = some y) := by
  rcases DataW.trod_slice ht h with ⟨h0, _⟩ | ⟨a, len, cap, elems, rest, n, _, rfl, _, hb, hl, hm, hlen, hel, _, _⟩
  · exact .inl h0
  · refine .inr ⟨a, len, cap, rfl, hl, hm, ?_⟩
    by_cases h0 : len = 0
    · exact .inl h0
    right
    rw [hc] at hel
    have each : ∀ i, i < len → ∃ (zs : List Value) (y : DataW H × List MemPlace), zs.length = N ∧ (∀ j, j < N → w.cell? ((a.add (i * N)).add j) = zs[j]?) ∧ DataW.trod enc P w base spare held n e zs = some y := by
      intro i hi
      have k := hel i hi
      rw [List.getElem?_eq_getElem (by omega), Option.bind_eq_some_iff] at k
      obtain ⟨zs, h1, h2⟩ := k
      obtain ⟨_, g1, g2⟩ := World.cells?_some h1
      exact ⟨zs, _, g1, g2, h2⟩
    obtain ⟨b, off, spot⟩ := a
    obtain ⟨zs, _, l0, c0, _⟩ := each 0 (by omega)
    have k0 := c0 0 hN
    rw [List.getElem?_eq_getElem (by omega)] at k0
    have hspot : spot = none := by simpa [Addr.add] using World.cell?_spot k0
    subst hspot
    have hlt : b < w.heap.size := by
      have := World.block_lt_of_cell? w _ k0
      simpa [addr_add] using this
    refine ⟨b, off, rfl, hlt, n, fun i hi => ?_⟩
    obtain ⟨zs, y, l1, c1, t1⟩ := each i hi
    refine ⟨zs, y, l1, fun j hj => ?_, t1⟩
    have := c1 j hj
    rw [addr_add, addr_add] at this
    exact this
end
/-- The cells of a draft. -/
def DrC (w : World) (b o : Nat) (d : Dr) : Prop := w.cell? ⟨b, o, none⟩ = some (.int .u8 d.d0) ∧ w.cell? ⟨b, o + 1, none⟩ = some (.int .u8 d.d1) ∧ w.cell? ⟨b, o + 2, none⟩ = some (.int .u8 d.d2) ∧ w.cell? ⟨b, o + 3, none⟩ = some (.int .u8 d.d3) ∧ w.cell? ⟨b, o + 4, none⟩ = some (.int .u8 d.d4) ∧ w.cell? ⟨b, o + 5, none⟩ = some (.int .u8 d.d5)
theorem DrC.on {w w' : World} {b o : Nat} {d : Dr} (h : DrC w b o d) (hb : b < w.heap.size) (k : Below w.heap.size w w') : DrC w' b o d := by
  obtain ⟨h0, h1, h2, h3, h4, h5⟩ := h
  exact ⟨(k.cell (p := ⟨b, o, none⟩) hb).trans h0, (k.cell (p := ⟨b, o + 1, none⟩) hb).trans h1, (k.cell (p := ⟨b, o + 2, none⟩) hb).trans h2, (k.cell (p := ⟨b, o + 3, none⟩) hb).trans h3, (k.cell (p := ⟨b, o + 4, none⟩) hb).trans h4, (k.cell (p := ⟨b, o + 5, none⟩) hb).trans h5⟩
/-- A slice of drafts. -/
structure DrAt (w : World) (a : Option Addr) (len : Nat) (ds : List Dr) : Prop where
  cnt : ds.length = len
  ok : ∀ d ∈ ds, d.Ok
  cells : len = 0 ∨ ∃ b off, a = some ⟨b, off, none⟩ ∧ b < w.heap.size ∧ ∀ i, i < len → DrC w b (off + i * 6) (ds.getD i Dr.zero)
theorem DrAt.on {w w' : World} {a : Option Addr} {len : Nat} {ds : List Dr} (h : DrAt w a len ds) (k : Below w.heap.size w w') : DrAt w' a len ds :=
  ⟨h.cnt, h.ok, h.cells.imp id fun ⟨b, off, e, hb, hc⟩ => ⟨b, off, e, Nat.lt_of_lt_of_le hb k.size, fun i hi => (hc i hi).on hb k⟩⟩
theorem DrAt.okAt {w : World} {a : Option Addr} {len : Nat} {ds : List Dr} (h : DrAt w a len ds) {i : Nat} (hi : i < len) : (ds.getD i Dr.zero).Ok := by
  refine h.ok _ ?_
  rw [List.getD_eq_getElem?_getD, List.getElem?_eq_getElem (by rw [h.cnt]; exact hi)]
  exact List.getElem_mem _
section
variable {H : Type} {enc : TypeId × Value → H} {P : Program} {w : World} {base : Nat} {spare : Nat → Bool} {held : Bool}
theorem draft_of {e u : TypeId} {n : Nat} {zs : List Value} {y : DataW H × List MemPlace} (he : P.underlying e = some (.array 6 u)) (hu : P.underlying u = some (.int .u8)) (hcu : P.cellsOf u = 1) (hce : P.cellsOf e = 6) (h : DataW.trod enc P w base spare held n e zs = some y) :
    ∃ d : Dr, d.Ok ∧ zs = [.int .u8 d.d0, .int .u8 d.d1, .int .u8 d.d2, .int .u8 d.d3, .int .u8 d.d4, .int .u8 d.d5] := by
  obtain ⟨l, hl, rfl, hw⟩ := open_int_array he hu hcu hce h
  match l, hl with
  | [z0, z1, z2, z3, z4, z5], _ =>
    refine ⟨⟨z0, z1, z2, z3, z4, z5⟩, ⟨?_, ?_, ?_, ?_, ?_, ?_⟩, rfl⟩ <;> exact bounds_u8 (hw _ (by simp))
end
end Go.Proofs.Ytoogegpkgohffaa
namespace Go.Proofs.Ytoogegpkgohffaa
open Go.ChangeShapes Go.WideShapes Go.ChangeAt Go.RowKit
theorem ru_of {k pr si sb di db ex fr tx ii ip : Int} (h0 : (Lit.int .i64 k).wf = true) (h1 : (Lit.int .u8 pr).wf = true) (h2 : (Lit.int .u32 si).wf = true) (h3 : (Lit.int .i64 sb).wf = true) (h4 : (Lit.int .u32 di).wf = true) (h5 : (Lit.int .i64 db).wf = true) (h6 : (Lit.int .u32 ex).wf = true) (h7 : (Lit.int .u16 fr).wf = true) (h8 : (Lit.int .u16 tx).wf = true) (h9 : (Lit.int .u32 ii).wf = true) (h10 : (Lit.int .u16 ip).wf = true) :
    ∃ r : Ru, r.Ok ∧ r.k = k ∧ r.pr = pr ∧ (r.si : Int) = si ∧ r.sb = sb ∧ (r.di : Int) = di ∧ r.db = db ∧ (r.ex : Int) = ex ∧ r.fr = fr ∧ r.to = tx ∧ (r.ii : Int) = ii ∧ r.ip = ip := by
  obtain ⟨a0, b0⟩ := bounds_i64 h0
  obtain ⟨a1, b1⟩ := bounds_u8 h1
  obtain ⟨a2, b2⟩ := bounds_u32 h2
  obtain ⟨a3, b3⟩ := bounds_i64 h3
  obtain ⟨a4, b4⟩ := bounds_u32 h4
  obtain ⟨a5, b5⟩ := bounds_i64 h5
  obtain ⟨a6, b6⟩ := bounds_u32 h6
  obtain ⟨a7, b7⟩ := bounds_u16 h7
  obtain ⟨a8, b8⟩ := bounds_u16 h8
  obtain ⟨a9, b9⟩ := bounds_u32 h9
  obtain ⟨a10, b10⟩ := bounds_u16 h10
  obtain ⟨si, rfl⟩ := Int.eq_ofNat_of_zero_le a2
  obtain ⟨di, rfl⟩ := Int.eq_ofNat_of_zero_le a4
  obtain ⟨ex, rfl⟩ := Int.eq_ofNat_of_zero_le a6
  obtain ⟨ii, rfl⟩ := Int.eq_ofNat_of_zero_le a9
  refine ⟨⟨k, pr, si, sb, di, db, ex, fr, tx, ii, ip⟩, ?_, rfl, rfl, rfl, rfl, rfl, rfl, rfl, rfl, rfl, rfl, rfl⟩
  constructor <;> simp only <;> omega
end Go.Proofs.Ytoogegpkgohffaa
namespace Go.Proofs.Ytoogegpkgohffaa
open Go.ChangeShapes Go.WideShapes Go.RowKit Go.Deep Go.WideElems
section
variable {H : Type} {enc : TypeId × Value → H} {P : Program} {w : World} {base : Nat} {spare : Nat → Bool} {held : Bool}
theorem nest_at {n : Nat} {t : TypeId} {fs : Array Field} {cs : List Value} {y : DataW H × List MemPlace} (ht : P.underlying t = some (.struct fs)) (h : DataW.trod enc P w base spare held n t cs = some y) (i : Nat) (f : Field) (hi : fs[i]? = some f) (l : List Value) (hl : (cs.drop f.offset).take (P.cellsOf f.type) = l) :
    ∃ (m : Nat) (z : DataW H × List MemPlace), DataW.trod enc P w base spare held m f.type l = some z := by
  obtain ⟨xs, m, _, _, _, hlen, hf⟩ := DataW.trod_struct ht h
  have h1 := hf i f hi
  rw [hl] at h1
  have hlt : i < fs.size := by
    rcases Nat.lt_or_ge i fs.size with h | h
    · exact h
    · rw [Array.getElem?_eq_none h] at hi; cases hi
  have hx : i < xs.length := by omega
  exact ⟨m, xs[i], by rw [h1, List.getElem?_eq_getElem hx]⟩
end
end Go.Proofs.Ytoogegpkgohffaa
namespace Go.Proofs.Ytoogegpkgohffaa
set_option linter.unusedVariables false
set_option linter.unusedSimpArgs false
open Go.ChangeShapes Go.WideShapes Go.ChangeAt Go.RowKit
/-- What is done with a table. -/
structure Ac where
  kd : Int
  at_ : Int
  d : Dr
  r : Ru
structure Ac.Ok (a : Ac) : Prop where
  kd : 0 ≤ a.kd ∧ a.kd ≤ 255
  at_ : -9223372036854775808 ≤ a.at_ ∧ a.at_ ≤ 9223372036854775807
  d : a.d.Ok
  r : a.r.Ok
def Ac.zero : Ac := ⟨0, 0, Dr.zero, Ru.zero⟩
/-- The cells of an act. -/
def AcC (w : World) (b o : Nat) (a : Ac) : Prop := w.cell? ⟨b, o, none⟩ = some (.int .u8 a.kd) ∧ w.cell? ⟨b, o + 1, none⟩ = some (.int .i64 a.at_) ∧ w.cell? ⟨b, o + 2, none⟩ = some (.int .u8 a.d.d0) ∧ w.cell? ⟨b, o + 3, none⟩ = some (.int .u8 a.d.d1) ∧ w.cell? ⟨b, o + 4, none⟩ = some (.int .u8 a.d.d2) ∧ w.cell? ⟨b, o + 5, none⟩ = some (.int .u8 a.d.d3) ∧ w.cell? ⟨b, o + 6, none⟩ = some (.int .u8 a.d.d4) ∧ w.cell? ⟨b, o + 7, none⟩ = some (.int .u8 a.d.d5) ∧ w.cell? ⟨b, o + 8, none⟩ = some (.int .i64 a.r.k) ∧ w.cell? ⟨b, o + 9, none⟩ = some (.int .u8 a.r.pr) ∧ w.cell? ⟨b, o + 10, none⟩ = some (.int .u32 (a.r.si : Int)) ∧ w.cell? ⟨b, o + 11, none⟩ = some (.int .i64 a.r.sb) ∧ w.cell? ⟨b, o + 12, none⟩ = some (.int .u32 (a.r.di : Int)) ∧ w.cell? ⟨b, o + 13, none⟩ = some (.int .i64 a.r.db) ∧ w.cell? ⟨b, o + 14, none⟩ = some (.int .u32 (a.r.ex : Int)) ∧ w.cell? ⟨b, o + 15, none⟩ = some (.int .u16 a.r.fr) ∧ w.cell? ⟨b, o + 16, none⟩ = some (.int .u16 a.r.to) ∧ w.cell? ⟨b, o + 17, none⟩ = some (.int .u32 (a.r.ii : Int)) ∧ w.cell? ⟨b, o + 18, none⟩ = some (.int .u16 a.r.ip)
theorem AcC.on {w w' : World} {b o : Nat} {a : Ac} (h : AcC w b o a) (hb : b < w.heap.size) (k : Below w.heap.size w w') : AcC w' b o a := by
  obtain ⟨h0, h1, h2, h3, h4, h5, h6, h7, h8, h9, h10, h11, h12, h13, h14, h15, h16, h17, h18⟩ := h
  exact ⟨(k.cell (p := ⟨b, o, none⟩) hb).trans h0, (k.cell (p := ⟨b, o + 1, none⟩) hb).trans h1, (k.cell (p := ⟨b, o + 2, none⟩) hb).trans h2, (k.cell (p := ⟨b, o + 3, none⟩) hb).trans h3, (k.cell (p := ⟨b, o + 4, none⟩) hb).trans h4, (k.cell (p := ⟨b, o + 5, none⟩) hb).trans h5, (k.cell (p := ⟨b, o + 6, none⟩) hb).trans h6, (k.cell (p := ⟨b, o + 7, none⟩) hb).trans h7, (k.cell (p := ⟨b, o + 8, none⟩) hb).trans h8, (k.cell (p := ⟨b, o + 9, none⟩) hb).trans h9, (k.cell (p := ⟨b, o + 10, none⟩) hb).trans h10, (k.cell (p := ⟨b, o + 11, none⟩) hb).trans h11, (k.cell (p := ⟨b, o + 12, none⟩) hb).trans h12, (k.cell (p := ⟨b, o + 13, none⟩) hb).trans h13, (k.cell (p := ⟨b, o + 14, none⟩) hb).trans h14, (k.cell (p := ⟨b, o + 15, none⟩) hb).trans h15, (k.cell (p := ⟨b, o + 16, none⟩) hb).trans h16, (k.cell (p := ⟨b, o + 17, none⟩) hb).trans h17, (k.cell (p := ⟨b, o + 18, none⟩) hb).trans h18⟩
/-- A slice of acts. -/
structure AcAt (w : World) (a : Option Addr) (len : Nat) (l : List Ac) : Prop where
  cnt : l.length = len
  ok : ∀ x ∈ l, x.Ok
  cells : len = 0 ∨ ∃ b off, a = some ⟨b, off, none⟩ ∧ b < w.heap.size ∧ ∀ i, i < len → AcC w b (off + i * 19) (l.getD i Ac.zero)
theorem AcAt.on {w w' : World} {a : Option Addr} {len : Nat} {l : List Ac} (h : AcAt w a len l) (k : Below w.heap.size w w') : AcAt w' a len l :=
  ⟨h.cnt, h.ok, h.cells.imp id fun ⟨b, off, e, hb, hc⟩ => ⟨b, off, e, Nat.lt_of_lt_of_le hb k.size, fun i hi => (hc i hi).on hb k⟩⟩
theorem AcAt.okAt {w : World} {a : Option Addr} {len : Nat} {l : List Ac} (h : AcAt w a len l) {i : Nat} (hi : i < len) : (l.getD i Ac.zero).Ok := by
  refine h.ok _ ?_
  rw [List.getD_eq_getElem?_getD, List.getElem?_eq_getElem (by rw [h.cnt]; exact hi)]
  exact List.getElem_mem _
section
variable {H : Type} {enc : TypeId × Value → H} {w : World} {base : Nat} {spare : Nat → Bool} {held : Bool}
theorem list11 {α : Type} (l : List α) (h : l.length = 11) : ∃ c0 c1 c2 c3 c4 c5 c6 c7 c8 c9 c10, l = [c0, c1, c2, c3, c4, c5, c6, c7, c8, c9, c10] := by
  match l, h with
  | [c0, c1, c2, c3, c4, c5, c6, c7, c8, c9, c10], _ => exact ⟨c0, c1, c2, c3, c4, c5, c6, c7, c8, c9, c10, rfl⟩
theorem list19 {α : Type} (l : List α) (h : l.length = 19) : ∃ c0 c1 c2 c3 c4 c5 c6 c7 c8 c9 c10 c11 c12 c13 c14 c15 c16 c17 c18, l = [c0, c1, c2, c3, c4, c5, c6, c7, c8, c9, c10, c11, c12, c13, c14, c15, c16, c17, c18] := by
  match l, h with
  | [c0, c1, c2, c3, c4, c5, c6, c7, c8, c9, c10, c11, c12, c13, c14, c15, c16, c17, c18], _ => exact ⟨c0, c1, c2, c3, c4, c5, c6, c7, c8, c9, c10, c11, c12, c13, c14, c15, c16, c17, c18, rfl⟩
set_option maxRecDepth 100000 in
theorem rule_of {n : Nat} {zs : List Value} {y : DataW H × List MemPlace} (hl : zs.length = 11) (h : DataW.trod enc Try.prog w base spare held n 42 zs = some y) : ∃ r : Ru, r.Ok ∧ zs = [.int .i64 r.k, .int .u8 r.pr, .int .u32 (r.si : Int), .int .i64 r.sb, .int .u32 (r.di : Int), .int .i64 r.db, .int .u32 (r.ex : Int), .int .u16 r.fr, .int .u16 r.to, .int .u32 (r.ii : Int), .int .u16 r.ip] := by
  obtain ⟨c0, c1, c2, c3, c4, c5, c6, c7, c8, c9, c10, rfl⟩ := list11 zs hl
  obtain ⟨_, _, t0⟩ := nest_at Try.underlying42 h 0 _ rfl [c0] (by kernel_rfl)
  obtain ⟨z0, e0, -, w0⟩ := DataW.trod_int Try.underlying3 t0
  obtain rfl : c0 = .int .i64 z0 := by simpa using e0
  obtain ⟨_, _, t1⟩ := nest_at Try.underlying42 h 1 _ rfl [c1] (by kernel_rfl)
  obtain ⟨z1, e1, -, w1⟩ := DataW.trod_int Try.underlying5 t1
  obtain rfl : c1 = .int .u8 z1 := by simpa using e1
  obtain ⟨_, _, s2⟩ := nest_at Try.underlying42 h 2 _ rfl [c2, c3] (by kernel_rfl)
  obtain ⟨_, _, t2⟩ := nest_at Try.underlying31 s2 0 _ rfl [c2] (by kernel_rfl)
  obtain ⟨z2, e2, -, w2⟩ := DataW.trod_int Try.underlying29 t2
  obtain rfl : c2 = .int .u32 z2 := by simpa using e2
  obtain ⟨_, _, t3⟩ := nest_at Try.underlying31 s2 1 _ rfl [c3] (by kernel_rfl)
  obtain ⟨z3, e3, -, w3⟩ := DataW.trod_int Try.underlying3 t3
  obtain rfl : c3 = .int .i64 z3 := by simpa using e3
  obtain ⟨_, _, s3⟩ := nest_at Try.underlying42 h 3 _ rfl [c4, c5] (by kernel_rfl)
  obtain ⟨_, _, t4⟩ := nest_at Try.underlying31 s3 0 _ rfl [c4] (by kernel_rfl)
  obtain ⟨z4, e4, -, w4⟩ := DataW.trod_int Try.underlying29 t4
  obtain rfl : c4 = .int .u32 z4 := by simpa using e4
  obtain ⟨_, _, t5⟩ := nest_at Try.underlying31 s3 1 _ rfl [c5] (by kernel_rfl)
  obtain ⟨z5, e5, -, w5⟩ := DataW.trod_int Try.underlying3 t5
  obtain rfl : c5 = .int .i64 z5 := by simpa using e5
  obtain ⟨_, _, t6⟩ := nest_at Try.underlying42 h 4 _ rfl [c6] (by kernel_rfl)
  obtain ⟨z6, e6, -, w6⟩ := DataW.trod_int Try.underlying29 t6
  obtain rfl : c6 = .int .u32 z6 := by simpa using e6
  obtain ⟨_, _, t7⟩ := nest_at Try.underlying42 h 5 _ rfl [c7] (by kernel_rfl)
  obtain ⟨z7, e7, -, w7⟩ := DataW.trod_int Try.underlying38 t7
  obtain rfl : c7 = .int .u16 z7 := by simpa using e7
  obtain ⟨_, _, t8⟩ := nest_at Try.underlying42 h 6 _ rfl [c8] (by kernel_rfl)
  obtain ⟨z8, e8, -, w8⟩ := DataW.trod_int Try.underlying38 t8
  obtain rfl : c8 = .int .u16 z8 := by simpa using e8
  obtain ⟨_, _, s7⟩ := nest_at Try.underlying42 h 7 _ rfl [c9, c10] (by kernel_rfl)
  obtain ⟨_, _, t9⟩ := nest_at Try.underlying40 s7 0 _ rfl [c9] (by kernel_rfl)
  obtain ⟨z9, e9, -, w9⟩ := DataW.trod_int Try.underlying29 t9
  obtain rfl : c9 = .int .u32 z9 := by simpa using e9
  obtain ⟨_, _, t10⟩ := nest_at Try.underlying40 s7 1 _ rfl [c10] (by kernel_rfl)
  obtain ⟨z10, e10, -, w10⟩ := DataW.trod_int Try.underlying38 t10
  obtain rfl : c10 = .int .u16 z10 := by simpa using e10
  obtain ⟨r, ok, e0, e1, e2, e3, e4, e5, e6, e7, e8, e9, e10⟩ := ru_of w0 w1 w2 w3 w4 w5 w6 w7 w8 w9 w10
  exact ⟨r, ok, by rw [e0, e1, e2, e3, e4, e5, e6, e7, e8, e9, e10]⟩
set_option maxRecDepth 100000 in
theorem act_of {n : Nat} {zs : List Value} {y : DataW H × List MemPlace} (hl : zs.length = 19) (h : DataW.trod enc Try.prog w base spare held n 44 zs = some y) : ∃ a : Ac, a.Ok ∧ zs = [.int .u8 a.kd, .int .i64 a.at_, .int .u8 a.d.d0, .int .u8 a.d.d1, .int .u8 a.d.d2, .int .u8 a.d.d3, .int .u8 a.d.d4, .int .u8 a.d.d5, .int .i64 a.r.k, .int .u8 a.r.pr, .int .u32 (a.r.si : Int), .int .i64 a.r.sb, .int .u32 (a.r.di : Int), .int .i64 a.r.db, .int .u32 (a.r.ex : Int), .int .u16 a.r.fr, .int .u16 a.r.to, .int .u32 (a.r.ii : Int), .int .u16 a.r.ip] := by
  obtain ⟨c0, c1, c2, c3, c4, c5, c6, c7, c8, c9, c10, c11, c12, c13, c14, c15, c16, c17, c18, rfl⟩ := list19 zs hl
  obtain ⟨_, _, t0⟩ := nest_at Try.underlying44 h 0 _ rfl [c0] (by kernel_rfl)
  obtain ⟨z0, e0, -, w0⟩ := DataW.trod_int Try.underlying5 t0
  obtain rfl : c0 = .int .u8 z0 := by simpa using e0
  obtain ⟨_, _, t1⟩ := nest_at Try.underlying44 h 1 _ rfl [c1] (by kernel_rfl)
  obtain ⟨z1, e1, -, w1⟩ := DataW.trod_int Try.underlying3 t1
  obtain rfl : c1 = .int .i64 z1 := by simpa using e1
  obtain ⟨_, _, t2⟩ := nest_at Try.underlying44 h 2 _ rfl [c2, c3, c4, c5, c6, c7] (by kernel_rfl)
  obtain ⟨d, hd, ed⟩ := draft_of Try.underlying37 Try.underlying5 (by kernel_rfl) (by kernel_rfl) t2
  obtain ⟨_, _, t3⟩ := nest_at Try.underlying44 h 3 _ rfl [c8, c9, c10, c11, c12, c13, c14, c15, c16, c17, c18] (by kernel_rfl)
  obtain ⟨r, hr, er⟩ := rule_of rfl t3
  simp only [List.cons.injEq, and_true] at ed er
  obtain ⟨rfl, rfl, rfl, rfl, rfl, rfl⟩ := ed
  obtain ⟨rfl, rfl, rfl, rfl, rfl, rfl, rfl, rfl, rfl, rfl, rfl⟩ := er
  exact ⟨⟨z0, z1, d, r⟩, ⟨bounds_u8 w0, bounds_i64 w1, hd, hr⟩, rfl⟩
theorem open_acts {t : TypeId} {fuel : Nat} {a : Option Addr} {len cap : Nat} {x : DataW H × List MemPlace} (ht : Try.prog.underlying t = some (.slice 44))
    (h : DataW.trod enc Try.prog w base spare held fuel t [.slice a len cap] = some x) : len ≤ maxLen ∧ ∃ l, AcAt w a len l := by
  rcases open_cells ht (N := 19) (by kernel_rfl) (by omega) h with h0 | ⟨x, len', cap', h0, h1, h2, hr⟩
  · simp at h0
    obtain ⟨rfl, rfl, rfl⟩ := h0
    exact ⟨Nat.zero_le _, [], rfl, by simp, .inl rfl⟩
  · simp at h0
    obtain ⟨rfl, rfl, rfl⟩ := h0
    refine ⟨by omega, ?_⟩
    rcases hr with rfl | ⟨b, off, rfl, hb, n, hr⟩
    · exact ⟨[], rfl, by simp, .inl rfl⟩
    · obtain ⟨l, hl, hq⟩ := list_of Ac.zero (fun i d => d.Ok ∧ AcC w b (off + i * 19) d) len (fun i hi => by
        obtain ⟨zs, y, l1, c1, t1⟩ := hr i hi
        obtain ⟨d, hd, rfl⟩ := act_of l1 t1
        exact ⟨d, hd, c1 0 (by omega), c1 1 (by omega), c1 2 (by omega), c1 3 (by omega), c1 4 (by omega), c1 5 (by omega), c1 6 (by omega), c1 7 (by omega), c1 8 (by omega), c1 9 (by omega), c1 10 (by omega), c1 11 (by omega), c1 12 (by omega), c1 13 (by omega), c1 14 (by omega), c1 15 (by omega), c1 16 (by omega), c1 17 (by omega), c1 18 (by omega)⟩)
      refine ⟨l, hl, fun d hd => ?_, .inr ⟨b, off, rfl, hb, fun i hi => (hq i hi).2⟩⟩
      obtain ⟨i, hi, rfl⟩ := List.getElem_of_mem hd
      have := (hq i (by omega)).1
      rw [List.getD_eq_getElem?_getD, List.getElem?_eq_getElem hi] at this
      exact this
end
end Go.Proofs.Ytoogegpkgohffaa
namespace Go.Proofs.Ytoogegpkgohffaa
set_option linter.unusedVariables false
set_option linter.unusedSimpArgs false
open Go.ChangeShapes Go.WideShapes Go.ChangeAt Go.RowKit Go.PlainAid
attribute [local go_sem ↓] Go.wp_at_zero Go.wp_at_succ
theorem rule_ (d : Dr) (w : World) (hd : d.Ok) :
    Calls Try.prog 20 #[.agg #[.int .u8 d.d0, .int .u8 d.d1, .int .u8 d.d2, .int .u8 d.d3, .int .u8 d.d4, .int .u8 d.d5]] w fun e w' => e = .returned (.agg #[.int .i64 (ruleD d).k, .int .u8 (ruleD d).pr, .int .u32 ((ruleD d).si : Int), .int .i64 (ruleD d).sb, .int .u32 ((ruleD d).di : Int), .int .i64 (ruleD d).db, .int .u32 ((ruleD d).ex : Int), .int .u16 (ruleD d).fr, .int .u16 (ruleD d).to, .int .u32 ((ruleD d).ii : Int), .int .u16 (ruleD d).ip]) ∧ Below w.heap.size w w' := by
  rcases three d.d0 with h | h | h
  · exact ruleS_ d w hd h
  · exact ruleN1_ d w hd h
  · exact ruleN2_ d w hd h
theorem listL_ (t : Tm) (B p : Nat) (v : Value) (w : World) (H : TabC w B p v t) (G : t.Good) :
    Calls Try.prog 21 #[.pointer (some ⟨p, 0, none⟩)] w fun e w' => ∃ a c, e = .returned (.slice a t.rs.length c) ∧ RowC w' w.heap.size (.slice a t.rs.length c) t.rs ∧ Below w.heap.size w w' := by
  refine (listC_ t B p v w H.box H.row (by have := G.few; omega)).mono ?_
  rintro e w' ⟨v', rfl, r, b⟩
  obtain ⟨a, c, rfl⟩ := r.slice
  exact ⟨a, c, rfl, r, b⟩
end Go.Proofs.Ytoogegpkgohffaa
