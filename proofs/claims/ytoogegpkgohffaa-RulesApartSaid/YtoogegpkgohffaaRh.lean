/- Texts of this proof, together: OpenArr, RulRow, RulL. -/
import Derived.Test.YtoogegpkgohffaaRa
import Derived.Test.YtoogegpkgohffaaGa
import Derived.Test.YtoogegpkgohffaaRf
import Derived.Test.YtoogegpkgohffaaRg
import Derived.WalkKit
import Derived.ProofKit
import Derived.OpenShut
import Derived.ShutString
import Derived.Below
import Derived.ChangeArms
namespace Go.Proofs.Ytoogegpkgohffaa
open Go.ChangeShapes Go.WideShapes Go.ChangeAt Go.RowKit
section
variable {H : Type} {enc : TypeId × Value → H} {P : Program} {w : World} {base : Nat} {spare : Nat → Bool} {held : Bool}
theorem open_int_array {fuel : Nat} {t e : TypeId} {n : Nat} {k : IntKind} {cs : List Value} {x : DataW H × List MemPlace} (ht : P.underlying t = some (.array n e)) (he : P.underlying e = some (.int k)) (hce : P.cellsOf e = 1)
    (hct : P.cellsOf t = n) (h : DataW.trod enc P w base spare held fuel t cs = some x) : ∃ zs : List Int, zs.length = n ∧ cs = zs.map (Value.int k) ∧ ∀ z ∈ zs, (Lit.int k z).wf = true := by
  obtain ⟨xs, m, rfl, rfl, hl, hn, hel⟩ := DataW.trod_array ht h
  have hln : cs.length = n := by rw [hl, hct]
  have each : ∀ i (hi : i < cs.length), ∃ z, cs[i] = .int k z ∧ (Lit.int k z).wf = true := by
    intro i hi
    have := hel i (by omega)
    rw [hce, Nat.mul_one] at this
    have e : (cs.drop i).take 1 = [cs[i]] := by rw [List.drop_eq_getElem_cons hi]; rfl
    rw [e, List.getElem?_eq_getElem (by omega)] at this
    obtain ⟨z, e1, _, w⟩ := DataW.trod_int he this
    exact ⟨z, by simpa using e1, w⟩
  refine ⟨cs.map intOf, by simpa using hln, ?_, ?_⟩
  · apply List.ext_getElem
    · simp
    · intro i h1 h2
      obtain ⟨z, e, _⟩ := each i h1
      simp [e, intOf]
  · intro z hz
    obtain ⟨v, hv, rfl⟩ := List.mem_map.1 hz
    obtain ⟨i, hi, rfl⟩ := List.getElem_of_mem hv
    obtain ⟨z, e, w⟩ := each i hi
    rw [e]
    exact w
end
end Go.Proofs.Ytoogegpkgohffaa
namespace Go.Proofs.Ytoogegpkgohffaa
set_option linter.unusedVariables false
set_option linter.unusedSimpArgs false
open Go.ChangeShapes Go.WideShapes Go.ChangeAt Go.RowKit
theorem list_of {α : Type} (z : α) (Q : Nat → α → Prop) : ∀ n, (∀ i, i < n → ∃ d, Q i d) → ∃ ds : List α, ds.length = n ∧ ∀ i, i < n → Q i (ds.getD i z)
  | 0, _ => ⟨[], rfl, fun i hi => by omega⟩
  | n + 1, h => by
    obtain ⟨ds, hl, hq⟩ := list_of z Q n (fun i hi => h i (by omega))
    obtain ⟨d, hd⟩ := h n (by omega)
    refine ⟨ds ++ [d], by simp [hl], fun i hi => ?_⟩
    by_cases e : i = n
    · subst e
      rw [← hl, List.getD_eq_getElem?_getD, List.getElem?_append_right (Nat.le_refl _)]
      simpa [hl] using hd
    · have := hq i (by omega)
      rw [List.getD_eq_getElem?_getD, List.getElem?_append_left (by omega), ← List.getD_eq_getElem?_getD]
      exact this
section
variable {H : Type} {enc : TypeId × Value → H} {P : Program} {w : World} {base : Nat} {spare : Nat → Bool} {held : Bool}
/-- A slice whose elements have N cells: nil, or each element's cells. -/
theorem open_cells {t e : TypeId} {fuel : Nat} {N : Nat} {cs : List Value} {x : DataW H × List MemPlace} (ht : P.underlying t = some (.slice e)) (hc : P.cellsOf e = N) (hN : 0 < N) (h : DataW.trod enc P w base spare held fuel t cs = some x) :
    cs = [.slice none 0 0] ∨ ∃ (a : Addr) (len cap : Nat), cs = [.slice (some a) len cap] ∧ len ≤ cap ∧ cap ≤ maxLen ∧
      (len = 0 ∨ ∃ b off, a = ⟨b, off, none⟩ ∧ b < w.heap.size ∧ ∃ n, ∀ i, i < len → ∃ (zs : List Value) (y : DataW H × List MemPlace), zs.length = N ∧ (∀ j, j < N → w.cell? ⟨b, off + i * N + j, none⟩ = zs[j]?) ∧ DataW.trod enc P w base spare held n e zs = some y) := by
  rcases DataW.trod_slice ht h with ⟨h0, _⟩ | ⟨a, len, cap, elems, rest, n, _, rfl, _, hb, hl, hm, hlen, hel, _, _⟩
  · exact .inl h0
  · refine .inr ⟨a, len, cap, rfl, hl, hm, ?_⟩
    by_cases h0 : len = 0
    · exact .inl h0
    right
    rw [hc] at hel
    have each : ∀ i, i < len → ∃ (zs : List Value) (y : DataW H × List MemPlace), zs.length = N ∧ (∀ j, j < N → w.cell? ((a.add (i * N)).add j) = zs[j]?) ∧ DataW.trod enc P w base spare held n e zs = some y := by
      intro i hi
      have k := hel i hi
      rw [List.getElem?_eq_getElem (by omega), Option.bind_eq_some_iff] at k
      obtain ⟨zs, h1, h2⟩ := k
      obtain ⟨_, g1, g2⟩ := World.cells?_some h1
      exact ⟨zs, _, g1, g2, h2⟩
    obtain ⟨b, off, spot⟩ := a
    obtain ⟨zs, _, l0, c0, _⟩ := each 0 (by omega)
    have k0 := c0 0 hN
    rw [List.getElem?_eq_getElem (by omega)] at k0
    have hspot : spot = none := by simpa [Addr.add] using World.cell?_spot k0
    subst hspot
    have hlt : b < w.heap.size := by
      have := World.block_lt_of_cell? w _ k0
      simpa [addr_add] using this
    refine ⟨b, off, rfl, hlt, n, fun i hi => ?_⟩
    obtain ⟨zs, y, l1, c1, t1⟩ := each i hi
    refine ⟨zs, y, l1, fun j hj => ?_, t1⟩
    have := c1 j hj
    rw [addr_add, addr_add] at this
    exact this
end
/-- The cells of a draft. -/
def DrC (w : World) (b o : Nat) (d : Dr) : Prop := w.cell? ⟨b, o, none⟩ = some (.int .u8 d.d0) ∧ w.cell? ⟨b, o + 1, none⟩ = some (.int .u8 d.d1) ∧ w.cell? ⟨b, o + 2, none⟩ = some (.int .u8 d.d2) ∧ w.cell? ⟨b, o + 3, none⟩ = some (.int .u8 d.d3) ∧ w.cell? ⟨b, o + 4, none⟩ = some (.int .u8 d.d4) ∧ w.cell? ⟨b, o + 5, none⟩ = some (.int .u8 d.d5)
theorem DrC.on {w w' : World} {b o : Nat} {d : Dr} (h : DrC w b o d) (hb : b < w.heap.size) (k : Below w.heap.size w w') : DrC w' b o d := by
  obtain ⟨h0, h1, h2, h3, h4, h5⟩ := h
  exact ⟨(k.cell (p := ⟨b, o, none⟩) hb).trans h0, (k.cell (p := ⟨b, o + 1, none⟩) hb).trans h1, (k.cell (p := ⟨b, o + 2, none⟩) hb).trans h2, (k.cell (p := ⟨b, o + 3, none⟩) hb).trans h3, (k.cell (p := ⟨b, o + 4, none⟩) hb).trans h4, (k.cell (p := ⟨b, o + 5, none⟩) hb).trans h5⟩
/-- A slice of drafts. -/
structure DrAt (w : World) (a : Option Addr) (len : Nat) (ds : List Dr) : Prop where
  cnt : ds.length = len
  ok : ∀ d ∈ ds, d.Ok
  cells : len = 0 ∨ ∃ b off, a = some ⟨b, off, none⟩ ∧ b < w.heap.size ∧ ∀ i, i < len → DrC w b (off + i * 6) (ds.getD i Dr.zero)
theorem DrAt.on {w w' : World} {a : Option Addr} {len : Nat} {ds : List Dr} (h : DrAt w a len ds) (k : Below w.heap.size w w') : DrAt w' a len ds :=
  ⟨h.cnt, h.ok, h.cells.imp id fun ⟨b, off, e, hb, hc⟩ => ⟨b, off, e, Nat.lt_of_lt_of_le hb k.size, fun i hi => (hc i hi).on hb k⟩⟩
theorem DrAt.okAt {w : World} {a : Option Addr} {len : Nat} {ds : List Dr} (h : DrAt w a len ds) {i : Nat} (hi : i < len) : (ds.getD i Dr.zero).Ok := by
  refine h.ok _ ?_
  rw [List.getD_eq_getElem?_getD, List.getElem?_eq_getElem (by rw [h.cnt]; exact hi)]
  exact List.getElem_mem _
section
variable {H : Type} {enc : TypeId × Value → H} {P : Program} {w : World} {base : Nat} {spare : Nat → Bool} {held : Bool}
theorem draft_of {e u : TypeId} {n : Nat} {zs : List Value} {y : DataW H × List MemPlace} (he : P.underlying e = some (.array 6 u)) (hu : P.underlying u = some (.int .u8)) (hcu : P.cellsOf u = 1) (hce : P.cellsOf e = 6) (h : DataW.trod enc P w base spare held n e zs = some y) :
    ∃ d : Dr, d.Ok ∧ zs = [.int .u8 d.d0, .int .u8 d.d1, .int .u8 d.d2, .int .u8 d.d3, .int .u8 d.d4, .int .u8 d.d5] := by
  obtain ⟨l, hl, rfl, hw⟩ := open_int_array he hu hcu hce h
  match l, hl with
  | [z0, z1, z2, z3, z4, z5], _ =>
    refine ⟨⟨z0, z1, z2, z3, z4, z5⟩, ⟨?_, ?_, ?_, ?_, ?_, ?_⟩, rfl⟩ <;> exact bounds_u8 (hw _ (by simp))
theorem open_drafts {t e u : TypeId} {fuel : Nat} {a : Option Addr} {len cap : Nat} {x : DataW H × List MemPlace} (ht : P.underlying t = some (.slice e)) (he : P.underlying e = some (.array 6 u)) (hu : P.underlying u = some (.int .u8)) (hcu : P.cellsOf u = 1) (hce : P.cellsOf e = 6)
    (h : DataW.trod enc P w base spare held fuel t [.slice a len cap] = some x) : len ≤ maxLen ∧ ∃ ds, DrAt w a len ds := by
  rcases open_cells ht hce (by omega) h with h0 | ⟨x, len', cap', h0, h1, h2, hr⟩
  · simp at h0
    obtain ⟨rfl, rfl, rfl⟩ := h0
    exact ⟨Nat.zero_le _, [], rfl, by simp, .inl rfl⟩
  · simp at h0
    obtain ⟨rfl, rfl, rfl⟩ := h0
    refine ⟨by omega, ?_⟩
    rcases hr with rfl | ⟨b, off, rfl, hb, n, hr⟩
    · exact ⟨[], rfl, by simp, .inl rfl⟩
    · obtain ⟨ds, hl, hq⟩ := list_of Dr.zero (fun i d => d.Ok ∧ DrC w b (off + i * 6) d) len (fun i hi => by
        obtain ⟨zs, y, l1, c1, t1⟩ := hr i hi
        obtain ⟨d, hd, rfl⟩ := draft_of he hu hcu hce t1
        exact ⟨d, hd, c1 0 (by omega), c1 1 (by omega), c1 2 (by omega), c1 3 (by omega), c1 4 (by omega), c1 5 (by omega)⟩)
      refine ⟨ds, hl, fun d hd => ?_, .inr ⟨b, off, rfl, hb, fun i hi => (hq i hi).2⟩⟩
      obtain ⟨i, hi, rfl⟩ := List.getElem_of_mem hd
      have := (hq i (by omega)).1
      rw [List.getD_eq_getElem?_getD, List.getElem?_eq_getElem hi] at this
      exact this
end
end Go.Proofs.Ytoogegpkgohffaa
namespace Go.Proofs.Ytoogegpkgohffaa
set_option linter.unusedVariables false
set_option linter.unusedSimpArgs false
open Go.ChangeShapes Go.WideShapes Go.ChangeAt Go.RowKit Go.PlainAid
attribute [local go_sem ↓] Go.wp_at_zero Go.wp_at_succ
theorem rule_ (d : Dr) (w : World) (hd : d.Ok) :
    Calls Try.prog 20 #[.agg #[.int .u8 d.d0, .int .u8 d.d1, .int .u8 d.d2, .int .u8 d.d3, .int .u8 d.d4, .int .u8 d.d5]] w fun e w' => e = .returned (.agg #[.int .i64 (ruleD d).k, .int .u8 (ruleD d).pr, .int .u32 ((ruleD d).si : Int), .int .i64 (ruleD d).sb, .int .u32 ((ruleD d).di : Int), .int .i64 (ruleD d).db, .int .u32 ((ruleD d).ex : Int), .int .u16 (ruleD d).fr, .int .u16 (ruleD d).to, .int .u32 ((ruleD d).ii : Int), .int .u16 (ruleD d).ip]) ∧ Below w.heap.size w w' := by
  rcases three d.d0 with h | h | h
  · exact ruleS_ d w hd h
  · exact ruleN1_ d w hd h
  · exact ruleN2_ d w hd h
theorem listL_ (t : Tm) (B p : Nat) (v : Value) (w : World) (H : TabC w B p v t) (G : t.Good) :
    Calls Try.prog 21 #[.pointer (some ⟨p, 0, none⟩)] w fun e w' => ∃ a c, e = .returned (.slice a t.rs.length c) ∧ RowC w' w.heap.size (.slice a t.rs.length c) t.rs ∧ Below w.heap.size w w' := by
  refine (listC_ t B p v w H.box H.row (by have := G.few; omega)).mono ?_
  rintro e w' ⟨v', rfl, r, b⟩
  obtain ⟨a, c, rfl⟩ := r.slice
  exact ⟨a, c, rfl, r, b⟩
/-- What is asked of 'filled'. -/
def Filled : Prop := ∀ (a : Option Addr) (len cap : Nat) (ds : List Dr) (w : World) (D0 : DrAt w a len ds) (hl : len ≤ 60),
    Calls Try.prog 30 #[.slice a len cap] w fun e w' => Below w.heap.size w w' ∧ ∃ p v t, e = .returned (.tuple #[.pointer (some ⟨p, 0, none⟩), .bool true]) ∧ TabC w' w.heap.size p v t ∧ t.Good ∧ t.Law ∧ t.Sound
end Go.Proofs.Ytoogegpkgohffaa
