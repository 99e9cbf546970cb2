/- Texts of this proof, together: PzK, PzA, PzV. -/
import Derived.Test.YtbbadpidolfleaaPoK
import Derived.Test.YtbbadpidolfleaaVq
import Derived.Test.YtbbadpidolfleaaLead
import Derived.BigRegion
import Derived.Deep.DeepCutAuto
namespace Go.Proofs.Ytbbadpidolfleaa
set_option linter.unusedVariables false
set_option linter.unusedSimpArgs false
set_option maxRecDepth 100000
open Go.ChangeShapes Go.WideShapes Go.ChangeAt Go.RowKit Go.PlainAid
open Go.Maps (Keyed)
structure En where
  pr : Int
  i : Int
  p : Int
deriving DecidableEq
def En.v (x : En) : Value := .agg #[.int .u8 x.pr, .int .u32 x.i, .int .u16 x.p]
theorem end_hashed : Keyed Try.prog 72 := Keyed.of_law (deep_law_laid (by kernel_rfl) (m := 9999) (Nat.le_refl _) (by decide) (by kernel_rfl) (by kernel_rfl))
theorem wf_u8 {s : Int} (h0 : 0 ≤ s) (h1 : s < 256) : (Lit.int .u8 s).wf = true := (Lit.wf_int_iff _ _).2 ⟨h0, by show s ≤ 255; omega⟩
theorem wf_u16 {s : Int} (h0 : 0 ≤ s) (h1 : s < 65536) : (Lit.int .u16 s).wf = true := (Lit.wf_int_iff _ _).2 ⟨h0, by show s ≤ 65535; omega⟩
theorem wf_u32 {s : Int} (h0 : 0 ≤ s) (h1 : s < 4294967296) : (Lit.int .u32 s).wf = true := (Lit.wf_int_iff _ _).2 ⟨h0, by show s ≤ 4294967295; omega⟩
theorem bd_u8 {s : Int} (h : (Lit.int .u8 s).wf = true) : 0 ≤ s ∧ s < 256 := by
  have := (Lit.wf_int_iff _ _).1 h
  have h1 : (0 : Int) ≤ s := this.1
  have h2 : s ≤ 255 := this.2
  exact ⟨h1, by omega⟩
theorem bd_u16 {s : Int} (h : (Lit.int .u16 s).wf = true) : 0 ≤ s ∧ s < 65536 := by
  have := (Lit.wf_int_iff _ _).1 h
  have h1 : (0 : Int) ≤ s := this.1
  have h2 : s ≤ 65535 := this.2
  exact ⟨h1, by omega⟩
theorem bd_u32 {s : Int} (h : (Lit.int .u32 s).wf = true) : 0 ≤ s ∧ s < 4294967296 := by
  have := (Lit.wf_int_iff _ _).1 h
  have h1 : (0 : Int) ≤ s := this.1
  have h2 : s ≤ 4294967295 := this.2
  exact ⟨h1, by omega⟩
theorem end_cells : Try.prog.cellsOf 72 = 3 ∧ Try.prog.cellsOf 5 = 1 ∧ Try.prog.cellsOf 34 = 2 ∧ Try.prog.cellsOf 31 = 1 ∧ Try.prog.cellsOf 32 = 1 := ⟨by kernel_rfl, by kernel_rfl, by kernel_rfl, by kernel_rfl, by kernel_rfl⟩
theorem end_key {x : En} (hh : EOk x.pr x.i x.p) : keyOf Try.prog 72 x.v = some (.string (keyBytes [.int .u8 x.pr, .int .u32 x.i, .int .u16 x.p])) := by
  obtain ⟨c0, c1, c2, c3, c4⟩ := end_cells
  obtain ⟨m, hm⟩ : ∃ m, Try.prog.types.size = m + 2 := ⟨Try.prog.types.size - 2, by kernel_rfl⟩
  refine key_struct Try.underlying72 (by kernel_rfl) (by rw [c0]; rfl) ?_
  rw [hm]
  refine kl_two (l1 := [_]) (l2 := [_, _]) Try.underlying72 (by kernel_rfl) (by rw [c0]; rfl) ?_ ?_
  · show Try.prog.keyLits (m + 1 + 1) 5 (List.take (Try.prog.cellsOf 5) _) = _
    rw [c1]
    exact kl_int Try.underlying5 (wf_u8 hh.pr0 hh.pr1)
  · show Try.prog.keyLits (m + 1 + 1) 34 (List.take (Try.prog.cellsOf 34) _) = _
    rw [c2]
    refine kl_two (l1 := [_]) (l2 := [_]) Try.underlying34 (by kernel_rfl) (by rw [c2]; rfl) ?_ ?_
    · show Try.prog.keyLits (m + 1) 31 (List.take (Try.prog.cellsOf 31) _) = _
      rw [c3]
      exact kl_int Try.underlying31 (wf_u32 hh.i0 hh.i1)
    · show Try.prog.keyLits (m + 1) 32 (List.take (Try.prog.cellsOf 32) _) = _
      rw [c4]
      exact kl_int Try.underlying32 (wf_u16 hh.p0 hh.p1)
theorem end_inv {u : Value} {l : Lit} (h : keyOf Try.prog 72 u = some l) : ∃ x : En, EOk x.pr x.i x.p ∧ u = x.v := by
  obtain ⟨c0, c1, c2, c3, c4⟩ := end_cells
  obtain ⟨m, hm⟩ : ∃ m, Try.prog.types.size = m + 2 := ⟨Try.prog.types.size - 2, by kernel_rfl⟩
  obtain ⟨cs, ls, rfl, h, _⟩ := key_struct_inv Try.underlying72 h
  rw [hm] at h
  obtain ⟨hl, l1, l2, h1, h2, _⟩ := kl_two_inv Try.underlying72 h
  rw [c0] at hl
  obtain ⟨a, b, c, rfl⟩ : ∃ a b c, cs = #[a, b, c] := by
    obtain ⟨l⟩ := cs
    match l, hl with
    | [a, b, c], _ => exact ⟨a, b, c, rfl⟩
  have h1 : Try.prog.keyLits (m + 1 + 1) 5 (List.take (Try.prog.cellsOf 5) [a, b, c]) = some l1 := h1
  have h2 : Try.prog.keyLits (m + 1 + 1) 34 (List.take (Try.prog.cellsOf 34) [b, c]) = some l2 := h2
  rw [c1] at h1
  rw [c2] at h2
  obtain ⟨n1, e1, w1, _⟩ := kl_int_inv Try.underlying5 h1
  obtain ⟨_, l3, l4, h3, h4, _⟩ := kl_two_inv Try.underlying34 h2
  have h3 : Try.prog.keyLits (m + 1) 31 (List.take (Try.prog.cellsOf 31) [b, c]) = some l3 := h3
  have h4 : Try.prog.keyLits (m + 1) 32 (List.take (Try.prog.cellsOf 32) [c]) = some l4 := h4
  rw [c3] at h3
  rw [c4] at h4
  obtain ⟨n2, e2, w2, _⟩ := kl_int_inv Try.underlying31 h3
  obtain ⟨n3, e3, w3, _⟩ := kl_int_inv Try.underlying32 h4
  have e1 : a = .int .u8 n1 := by injection e1
  have e2 : b = .int .u32 n2 := by injection e2
  have e3 : c = .int .u16 n3 := by injection e3
  subst e1 e2 e3
  exact ⟨⟨n1, n2, n3⟩, ⟨(bd_u8 w1).1, (bd_u8 w1).2, (bd_u32 w2).1, (bd_u32 w2).2, (bd_u16 w3).1, (bd_u16 w3).2⟩, rfl⟩
theorem En.v_inj {a b : En} (e : a.v = b.v) : a = b := by
  unfold En.v at e
  injection e with e
  simp at e
  obtain ⟨a1, a2, a3⟩ := a
  obtain ⟨b1, b2, b3⟩ := b
  obtain ⟨rfl, rfl, rfl⟩ := e
  rfl
/-- The keys. -/
def enK : KeyK Try.prog En where
  T := 72
  v := En.v
  ok x := EOk x.pr x.i x.p
  l x := .string (keyBytes [.int .u8 x.pr, .int .u32 x.i, .int .u16 x.p])
  keyed := end_hashed
  of _ h := end_key h
  inv _ _ h := end_inv h
  lit _ := trivial
  inj _ _ h := En.v_inj h
end Go.Proofs.Ytbbadpidolfleaa

namespace Go.Proofs.Ytbbadpidolfleaa
set_option linter.unusedVariables false
set_option maxRecDepth 100000
set_option linter.unusedSimpArgs false
open Go.ChangeShapes Go.WideShapes Go.ChangeAt Go.RowKit Go.PlainAid
attribute [local go_sem ↓] Go.wp_at_zero Go.wp_at_succ
/-- A row, as a value; its entries in both maps. -/
def Ro.v (r : Ro) : Value := .agg #[.int .u8 r.pr, .int .u32 r.oi, .int .u16 r.op, .int .u32 r.ii, .int .u16 r.ip, .int .i64 (r.lv : Int), .int .i64 (r.hd : Int)]
def Ro.eR (r : Ro) : En × Value := (⟨r.pr, r.oi, r.op⟩, r.v)
def Ro.eO (r : Ro) : En × Value := (⟨r.pr, r.ii, r.ip⟩, .agg #[.int .u32 r.oi, .int .u16 r.op])
/-- A row's box; an endpoint's. -/
structure RowB (w : World) (b : Nat) (r : Ro) : Prop where
  lt : b < w.heap.size
  c0 : w.cell? ⟨b, 0, none⟩ = some (.int .u8 r.pr)
  c1 : w.cell? ⟨b, 1, none⟩ = some (.int .u32 r.oi)
  c2 : w.cell? ⟨b, 2, none⟩ = some (.int .u16 r.op)
  c3 : w.cell? ⟨b, 3, none⟩ = some (.int .u32 r.ii)
  c4 : w.cell? ⟨b, 4, none⟩ = some (.int .u16 r.ip)
  c5 : w.cell? ⟨b, 5, none⟩ = some (.int .i64 (r.lv : Int))
  c6 : w.cell? ⟨b, 6, none⟩ = some (.int .i64 (r.hd : Int))
  fr : ∀ j, w.frozen? ⟨b, j, none⟩ = false
structure EpB (w : World) (b : Nat) (i p : Int) : Prop where
  lt : b < w.heap.size
  c0 : w.cell? ⟨b, 0, none⟩ = some (.int .u32 i)
  c1 : w.cell? ⟨b, 1, none⟩ = some (.int .u16 p)
  fr : ∀ j, w.frozen? ⟨b, j, none⟩ = false
section
variable {w w' W : World} {b : Nat} {r r0 : Ro} {i p : Int} {M : World → Prop}
theorem RowB.keep (h : RowB w b r) (hs : w.heap.size ≤ w'.heap.size) (hb : w'.heap[b]? = w.heap[b]?) : RowB w' b r :=
  ⟨Nat.lt_of_lt_of_le h.lt hs, (World.cell?_of_block (w := w) (a := ⟨b, 0, none⟩) hb).trans h.c0, (World.cell?_of_block (w := w) (a := ⟨b, 1, none⟩) hb).trans h.c1, (World.cell?_of_block (w := w) (a := ⟨b, 2, none⟩) hb).trans h.c2, (World.cell?_of_block (w := w) (a := ⟨b, 3, none⟩) hb).trans h.c3, (World.cell?_of_block (w := w) (a := ⟨b, 4, none⟩) hb).trans h.c4, (World.cell?_of_block (w := w) (a := ⟨b, 5, none⟩) hb).trans h.c5, (World.cell?_of_block (w := w) (a := ⟨b, 6, none⟩) hb).trans h.c6, fun j => (World.frozen?_of_block (w := w) (a := ⟨b, j, none⟩) hb).trans (h.fr j)⟩
theorem RowB.on (h : RowB w b r) (hb : Below w.heap.size w w') : RowB w' b r := h.keep hb.size (hb.block b h.lt)
theorem RowB.by {S : Nat → Prop} (h : RowB w b r) (hb : Beside S w w') (hn : ¬ S b) : RowB w' b r := h.keep hb.size (hb.block b h.lt hn)
theorem RowB.made (w : World) (r : Ro) (T : TypeId) : RowB (w.alloc (.cells #[.int .u8 r.pr, .int .u32 r.oi, .int .u16 r.op, .int .u32 r.ii, .int .u16 r.ip, .int .i64 (r.lv : Int), .int .i64 (r.hd : Int)] T)) w.heap.size r :=
  have c := fun j => World.cell?_alloc_mark w #[.int .u8 r.pr, .int .u32 r.oi, .int .u16 r.op, .int .u32 r.ii, .int .u16 r.ip, .int .i64 (r.lv : Int), .int .i64 (r.hd : Int)] T (0, 0) j
  ⟨by simp, c 0, c 1, c 2, c 3, c 4, c 5, c 6, fun j => by simp [go_sem]⟩
theorem RowB.none (w : World) (T : TypeId) : RowB (w.alloc (.cells #[.int .u8 0, .int .u32 0, .int .u16 0, .int .u32 0, .int .u16 0, .int .i64 0, .int .i64 0] T)) w.heap.size Ro.zero := RowB.made w Ro.zero T
theorem EpB.keep (h : EpB w b i p) (hs : w.heap.size ≤ w'.heap.size) (hb : w'.heap[b]? = w.heap[b]?) : EpB w' b i p :=
  ⟨Nat.lt_of_lt_of_le h.lt hs, (World.cell?_of_block (w := w) (a := ⟨b, 0, none⟩) hb).trans h.c0, (World.cell?_of_block (w := w) (a := ⟨b, 1, none⟩) hb).trans h.c1, fun j => (World.frozen?_of_block (w := w) (a := ⟨b, j, none⟩) hb).trans (h.fr j)⟩
theorem EpB.on (h : EpB w b i p) (hb : Below w.heap.size w w') : EpB w' b i p := h.keep hb.size (hb.block b h.lt)
theorem EpB.by {S : Nat → Prop} (h : EpB w b i p) (hb : Beside S w w') (hn : ¬ S b) : EpB w' b i p := h.keep hb.size (hb.block b h.lt hn)
theorem EpB.made (w : World) (i p : Int) (T : TypeId) : EpB (w.alloc (.cells #[.int .u32 i, .int .u16 p] T)) w.heap.size i p :=
  have c := fun j => World.cell?_alloc_mark w #[.int .u32 i, .int .u16 p] T (0, 0) j
  ⟨by simp, c 0, c 1, fun j => by simp [go_sem]⟩
/-- A row is written whole into its box. -/
theorem row_ (h : RowB W b r0) (k : ∀ X : World, RowB X b r → Beside (fun k => k = b) W X → M X) : M (((((((W.setCell ⟨b, 0, none⟩ (.int .u8 r.pr)).setCell ⟨b, 1, none⟩ (.int .u32 r.oi)).setCell ⟨b, 2, none⟩ (.int .u16 r.op)).setCell ⟨b, 3, none⟩ (.int .u32 r.ii)).setCell ⟨b, 4, none⟩ (.int .u16 r.ip)).setCell ⟨b, 5, none⟩ (.int .i64 (r.lv : Int))).setCell ⟨b, 6, none⟩ (.int .i64 (r.hd : Int))) := by
  have c := World.cell?_setCells_in b [.int .u8 r.pr, .int .u32 r.oi, .int .u16 r.op, .int .u32 r.ii, .int .u16 r.ip, .int .i64 (r.lv : Int), .int .i64 (r.hd : Int)] 0 W (by
    intro j hj
    rw [Nat.zero_add]
    match j, hj with
    | 0, _ => rw [h.c0]; rfl
    | 1, _ => rw [h.c1]; rfl
    | 2, _ => rw [h.c2]; rfl
    | 3, _ => rw [h.c3]; rfl
    | 4, _ => rw [h.c4]; rfl
    | 5, _ => rw [h.c5]; rfl
    | 6, _ => rw [h.c6]; rfl)
  refine k _ ⟨by simpa [World.setCell] using h.lt, c 0 (by simp), c 1 (by simp), c 2 (by simp), c 3 (by simp), c 4 (by simp), c 5 (by simp), c 6 (by simp), fun j => ?_⟩ ?_
  · rw [World.frozen?_setCell, World.frozen?_setCell, World.frozen?_setCell, World.frozen?_setCell, World.frozen?_setCell, World.frozen?_setCell, World.frozen?_setCell]
    exact h.fr j
  · exact (((((((Beside.refl (fun k => k = b) W).setCell (p := ⟨b, 0, none⟩) rfl _).setCell (p := ⟨b, 1, none⟩) rfl _).setCell (p := ⟨b, 2, none⟩) rfl _).setCell (p := ⟨b, 3, none⟩) rfl _).setCell (p := ⟨b, 4, none⟩) rfl _).setCell (p := ⟨b, 5, none⟩) rfl _).setCell (p := ⟨b, 6, none⟩) rfl _
theorem row_d (h : RowB W b r0) (k : ∀ X : World, RowB X b r → Beside (fun k => k = b) W X → M X) : M (((((((W.setCell ⟨b, 0, none⟩ (.int .u8 r.pr)).setCell ⟨b, 1, none⟩ (.int .u32 r.oi)).setCell ⟨b, 2, none⟩ (.int .u16 r.op)).setCell ⟨b, 3, none⟩ (.int .u32 r.ii)).setCell ⟨b, 4, none⟩ (.int .u16 r.ip)).setCell ⟨b, 5, none⟩ (.int .i64 (r.lv : Int))).setCell ⟨b, 6, none⟩ (.int .i64 (r.hd : Int))).drew :=
  row_ (M := fun X => M X.drew) h fun X hX bX => k X.drew (hX.keep (Nat.le_refl _) rfl) bX.drew
/-- An endpoint is. -/
theorem ep_ {i0 p0 : Int} (h : EpB W b i0 p0) (k : ∀ X : World, EpB X b i p → Beside (fun k => k = b) W X → M X) : M ((W.setCell ⟨b, 0, none⟩ (.int .u32 i)).setCell ⟨b, 1, none⟩ (.int .u16 p)) := by
  have c := World.cell?_setCells_in b [.int .u32 i, .int .u16 p] 0 W (by
    intro j hj
    rw [Nat.zero_add]
    match j, hj with
    | 0, _ => rw [h.c0]; rfl
    | 1, _ => rw [h.c1]; rfl)
  refine k _ ⟨by simpa [World.setCell] using h.lt, c 0 (by simp), c 1 (by simp), fun j => ?_⟩ ?_
  · rw [World.frozen?_setCell, World.frozen?_setCell]
    exact h.fr j
  · exact ((Beside.refl (fun k => k = b) W).setCell (p := ⟨b, 0, none⟩) rfl _).setCell (p := ⟨b, 1, none⟩) rfl _
theorem ep_d {i0 p0 : Int} (h : EpB W b i0 p0) (k : ∀ X : World, EpB X b i p → Beside (fun k => k = b) W X → M X) : M ((W.setCell ⟨b, 0, none⟩ (.int .u32 i)).setCell ⟨b, 1, none⟩ (.int .u16 p)).drew :=
  ep_ (M := fun X => M X.drew) h fun X hX bX => k X.drew (hX.keep (Nat.le_refl _) rfl) bX.drew
end
theorem one_box {b n : Nat} {w0 w w' : World} (h : Below n w0 w) (k : Beside (fun k => k = b) w w') (hb : n ≤ b) (hn : n ≤ w.heap.size) : Below n w0 w' := k.after h hn (fun k _ e => by omega)
structure PzI (w : World) (p rb ob : Nat) (x : Po) : Prop where
  ok : x.Ok
  lp : p < w.heap.size
  c0 : w.cell? ⟨p, 0, none⟩ = some (.map (some rb))
  c1 : w.cell? ⟨p, 1, none⟩ = some (.map (some ob))
  mr : enK.Map w rb (x.l.map Ro.eR)
  mo : enK.Map w ob (x.l.map Ro.eO)
  ne : rb ≠ ob
/-- Their blocks. -/
def pzS (p rb ob k : Nat) : Prop := k = p ∨ k = rb ∨ k = ob
theorem run_eql_map_none {P : Program} (t k e : TypeId) (p : Option Nat) (h : P.underlying t = some (.map k e)) (w : World) : (binOp .eql t (.map p) (.map none)).run P w = .ok (.bool p.isNone) w := by
  have key : ∀ d, (Op.equalIn (d + 1) t (.map p) (.map none)).run P w = .ok p.isNone w := fun d => by cases p <;> simp [Op.equalIn, run_underlying h]
  simp only [binOp]
  simp [show Op.equal t (.map p) (.map none) = Op.equalIn (9999 + 1) t (.map p) (.map none) from rfl, key 9999]
section
variable {w w' : World} {p rb ob : Nat} {x : Po}
theorem PzI.keep (h : PzI w p rb ob x) (hs : w.heap.size ≤ w'.heap.size) (hb : ∀ k, pzS p rb ob k → w'.heap[k]? = w.heap[k]?) : PzI w' p rb ob x :=
  ⟨h.ok, Nat.lt_of_lt_of_le h.lp hs, (World.cell?_of_block (w := w) (a := ⟨p, 0, none⟩) (hb p (.inl rfl))).trans h.c0, (World.cell?_of_block (w := w) (a := ⟨p, 1, none⟩) (hb p (.inl rfl))).trans h.c1, h.mr.keep (hb rb (.inr (.inl rfl))), h.mo.keep (hb ob (.inr (.inr rfl))), h.ne⟩
theorem PzI.lt (h : PzI w p rb ob x) : ∀ k, pzS p rb ob k → k < w.heap.size := fun k hk => by
  rcases hk with rfl | rfl | rfl
  · exact h.lp
  · exact h.mr.lt
  · exact h.mo.lt
theorem PzI.on (h : PzI w p rb ob x) (hb : Below w.heap.size w w') : PzI w' p rb ob x := h.keep hb.size fun k hk => hb.block k (h.lt k hk)
theorem map_no_cell {w : World} {b : Nat} {L : List (En × Value)} (h : enK.Map w b L) (j : Nat) : w.cell? ⟨b, j, none⟩ = none := by
  obtain ⟨es, clock, hb⟩ := h.block
  simp [World.cell?, hb]
theorem PzI.ne0 (h : PzI w p rb ob x) : p ≠ rb := fun e => by
  have := map_no_cell h.mr 0
  rw [← e, h.c0] at this
  cases this
theorem PzI.ne1 (h : PzI w p rb ob x) : p ≠ ob := fun e => by
  have := map_no_cell h.mo 0
  rw [← e, h.c0] at this
  cases this
theorem rows_mem {pr oi op : Int} {r : Ro} (h : x.ofO pr oi op = some r) : ((⟨pr, oi, op⟩ : En), r.v) ∈ x.l.map Ro.eR := by
  obtain ⟨hr, e1, e2, e3⟩ := Po.ofO_some h
  exact List.mem_map.2 ⟨r, hr, by unfold Ro.eR; rw [e1, e2, e3]⟩
theorem rows_none {pr oi op : Int} (h : x.ofO pr oi op = none) : ∀ v, ((⟨pr, oi, op⟩ : En), v) ∉ x.l.map Ro.eR := fun v hv => by
  obtain ⟨r, hr, e⟩ := List.mem_map.1 hv
  have e1 := congrArg Prod.fst e
  exact Po.ofO_none h r hr ⟨congrArg En.pr e1, congrArg En.i e1, congrArg En.p e1⟩
theorem outs_mem {pr ii ip : Int} {r : Ro} (h : x.ofI pr ii ip = some r) : ((⟨pr, ii, ip⟩ : En), Value.agg #[.int .u32 r.oi, .int .u16 r.op]) ∈ x.l.map Ro.eO := by
  obtain ⟨hr, e1, e2, e3⟩ := Po.ofI_some h
  exact List.mem_map.2 ⟨r, hr, by unfold Ro.eO; rw [e1, e2, e3]⟩
theorem outs_none {pr ii ip : Int} (h : x.ofI pr ii ip = none) : ∀ v, ((⟨pr, ii, ip⟩ : En), v) ∉ x.l.map Ro.eO := fun v hv => by
  obtain ⟨r, hr, e⟩ := List.mem_map.1 hv
  have e1 := congrArg Prod.fst e
  exact Po.ofI_none h r hr ⟨congrArg En.pr e1, congrArg En.i e1, congrArg En.p e1⟩
/-- (*Ports).none. -/
theorem pz_none_ (h : PzI w p rb ob x) : Calls Try.prog 29 #[.pointer (some ⟨p, 0, none⟩)] w fun e w' => e = .returned (.bool false) ∧ w' = w := by
  have c0 := h.c0
  have hq := run_eql_map_none (P := Try.prog) _ _ _ (some rb) Try.underlying60
  clear h
  go_enter Try.func29, Try.ntmps29
  go_wp2
  go_ret
  exact ⟨rfl, rfl⟩
/-- (*Ports).Count. -/
theorem pz_count_ (h : PzI w p rb ob x) : Says Try.prog 26 #[.pointer (some ⟨p, 0, none⟩)] w (.int .i64 (x.l.length : Int)) := by
  have kn := pz_none_ h
  have c0 := h.c0
  have hl := h.mr.len Try.underlying60
  rw [List.length_map] at hl
  clear h
  show Calls _ _ _ _ _
  go_enter Try.func26, Try.ntmps26
  go_wp2_with (go_at_call 29; refine kn.mono ?_; rintro e w2 ⟨rfl, rfl⟩)
  go_wp2
  go_ret
  exact ⟨rfl, Below.refl _ _⟩
end
end Go.Proofs.Ytbbadpidolfleaa

namespace Go.Proofs.Ytbbadpidolfleaa
set_option linter.unusedVariables false
set_option maxRecDepth 100000
set_option linter.unusedSimpArgs false
open Go.ChangeShapes Go.WideShapes Go.ChangeAt Go.RowKit Go.PlainAid
attribute [local go_sem ↓] Go.wp_at_zero Go.wp_at_succ
/-- A wish's box. -/
structure WiB (w : World) (b : Nat) (v : Wi) : Prop where
  lt : b < w.heap.size
  c0 : w.cell? ⟨b, 0, none⟩ = some (.int .u8 v.pr)
  c1 : w.cell? ⟨b, 1, none⟩ = some (.int .u32 v.ii)
  c2 : w.cell? ⟨b, 2, none⟩ = some (.int .u16 v.ip)
  c3 : w.cell? ⟨b, 3, none⟩ = some (.int .u32 v.oi)
  c4 : w.cell? ⟨b, 4, none⟩ = some (.int .u16 v.fr)
  c5 : w.cell? ⟨b, 5, none⟩ = some (.int .u16 v.to)
  c6 : w.cell? ⟨b, 6, none⟩ = some (.int .u16 v.dr)
section
variable {w w' : World} {b : Nat} {v : Wi}
theorem WiB.keep (h : WiB w b v) (hs : w.heap.size ≤ w'.heap.size) (hb : w'.heap[b]? = w.heap[b]?) : WiB w' b v :=
  ⟨Nat.lt_of_lt_of_le h.lt hs, (World.cell?_of_block (w := w) (a := ⟨b, 0, none⟩) hb).trans h.c0, (World.cell?_of_block (w := w) (a := ⟨b, 1, none⟩) hb).trans h.c1, (World.cell?_of_block (w := w) (a := ⟨b, 2, none⟩) hb).trans h.c2, (World.cell?_of_block (w := w) (a := ⟨b, 3, none⟩) hb).trans h.c3, (World.cell?_of_block (w := w) (a := ⟨b, 4, none⟩) hb).trans h.c4, (World.cell?_of_block (w := w) (a := ⟨b, 5, none⟩) hb).trans h.c5, (World.cell?_of_block (w := w) (a := ⟨b, 6, none⟩) hb).trans h.c6⟩
theorem WiB.on (h : WiB w b v) (hb : Below w.heap.size w w') : WiB w' b v := h.keep hb.size (hb.block b h.lt)
theorem WiB.made (w : World) (v : Wi) (T : TypeId) : WiB (w.alloc (.cells #[.int .u8 v.pr, .int .u32 v.ii, .int .u16 v.ip, .int .u32 v.oi, .int .u16 v.fr, .int .u16 v.to, .int .u16 v.dr] T)) w.heap.size v :=
  have c := fun j => World.cell?_alloc_mark w #[.int .u8 v.pr, .int .u32 v.ii, .int .u16 v.ip, .int .u32 v.oi, .int .u16 v.fr, .int .u16 v.to, .int .u16 v.dr] T (0, 0) j
  ⟨by simp, c 0, c 1, c 2, c 3, c 4, c 5, c 6⟩
end
set_option maxHeartbeats 1000000 in
/-- Wish.mayBe. -/
theorem pz_may_ (v : Wi) (w : World) : Says Try.prog 32 #[.agg #[.int .u8 v.pr, .int .u32 v.ii, .int .u16 v.ip, .int .u32 v.oi, .int .u16 v.fr, .int .u16 v.to, .int .u16 v.dr]] w (.bool (decide v.may)) := by
  have B1 : Below w.heap.size w (w.alloc (.cells #[.int .u8 v.pr, .int .u32 v.ii, .int .u16 v.ip, .int .u32 v.oi, .int .u16 v.fr, .int .u16 v.to, .int .u16 v.dr] 36)) := (Below.refl _ _).alloc (Nat.le_refl _) _
  show Calls _ _ _ _ _
  by_cases h1 : 1 ≤ v.fr
  · by_cases h2 : v.fr ≤ v.to
    · have HV : Hid (decide v.may = true) := decide_eq_true ⟨by omega, h2⟩
      have t1 : decide (1 ≤ v.fr) = true := decide_eq_true h1
      have t2 : decide (v.fr ≤ v.to) = true := decide_eq_true h2
      go_enter Try.func32, Try.ntmps32
      go_wp2
      go_ret
      rw [HV.out]
      exact ⟨rfl, B1⟩
    · have HV : Hid (decide v.may = false) := decide_eq_false fun e => h2 e.2
      have t1 : decide (1 ≤ v.fr) = true := decide_eq_true h1
      have t2 : decide (v.fr ≤ v.to) = false := decide_eq_false h2
      go_enter Try.func32, Try.ntmps32
      go_wp2
      go_ret
      rw [HV.out]
      exact ⟨rfl, B1⟩
  · have HV : Hid (decide v.may = false) := decide_eq_false fun e => h1 (by have := e.1; omega)
    have t1 : decide (1 ≤ v.fr) = false := decide_eq_false h1
    go_enter Try.func32, Try.ntmps32
    go_wp2
    go_ret
    rw [HV.out]
    exact ⟨rfl, B1⟩
/-- Is a port one of those? -/
def Wi.hasB (v : Wi) (k : Int) : Bool := decide (v.fr ≤ k) && decide (k ≤ v.to)
theorem Wi.hasB_iff (v : Wi) (k : Int) : v.hasB k = true ↔ v.fr ≤ k ∧ k ≤ v.to := by unfold hasB; rw [Bool.and_eq_true, decide_eq_true_iff, decide_eq_true_iff]
set_option maxHeartbeats 1000000 in
/-- Wish.has. -/
theorem pz_has_ (v : Wi) (k : Int) (w : World) : Says Try.prog 47 #[.agg #[.int .u8 v.pr, .int .u32 v.ii, .int .u16 v.ip, .int .u32 v.oi, .int .u16 v.fr, .int .u16 v.to, .int .u16 v.dr], .int .u16 k] w (.bool (v.hasB k)) := by
  have B1 : Below w.heap.size w (w.alloc (.cells #[.int .u8 v.pr, .int .u32 v.ii, .int .u16 v.ip, .int .u32 v.oi, .int .u16 v.fr, .int .u16 v.to, .int .u16 v.dr] 36)) := (Below.refl _ _).alloc (Nat.le_refl _) _
  show Calls _ _ _ _ _
  cases t1 : decide (v.fr ≤ k) with
  | true =>
    have HV : Hid (v.hasB k = decide (k ≤ v.to)) := by show _ = _; unfold Wi.hasB; rw [t1]; rfl
    go_enter Try.func47, Try.ntmps47
    go_wp2
    go_ret
    rw [HV.out]
    exact ⟨rfl, B1⟩
  | false =>
    have HV : Hid (v.hasB k = false) := by show _ = _; unfold Wi.hasB; rw [t1]; rfl
    go_enter Try.func47, Try.ntmps47
    go_wp2
    go_ret
    rw [HV.out]
    exact ⟨rfl, B1⟩
set_option maxHeartbeats 1000000 in
/-- Wish.fits. -/
theorem pz_fits_ (v : Wi) (oi op : Int) (w : World) : Says Try.prog 33 #[.agg #[.int .u8 v.pr, .int .u32 v.ii, .int .u16 v.ip, .int .u32 v.oi, .int .u16 v.fr, .int .u16 v.to, .int .u16 v.dr], .agg #[.int .u32 oi, .int .u16 op]] w (.bool (oi == v.oi && v.hasB op)) := by
  have B1 : Below w.heap.size w ((w.alloc (.cells #[.int .u8 v.pr, .int .u32 v.ii, .int .u16 v.ip, .int .u32 v.oi, .int .u16 v.fr, .int .u16 v.to, .int .u16 v.dr] 36)).alloc (.cells #[.int .u32 oi, .int .u16 op] 34)) := ((Below.refl _ _).alloc (Nat.le_refl _) _).alloc (by simp) _
  show Calls _ _ _ _ _
  have kh := fun u => pz_has_ v op u
  generalize v.hasB op = q at *
  cases t1 : (oi == v.oi) with
  | true =>
    go_enter Try.func33, Try.ntmps33
    go_wp2_with (go_at_call 47; refine (kh _).mono ?_; rintro e w2 ⟨rfl, b2⟩)
    go_ret
    exact ⟨rfl, B1.trans (b2.mono B1.size)⟩
  | false =>
    go_enter Try.func33, Try.ntmps33
    go_wp2_with (go_at_call 47; refine (kh _).mono ?_; rintro e w2 ⟨rfl, b2⟩)
    go_ret
    exact ⟨rfl, B1⟩
end Go.Proofs.Ytbbadpidolfleaa
