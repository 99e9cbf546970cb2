/- Texts of this proof, together: WheAct, WheH, WheN, WheO, WheOM. -/
import Derived.Test.YtmephmjlajaopaaCells
import Derived.Test.YtmephmjlajaopaaWe
import Derived.Test.YtmephmjlajaopaaWd
import Derived.Test.YtmephmjlajaopaaWheP
import Derived.Test.YtmephmjlajaopaaArr
import Derived.Deep.CutBlock
namespace Go.Proofs.Ytmephmjlajaopaa
set_option linter.unusedVariables false
set_option linter.unusedSimpArgs false
open Go.ChangeShapes Go.WideShapes Go.ChangeAt Go.RowKit
structure A15 where
  kd : Int
  hh : Int
  bb : Int
  rs : Int
  rg : Int
  n : Int
structure A15.Ok (x : A15) : Prop where
  kd : (Lit.int .u8 x.kd).wf = true
  hh : (Lit.int .u8 x.hh).wf = true
  bb : (Lit.int .u16 x.bb).wf = true
  rs : (Lit.int .i64 x.rs).wf = true
  rg : (Lit.int .u32 x.rg).wf = true
  n : (Lit.int .i64 x.n).wf = true
def A15.zero : A15 := ⟨0, 0, 0, 0, 0, 0⟩
def A15C (w : World) (b o : Nat) (x : A15) : Prop := w.cell? ⟨b, o, none⟩ = some (.int .u8 x.kd) ∧ w.cell? ⟨b, o + 1, none⟩ = some (.int .u8 x.hh) ∧ w.cell? ⟨b, o + 2, none⟩ = some (.int .u16 x.bb) ∧ w.cell? ⟨b, o + 3, none⟩ = some (.int .i64 x.rs) ∧ w.cell? ⟨b, o + 4, none⟩ = some (.int .u32 x.rg) ∧ w.cell? ⟨b, o + 5, none⟩ = some (.int .i64 x.n)
theorem A15C.on {w w' : World} {b o : Nat} {x : A15} (h : A15C w b o x) (hb : b < w.heap.size) (k : Below w.heap.size w w') : A15C w' b o x := by
  obtain ⟨h0, h1, h2, h3, h4, h5⟩ := h
  exact ⟨(k.cell (p := ⟨b, o, none⟩) hb).trans h0, (k.cell (p := ⟨b, o + 1, none⟩) hb).trans h1, (k.cell (p := ⟨b, o + 2, none⟩) hb).trans h2, (k.cell (p := ⟨b, o + 3, none⟩) hb).trans h3, (k.cell (p := ⟨b, o + 4, none⟩) hb).trans h4, (k.cell (p := ⟨b, o + 5, none⟩) hb).trans h5⟩
structure A15At (w : World) (a : Option Addr) (len : Nat) (l : List A15) : Prop where
  cnt : l.length = len
  ok : ∀ x ∈ l, x.Ok
  cells : len = 0 ∨ ∃ b off, a = some ⟨b, off, none⟩ ∧ b < w.heap.size ∧ ∀ i, i < len → A15C w b (off + i * 6) (l.getD i A15.zero)
theorem A15At.on {w w' : World} {a : Option Addr} {len : Nat} {l : List A15} (h : A15At w a len l) (k : Below w.heap.size w w') : A15At w' a len l :=
  ⟨h.cnt, h.ok, h.cells.imp id fun ⟨b, off, e, hb, hc⟩ => ⟨b, off, e, Nat.lt_of_lt_of_le hb k.size, fun i hi => (hc i hi).on hb k⟩⟩
theorem A15At.okAt {w : World} {a : Option Addr} {len : Nat} {l : List A15} (h : A15At w a len l) {i : Nat} (hi : i < len) : (l.getD i A15.zero).Ok := by
  refine h.ok _ ?_
  rw [List.getD_eq_getElem?_getD, List.getElem?_eq_getElem (by rw [h.cnt]; exact hi)]
  exact List.getElem_mem _
section
variable {H : Type} {enc : TypeId × Value → H} {w : World} {base : Nat} {spare : Nat → Bool} {held : Bool}
set_option maxRecDepth 100000 in
theorem A15_of {n : Nat} {zs : List Value} {y : DataW H × List MemPlace} (hl : zs.length = 6) (h : DataW.trod enc Try.prog w base spare held n 36 zs = some y) : ∃ x : A15, x.Ok ∧ zs = [.int .u8 x.kd, .int .u8 x.hh, .int .u16 x.bb, .int .i64 x.rs, .int .u32 x.rg, .int .i64 x.n] := by
  obtain ⟨c0, c1, c2, c3, c4, c5, rfl⟩ : ∃ c0 c1 c2 c3 c4 c5, zs = [c0, c1, c2, c3, c4, c5] := by
    match zs, hl with
    | [c0, c1, c2, c3, c4, c5], _ => exact ⟨c0, c1, c2, c3, c4, c5, rfl⟩
  obtain ⟨_, _, t0⟩ := nest_at Try.underlying36 h 0 _ rfl [c0] (by kernel_rfl)
  obtain ⟨z0, e0, -, w0⟩ := DataW.trod_int Try.underlying5 t0
  obtain rfl : c0 = .int .u8 z0 := by simpa using e0
  obtain ⟨_, _, t1⟩ := nest_at Try.underlying36 h 1 _ rfl [c1] (by kernel_rfl)
  obtain ⟨z1, e1, -, w1⟩ := DataW.trod_int Try.underlying5 t1
  obtain rfl : c1 = .int .u8 z1 := by simpa using e1
  obtain ⟨_, _, t2⟩ := nest_at Try.underlying36 h 2 _ rfl [c2] (by kernel_rfl)
  obtain ⟨z2, e2, -, w2⟩ := DataW.trod_int Try.underlying31 t2
  obtain rfl : c2 = .int .u16 z2 := by simpa using e2
  obtain ⟨_, _, s3⟩ := nest_at Try.underlying36 h 3 _ rfl [c3, c4] (by kernel_rfl)
  obtain ⟨_, _, t3⟩ := nest_at Try.underlying34 s3 0 _ rfl [c3] (by kernel_rfl)
  obtain ⟨z3, e3, -, w3⟩ := DataW.trod_int Try.underlying3 t3
  obtain rfl : c3 = .int .i64 z3 := by simpa using e3
  obtain ⟨_, _, t4⟩ := nest_at Try.underlying34 s3 1 _ rfl [c4] (by kernel_rfl)
  obtain ⟨z4, e4, -, w4⟩ := DataW.trod_int Try.underlying32 t4
  obtain rfl : c4 = .int .u32 z4 := by simpa using e4
  obtain ⟨_, _, t5⟩ := nest_at Try.underlying36 h 4 _ rfl [c5] (by kernel_rfl)
  obtain ⟨z5, e5, -, w5⟩ := DataW.trod_int Try.underlying3 t5
  obtain rfl : c5 = .int .i64 z5 := by simpa using e5
  exact ⟨⟨z0, z1, z2, z3, z4, z5⟩, ⟨w0, w1, w2, w3, w4, w5⟩, rfl⟩
theorem open_A15 {t : TypeId} {fuel : Nat} {a : Option Addr} {len cap : Nat} {x : DataW H × List MemPlace} (ht : Try.prog.underlying t = some (.slice 36))
    (h : DataW.trod enc Try.prog w base spare held fuel t [.slice a len cap] = some x) : len ≤ maxLen ∧ ∃ l, A15At w a len l := by
  rcases openCells ht (N := 6) (by kernel_rfl) (by omega) h with h0 | ⟨x, len', cap', h0, h1, h2, hr⟩
  · simp at h0
    obtain ⟨rfl, rfl, rfl⟩ := h0
    exact ⟨Nat.zero_le _, [], rfl, by simp, .inl rfl⟩
  · simp at h0
    obtain ⟨rfl, rfl, rfl⟩ := h0
    refine ⟨by omega, ?_⟩
    rcases hr with rfl | ⟨b, off, rfl, hb, n, hr⟩
    · exact ⟨[], rfl, by simp, .inl rfl⟩
    · obtain ⟨l, hl, hq⟩ := listOf A15.zero (fun i d => d.Ok ∧ A15C w b (off + i * 6) d) len (fun i hi => by
        obtain ⟨zs, y, l1, c1, t1⟩ := hr i hi
        obtain ⟨d, hd, rfl⟩ := A15_of l1 t1
        exact ⟨d, hd, c1 0 (by omega), c1 1 (by omega), c1 2 (by omega), c1 3 (by omega), c1 4 (by omega), c1 5 (by omega)⟩)
      refine ⟨l, hl, fun d hd => ?_, .inr ⟨b, off, rfl, hb, fun i hi => (hq i hi).2⟩⟩
      obtain ⟨i, hi, rfl⟩ := List.getElem_of_mem hd
      have := (hq i (by omega)).1
      rw [List.getD_eq_getElem?_getD, List.getElem?_eq_getElem hi] at this
      exact this
end
end Go.Proofs.Ytmephmjlajaopaa

namespace Go.Proofs.Ytmephmjlajaopaa
set_option linter.unusedVariables false
set_option linter.unusedSimpArgs false
open Go.ChangeShapes Go.WideShapes Go.ChangeAt Go.RowKit Go.PlainAid
/-- A handle's box. -/
structure HBox (w : World) (hb : Nat) (s g : Int) : Prop where
  lt : hb < w.heap.size
  c0 : w.cell? ⟨hb, 0, none⟩ = some (.int .i64 s)
  c1 : w.cell? ⟨hb, 1, none⟩ = some (.int .u32 g)
  fz : ∀ i, w.frozen? ⟨hb, i, none⟩ = false
theorem HBox.on {w w' : World} {hb : Nat} {s g : Int} (h : HBox w hb s g) (b : Below w.heap.size w w') : HBox w' hb s g :=
  ⟨Nat.lt_of_lt_of_le h.lt b.size, (b.cell (p := ⟨hb, 0, none⟩) h.lt).trans h.c0, (b.cell (p := ⟨hb, 1, none⟩) h.lt).trans h.c1, fun i => (b.frozen (p := ⟨hb, i, none⟩) h.lt).trans (h.fz i)⟩
theorem HBox.by {S : Nat → Prop} {w w' : World} {hb : Nat} {s g : Int} (h : HBox w hb s g) (b : Beside S w w') (hn : ¬ S hb) : HBox w' hb s g :=
  ⟨Nat.lt_of_lt_of_le h.lt b.size, (b.cell (p := ⟨hb, 0, none⟩) h.lt hn).trans h.c0, (b.cell (p := ⟨hb, 1, none⟩) h.lt hn).trans h.c1, fun i => (b.frozen (p := ⟨hb, i, none⟩) h.lt hn).trans (h.fz i)⟩
/-- Another handle is stored into it. -/
theorem HBox.set {w : World} {hb : Nat} {s g : Int} (h : HBox w hb s g) (s' g' : Int) : HBox ((w.setCell ⟨hb, 0, none⟩ (.int .i64 s')).setCell ⟨hb, 1, none⟩ (.int .u32 g')) hb s' g' := by
  have c0 := h.c0
  have c1 := h.c1
  refine ⟨by simpa [World.setCell] using h.lt, by simp [go_sem, c0, c1], by simp [go_sem, c0, c1], fun i => by rw [World.frozen?_setCell, World.frozen?_setCell]; exact h.fz i⟩
theorem HBox.made (w : World) (T : TypeId) (s g : Int) : HBox (w.alloc (.cells #[.int .i64 s, .int .u32 g] T)) w.heap.size s g := ⟨by simp, by simp [go_sem], by simp [go_sem], fun i => by simp [go_sem]⟩
/-- What the law still reads of its act. -/
structure XBox (w : World) (xb : Nat) (kd rs rg nn : Int) : Prop where
  lt : xb < w.heap.size
  c0 : w.cell? ⟨xb, 0, none⟩ = some (.int .u8 kd)
  c3 : w.cell? ⟨xb, 3, none⟩ = some (.int .i64 rs)
  c4 : w.cell? ⟨xb, 4, none⟩ = some (.int .u32 rg)
  c5 : w.cell? ⟨xb, 5, none⟩ = some (.int .i64 nn)
theorem XBox.on {w w' : World} {xb : Nat} {kd rs rg nn : Int} (h : XBox w xb kd rs rg nn) (b : Below w.heap.size w w') : XBox w' xb kd rs rg nn :=
  ⟨Nat.lt_of_lt_of_le h.lt b.size, (b.cell (p := ⟨xb, 0, none⟩) h.lt).trans h.c0, (b.cell (p := ⟨xb, 3, none⟩) h.lt).trans h.c3, (b.cell (p := ⟨xb, 4, none⟩) h.lt).trans h.c4, (b.cell (p := ⟨xb, 5, none⟩) h.lt).trans h.c5⟩
theorem XBox.by {S : Nat → Prop} {w w' : World} {xb : Nat} {kd rs rg nn : Int} (h : XBox w xb kd rs rg nn) (b : Beside S w w') (hn : ¬ S xb) : XBox w' xb kd rs rg nn :=
  ⟨Nat.lt_of_lt_of_le h.lt b.size, (b.cell (p := ⟨xb, 0, none⟩) h.lt hn).trans h.c0, (b.cell (p := ⟨xb, 3, none⟩) h.lt hn).trans h.c3, (b.cell (p := ⟨xb, 4, none⟩) h.lt hn).trans h.c4, (b.cell (p := ⟨xb, 5, none⟩) h.lt hn).trans h.c5⟩
theorem HBox.wrote (w : World) (hb : Nat) (s g : Int) : Beside (fun k => k = hb) w ((w.setCell ⟨hb, 0, none⟩ (.int .i64 s)).setCell ⟨hb, 1, none⟩ (.int .u32 g)) :=
  ((Beside.refl (fun k => k = hb) w).setCell (p := ⟨hb, 0, none⟩) (show hb = hb from rfl) _).setCell (p := ⟨hb, 1, none⟩) (show hb = hb from rfl) _
section
variable {X Y : Type}
/-- Two objects, and a handle's box. -/
structure PairH (A : ObjP X) (C : ObjP Y) (w0 w : World) (S T : Nat → Prop) (p q : Nat) (x : X) (y : Y) (hb : Nat) (s g : Int) : Prop where
  pr : Pair A C w0 w S T p q x y
  bx : HBox w hb s g
  lo : w0.heap.size ≤ hb
  nS : ¬ S hb
  nT : ¬ T hb
variable {A : ObjP X} {C : ObjP Y} {w0 w w' : World} {S T S' T' : Nat → Prop} {p q hb : Nat} {x x' : X} {y y' : Y} {s g : Int}
theorem PairH.on (h : PairH A C w0 w S T p q x y hb s g) (b : Below w.heap.size w w') : PairH A C w0 w' S T p q x y hb s g := ⟨h.pr.on b, h.bx.on b, h.lo, h.nS, h.nT⟩
theorem PairH.one (h : PairH A C w0 w S T p q x y hb s g) (hr : A.Rep w' S' p x') (hf : Fresh w S S') (b : Beside S w w') : PairH A C w0 w' S' T p q x' y hb s g := ⟨h.pr.one hr hf b, h.bx.by b h.nS, h.lo, hf.not h.bx.lt h.nS, h.nT⟩
theorem PairH.two (h : PairH A C w0 w S T p q x y hb s g) (hr : C.Rep w' T' q y') (hf : Fresh w T T') (b : Beside T w w') : PairH A C w0 w' S T' p q x y' hb s g := ⟨h.pr.two hr hf b, h.bx.by b h.nT, h.lo, h.nS, hf.not h.bx.lt h.nT⟩
/-- The handle is another one. -/
theorem PairH.set (h : PairH A C w0 w S T p q x y hb s g) (s' g' : Int) : PairH A C w0 ((w.setCell ⟨hb, 0, none⟩ (.int .i64 s')).setCell ⟨hb, 1, none⟩ (.int .u32 g')) S T p q x y hb s' g' := by
  have b : Beside (fun k => k = hb) w ((w.setCell ⟨hb, 0, none⟩ (.int .i64 s')).setCell ⟨hb, 1, none⟩ (.int .u32 g')) := ((Beside.refl (fun k => k = hb) w).setCell (p := ⟨hb, 0, none⟩) (show hb = hb from rfl) _).setCell (p := ⟨hb, 1, none⟩) (show hb = hb from rfl) _
  refine ⟨⟨A.by h.pr.fst b (fun k hk e => h.nS (e ▸ hk)), C.by h.pr.snd b (fun k hk e => h.nT (e ▸ hk)), h.pr.ap, h.pr.la, h.pr.lb, b.after h.pr.below h.pr.below.size (fun k _ e => e ▸ h.lo)⟩, h.bx.set s' g', h.lo, h.nS, h.nT⟩
end
/-- The next tick that the law asks for. -/
def tickN (last b : Nat) : Nat := min (last + b) 1099511627776
theorem tick_facts {last b : Nat} (h1 : (last : Int) ≤ Wh.max) (h2 : b ≤ 65535) : IntKind.i64.wrap (b : Int) = (b : Int) ∧ wrap64 ((last : Int) + (b : Int)) = ((last + b : Nat) : Int) ∧ IntKind.i64.wrap ((last : Int) + (b : Int)) = ((last + b : Nat) : Int) ∧ last ≤ tickN last b ∧ tickN last b ≤ 1099511627776 ∧ (if (1099511627776 : Int) < ((last + b : Nat) : Int) then (1099511627776 : Int) else ((last + b : Nat) : Int)) = ((tickN last b : Nat) : Int) := by
  unfold Wh.max at h1
  unfold tickN
  refine ⟨IntWalk.i64_in _ (by omega), ?_, ?_, by omega, by omega, by split <;> omega⟩
  · rw [IntWalk.wrap64_in _ (by omega)]; omega
  · rw [IntWalk.i64_in _ (by omega)]; omega
theorem nine {z k : Int} (h0 : 0 ≤ z) (h : z.tmod 9 = k) : k = 0 ∨ k = 1 ∨ k = 2 ∨ k = 3 ∨ k = 4 ∨ k = 5 ∨ k = 6 ∨ k = 7 ∨ k = 8 := by
  rw [Int.tmod_eq_emod_of_nonneg h0] at h
  omega
end Go.Proofs.Ytmephmjlajaopaa

namespace Go.Proofs.Ytmephmjlajaopaa
set_option linter.unusedVariables false
set_option linter.unusedSimpArgs false
open Wh
/-- What the wheel has is from the list of dues: a slot is a place in it. -/
structure Nx (x : Wh) (zs : List Int) : Prop where
  ok : x.Ok
  at_ : ∀ t ∈ x.l, 0 ≤ t.s ∧ t.s < (zs.length : Int) ∧ t.g = 0 ∧ (t.d : Int) = zs.getD t.s.toNat 0
  ls : x.last = 0 ∨ ∀ t ∈ x.l, x.last < t.d
namespace Nx
variable {x : Wh} {zs : List Int}
theorem new (zs : List Int) : Nx Wh.new zs := ⟨Wh.Ok.new, fun t h => absurd h List.not_mem_nil, .inl rfl⟩
/-- One more is put. -/
theorem put (h : Nx x zs) {i : Nat} (hl : x.last = 0) (hs : ∀ t ∈ x.l, t.s < (i : Int)) (hi : i < zs.length) (h0 : 0 ≤ zs.getD i 0) (h1 : zs.getD i 0 ≤ 4294967295) :
    x.putE (i : Int) 0 (zs.getD i 0) = 0 ∧ Nx (x.putT (i : Int) 0 (zs.getD i 0)) zs ∧ (x.putT (i : Int) 0 (zs.getD i 0)).last = 0 ∧ (x.putT (i : Int) 0 (zs.getD i 0)).l.length = x.l.length + 1 ∧ ∀ t ∈ (x.putT (i : Int) 0 (zs.getD i 0)).l, t.s < ((i + 1 : Nat) : Int) := by
  have hm : Wh.mayD (zs.getD i 0) := ⟨h0, by unfold Wh.max; omega⟩
  have hh : x.has (i : Int) 0 = false := by
    refine List.any_eq_false.2 fun t ht e => ?_
    have := hs t ht
    have := ((t.is_iff _ _).1 e).1
    omega
  have e : x.putT (i : Int) 0 (zs.getD i 0) = { x with l := ins x.l ⟨i, 0, (zs.getD i 0).toNat⟩ } := by unfold Wh.putT; rw [if_pos hm, hh]; rfl
  have ok := h.ok.put (s := (i : Int)) (g := 0) (n := zs.getD i 0) (by decide) (by decide)
  rw [e] at ok ⊢
  refine ⟨by unfold Wh.putE; rw [if_pos hm, hh]; rfl, ⟨ok, fun t ht => ?_, .inl hl⟩, hl, ins_len _ _, fun t ht => ?_⟩
  · rcases ins_mem.1 ht with rfl | ht
    · refine ⟨Int.natCast_nonneg _, Int.ofNat_lt.2 hi, rfl, ?_⟩
      show (((zs.getD i 0).toNat : Nat) : Int) = zs.getD ((i : Int).toNat) 0
      rw [Int.toNat_natCast, Int.toNat_of_nonneg h0]
    · exact h.at_ t ht
  · rcases ins_mem.1 ht with rfl | ht
    · show (i : Int) < ((i + 1 : Nat) : Int); omega
    · have := hs t ht; omega
/-- The first one. -/
theorem first (h : Nx x zs) (hp : 0 < x.l.length) : x.nextB = true ∧ (∀ t ∈ x.l, x.nextN ≤ t.d) ∧ (∃ t ∈ x.l, t.d = x.nextN) := by
  obtain ⟨la, l⟩ := x
  cases l with
  | nil => exact absurd hp (Nat.lt_irrefl _)
  | cons a l =>
    refine ⟨rfl, fun t ht => ?_, a, List.mem_cons_self .., rfl⟩
    show a.d ≤ t.d
    rcases List.mem_cons.1 ht with rfl | ht
    · exact Nat.le_refl _
    · exact Ti.ahead_le ((List.pairwise_cons.1 h.ok.st).1 t ht)
theorem none_ (x : Wh) (hp : x.l.length = 0) : x.nextB = false ∧ x.nextN = 0 := by
  obtain ⟨la, l⟩ := x
  cases l with
  | nil => exact ⟨rfl, rfl⟩
  | cons a l => cases hp
theorem next_le (h : Nx x zs) (hp : 0 < x.l.length) (hz : ∀ z ∈ zs, 0 ≤ z ∧ z ≤ 4294967295) : x.nextN ≤ 4294967295 := by
  obtain ⟨_, _, t, ht, e⟩ := h.first hp
  obtain ⟨h0, h1, _, h3⟩ := h.at_ t ht
  have hlt : t.s.toNat < zs.length := by omega
  rw [List.getD_eq_getElem?_getD, List.getElem?_eq_getElem hlt] at h3
  have := (hz _ (List.getElem_mem hlt)).2
  have h4 : (t.d : Int) = zs[t.s.toNat] := h3
  omega
/-- A Turn to a tick ahead of the first one tells none. -/
theorem ahead (h : Nx x zs) (hp : 0 < x.l.length) (hn : 0 < x.nextN) : x.turnE ((x.nextN : Int) - 1) = 0 ∧ x.turnL ((x.nextN : Int) - 1) = [] ∧ (x.turnT ((x.nextN : Int) - 1)).l = x.l ∧ Nx (x.turnT ((x.nextN : Int) - 1)) zs ∧ (x.turnT ((x.nextN : Int) - 1)).nextN = x.nextN := by
  obtain ⟨_, h2, t, ht, e⟩ := h.first hp
  have hd := (h.ok.low t ht).1
  have hlast : (x.last : Int) ≤ (x.nextN : Int) - 1 := by
    rcases h.ls with h | h
    · rw [h]; omega
    · have := h t ht; omega
  have hm : x.mayT ((x.nextN : Int) - 1) := ⟨hlast, by omega⟩
  have hf : ∀ u ∈ x.l, decide ((u.d : Int) ≤ (x.nextN : Int) - 1) = false := fun u hu => decide_eq_false (by have := h2 u hu; omega)
  have e1 : (x.turnT ((x.nextN : Int) - 1)) = ⟨((x.nextN : Int) - 1).toNat, x.l⟩ := by
    unfold Wh.turnT
    rw [if_pos hm, List.filter_eq_self.2 fun u hu => by rw [hf u hu]; rfl]
  have ok := h.ok.turn ((x.nextN : Int) - 1)
  rw [e1] at ok ⊢
  refine ⟨by unfold Wh.turnE; rw [if_pos hm], ?_, rfl, ⟨ok, h.at_, .inr fun u hu => ?_⟩, rfl⟩
  · unfold Wh.turnL
    rw [if_pos hm]
    exact List.filter_eq_nil_iff.2 fun u hu => by rw [hf u hu]; decide
  · show ((x.nextN : Int) - 1).toNat < u.d
    have := h2 u hu
    omega
/-- What a Turn to it tells. -/
structure Told15 (L : List (Int × Int)) (zs : List Int) (n : Nat) : Prop where
  at_ : ∀ p ∈ L, 0 ≤ p.1 ∧ p.1 < (zs.length : Int) ∧ zs.getD p.1.toNat 0 = (n : Int)
  st : L.Pairwise fun a b => a.1 < b.1
theorem turn (h : Nx x zs) (hp : 0 < x.l.length) : x.turnE (x.nextN : Int) = 0 ∧ 0 < (x.turnL (x.nextN : Int)).length ∧ (x.turnL (x.nextN : Int)).length + (x.turnT (x.nextN : Int)).l.length = x.l.length ∧ Nx (x.turnT (x.nextN : Int)) zs ∧ Told15 ((x.turnL (x.nextN : Int)).map fun t => (t.s, t.g)) zs x.nextN := by
  obtain ⟨_, h2, t, ht, e⟩ := h.first hp
  have hd := (h.ok.low t ht).1
  have hm : x.mayT (x.nextN : Int) := ⟨by
    rcases h.ls with h | h
    · rw [h]; omega
    · have := h t ht; omega, by omega⟩
  have e1 : x.turnL (x.nextN : Int) = x.l.filter fun t => decide ((t.d : Int) ≤ (x.nextN : Int)) := by unfold Wh.turnL; rw [if_pos hm]
  have e2 : x.turnT (x.nextN : Int) = ⟨x.nextN, x.l.filter fun t => !decide ((t.d : Int) ≤ (x.nextN : Int))⟩ := by unfold Wh.turnT; rw [if_pos hm]; rfl
  have ok := h.ok.turn (x.nextN : Int)
  rw [e2] at ok
  rw [e1, e2]
  have hd2 : ∀ u ∈ x.l.filter (fun t => decide ((t.d : Int) ≤ (x.nextN : Int))), u.d = x.nextN ∧ u ∈ x.l := fun u hu => by
    obtain ⟨m1, m2⟩ := List.mem_filter.1 hu
    have := of_decide_eq_true m2
    have := h2 u m1
    exact ⟨by omega, m1⟩
  refine ⟨by unfold Wh.turnE; rw [if_pos hm], List.length_pos_of_mem (List.mem_filter.2 ⟨ht, decide_eq_true (by omega)⟩), ?_, ⟨ok, fun u hu => h.at_ u (List.mem_filter.1 hu).1, .inr fun u hu => ?_⟩, ⟨fun p hp => ?_, ?_⟩⟩
  · show (x.l.filter _).length + (x.l.filter _).length = x.l.length
    generalize x.l = l
    induction l with
    | nil => rfl
    | cons a l ih =>
      rw [List.filter_cons, List.filter_cons]
      cases hq : decide ((a.d : Int) ≤ (x.nextN : Int)) with
      | true => simp only [if_true, Bool.not_true, List.length_cons]; simp; simp at ih; omega
      | false => simp only [Bool.not_false, if_true, List.length_cons]; simp; simp at ih; omega
  · obtain ⟨m1, m2⟩ := List.mem_filter.1 hu
    have m3 : ¬ (u.d : Int) ≤ (x.nextN : Int) := by simpa using m2
    show x.nextN < u.d
    omega
  · obtain ⟨u, hu, rfl⟩ := List.mem_map.1 hp
    obtain ⟨m1, m2⟩ := hd2 u hu
    obtain ⟨a1, a2, a3, a4⟩ := h.at_ u m2
    refine ⟨a1, a2, ?_⟩
    rw [← a4, m1]
  · rw [List.pairwise_map]
    refine List.Pairwise.imp_of_mem (fun {a b} ha hb hab => ?_) (h.ok.st.sublist List.filter_sublist)
    obtain ⟨m1, m2⟩ := hd2 a ha
    obtain ⟨m3, m4⟩ := hd2 b hb
    rw [Ti.ahead_iff] at hab
    have g1 := (h.at_ a m2).2.2.1
    have g2 := (h.at_ b m4).2.2.1
    show a.s < b.s
    omega
end Nx
end Go.Proofs.Ytmephmjlajaopaa

namespace Go.Proofs.Ytmephmjlajaopaa
set_option linter.unusedVariables false
set_option linter.unusedSimpArgs false
open Wh
/-- A handle's number, of few. -/
def kOf (t : Ti) : Nat := (t.s * 3 + t.g).toNat
/-- When the handle of a number is due; -1: it is not there. -/
def dueK (l : List Ti) (k : Nat) : Int := match l.find? fun t => decide (kOf t = k) with | some t => (t.d : Int) | none => -1
/-- What the wheel has is of few handles. -/
structure On (x : Wh) : Prop where
  ok : x.Ok
  rng : ∀ t ∈ x.l, 0 ≤ t.s ∧ t.s ≤ 5 ∧ 0 ≤ t.g ∧ t.g ≤ 2
theorem kOf_lt {t : Ti} (h : 0 ≤ t.s ∧ t.s ≤ 5 ∧ 0 ≤ t.g ∧ t.g ≤ 2) : kOf t < 18 ∧ ((kOf t : Nat) : Int) = t.s * 3 + t.g := by unfold kOf; omega
theorem kOf_inj {t u : Ti} (h : 0 ≤ t.s ∧ t.s ≤ 5 ∧ 0 ≤ t.g ∧ t.g ≤ 2) (h' : 0 ≤ u.s ∧ u.s ≤ 5 ∧ 0 ≤ u.g ∧ u.g ≤ 2) (e : kOf t = kOf u) : t.s = u.s ∧ t.g = u.g := by
  have := (kOf_lt h).2
  have := (kOf_lt h').2
  omega
/-- Lists of timers whose handles are all unlike, of few. -/
structure Few (l : List Ti) : Prop where
  nd : l.Pairwise fun a b => ¬ (a.s = b.s ∧ a.g = b.g)
  rng : ∀ t ∈ l, 0 ≤ t.s ∧ t.s ≤ 5 ∧ 0 ≤ t.g ∧ t.g ≤ 2
theorem On.few {x : Wh} (h : On x) : Few x.l := ⟨h.ok.nd, h.rng⟩
namespace Few
variable {l : List Ti}
theorem nil : Few [] := ⟨List.Pairwise.nil, fun t h => absurd h List.not_mem_nil⟩
theorem same (h : Few l) {t u : Ti} (ht : t ∈ l) (hu : u ∈ l) (e : kOf t = kOf u) : t = u := by
  obtain ⟨e1, e2⟩ := kOf_inj (h.rng t ht) (h.rng u hu) e
  obtain ⟨i, hi, rfl⟩ := List.mem_iff_getElem.1 ht
  obtain ⟨j, hj, rfl⟩ := List.mem_iff_getElem.1 hu
  rcases Nat.lt_trichotomy i j with hij | hij | hij
  · exact absurd ⟨e1, e2⟩ (List.pairwise_iff_getElem.1 h.nd i j hi hj hij)
  · subst hij; rfl
  · exact absurd ⟨e1.symm, e2.symm⟩ (List.pairwise_iff_getElem.1 h.nd j i hj hi hij)
theorem due_mem (h : Few l) {t : Ti} (ht : t ∈ l) : dueK l (kOf t) = (t.d : Int) := by
  unfold dueK
  cases hq : l.find? fun u => decide (kOf u = kOf t) with
  | none => exact absurd (decide_eq_true rfl) (List.find?_eq_none.1 hq t ht)
  | some u =>
    have h1 := List.find?_some hq
    have h2 := List.mem_of_find?_eq_some hq
    have := h.same h2 ht (of_decide_eq_true h1)
    subst this
    rfl
theorem due_no {k : Nat} (hn : ∀ t ∈ l, kOf t ≠ k) : dueK l k = -1 := by
  unfold dueK
  rw [List.find?_eq_none.2 fun t ht => by simpa using hn t ht]
theorem due_iff (h : Few l) (k : Nat) : 0 ≤ dueK l k ↔ ∃ t ∈ l, kOf t = k := by
  refine ⟨fun h0 => ?_, fun ⟨t, ht, e⟩ => by rw [← e, h.due_mem ht]; exact Int.natCast_nonneg _⟩
  by_cases hn : ∃ t ∈ l, kOf t = k
  · exact hn
  · rw [due_no fun t ht e => hn ⟨t, ht, e⟩] at h0
    omega
theorem due_low (h : Few l) (k : Nat) : dueK l k = -1 ∨ 0 ≤ dueK l k := by
  by_cases hn : ∃ t ∈ l, kOf t = k
  · exact .inr ((h.due_iff k).2 hn)
  · exact .inl (due_no fun t ht e => hn ⟨t, ht, e⟩)
theorem sub (h : Few l) {l' : List Ti} (hs : l'.Sublist l) : Few l' := ⟨h.nd.sublist hs, fun t ht => h.rng t (hs.subset ht)⟩
/-- How many are there. -/
theorem count (h : Few l) : (List.range 18).countP (fun k => decide (0 ≤ dueK l k)) = l.length := by
  induction l with
  | nil => rfl
  | cons a l ih =>
    obtain ⟨n1, n2⟩ := List.pairwise_cons.1 h.nd
    have hl : Few l := ⟨n2, fun t ht => h.rng t (List.mem_cons_of_mem _ ht)⟩
    have ha := h.rng a (List.mem_cons_self ..)
    have hk := (kOf_lt ha).1
    have hno : ∀ t ∈ l, kOf t ≠ kOf a := fun t ht e => n1 t ht (by
      have := kOf_inj (hl.rng t ht) ha e
      exact ⟨this.1.symm, this.2.symm⟩)
    have e : ∀ k, decide (0 ≤ dueK (a :: l) k) = (decide (k = kOf a) || decide (0 ≤ dueK l k)) := fun k => by
      rw [Bool.eq_iff_iff, Bool.or_eq_true, decide_eq_true_iff, decide_eq_true_iff, decide_eq_true_iff, h.due_iff, hl.due_iff]
      refine ⟨fun ⟨t, ht, e⟩ => ?_, fun hh => ?_⟩
      · rcases List.mem_cons.1 ht with rfl | ht
        · exact .inl e.symm
        · exact .inr ⟨t, ht, e⟩
      · rcases hh with e | ⟨t, ht, e⟩
        · exact ⟨a, List.mem_cons_self .., e.symm⟩
        · exact ⟨t, List.mem_cons_of_mem _ ht, e⟩
    rw [List.length_cons, ← ih hl]
    have key : ∀ (L : List Nat), L.Nodup → L.countP (fun k => decide (0 ≤ dueK (a :: l) k)) = L.countP (fun k => decide (0 ≤ dueK l k)) + (if kOf a ∈ L then 1 else 0) := by
      intro L
      induction L with
      | nil => intro _; rfl
      | cons b L ihL =>
        intro hL
        obtain ⟨h1, h2⟩ := List.nodup_cons.1 hL
        rw [List.countP_cons, List.countP_cons, ihL h2, e b]
        by_cases hb : b = kOf a
        · subst hb
          have h3 : decide (0 ≤ dueK l (kOf a)) = false := decide_eq_false (by rw [due_no hno]; omega)
          rw [h3, if_neg h1, if_pos (List.mem_cons_self ..)]
          simp
        · have h4 : (kOf a ∈ b :: L) ↔ kOf a ∈ L := ⟨fun hm => (List.mem_cons.1 hm).resolve_left (fun e => hb e.symm), List.mem_cons_of_mem _⟩
          rw [decide_eq_false hb, Bool.false_or]
          simp only [h4]
          omega
    rw [key _ List.nodup_range, if_pos (List.mem_range.2 hk)]
end Few
namespace On
variable {x : Wh}
theorem new : On Wh.new := ⟨Wh.Ok.new, fun t h => absurd h List.not_mem_nil⟩
theorem has_iff (h : On x) {s g : Int} (hr : 0 ≤ s ∧ s ≤ 5 ∧ 0 ≤ g ∧ g ≤ 2) : x.has s g = decide (0 ≤ dueK x.l (kOf ⟨s, g, 0⟩)) := by
  rw [Bool.eq_iff_iff, decide_eq_true_iff, h.few.due_iff]
  unfold Wh.has
  rw [List.any_eq_true]
  refine ⟨fun ⟨t, ht, e⟩ => ⟨t, ht, ?_⟩, fun ⟨t, ht, e⟩ => ⟨t, ht, ?_⟩⟩
  · obtain ⟨e1, e2⟩ := (t.is_iff s g).1 e
    unfold kOf
    rw [e1, e2]
  · exact (t.is_iff s g).2 (kOf_inj (h.rng t ht) (u := ⟨s, g, 0⟩) hr e)
theorem cut (h : On x) {s g : Int} (hr : 0 ≤ s ∧ s ≤ 5 ∧ 0 ≤ g ∧ g ≤ 2) : On (x.cutT s g) ∧ (x.cutT s g).last = x.last ∧ ∀ j, dueK (x.cutT s g).l j = if j = kOf ⟨s, g, 0⟩ then -1 else dueK x.l j := by
  have h2 : On (x.cutT s g) := ⟨h.ok.cut s g, fun t ht => h.rng t (List.mem_filter.1 ht).1⟩
  refine ⟨h2, rfl, fun j => ?_⟩
  have hn : ∀ t ∈ (x.cutT s g).l, kOf t ≠ kOf ⟨s, g, 0⟩ := fun t ht e => by
    obtain ⟨m1, m2⟩ := List.mem_filter.1 ht
    rw [(t.is_iff s g).2 (kOf_inj (h.rng t m1) (u := ⟨s, g, 0⟩) hr e)] at m2
    cases m2
  by_cases e : j = kOf ⟨s, g, 0⟩
  · rw [if_pos e, e]; exact Few.due_no hn
  · rw [if_neg e]
    by_cases hx : ∃ t ∈ x.l, kOf t = j
    · obtain ⟨t, ht, rfl⟩ := hx
      have hm : t ∈ (x.cutT s g).l := List.mem_filter.2 ⟨ht, by
        cases hq : t.is s g with
        | false => rfl
        | true =>
          obtain ⟨e1, e2⟩ := (t.is_iff s g).1 hq
          exact absurd (by unfold kOf; rw [e1, e2]) e⟩
      rw [h2.few.due_mem hm, h.few.due_mem ht]
    · rw [Few.due_no (l := x.l) fun t ht e2 => hx ⟨t, ht, e2⟩, Few.due_no (l := (x.cutT s g).l) fun t ht e2 => hx ⟨t, (List.mem_filter.1 ht).1, e2⟩]
theorem put_no (h : On x) {s g n : Int} (hr : 0 ≤ s ∧ s ≤ 5 ∧ 0 ≤ g ∧ g ≤ 2) (hn : Wh.mayD n) (hd : 0 ≤ dueK x.l (kOf ⟨s, g, 0⟩)) : x.putE s g n = 7 ∧ x.putT s g n = x := by
  have hh : x.has s g = true := (h.has_iff hr).trans (decide_eq_true hd)
  unfold Wh.putE Wh.putT
  rw [if_pos hn, if_pos hn, hh]
  exact ⟨rfl, rfl⟩
theorem put (h : On x) {s g n : Int} (hr : 0 ≤ s ∧ s ≤ 5 ∧ 0 ≤ g ∧ g ≤ 2) (hn : Wh.mayD n) (hd : ¬ 0 ≤ dueK x.l (kOf ⟨s, g, 0⟩)) : x.putE s g n = 0 ∧ On (x.putT s g n) ∧ (x.putT s g n).last = x.last ∧ ∀ j, dueK (x.putT s g n).l j = if j = kOf ⟨s, g, 0⟩ then n else dueK x.l j := by
  have hh : x.has s g = false := (h.has_iff hr).trans (decide_eq_false hd)
  have e : x.putT s g n = { x with l := ins x.l ⟨s, g, n.toNat⟩ } := by unfold Wh.putT; rw [if_pos hn, hh]; rfl
  have ok := h.ok.put (s := s) (g := g) (n := n) hr.2.2.1 (by omega)
  rw [e] at ok ⊢
  have h2 : On { x with l := ins x.l ⟨s, g, n.toNat⟩ } := ⟨ok, fun t ht => by
    rcases ins_mem.1 ht with rfl | ht
    · exact hr
    · exact h.rng t ht⟩
  refine ⟨by unfold Wh.putE; rw [if_pos hn, hh]; rfl, h2, rfl, fun j => ?_⟩
  by_cases ej : j = kOf ⟨s, g, 0⟩
  · rw [if_pos ej, ej]
    have := h2.few.due_mem (t := ⟨s, g, n.toNat⟩) (ins_mem.2 (.inl rfl))
    have e3 : kOf ⟨s, g, 0⟩ = kOf ⟨s, g, n.toNat⟩ := rfl
    rw [e3]
    refine this.trans ?_
    show ((n.toNat : Nat) : Int) = n
    have := hn.1
    omega
  · rw [if_neg ej]
    by_cases hx : ∃ t ∈ x.l, kOf t = j
    · obtain ⟨t, ht, rfl⟩ := hx
      exact (h2.few.due_mem (ins_mem.2 (.inr ht))).trans (h.few.due_mem ht).symm
    · rw [Few.due_no fun t ht e2 => hx ⟨t, ht, e2⟩, Few.due_no fun t ht e2 => ?_]
      rcases ins_mem.1 ht with rfl | ht
      · exact ej e2.symm
      · exact hx ⟨t, ht, e2⟩
/-- What a Turn tells: sorted, due, and gone behind it. -/
theorem turn (h : On x) {n : Int} (hn : x.mayT n) : x.turnE n = 0 ∧ On (x.turnT n) ∧ ((x.turnT n).last : Int) = n ∧ Few (x.turnL n) ∧ (x.turnL n).Pairwise (fun a b => a.ahead b = true) ∧ (∀ t ∈ x.turnL n, dueK x.l (kOf t) = (t.d : Int) ∧ (t.d : Int) ≤ n) ∧
    (∀ j, dueK (x.turnT n).l j = if j ∈ (x.turnL n).map kOf then -1 else dueK x.l j) ∧ ∀ j, 0 ≤ dueK (x.turnT n).l j → ¬ dueK (x.turnT n).l j ≤ n := by
  have e1 : x.turnL n = x.l.filter fun t => decide ((t.d : Int) ≤ n) := by unfold Wh.turnL; rw [if_pos hn]
  have e2 : x.turnT n = ⟨n.toNat, x.l.filter fun t => !decide ((t.d : Int) ≤ n)⟩ := by unfold Wh.turnT; rw [if_pos hn]
  have ok := h.ok.turn n
  rw [e2] at ok
  rw [e1, e2]
  have h2 : On ⟨n.toNat, x.l.filter fun t => !decide ((t.d : Int) ≤ n)⟩ := ⟨ok, fun t ht => h.rng t (List.mem_filter.1 ht).1⟩
  refine ⟨by unfold Wh.turnE; rw [if_pos hn], h2, ?_, h.few.sub List.filter_sublist, h.ok.st.sublist List.filter_sublist, fun t ht => ?_, fun j => ?_, fun j hj => ?_⟩
  · show ((n.toNat : Nat) : Int) = n
    have := hn.1
    have : (0 : Int) ≤ (x.last : Int) := Int.natCast_nonneg _
    omega
  · obtain ⟨m1, m2⟩ := List.mem_filter.1 ht
    exact ⟨h.few.due_mem m1, of_decide_eq_true m2⟩
  · by_cases hm : j ∈ (x.l.filter fun t => decide ((t.d : Int) ≤ n)).map kOf
    · rw [if_pos hm]
      obtain ⟨t, ht, rfl⟩ := List.mem_map.1 hm
      obtain ⟨m1, m2⟩ := List.mem_filter.1 ht
      refine Few.due_no fun u hu e => ?_
      obtain ⟨m3, m4⟩ := List.mem_filter.1 hu
      rw [h.few.same m3 m1 e, m2] at m4
      cases m4
    · rw [if_neg hm]
      by_cases hx : ∃ t ∈ x.l, kOf t = j
      · obtain ⟨t, ht, rfl⟩ := hx
        have hq : decide ((t.d : Int) ≤ n) = false := by
          cases hq : decide ((t.d : Int) ≤ n) with
          | false => rfl
          | true => exact absurd (List.mem_map.2 ⟨t, List.mem_filter.2 ⟨ht, hq⟩, rfl⟩) hm
        exact (h2.few.due_mem (List.mem_filter.2 ⟨ht, by rw [hq]; rfl⟩)).trans (h.few.due_mem ht).symm
      · rw [Few.due_no fun t ht e2 => hx ⟨t, ht, e2⟩, Few.due_no fun t ht e2 => hx ⟨t, (List.mem_filter.1 ht).1, e2⟩]
  · obtain ⟨t, ht, rfl⟩ := (h2.few.due_iff j).1 hj
    rw [h2.few.due_mem ht]
    have := (List.mem_filter.1 ht).2
    simpa using this
/-- Of two that stand one ahead of the other the numbers stand so. -/
theorem ahead_k {a b : Ti} (ha : 0 ≤ a.s ∧ a.s ≤ 5 ∧ 0 ≤ a.g ∧ a.g ≤ 2) (hb : 0 ≤ b.s ∧ b.s ≤ 5 ∧ 0 ≤ b.g ∧ b.g ≤ 2) (h : a.ahead b = true) : a.d ≤ b.d ∧ (a.d = b.d → kOf a < kOf b) := by
  rw [Ti.ahead_iff] at h
  have := (kOf_lt ha).2
  have := (kOf_lt hb).2
  omega
end On
end Go.Proofs.Ytmephmjlajaopaa

namespace Go.Proofs.Ytmephmjlajaopaa
set_option linter.unusedVariables false
set_option linter.unusedSimpArgs false
open Go.ChangeShapes Go.WideShapes Go.ChangeAt Go.RowKit
/-- A wheel, and an array of dues beside it. -/
structure OnM (K : WheelsOk) (w0 w : World) (S : Nat → Prop) (q : Nat) (x : Wh) (gd : Nat) (f : Nat → Int) : Prop where
  al : Alone K.toObjP w0 w S q x
  ar : ArrI w gd 18 f
  ld : w0.heap.size ≤ gd
  nS : ¬ S gd
namespace OnM
variable {K : WheelsOk} {w0 w w' : World} {S S' : Nat → Prop} {q gd : Nat} {x x' : Wh} {f f' : Nat → Int}
theorem on (h : OnM K w0 w S q x gd f) (b : Below w.heap.size w w') : OnM K w0 w' S q x gd f := ⟨h.al.on b, h.ar.on b, h.ld, h.nS⟩
theorem one (h : OnM K w0 w S q x gd f) (hr : K.Rep w' S' q x') (hf : Fresh w S S') (b : Beside S w w') : OnM K w0 w' S' q x' gd f := ⟨h.al.one hr hf b, h.ar.by b h.nS, h.ld, hf.not h.ar.lt h.nS⟩
theorem congr (h : OnM K w0 w S q x gd f) (e : ∀ j, j < 18 → f j = f' j) : OnM K w0 w S q x gd f' := ⟨h.al, h.ar.congr e, h.ld, h.nS⟩
theorem wrote (w : World) (gd k : Nat) (v : Value) : Beside (fun j => j = gd) w (w.setCell ⟨gd, k, none⟩ v) := (Beside.refl (fun j => j = gd) w).setCell (p := ⟨gd, k, none⟩) (show gd = gd from rfl) v
theorem set (h : OnM K w0 w S q x gd f) (k : Nat) (hk : k < 18) (z : Int) : OnM K w0 (w.setCell ⟨gd, k, none⟩ (.int .i64 z)) S q x gd (fun j => if j = k then z else f j) :=
  ⟨h.al.by (wrote w gd k _) (fun j hj e => h.nS (e ▸ hj)) (fun j e => e ▸ h.ld), h.ar.set k hk z, h.ld, h.nS⟩
end OnM
/-- The handle's number. -/
theorem k_facts {n : Int} (h0 : 0 ≤ n) (h1 : n ≤ 255) : ∃ k : Nat, k < 18 ∧ kOf ⟨hS n, hG n, 0⟩ = k ∧ (0 ≤ hS n ∧ hS n ≤ 5 ∧ 0 ≤ hG n ∧ hG n ≤ 2) ∧ IntKind.i64.wrap (hG n) = hG n ∧ wrap64 (hS n * 3) = hS n * 3 ∧ IntKind.i64.wrap (hS n * 3) = hS n * 3 ∧ wrap64 (hS n * 3 + hG n) = (k : Int) ∧ IntKind.i64.wrap (hS n * 3 + hG n) = (k : Int) := by
  obtain ⟨_, _, a, b, c, d, _⟩ := h_facts h0 h1
  refine ⟨(hS n * 3 + hG n).toNat, by omega, rfl, ⟨a, b, c, d⟩, IntWalk.i64_in _ (by omega), IntWalk.wrap64_in _ (by omega), IntWalk.i64_in _ (by omega), ?_, ?_⟩
  · rw [IntWalk.wrap64_in _ (by omega)]; omega
  · rw [IntWalk.i64_in _ (by omega)]; omega
/-- The numbers of a told handle. -/
theorem t_facts {t : Ti} (h : 0 ≤ t.s ∧ t.s ≤ 5 ∧ 0 ≤ t.g ∧ t.g ≤ 2) : IntKind.i64.wrap t.g = t.g ∧ wrap64 (t.s * 3) = t.s * 3 ∧ IntKind.i64.wrap (t.s * 3) = t.s * 3 ∧ wrap64 (t.s * 3 + t.g) = ((kOf t : Nat) : Int) ∧ IntKind.i64.wrap (t.s * 3 + t.g) = ((kOf t : Nat) : Int) ∧ kOf t < 18 ∧ decide (t.s < 0) = false ∧ decide ((5 : Int) < t.s) = false ∧ decide ((2 : Int) < t.g) = false := by
  obtain ⟨h1, h2⟩ := kOf_lt h
  refine ⟨IntWalk.i64_in _ (by omega), IntWalk.wrap64_in _ (by omega), IntWalk.i64_in _ (by omega), ?_, ?_, h1, decide_eq_false (by omega), decide_eq_false (by omega), decide_eq_false (by omega)⟩
  · rw [IntWalk.wrap64_in _ (by omega)]; omega
  · rw [IntWalk.i64_in _ (by omega)]; omega
end Go.Proofs.Ytmephmjlajaopaa
