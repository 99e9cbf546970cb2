/- Texts of this proof, together: IpA, IpB, IpC. -/
import Derived.Test.YtbbadpidolfleaaGb
import Derived.Test.YtbbadpidolfleaaGa
import Derived.Deep.RegionWith
import Derived.Deep.RegionHeld3
import Derived.Deep.DrawnRows
namespace Go.Proofs.Ytbbadpidolfleaa
set_option linter.unusedVariables false
set_option linter.unusedSimpArgs false
open Go.ChangeShapes Go.WideShapes Go.ChangeAt Go.RowKit Go.PlainAid
/-- A header's words, but for its options. -/
def hdrW (a id : Int) (fl : Bool) (tt pr sr ds : Int) (n : Nat) (size sum : Int) : List Int :=
  [256 * (69 + (n : Int) / 4) + a, size, id, if fl then 16384 else 0, 256 * tt + pr, sum, sr / 65536, sr % 65536, ds / 65536, ds % 65536]
def hdrB (a id : Int) (fl : Bool) (tt pr sr ds : Int) (o : ByteArray) (size sum : Int) : ByteArray :=
  strOfNums (wordL (hdrW a id fl tt pr sr ds o.size size sum)) ++ o
theorem hdrB_parts (a id : Int) (fl : Bool) (tt pr sr ds : Int) (o : ByteArray) (size sum : Int) (a0 : 0 ≤ a) (a1 : a ≤ 255) (p0 : 0 ≤ pr) (p1 : pr ≤ 255) :
    strOfNums [69 + (o.size : Int) / 4, a] ++ strOfNums (wordL [size, id, if fl then 16384 else 0]) ++ strOfNums [tt, pr] ++ strOfNums (wordL [sum]) ++ strOfNums (wordL [sr / 65536, sr % 65536]) ++ strOfNums (wordL [ds / 65536, ds % 65536]) ++ o = hdrB a id fl tt pr sr ds o size sum := by
  unfold hdrB
  congr 1
  simp only [strOfNums_append]
  congr 1
  simp only [hdrW, wordL, List.flatMap_cons, List.flatMap_nil, List.append_nil, List.cons_append, List.nil_append]
  rw [show (256 * (69 + (o.size : Int) / 4) + a) / 256 = 69 + (o.size : Int) / 4 by omega, show (256 * (69 + (o.size : Int) / 4) + a) % 256 = a by omega, show (256 * tt + pr) / 256 = tt by omega, show (256 * tt + pr) % 256 = pr by omega]
theorem ipKept_ {W w1 : World} {a : Addr} {v : Value} (hb : Below W.heap.size W w1) (h : W.cell? a = some v) (ha : a.block < W.heap.size) : w1.cell? a = some v := (hb.cell ha).trans h
theorem row3 {k : IntKind} {w : World} {b : Nat} {x y z : Int} (hb : b < w.heap.size) (h0 : w.cell? ⟨b, 0, none⟩ = some (.int k x)) (h1 : w.cell? ⟨b, 1, none⟩ = some (.int k y)) (h2 : w.cell? ⟨b, 2, none⟩ = some (.int k z)) : Row k w (some ⟨b, 0, none⟩) 3 [x, y, z] :=
  ⟨rfl, .inr ⟨b, 0, rfl, hb, by
    intro t ht
    match t, ht with
    | 0, _ => simpa using h0
    | 1, _ => simpa using h1
    | 2, _ => simpa using h2⟩⟩
/-- Two bytes of a new block, as a text. -/
theorem conv2 (W : World) (n : Nat) (x y : Int) (hn : n = W.heap.size) :
    (convert 68 9 (.slice (some ⟨n, 0, none⟩) 2 2)).run Try.prog (W.alloc (.cells #[.int .u8 x, .int .u8 y] 5)) = .ok (.string (strOfNums [x, y])) (W.alloc (.cells #[.int .u8 x, .int .u8 y] 5)) := by
  subst hn
  exact run_convert_bytes_arg (P := Try.prog) (W.alloc (.cells #[.int .u8 x, .int .u8 y] 5)) 68 5 Try.underlying68 Try.underlying5 W.heap.size 0 2 2 [x, y] rfl (by
    intro i hi
    match i, hi with
    | 0, _ => simp
    | 1, _ => simp) 9 Try.underlying9
theorem conv2d (W : World) (x y : Int) :
    (convert 68 9 (.slice (some ⟨W.heap.size, 0, none⟩) 2 2)).run Try.prog (W.alloc (.cells #[.int .u8 x, .int .u8 y] 5)).drew = .ok (.string (strOfNums [x, y])) (W.alloc (.cells #[.int .u8 x, .int .u8 y] 5)).drew :=
  run_convert_bytes_arg (P := Try.prog) (W.alloc (.cells #[.int .u8 x, .int .u8 y] 5)).drew 68 5 Try.underlying68 Try.underlying5 W.heap.size 0 2 2 [x, y] rfl (by
    intro i hi
    match i, hi with
    | 0, _ => simp
    | 1, _ => simp) 9 Try.underlying9
theorem conv2k {W w2 : World} {x y : Int} (hb : Below (W.alloc (.cells #[.int .u8 x, .int .u8 y] 5)).drew.heap.size (W.alloc (.cells #[.int .u8 x, .int .u8 y] 5)).drew w2) :
    (convert 68 9 (.slice (some ⟨W.heap.size, 0, none⟩) 2 2)).run Try.prog w2 = .ok (.string (strOfNums [x, y])) w2 :=
  run_convert_bytes_arg (P := Try.prog) w2 68 5 Try.underlying68 Try.underlying5 W.heap.size 0 2 2 [x, y] rfl (by
    intro i hi
    rw [hb.cell (p := ⟨W.heap.size, 0 + i, none⟩) (by simp)]
    match i, hi with
    | 0, _ => simp
    | 1, _ => simp) 9 Try.underlying9
end Go.Proofs.Ytbbadpidolfleaa

namespace Go.Proofs.Ytbbadpidolfleaa
set_option linter.unusedVariables false
set_option linter.unusedSimpArgs false
open Go.ChangeShapes Go.WideShapes Go.ChangeAt Go.RowKit Go.PlainAid
theorem hdrB_size (a id : Int) (fl : Bool) (tt pr sr ds : Int) (o : ByteArray) (size sum : Int) : (hdrB a id fl tt pr sr ds o size sum).size = 20 + o.size := by
  unfold hdrB
  rw [ByteArray.size_append, size_W]
  rfl
/-- Why a packet can't be put; 0: it can. -/
def putE (n m : Nat) : Int := if 40 < n ∨ ¬ n % 4 = 0 then 2 else if 2028 < n + m then 4 else 0
/-- A header with its sum. -/
def hdrS (a id : Int) (fl : Bool) (tt pr sr ds : Int) (o : ByteArray) (size : Int) : ByteArray := hdrB a id fl tt pr sr ds o size (sumV [hdrB a id fl tt pr sr ds o size 0])
def putB (a id : Int) (fl : Bool) (tt pr sr ds : Int) (o p : ByteArray) : ByteArray :=
  if putE o.size p.size = 0 then hdrS a id fl tt pr sr ds o (20 + (o.size : Int) + (p.size : Int)) ++ p else ⟨#[]⟩
end Go.Proofs.Ytbbadpidolfleaa

namespace Go.Proofs.Ytbbadpidolfleaa
set_option linter.unusedVariables false
set_option linter.unusedSimpArgs false
open Go.ChangeShapes Go.WideShapes Go.ChangeAt Go.RowKit Go.PlainAid
attribute [local go_sem ↓] Go.wp_at_zero Go.wp_at_succ
/-- How many bytes a header says that it has. -/
def ownN (s : ByteArray) : Nat := (bt s 0 % 16).toNat * 4
/-- Why a packet is not taken; 0: it is. -/
def pR (s : ByteArray) : Int :=
  if s.size < 20 then 1 else if ¬ bt s 0 / 16 = 4 then 2
  else if ownN s < 20 ∨ s.size < ownN s ∨ g16 s 2 < (ownN s : Int) ∨ (s.size : Int) < g16 s 2 ∨ 2048 < g16 s 2 then 3
  else if holdsV [s.extract 0 (ownN s)] = false then 4 else if ¬ g16 s 6 = 0 ∧ ¬ g16 s 6 = 16384 then 5 else 0
def pI (s : ByteArray) (v : Int) : Int := if pR s = 0 then v else 0
def pF (s : ByteArray) : Bool := if pR s = 0 then decide (0 < g16 s 6) else false
def pO (s : ByteArray) : ByteArray := if pR s = 0 then s.extract 20 (ownN s) else ⟨#[]⟩
def pP (s : ByteArray) : ByteArray := if pR s = 0 then s.extract (ownN s) (g16 s 2).toNat else ⟨#[]⟩
theorem p_no {s : ByteArray} (h : ¬ pR s = 0) : (∀ v, pI s v = 0) ∧ pF s = false ∧ pO s = ⟨#[]⟩ ∧ pP s = ⟨#[]⟩ := by
  unfold pI pF pO pP
  simp [h]
theorem p_yes {s : ByteArray} (h : pR s = 0) : (∀ v, pI s v = v) ∧ pF s = decide (0 < g16 s 6) ∧ pO s = s.extract 20 (ownN s) ∧ pP s = s.extract (ownN s) (g16 s 2).toNat := by
  unfold pI pF pO pP
  simp [h]
theorem bcell4_ {W w1 : World} (hb : Below W.heap.size W w1) : (∀ b o, b < W.heap.size → w1.cell? ⟨b, o, none⟩ = W.cell? ⟨b, o, none⟩) ∧ (∀ b o, b < W.heap.size → w1.frozen? ⟨b, o, none⟩ = W.frozen? ⟨b, o, none⟩) :=
  ⟨fun b o h => hb.cell (p := ⟨b, o, none⟩) h, fun b o h => hb.frozen (p := ⟨b, o, none⟩) h⟩
/-- A box of eight cells that is written whole. -/
theorem box8_ {W0 W : World} {b n : Nat} {v0 v1 v2 v3 v4 v5 v6 v7 : Value} {M : World → Prop} (h : ∀ j, j < 8 → (W.cell? ⟨b, j, none⟩).isSome = true) (hb : Below n W0 W) (hn : n ≤ b)
    (k : ∀ X : World, X.cell? ⟨b, 0, none⟩ = some v0 → X.cell? ⟨b, 1, none⟩ = some v1 → X.cell? ⟨b, 2, none⟩ = some v2 → X.cell? ⟨b, 3, none⟩ = some v3 → X.cell? ⟨b, 4, none⟩ = some v4 → X.cell? ⟨b, 5, none⟩ = some v5 → X.cell? ⟨b, 6, none⟩ = some v6 → X.cell? ⟨b, 7, none⟩ = some v7 → Below n W0 X → (∀ a : Addr, ¬ b = a.block → X.cell? a = W.cell? a) → M X) :
    M ((((((((W.setCell ⟨b, 0, none⟩ v0).setCell ⟨b, 1, none⟩ v1).setCell ⟨b, 2, none⟩ v2).setCell ⟨b, 3, none⟩ v3).setCell ⟨b, 4, none⟩ v4).setCell ⟨b, 5, none⟩ v5).setCell ⟨b, 6, none⟩ v6).setCell ⟨b, 7, none⟩ v7) := by
  have c := World.cell?_setCells_in b [v0, v1, v2, v3, v4, v5, v6, v7] 0 W (by intro j hj; rw [Nat.zero_add]; exact h j hj)
  refine k _ (c 0 (by simp)) (c 1 (by simp)) (c 2 (by simp)) (c 3 (by simp)) (c 4 (by simp)) (c 5 (by simp)) (c 6 (by simp)) (c 7 (by simp)) ?_ ?_
  rotate_left
  · intro a ha
    rw [World.cell?_setCell_far _ _ _ _ ha, World.cell?_setCell_far _ _ _ _ ha, World.cell?_setCell_far _ _ _ _ ha, World.cell?_setCell_far _ _ _ _ ha, World.cell?_setCell_far _ _ _ _ ha, World.cell?_setCell_far _ _ _ _ ha, World.cell?_setCell_far _ _ _ _ ha, World.cell?_setCell_far _ _ _ _ ha]
  exact (((((((hb.setCell hn _).setCell hn _).setCell hn _).setCell hn _).setCell hn _).setCell hn _).setCell hn _).setCell hn _
theorem box8d_ {W0 W : World} {b n : Nat} {v0 v1 v2 v3 v4 v5 v6 v7 : Value} {M : World → Prop} (h : ∀ j, j < 8 → (W.cell? ⟨b, j, none⟩).isSome = true) (hb : Below n W0 W) (hn : n ≤ b)
    (k : ∀ X : World, X.cell? ⟨b, 0, none⟩ = some v0 → X.cell? ⟨b, 1, none⟩ = some v1 → X.cell? ⟨b, 2, none⟩ = some v2 → X.cell? ⟨b, 3, none⟩ = some v3 → X.cell? ⟨b, 4, none⟩ = some v4 → X.cell? ⟨b, 5, none⟩ = some v5 → X.cell? ⟨b, 6, none⟩ = some v6 → X.cell? ⟨b, 7, none⟩ = some v7 → Below n W0 X → (∀ a : Addr, ¬ b = a.block → X.cell? a = W.cell? a) → M X) :
    M ((((((((W.setCell ⟨b, 0, none⟩ v0).setCell ⟨b, 1, none⟩ v1).setCell ⟨b, 2, none⟩ v2).setCell ⟨b, 3, none⟩ v3).setCell ⟨b, 4, none⟩ v4).setCell ⟨b, 5, none⟩ v5).setCell ⟨b, 6, none⟩ v6).setCell ⟨b, 7, none⟩ v7).drew := by
  refine box8_ (M := fun X => M X.drew) h hb hn fun X x0 x1 x2 x3 x4 x5 x6 x7 B f => ?_
  exact k X.drew x0 x1 x2 x3 x4 x5 x6 x7 B.drew f
theorem box8_is {W w1 : World} {b : Nat} {v0 v1 v2 v3 v4 v5 v6 v7 : Value} {t : TypeId} (hb : b = W.heap.size) (hc : ∀ b o, b < (W.alloc (.cells #[v0, v1, v2, v3, v4, v5, v6, v7] t)).heap.size → w1.cell? ⟨b, o, none⟩ = (W.alloc (.cells #[v0, v1, v2, v3, v4, v5, v6, v7] t)).cell? ⟨b, o, none⟩) : ∀ j, j < 8 → (w1.cell? ⟨b, j, none⟩).isSome = true := by
  subst hb
  intro j hj
  rw [hc _ _ (by simp)]
  match j, hj with
  | 0, _ => simp [go_sem]
  | 1, _ => simp [go_sem]
  | 2, _ => simp [go_sem]
  | 3, _ => simp [go_sem]
  | 4, _ => simp [go_sem]
  | 5, _ => simp [go_sem]
  | 6, _ => simp [go_sem]
  | 7, _ => simp [go_sem]
theorem new8_ {W : World} {v0 v1 v2 v3 v4 v5 v6 v7 : Value} {t : TypeId} {M : World → Prop}
    (k : ∀ X : World, X.cell? ⟨W.heap.size, 0, none⟩ = some v0 → X.cell? ⟨W.heap.size, 1, none⟩ = some v1 → X.cell? ⟨W.heap.size, 2, none⟩ = some v2 → X.cell? ⟨W.heap.size, 3, none⟩ = some v3 → X.cell? ⟨W.heap.size, 4, none⟩ = some v4 → X.cell? ⟨W.heap.size, 5, none⟩ = some v5 → X.cell? ⟨W.heap.size, 6, none⟩ = some v6 → X.cell? ⟨W.heap.size, 7, none⟩ = some v7 → Below W.heap.size W X → W.heap.size < X.heap.size → M X) :
    M (W.alloc (.cells #[v0, v1, v2, v3, v4, v5, v6, v7] t)).drew :=
  k _ (by simp [go_sem]) (by simp [go_sem]) (by simp [go_sem]) (by simp [go_sem]) (by simp [go_sem]) (by simp [go_sem]) (by simp [go_sem]) (by simp [go_sem]) ((Below.refl _ _).alloc (Nat.le_refl _) _).drew (by simp)
end Go.Proofs.Ytbbadpidolfleaa
