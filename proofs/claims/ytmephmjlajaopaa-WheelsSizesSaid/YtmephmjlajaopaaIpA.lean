/- A header's bytes; contracts of the document's answers for layer 4: number, addr, Bytes. -/
import Derived.Test.YtmephmjlajaopaaSumsC
import Derived.Test.YtmephmjlajaopaaFieldsQ
import Derived.Test.YtmephmjlajaopaaRegion
import Derived.Deep.RegionWith
namespace Go.Proofs.Ytmephmjlajaopaa
set_option linter.unusedVariables false
set_option linter.unusedSimpArgs false
open Go.ChangeShapes Go.WideShapes Go.ChangeAt Go.RowKit Go.PlainAid
/-- A header's words, but for its options. -/
def hdrW (a id : Int) (fl : Bool) (tt pr sr ds : Int) (n : Nat) (size sum : Int) : List Int :=
  [256 * (69 + (n : Int) / 4) + a, size, id, if fl then 16384 else 0, 256 * tt + pr, sum, sr / 65536, sr % 65536, ds / 65536, ds % 65536]
def hdrB (a id : Int) (fl : Bool) (tt pr sr ds : Int) (o : ByteArray) (size sum : Int) : ByteArray :=
  strOfNums (wordL (hdrW a id fl tt pr sr ds o.size size sum)) ++ o
theorem hdrB_parts (a id : Int) (fl : Bool) (tt pr sr ds : Int) (o : ByteArray) (size sum : Int) (a0 : 0 ≤ a) (a1 : a ≤ 255) (p0 : 0 ≤ pr) (p1 : pr ≤ 255) :
    strOfNums [69 + (o.size : Int) / 4, a] ++ strOfNums (wordL [size, id, if fl then 16384 else 0]) ++ strOfNums [tt, pr] ++ strOfNums (wordL [sum]) ++ strOfNums (wordL [sr / 65536, sr % 65536]) ++ strOfNums (wordL [ds / 65536, ds % 65536]) ++ o = hdrB a id fl tt pr sr ds o size sum := by
  unfold hdrB
  congr 1
  simp only [strOfNums_append]
  congr 1
  simp only [hdrW, wordL, List.flatMap_cons, List.flatMap_nil, List.append_nil, List.cons_append, List.nil_append]
  rw [show (256 * (69 + (o.size : Int) / 4) + a) / 256 = 69 + (o.size : Int) / 4 by omega, show (256 * (69 + (o.size : Int) / 4) + a) % 256 = a by omega, show (256 * tt + pr) / 256 = tt by omega, show (256 * tt + pr) % 256 = pr by omega]
theorem ipKept_ {W w1 : World} {a : Addr} {v : Value} (hb : Below W.heap.size W w1) (h : W.cell? a = some v) (ha : a.block < W.heap.size) : w1.cell? a = some v := (hb.cell ha).trans h
theorem row3 {k : IntKind} {w : World} {b : Nat} {x y z : Int} (hb : b < w.heap.size) (h0 : w.cell? ⟨b, 0, none⟩ = some (.int k x)) (h1 : w.cell? ⟨b, 1, none⟩ = some (.int k y)) (h2 : w.cell? ⟨b, 2, none⟩ = some (.int k z)) : Row k w (some ⟨b, 0, none⟩) 3 [x, y, z] :=
  ⟨rfl, .inr ⟨b, 0, rfl, hb, by
    intro t ht
    match t, ht with
    | 0, _ => simpa using h0
    | 1, _ => simpa using h1
    | 2, _ => simpa using h2⟩⟩
end Go.Proofs.Ytmephmjlajaopaa
