/- slices.SortFunc, its order a method value (the receiver stands ahead of the two): what each of its walks stands on. -/
import Derived.Shelf.SlSortCmp.KitK
import Derived.Deep.LoopGhost
import Derived.Lib.Hide
namespace Go.Proofs.Ytmephmjlajaopaa
set_option linter.unusedVariables false
set_option linter.unusedSimpArgs false
open Go.Shelf Go.RowKit Go.Lib Go.Sort
section
variable {P : Program} {α : Type} [Inhabited α]
/-- What is known of the order, and of the row, all along: N elements in block blk from off on; the order is 'v.g'. -/
structure Srt (P : Program) (g : Nat) (v : Value) (enc : α → List Value) (k : Nat) (cf : α → α → Int) (blk off N : Nat) (d0 : Array α) (w0 : World) : Prop where
  eg : ∀ args w, (callFunc g args).run P w = .ok (.enter g args) w
  cmp : ∀ (dk : Array α) (W : World), dk.size = N → SWK enc k w0 blk off dk W → ∀ x y : α, Calls P g #[v, .agg (enc x).toArray, .agg (enc y).toArray] W fun e w' => e = .returned (.int .i64 (cf x y)) ∧ ∃ q os', w' = grow (W.drewN q) os'
  row : RowK enc k w0 blk off d0
  sz : d0.size = N
  few : N < 1000000
  swo : SWO (ltOf cf)
variable {g : Nat} {v : Value} {enc : α → List Value} {k : Nat} {cf : α → α → Int} {blk off N : Nat} {d0 dk : Array α} {w0 W : World}
/-- An index that may be. -/
theorem Srt.at (K : Srt P g v enc k cf blk off N d0 w0) (z : Int) (i : Nat) (h : z = (i : Int)) (hi : i < N) : z.toNat = i ∧ 0 ≤ z ∧ z < (N : Int) ∧ IntKind.i64.wrap z = z := by
  have := K.few
  subst h
  exact ⟨by omega, by omega, by omega, by rw [IntKind.wrap_i64]; omega⟩
/-- A number that is not great. -/
theorem Srt.wr (K : Srt P g v enc k cf blk off N d0 w0) (z : Int) (h0 : -4000000 ≤ z) (h1 : z ≤ 4000000) : IntKind.i64.wrap z = z := by rw [IntKind.wrap_i64]; omega
/-- 'cmp(data[i], data[j]) < 0': what is read, what is called. -/
theorem Srt.test (K : Srt P g v enc k cf blk off N d0 w0) (S : Aside (SWK enc k w0 blk off dk W)) (hs : dk.size = N) (i j : Nat) (hi : i < N) (hj : j < N) (r : Bool) (hr : ltOf cf dk[i]! dk[j]! = r) :
    ∃ (x y : α) (c : Int), decide (c < 0) = r ∧ (∀ n os, Sem.run P (loadCellsFrom ⟨blk, off + i * k, none⟩ 0 k #[]) (grow (W.drewN n) os) = .ok (enc x).toArray (grow (W.drewN n) os)) ∧
      (∀ n os, Sem.run P (loadCellsFrom ⟨blk, off + j * k, none⟩ 0 k #[]) (grow (W.drewN n) os) = .ok (enc y).toArray (grow (W.drewN n) os)) ∧
      (∀ n os, Calls P g #[v, .agg (enc x).toArray, .agg (enc y).toArray] (grow (W.drewN n) os) fun e w' => e = .returned (.int .i64 c) ∧ ∃ p : GrownBy, w' = grow (W.drewN p.n) p.os) ∧
      (∀ n os, Aside (SWK enc k w0 blk off dk (grow (W.drewN n) os))) := by
  have hd : dk.size = d0.size := hs.trans K.sz.symm
  refine ⟨dk[i]!, dk[j]!, cf dk[i]! dk[j]!, hr, fun n os => S.out.ld K.row hd P i (by omega) n os, fun n os => S.out.ld K.row hd P j (by omega) n os, fun n os => Calls.grown_of (K.cmp dk _ hs (S.out.grown n os) _ _), fun n os => S.out.grown n os⟩
/-- 'data[i], data[j] = data[j], data[i]': what is read, what is written. -/
theorem Srt.swap (K : Srt P g v enc k cf blk off N d0 w0) (S : Aside (SWK enc k w0 blk off dk W)) (hs : dk.size = N) (i j : Nat) (hi : i < N) (hj : j < N) :
    ∃ (ci cj : List Value) (W1 W2 : World), ci.length = k ∧ cj.length = k ∧ Sem.run P (loadCellsFrom ⟨blk, off + i * k, none⟩ 0 k #[]) W.drew = .ok ci.toArray W.drew ∧ Sem.run P (loadCellsFrom ⟨blk, off + j * k, none⟩ 0 k #[]) W.drew = .ok cj.toArray W.drew ∧
      Sem.run P (storeCells ⟨blk, off + i * k, none⟩ cj 0) W.drew = .ok () W1 ∧ Sem.run P (storeCells ⟨blk, off + j * k, none⟩ ci 0) W1 = .ok () W2 ∧ Aside (SWK enc k w0 blk off (swp dk i j) W2) := by
  have hd : dk.size = d0.size := hs.trans K.sz.symm
  exact ⟨enc dk[i]!, enc dk[j]!, _, _, K.row.hk _, K.row.hk _, S.out.ld1 K.row hd P i (by omega), S.out.ld1 K.row hd P j (by omega), S.out.st1 K.row hd P i (by omega) _, S.out.st2 K.row hd P i j (by omega) (by omega) _ _, S.out.swapped K.row i j (by omega) (by omega)⟩
end
end Go.Proofs.Ytmephmjlajaopaa
