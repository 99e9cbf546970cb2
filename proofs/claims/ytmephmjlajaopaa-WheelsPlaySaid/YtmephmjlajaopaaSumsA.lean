/- Contracts of package sums, and of the document's answers for layer 2. -/
import Derived.Test.YtmephmjlajaopaaFieldsE
import Derived.Test.YtmephmjlajaopaaSumsP
namespace Go.Proofs.Ytmephmjlajaopaa
open Go.ChangeShapes Go.WideShapes Go.ChangeAt Go.RowKit Go.PlainAid
/-- What a callee wants of a slice of strings: its elements. -/
def RowS (w : World) (a : Option Addr) (len : Nat) (ss : List ByteArray) : Prop :=
  ss.length = len ∧ (∀ s ∈ ss, s.size ≤ maxLen) ∧ len ≤ maxLen ∧
  (len = 0 ∨ ∃ b off, a = some ⟨b, off, none⟩ ∧ b < w.heap.size ∧ ∀ t, t < len → w.cell? ⟨b, off + t, none⟩ = some (.string (ss.getD t ByteArray.empty)))
theorem RowS.kept {w w' : World} {a : Option Addr} {len : Nat} {ss : List ByteArray} (h : RowS w a len ss) (hb : Below w.heap.size w w') : RowS w' a len ss := by
  obtain ⟨h1, h2, h3, h4⟩ := h
  refine ⟨h1, h2, h3, h4.imp id ?_⟩
  rintro ⟨b, off, rfl, hlt, hc⟩
  exact ⟨b, off, rfl, Nat.lt_of_lt_of_le hlt hb.size, fun t ht => (hb.cell (by exact hlt)).trans (hc t ht)⟩
theorem RowS.mem {w : World} {a : Option Addr} {len : Nat} {ss : List ByteArray} (h : RowS w a len ss) {t : Nat} (ht : t < len) : (ss.getD t ByteArray.empty).size ≤ maxLen := by
  have hl : t < ss.length := by rw [h.1]; exact ht
  rw [getD_lt _ _ _ hl]
  exact h.2.1 _ (List.getElem_mem hl)

end Go.Proofs.Ytmephmjlajaopaa
