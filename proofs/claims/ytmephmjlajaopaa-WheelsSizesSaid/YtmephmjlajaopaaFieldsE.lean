/- The contracts of layer 1 in one form each: what the code answers, and what the document answers, is the same function. -/
import Derived.Test.YtmephmjlajaopaaFieldsLaid
namespace Go.Proofs.Ytmephmjlajaopaa
open Go.ChangeShapes Go.WideShapes Go.ChangeAt Go.RowKit Go.PlainAid
/-- So many bytes are there. -/
def okAt (s : ByteArray) (i m : Int) : Bool := decide (0 ≤ i ∧ i ≤ (s.size : Int) - m)
def v16 (s : ByteArray) (i : Int) : Int := if okAt s i 2 then g16 s i.toNat else 0
def v32 (s : ByteArray) (i : Int) : Int := if okAt s i 4 then g32 s i.toNat else 0
def vWith (s : ByteArray) (i : Int) (p : ByteArray) : ByteArray := if okAt s i p.size then withB s i.toNat p else ⟨#[]⟩
theorem okAt_yes {s : ByteArray} {k m : Nat} (h : k + m ≤ s.size) : okAt s k m = true := by unfold okAt; simp; omega
theorem okAt_no {s : ByteArray} {i m : Int} (h : i < 0 ∨ (s.size : Int) - m < i) : okAt s i m = false := by unfold okAt; simp; omega
theorem okAt_cases (s : ByteArray) (i m : Int) (_ : 0 ≤ m) : (∃ k : Nat, i = k ∧ (k : Int) + m ≤ s.size) ∨ (i < 0 ∨ (s.size : Int) - m < i) := by
  by_cases h : 0 ≤ i ∧ i ≤ (s.size : Int) - m
  · exact .inl ⟨i.toNat, by omega, by omega⟩
  · exact .inr (by omega)
/-- A slice of integers that came in: nil; or a row of 'cap' cells, the numbers 'zs' (the first 'len' are its elements), each fitting its kind. -/
def IsRow (k : IntKind) (w : World) (a : Option Addr) (len cap : Nat) (zs : List Int) : Prop :=
  (a = none ∧ len = 0 ∧ cap = 0 ∧ zs = []) ∨
  ∃ x, a = some x ∧ len ≤ cap ∧ cap ≤ maxLen ∧ zs.length = cap ∧ (∀ i, i < zs.length → w.cell? (x.add i) = some (.int k (zs.getD i 0))) ∧ ∀ n ∈ zs, (Lit.int k n).wf = true
/-- What a callee wants of a slice of integers: its elements. -/
def Row (k : IntKind) (w : World) (a : Option Addr) (len : Nat) (zs : List Int) : Prop :=
  zs.length = len ∧ (len = 0 ∨ ∃ b off, a = some ⟨b, off, none⟩ ∧ b < w.heap.size ∧ ∀ t, t < len → w.cell? ⟨b, off + t, none⟩ = some (.int k (zs.getD t 0)))
theorem addr_add (b o j : Nat) : (⟨b, o, none⟩ : Addr).add j = ⟨b, o + j, none⟩ := by unfold Addr.add; split <;> simp_all
theorem IsRow.row {k : IntKind} {w : World} {a : Option Addr} {len cap : Nat} {zs : List Int} (h : IsRow k w a len cap zs) : Row k w a len (zs.take len) := by
  rcases h with ⟨rfl, rfl, rfl, rfl⟩ | ⟨x, rfl, hl, hm, hz, hc, hw⟩
  · exact ⟨rfl, .inl rfl⟩
  · refine ⟨by simp; omega, ?_⟩
    by_cases h0 : len = 0
    · exact .inl h0
    · obtain ⟨b, off, spot⟩ := x
      have hc0 := hc 0 (by omega)
      have hspot : spot = none := by simpa [Addr.add] using World.cell?_spot hc0
      subst hspot
      refine .inr ⟨b, off, rfl, ?_, fun t ht => ?_⟩
      · have := World.block_lt_of_cell? w _ hc0
        simpa [addr_add] using this
      · have := hc t (by omega)
        rw [addr_add] at this
        rw [this]
        simp [List.getD, ht]
theorem IsRow.wf {k : IntKind} {w : World} {a : Option Addr} {len cap : Nat} {zs : List Int} (h : IsRow k w a len cap zs) : ∀ n ∈ zs.take len, (Lit.int k n).wf = true := by
  rcases h with ⟨rfl, rfl, rfl, rfl⟩ | ⟨x, rfl, hl, hm, hz, hc, hw⟩
  · intro n hn; simp at hn
  · intro n hn; exact hw n (List.mem_of_mem_take hn)
theorem IsRow.len_le {k : IntKind} {w : World} {a : Option Addr} {len cap : Nat} {zs : List Int} (h : IsRow k w a len cap zs) : len ≤ maxLen := by
  rcases h with ⟨rfl, rfl, rfl, rfl⟩ | ⟨x, rfl, hl, hm, hz, hc, hw⟩
  · exact Nat.zero_le _
  · omega
theorem Row.kept {k : IntKind} {w w' : World} {a : Option Addr} {len : Nat} {zs : List Int} (h : Row k w a len zs) (hb : Below w.heap.size w w') : Row k w' a len zs := by
  obtain ⟨h1, h2⟩ := h
  refine ⟨h1, h2.imp id ?_⟩
  rintro ⟨b, off, rfl, hlt, hc⟩
  exact ⟨b, off, rfl, Nat.lt_of_lt_of_le hlt hb.size, fun t ht => (hb.cell (by exact hlt)).trans (hc t ht)⟩
end Go.Proofs.Ytmephmjlajaopaa
