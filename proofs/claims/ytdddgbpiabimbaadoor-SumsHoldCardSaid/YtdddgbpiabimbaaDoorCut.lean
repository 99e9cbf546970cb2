/- A slice of integers, cut. -/
import Derived.Test.YtdddgbpiabimbaaDoorFieldsE
import Derived.Laws.Slices
namespace Go.Proofs.YtdddgbpiabimbaaDoor
open Go.ChangeShapes Go.WideShapes Go.ChangeAt Go.RowKit Go.PlainAid
theorem cut_h {P : Program} {kd : IntKind} {w : World} {a : Option Addr} {len cap : Nat} {zs : List Int} (T : TypeId) (ht : P.underlying T = some (.slice (P.elem T))) (hs : ∀ w, (sizeOf (P.elem T)).run P w = .ok 1 w)
    (h : Row kd w a len zs) (k : Nat) (hk : k ≤ len) (hc : len ≤ cap) :
    ∃ A C, (∀ w', (Instr.slice T (.slice a len cap) none (some (.int .i64 k)) none).run P w' = .ok (.slice A k C) w') ∧ Row kd w A k (zs.take k) := by
  refine ⟨if cap = 0 then a else a.map (·.add (0 * 1)), cap - 0, fun w' => ?_, ?_, ?_⟩
  · rw [run_slice_h w' T a len cap ht .i64 k (by omega) (by omega), hs]
    simp [Result.andThen, sliced]
  · have := h.1
    simp; omega
  · by_cases h0 : k = 0
    · exact .inl h0
    · obtain ⟨b, off, rfl, hb, hcell⟩ := h.2.resolve_left (by omega)
      refine .inr ⟨b, off, ?_, hb, fun t ht => ?_⟩
      · rw [if_neg (by omega)]; simp [Addr.add]
      · rw [hcell t (by omega)]; simp [List.getD, ht]
theorem cut_l {P : Program} {kd : IntKind} {w : World} {a : Option Addr} {len cap : Nat} {zs : List Int} (T : TypeId) (ht : P.underlying T = some (.slice (P.elem T))) (hs : ∀ w, (sizeOf (P.elem T)).run P w = .ok 1 w)
    (h : Row kd w a len zs) (k : Nat) (hk : k ≤ len) (hc : len ≤ cap) :
    ∃ A C, (∀ w', (Instr.slice T (.slice a len cap) (some (.int .i64 k)) none none).run P w' = .ok (.slice A (len - k) C) w') ∧ Row kd w A (len - k) (zs.drop k) := by
  refine ⟨if cap = k then a else a.map (·.add (k * 1)), cap - k, fun w' => ?_, ?_, ?_⟩
  · rw [run_slice_l w' T a len cap ht .i64 k (by omega) (by omega), hs]
    simp [Result.andThen, sliced]
  · have := h.1
    simp; omega
  · by_cases h0 : len - k = 0
    · exact .inl h0
    · obtain ⟨b, off, rfl, hb, hcell⟩ := h.2.resolve_left (by omega)
      refine .inr ⟨b, off + k, ?_, hb, fun t ht => ?_⟩
      · rw [if_neg (by omega)]; simp [addr_add]
      · rw [Nat.add_assoc, hcell (k + t) (by omega)]; simp [List.getD]
theorem IsRow.cap_le {k : IntKind} {w : World} {a : Option Addr} {len cap : Nat} {zs : List Int} (h : IsRow k w a len cap zs) : len ≤ cap := by
  rcases h with ⟨rfl, rfl, rfl, rfl⟩ | ⟨x, rfl, hl, hm, hz, hc, hw⟩
  · exact Nat.le_refl _
  · exact hl
end Go.Proofs.YtdddgbpiabimbaaDoor
