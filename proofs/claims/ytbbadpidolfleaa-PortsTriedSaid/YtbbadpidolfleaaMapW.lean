/- Maps by any keys: how many entries are left of one that is gone over. -/
import Derived.Test.YtbbadpidolfleaaVq
namespace Go.Proofs.Ytbbadpidolfleaa
set_option linter.unusedVariables false
set_option linter.unusedSimpArgs false
open Go.RowKit
namespace KeyK
variable {P : Program} {κ : Type} {K : KeyK P κ} {w w' : World} {b : Nat} {L L' : List (κ × Value)} {T E : TypeId} {z : Value}
/-- What rounds that keep maps leave of how many are left. -/
theorem Iter.left_keep {r : Nat} {M : List (κ × Value)} (h : K.Iter w b r L M) (hk : KeepsWalks w w') : w'.rangeLeft b r = w.rangeLeft b r := by
  obtain ⟨D, left, cnt, o, s, d, rfl⟩ := h.da
  rw [(o.of_walks hk).left_eq, o.left_eq]
variable [DecidableEq κ]
theorem Iter.nextL {r : Nat} {M : List (κ × Value)} (h : K.Iter w b r L M) (ty : TypeId) :
    (M = [] ∧ (Instr.next (.pointer (some ⟨r, 0, none⟩)) false ty).run P w = .ok (.tuple #[.bool false]) w) ∨
    ∃ k v M' w', M.Perm ((k, v) :: M') ∧ (k, v) ∈ L ∧ (Instr.next (.pointer (some ⟨r, 0, none⟩)) false ty).run P w = .ok (.tuple #[.bool true, K.v k, v]) w' ∧ K.Iter w' b r L M' ∧ w.grownBy w' (some r) ∧ w'.heap.size = w.heap.size ∧
      (Instr.entry (.pointer (some ⟨r, 0, none⟩))).run P w' = .ok (.tuple #[K.v k, v]) w' ∧ w'.rangeLeft b r < w.rangeLeft b r := by
  obtain ⟨D, left, cnt, o, s, d, rfl⟩ := h.da
  rcases o.next K.keyed ty with ⟨h0, hl, hr⟩ | ⟨key, u, k1, y, w', cnt', hkey, hlk, hu, hat, hr, hrg, hlt, hg, hs, hen⟩
  · exact .inl ⟨List.filter_eq_nil_iff.2 fun p _ => by simp [hl], hr⟩
  · obtain ⟨k, hk, rfl⟩ := K.inv _ _ hkey
    have ek : k1 = K.l k := by rw [K.of k hk] at hkey; exact (Option.some.inj hkey).symm
    subst ek
    have hh := Maps.has_true_of_atKey hat
    have hy : y.1 = .held u := by
      unfold anyE at hu
      injection hu with hu
      exact (congrArg Prod.fst hu).symm
    have hm : (k, u) ∈ L := by
      refine Classical.byContradiction fun hno => ?_
      by_cases hex : ∃ v, (k, v) ∈ L
      · obtain ⟨v, hv⟩ := hex
        have e1 := (d.yes k v hv).2 (.held u)
        rw [hat, hy] at e1
        injection e1 with e1
        exact hno (by rw [e1]; exact hv)
      · have := d.no k hk fun v hv => hex ⟨v, hv⟩
        rw [hh] at this
        cases this
    have hM : (k, u) ∈ L.filter fun p => left (K.l p.1) := List.mem_filter.2 ⟨hm, hlk⟩
    refine .inr ⟨k, u, butV (L.filter fun p => left (K.l p.1)) k, w', but_perm (h.nd.sublist List.filter_sublist) hM, hm, hr, ⟨h.nd, h.hk, D, _, _, hrg, s, d, ?_⟩, hg, hs, hen, by rw [hrg.left_eq, o.left_eq]; exact hlt⟩
    unfold butV
    rw [List.filter_filter]
    refine List.filter_congr fun p hp => ?_
    by_cases e : p.1 = k
    · rw [e, WideAt.sameKey_self (K.lit k)]; simp
    · rw [Maps.sameKey_ne (fun e2 => e (K.l_inj (h.hk p hp) hk e2))]; simp [e]
end KeyK
end Go.Proofs.Ytbbadpidolfleaa
