/- Layer 16, plain: what PortsTried comes to. -/
import Derived.Test.YtbbadpidolfleaaVa
import Derived.Test.YtbbadpidolfleaaPoS
namespace Go.Proofs.Ytbbadpidolfleaa
set_option linter.unusedVariables false
set_option linter.unusedSimpArgs false
/-- No row is that inner address's. -/
def Po.notI (x : Po) (i : Int) : Prop := ∀ r ∈ x.l, r.ii ≠ i
theorem Po.notI.new (i : Int) : Po.new.notI i := fun r h => absurd h List.not_mem_nil
theorem Po.notI.none {x : Po} {i : Int} (h : x.notI i) (pr ip : Int) : x.ofI pr i ip = none := by
  unfold Po.ofI
  rw [List.find?_eq_none]
  intro r hr hq
  exact h r hr ((r.isI_iff _ _ _).1 hq).2.1
theorem Po.notI.fix {x : Po} {i ii : Int} (h : x.notI i) (hn : ii ≠ i) (pr ip oi op : Int) : (x.fix pr ii ip oi op).2.notI i := by
  unfold Po.fix
  split
  · split
    · intro r hr
      obtain ⟨r0, h0, e⟩ := List.mem_map.1 hr
      rw [← e]
      split
      · exact h r0 h0
      · exact h r0 h0
    · exact h
  · split
    · exact h
    · intro r hr
      rcases Po.ins_mem.1 hr with e | hr
      · rw [e]; exact hn
      · exact h r hr
/-- The inner IP of who takes a port. -/
def had (v : Wi) (i : Nat) : Int := IntKind.u32.wrap (v.ii + (i : Int))
theorem had_zero {v : Wi} (h : WOk v) : had v 0 = v.ii := by
  have h1 := h.ii0
  have h2 := h.ii1
  unfold had
  rw [IntKind.wrap_u32]
  omega
theorem had_succ (v : Wi) (i : Nat) : IntKind.u32.wrap (had v i + 1) = had v (i + 1) := by
  unfold had
  rw [IntKind.wrap_u32, IntKind.wrap_u32, IntKind.wrap_u32]
  omega
theorem had_in (v : Wi) (i : Nat) : 0 ≤ had v i ∧ had v i < 4294967296 := by
  unfold had
  rw [IntKind.wrap_u32]
  omega
theorem had_ne {v : Wi} (h : WOk v) {i : Nat} (h0 : 0 < i) (hi : i < 1000) : had v i ≠ v.ii := by
  have h1 := h.ii0
  have h2 := h.ii1
  unfold had
  rw [IntKind.wrap_u32]
  omega
/-- What is found, port by port, behind a Take. -/
structure TFin (x : Po) (v : Wi) (ri rp n : Int) : Prop where
  all : ∀ i, i < v.tried.length → (∀ j, j < i → ∃ r, x.ofO v.pr v.oi (v.tried.getD j 0) = some r ∧ r.ii ≠ v.ii) → ∃ r, x.ofO v.pr v.oi (v.tried.getD i 0) = some r ∧ (r.ii ≠ v.ii ∨ r = ⟨v.pr, v.oi, v.tried.getD i 0, v.ii, v.ip, 0, 1⟩ ∧ ri = v.oi ∧ rp = v.tried.getD i 0 ∧ n = 0)
  none_ : (∀ j, j < v.tried.length → ∃ r, x.ofO v.pr v.oi (v.tried.getD j 0) = some r ∧ r.ii ≠ v.ii) → n = 8 ∧ ri = 0 ∧ rp = 0
theorem taken_old {x : Po} {t : Ro} (ok : x.Ok) {pr oi op : Int} {r : Ro} (h : (⟨Po.ins x.l t⟩ : Po).ofO pr oi op = some r) (hn : r.ii ≠ t.ii) : (!x.taken pr oi op) = false := by
  obtain ⟨h1, h2, h3, h4⟩ := Po.ofO_some h
  rcases Po.ins_mem.1 h1 with e | hr
  · exact absurd (by rw [e]) hn
  · have := ok.ofO hr
    rw [h2, h3, h4] at this
    unfold Po.taken
    rw [this]
    rfl
theorem tried_fin {x : Po} {v : Wi} (ok : x.Ok) (hv : WOk v) (hm : v.may) (hn : x.notI v.ii) : TFin (x.take v).2 v (x.take v).1.1.1 (x.take v).1.1.2 ((x.take v).1.2 : Int) := by
  have hI := hn.none v.pr v.ip
  cases hf : x.free v with
  | none =>
    rw [take_full hm hI hf]
    refine ⟨fun i hi _ => ?_, fun _ => ⟨rfl, rfl, rfl⟩⟩
    have h := Po.free_none hf _ (getD_mem 0 hi)
    cases hq : x.ofO v.pr v.oi (v.tried.getD i 0) with
    | none => rw [hq] at h; cases h
    | some r => exact ⟨r, rfl, .inl (hn r (Po.ofO_some hq).1)⟩
  | some k =>
    have ok2 := ok.take (w := v) hv
    rw [take_new hm hI hf] at ok2 ⊢
    have hk := (Po.free_some hf).2
    have hm2 : (⟨v.pr, v.oi, k, v.ii, v.ip, 0, 1⟩ : Ro) ∈ (⟨Po.ins x.l ⟨v.pr, v.oi, k, v.ii, v.ip, 0, 1⟩⟩ : Po).l := Po.ins_mem.2 (.inl rfl)
    refine ⟨fun i hi ha => ?_, fun ha => ?_⟩
    · cases ht : x.ofO v.pr v.oi (v.tried.getD i 0) with
      | some r =>
        obtain ⟨h1, h2, h3, h4⟩ := Po.ofO_some ht
        have := ok2.ofO (Po.ins_mem.2 (.inr h1))
        rw [h2, h3, h4] at this
        exact ⟨r, this, .inl (hn r h1)⟩
      | none =>
        have e : x.free v = some (v.tried.getD i 0) := find_at hi (fun j hj => by
          obtain ⟨r, h1, h2⟩ := ha j hj
          exact taken_old ok h1 h2) (by unfold Po.taken; rw [ht]; rfl)
        rw [hf] at e
        injection e with e
        rw [← e]
        exact ⟨_, ok2.ofO hm2, .inr ⟨rfl, rfl, rfl, rfl⟩⟩
    · have e : x.free v = none := find_not fun j hj => by
        obtain ⟨r, h1, h2⟩ := ha j hj
        exact taken_old ok h1 h2
      rw [hf] at e
      cases e
end Go.Proofs.Ytbbadpidolfleaa
