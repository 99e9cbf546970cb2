/- Plain: epochs (layer 14): the epoch, what each worker announced (-1: it is out), what waits (a slot, its epoch). -/
import Derived.Test.YtghicdajcmkfjaaPlain
namespace Go.Proofs.Ytghicdajcmkfjaa
set_option linter.unusedVariables false
set_option linter.unusedSimpArgs false
structure Ep where
  now : Nat
  said : List Int
  l : List (Nat × Nat)
namespace Ep
def there (x : Ep) (v : Int) : Prop := 0 ≤ v ∧ v < x.said.length
instance (x : Ep) (v : Int) : Decidable (x.there v) := inferInstanceAs (Decidable (_ ∧ _))
def seen (x : Ep) (v : Int) : Int := if x.there v then x.said.getD v.toNat (-1) else -1
def inV (x : Ep) (v : Int) : Bool := decide (0 ≤ x.seen v)
def setE (x : Ep) (v : Int) : Nat := if x.there v then 0 else 2
def setT (x : Ep) (v : Int) (e : Int) : Ep := if x.there v then { x with said := x.said.set v.toNat e } else x
def held (x : Ep) : Bool := x.said.any fun s => decide (0 ≤ s ∧ s ≠ x.now)
def advT (x : Ep) : Ep := if x.held then x else { x with now := x.now + 1 }
def has (x : Ep) (s : Int) : Bool := x.l.any fun p => decide ((p.1 : Int) = s)
def defE (x : Ep) (s : Int) : Nat := if 0 ≤ s ∧ s ≤ 255 then (if x.has s then 7 else 0) else 2
def defT (x : Ep) (s : Int) : Ep := if 0 ≤ s ∧ s ≤ 255 then (if x.has s then x else { x with l := x.l ++ [(s.toNat, x.now)] }) else x
def ripe (x : Ep) : List Nat := (x.l.filter fun p => decide (p.2 + 2 ≤ x.now)).map fun p => p.1
def ripeT (x : Ep) : Ep := { x with l := x.l.filter fun p => decide (¬ p.2 + 2 ≤ x.now) }
def new (n : Nat) : Ep := ⟨0, List.replicate n (-1), []⟩
/-- What is always so. -/
structure Ok (x : Ep) : Prop where
  pos : 1 ≤ x.said.length
  le : x.said.length ≤ 64
  sd : ∀ s ∈ x.said, s = -1 ∨ 0 ≤ s ∧ s ≤ x.now ∧ (x.now : Int) ≤ s + 1
  nd : (x.l.map fun p => p.1).Nodup
  low : ∀ p ∈ x.l, p.1 ≤ 255 ∧ p.2 ≤ x.now
  up : (x.l.map fun p => p.2).Pairwise (· ≤ ·)
theorem Ok.new {n : Nat} (h1 : 1 ≤ n) (h2 : n ≤ 64) : (new n).Ok where
  pos := by simp [Ep.new, h1]
  le := by simp [Ep.new, h2]
  sd s hs := .inl (List.eq_of_mem_replicate hs)
  nd := List.nodup_nil
  low p hp := absurd hp (List.not_mem_nil)
  up := List.Pairwise.nil
theorem said_len_set (x : Ep) (v e : Int) : (x.setT v e).said.length = x.said.length := by
  unfold setT; split
  · exact List.length_set
  · rfl
theorem now_set (x : Ep) (v e : Int) : (x.setT v e).now = x.now := by unfold setT; split <;> rfl
theorem l_set (x : Ep) (v e : Int) : (x.setT v e).l = x.l := by unfold setT; split <;> rfl
theorem Ok.set {x : Ep} (h : x.Ok) (v e : Int) (he : e = -1 ∨ e = x.now) : (x.setT v e).Ok := by
  unfold setT
  split
  · refine ⟨by show 1 ≤ (x.said.set _ _).length; rw [List.length_set]; exact h.pos, by show (x.said.set _ _).length ≤ 64; rw [List.length_set]; exact h.le, fun s hs => ?_, h.nd, h.low, h.up⟩
    rcases List.mem_or_eq_of_mem_set hs with hs | rfl
    · exact h.sd s hs
    · rcases he with rfl | rfl
      · exact .inl rfl
      · exact .inr ⟨Int.natCast_nonneg _, Int.le_refl _, by show (x.now : Int) ≤ _; omega⟩
  · exact h
theorem Ok.adv {x : Ep} (h : x.Ok) : x.advT.Ok := by
  unfold advT
  split
  · exact h
  · rename_i hh
    have hn : ∀ s ∈ x.said, ¬ (0 ≤ s ∧ s ≠ x.now) := by
      intro s hs hc
      exact hh (List.any_eq_true.2 ⟨s, hs, by simpa using hc⟩)
    refine ⟨h.pos, h.le, fun s hs => ?_, h.nd, fun p hp => ⟨(h.low p hp).1, by have := (h.low p hp).2; show p.2 ≤ x.now + 1; omega⟩, h.up⟩
    rcases h.sd s hs with h1 | ⟨h1, h2, h3⟩
    · exact .inl h1
    · have := hn s hs
      exact .inr ⟨h1, by show s ≤ ((x.now + 1 : Nat) : Int); omega, by show ((x.now + 1 : Nat) : Int) ≤ s + 1; omega⟩
theorem Ok.defer {x : Ep} (h : x.Ok) (s : Int) : (x.defT s).Ok := by
  unfold defT
  split
  · rename_i hs
    split
    · exact h
    · rename_i hh
      have hn : ∀ p ∈ x.l, (p.1 : Int) ≠ s := by
        intro p hp hc
        exact hh (List.any_eq_true.2 ⟨p, hp, by simpa using hc⟩)
      refine ⟨h.pos, h.le, h.sd, ?_, fun p hp => ?_, ?_⟩
      · show ((x.l ++ [(s.toNat, x.now)]).map fun p => p.1).Nodup
        rw [List.map_append, List.nodup_append]
        refine ⟨h.nd, by simp, fun a ha b hb => ?_⟩
        obtain ⟨p, hp, rfl⟩ := List.mem_map.1 ha
        simp only [List.map_cons, List.map_nil, List.mem_cons, List.not_mem_nil, or_false] at hb
        have := hn p hp
        omega
      · rcases List.mem_append.1 hp with hp | hp
        · exact h.low p hp
        · simp only [List.mem_cons, List.not_mem_nil, or_false] at hp
          subst hp
          exact ⟨by show s.toNat ≤ 255; omega, Nat.le_refl _⟩
      · show ((x.l ++ [(s.toNat, x.now)]).map fun p => p.2).Pairwise (· ≤ ·)
        rw [List.map_append, List.pairwise_append]
        refine ⟨h.up, by simp, fun a ha b hb => ?_⟩
        obtain ⟨p, hp, rfl⟩ := List.mem_map.1 ha
        simp only [List.map_cons, List.map_nil, List.mem_cons, List.not_mem_nil, or_false] at hb
        subst hb
        exact (h.low p hp).2
  · exact h
theorem Ok.ripe {x : Ep} (h : x.Ok) : x.ripeT.Ok :=
  ⟨h.pos, h.le, h.sd, h.nd.sublist (List.filter_sublist.map _), fun p hp => h.low p (List.mem_filter.1 hp).1, h.up.sublist (List.filter_sublist.map _)⟩
/-- There are at most 256 that wait. -/
theorem Ok.few {x : Ep} (h : x.Ok) : x.l.length ≤ 256 := by
  have key : ∀ (n : Nat) (l : List Nat), l.Nodup → (∀ a ∈ l, a < n) → l.length ≤ n := by
    intro n
    induction n with
    | zero => intro l _ hl; cases l with
      | nil => exact Nat.le_refl _
      | cons a l => exact absurd (hl a (List.mem_cons_self ..)) (Nat.not_lt_zero _)
    | succ n ih =>
      intro l hn hl
      have h1 := ih (l.erase n) (hn.erase n) (fun a ha => by
        have h2 := (List.Nodup.mem_erase_iff hn).1 ha
        have := hl a h2.2
        have := h2.1
        omega)
      have h3 := List.length_erase (a := n) (l := l)
      by_cases hm : n ∈ l
      · rw [if_pos hm] at h3
        have := List.length_pos_of_mem hm
        omega
      · rw [if_neg hm] at h3
        omega
  have := key 256 (x.l.map fun p => p.1) h.nd (fun a ha => by
    obtain ⟨p, hp, rfl⟩ := List.mem_map.1 ha
    have := (h.low p hp).1
    omega)
  simpa using this
end Ep
end Go.Proofs.Ytghicdajcmkfjaa
