/- Plain: wheels (layer 15): the last tick; handles, and when they are due, as they stand. -/
import Derived.Test.YtmephmjlajaopaaPlain
namespace Go.Proofs.Ytmephmjlajaopaa
set_option linter.unusedVariables false
set_option linter.unusedSimpArgs false
/-- A handle (its slot, its generation), and when it is due. -/
structure Ti where
  s : Int
  g : Int
  d : Nat
namespace Ti
def zero : Ti := ⟨0, 0, 0⟩
/-- Does one stand ahead of another one? -/
def ahead (a b : Ti) : Bool := if a.d = b.d then (if a.s = b.s then decide (a.g < b.g) else decide (a.s < b.s)) else decide (a.d < b.d)
def is (t : Ti) (s g : Int) : Bool := t.s == s && t.g == g
theorem is_iff (t : Ti) (s g : Int) : t.is s g = true ↔ t.s = s ∧ t.g = g := by unfold is; rw [Bool.and_eq_true, beq_iff_eq, beq_iff_eq]
theorem ahead_iff (a b : Ti) : a.ahead b = true ↔ a.d < b.d ∨ a.d = b.d ∧ (a.s < b.s ∨ a.s = b.s ∧ a.g < b.g) := by
  unfold ahead
  by_cases h1 : a.d = b.d
  · rw [if_pos h1]
    by_cases h2 : a.s = b.s
    · rw [if_pos h2, decide_eq_true_iff]; omega
    · rw [if_neg h2, decide_eq_true_iff]; omega
  · rw [if_neg h1, decide_eq_true_iff]; omega
theorem ahead_trans {a b c : Ti} (h1 : a.ahead b = true) (h2 : b.ahead c = true) : a.ahead c = true := by
  rw [ahead_iff] at h1 h2 ⊢
  omega
theorem ahead_not {a b : Ti} (h : a.ahead b = true) : b.ahead a = false := by
  rw [Bool.eq_false_iff]
  intro h2
  rw [ahead_iff] at h h2
  omega
theorem ahead_or {a b : Ti} (h : ¬ (a.s = b.s ∧ a.g = b.g)) (h2 : a.ahead b = false) : b.ahead a = true := by
  rw [Bool.eq_false_iff] at h2
  rw [Ne, ahead_iff] at h2
  rw [ahead_iff]
  omega
theorem ahead_le {a b : Ti} (h : a.ahead b = true) : a.d ≤ b.d := by rw [ahead_iff] at h; omega
end Ti
structure Wh where
  last : Nat
  l : List Ti
namespace Wh
def max : Int := 1099511627776
def has (x : Wh) (s g : Int) : Bool := x.l.any fun t => t.is s g
def dueN (x : Wh) (s g : Int) : Nat := match x.l.find? fun t => t.is s g with | some t => t.d | none => 0
def mayD (n : Int) : Prop := 0 ≤ n ∧ n ≤ max
instance (n : Int) : Decidable (mayD n) := inferInstanceAs (Decidable (_ ∧ _))
def putE (x : Wh) (s g n : Int) : Nat := if mayD n then (if x.has s g then 7 else 0) else 2
/-- A list with one more, where it stands. -/
def ins (l : List Ti) (t : Ti) : List Ti := l.takeWhile (fun a => a.ahead t) ++ t :: l.dropWhile (fun a => a.ahead t)
def putT (x : Wh) (s g n : Int) : Wh := if mayD n then (if x.has s g then x else { x with l := ins x.l ⟨s, g, n.toNat⟩ }) else x
def cutT (x : Wh) (s g : Int) : Wh := { x with l := x.l.filter fun t => !t.is s g }
def mayT (x : Wh) (n : Int) : Prop := (x.last : Int) ≤ n ∧ n ≤ max
instance (x : Wh) (n : Int) : Decidable (x.mayT n) := inferInstanceAs (Decidable (_ ∧ _))
def turnE (x : Wh) (n : Int) : Nat := if x.mayT n then 0 else 2
def turnL (x : Wh) (n : Int) : List Ti := if x.mayT n then x.l.filter (fun t => decide ((t.d : Int) ≤ n)) else []
def turnT (x : Wh) (n : Int) : Wh := if x.mayT n then ⟨n.toNat, x.l.filter fun t => !decide ((t.d : Int) ≤ n)⟩ else x
def nextN (x : Wh) : Nat := match x.l with | [] => 0 | t :: _ => t.d
def nextB (x : Wh) : Bool := !x.l.isEmpty
def new : Wh := ⟨0, []⟩
/-- What is always so. -/
structure Ok (x : Wh) : Prop where
  st : x.l.Pairwise fun a b => a.ahead b = true
  nd : x.l.Pairwise fun a b => ¬ (a.s = b.s ∧ a.g = b.g)
  low : ∀ t ∈ x.l, (t.d : Int) ≤ max ∧ 0 ≤ t.g ∧ t.g < 4294967296
  lst : (x.last : Int) ≤ max
theorem Ok.new : new.Ok := ⟨List.Pairwise.nil, List.Pairwise.nil, fun t h => absurd h List.not_mem_nil, by decide⟩
theorem not_has {x : Wh} {s g : Int} (h : x.has s g = false) : ∀ t ∈ x.l, ¬ (t.s = s ∧ t.g = g) := fun t ht e => by
  have := List.any_eq_false.1 h t ht
  exact this ((t.is_iff s g).2 e)
theorem ins_mem {l : List Ti} {t u : Ti} : u ∈ ins l t ↔ u = t ∨ u ∈ l := by
  have e : l = l.takeWhile (fun a => a.ahead t) ++ l.dropWhile (fun a => a.ahead t) := List.takeWhile_append_dropWhile.symm
  unfold ins
  rw [List.mem_append, List.mem_cons]
  conv => rhs; rw [e, List.mem_append]
  exact ⟨fun h => by rcases h with h | h | h <;> simp [h], fun h => by rcases h with h | h | h <;> simp [h]⟩
theorem ins_len (l : List Ti) (t : Ti) : (ins l t).length = l.length + 1 := by
  have e : l = l.takeWhile (fun a => a.ahead t) ++ l.dropWhile (fun a => a.ahead t) := List.takeWhile_append_dropWhile.symm
  have e2 := congrArg List.length e
  rw [List.length_append] at e2
  unfold ins
  rw [List.length_append, List.length_cons]
  omega
theorem mem_tw {p : Ti → Bool} : ∀ {l : List Ti} {u : Ti}, u ∈ l.takeWhile p → p u = true
  | [], u, h => absurd h List.not_mem_nil
  | a :: l, u, h => by
    rw [List.takeWhile_cons] at h
    by_cases hp : p a = true
    · rw [if_pos hp] at h
      rcases List.mem_cons.1 h with rfl | h
      · exact hp
      · exact mem_tw h
    · rw [if_neg hp] at h
      exact absurd h List.not_mem_nil
theorem mem_dw {t : Ti} : ∀ {l : List Ti}, l.Pairwise (fun a b => a.ahead b = true) → (∀ a ∈ l, ¬ (a.s = t.s ∧ a.g = t.g)) → ∀ u ∈ l.dropWhile (fun a => a.ahead t), t.ahead u = true
  | [], _, _, u, h => absurd h List.not_mem_nil
  | a :: l, hs, hn, u, h => by
    rw [List.dropWhile_cons] at h
    by_cases hp : a.ahead t = true
    · rw [if_pos hp] at h
      exact mem_dw (List.pairwise_cons.1 hs).2 (fun b hb => hn b (List.mem_cons_of_mem _ hb)) u h
    · rw [if_neg hp] at h
      have h1 := Ti.ahead_or (hn a (List.mem_cons_self ..)) (by simpa using hp)
      rcases List.mem_cons.1 h with rfl | h
      · exact h1
      · exact Ti.ahead_trans h1 ((List.pairwise_cons.1 hs).1 u h)
theorem Ok.put {x : Wh} (h : x.Ok) {s g n : Int} (h0 : 0 ≤ g) (h1 : g < 4294967296) : (x.putT s g n).Ok := by
  unfold putT
  split
  · rename_i hn
    cases hh : x.has s g with
    | true => exact h
    | false =>
      have hnh := not_has hh
      have e : x.l = x.l.takeWhile (fun a => a.ahead ⟨s, g, n.toNat⟩) ++ x.l.dropWhile (fun a => a.ahead ⟨s, g, n.toNat⟩) := List.takeWhile_append_dropWhile.symm
      have hst := h.st
      have hnd := h.nd
      have hdw := mem_dw (t := ⟨s, g, n.toNat⟩) h.st hnh
      have hsub : ∀ u ∈ x.l.dropWhile (fun a => a.ahead ⟨s, g, n.toNat⟩), u ∈ x.l := fun u hu => (List.dropWhile_sublist _).subset hu
      have hsub2 : ∀ u ∈ x.l.takeWhile (fun a => a.ahead ⟨s, g, n.toNat⟩), u ∈ x.l := fun u hu => (List.takeWhile_sublist _).subset hu
      rw [e, List.pairwise_append] at hst hnd
      refine ⟨?_, ?_, fun u hu => ?_, h.lst⟩
      · show (ins x.l ⟨s, g, n.toNat⟩).Pairwise _
        unfold ins
        rw [List.pairwise_append, List.pairwise_cons]
        refine ⟨hst.1, ⟨hdw, hst.2.1⟩, fun a ha b hb => ?_⟩
        rcases List.mem_cons.1 hb with rfl | hb
        · exact mem_tw (p := fun a => a.ahead ⟨s, g, n.toNat⟩) ha
        · exact hst.2.2 a ha b hb
      · show (ins x.l ⟨s, g, n.toNat⟩).Pairwise _
        unfold ins
        rw [List.pairwise_append, List.pairwise_cons]
        refine ⟨hnd.1, ⟨fun u hu e => hnh u (hsub u hu) ⟨e.1.symm, e.2.symm⟩, hnd.2.1⟩, fun a ha b hb => ?_⟩
        rcases List.mem_cons.1 hb with rfl | hb
        · exact hnh a (hsub2 a ha)
        · exact hnd.2.2 a ha b hb
      · rcases ins_mem.1 hu with rfl | hu
        · exact ⟨by show ((n.toNat : Nat) : Int) ≤ max; have := hn.1; have := hn.2; omega, h0, h1⟩
        · exact h.low u hu
  · exact h
theorem Ok.cut {x : Wh} (h : x.Ok) (s g : Int) : (x.cutT s g).Ok := ⟨h.st.sublist List.filter_sublist, h.nd.sublist List.filter_sublist, fun t ht => h.low t (List.mem_filter.1 ht).1, h.lst⟩
theorem Ok.turn {x : Wh} (h : x.Ok) (n : Int) : (x.turnT n).Ok := by
  unfold turnT
  split
  · rename_i hn
    exact ⟨h.st.sublist List.filter_sublist, h.nd.sublist List.filter_sublist, fun t ht => h.low t (List.mem_filter.1 ht).1, by show ((n.toNat : Nat) : Int) ≤ max; have := hn.1; have := hn.2; have : (0 : Int) ≤ (x.last : Int) := Int.natCast_nonneg _; omega⟩
  · exact h
theorem put_len (x : Wh) (s g n : Int) : (x.putT s g n).l.length ≤ x.l.length + 1 := by
  unfold putT
  split
  · split
    · exact Nat.le_succ _
    · show (ins x.l _).length ≤ _; rw [ins_len]; exact Nat.le_refl _
  · exact Nat.le_succ _
theorem cut_len (x : Wh) (s g : Int) : (x.cutT s g).l.length ≤ x.l.length := List.length_filter_le _ _
theorem turn_len (x : Wh) (n : Int) : (x.turnT n).l.length ≤ x.l.length := by
  unfold turnT
  split
  · exact List.length_filter_le _ _
  · exact Nat.le_refl _
/-- Those that are due stand ahead of the others. -/
theorem due_front {l : List Ti} (h : l.Pairwise fun a b => a.ahead b = true) (n : Int) : l.filter (fun t => decide ((t.d : Int) ≤ n)) = l.takeWhile (fun t => decide ((t.d : Int) ≤ n)) ∧ l.filter (fun t => !decide ((t.d : Int) ≤ n)) = l.dropWhile (fun t => decide ((t.d : Int) ≤ n)) := by
  induction l with
  | nil => exact ⟨rfl, rfl⟩
  | cons a l ih =>
    obtain ⟨h1, h2⟩ := List.pairwise_cons.1 h
    obtain ⟨i1, i2⟩ := ih h2
    by_cases hp : (a.d : Int) ≤ n
    · have e : decide ((a.d : Int) ≤ n) = true := decide_eq_true hp
      rw [List.filter_cons, List.filter_cons, List.takeWhile_cons, List.dropWhile_cons, e]
      exact ⟨congrArg (a :: ·) i1, i2⟩
    · have e : decide ((a.d : Int) ≤ n) = false := decide_eq_false hp
      have hall : ∀ u ∈ l, ¬ (u.d : Int) ≤ n := fun u hu hc => by have := Ti.ahead_le (h1 u hu); omega
      rw [List.filter_cons, List.filter_cons, List.takeWhile_cons, List.dropWhile_cons, e]
      refine ⟨?_, ?_⟩
      · show l.filter _ = []
        exact List.filter_eq_nil_iff.2 fun u hu => by simpa using hall u hu
      · show a :: l.filter _ = a :: l
        rw [List.filter_eq_self.2 fun u hu => by simpa using hall u hu]
end Wh
end Go.Proofs.Ytmephmjlajaopaa
