/- Texts of this proof, together: PoP, PoQ. -/
import Derived.Test.YtbbadpidolfleaaVp
namespace Go.Proofs.Ytbbadpidolfleaa
set_option linter.unusedVariables false
set_option linter.unusedSimpArgs false
/-- A row: its protocol; the outer endpoint, the inner one; by how many. -/
structure Ro where
  pr : Int
  oi : Int
  op : Int
  ii : Int
  ip : Int
  lv : Nat
  hd : Nat
namespace Ro
def zero : Ro := ⟨0, 0, 0, 0, 0, 0, 0⟩
/-- Does one stand ahead of another one? -/
def ahead (a b : Ro) : Bool := if a.pr = b.pr then (if a.oi = b.oi then decide (a.op < b.op) else decide (a.oi < b.oi)) else decide (a.pr < b.pr)
def isO (r : Ro) (pr oi op : Int) : Bool := r.pr == pr && (r.oi == oi && r.op == op)
def isI (r : Ro) (pr ii ip : Int) : Bool := r.pr == pr && (r.ii == ii && r.ip == ip)
theorem isO_iff (r : Ro) (pr oi op : Int) : r.isO pr oi op = true ↔ r.pr = pr ∧ r.oi = oi ∧ r.op = op := by unfold isO; rw [Bool.and_eq_true, Bool.and_eq_true, beq_iff_eq, beq_iff_eq, beq_iff_eq]
theorem isI_iff (r : Ro) (pr ii ip : Int) : r.isI pr ii ip = true ↔ r.pr = pr ∧ r.ii = ii ∧ r.ip = ip := by unfold isI; rw [Bool.and_eq_true, Bool.and_eq_true, beq_iff_eq, beq_iff_eq, beq_iff_eq]
theorem ahead_iff (a b : Ro) : a.ahead b = true ↔ a.pr < b.pr ∨ a.pr = b.pr ∧ (a.oi < b.oi ∨ a.oi = b.oi ∧ a.op < b.op) := by
  unfold ahead
  by_cases h1 : a.pr = b.pr
  · rw [if_pos h1]
    by_cases h2 : a.oi = b.oi
    · rw [if_pos h2, decide_eq_true_iff]; omega
    · rw [if_neg h2, decide_eq_true_iff]; omega
  · rw [if_neg h1, decide_eq_true_iff]; omega
theorem ahead_trans {a b c : Ro} (h1 : a.ahead b = true) (h2 : b.ahead c = true) : a.ahead c = true := by
  rw [ahead_iff] at h1 h2 ⊢
  omega
theorem ahead_or {a b : Ro} (h : ¬ (a.pr = b.pr ∧ a.oi = b.oi ∧ a.op = b.op)) (h2 : a.ahead b = false) : b.ahead a = true := by
  rw [Bool.eq_false_iff] at h2
  rw [Ne, ahead_iff] at h2
  rw [ahead_iff]
  omega
theorem ahead_ne {a b : Ro} (h : a.ahead b = true) : ¬ (a.pr = b.pr ∧ a.oi = b.oi ∧ a.op = b.op) := by
  rw [ahead_iff] at h
  omega
end Ro
/-- What a row's numbers may be. -/
structure ROk (r : Ro) : Prop where
  pr0 : 0 ≤ r.pr
  pr1 : r.pr < 256
  oi0 : 0 ≤ r.oi
  oi1 : r.oi < 4294967296
  op0 : 0 ≤ r.op
  op1 : r.op < 65536
  ii0 : 0 ≤ r.ii
  ii1 : r.ii < 4294967296
  ip0 : 0 ≤ r.ip
  ip1 : r.ip < 65536
/-- A wish. -/
structure Wi where
  pr : Int
  ii : Int
  ip : Int
  oi : Int
  fr : Int
  to : Int
  dr : Int
structure WOk (w : Wi) : Prop where
  pr0 : 0 ≤ w.pr
  pr1 : w.pr < 256
  ii0 : 0 ≤ w.ii
  ii1 : w.ii < 4294967296
  ip0 : 0 ≤ w.ip
  ip1 : w.ip < 65536
  oi0 : 0 ≤ w.oi
  oi1 : w.oi < 4294967296
  fr0 : 0 ≤ w.fr
  fr1 : w.fr < 65536
  to0 : 0 ≤ w.to
  to1 : w.to < 65536
  dr0 : 0 ≤ w.dr
  dr1 : w.dr < 65536
namespace Wi
def may (w : Wi) : Prop := 0 < w.fr ∧ w.fr ≤ w.to
instance (w : Wi) : Decidable w.may := inferInstanceAs (Decidable (_ ∧ _))
/-- How many ports there are; the one that the draw names; those from there on. -/
def many (w : Wi) : Nat := (w.to - w.fr + 1).toNat
def first (w : Wi) : Int := w.fr + w.dr % (w.many : Int)
def nth (w : Wi) (i : Nat) : Int := if w.first + (i : Int) > w.to then w.first + (i : Int) - (w.many : Int) else w.first + (i : Int)
def round (w : Wi) : List Int := (List.range w.many).map w.nth
def own (w : Wi) : List Int := if w.fr ≤ w.ip ∧ w.ip ≤ w.to then [w.ip] else []
def even (w : Wi) (k : Int) : Bool := k % 2 == w.ip % 2
/-- The ports that are tried, in order. -/
def tried (w : Wi) : List Int := w.own ++ (w.round.filter w.even ++ w.round)
end Wi
structure Po where
  l : List Ro
namespace Po
def new : Po := ⟨[]⟩
def ofI (x : Po) (pr ii ip : Int) : Option Ro := x.l.find? fun r => r.isI pr ii ip
def ofO (x : Po) (pr oi op : Int) : Option Ro := x.l.find? fun r => r.isO pr oi op
/-- A list with one more, where it stands. -/
def ins (l : List Ro) (t : Ro) : List Ro := l.takeWhile (fun a => !t.ahead a) ++ t :: l.dropWhile (fun a => !t.ahead a)
/-- Held once more. -/
def hold (x : Po) (pr ii ip : Int) : Po := ⟨x.l.map fun r => if r.isI pr ii ip then { r with hd := r.hd + 1 } else r⟩
def taken (x : Po) (pr oi : Int) (k : Int) : Bool := (x.ofO pr oi k).isSome
def free (x : Po) (w : Wi) : Option Int := w.tried.find? fun k => !x.taken w.pr w.oi k
/-- What is told, and what is there then. -/
def take (x : Po) (w : Wi) : ((Int × Int) × Nat) × Po :=
  if w.may then
    match x.ofI w.pr w.ii w.ip with
    | some r => if r.oi = w.oi ∧ w.fr ≤ r.op ∧ r.op ≤ w.to then (((r.oi, r.op), 0), x.hold w.pr w.ii w.ip) else (((0, 0), 7), x)
    | none => match x.free w with
      | some k => (((w.oi, k), 0), ⟨ins x.l ⟨w.pr, w.oi, k, w.ii, w.ip, 0, 1⟩⟩)
      | none => (((0, 0), 8), x)
  else (((0, 0), 2), x)
def fix (x : Po) (pr ii ip oi op : Int) : Nat × Po :=
  match x.ofI pr ii ip with
  | some r => if r.oi = oi ∧ r.op = op then (0, x.hold pr ii ip) else (7, x)
  | none => match x.ofO pr oi op with
    | some _ => (10, x)
    | none => (0, ⟨ins x.l ⟨pr, oi, op, ii, ip, 0, 1⟩⟩)
end Po
/-- What is done with a row: confirmed, dropped, released. -/
inductive Ch where
  | con
  | drp
  | rel
namespace Ch
def may (c : Ch) (r : Ro) : Bool := match c with | .con => decide (0 < r.hd) | .drp => decide (0 < r.hd) | .rel => decide (0 < r.lv)
def on (c : Ch) (r : Ro) : Ro := match c with | .con => { r with hd := r.hd - 1, lv := r.lv + 1 } | .drp => { r with hd := r.hd - 1 } | .rel => { r with lv := r.lv - 1 }
end Ch
namespace Po
/-- A row is another one, or is there no more. -/
def alter (x : Po) (c : Ch) (pr oi op : Int) : Po := ⟨(x.l.map fun r => if r.isO pr oi op then c.on r else r).filter fun r => !(r.lv == 0 && r.hd == 0)⟩
def chg (x : Po) (c : Ch) (pr oi op : Int) : Nat × Po :=
  match x.ofO pr oi op with
  | some r => if c.may r then (0, x.alter c pr oi op) else (6, x)
  | none => (6, x)
/-- What is always so. -/
structure Ok (x : Po) : Prop where
  st : x.l.Pairwise fun a b => a.ahead b = true
  nd : x.l.Pairwise fun a b => ¬ (a.pr = b.pr ∧ a.ii = b.ii ∧ a.ip = b.ip)
  som : ∀ r ∈ x.l, 0 < r.lv + r.hd
  low : ∀ r ∈ x.l, ROk r
/-- How many rows there may be, and by how many. -/
structure Few (x : Po) (n : Nat) : Prop where
  len : x.l.length ≤ n
  by_ : ∀ r ∈ x.l, r.lv + r.hd ≤ n
theorem Few.mono {x : Po} {n m : Nat} (h : x.Few n) (hm : n ≤ m) : x.Few m := ⟨Nat.le_trans h.len hm, fun r hr => Nat.le_trans (h.by_ r hr) hm⟩
theorem Ok.new : new.Ok := ⟨List.Pairwise.nil, List.Pairwise.nil, fun t h => absurd h List.not_mem_nil, fun t h => absurd h List.not_mem_nil⟩
theorem Few.new : new.Few 0 := ⟨Nat.le_refl _, fun t h => absurd h List.not_mem_nil⟩
theorem ofI_some {x : Po} {pr ii ip : Int} {r : Ro} (h : x.ofI pr ii ip = some r) : r ∈ x.l ∧ r.pr = pr ∧ r.ii = ii ∧ r.ip = ip := ⟨List.mem_of_find?_eq_some h, (r.isI_iff _ _ _).1 (by simpa using List.find?_some h)⟩
theorem ofI_none {x : Po} {pr ii ip : Int} (h : x.ofI pr ii ip = none) : ∀ r ∈ x.l, ¬ (r.pr = pr ∧ r.ii = ii ∧ r.ip = ip) := fun r hr e => by
  have := List.find?_eq_none.1 h r hr
  exact this ((r.isI_iff _ _ _).2 e)
theorem ofO_some {x : Po} {pr oi op : Int} {r : Ro} (h : x.ofO pr oi op = some r) : r ∈ x.l ∧ r.pr = pr ∧ r.oi = oi ∧ r.op = op := ⟨List.mem_of_find?_eq_some h, (r.isO_iff _ _ _).1 (by simpa using List.find?_some h)⟩
theorem ofO_none {x : Po} {pr oi op : Int} (h : x.ofO pr oi op = none) : ∀ r ∈ x.l, ¬ (r.pr = pr ∧ r.oi = oi ∧ r.op = op) := fun r hr e => by
  have := List.find?_eq_none.1 h r hr
  exact this ((r.isO_iff _ _ _).2 e)
theorem ins_mem {l : List Ro} {t u : Ro} : u ∈ ins l t ↔ u = t ∨ u ∈ l := by
  have e : l = l.takeWhile (fun a => !t.ahead a) ++ l.dropWhile (fun a => !t.ahead a) := List.takeWhile_append_dropWhile.symm
  unfold ins
  rw [List.mem_append, List.mem_cons]
  conv => rhs; rw [e, List.mem_append]
  exact ⟨fun h => by rcases h with h | h | h <;> simp [h], fun h => by rcases h with h | h | h <;> simp [h]⟩
theorem ins_len (l : List Ro) (t : Ro) : (ins l t).length = l.length + 1 := by
  have e : l = l.takeWhile (fun a => !t.ahead a) ++ l.dropWhile (fun a => !t.ahead a) := List.takeWhile_append_dropWhile.symm
  have e2 := congrArg List.length e
  rw [List.length_append] at e2
  unfold ins
  rw [List.length_append, List.length_cons]
  omega
theorem mem_tw {p : Ro → Bool} : ∀ {l : List Ro} {u : Ro}, u ∈ l.takeWhile p → p u = true
  | [], u, h => absurd h List.not_mem_nil
  | a :: l, u, h => by
    rw [List.takeWhile_cons] at h
    by_cases hp : p a = true
    · rw [if_pos hp] at h
      rcases List.mem_cons.1 h with rfl | h
      · exact hp
      · exact mem_tw h
    · rw [if_neg hp] at h
      exact absurd h List.not_mem_nil
theorem mem_dw {t : Ro} : ∀ {l : List Ro}, l.Pairwise (fun a b => a.ahead b = true) → ∀ u ∈ l.dropWhile (fun a => !t.ahead a), t.ahead u = true
  | [], _, u, h => absurd h List.not_mem_nil
  | a :: l, hs, u, h => by
    rw [List.dropWhile_cons] at h
    by_cases hp : t.ahead a = true
    · rw [if_neg (by simp [hp])] at h
      rcases List.mem_cons.1 h with rfl | h
      · exact hp
      · exact Ro.ahead_trans hp ((List.pairwise_cons.1 hs).1 u h)
    · rw [if_pos (by simpa using hp)] at h
      exact mem_dw (List.pairwise_cons.1 hs).2 u h
theorem Ok.put {x : Po} (h : x.Ok) {t : Ro} (hO : x.ofO t.pr t.oi t.op = none) (hI : x.ofI t.pr t.ii t.ip = none) (ht : ROk t) (h0 : 0 < t.lv + t.hd) : (⟨ins x.l t⟩ : Po).Ok := by
  have nO := ofO_none hO
  have nI := ofI_none hI
  have e : x.l = x.l.takeWhile (fun a => !t.ahead a) ++ x.l.dropWhile (fun a => !t.ahead a) := List.takeWhile_append_dropWhile.symm
  have hst := h.st
  have hnd := h.nd
  have hdw := mem_dw (t := t) h.st
  have hsub : ∀ u ∈ x.l.dropWhile (fun a => !t.ahead a), u ∈ x.l := fun u hu => (List.dropWhile_sublist _).subset hu
  have hsub2 : ∀ u ∈ x.l.takeWhile (fun a => !t.ahead a), u ∈ x.l := fun u hu => (List.takeWhile_sublist _).subset hu
  rw [e, List.pairwise_append] at hst hnd
  refine ⟨?_, ?_, fun u hu => ?_, fun u hu => ?_⟩
  · show (ins x.l t).Pairwise _
    unfold ins
    rw [List.pairwise_append, List.pairwise_cons]
    refine ⟨hst.1, ⟨hdw, hst.2.1⟩, fun a ha b hb => ?_⟩
    rcases List.mem_cons.1 hb with rfl | hb
    · have h1 : b.ahead a = false := by simpa using mem_tw ha
      exact Ro.ahead_or (fun e => nO a (hsub2 a ha) ⟨e.1.symm, e.2.1.symm, e.2.2.symm⟩) h1
    · exact hst.2.2 a ha b hb
  · show (ins x.l t).Pairwise _
    unfold ins
    rw [List.pairwise_append, List.pairwise_cons]
    refine ⟨hnd.1, ⟨fun u hu e => nI u (hsub u hu) ⟨e.1.symm, e.2.1.symm, e.2.2.symm⟩, hnd.2.1⟩, fun a ha b hb => ?_⟩
    rcases List.mem_cons.1 hb with rfl | hb
    · exact nI a (hsub2 a ha)
    · exact hnd.2.2 a ha b hb
  · rcases ins_mem.1 hu with rfl | hu
    · exact h0
    · exact h.som u hu
  · rcases ins_mem.1 hu with rfl | hu
    · exact ht
    · exact h.low u hu
theorem Few.put {x : Po} {n : Nat} (h : x.Few n) {t : Ro} (ht : t.lv + t.hd ≤ n + 1) : (⟨ins x.l t⟩ : Po).Few (n + 1) := ⟨by show (ins x.l t).length ≤ _; rw [ins_len]; exact Nat.succ_le_succ h.len, fun r hr => by
  rcases ins_mem.1 hr with rfl | hr
  · exact ht
  · exact Nat.le_succ_of_le (h.by_ r hr)⟩
theorem Ok.hold {x : Po} (h : x.Ok) (pr ii ip : Int) : (x.hold pr ii ip).Ok := by
  refine ⟨?_, ?_, fun r hr => ?_, fun r hr => ?_⟩
  · show (x.l.map _).Pairwise _
    rw [List.pairwise_map]
    refine h.st.imp fun {a b} hab => ?_
    rw [Ro.ahead_iff] at hab ⊢
    split <;> split <;> exact hab
  · show (x.l.map _).Pairwise _
    rw [List.pairwise_map]
    refine h.nd.imp fun {a b} hab => ?_
    split <;> split <;> exact hab
  · obtain ⟨r0, hr0, rfl⟩ := List.mem_map.1 hr
    have := h.som r0 hr0
    split
    · show 0 < r0.lv + (r0.hd + 1); omega
    · exact this
  · obtain ⟨r0, hr0, rfl⟩ := List.mem_map.1 hr
    have := h.low r0 hr0
    split
    · exact ⟨this.pr0, this.pr1, this.oi0, this.oi1, this.op0, this.op1, this.ii0, this.ii1, this.ip0, this.ip1⟩
    · exact this
theorem Few.hold {x : Po} {n : Nat} (h : x.Few n) (pr ii ip : Int) : (x.hold pr ii ip).Few (n + 1) := ⟨by show (x.l.map _).length ≤ _; rw [List.length_map]; exact Nat.le_succ_of_le h.len, fun r hr => by
  obtain ⟨r0, hr0, rfl⟩ := List.mem_map.1 hr
  have := h.by_ r0 hr0
  split
  · show r0.lv + (r0.hd + 1) ≤ n + 1; omega
  · omega⟩
theorem Ok.alter {x : Po} (h : x.Ok) (c : Ch) (pr oi op : Int) : (x.alter c pr oi op).Ok := by
  have key : ∀ r : Ro, (if r.isO pr oi op then c.on r else r).pr = r.pr ∧ (if r.isO pr oi op then c.on r else r).oi = r.oi ∧ (if r.isO pr oi op then c.on r else r).op = r.op ∧ (if r.isO pr oi op then c.on r else r).ii = r.ii ∧ (if r.isO pr oi op then c.on r else r).ip = r.ip := fun r => by
    split
    · cases c <;> exact ⟨rfl, rfl, rfl, rfl, rfl⟩
    · exact ⟨rfl, rfl, rfl, rfl, rfl⟩
  refine ⟨?_, ?_, fun r hr => ?_, fun r hr => ?_⟩
  · refine List.Pairwise.sublist List.filter_sublist ?_
    rw [List.pairwise_map]
    refine h.st.imp fun {a b} hab => ?_
    rw [Ro.ahead_iff] at hab ⊢
    rw [(key a).1, (key a).2.1, (key a).2.2.1, (key b).1, (key b).2.1, (key b).2.2.1]
    exact hab
  · refine List.Pairwise.sublist List.filter_sublist ?_
    rw [List.pairwise_map]
    refine h.nd.imp fun {a b} hab => ?_
    rw [(key a).1, (key a).2.2.2.1, (key a).2.2.2.2, (key b).1, (key b).2.2.2.1, (key b).2.2.2.2]
    exact hab
  · have := (List.mem_filter.1 hr).2
    simp at this
    omega
  · obtain ⟨r0, hr0, rfl⟩ := List.mem_map.1 (List.mem_filter.1 hr).1
    have t := h.low r0 hr0
    obtain ⟨k1, k2, k3, k4, k5⟩ := key r0
    exact ⟨by rw [k1]; exact t.pr0, by rw [k1]; exact t.pr1, by rw [k2]; exact t.oi0, by rw [k2]; exact t.oi1, by rw [k3]; exact t.op0, by rw [k3]; exact t.op1, by rw [k4]; exact t.ii0, by rw [k4]; exact t.ii1, by rw [k5]; exact t.ip0, by rw [k5]; exact t.ip1⟩
theorem Few.alter {x : Po} {n : Nat} (h : x.Few n) (c : Ch) (pr oi op : Int) : (x.alter c pr oi op).Few (n + 1) := ⟨Nat.le_trans (List.length_filter_le _ _) (by rw [List.length_map]; exact Nat.le_succ_of_le h.len), fun r hr => by
  obtain ⟨r0, hr0, rfl⟩ := List.mem_map.1 (List.mem_filter.1 hr).1
  have := h.by_ r0 hr0
  split
  · cases c <;> simp only [Ch.on] <;> omega
  · omega⟩
end Po
end Go.Proofs.Ytbbadpidolfleaa

namespace Go.Proofs.Ytbbadpidolfleaa
set_option linter.unusedVariables false
set_option linter.unusedSimpArgs false
namespace Wi
theorem many_pos {w : Wi} (h : w.may) : 0 < w.many ∧ (w.many : Int) = w.to - w.fr + 1 := by
  obtain ⟨h1, h2⟩ := h
  unfold many
  omega
theorem first_in {w : Wi} (h : w.may) (hd : 0 ≤ w.dr) : w.fr ≤ w.first ∧ w.first ≤ w.to := by
  obtain ⟨h0, h3⟩ := many_pos h
  have h1 := Int.emod_nonneg w.dr (b := (w.many : Int)) (by omega)
  have h2 := Int.emod_lt_of_pos w.dr (b := (w.many : Int)) (by omega)
  unfold first
  omega
theorem nth_in {w : Wi} (h : w.may) (hd : 0 ≤ w.dr) {i : Nat} (hi : i < w.many) : w.fr ≤ w.nth i ∧ w.nth i ≤ w.to := by
  obtain ⟨h0, h3⟩ := many_pos h
  have := first_in h hd
  unfold nth
  split <;> omega
theorem nth_all {w : Wi} (h : w.may) (hd : 0 ≤ w.dr) {k : Int} (h1 : w.fr ≤ k) (h2 : k ≤ w.to) : ∃ i, i < w.many ∧ w.nth i = k := by
  obtain ⟨h0, h3⟩ := many_pos h
  have hf := first_in h hd
  by_cases hk : w.first ≤ k
  · refine ⟨(k - w.first).toNat, by omega, ?_⟩
    unfold nth
    split <;> omega
  · refine ⟨(k - w.first + w.many).toNat, by omega, ?_⟩
    unfold nth
    split <;> omega
theorem round_mem {w : Wi} (h : w.may) (hd : 0 ≤ w.dr) {k : Int} : k ∈ w.round ↔ w.fr ≤ k ∧ k ≤ w.to := by
  unfold round
  rw [List.mem_map]
  constructor
  · rintro ⟨i, hi, rfl⟩
    exact nth_in h hd (List.mem_range.1 hi)
  · rintro ⟨h1, h2⟩
    obtain ⟨i, hi, e⟩ := nth_all h hd h1 h2
    exact ⟨i, List.mem_range.2 hi, e⟩
theorem tried_mem {w : Wi} (h : w.may) (hd : 0 ≤ w.dr) {k : Int} : k ∈ w.tried ↔ w.fr ≤ k ∧ k ≤ w.to := by
  unfold tried
  rw [List.mem_append, List.mem_append, List.mem_filter, round_mem h hd]
  constructor
  · rintro (h1 | h1 | h1)
    · unfold own at h1
      split at h1
      · rename_i hw
        rw [List.mem_singleton.1 h1]; exact hw
      · exact absurd h1 List.not_mem_nil
    · exact h1.1
    · exact h1
  · exact fun h1 => .inr (.inr h1)
end Wi
namespace Po
theorem free_some {x : Po} {w : Wi} {k : Int} (h : x.free w = some k) : k ∈ w.tried ∧ x.ofO w.pr w.oi k = none := by
  refine ⟨List.mem_of_find?_eq_some h, ?_⟩
  have := List.find?_some h
  unfold taken at this
  cases hq : x.ofO w.pr w.oi k with
  | none => rfl
  | some r => rw [hq] at this; simp at this
theorem free_none {x : Po} {w : Wi} (h : x.free w = none) : ∀ k ∈ w.tried, (x.ofO w.pr w.oi k).isSome = true := fun k hk => by
  have := List.find?_eq_none.1 h k hk
  cases hq : x.ofO w.pr w.oi k with
  | none => simp [taken, hq] at this
  | some r => rfl
theorem row_ok {w : Wi} (hw : WOk w) (hm : w.may) {k : Int} (h : w.fr ≤ k ∧ k ≤ w.to) : ROk ⟨w.pr, w.oi, k, w.ii, w.ip, 0, 1⟩ :=
  ⟨hw.pr0, hw.pr1, hw.oi0, hw.oi1, by show 0 ≤ k; have := hm.1; omega, by show k < 65536; have := hw.to1; omega, hw.ii0, hw.ii1, hw.ip0, hw.ip1⟩
theorem Ok.take {x : Po} (h : x.Ok) {w : Wi} (hw : WOk w) : (x.take w).2.Ok := by
  unfold Po.take
  split
  · rename_i hm
    split
    · split
      · exact h.hold _ _ _
      · exact h
    · rename_i hI
      split
      · rename_i k hk
        have hf := free_some hk
        have hin := (Wi.tried_mem hm hw.dr0).1 hf.1
        exact h.put (t := ⟨w.pr, w.oi, k, w.ii, w.ip, 0, 1⟩) hf.2 hI (row_ok hw hm hin) (Nat.succ_pos _)
      · exact h
  · exact h
theorem Few.take {x : Po} {n : Nat} (h : x.Few n) (w : Wi) : (x.take w).2.Few (n + 1) := by
  unfold Po.take
  split
  · split
    · split
      · exact h.hold _ _ _
      · exact h.mono (Nat.le_succ _)
    · split
      · exact h.put (by show 0 + 1 ≤ n + 1; omega)
      · exact h.mono (Nat.le_succ _)
  · exact h.mono (Nat.le_succ _)
theorem Ok.fix {x : Po} (h : x.Ok) {pr ii ip oi op : Int} (hr : ROk ⟨pr, oi, op, ii, ip, 0, 1⟩) : (x.fix pr ii ip oi op).2.Ok := by
  unfold Po.fix
  split
  · split
    · exact h.hold _ _ _
    · exact h
  · rename_i hI
    split
    · exact h
    · rename_i hO
      exact h.put (t := ⟨pr, oi, op, ii, ip, 0, 1⟩) hO hI hr (Nat.succ_pos _)
theorem Few.fix {x : Po} {n : Nat} (h : x.Few n) (pr ii ip oi op : Int) : (x.fix pr ii ip oi op).2.Few (n + 1) := by
  unfold Po.fix
  split
  · split
    · exact h.hold _ _ _
    · exact h.mono (Nat.le_succ _)
  · split
    · exact h.mono (Nat.le_succ _)
    · exact h.put (by show 0 + 1 ≤ n + 1; omega)
theorem Ok.chg {x : Po} (h : x.Ok) (c : Ch) (pr oi op : Int) : (x.chg c pr oi op).2.Ok := by
  unfold Po.chg
  split
  · split
    · exact h.alter _ _ _ _
    · exact h
  · exact h
theorem Few.chg {x : Po} {n : Nat} (h : x.Few n) (c : Ch) (pr oi op : Int) : (x.chg c pr oi op).2.Few (n + 1) := by
  unfold Po.chg
  split
  · split
    · exact h.alter _ _ _ _
    · exact h.mono (Nat.le_succ _)
  · exact h.mono (Nat.le_succ _)
/-- Of two rows ahead of each other one is the other, if their outer endpoints are alike; or their inner ones. -/
theorem pw_eq {α : Type} {R : α → α → Prop} {l : List α} (h : l.Pairwise R) {a b : α} (ha : a ∈ l) (hb : b ∈ l) (n1 : ¬ R a b) (n2 : ¬ R b a) : a = b := by
  induction l with
  | nil => exact absurd ha List.not_mem_nil
  | cons c r ih =>
    obtain ⟨h1, h2⟩ := List.pairwise_cons.1 h
    rcases List.mem_cons.1 ha with ea | ha
    · rcases List.mem_cons.1 hb with eb | hb
      · exact ea.trans eb.symm
      · exact absurd (by rw [ea]; exact h1 b hb) n1
    · rcases List.mem_cons.1 hb with eb | hb
      · exact absurd (by rw [eb]; exact h1 a ha) n2
      · exact ih h2 ha hb
theorem Ok.same_out {x : Po} (h : x.Ok) {a b : Ro} (ha : a ∈ x.l) (hb : b ∈ x.l) (e : a.pr = b.pr ∧ a.oi = b.oi ∧ a.op = b.op) : a = b :=
  pw_eq h.st ha hb (fun h1 => Ro.ahead_ne h1 e) (fun h1 => Ro.ahead_ne h1 ⟨e.1.symm, e.2.1.symm, e.2.2.symm⟩)
theorem Ok.same_in {x : Po} (h : x.Ok) {a b : Ro} (ha : a ∈ x.l) (hb : b ∈ x.l) (e : a.pr = b.pr ∧ a.ii = b.ii ∧ a.ip = b.ip) : a = b :=
  pw_eq h.nd ha hb (fun h1 => h1 e) (fun h1 => h1 ⟨e.1.symm, e.2.1.symm, e.2.2.symm⟩)
/-- Who is found, of those that are there. -/
theorem Ok.ofO {x : Po} (h : x.Ok) {r : Ro} (hr : r ∈ x.l) : x.ofO r.pr r.oi r.op = some r := by
  cases hq : x.ofO r.pr r.oi r.op with
  | none => exact absurd ⟨rfl, rfl, rfl⟩ (ofO_none hq r hr)
  | some s => rw [h.same_out (ofO_some hq).1 hr (ofO_some hq).2]
theorem Ok.ofI {x : Po} (h : x.Ok) {r : Ro} (hr : r ∈ x.l) : x.ofI r.pr r.ii r.ip = some r := by
  cases hq : x.ofI r.pr r.ii r.ip with
  | none => exact absurd ⟨rfl, rfl, rfl⟩ (ofI_none hq r hr)
  | some s => rw [h.same_in (ofI_some hq).1 hr (ofI_some hq).2]
theorem all_live {x : Po} (h : x.Ok) : x.l.filter (fun r => !(r.lv == 0 && r.hd == 0)) = x.l := List.filter_eq_self.2 fun r hr => by
  have := h.som r hr
  simp
  omega
/-- What is held once more, and dropped, is as it was. -/
theorem drop_hold {x : Po} (h : x.Ok) {r : Ro} (hr : r ∈ x.l) : (x.hold r.pr r.ii r.ip).chg .drp r.pr r.oi r.op = (0, x) := by
  have hok := h.hold r.pr r.ii r.ip
  have hm : ({ r with hd := r.hd + 1 } : Ro) ∈ (x.hold r.pr r.ii r.ip).l := List.mem_map.2 ⟨r, hr, if_pos ((r.isI_iff _ _ _).2 ⟨rfl, rfl, rfl⟩)⟩
  have e := hok.ofO hm
  simp only [] at e
  unfold Po.chg
  rw [e]
  have h1 : Ch.drp.may { r with hd := r.hd + 1 } = true := decide_eq_true (Nat.succ_pos r.hd)
  simp only [h1, if_true]
  refine Prod.ext rfl ?_
  show Po.mk _ = x
  have key : ((x.hold r.pr r.ii r.ip).l.map fun u => if u.isO r.pr r.oi r.op then Ch.drp.on u else u) = x.l := by
    show (List.map _ (List.map _ x.l)) = x.l
    rw [List.map_map]
    conv => rhs; rw [← List.map_id x.l]
    refine List.map_congr_left fun u hu => ?_
    show (if Ro.isO (if u.isI r.pr r.ii r.ip then ({ u with hd := u.hd + 1 } : Ro) else u) r.pr r.oi r.op then Ch.drp.on (if u.isI r.pr r.ii r.ip then ({ u with hd := u.hd + 1 } : Ro) else u) else (if u.isI r.pr r.ii r.ip then ({ u with hd := u.hd + 1 } : Ro) else u)) = u
    by_cases hi : u.isI r.pr r.ii r.ip = true
    · have hu2 : u = r := h.same_in hu hr ((u.isI_iff _ _ _).1 hi)
      subst hu2
      rw [if_pos hi, if_pos ((Ro.isO_iff _ _ _ _).2 ⟨rfl, rfl, rfl⟩)]
      rfl
    · rw [if_neg hi, if_neg (fun ho => hi (by rw [h.same_out hu hr ((u.isO_iff _ _ _).1 ho)]; exact (r.isI_iff _ _ _).2 ⟨rfl, rfl, rfl⟩))]
  rw [key, all_live h]
theorem drop_put {x : Po} (h : x.Ok) {t : Ro} (hO : x.ofO t.pr t.oi t.op = none) (hI : x.ofI t.pr t.ii t.ip = none) (ht : ROk t) (h0 : t.lv = 0) (h1 : t.hd = 1) : (⟨ins x.l t⟩ : Po).chg .drp t.pr t.oi t.op = (0, x) := by
  have hok := h.put hO hI ht (by omega)
  have hm : t ∈ (⟨ins x.l t⟩ : Po).l := ins_mem.2 (.inl rfl)
  have e := hok.ofO hm
  unfold Po.chg
  rw [e]
  have h2 : Ch.drp.may t = true := decide_eq_true (by omega)
  simp only [h2, if_true]
  refine Prod.ext rfl ?_
  show Po.mk _ = x
  have nO := ofO_none hO
  have key : ∀ l : List Ro, (∀ u ∈ l, u ∈ x.l) → (l.map fun u => if u.isO t.pr t.oi t.op then Ch.drp.on u else u).filter (fun r => !(r.lv == 0 && r.hd == 0)) = l := fun l hl => by
    have e1 : (l.map fun u => if u.isO t.pr t.oi t.op then Ch.drp.on u else u) = l := by
      conv => rhs; rw [← List.map_id l]
      exact List.map_congr_left fun u hu => if_neg fun ho => nO u (hl u hu) ((u.isO_iff _ _ _).1 ho)
    rw [e1]
    refine List.filter_eq_self.2 fun r hr => ?_
    have := h.som r (hl r hr)
    simp
    omega
  have e3 : ((ins x.l t).map (fun u => if u.isO t.pr t.oi t.op then Ch.drp.on u else u)).filter (fun r => !(r.lv == 0 && r.hd == 0)) = x.l := by
    unfold ins
    rw [List.map_append, List.filter_append, List.map_cons, if_pos ((Ro.isO_iff _ _ _ _).2 ⟨rfl, rfl, rfl⟩), List.filter_cons, if_neg (by simp [Ch.on, h0, h1])]
    rw [key _ (fun u hu => (List.takeWhile_sublist _).subset hu), key _ (fun u hu => (List.dropWhile_sublist _).subset hu)]
    exact List.takeWhile_append_dropWhile
  exact congrArg Po.mk e3
theorem drop_take {x : Po} (h : x.Ok) {w : Wi} (hw : WOk w) (h0 : (x.take w).1.2 = 0) : (x.take w).1.1.1 = w.oi ∧ w.fr ≤ (x.take w).1.1.2 ∧ (x.take w).1.1.2 ≤ w.to ∧ (x.take w).2.chg .drp w.pr (x.take w).1.1.1 (x.take w).1.1.2 = (0, x) := by
  unfold Po.take at h0 ⊢
  by_cases hm : w.may
  · rw [if_pos hm] at h0 ⊢
    cases hI : x.ofI w.pr w.ii w.ip with
    | some r =>
      rw [hI] at h0
      simp only [] at h0 ⊢
      by_cases hc : r.oi = w.oi ∧ w.fr ≤ r.op ∧ r.op ≤ w.to
      · rw [if_pos hc]
        obtain ⟨hr, e1, e2, e3⟩ := ofI_some hI
        have hd := drop_hold h hr
        rw [e1, e2, e3] at hd
        exact ⟨hc.1, hc.2.1, hc.2.2, hd⟩
      · rw [if_neg hc] at h0; simp at h0
    | none =>
      rw [hI] at h0
      simp only [] at h0 ⊢
      cases hf : x.free w with
      | some k =>
        simp only []
        have hk := free_some hf
        have hin := (Wi.tried_mem hm hw.dr0).1 hk.1
        refine ⟨trivial, hin.1, hin.2, ?_⟩
        exact drop_put h (t := ⟨w.pr, w.oi, k, w.ii, w.ip, 0, 1⟩) hk.2 hI (row_ok hw hm hin) rfl rfl
      | none => rw [hf] at h0; simp at h0
  · rw [if_neg hm] at h0; simp at h0
end Po
end Go.Proofs.Ytbbadpidolfleaa
