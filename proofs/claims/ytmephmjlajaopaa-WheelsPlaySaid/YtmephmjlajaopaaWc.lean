/- Texts of this proof, together: WzP, WzS, WzT. -/
import Derived.Test.YtmephmjlajaopaaWa
import Derived.Test.YtmephmjlajaopaaWb
import Derived.Test.YtmephmjlajaopaaSortO
import Derived.Test.YtmephmjlajaopaaSortL
namespace Go.Proofs.Ytmephmjlajaopaa
set_option linter.unusedVariables false
set_option maxRecDepth 100000
set_option linter.unusedSimpArgs false
open Go.ChangeShapes Go.WideShapes Go.ChangeAt Go.RowKit Go.PlainAid
theorem or_perm {α : Type} {p q : α → Bool} : ∀ {l : List α}, (∀ a ∈ l, p a = true → q a = false) → (l.filter fun a => p a || q a).Perm (l.filter p ++ l.filter q)
  | [], _ => List.Perm.refl _
  | a :: l, h => by
    have ih := or_perm (l := l) fun b hb => h b (List.mem_cons_of_mem _ hb)
    have ha := h a (List.mem_cons_self ..)
    rw [List.filter_cons, List.filter_cons, List.filter_cons]
    cases hp : p a with
    | true =>
      rw [ha hp]
      exact List.Perm.cons a ih
    | false =>
      cases hq : q a with
      | true =>
        simp only [Bool.false_or, if_true, Bool.false_eq_true, if_false]
        exact (List.Perm.cons a ih).trans List.perm_middle.symm
      | false => exact ih
/-- Two lists of the same, each as they stand, are one. -/
theorem stands_eq {α : Type} {R : α → α → Prop} (hA : ∀ a b, R a b → R b a → False) : ∀ {l m : List α}, l.Perm m → l.Pairwise R → m.Pairwise R → l = m
  | [], m, h, _, _ => h.nil_eq
  | a :: l, m, h, h1, h2 => by
    cases m with
    | nil => exact absurd h.length_eq (by simp)
    | cons b m =>
      obtain ⟨ha, hl⟩ := List.pairwise_cons.1 h1
      obtain ⟨hb, hm⟩ := List.pairwise_cons.1 h2
      have e : a = b := by
        refine Classical.byContradiction fun hne => ?_
        have m1 : a ∈ m := ((List.mem_cons.1 (h.mem_iff.1 (List.mem_cons_self ..))).resolve_left hne)
        have m2 : b ∈ l := ((List.mem_cons.1 (h.mem_iff.2 (List.mem_cons_self ..))).resolve_left (Ne.symm hne))
        exact hA a b (ha b m2) (hb a m1)
      subst e
      rw [stands_eq hA (List.perm_cons a |>.1 h) hl hm]
/-- Handles that are due in the first i places that are gone over. -/
def Wh.dueOf (x : Wh) (n now i : Nat) : List (Int × Int) := (x.l.filter fun t => decide (t.d ≤ now) && decide (∃ q, q < i ∧ (x.last + q) % n = x.atN n t)).map Ti.key
theorem dueOf_zero (x : Wh) (n now : Nat) : x.dueOf n now 0 = [] := by
  unfold Wh.dueOf
  rw [List.filter_eq_nil_iff.2 fun t _ => by simp]
  rfl
theorem mod_apart {a n i q : Nat} (h1 : q < i) (h2 : i < n) : (a + q) % n ≠ (a + i) % n := fun e => by
  have h3 := Nat.div_add_mod (a + q) n
  have h4 := Nat.div_add_mod (a + i) n
  rw [← e] at h4
  have h5 : n * ((a + i) / n) = n * ((a + q) / n) + (i - q) := by omega
  rcases Nat.lt_trichotomy ((a + i) / n) ((a + q) / n) with h | h | h
  · have := Nat.mul_le_mul_left n (Nat.le_of_lt h); omega
  · rw [h] at h5; omega
  · have := Nat.mul_le_mul_left n (Nat.succ_le_of_lt h)
    rw [Nat.mul_succ] at this
    omega
theorem dueOf_succ (x : Wh) {n now i : Nat} (hi : i < n) {l out : List (Int × Int)} (h1 : l.Perm (x.dueOf n now i)) (h2 : out.Perm (dueL (now : Int) (x.plL n ((x.last + i) % n)))) : (l ++ out).Perm (x.dueOf n now (i + 1)) := by
  have e : dueL (now : Int) (x.plL n ((x.last + i) % n)) = (x.l.filter fun t => decide (t.d ≤ now) && decide (x.atN n t = (x.last + i) % n)).map Ti.key := by
    unfold dueL Wh.plL
    rw [List.filter_map, List.map_map, List.filter_filter]
    have : (x.l.filter fun t => ((fun p : HE => decide (p.2 ≤ (now : Int))) ∘ fun t : Ti => (t.key, (t.d : Int))) t && decide (x.atN n t = (x.last + i) % n)) = x.l.filter fun t => decide (t.d ≤ now) && decide (x.atN n t = (x.last + i) % n) := List.filter_congr fun t _ => by
      congr 1
      simp
    rw [this]
    rfl
  refine (h1.append (e ▸ h2)).trans ?_
  unfold Wh.dueOf
  rw [← List.map_append]
  refine List.Perm.map _ ?_
  refine (or_perm fun t _ hp => ?_).symm.trans ?_
  · rw [Bool.and_eq_true] at hp
    obtain ⟨q, hq, hq2⟩ := of_decide_eq_true hp.2
    rw [Bool.and_eq_false_iff]
    refine .inr (decide_eq_false fun e2 => mod_apart hq hi (hq2.trans e2))
  · refine List.Perm.of_eq (List.filter_congr fun t _ => ?_)
    rw [Bool.eq_iff_iff]
    simp only [Bool.or_eq_true, Bool.and_eq_true, decide_eq_true_eq]
    constructor
    · rintro (⟨a, q, hq, hq2⟩ | ⟨a, hq⟩)
      · exact ⟨a, q, Nat.lt_succ_of_lt hq, hq2⟩
      · exact ⟨a, i, Nat.lt_succ_self i, hq.symm⟩
    · rintro ⟨a, q, hq, hq2⟩
      rcases Nat.lt_succ_iff_lt_or_eq.1 hq with h | h
      · exact .inl ⟨a, q, h, hq2⟩
      · subst h; exact .inr ⟨a, hq2.symm⟩
theorem dueOf_all (x : Wh) {n now : Nat} (hn : 1 ≤ n) (h1 : x.last ≤ now) (h2 : now ≤ 1099511627776) : x.dueOf n now (x.many n now) = (x.turnL (now : Int)).map Ti.key := by
  have hm : x.mayT (now : Int) := ⟨by omega, by show (now : Int) ≤ 1099511627776; omega⟩
  unfold Wh.dueOf Wh.turnL
  rw [if_pos hm]
  congr 1
  refine List.filter_congr fun t _ => ?_
  rw [Bool.eq_iff_iff]
  simp only [Bool.and_eq_true, decide_eq_true_eq]
  constructor
  · rintro ⟨a, _⟩; omega
  · intro a
    have a' : t.d ≤ now := by omega
    refine ⟨a', ?_⟩
    obtain ⟨m, hm⟩ : ∃ m, Nat.max t.d x.last = x.last + m ∧ m ≤ now - x.last := by
      refine ⟨Nat.max t.d x.last - x.last, ?_, ?_⟩
      · have : x.last ≤ Nat.max t.d x.last := Nat.le_max_right _ _
        omega
      · have : Nat.max t.d x.last ≤ now := Nat.max_le.2 ⟨a', h1⟩
        omega
    unfold Wh.atN Wh.many
    rw [hm.1]
    by_cases hk : n < now - x.last + 1
    · rw [if_pos hk]
      exact ⟨m % n, Nat.mod_lt _ hn, by rw [Nat.add_mod, Nat.mod_mod, ← Nat.add_mod]⟩
    · rw [if_neg hk]
      exact ⟨m, by omega, rfl⟩
theorem dueOf_len (x : Wh) (n now i : Nat) : (x.dueOf n now i).length ≤ x.l.length := by unfold Wh.dueOf; rw [List.length_map]; exact List.length_filter_le _ _
/-- One of the other as the code reckons it. -/
theorem cmpV_iff (a b : Int) : (cmpV a b < 0 ↔ a < b) ∧ (cmpV a b = 0 ↔ a = b) := by
  unfold cmpV
  by_cases h1 : a < b
  · rw [if_pos h1]; omega
  · rw [if_neg h1]
    by_cases h2 : b < a
    · rw [if_pos h2]; omega
    · rw [if_neg h2]; omega
theorem cmpH_iff (x : Wh) (a b : Int × Int) : x.cmpH a b < 0 ↔ x.dueN a.1 a.2 < x.dueN b.1 b.2 ∨ x.dueN a.1 a.2 = x.dueN b.1 b.2 ∧ (a.1 < b.1 ∨ a.1 = b.1 ∧ a.2 < b.2) := by
  unfold Wh.cmpH orV
  obtain ⟨h1, h2⟩ := cmpV_iff (x.dueN a.1 a.2 : Int) (x.dueN b.1 b.2 : Int)
  obtain ⟨h3, h4⟩ := cmpV_iff a.1 b.1
  obtain ⟨h5, h6⟩ := cmpV_iff a.2 b.2
  split
  · split <;> omega
  · omega
theorem cmpH_swo (x : Wh) (Q : Int × Int → Prop) : Sort.SWO (ltOf fun a b : {h : Int × Int // Q h} => x.cmpH a.1 b.1) where
  irrefl a := by unfold ltOf; rw [decide_eq_false_iff_not, cmpH_iff]; omega
  trans a b c h1 h2 := by
    unfold ltOf at *
    rw [decide_eq_true_eq, cmpH_iff] at *
    omega
  ntrans a b c h1 h2 := by
    unfold ltOf at *
    rw [decide_eq_false_iff_not, cmpH_iff] at *
    omega
/-- The due ones stand so. -/
theorem turnL_stands (x : Wh) (ok : x.Ok) (n : Int) : ((x.turnL n).map Ti.key).Pairwise fun a b => x.cmpH a b < 0 := by
  rw [List.pairwise_map]
  have hs : (x.turnL n).Sublist x.l := by
    unfold Wh.turnL
    split
    · exact List.filter_sublist
    · exact List.nil_sublist _
  refine (ok.st.sublist hs).imp_of_mem fun {a b} ha hb hab => ?_
  have h := (a.ahead_iff b).1 hab
  rw [cmpH_iff]
  show x.dueN a.s a.g < x.dueN b.s b.g ∨ x.dueN a.s a.g = x.dueN b.s b.g ∧ (a.s < b.s ∨ a.s = b.s ∧ a.g < b.g)
  rw [due_of ok (hs.subset ha), due_of ok (hs.subset hb)]
  exact h
/-- What was sorted stands as the due ones do. -/
theorem sorted_is (x : Wh) (ok : x.Ok) (n : Int) {l : List (Int × Int)} (hp : l.Perm ((x.turnL n).map Ti.key)) (hs : l.Pairwise fun a b => ¬ x.cmpH b a < 0) : l = (x.turnL n).map Ti.key := by
  have hT := turnL_stands x ok n
  have nd : ((x.turnL n).map Ti.key).Pairwise (fun a b => a ≠ b) := hT.imp fun {a b} h e => by
    subst e
    rw [cmpH_iff] at h
    omega
  have ndl : l.Pairwise (fun a b => a ≠ b) := (hp.pairwise_iff (fun {_ _} h => Ne.symm h)).2 nd
  refine stands_eq (R := fun a b => x.cmpH a b < 0) (fun a b h1 h2 => ?_) hp ?_ hT
  · rw [cmpH_iff] at h1 h2
    omega
  · refine (hs.and ndl).imp fun {a b} ⟨h1, h2⟩ => ?_
    refine Classical.byContradiction fun h3 => ?_
    rw [cmpH_iff] at h1 h3
    exact h2 (Prod.ext (by omega) (by omega))
end Go.Proofs.Ytmephmjlajaopaa

namespace Go.Proofs.Ytmephmjlajaopaa
set_option linter.unusedVariables false
set_option maxRecDepth 100000
set_option linter.unusedSimpArgs false
open Go.ChangeShapes Go.WideShapes Go.ChangeAt Go.RowKit Go.PlainAid
section
variable {w w' : World} {p : Nat} {x : Wh} {n pb cap sb : Nat} {mb : Nat → Nat}
instance okH : Inhabited {h : Int × Int // HOk h.1 h.2} := ⟨⟨(0, 0), ⟨by decide, by decide, by decide, by decide⟩⟩⟩
theorem cmp_enters : ∀ args w, (callFunc 31 args).run Try.prog w = .ok (.enter 31 args) w := enters_of Try.func31 (by kernel_rfl) rfl
/-- slices.SortFunc of handles, as they stand in a wheel. -/
theorem wz_sort_ (h : WhI w p x n pb cap sb mb) {B : Nat} {v : Value} {l : List (Int × Int)} (own : eltH.Own w B v l) (hB : ∀ k, whS p n pb sb mb k → k < B) (hBw : B ≤ w.heap.size) (hl : l.length ≤ 1000) (hk : ∀ a ∈ l, HOk a.1 a.2) :
    Calls Try.prog 30 #[v, .func (.func 31) #[.pointer (some ⟨p, 0, none⟩)] #[]] w fun e w' => e = .returned (.tuple #[]) ∧ ∃ l', l'.Perm l ∧ (l'.Pairwise fun a b => ¬ x.cmpH b a < 0) ∧ eltH.Own w' B v l' ∧ Below B w w' := by
  rcases own.2 with ⟨hv, h0⟩ | ⟨g, c, cur, hv, hg, hb, hrest⟩
  · subst hv
    have e : l = [] := List.eq_nil_of_length_eq_zero h0
    subst e
    have hc := sSortNil_ (P := Try.prog) (v := .pointer (some ⟨p, 0, none⟩)) Try.sortH cmp_enters w
    change Calls Try.prog 30 _ _ _ at hc
    refine hc.mono ?_
    rintro e w' ⟨rfl, rfl⟩
    exact ⟨rfl, [], List.Perm.refl _, List.Pairwise.nil, Elt.Own.nil _ _, Below.refl _ _⟩
  · subst hv
    have hc := sort_own eltH (Q := fun a => HOk a.1 a.2) Try.sortH rfl (fun w => Try.isAgg34 w) 31 (.pointer (some ⟨p, 0, none⟩)) x.cmpH w B g c l hk own (Nat.lt_of_le_of_lt hl (by decide)) cmp_enters (cmpH_swo x _)
      (fun W hW hs a b ha hb => by
        have hh : WhI W p x n pb cap sb mb := h.keep hs fun k hk => hW k (h.lt k hk) (fun e => by have := hB k hk; omega)
        refine (wz_compare_ hh (s := a.1) (g := a.2) (t := b.1) (k := b.2) ha hb).mono ?_
        rintro e w' ⟨rfl, f⟩
        exact ⟨rfl, f.grow⟩)
    change Calls Try.prog 30 _ _ _ at hc
    refine hc.mono ?_
    rintro e w' ⟨rfl, l', p1, p2, p3, p4, p5, p6, p7, p8⟩
    rw [p1.length_eq] at p3
    exact ⟨rfl, l', p1, p2, p3, ⟨p5, p6, p7, p8, fun k hk => p4 k (by omega) (by omega)⟩⟩
/-- With the first i of a list cut. -/
def Wh.cutTo (x : Wh) (l : List (Int × Int)) (i : Nat) : Wh := { x with l := x.l.filter fun t => !decide (t.key ∈ l.take i) }
theorem cutTo_zero (x : Wh) (l : List (Int × Int)) : x.cutTo l 0 = x := by
  unfold Wh.cutTo
  have : (x.l.filter fun t => !decide (t.key ∈ l.take 0)) = x.l := List.filter_eq_self.2 fun t _ => by simp
  rw [this]
theorem cutTo_succ (x : Wh) {l : List (Int × Int)} {i : Nat} (hi : i < l.length) : (x.cutTo l i).cutT (l.getD i (0, 0)).1 (l.getD i (0, 0)).2 = x.cutTo l (i + 1) := by
  unfold Wh.cutTo Wh.cutT
  simp only []
  rw [List.filter_filter]
  have : (x.l.filter fun t => (!t.is (l.getD i (0, 0)).1 (l.getD i (0, 0)).2) && !decide (t.key ∈ l.take i)) = x.l.filter fun t => !decide (t.key ∈ l.take (i + 1)) := List.filter_congr fun t _ => by
    rw [key_is, List.take_add_one, List.getElem?_eq_getElem hi, List.getD_eq_getElem?_getD, List.getElem?_eq_getElem hi]
    show (decide (t.key ≠ l[i]) && !decide (t.key ∈ l.take i)) = !decide (t.key ∈ l.take i ++ [l[i]])
    rw [Bool.eq_iff_iff]
    simp only [Bool.and_eq_true, decide_eq_true_eq, Bool.not_eq_true', decide_eq_false_iff_not, List.mem_append, List.mem_singleton, not_or]
    exact And.comm
  rw [this]
theorem key_one (ok : x.Ok) {t u : Ti} (ht : t ∈ x.l) (hu : u ∈ x.l) (e : u.key = t.key) : u = t := by
  refine Classical.byContradiction fun hne => ?_
  obtain ⟨a, ha, rfl⟩ := List.mem_iff_getElem.1 hu
  obtain ⟨b, hb, rfl⟩ := List.mem_iff_getElem.1 ht
  have hp := List.pairwise_iff_getElem.1 ok.nd
  have h1 : x.l[a].s = x.l[b].s := congrArg Prod.fst e
  have h2 : x.l[a].g = x.l[b].g := congrArg Prod.snd e
  rcases Nat.lt_trichotomy a b with h | h | h
  · exact hp a b ha hb h ⟨h1, h2⟩
  · subst h; exact hne rfl
  · exact hp b a hb ha h ⟨h1.symm, h2.symm⟩
theorem cutTo_all (ok : x.Ok) {now : Nat} (hm : x.mayT (now : Int)) {l : List (Int × Int)} (hl : l = (x.turnL (now : Int)).map Ti.key) : (x.cutTo l l.length).l = (x.turnT (now : Int)).l := by
  unfold Wh.cutTo Wh.turnT
  rw [if_pos hm]
  refine List.filter_congr fun t ht => ?_
  rw [List.take_length, hl, Bool.eq_iff_iff]
  simp only [Bool.not_eq_true', decide_eq_false_iff_not]
  refine not_congr ⟨fun h => ?_, fun h => ?_⟩
  · obtain ⟨u, hu, e⟩ := List.mem_map.1 h
    unfold Wh.turnL at hu
    rw [if_pos hm] at hu
    obtain ⟨hu1, hu2⟩ := List.mem_filter.1 hu
    rw [← key_one ok ht hu1 e]
    exact of_decide_eq_true hu2
  · refine List.mem_map.2 ⟨t, ?_, rfl⟩
    unfold Wh.turnL
    rw [if_pos hm]
    exact List.mem_filter.2 ⟨ht, decide_eq_true h⟩
theorem p_not_map {b : Nat} {L : List HE} {v : Value} {i : Nat} (hc : w.cell? ⟨p, i, none⟩ = some v) (hm : MapL w b L) : p ≠ b := fun e => by
  obtain ⟨D, ⟨es, clock, hb, _⟩, _⟩ := hm.da
  rw [← e] at hb
  simp [World.cell?, hb] at hc
/-- The tick is laid. -/
theorem WhI.tick (h : WhI w p x n pb cap sb mb) {now : Nat} (h1 : x.last ≤ now) (h2 : (now : Int) ≤ Wh.max) (hd : ∀ t ∈ x.l, now < t.d) : WhI (w.setCell ⟨p, 0, none⟩ (.int .i64 (now : Int))) p ⟨now, x.l⟩ n pb cap sb mb := by
  have ok : Wh.Ok ⟨now, x.l⟩ := ⟨h.ok.st, h.ok.nd, h.ok.low, h2⟩
  have keep : ∀ k, k ≠ p → (w.setCell ⟨p, 0, none⟩ (.int .i64 (now : Int))).heap[k]? = w.heap[k]? := fun k hk => Below.heap_setCell _ _ _ _ hk
  have at_ : ∀ t ∈ x.l, Wh.atN ⟨now, x.l⟩ n t = x.atN n t := fun t ht => by
    have hdt := hd t ht
    have e1 : Nat.max t.d now = t.d := Nat.max_eq_left (Nat.le_of_lt hdt)
    have e2 : Nat.max t.d x.last = t.d := Nat.max_eq_left (by omega)
    show Nat.max t.d now % n = Nat.max t.d x.last % n
    rw [e1, e2]
  have est : Wh.stL ⟨now, x.l⟩ n = x.stL n := by
    unfold Wh.stL
    exact List.map_congr_left fun t ht => by rw [at_ t ht]
  have epl : ∀ i, Wh.plL ⟨now, x.l⟩ n i = x.plL n i := fun i => by
    unfold Wh.plL
    have : (x.l.filter fun t => decide (Wh.atN ⟨now, x.l⟩ n t = i)) = x.l.filter fun t => decide (x.atN n t = i) := List.filter_congr fun t ht => by rw [at_ t ht]
    exact congrArg _ this
  have nps := p_not_map h.c0 h.st
  refine ⟨ok, by simpa using h.lp, World.cell?_setCell_same _ _ _ h.c0, by rw [World.frozen?_setCell]; exact h.f0, ?_, ?_, h.n1, h.n64, by simpa using h.lb, fun i hi => ?_, by rw [est]; exact h.st.keep (keep _ (Ne.symm nps)), fun i hi => by rw [epl]; exact (h.pm i hi).keep (keep _ (Ne.symm (p_not_map h.c0 (h.pm i hi)))), h.ne, h.inj, h.sne⟩
  · rw [World.cell?_setCell_other _ _ _ _ (by simp)]; exact h.c1
  · rw [World.cell?_setCell_other _ _ _ _ (by simp)]; exact h.c2
  · exact (World.cell?_of_block (w := w) (a := ⟨pb, i, none⟩) (keep pb (Ne.symm h.ne))).trans (h.pl i hi)
end
end Go.Proofs.Ytmephmjlajaopaa

namespace Go.Proofs.Ytmephmjlajaopaa
set_option linter.unusedVariables false
set_option maxRecDepth 100000
set_option linter.unusedSimpArgs false
open Go.ChangeShapes Go.WideShapes Go.ChangeAt Go.RowKit Go.PlainAid
attribute [local go_sem ↓] Go.wp_at_zero Go.wp_at_succ
section
variable {w w' : World} {p : Nat} {x : Wh} {n pb cap sb : Nat} {mb : Nat → Nat}
theorem turn_bad {m : Int} (h : ¬ x.mayT m) : x.turnL m = [] ∧ x.turnE m = 2 ∧ x.turnT m = x := by
  unfold Wh.turnL Wh.turnE Wh.turnT
  rw [if_neg h, if_neg h, if_neg h]
  exact ⟨rfl, rfl, rfl⟩
theorem turn_good {now : Nat} (h : x.mayT (now : Int)) : x.turnE (now : Int) = 0 ∧ (x.turnT (now : Int)).last = now ∧ ∀ t ∈ (x.turnT (now : Int)).l, now < t.d := by
  unfold Wh.turnE Wh.turnT
  rw [if_pos h, if_pos h]
  refine ⟨rfl, rfl, fun t ht => ?_⟩
  have := (List.mem_filter.1 ht).2
  simp at this
  omega
/-- The first loop of Turn. -/
structure TurnA (w5 wr : World) (x : Wh) (n now i : Nat) (v : Value) (l : List (Int × Int)) : Prop where
  own : eltH.Own wr w5.heap.size v l
  pm : l.Perm (x.dueOf n now i)
  below : Below w5.heap.size w5 wr
/-- The second one. -/
structure TurnB (w6 wr : World) (p : Nat) (x : Wh) (n pb cap sb : Nat) (mb : Nat → Nat) (B : Nat) (v : Value) (l : List (Int × Int)) (i : Nat) : Prop where
  wh : WhI wr p (x.cutTo l i) n pb cap sb mb
  own : eltH.Own wr B v l
  bes : Beside (whS p n pb sb mb) w6 wr
set_option maxHeartbeats 4000000 in
/-- (*Wheel).Turn. -/
theorem wz_turn_ (h : WhI w p x n pb cap sb mb) (hl : x.l.length ≤ 1000) (m : Int) : Calls Try.prog 14 #[.pointer (some ⟨p, 0, none⟩), .int .i64 m] w fun e w' => ∃ (a : Option Addr) (c : Nat), e = .returned (.tuple #[.slice a (x.turnL m).length c, .int .i64 (x.turnE m : Int)]) ∧ WhI w' p (x.turnT m) n pb cap sb mb ∧ Beside (whS p n pb sb mb) w w' ∧ eltH.Sl w' a c ((x.turnL m).map Ti.key) ∧ ∀ b off, a = some ⟨b, off, none⟩ → w.heap.size ≤ b ∧ b < w'.heap.size := by
  have kn := wz_none_ h
  have c0 := h.c0
  have H := Lib.hid h
  have HL := Lib.hid hl
  by_cases hm : ¬ x.mayT m
  · have HV := Lib.hid (turn_bad hm)
    by_cases h0 : m < (x.last : Int)
    · have t1 : decide (m < (x.last : Int)) = true := decide_eq_true h0
      clear h hl hm
      go_enter Try.func14, Try.ntmps14
      go_wp2_with (go_at_call 27; refine kn.mono ?_; rintro e w2 ⟨rfl, rfl⟩)
      go_ret2
      rw [HV.out.1, HV.out.2.1, HV.out.2.2]
      exact ⟨none, 0, rfl, H.out, Beside.refl _ _, Elt.Sl.nil _, fun b off e => by cases e⟩
    · have t1 : decide (m < (x.last : Int)) = false := decide_eq_false h0
      have t2 : decide (1099511627776 < m) = true := by
        refine decide_eq_true ?_
        have : ¬ m ≤ 1099511627776 := fun e => hm ⟨by omega, e⟩
        omega
      clear h hl hm
      go_enter Try.func14, Try.ntmps14
      go_wp2_with (go_at_call 27; refine kn.mono ?_; rintro e w2 ⟨rfl, rfl⟩)
      go_ret2
      rw [HV.out.1, HV.out.2.1, HV.out.2.2]
      exact ⟨none, 0, rfl, H.out, Beside.refl _ _, Elt.Sl.nil _, fun b off e => by cases e⟩
  have hm := Decidable.not_not.1 hm
  obtain ⟨now, rfl⟩ := Int.eq_ofNat_of_zero_le (show 0 ≤ m by have := hm.1; omega)
  have hlast : x.last ≤ now := by have := hm.1; omega
  have hmax : now ≤ 1099511627776 := by have := hm.2; unfold Wh.max at this; omega
  have t1 : decide ((now : Int) < (x.last : Int)) = false := decide_eq_false (by omega)
  have t1n : decide (now < x.last) = false := decide_eq_false (by omega)
  have t2 : decide ((1099511627776 : Int) < (now : Int)) = false := decide_eq_false (by omega)
  have t2n : decide (1099511627776 < now) = false := decide_eq_false (by omega)
  have HM := Lib.hid hm
  have kp := wz_passed_ h now hlast hmax
  obtain ⟨k, hk⟩ : ∃ k, k = x.many n now := ⟨_, rfl⟩
  have kn64 : k ≤ n := by rw [hk]; unfold Wh.many; split <;> omega
  have K64 : Hid (k ≤ n ∧ n ≤ 64 ∧ 1 ≤ n) := ⟨kn64, h.n64, h.n1⟩
  rw [← hk] at kp
  have HK := Lib.hid hk
  have HLM := Lib.hid (And.intro hlast hmax)
  clear h hl hm hlast hmax hk kn64
  go_enter Try.func14, Try.ntmps14
  go_upto_region 5 with (go_at_call 27; refine kn.mono ?_; rintro e w2 ⟨rfl, hw2⟩; obtain rfl : w = w2 := hw2.symm)
  clear t1 t1n t2 t2n kn c0
  go_wp2_with fail
  refine kp.mono ?_
  rintro e w5 ⟨v5, rfl, own5, b5⟩
  obtain ⟨a5, c5, e5, s5, n5⟩ := own5.sl
  rw [gone_len] at e5
  subst e5
  have H5 := Lib.hid (H.out.on b5)
  have S5 := Lib.hid s5
  have BW5 := Lib.hid b5
  have A0 : Hid (TurnA w5 w5 x n now 0 (.slice none 0 0) []) := ⟨Elt.Own.nil _ _, by rw [dueOf_zero], Below.refl _ _⟩
  clear kp own5 s5 n5 b5
  go_wp2
  go_loopw [4, 28] (fun v4 v28 wr => ∃ (i : Nat) (l : List (Int × Int)), i ≤ k ∧ v28 = .int .i64 (i : Int) ∧ Hid (TurnA w5 wr x n now i v4 l)) (fun _ v28 _ => k - (intOf v28).toNat)
  case atStart => exact ⟨0, [], Nat.zero_le _, rfl, A0⟩
  case round =>
    clear A0
    obtain ⟨i, l, hi, rfl, HA⟩ := hrel
    by_cases hlt : i < k
    · have HI := Lib.hid hlt
      have u1 : decide ((i : Int) < (k : Int)) = true := decide_eq_true (by omega)
      have u2 : decide (i < k) = true := decide_eq_true hlt
      have hin : i < n := Nat.lt_of_lt_of_le hlt K64.out.1
      obtain ⟨b, off, e5, hb, hcell⟩ := (S5.out.row.on HA.out.below).at (i := i) (by rw [gone_len]; exact hlt)
      have hg : (x.gone n mb k).getD i none = some (mb ((x.last + i) % n)) := by
        unfold Wh.gone
        rw [List.getD_eq_getElem?_getD, List.getElem?_map, List.getElem?_range hlt]
        rfl
      have hj : (x.last + i) % n < n := Nat.mod_lt _ K64.out.2.2
      have c5' : wr.cell? ⟨b, off + i, none⟩ = some (.map (some (mb ((x.last + i) % n)))) := by
        have := hcell 0 (.map (some (mb ((x.last + i) % n)))) (by decide) (by show ([Value.map ((x.gone n mb k).getD i none)] : List Value)[0]? = _; rw [hg]; rfl)
        simpa [eltM] using this
      have HR := H5.out.on HA.out.below
      have ko := wz_over_ (mb ((x.last + i) % n)) (x.plL n ((x.last + i) % n)) (now : Int) wr (HR.pm _ hj) (by unfold Wh.plL; rw [List.length_map]; exact Nat.le_trans (List.length_filter_le _ _) HL.out)
      have SUC := Lib.hid (fun (out : List (Int × Int)) (hp : out.Perm (dueL (now : Int) (x.plL n ((x.last + i) % n)))) => dueOf_succ x hin HA.out.pm hp)
      have i64 : i < 64 := by have := K64.out.2.1; omega
      generalize mb ((x.last + i) % n) = mbj at c5' ko
      generalize x.plL n ((x.last + i) % n) = plj at ko SUC
      subst e5
      clear hcell hg hj HR hlt hi hin hb
      go_wp2_with fail
      refine ko.mono ?_
      rintro e w7 ⟨v7, out, rfl, hp, own7, b7⟩
      obtain ⟨a7, c7, e7, s7, n7⟩ := own7.sl
      subst e7
      have HO := HA.out.own.on b7
      have hlen := (SUC.out out hp).length_eq
      rw [List.length_append] at hlen
      have hlen2 := dueOf_len x n now (i + 1)
      have hlen3 : l.length + out.length ≤ 1000 := by have := HL.out; omega
      obtain ⟨v8, w8, hrun, hown, hgrow, hnew⟩ := HO.append 42 s7 (by show (l.length + out.length) * 16 ≤ _; omega) (by show _ ≤ 9223372036854775807; omega) (Nat.le_trans HA.out.below.size b7.size)
      have RUN := Lib.hid hrun
      have B7 : Below w5.heap.size w5 w7 := HA.out.below.trans (b7.mono HA.out.below.size)
      have FIN : Hid (TurnA w5 w8 x n now (i + 1) v8 (l ++ out)) := ⟨hown, SUC.out out hp, B7.grown hgrow B7.size (fun g e => (HO.lt g e).1)⟩
      obtain ⟨a4, c4, e4, _, _⟩ := HA.out.own.sl
      obtain ⟨a8, c8, e8, _, _⟩ := hown.sl
      clear hrun hown hgrow hnew HO s7 n7 own7 b7 B7 hp hlen hlen2 hlen3 SUC ko HA
      subst e4
      subst e8
      generalize (l ++ out).length = n8 at RUN FIN
      generalize l.length = n4 at RUN ⊢
      generalize out.length = n7 at RUN ⊢
      go_wp2_with (at_builtin; refine Lib.wpList_append_run _ rfl _ _ 42 42 rfl _ _ rfl rfl _ _ RUN.out ?_)
      clear c5'
      go_wp2
      go_roundw
      case rel => exact ⟨i + 1, _, HI.out, by go_num, FIN⟩
      case measure =>
        have := HI.out
        simp [intOf]
        omega
    · obtain rfl : i = k := Nat.le_antisymm hi (Nat.le_of_not_lt hlt)
      have u1 : decide ((i : Int) < (i : Int)) = false := by simp
      clear hlt hi
      have HR := H5.out.on HA.out.below
      have hpm := HA.out.pm
      rw [HK.out, dueOf_all x K64.out.2.2 HLM.out.1 HLM.out.2] at hpm
      have hkl : ∀ a ∈ l, HOk a.1 a.2 := fun a ha => by
        obtain ⟨t, ht, rfl⟩ := List.mem_map.1 (hpm.mem_iff.1 ha)
        have hs : t ∈ x.l := by
          unfold Wh.turnL at ht
          rw [if_pos HM.out] at ht
          exact (List.mem_filter.1 ht).1
        exact HR.key_ok hs
      have hll : l.length ≤ 1000 := by
        have h1 := hpm.length_eq
        have h2 : (x.turnL (now : Int)).length ≤ x.l.length := by
          unfold Wh.turnL
          rw [if_pos HM.out]
          exact List.length_filter_le _ _
        rw [List.length_map] at h1
        have := HL.out
        omega
      have LT5 := Lib.hid H5.out.lt
      have ks := wz_sort_ HR HA.out.own (fun k hk => LT5.out k hk) HA.out.below.size hll hkl
      have HPM := Lib.hid hpm
      have HKL := Lib.hid hkl
      have BA := Lib.hid HA.out.below
      have HLL := Lib.hid hll
      have HOK := Lib.hid HR.ok
      clear hpm hkl hll HR
      go_wp2_with fail
      refine ks.mono ?_
      rintro e w6 ⟨rfl, l', p1, p2, own6, b6⟩
      have el : l' = (x.turnL (now : Int)).map Ti.key := sorted_is x HOK.out (now : Int) (p1.trans HPM.out) (p2.imp fun h => by omega)
      have hlen : l.length = l'.length := p1.length_eq.symm
      have HK6 : Hid (∀ a ∈ l', HOk a.1 a.2) := fun a ha => HKL.out a (p1.mem_iff.1 ha)
      obtain ⟨a4, c4, e4, s4, n4⟩ := own6.sl
      have H6 : WhI w6 p x n pb cap sb mb := (H5.out.on BA.out).keep b6.size (fun k hk => (b6.block k (LT5.out k hk)).trans rfl)
      have TB : Hid (TurnB w6 w6 p x n pb cap sb mb w5.heap.size u4 l' 0) := ⟨by rw [cutTo_zero]; exact H6, own6, Beside.refl _ _⟩
      have LL : Hid (l'.length ≤ 1000) := by show _ ≤ _; rw [← hlen]; exact HLL.out
      have EL := Lib.hid el
      have B56 : Hid (Below w5.heap.size w5 w6) := BA.out.trans b6
      clear ks p1 p2 own6 b6 el H6 HA s4 n4 BA hlen
      have E4 := Lib.hid e4
      subst e4
      obtain ⟨q, hq⟩ : ∃ q, q = l'.length := ⟨_, rfl⟩
      rw [← hq] at TB ⊢
      have HQ := Lib.hid hq
      have Q1 : q ≤ 1000 := by rw [hq]; exact LL.out
      clear hq E4
      go_wp2
      go_loopw [44] (fun v44 wr => ∃ j : Nat, j ≤ q ∧ v44 = .int .i64 (j : Int) ∧ Hid (TurnB w6 wr p x n pb cap sb mb w5.heap.size (.slice a4 q c4) l' j)) (fun v44 _ => q - (intOf v44).toNat)
      case atStart => exact ⟨0, Nat.zero_le _, rfl, TB⟩
      case round =>
        clear TB
        obtain ⟨j, hj, rfl, HB⟩ := hrel
        by_cases hlt : j < q
        · have HJ := Lib.hid hlt
          have u3 : decide ((j : Int) < (q : Int)) = true := decide_eq_true (by omega)
          have u4' : decide (j < q) = true := decide_eq_true hlt
          have hj2 : j < l'.length := by rw [← HQ.out]; exact hlt
          obtain ⟨a, c, e, s4, _⟩ := HB.out.own.sl
          rw [← HQ.out] at e
          injection e with e1 e2 e3
          subst e1 e3
          obtain ⟨b, off, e5, hb, hcell⟩ := s4.row.at hj2
          have y0 := hcell 0 (.int .i64 (l'.getD j (0, 0)).1) (by decide) rfl
          have y1 := hcell 1 (.int .u32 (l'.getD j (0, 0)).2) (by decide) rfl
          have ey0 : off + j * eltH.k + 0 = off + j * 2 := rfl
          have ey1 : off + j * eltH.k + 1 = off + j * 2 + 1 := rfl
          rw [ey0] at y0
          rw [ey1] at y1
          have hok : HOk (l'.getD j (0, 0)).1 (l'.getD j (0, 0)).2 := HK6.out _ (by rw [List.getD_eq_getElem?_getD, List.getElem?_eq_getElem hj2]; exact List.getElem_mem hj2)
          have SUC := Lib.hid (cutTo_succ x hj2)
          obtain ⟨⟨ks, kg⟩, hkk⟩ : ∃ r, r = l'.getD j (0, 0) := ⟨_, rfl⟩
          rw [← hkk] at y0 y1 hok SUC
          simp only [] at y0 y1 hok SUC
          subst e5
          clear hcell ey0 ey1 hkk hj2 hb s4
          have f1 : Below wr.heap.size wr (wr.alloc (.cells #[.int .i64 ks, .int .u32 kg] 34)) := (Below.refl _ _).alloc (Nat.le_refl _) _
          have b0 : (wr.alloc (.cells #[.int .i64 ks, .int .u32 kg] 34)).cell? ⟨wr.heap.size, 0, none⟩ = some (.int .i64 ks) := World.cell?_alloc_mark wr #[.int .i64 ks, .int .u32 kg] 34 (0, 0) 0
          have b1 : (wr.alloc (.cells #[.int .i64 ks, .int .u32 kg] 34)).cell? ⟨wr.heap.size, 1, none⟩ = some (.int .u32 kg) := World.cell?_alloc_mark wr #[.int .i64 ks, .int .u32 kg] 34 (0, 0) 1
          have kc := wz_cut_ (HB.out.wh.on f1) hok
          have F1 := Lib.hid f1
          clear f1
          go_wp2_with fail
          refine kc.mono ?_
          rintro e w8 ⟨rfl, h8, b8⟩
          have OW : eltH.Own w8 w5.heap.size (.slice (some ⟨b, off, none⟩) q c4) l' := by
            refine (HB.out.own.on F1.out).keep fun g hg => b8.block g ((HB.out.own.on F1.out).lt g hg).2 (fun hk => ?_)
            have h1 := ((HB.out.own.on F1.out).lt g hg).1
            have h2 := LT5.out g hk
            omega
          have FIN : Hid (TurnB w6 w8 p x n pb cap sb mb w5.heap.size (.slice (some ⟨b, off, none⟩) q c4) l' (j + 1)) := ⟨by rw [← SUC.out]; exact h8, OW, (HB.out.bes.trans (Beside.of F1.out)).trans b8⟩
          clear kc h8 b8 OW SUC HB b0 b1 y0 y1 F1 hok
          go_wp2
          go_roundw
          case rel => exact ⟨j + 1, HJ.out, by go_num, FIN⟩
          case measure =>
            have := HJ.out
            simp [intOf]
            omega
        · obtain rfl : j = q := Nat.le_antisymm hj (Nat.le_of_not_lt hlt)
          have u3 : decide ((j : Int) < (j : Int)) = false := by simp
          clear hlt hj
          have hw := HB.out.wh
          have f0 := hw.f0
          have c0 := hw.c0
          have hg := turn_good HM.out
          have hcl : (x.cutTo l' j).l = (x.turnT (now : Int)).l := by rw [HQ.out]; exact cutTo_all HOK.out HM.out EL.out
          have hT : x.turnT (now : Int) = ⟨now, (x.cutTo l' j).l⟩ := by
            have e1 := hg.2.1
            rw [hcl]
            cases hx : x.turnT (now : Int) with
            | mk a b => rw [hx] at e1; simp only [] at e1; rw [e1]
          have HW : Hid (WhI (wr.setCell ⟨p, 0, none⟩ (.int .i64 (now : Int))) p (x.turnT (now : Int)) n pb cap sb mb) := by
            rw [hT]
            exact hw.tick HLM.out.1 HM.out.2 (fun t ht => hg.2.2 t (by rw [← hcl]; exact ht))
          have BES : Hid (Beside (whS p n pb sb mb) w (wr.setCell ⟨p, 0, none⟩ (.int .i64 (now : Int)))) := by
            have h1 : Beside (whS p n pb sb mb) w w6 := Beside.of (BW5.out.trans (B56.out.mono BW5.out.size))
            exact (h1.trans HB.out.bes).setCell (p := ⟨p, 0, none⟩) (.inl rfl) _
          have OW : Hid (eltH.Own (wr.setCell ⟨p, 0, none⟩ (.int .i64 (now : Int))) w5.heap.size (.slice a4 j c4) l') := HB.out.own.keep fun g hg2 => Below.heap_setCell _ _ _ _ (fun e => by
            have h1 := (HB.out.own.lt g hg2).1
            have h2 := LT5.out p (.inl rfl)
            have e' : g = p := e
            omega)
          have EQ := Lib.hid (And.intro hg.1 (show j = (x.turnL (now : Int)).length by rw [HQ.out, EL.out, List.length_map]))
          clear hg hcl hT hw HB
          go_wp2
          go_ret2
          obtain ⟨a, c, e, s4, n4⟩ := OW.out.sl
          rw [← HQ.out] at e
          injection e with e1 e2 e3
          subst e1 e3
          refine ⟨a4, c4, ?_, HW.out, BES.out, by rw [← EL.out]; exact s4, fun b off e => ?_⟩
          · rw [EQ.out.1, ← EQ.out.2]; rfl
          · have h1 := OW.out.lt b (n4 b off e)
            exact ⟨Nat.le_trans BW5.out.size h1.1, h1.2⟩
end
end Go.Proofs.Ytmephmjlajaopaa
