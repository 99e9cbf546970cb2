/- What EpochsGrace goes by (layer 14): plain, and in memory. -/
import Derived.Test.YtghicdajcmkfjaaEpoT
import Derived.Test.YtghicdajcmkfjaaEpoK
import Derived.Test.YtghicdajcmkfjaaArr
namespace Go.Proofs.Ytghicdajcmkfjaa
set_option linter.unusedVariables false
set_option linter.unusedSimpArgs false
open Go.ChangeShapes Go.WideShapes Go.ChangeAt Go.RowKit
/-- What is told of who sees what (slot k and worker v at k * 8 + v), and of what waits, is so. -/
structure Gr (x : Ep) (N : Nat) (f h : Nat → Bool) : Prop where
  len : x.said.length = N
  low : ∀ p ∈ x.l, p.1 < 9
  wt : ∀ k, k < 9 → h k = x.has (k : Int)
  se : ∀ k v, k < 9 → v < N → f (k * 8 + v) = true → ∃ e, (k, e) ∈ x.l ∧ 0 ≤ x.said.getD v (-1) ∧ x.said.getD v (-1) ≤ ((e : Nat) : Int)
namespace Gr
variable {x : Ep} {N : Nat} {f h f' h' : Nat → Bool}
theorem new (N : Nat) : Gr (Ep.new N) N (fun _ => false) (fun _ => false) :=
  ⟨List.length_replicate .., fun p hp => absurd hp List.not_mem_nil, fun k _ => rfl, fun k v _ _ h => nomatch h⟩
theorem has_of {y : Ep} (e : y.l = x.l) (s : Int) : y.has s = x.has s := by unfold Ep.has; rw [e]
theorem has_iff (k : Nat) : x.has (k : Int) = true ↔ ∃ p ∈ x.l, p.1 = k := by
  unfold Ep.has
  rw [List.any_eq_true]
  exact ⟨fun ⟨p, hp, e⟩ => ⟨p, hp, by have := of_decide_eq_true e; omega⟩, fun ⟨p, hp, e⟩ => ⟨p, hp, decide_eq_true (by omega)⟩⟩
theorem now_of (ok : x.Ok) {v : Nat} (hv : v < x.said.length) (h0 : 0 ≤ x.said.getD v (-1)) : x.said.getD v (-1) ≤ x.now ∧ (x.now : Int) ≤ x.said.getD v (-1) + 1 := by
  have hm : x.said.getD v (-1) ∈ x.said := by
    rw [List.getD_eq_getElem?_getD, List.getElem?_eq_getElem hv]
    exact List.getElem_mem hv
  rcases ok.sd _ hm with e | e
  · omega
  · exact e.2
theorem le_now (ok : x.Ok) {v : Nat} (hv : v < x.said.length) : x.said.getD v (-1) ≤ x.now := by
  by_cases h0 : 0 ≤ x.said.getD v (-1)
  · exact (now_of ok hv h0).1
  · have : (0 : Int) ≤ (x.now : Int) := Int.natCast_nonneg _
    omega
theorem enter (g : Gr x N f h) {W : Nat} (hW : W < N) (hf : ∀ k v, k < 9 → v < N → f' (k * 8 + v) = true → f (k * 8 + v) = true ∧ (v = W → (x.now : Int) = x.said.getD W (-1))) : Gr (x.setT (W : Int) x.now) N f' h := by
  have hl := Ep.l_set x (W : Int) x.now
  refine ⟨(Ep.said_len_set _ _ _).trans g.len, fun p hp => g.low p (hl ▸ hp), fun k hk => (g.wt k hk).trans (has_of hl _).symm, fun k v hk hv ht => ?_⟩
  obtain ⟨h1, h2⟩ := hf k v hk hv ht
  obtain ⟨e, he, h3, h4⟩ := g.se k v hk hv h1
  refine ⟨e, by rw [hl]; exact he, ?_⟩
  rw [Ep.said_at (by rw [g.len]; exact hW)]
  by_cases ev : v = W
  · rw [if_pos ev, h2 ev, ← ev]; exact ⟨h3, h4⟩
  · rw [if_neg ev]; exact ⟨h3, h4⟩
theorem leave (g : Gr x N f h) {W : Nat} (hW : W < N) (hf : ∀ k v, k < 9 → v < N → f' (k * 8 + v) = true → f (k * 8 + v) = true ∧ v ≠ W) : Gr (x.setT (W : Int) (-1)) N f' h := by
  have hl := Ep.l_set x (W : Int) (-1)
  refine ⟨(Ep.said_len_set _ _ _).trans g.len, fun p hp => g.low p (hl ▸ hp), fun k hk => (g.wt k hk).trans (has_of hl _).symm, fun k v hk hv ht => ?_⟩
  obtain ⟨h1, h2⟩ := hf k v hk hv ht
  obtain ⟨e, he, h3, h4⟩ := g.se k v hk hv h1
  refine ⟨e, by rw [hl]; exact he, ?_⟩
  rw [Ep.said_at (by rw [g.len]; exact hW), if_neg h2]
  exact ⟨h3, h4⟩
theorem adv (g : Gr x N f h) : Gr x.advT N f h := by
  have hs : x.advT.said = x.said := by unfold Ep.advT; split <;> rfl
  have hl := Ep.l_adv x
  exact ⟨by rw [hs]; exact g.len, fun p hp => g.low p (hl ▸ hp), fun k hk => (g.wt k hk).trans (has_of hl _).symm, fun k v hk hv ht => by rw [hs, hl]; exact g.se k v hk hv ht⟩
theorem late (g : Gr x N f h) (ok : x.Ok) {k v e : Nat} (hk : k < 9) (hv : v < N) (ht : f (k * 8 + v) = true) (he : (k, e) ∈ x.l) : ¬ e + 2 ≤ x.now := by
  obtain ⟨e2, h2, h3, h4⟩ := g.se k v hk hv ht
  have ee : e = e2 := by
    have key : ∀ l : List (Nat × Nat), (l.map fun p => p.1).Nodup → (k, e) ∈ l → (k, e2) ∈ l → e = e2 := by
      intro l
      induction l with
      | nil => intro _ h; exact absurd h List.not_mem_nil
      | cons a l ih =>
        intro hn h1 h2
        rw [List.map_cons, List.nodup_cons] at hn
        rcases List.mem_cons.1 h1 with r1 | r1
        · rcases List.mem_cons.1 h2 with r2 | r2
          · exact (Prod.mk.inj (r1.trans r2.symm)).2
          · exact absurd (List.mem_map.2 ⟨_, r2, by rw [← r1]⟩) hn.1
        · rcases List.mem_cons.1 h2 with r2 | r2
          · exact absurd (List.mem_map.2 ⟨_, r1, by rw [← r2]⟩) hn.1
          · exact ih hn.2 r1 r2
    exact key x.l ok.nd he h2
  have := (now_of ok (by rw [g.len]; exact hv) h3).2
  omega
theorem mem_ripe {k : Nat} : k ∈ x.ripe ↔ ∃ e, (k, e) ∈ x.l ∧ e + 2 ≤ x.now := by
  unfold Ep.ripe
  rw [List.mem_map]
  refine ⟨fun ⟨p, hp, e⟩ => ?_, fun ⟨e, he, hr⟩ => ⟨(k, e), List.mem_filter.2 ⟨he, decide_eq_true hr⟩, rfl⟩⟩
  obtain ⟨h1, h2⟩ := List.mem_filter.1 hp
  exact ⟨p.2, by rw [← e]; exact h1, of_decide_eq_true h2⟩
theorem ripe_nd (ok : x.Ok) : x.ripe.Nodup := ok.nd.sublist (List.filter_sublist.map _)
theorem ripe_low (g : Gr x N f h) {k : Nat} (hk : k ∈ x.ripe) : k < 9 := by
  obtain ⟨e, he, _⟩ := mem_ripe.1 hk
  exact g.low _ he
theorem ripe_wt (g : Gr x N f h) {k : Nat} (hk : k ∈ x.ripe) : h k = true := by
  obtain ⟨e, he, _⟩ := mem_ripe.1 hk
  rw [g.wt k (g.ripe_low hk)]
  exact (has_iff k).2 ⟨_, he, rfl⟩
theorem ripe_se (g : Gr x N f h) (ok : x.Ok) {k v : Nat} (hk : k ∈ x.ripe) (hv : v < N) : f (k * 8 + v) = false := by
  obtain ⟨e, he, hr⟩ := mem_ripe.1 hk
  cases ht : f (k * 8 + v) with
  | false => rfl
  | true => exact absurd hr (g.late ok (g.ripe_low hk) hv ht he)
theorem ripe (g : Gr x N f h) (ok : x.Ok) (hh : ∀ k, k < 9 → h' k = (h k && !x.ripe.contains k)) : Gr x.ripeT N f h' := by
  refine ⟨g.len, fun p hp => g.low p (List.mem_filter.1 hp).1, fun k hk => ?_, fun k v hk hv ht => ?_⟩
  · rw [hh k hk, g.wt k hk, Bool.eq_iff_iff, Bool.and_eq_true, Bool.not_eq_true', has_iff, has_iff, List.contains_eq_mem]
    refine ⟨fun ⟨⟨p, hp, e⟩, hn⟩ => ⟨p, List.mem_filter.2 ⟨hp, decide_eq_true fun hr => ?_⟩, e⟩, fun ⟨p, hp, e⟩ => ⟨⟨p, (List.mem_filter.1 hp).1, e⟩, decide_eq_false fun hm => ?_⟩⟩
    · exact (of_decide_eq_false hn) (mem_ripe.2 ⟨p.2, by rw [← e]; exact hp, hr⟩)
    · obtain ⟨e2, he, hr⟩ := mem_ripe.1 hm
      obtain ⟨hp1, hp2⟩ := List.mem_filter.1 hp
      have ee : p.2 = e2 := by
        have key : ∀ l : List (Nat × Nat), (l.map fun p => p.1).Nodup → p ∈ l → (k, e2) ∈ l → p.2 = e2 := by
          intro l
          induction l with
          | nil => intro _ h; exact absurd h List.not_mem_nil
          | cons a l ih =>
            intro hn h1 h2
            rw [List.map_cons, List.nodup_cons] at hn
            rcases List.mem_cons.1 h1 with r1 | r1
            · rcases List.mem_cons.1 h2 with r2 | r2
              · rw [r1, ← r2]
              · exact absurd (List.mem_map.2 ⟨_, r2, by rw [← r1]; exact e.symm⟩) hn.1
            · rcases List.mem_cons.1 h2 with r2 | r2
              · exact absurd (List.mem_map.2 ⟨_, r1, by rw [← r2]; exact e⟩) hn.1
              · exact ih hn.2 r1 r2
        exact key x.l ok.nd hp1 he
      exact (of_decide_eq_true hp2) (by rw [ee]; exact hr)
  · obtain ⟨e, he, h3, h4⟩ := g.se k v hk hv ht
    exact ⟨e, List.mem_filter.2 ⟨he, decide_eq_true (g.late ok hk hv ht he)⟩, h3, h4⟩
theorem defer_no (g : Gr x N f h) {z : Nat} (hz : z < 9) (hh : h z = true) : x.defE (z : Int) = 7 ∧ x.defT (z : Int) = x := by
  have hr : 0 ≤ (z : Int) ∧ (z : Int) ≤ 255 := by omega
  rw [g.wt z hz] at hh
  unfold Ep.defE Ep.defT
  rw [if_pos hr, if_pos hr, hh]
  exact ⟨rfl, rfl⟩
theorem defer_ok (g : Gr x N f h) {z : Nat} (hz : z < 9) (hh : h z = false) : x.defE (z : Int) = 0 ∧ x.defT (z : Int) = { x with l := x.l ++ [(z, x.now)] } := by
  have hr : 0 ≤ (z : Int) ∧ (z : Int) ≤ 255 := by omega
  rw [g.wt z hz] at hh
  unfold Ep.defE Ep.defT
  rw [if_pos hr, if_pos hr, hh]
  exact ⟨rfl, rfl⟩
theorem defer (g : Gr x N f h) (ok : x.Ok) {z : Nat} (hz : z < 9) (hh : h z = false) (hf : ∀ k v, k < 9 → v < N → f' (k * 8 + v) = if k = z then decide (0 ≤ x.said.getD v (-1)) else f (k * 8 + v)) (h2 : ∀ k, k < 9 → h' k = if k = z then true else h k) : Gr { x with l := x.l ++ [(z, x.now)] } N f' h' := by
  refine ⟨g.len, fun p hp => ?_, fun k hk => ?_, fun k v hk hv ht => ?_⟩
  · rcases List.mem_append.1 hp with hp | hp
    · exact g.low p hp
    · rw [List.mem_singleton.1 hp]; exact hz
  · rw [h2 k hk, Bool.eq_iff_iff, has_iff]
    by_cases e : k = z
    · rw [if_pos e]
      exact ⟨fun _ => ⟨(z, x.now), List.mem_append.2 (.inr (List.mem_singleton.2 rfl)), e.symm⟩, fun _ => rfl⟩
    · rw [if_neg e, g.wt k hk, has_iff]
      refine ⟨fun ⟨p, hp, ep⟩ => ⟨p, List.mem_append.2 (.inl hp), ep⟩, fun ⟨p, hp, ep⟩ => ?_⟩
      rcases List.mem_append.1 hp with hp | hp
      · exact ⟨p, hp, ep⟩
      · rw [List.mem_singleton.1 hp] at ep
        exact absurd ep.symm e
  · rw [hf k v hk hv] at ht
    by_cases e : k = z
    · rw [if_pos e] at ht
      have h0 := of_decide_eq_true ht
      exact ⟨x.now, List.mem_append.2 (.inr (List.mem_singleton.2 (by rw [e]))), h0, (now_of ok (by rw [g.len]; exact hv) h0).1⟩
    · rw [if_neg e] at ht
      obtain ⟨e1, he, h3, h4⟩ := g.se k v hk hv ht
      exact ⟨e1, List.mem_append.2 (.inl he), h3, h4⟩
end Gr
/-- The law's memory: the epochs, and two arrays. -/
structure GrS (K : EpochsOk) (w0 w : World) (S : Nat → Prop) (q : Nat) (x : Ep) (gs gw : Nat) (f h : Nat → Bool) : Prop where
  al : Alone K.toObjP w0 w S q x
  sa : ArrB w gs 72 f
  wa : ArrB w gw 9 h
  ls : w0.heap.size ≤ gs
  lw : w0.heap.size ≤ gw
  ne : gs ≠ gw
  ns : ¬ S gs
  nw : ¬ S gw
namespace GrS
variable {K : EpochsOk} {w0 w w' : World} {S S' : Nat → Prop} {q : Nat} {x x' : Ep} {gs gw : Nat} {f h f' h' : Nat → Bool}
theorem on (g : GrS K w0 w S q x gs gw f h) (hb : Below w.heap.size w w') : GrS K w0 w' S q x gs gw f h := ⟨g.al.on hb, g.sa.on hb, g.wa.on hb, g.ls, g.lw, g.ne, g.ns, g.nw⟩
theorem one (g : GrS K w0 w S q x gs gw f h) (hr : K.Rep w' S' q x') (hf : Fresh w S S') (hb : Beside S w w') : GrS K w0 w' S' q x' gs gw f h :=
  ⟨g.al.one hr hf hb, g.sa.by hb g.ns, g.wa.by hb g.nw, g.ls, g.lw, g.ne, hf.not g.sa.lt g.ns, hf.not g.wa.lt g.nw⟩
theorem congr (g : GrS K w0 w S q x gs gw f h) (hf : ∀ j, j < 72 → f j = f' j) (hh : ∀ j, j < 9 → h j = h' j) : GrS K w0 w S q x gs gw f' h' := ⟨g.al, g.sa.congr hf, g.wa.congr hh, g.ls, g.lw, g.ne, g.ns, g.nw⟩
theorem setB (w : World) (b k : Nat) (v : Value) : Beside (fun j => j = b) w (w.setCell ⟨b, k, none⟩ v) := (Beside.refl (fun j => j = b) w).setCell (p := ⟨b, k, none⟩) (show b = b from rfl) v
theorem setS (g : GrS K w0 w S q x gs gw f h) (k : Nat) (hk : k < 72) (z : Bool) : GrS K w0 (w.setCell ⟨gs, k, none⟩ (.bool z)) S q x gs gw (fun j => if j = k then z else f j) h :=
  ⟨g.al.by (setB w gs k _) (fun j hj e => g.ns (e ▸ hj)) (fun j e => e ▸ g.ls), g.sa.set k hk z, g.wa.by (setB w gs k _) (fun e => g.ne e.symm), g.ls, g.lw, g.ne, g.ns, g.nw⟩
theorem setW (g : GrS K w0 w S q x gs gw f h) (k : Nat) (hk : k < 9) (z : Bool) : GrS K w0 (w.setCell ⟨gw, k, none⟩ (.bool z)) S q x gs gw f (fun j => if j = k then z else h j) :=
  ⟨g.al.by (setB w gw k _) (fun j hj e => g.nw (e ▸ hj)) (fun j e => e ▸ g.lw), g.sa.by (setB w gw k _) g.ne, g.wa.set k hk z, g.ls, g.lw, g.ne, g.ns, g.nw⟩
end GrS
end Go.Proofs.Ytghicdajcmkfjaa
