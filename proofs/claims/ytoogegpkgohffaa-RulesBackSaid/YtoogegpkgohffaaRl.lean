/- Texts of this proof, together: RulesBack, RulesBackW. -/
import Derived.Test.YtoogegpkgohffaaRh
import Derived.Test.YtoogegpkgohffaaRg
import Derived.Test.YtoogegpkgohffaaRj
import Derived.Test.YtoogegpkgohffaaRa
import Derived.Deep.CutBlock
namespace Go.Proofs.Ytoogegpkgohffaa
set_option linter.unusedVariables false
set_option linter.unusedSimpArgs false
open Go.ChangeShapes Go.WideShapes Go.ChangeAt Go.RowKit Go.PlainAid
attribute [local go_sem ↓] Go.wp_at_zero Go.wp_at_succ
theorem Box6.keep {w w' : World} {b : Nat} {v0 v1 v2 v3 v4 v5 : Value} (h : Box6 w b v0 v1 v2 v3 v4 v5) (hs : w.heap.size ≤ w'.heap.size) (hb : w'.heap[b]? = w.heap[b]?) : Box6 w' b v0 v1 v2 v3 v4 v5 := by
  obtain ⟨h, h0, h1, h2, h3, h4, h5⟩ := h
  have e : ∀ i : Nat, w'.cell? ⟨b, i, none⟩ = w.cell? ⟨b, i, none⟩ := fun i => World.cell?_of_block (w := w) hb
  exact ⟨Nat.lt_of_lt_of_le h hs, (e 0).trans h0, (e 1).trans h1, (e 2).trans h2, (e 3).trans h3, (e 4).trans h4, (e 5).trans h5⟩
namespace RulesBack
/-- A slice of rules beside a table: its block is none of the table's. -/
structure RowK (w : World) (p : Nat) (v : Value) (a : Option Addr) (rs : List Ru) : Prop where
  at_ : RulesAt w a rs
  apart : ∀ b, a = some ⟨b, 0, none⟩ → rs.length ≠ 0 → ¬ footC p v b
theorem RowK.on {w w' : World} {p : Nat} {v : Value} {a : Option Addr} {rs : List Ru} (h : RowK w p v a rs) (b : Below w.heap.size w w') : RowK w' p v a rs := ⟨h.at_.on b, h.apart⟩
theorem RowK.write {w w' : World} {p : Nat} {v v' : Value} {a : Option Addr} {rs : List Ru} (h : RowK w p v a rs) (x : Beside (footC p v) w w') (ho : Newer v v' w.heap.size) : RowK w' p v' a rs := by
  rcases h.at_ with e | ⟨b, rfl, hb, hc⟩
  · exact ⟨.inl e, fun _ _ k => absurd e k⟩
  · by_cases e : rs.length = 0
    · exact ⟨.inl e, fun _ _ k => absurd e k⟩
    · have nf := h.apart b rfl e
      refine ⟨.inr ⟨b, rfl, Nat.lt_of_lt_of_le hb x.size, fun i hi => ?_⟩, fun b' e' _ => ?_⟩
      · obtain ⟨c0, c1, c2, c3, c4, c5, c6, c7, c8, c9, c10⟩ := hc i hi
        exact ⟨(x.cell (p := ⟨b, i * 11, none⟩) hb nf).trans c0, (x.cell (p := ⟨b, i * 11 + 1, none⟩) hb nf).trans c1, (x.cell (p := ⟨b, i * 11 + 2, none⟩) hb nf).trans c2, (x.cell (p := ⟨b, i * 11 + 3, none⟩) hb nf).trans c3, (x.cell (p := ⟨b, i * 11 + 4, none⟩) hb nf).trans c4, (x.cell (p := ⟨b, i * 11 + 5, none⟩) hb nf).trans c5, (x.cell (p := ⟨b, i * 11 + 6, none⟩) hb nf).trans c6, (x.cell (p := ⟨b, i * 11 + 7, none⟩) hb nf).trans c7, (x.cell (p := ⟨b, i * 11 + 8, none⟩) hb nf).trans c8, (x.cell (p := ⟨b, i * 11 + 9, none⟩) hb nf).trans c9, (x.cell (p := ⟨b, i * 11 + 10, none⟩) hb nf).trans c10⟩
      · simp only [Option.some.injEq, Addr.mk.injEq, and_true] at e'
        subst e'
        exact foot_newer nf hb ho
theorem RowK.made {u w : World} {B p : Nat} {v : Value} {t : Tm} {a : Option Addr} {n c : Nat} {rs : List Ru} (T : TabC u B p v t) (r : RowC w u.heap.size (.slice a n c) rs) : RowK w p v a rs := by
  refine ⟨r.at.2, fun b e _ hf => ?_⟩
  have h1 := T.lt _ hf
  have h2 := (r.lt b (by simp [Value.ownBlock, e])).1
  omega
theorem RowK.cells {w : World} {p b : Nat} {v : Value} {rs : List Ru} (h : RowK w p v (some ⟨b, 0, none⟩) rs) (i : Nat) (hi : i < rs.length) : w.cell? ⟨b, i * 11, none⟩ = some (.int .i64 (rs.getD i Ru.zero).k) ∧ w.cell? ⟨b, i * 11 + 1, none⟩ = some (.int .u8 (rs.getD i Ru.zero).pr) ∧ w.cell? ⟨b, i * 11 + 2, none⟩ = some (.int .u32 ((rs.getD i Ru.zero).si : Int)) ∧ w.cell? ⟨b, i * 11 + 3, none⟩ = some (.int .i64 (rs.getD i Ru.zero).sb) ∧ w.cell? ⟨b, i * 11 + 4, none⟩ = some (.int .u32 ((rs.getD i Ru.zero).di : Int)) ∧ w.cell? ⟨b, i * 11 + 5, none⟩ = some (.int .i64 (rs.getD i Ru.zero).db) ∧ w.cell? ⟨b, i * 11 + 6, none⟩ = some (.int .u32 ((rs.getD i Ru.zero).ex : Int)) ∧ w.cell? ⟨b, i * 11 + 7, none⟩ = some (.int .u16 (rs.getD i Ru.zero).fr) ∧ w.cell? ⟨b, i * 11 + 8, none⟩ = some (.int .u16 (rs.getD i Ru.zero).to) ∧ w.cell? ⟨b, i * 11 + 9, none⟩ = some (.int .u32 ((rs.getD i Ru.zero).ii : Int)) ∧ w.cell? ⟨b, i * 11 + 10, none⟩ = some (.int .u16 (rs.getD i Ru.zero).ip) := by
  rcases h.at_ with e | ⟨b', e, _, hc⟩
  · omega
  · simp only [Option.some.injEq, Addr.mk.injEq, and_true] at e
    subst e
    exact hc i hi
theorem RowK.some {w : World} {p : Nat} {v : Value} {a : Option Addr} {rs : List Ru} (h : RowK w p v a rs) (hi : rs.length ≠ 0) : ∃ b, a = Option.some ⟨b, 0, none⟩ ∧ b < w.heap.size := by
  rcases h.at_ with e | ⟨b', e, hb, hc⟩
  · exact absurd e hi
  · exact ⟨b', e, hb⟩
theorem row_free {w : World} {B g n cap : Nat} {rs : List Ru} (h : RowC w B (.slice (some ⟨g, 0, none⟩) n cap) rs) (o : Nat) : w.frozen? ⟨g, o, none⟩ = false := by
  obtain ⟨cur, _, _, _, hg, _⟩ := h.get
  simp [World.frozen?, hg]
/-- What is left of a slice of rules from a place on, that may be written. -/
def Left (w : World) (a : Option Addr) (rs : List Ru) (i : Nat) : Prop := rs.length = 0 ∨ ∃ b, a = some ⟨b, 0, none⟩ ∧ b < w.heap.size ∧ (∀ o, w.frozen? ⟨b, o, none⟩ = false) ∧ ∀ j, i ≤ j → j < rs.length → w.cell? ⟨b, j * 11, none⟩ = some (.int .i64 (rs.getD j Ru.zero).k) ∧ w.cell? ⟨b, j * 11 + 1, none⟩ = some (.int .u8 (rs.getD j Ru.zero).pr) ∧ w.cell? ⟨b, j * 11 + 2, none⟩ = some (.int .u32 ((rs.getD j Ru.zero).si : Int)) ∧ w.cell? ⟨b, j * 11 + 3, none⟩ = some (.int .i64 (rs.getD j Ru.zero).sb) ∧ w.cell? ⟨b, j * 11 + 4, none⟩ = some (.int .u32 ((rs.getD j Ru.zero).di : Int)) ∧ w.cell? ⟨b, j * 11 + 5, none⟩ = some (.int .i64 (rs.getD j Ru.zero).db) ∧ w.cell? ⟨b, j * 11 + 6, none⟩ = some (.int .u32 ((rs.getD j Ru.zero).ex : Int)) ∧ w.cell? ⟨b, j * 11 + 7, none⟩ = some (.int .u16 (rs.getD j Ru.zero).fr) ∧ w.cell? ⟨b, j * 11 + 8, none⟩ = some (.int .u16 (rs.getD j Ru.zero).to) ∧ w.cell? ⟨b, j * 11 + 9, none⟩ = some (.int .u32 ((rs.getD j Ru.zero).ii : Int)) ∧ w.cell? ⟨b, j * 11 + 10, none⟩ = some (.int .u16 (rs.getD j Ru.zero).ip)
theorem Left.made {w : World} {B : Nat} {a : Option Addr} {n c : Nat} {rs : List Ru} (r : RowC w B (.slice a n c) rs) : Left w a rs 0 := by
  rcases r.at.2 with e | ⟨b, rfl, hb, hc⟩
  · exact .inl e
  · exact .inr ⟨b, rfl, hb, row_free r, fun j _ hj => hc j hj⟩
theorem Left.set {w : World} {b : Nat} {rs : List Ru} {i : Nat} (h : Left w (some ⟨b, 0, none⟩) rs i) (k : Nat) (hk : k < 11) (v : Value) : Left (w.setCell ⟨b, i * 11 + k, none⟩ v) (some ⟨b, 0, none⟩) rs (i + 1) := by
  rcases h with e | ⟨b', e, hb, hf, hc⟩
  · exact .inl e
  · simp only [Option.some.injEq, Addr.mk.injEq, and_true] at e
    subst e
    refine .inr ⟨b, rfl, by simpa using hb, fun o => by simpa using hf o, fun j hj hl => ?_⟩
    obtain ⟨c0, c1, c2, c3, c4, c5, c6, c7, c8, c9, c10⟩ := hc j (by omega) hl
    have ne : ∀ q : Nat, q ≠ i * 11 + k → (w.setCell ⟨b, i * 11 + k, none⟩ v).cell? ⟨b, q, none⟩ = w.cell? ⟨b, q, none⟩ := fun q hq => World.cell?_setCell_other _ _ _ _ (fun e => by injection e with _ e2; exact hq e2.symm)
    exact ⟨(ne _ (by omega)).trans c0, (ne _ (by omega)).trans c1, (ne _ (by omega)).trans c2, (ne _ (by omega)).trans c3, (ne _ (by omega)).trans c4, (ne _ (by omega)).trans c5, (ne _ (by omega)).trans c6, (ne _ (by omega)).trans c7, (ne _ (by omega)).trans c8, (ne _ (by omega)).trans c9, (ne _ (by omega)).trans c10⟩
theorem Left.more {w : World} {b : Nat} {rs : List Ru} {i m : Nat} (h : Left w (some ⟨b, 0, none⟩) rs m) (hm : i + 1 ≤ m) (k : Nat) (hk : k < 11) (v : Value) : Left (w.setCell ⟨b, i * 11 + k, none⟩ v) (some ⟨b, 0, none⟩) rs m := by
  rcases h with e | ⟨b', e, hb, hf, hc⟩
  · exact .inl e
  · simp only [Option.some.injEq, Addr.mk.injEq, and_true] at e
    subst e
    refine .inr ⟨b, rfl, by simpa using hb, fun o => by simpa using hf o, fun j hj hl => ?_⟩
    obtain ⟨c0, c1, c2, c3, c4, c5, c6, c7, c8, c9, c10⟩ := hc j hj hl
    have ne : ∀ q : Nat, q ≠ i * 11 + k → (w.setCell ⟨b, i * 11 + k, none⟩ v).cell? ⟨b, q, none⟩ = w.cell? ⟨b, q, none⟩ := fun q hq => World.cell?_setCell_other _ _ _ _ (fun e => by injection e with _ e2; exact hq e2.symm)
    exact ⟨(ne _ (by omega)).trans c0, (ne _ (by omega)).trans c1, (ne _ (by omega)).trans c2, (ne _ (by omega)).trans c3, (ne _ (by omega)).trans c4, (ne _ (by omega)).trans c5, (ne _ (by omega)).trans c6, (ne _ (by omega)).trans c7, (ne _ (by omega)).trans c8, (ne _ (by omega)).trans c9, (ne _ (by omega)).trans c10⟩
theorem RulesAt.cell {w : World} {a : Option Addr} {rs : List Ru} {b o : Nat} {v : Value} (h : RulesAt w a rs) (hn : ∀ b', a = some ⟨b', 0, none⟩ → rs.length ≠ 0 → b' ≠ b) : RulesAt (w.setCell ⟨b, o, none⟩ v) a rs := by
  rcases h with e | ⟨b', rfl, hb, hc⟩
  · exact .inl e
  · by_cases e : rs.length = 0
    · exact .inl e
    · have ne : ∀ q : Nat, (w.setCell ⟨b, o, none⟩ v).cell? ⟨b', q, none⟩ = w.cell? ⟨b', q, none⟩ := fun q => World.cell?_setCell_other _ _ _ _ (fun e2 => by injection e2 with e3 _; exact hn b' rfl e e3.symm)
      refine .inr ⟨b', rfl, by simpa using hb, fun j hj => ?_⟩
      obtain ⟨c0, c1, c2, c3, c4, c5, c6, c7, c8, c9, c10⟩ := hc j hj
      exact ⟨(ne _).trans c0, (ne _).trans c1, (ne _).trans c2, (ne _).trans c3, (ne _).trans c4, (ne _).trans c5, (ne _).trans c6, (ne _).trans c7, (ne _).trans c8, (ne _).trans c9, (ne _).trans c10⟩
theorem RulesAt.cells {w : World} {b : Nat} {rs : List Ru} (h : RulesAt w (some ⟨b, 0, none⟩) rs) (i : Nat) (hi : i < rs.length) : w.cell? ⟨b, i * 11, none⟩ = some (.int .i64 (rs.getD i Ru.zero).k) ∧ w.cell? ⟨b, i * 11 + 1, none⟩ = some (.int .u8 (rs.getD i Ru.zero).pr) ∧ w.cell? ⟨b, i * 11 + 2, none⟩ = some (.int .u32 ((rs.getD i Ru.zero).si : Int)) ∧ w.cell? ⟨b, i * 11 + 3, none⟩ = some (.int .i64 (rs.getD i Ru.zero).sb) ∧ w.cell? ⟨b, i * 11 + 4, none⟩ = some (.int .u32 ((rs.getD i Ru.zero).di : Int)) ∧ w.cell? ⟨b, i * 11 + 5, none⟩ = some (.int .i64 (rs.getD i Ru.zero).db) ∧ w.cell? ⟨b, i * 11 + 6, none⟩ = some (.int .u32 ((rs.getD i Ru.zero).ex : Int)) ∧ w.cell? ⟨b, i * 11 + 7, none⟩ = some (.int .u16 (rs.getD i Ru.zero).fr) ∧ w.cell? ⟨b, i * 11 + 8, none⟩ = some (.int .u16 (rs.getD i Ru.zero).to) ∧ w.cell? ⟨b, i * 11 + 9, none⟩ = some (.int .u32 ((rs.getD i Ru.zero).ii : Int)) ∧ w.cell? ⟨b, i * 11 + 10, none⟩ = some (.int .u16 (rs.getD i Ru.zero).ip) := by
  rcases h with e | ⟨b', e, _, hc⟩
  · omega
  · simp only [Option.some.injEq, Addr.mk.injEq, and_true] at e
    subst e
    exact hc i hi
theorem RulesAt.some {w : World} {a : Option Addr} {rs : List Ru} (h : RulesAt w a rs) (hi : rs.length ≠ 0) : ∃ b, a = Option.some ⟨b, 0, none⟩ ∧ b < w.heap.size := by
  rcases h with e | ⟨b', e, hb, hc⟩
  · exact absurd e hi
  · exact ⟨b', e, hb⟩
theorem Left.cells {w : World} {b : Nat} {rs : List Ru} {i : Nat} (h : Left w (Option.some ⟨b, 0, none⟩) rs i) (hi : i < rs.length) : (∀ o, w.frozen? ⟨b, o, none⟩ = false) ∧ w.cell? ⟨b, i * 11, none⟩ = some (.int .i64 (rs.getD i Ru.zero).k) ∧ w.cell? ⟨b, i * 11 + 1, none⟩ = some (.int .u8 (rs.getD i Ru.zero).pr) ∧ w.cell? ⟨b, i * 11 + 2, none⟩ = some (.int .u32 ((rs.getD i Ru.zero).si : Int)) ∧ w.cell? ⟨b, i * 11 + 3, none⟩ = some (.int .i64 (rs.getD i Ru.zero).sb) ∧ w.cell? ⟨b, i * 11 + 4, none⟩ = some (.int .u32 ((rs.getD i Ru.zero).di : Int)) ∧ w.cell? ⟨b, i * 11 + 5, none⟩ = some (.int .i64 (rs.getD i Ru.zero).db) ∧ w.cell? ⟨b, i * 11 + 6, none⟩ = some (.int .u32 ((rs.getD i Ru.zero).ex : Int)) ∧ w.cell? ⟨b, i * 11 + 7, none⟩ = some (.int .u16 (rs.getD i Ru.zero).fr) ∧ w.cell? ⟨b, i * 11 + 8, none⟩ = some (.int .u16 (rs.getD i Ru.zero).to) ∧ w.cell? ⟨b, i * 11 + 9, none⟩ = some (.int .u32 ((rs.getD i Ru.zero).ii : Int)) ∧ w.cell? ⟨b, i * 11 + 10, none⟩ = some (.int .u16 (rs.getD i Ru.zero).ip) := by
  rcases h with e | ⟨b', e, _, hf, hc⟩
  · omega
  · simp only [Option.some.injEq, Addr.mk.injEq, and_true] at e
    subst e
    exact ⟨hf, hc i (Nat.le_refl _) hi⟩
theorem Left.some {w : World} {a : Option Addr} {rs : List Ru} {i : Nat} (h : Left w a rs i) (hi : rs.length ≠ 0) : ∃ b, a = Option.some ⟨b, 0, none⟩ ∧ b < w.heap.size := by
  rcases h with e | ⟨b', e, hb, _, _⟩
  · exact absurd e hi
  · exact ⟨b', e, hb⟩
theorem Left.on {w w' : World} {a : Option Addr} {rs : List Ru} {i : Nat} (h : Left w a rs i) (k : Below w.heap.size w w') : Left w' a rs i := by
  rcases h with e | ⟨b, rfl, hb, hf, hc⟩
  · exact .inl e
  · refine .inr ⟨b, rfl, Nat.lt_of_lt_of_le hb k.size, fun o => (k.frozen (p := ⟨b, o, none⟩) hb).trans (hf o), fun j hj hl => ?_⟩
    obtain ⟨c0, c1, c2, c3, c4, c5, c6, c7, c8, c9, c10⟩ := hc j hj hl
    exact ⟨(k.cell (p := ⟨b, j * 11, none⟩) hb).trans c0, (k.cell (p := ⟨b, j * 11 + 1, none⟩) hb).trans c1, (k.cell (p := ⟨b, j * 11 + 2, none⟩) hb).trans c2, (k.cell (p := ⟨b, j * 11 + 3, none⟩) hb).trans c3, (k.cell (p := ⟨b, j * 11 + 4, none⟩) hb).trans c4, (k.cell (p := ⟨b, j * 11 + 5, none⟩) hb).trans c5, (k.cell (p := ⟨b, j * 11 + 6, none⟩) hb).trans c6, (k.cell (p := ⟨b, j * 11 + 7, none⟩) hb).trans c7, (k.cell (p := ⟨b, j * 11 + 8, none⟩) hb).trans c8, (k.cell (p := ⟨b, j * 11 + 9, none⟩) hb).trans c9, (k.cell (p := ⟨b, j * 11 + 10, none⟩) hb).trans c10⟩
theorem add_at {t : Tm} {k : Nat} {r : Ru} (h : ruAddE t (k : Int) r = 0) (hk : k ≤ t.rs.length) : (ruAddT t (k : Int) r).rs.getD k Ru.zero = r := by
  unfold ruAddT
  rw [if_pos h]
  show (t.rs.take (k : Int).toNat ++ r :: t.rs.drop (k : Int).toNat).getD k Ru.zero = r
  rw [Int.toNat_natCast, List.getD_eq_getElem?_getD, List.getElem?_append_right (by simp; omega)]
  have : k - (t.rs.take k).length = 0 := by simp; omega
  rw [this]
  rfl
theorem no_add {t : Tm} {i : Int} {r : Ru} (h : ruAddE t i r ≠ 0) : ruAddT t i r = t := by unfold ruAddT; rw [if_neg h]
set_option maxHeartbeats 8000000 in
set_option maxRecDepth 100000 in
theorem walk_ (FL : Filled) (a : Option Addr) (len cap : Nat) (ds : List Dr) (d : Dr) (at_ : Int) (w : World) (D0 : DrAt w a len ds) (hd : d.Ok) (ha : 0 ≤ at_ ∧ at_ ≤ 255) (hm : len ≤ maxLen) :
    Calls Try.prog 8 #[.slice a len cap, .agg #[.int .u8 d.d0, .int .u8 d.d1, .int .u8 d.d2, .int .u8 d.d3, .int .u8 d.d4, .int .u8 d.d5], .int .u8 at_] w fun e w' => e = .returned (.bool true) ∧ Below w.heap.size w w' := by
  have rl := fun u => ruled_ u
  by_cases h : 40 < len
  · have e1 : decide (40 < len) = true := by simpa using h
    have e2 : decide ((40 : Int) < (len : Int)) = true := by simp; omega
    clear D0 hd h FL ha
    go_enter Try.func8, Try.ntmps8
    have B1 := Below.refl w.heap.size w
    go_upto_region 1 with fail
    have D_2 := Box6.make w (.int .u8 d.d0) (.int .u8 d.d1) (.int .u8 d.d2) (.int .u8 d.d3) (.int .u8 d.d4) (.int .u8 d.d5) 37
    have B3 := B1.alloc B1.size (.cells #[.int .u8 d.d0, .int .u8 d.d1, .int .u8 d.d2, .int .u8 d.d3, .int .u8 d.d4, .int .u8 d.d5] 37)
    clear B1
    obtain ⟨u1, hu1⟩ : ∃ x_ : World, x_ = w.alloc (.cells #[.int .u8 d.d0, .int .u8 d.d1, .int .u8 d.d2, .int .u8 d.d3, .int .u8 d.d4, .int .u8 d.d5] 37) := ⟨_, rfl⟩
    rw [← hu1] at D_2 B3 ⊢
    clear hu1
    go_wp2_with fail
    refine (rl _).mono ?_; rintro e w2 ⟨rfl, x2⟩
    have D_4 := D_2.on x2
    have B5 := B3.trans (x2.mono B3.size)
    clear D_2 B3 x2
    go_wp2
    go_ret
    exact ⟨rfl, B5⟩
  have e1 : decide (40 < len) = false := by simpa using h
  have e2 : decide ((40 : Int) < (len : Int)) = false := by simp; omega
  have fl := fun u (D : DrAt u a len ds) => FL a len cap ds u D (by omega)
  have ru := fun u => rule_ d u hd
  have rk := ruleD_ok d hd
  clear h hm FL
  have DZ := Lib.hid D0
  have HD := Lib.hid hd
  clear D0 hd
  go_enter Try.func8, Try.ntmps8
  have B1 := Below.refl w.heap.size w
  go_upto_region 1 with fail
  have D_2 := Box6.make w (.int .u8 d.d0) (.int .u8 d.d1) (.int .u8 d.d2) (.int .u8 d.d3) (.int .u8 d.d4) (.int .u8 d.d5) 37
  have B3 := B1.alloc B1.size (.cells #[.int .u8 d.d0, .int .u8 d.d1, .int .u8 d.d2, .int .u8 d.d3, .int .u8 d.d4, .int .u8 d.d5] 37)
  clear B1
  obtain ⟨u1, hu1⟩ : ∃ x_ : World, x_ = w.alloc (.cells #[.int .u8 d.d0, .int .u8 d.d1, .int .u8 d.d2, .int .u8 d.d3, .int .u8 d.d4, .int .u8 d.d5] 37) := ⟨_, rfl⟩
  rw [← hu1] at D_2 B3 ⊢
  clear hu1
  obtain ⟨_, d1_0, d1_1, d1_2, d1_3, d1_4, d1_5⟩ := id D_2
  go_wp2_with fail
  refine (fl _ (DZ.out.on B3)).mono ?_; rintro e w2 ⟨x2, p, v, t, rfl, T0, G, L, S⟩
  have hbT := B3.size
  have nfD : ¬ footC p v w.heap.size := fun h => by have := T0.ge _ h; have := D_2.1; omega
  have hx := x2
  have D_4 := D_2.on hx
  have B5 := B3.trans (hx.mono B3.size)
  clear d1_0 d1_1 d1_2 d1_3 d1_4 d1_5 D_2 B3 hx
  clear x2 fl
  have cl : ∀ (v : Value) (u_ : World) (H : TabC u_ u1.heap.size p v t), _ := fun v u_ H => listL_ t u1.heap.size p v u_ H G
  have few := G.few
  have HS := Lib.hid (And.intro G (And.intro L S))
  obtain ⟨n, hn⟩ : ∃ n, t.rs.length = n := ⟨_, rfl⟩
  rw [hn] at cl few
  have Hn := Lib.hid hn
  clear hn G L S
  obtain ⟨_, d2_0, d2_1, d2_2, d2_3, d2_4, d2_5⟩ := id D_4
  go_wp2_with fail
  refine (cl _ _ T0).mono ?_; rintro e w3 ⟨a9, c9, rfl, r9, x3⟩
  have M0 := RowK.made T0 r9
  clear r9
  have T_6 := T0.on x3
  clear T0
  have D_7 := D_4.on x3
  have B8 := B5.trans (x3.mono B5.size)
  clear d2_0 d2_1 d2_2 d2_3 d2_4 d2_5 D_4 B5 x3
  obtain ⟨k, hk, hk2⟩ : ∃ k : Nat, at_.tmod ((n : Int) + 1) = (k : Int) ∧ k ≤ n := by
    have h1 := Int.emod_nonneg at_ (show ((n : Int) + 1) ≠ 0 by omega)
    have h2 := Int.emod_lt_of_pos at_ (show 0 < (n : Int) + 1 by omega)
    exact ⟨(at_ % ((n : Int) + 1)).toNat, by rw [Int.tmod_eq_emod_of_nonneg ha.1]; omega, by omega⟩
  have HK := Lib.hid hk2
  have HT := Lib.hid (add_at (t := t) (k := k) (r := ruleD d))
  have hx := rule_add HS.out.2.1 d HD.out (k : Int) (by omega) (by rw [Hn.out]; omega)
  have ac : ∀ (v : Value) (u_ : World) (H : TabC u_ u1.heap.size p v t), _ := fun v u_ H => addC_n t u1.heap.size p v u_ H HS.out.1 (k : Int) (ruleD d) rk (by omega) (by omega)
  have G2 : (ruAddT t (k : Int) (ruleD d)).Good := HS.out.1.add rk
  have ln := add_len (t := t) (i := (k : Int)) (r := ruleD d)
  have back := fun h => ru_add_del (t := t) (i := (k : Int)) (r := ruleD d) h
  have nob := fun h => no_add (t := t) (i := (k : Int)) (r := ruleD d) h
  rw [Hn.out] at ln HT
  generalize ruAddT t (k : Int) (ruleD d) = t2 at *
  have cl2 : ∀ (v : Value) (u_ : World) (H : TabC u_ u1.heap.size p v t2), _ := fun v u_ H => listL_ t2 u1.heap.size p v u_ H G2
  have f2 := G2.few
  have HG2 := Lib.hid G2
  generalize ruAddE t (k : Int) (ruleD d) = E at *
  obtain ⟨m, hm⟩ : ∃ m, t2.rs.length = m := ⟨_, rfl⟩
  rw [hm] at ln f2 cl2
  have Hm := Lib.hid hm
  have HX := Lib.hid (And.intro hx (And.intro ln (And.intro back nob)))
  have HRR : Hid (ruleD d = ruleD d) := by show _ = _; rfl
  obtain ⟨r, hr⟩ : ∃ r, ruleD d = r := ⟨_, rfl⟩
  rw [hr] at ac ru HT
  clear hx ln back nob hm G2 hk2 HRR hr rk
  have e6 : ¬ ((n : Int) + 1 = 0) := by omega
  have b7 : -9223372036854775808 ≤ (k : Int) ∧ (k : Int) ≤ 9223372036854775807 := by have := HK.out; omega
  have b5 : -9223372036854775808 ≤ (n : Int) + 1 ∧ (n : Int) + 1 ≤ 9223372036854775807 := by omega
  have b8 : -9223372036854775808 ≤ at_ ∧ at_ ≤ 9223372036854775807 := by omega
  have e5 : wrap64 ((n : Int) + 1) = (n : Int) + 1 := IntWalk.wrap64_in _ b5
  have e7 : IntKind.i64.wrap (k : Int) = (k : Int) := IntWalk.i64_in _ b7
  have e8 : IntKind.i64.wrap at_ = at_ := IntWalk.i64_in _ b8
  clear b5 b7 b8
  obtain ⟨_, d3_0, d3_1, d3_2, d3_3, d3_4, d3_5⟩ := id D_7
  go_wp2_with fail
  refine (ru _).mono ?_; rintro e w4 ⟨rfl, x4⟩
  have M_9 := M0.on x4
  clear M0
  have T_10 := T_6.on x4
  clear T_6
  have D_11 := D_7.on x4
  have B12 := B8.trans (x4.mono B8.size)
  clear d3_0 d3_1 d3_2 d3_3 d3_4 d3_5 D_7 B8 x4
  obtain ⟨_, d4_0, d4_1, d4_2, d4_3, d4_4, d4_5⟩ := id D_11
  go_wp2_with fail
  refine (ac _ _ T_10).mono ?_; rintro e w5 ⟨rfl, v5, T_13, x5, ho5⟩
  clear d4_0 d4_1 d4_2 d4_3 d4_4 d4_5
  have D_14 := D_11.keep x5.size (x5.block _ D_11.1 nfD)
  have nfDT_15 := foot_newer nfD D_11.1 ho5
  have B16 := T_10.after hbT B12 x5
  have M_17 := M_9.write x5 ho5
  clear nfD D_11 B12 T_10 x5 ho5 M_9
  clear e5 e6 e7 e8 hk ac
  obtain ⟨_, d5_0, d5_1, d5_2, d5_3, d5_4, d5_5⟩ := id D_14
  go_wp2_with fail
  refine (cl2 _ _ T_13).mono ?_; rintro e w30 ⟨a12, c12, rfl, r12, x30⟩
  have N0 := RowK.made T_13 r12
  clear r12
  have M_18 := M_17.on x30
  clear M_17
  have T_19 := T_13.on x30
  clear T_13
  have D_20 := D_14.on x30
  have B21 := B16.trans (x30.mono B16.size)
  clear d5_0 d5_1 d5_2 d5_3 d5_4 d5_5 D_14 B16 x30
  obtain ⟨_, d6_0, d6_1, d6_2, d6_3, d6_4, d6_5⟩ := id D_20
  go_upto_region 10 with fail
  clear d6_0 d6_1 d6_2 d6_3 d6_4 d6_5
  go_cut [77] (fun c wx => c = .bool false ∧ Below w.heap.size w wx ∧ ∃ v2, TabC wx u1.heap.size p v2 t ∧ RowK wx p v2 a9 t.rs)
  case first =>
    clear rl cl cl2
    obtain ⟨hx, ln, back, nob⟩ := HX.out
    clear HX
    rcases hx with rfl | rfl | rfl
    · rw [if_pos rfl] at ln
      subst ln
      obtain ⟨bk1, bk2⟩ := back rfl
      have ga := HT.out rfl HK.out
      clear back nob HT
      have dc : ∀ (v : Value) (u_ : World) (H : TabC u_ u1.heap.size p v t2), _ := fun v u_ H => delC_n t2 u1.heap.size p v u_ H HG2.out (k : Int)
      rw [bk1, bk2] at dc
      clear bk1 bk2
      obtain ⟨b12, rfl, _⟩ := N0.some (by rw [Hm.out]; omega)
      have kl : k < t2.rs.length := by rw [Hm.out]; have := HK.out; omega
      have cX := RowK.cells N0 k kl
      rw [ga] at cX
      have e20 : (k : Int) < (n : Int) + 1 := by have := HK.out; omega
      have e21 : (k : Int) < ((n + 1 : Nat) : Int) := by have := HK.out; omega
      have e22 : k < n + 1 := by have := HK.out; omega
      have b5 : -9223372036854775808 ≤ (n : Int) + 1 ∧ (n : Int) + 1 ≤ 9223372036854775807 := by omega
      have e5 : IntKind.i64.wrap ((n : Int) + 1) = (n : Int) + 1 := IntWalk.i64_in _ b5
      clear b5
      clear cX
      have M_22 := M_18.on ((Below.refl w30.heap.size w30).drew)
      clear M_18
      have N_23 := N0.on ((Below.refl w30.heap.size w30).drew)
      clear N0
      have D_24 := D_20.on ((Below.refl _ _).drew)
      have B25 := B21.drew
      clear D_20 B21
      have T_26 := T_19.drew
      clear T_19
      have cX := RowK.cells N_23 k kl
      rw [ga] at cX
      refine wp_region_held_drew (S := (fun w' => w'.cell? ⟨b12, k * 11, none⟩ = some (.int .i64 r.k) ∧ w'.cell? ⟨b12, k * 11 + 1, none⟩ = some (.int .u8 r.pr) ∧ w'.cell? ⟨b12, k * 11 + 2, none⟩ = some (.int .u32 (r.si : Int)) ∧ w'.cell? ⟨b12, k * 11 + 3, none⟩ = some (.int .i64 r.sb) ∧ w'.cell? ⟨b12, k * 11 + 4, none⟩ = some (.int .u32 (r.di : Int)) ∧ w'.cell? ⟨b12, k * 11 + 5, none⟩ = some (.int .i64 r.db) ∧ w'.cell? ⟨b12, k * 11 + 6, none⟩ = some (.int .u32 (r.ex : Int)) ∧ w'.cell? ⟨b12, k * 11 + 7, none⟩ = some (.int .u16 r.fr) ∧ w'.cell? ⟨b12, k * 11 + 8, none⟩ = some (.int .u16 r.to) ∧ w'.cell? ⟨b12, k * 11 + 9, none⟩ = some (.int .u32 (r.ii : Int)) ∧ w'.cell? ⟨b12, k * 11 + 10, none⟩ = some (.int .u16 r.ip) ∧ w'.cell? ⟨w.heap.size, 0, none⟩ = some (.int .u8 d.d0) ∧ w'.cell? ⟨w.heap.size, 1, none⟩ = some (.int .u8 d.d1) ∧ w'.cell? ⟨w.heap.size, 2, none⟩ = some (.int .u8 d.d2) ∧ w'.cell? ⟨w.heap.size, 3, none⟩ = some (.int .u8 d.d3) ∧ w'.cell? ⟨w.heap.size, 4, none⟩ = some (.int .u8 d.d4) ∧ w'.cell? ⟨w.heap.size, 5, none⟩ = some (.int .u8 d.d5))) (by kernel_rfl) ?_ (fun hHeld => ?_)
      · exact ⟨cX.1, cX.2.1, cX.2.2.1, cX.2.2.2.1, cX.2.2.2.2.1, cX.2.2.2.2.2.1, cX.2.2.2.2.2.2.1, cX.2.2.2.2.2.2.2.1, cX.2.2.2.2.2.2.2.2.1, cX.2.2.2.2.2.2.2.2.2.1, cX.2.2.2.2.2.2.2.2.2.2, D_24.2.1, D_24.2.2.1, D_24.2.2.2.1, D_24.2.2.2.2.1, D_24.2.2.2.2.2.1, D_24.2.2.2.2.2.2⟩
      clear cX
      obtain ⟨u31, hu31⟩ : ∃ x_ : World, x_ = w30.drew := ⟨_, rfl⟩
      rw [← hu31] at D_24 T_26 M_22 N_23 B25 hHeld ⊢
      clear hu31
      refine wpAnyH_take (i := 0) (oi := _) (v := ?_) rfl (by kernel_rfl) (by kernel_rfl) (by kernel_rfl) (fun _ _ _ h => h) (Or.inl ⟨by kernel_rfl, ?_⟩) (by assumption) ?_
      rotate_left
      · intro w hSw
        clear hSw
        go_simp
        with_reducible rfl
      try simp only [Act.put, List.setIfInBounds_toArray, List.set_cons_zero, List.set_cons_succ]
      refine wpAnyH_take (i := 1) (oi := _) (v := ?_) rfl (by kernel_rfl) (by kernel_rfl) (by kernel_rfl) (fun _ _ _ h => h) (Or.inl ⟨by kernel_rfl, ?_⟩) (by assumption) ?_
      rotate_left
      · intro w hSw
        clear hSw
        go_simp
        with_reducible rfl
      try simp only [Act.put, List.setIfInBounds_toArray, List.set_cons_zero, List.set_cons_succ]
      refine wpAnyH_take (i := 2) (oi := _) (v := ?_) rfl (by kernel_rfl) (by kernel_rfl) (by kernel_rfl) (fun _ _ _ h => h) (Or.inl ⟨by kernel_rfl, ?_⟩) (by assumption) ?_
      rotate_left
      · intro w hSw
        clear hSw
        go_simp
        with_reducible rfl
      try simp only [Act.put, List.setIfInBounds_toArray, List.set_cons_zero, List.set_cons_succ]
      refine wpAnyH_take (i := 3) (oi := _) (v := ?_) rfl (by kernel_rfl) (by kernel_rfl) (by kernel_rfl) (fun _ _ _ h => h) (Or.inl ⟨by kernel_rfl, ?_⟩) (by assumption) ?_
      rotate_left
      · intro w hSw
        clear hSw
        go_simp
        with_reducible rfl
      try simp only [Act.put, List.setIfInBounds_toArray, List.set_cons_zero, List.set_cons_succ]
      refine wpAnyH_take (i := 4) (oi := _) (v := ?_) rfl (by kernel_rfl) (by kernel_rfl) (by kernel_rfl) (fun _ _ _ h => h) (Or.inl ⟨by kernel_rfl, ?_⟩) (by assumption) ?_
      rotate_left
      · intro w hSw
        clear hSw
        go_simp
        with_reducible rfl
      try simp only [Act.put, List.setIfInBounds_toArray, List.set_cons_zero, List.set_cons_succ]
      refine wpAnyH_take (i := 5) (oi := _) (v := ?_) rfl (by kernel_rfl) (by kernel_rfl) (by kernel_rfl) (fun _ _ _ h => h) (Or.inl ⟨by kernel_rfl, ?_⟩) (by assumption) ?_
      rotate_left
      · intro w hSw
        clear hSw
        go_simp
        with_reducible rfl
      try simp only [Act.put, List.setIfInBounds_toArray, List.set_cons_zero, List.set_cons_succ]
      refine wpAnyH_take (i := 6) (oi := _) (v := ?_) rfl (by kernel_rfl) (by kernel_rfl) (by kernel_rfl) (fun _ _ _ h => h) (Or.inl ⟨by kernel_rfl, ?_⟩) (by assumption) ?_
      rotate_left
      · intro w hSw
        clear hSw
        go_simp
        with_reducible rfl
      try simp only [Act.put, List.setIfInBounds_toArray, List.set_cons_zero, List.set_cons_succ]
      refine wpAnyH_take (i := 7) (oi := _) (v := ?_) rfl (by kernel_rfl) (by kernel_rfl) (by kernel_rfl) (fun _ _ _ h => h) (Or.inl ⟨by kernel_rfl, ?_⟩) (by assumption) ?_
      rotate_left
      · intro w hSw
        clear hSw
        go_simp
        with_reducible rfl
      try simp only [Act.put, List.setIfInBounds_toArray, List.set_cons_zero, List.set_cons_succ]
      refine wpAnyH_take (i := 8) (oi := _) (v := ?_) rfl (by kernel_rfl) (by kernel_rfl) (by kernel_rfl) (fun _ _ _ h => h) (Or.inl ⟨by kernel_rfl, ?_⟩) (by assumption) ?_
      rotate_left
      · intro w hSw
        clear hSw
        go_simp
        with_reducible rfl
      try simp only [Act.put, List.setIfInBounds_toArray, List.set_cons_zero, List.set_cons_succ]
      refine wpAnyH_take (i := 9) (oi := _) (v := ?_) rfl (by kernel_rfl) (by kernel_rfl) (by kernel_rfl) (fun _ _ _ h => h) (Or.inl ⟨by kernel_rfl, ?_⟩) (by assumption) ?_
      rotate_left
      · intro w hSw
        clear hSw
        go_simp
        with_reducible rfl
      try simp only [Act.put, List.setIfInBounds_toArray, List.set_cons_zero, List.set_cons_succ]
      refine wpAnyH_take (i := 10) (oi := _) (v := ?_) rfl (by kernel_rfl) (by kernel_rfl) (by kernel_rfl) (fun _ _ _ h => h) (Or.inl ⟨by kernel_rfl, ?_⟩) (by assumption) ?_
      rotate_left
      · intro w hSw
        clear hSw
        go_simp
        with_reducible rfl
      try simp only [Act.put, List.setIfInBounds_toArray, List.set_cons_zero, List.set_cons_succ]
      refine wpAnyH_take (i := 11) (oi := _) (v := ?_) rfl (by kernel_rfl) (by kernel_rfl) (by kernel_rfl) (fun _ _ _ h => h) (Or.inl ⟨by kernel_rfl, ?_⟩) (by assumption) ?_
      rotate_left
      · intro w hSw
        clear hSw
        go_simp
        with_reducible rfl
      try simp only [Act.put, List.setIfInBounds_toArray, List.set_cons_zero, List.set_cons_succ]
      refine wpAnyH_take (i := 12) (oi := _) (v := ?_) rfl (by kernel_rfl) (by kernel_rfl) (by kernel_rfl) (fun _ _ _ h => h) (Or.inl ⟨by kernel_rfl, ?_⟩) (by assumption) ?_
      rotate_left
      · intro w hSw
        clear hSw
        go_simp
        with_reducible rfl
      try simp only [Act.put, List.setIfInBounds_toArray, List.set_cons_zero, List.set_cons_succ]
      refine wpAnyH_take (i := 13) (oi := _) (v := ?_) rfl (by kernel_rfl) (by kernel_rfl) (by kernel_rfl) (fun _ _ _ h => h) (Or.inl ⟨by kernel_rfl, ?_⟩) (by assumption) ?_
      rotate_left
      · intro w hSw
        (try dsimp only at hSw)
        obtain ⟨hq0, hq1, hq2, hq3, hq4, hq5, hq6, hq7, hq8, hq9, hq10, hq11, hq12, hq13, hq14, hq15, hq16⟩ := hSw
        go_simp
        with_reducible rfl
      try simp only [Act.put, List.setIfInBounds_toArray, List.set_cons_zero, List.set_cons_succ]
      refine wpAnyH_take (i := 14) (oi := _) (v := ?_) rfl (by kernel_rfl) (by kernel_rfl) (by kernel_rfl) (fun _ _ _ h => h) (Or.inl ⟨by kernel_rfl, ?_⟩) (by assumption) ?_
      rotate_left
      · intro w hSw
        (try dsimp only at hSw)
        obtain ⟨hq0, hq1, hq2, hq3, hq4, hq5, hq6, hq7, hq8, hq9, hq10, hq11, hq12, hq13, hq14, hq15, hq16⟩ := hSw
        go_simp
        with_reducible rfl
      try simp only [Act.put, List.setIfInBounds_toArray, List.set_cons_zero, List.set_cons_succ]
      refine wpAnyH_ready (rs := [15]) (by kernel_rfl) (by simp) ?_
      refine AllReadyH.cons (o := _) rfl (fun K hK => ?_) AllReadyH.nil
      go_simp
      refine (ru _).mono ?_; rintro e w32 ⟨rfl, x32⟩
      have M_27 := M_22.on x32
      clear M_22
      have N_28 := N_23.on x32
      clear N_23
      have T_29 := T_26.on x32
      clear T_26
      have D_30 := D_24.on x32
      have B31 := B25.trans (x32.mono B25.size)
      clear D_24 B25 x32
      have cX := RowK.cells N_28 k kl
      rw [ga] at cX
      show K _ _
      refine hK.out _ _ ⟨cX.1, cX.2.1, cX.2.2.1, cX.2.2.2.1, cX.2.2.2.2.1, cX.2.2.2.2.2.1, cX.2.2.2.2.2.2.1, cX.2.2.2.2.2.2.2.1, cX.2.2.2.2.2.2.2.2.1, cX.2.2.2.2.2.2.2.2.2.1, cX.2.2.2.2.2.2.2.2.2.2, D_30.2.1, D_30.2.2.1, D_30.2.2.2.1, D_30.2.2.2.2.1, D_30.2.2.2.2.2.1, D_30.2.2.2.2.2.2⟩ (fun hH => ?_)
      clear hK K hHeld cX
      have hHeld := hH
      clear hH
      try simp only [Act.put, List.setIfInBounds_toArray, List.set_cons_zero, List.set_cons_succ]
      refine wpAnyH_take (i := 16) (oi := _) (v := ?_) rfl (by kernel_rfl) (by kernel_rfl) (by kernel_rfl) (fun _ _ _ h => h) (Or.inl ⟨by kernel_rfl, ?_⟩) (by assumption) ?_
      rotate_left
      · intro w hSw
        clear hSw
        go_simp
        with_reducible rfl
      try simp only [Act.put, List.setIfInBounds_toArray, List.set_cons_zero, List.set_cons_succ]
      refine wpAnyH_take (i := 17) (oi := _) (v := ?_) rfl (by kernel_rfl) (by kernel_rfl) (by kernel_rfl) (fun _ _ _ h => h) (Or.inl ⟨by kernel_rfl, ?_⟩) (by assumption) ?_
      rotate_left
      · intro w hSw
        clear hSw
        go_simp
        with_reducible rfl
      try simp only [Act.put, List.setIfInBounds_toArray, List.set_cons_zero, List.set_cons_succ]
      refine wpAnyH_take (i := 18) (oi := _) (v := ?_) rfl (by kernel_rfl) (by kernel_rfl) (by kernel_rfl) (fun _ _ _ h => h) (Or.inl ⟨by kernel_rfl, ?_⟩) (by assumption) ?_
      rotate_left
      · intro w hSw
        clear hSw
        go_simp
        with_reducible rfl
      try simp only [Act.put, List.setIfInBounds_toArray, List.set_cons_zero, List.set_cons_succ]
      refine wpAnyH_take (i := 19) (oi := _) (v := ?_) rfl (by kernel_rfl) (by kernel_rfl) (by kernel_rfl) (fun _ _ _ h => h) (Or.inl ⟨by kernel_rfl, ?_⟩) (by assumption) ?_
      rotate_left
      · intro w hSw
        clear hSw
        go_simp
        with_reducible rfl
      try simp only [Act.put, List.setIfInBounds_toArray, List.set_cons_zero, List.set_cons_succ]
      refine wpAnyH_take (i := 20) (oi := _) (v := ?_) rfl (by kernel_rfl) (by kernel_rfl) (by kernel_rfl) (fun _ _ _ h => h) (Or.inl ⟨by kernel_rfl, ?_⟩) (by assumption) ?_
      rotate_left
      · intro w hSw
        clear hSw
        go_simp
        with_reducible rfl
      try simp only [Act.put, List.setIfInBounds_toArray, List.set_cons_zero, List.set_cons_succ]
      refine wpAnyH_ready (rs := [21]) (by kernel_rfl) (by simp) ?_
      refine AllReadyH.cons (o := _) rfl (fun K hK => ?_) AllReadyH.nil
      go_simp
      clear e5
      refine (dc _ _ T_29).mono ?_; rintro e w33 ⟨rfl, v33, T_32, x33, ho33⟩
      have D_33 := D_30.keep x33.size (x33.block _ D_30.1 nfDT_15)
      have nfDT_34 := foot_newer nfDT_15 D_30.1 ho33
      have B35 := T_29.after hbT B31 x33
      have M_36 := M_27.write x33 ho33
      have N_37 := N_28.write x33 ho33
      clear nfDT_15 D_30 B31 T_29 x33 ho33 M_27 N_28
      have cX := RowK.cells N_37 k kl
      rw [ga] at cX
      show K _ _
      refine hK.out _ _ ⟨cX.1, cX.2.1, cX.2.2.1, cX.2.2.2.1, cX.2.2.2.2.1, cX.2.2.2.2.2.1, cX.2.2.2.2.2.2.1, cX.2.2.2.2.2.2.2.1, cX.2.2.2.2.2.2.2.2.1, cX.2.2.2.2.2.2.2.2.2.1, cX.2.2.2.2.2.2.2.2.2.2, D_33.2.1, D_33.2.2.1, D_33.2.2.2.1, D_33.2.2.2.2.1, D_33.2.2.2.2.2.1, D_33.2.2.2.2.2.2⟩ (fun hH => ?_)
      clear hK K hHeld cX
      have hHeld := hH
      clear hH
      try simp only [Act.put, List.setIfInBounds_toArray, List.set_cons_zero, List.set_cons_succ]
      refine wpAnyH_take (i := 22) (oi := _) (v := ?_) rfl (by kernel_rfl) (by kernel_rfl) (by kernel_rfl) (fun _ _ _ h => h) (Or.inl ⟨by kernel_rfl, ?_⟩) (by assumption) ?_
      rotate_left
      · intro w hSw
        clear hSw
        go_simp
        with_reducible rfl
      try simp only [Act.put, List.setIfInBounds_toArray, List.set_cons_zero, List.set_cons_succ]
      refine wpAnyH_take (i := 23) (oi := _) (v := ?_) rfl (by kernel_rfl) (by kernel_rfl) (by kernel_rfl) (fun _ _ _ h => h) (Or.inl ⟨by kernel_rfl, ?_⟩) (by assumption) ?_
      rotate_left
      · intro w hSw
        clear hSw
        go_simp
        with_reducible rfl
      try simp only [Act.put, List.setIfInBounds_toArray, List.set_cons_zero, List.set_cons_succ]
      refine wpAnyH_take (i := 24) (oi := _) (v := ?_) rfl (by kernel_rfl) (by kernel_rfl) (by kernel_rfl) (fun _ _ _ h => h) (Or.inl ⟨by kernel_rfl, ?_⟩) (by assumption) ?_
      rotate_left
      · intro w hSw
        clear hSw
        go_simp
        with_reducible rfl
      try simp only [Act.put, List.setIfInBounds_toArray, List.set_cons_zero, List.set_cons_succ]
      refine wpAnyH_take (i := 25) (oi := _) (v := ?_) rfl (by kernel_rfl) (by kernel_rfl) (by kernel_rfl) (fun _ _ _ h => h) (Or.inl ⟨by kernel_rfl, ?_⟩) (by assumption) ?_
      rotate_left
      · intro w hSw
        clear hSw
        go_simp
        with_reducible rfl
      try simp only [Act.put, List.setIfInBounds_toArray, List.set_cons_zero, List.set_cons_succ]
      refine wpAnyH_take (i := 26) (oi := _) (v := ?_) rfl (by kernel_rfl) (by kernel_rfl) (by kernel_rfl) (fun _ _ _ h => h) (Or.inl ⟨by kernel_rfl, ?_⟩) (by assumption) ?_
      rotate_left
      · intro w hSw
        clear hSw
        go_simp
        with_reducible rfl
      try simp only [Act.put, List.setIfInBounds_toArray, List.set_cons_zero, List.set_cons_succ]
      refine wpAnyH_take (i := 27) (oi := _) (v := ?_) rfl (by kernel_rfl) (by kernel_rfl) (by kernel_rfl) (fun _ _ _ h => h) (Or.inl ⟨by kernel_rfl, ?_⟩) (by assumption) ?_
      rotate_left
      · intro w hSw
        clear hSw
        go_simp
        with_reducible rfl
      try simp only [Act.put, List.setIfInBounds_toArray, List.set_cons_zero, List.set_cons_succ]
      refine wpAnyH_take (i := 28) (oi := _) (v := ?_) rfl (by kernel_rfl) (by kernel_rfl) (by kernel_rfl) (fun _ _ _ h => h) (Or.inl ⟨by kernel_rfl, ?_⟩) (by assumption) ?_
      rotate_left
      · intro w hSw
        clear hSw
        go_simp
        with_reducible rfl
      try simp only [Act.put, List.setIfInBounds_toArray, List.set_cons_zero, List.set_cons_succ]
      refine wpAnyH_take (i := 29) (oi := _) (v := undef) rfl (by kernel_rfl) (by kernel_rfl) (by kernel_rfl) (fun _ _ _ h => h) (Or.inr ⟨by kernel_rfl, rfl⟩) (by assumption) ?_
      try simp only [Act.put, List.setIfInBounds_toArray, List.set_cons_zero, List.set_cons_succ]
      refine wpAnyH_take (i := 30) (oi := _) (v := undef) rfl (by kernel_rfl) (by kernel_rfl) (by kernel_rfl) (fun _ _ _ h => h) (Or.inr ⟨by kernel_rfl, rfl⟩) (by assumption) ?_
      try simp only [Act.put, List.setIfInBounds_toArray, List.set_cons_zero, List.set_cons_succ]
      refine wpAnyH_take (i := 31) (oi := _) (v := ?_) rfl (by kernel_rfl) (by kernel_rfl) (by kernel_rfl) (fun _ _ _ h => h) (Or.inl ⟨by kernel_rfl, ?_⟩) (by assumption) ?_
      rotate_left
      · intro w hSw
        clear hSw
        go_simp
        with_reducible rfl
      try simp only [Act.put, List.setIfInBounds_toArray, List.set_cons_zero, List.set_cons_succ]
      refine wpAnyH_take (i := 32) (oi := _) (v := ?_) rfl (by kernel_rfl) (by kernel_rfl) (by kernel_rfl) (fun _ _ _ h => h) (Or.inl ⟨by kernel_rfl, ?_⟩) (by assumption) ?_
      rotate_left
      · intro w hSw
        clear hSw
        go_simp
        with_reducible rfl
      try simp only [Act.put, List.setIfInBounds_toArray, List.set_cons_zero, List.set_cons_succ]
      refine wpAnyH_take (i := 33) (oi := _) (v := undef) rfl (by kernel_rfl) (by kernel_rfl) (by kernel_rfl) (fun _ _ _ h => h) (Or.inr ⟨by kernel_rfl, rfl⟩) (by assumption) ?_
      try simp only [Act.put, List.setIfInBounds_toArray, List.set_cons_zero, List.set_cons_succ]
      refine wpAnyH_take (i := 34) (oi := _) (v := undef) rfl (by kernel_rfl) (by kernel_rfl) (by kernel_rfl) (fun _ _ _ h => h) (Or.inr ⟨by kernel_rfl, rfl⟩) (by assumption) ?_
      try simp only [Act.put, List.setIfInBounds_toArray, List.set_cons_zero, List.set_cons_succ]
      refine wpAnyH_take (i := 35) (oi := _) (v := ?_) rfl (by kernel_rfl) (by kernel_rfl) (by kernel_rfl) (fun _ _ _ h => h) (Or.inl ⟨by kernel_rfl, ?_⟩) (by assumption) ?_
      rotate_left
      · intro w hSw
        clear hSw
        go_simp
        with_reducible rfl
      try simp only [Act.put, List.setIfInBounds_toArray, List.set_cons_zero, List.set_cons_succ]
      refine wpAnyH_take (i := 36) (oi := _) (v := ?_) rfl (by kernel_rfl) (by kernel_rfl) (by kernel_rfl) (fun _ _ _ h => h) (Or.inl ⟨by kernel_rfl, ?_⟩) (by assumption) ?_
      rotate_left
      · intro w hSw
        clear hSw
        go_simp
        with_reducible rfl
      try simp only [Act.put, List.setIfInBounds_toArray, List.set_cons_zero, List.set_cons_succ]
      try simp only [List.getElem_toArray, List.getElem_cons_succ, List.getElem_cons_zero, Act.put, List.setIfInBounds_toArray, List.set_cons_zero, List.set_cons_succ]
      refine wpAnyH_done (by kernel_rfl) ?_ _
      clear hHeld
      go_wp2
      go_meet
      exact ⟨rfl, B35, _, T_32, M_36⟩
    · have e0 := nob (by omega)
      subst e0
      clear ln back nob HT
      refine region_later (B := w30.heap.size) (by kernel_rfl) (by kernel_rfl) ?_
      repeat (go_big_quiet_step (fail))
      refine later_end fun w9 x9 => ?_
      go_wp2
      go_meet
      exact ⟨rfl, B21.trans (x9.mono B21.size), _, T_19.on x9, M_18.on x9⟩
    · have e0 := nob (by omega)
      subst e0
      clear ln back nob HT
      refine region_later (B := w30.heap.size) (by kernel_rfl) (by kernel_rfl) ?_
      repeat (go_big_quiet_step (fail))
      refine later_end fun w9 x9 => ?_
      go_wp2
      go_meet
      exact ⟨rfl, B21.trans (x9.mono B21.size), _, T_19.on x9, M_18.on x9⟩
  case rest =>
    obtain ⟨rfl, bq, v2, T2, M2⟩ := hcut
    clear cl2 T_19 B21 M_18 D_20 N0 ru HX HT HG2 f2
    go_wp2_with fail
    refine (cl _ _ T2).mono ?_; rintro e w50 ⟨a50, c50, rfl, r50, x50⟩
    have NF := RowK.made T2 r50
    have LF := Left.made r50
    have hne : ∀ b b' : Nat, a9 = some ⟨b, 0, none⟩ → a50 = some ⟨b', 0, none⟩ → t.rs.length ≠ 0 → b ≠ b' := by
      intro b b' h1 h2 h3 h4
      obtain ⟨b1, g1, g2⟩ := M2.some h3
      have g3 := (r50.lt b' (by simp [Value.ownBlock, h2])).1
      rw [h1] at g1
      simp only [Option.some.injEq, Addr.mk.injEq, and_true] at g1
      omega
    have nfN : ∀ b', a50 = some ⟨b', 0, none⟩ → t.rs.length ≠ 0 → ¬ footC p v2 b' := NF.apart
    have bge : ∀ b', a50 = some ⟨b', 0, none⟩ → wc.heap.size ≤ b' := fun b' h2 => (r50.lt b' (by simp [Value.ownBlock, h2])).1
    have wcs := bq.size
    clear NF r50
    have M_301 := M2.on x50
    clear M2
    have T_302 := T2.on x50
    clear T2
    have B303 := bq.trans (x50.mono bq.size)
    clear bq x50
    have HN := Lib.hid (And.intro hne (And.intro nfN (And.intro bge wcs)))
    clear hne nfN bge wcs
    go_wp2_with fail
    go_loopw [13] (fun si wr => ∃ i : Nat, i ≤ n ∧ si = .int .i64 (i : Int) ∧ Below w.heap.size w wr ∧ TabC wr u1.heap.size p v2 t ∧ RulesAt wr a9 t.rs ∧ Left wr a50 t.rs i) (fun si _ => n - (intOf si).toNat)
    case atStart => exact ⟨0, Nat.zero_le _, rfl, B303, T_302, M_301.at_, LF⟩
    case round =>
      clear T_302 B303 M_301 LF
      obtain ⟨i, hi, rfl, bb, T3, R3, L3⟩ := hrel
      by_cases hlt : i < n
      rotate_left
      · have e10 : decide ((i : Int) < (n : Int)) = false := by simp; omega
        have e11 : decide (i < n) = false := by simp; omega
        clear hlt hi L3
        go_wp2_with fail
        refine (cl _ _ T3).mono ?_; rintro e w60 ⟨a60, c60, rfl, r60, x60⟩
        have R4 := R3.on x60
        have R5 := r60.at.2
        clear R3 r60 cl
        have T_401 := T3.on x60
        clear T3
        have B402 := bb.trans (x60.mono bb.size)
        clear bb x60
        have RA := Lib.hid (And.intro R4 R5)
        have BA := Lib.hid B402
        clear R4 R5 B402 T_401
        go_wp2_with fail
        go_loopw [14] (fun si wr => ∃ i : Nat, i ≤ n ∧ si = .int .i64 (i : Int) ∧ Below w60.heap.size w60 wr) (fun si _ => n - (intOf si).toNat)
        case atStart => exact ⟨0, Nat.zero_le _, rfl, Below.refl _ _⟩
        case round =>
          obtain ⟨j, hi, rfl, bj⟩ := hrel
          by_cases hlt : j < n
          rotate_left
          · have f10 : decide ((j : Int) < (n : Int)) = false := by simp; omega
            have f11 : decide (j < n) = false := by simp; omega
            clear hlt hi
            go_wp2_with fail
            refine (rl _).mono ?_; rintro e w70 ⟨rfl, x70⟩
            go_wp2
            go_ret
            exact ⟨rfl, BA.out.trans ((bj.trans (x70.mono bj.size)).mono BA.out.size)⟩
          have HI := Lib.hid hlt
          have f10 : decide ((j : Int) < (n : Int)) = true := by simp; omega
          have f11 : decide (j < n) = true := by simp; omega
          have f12 : (j : Int) < (n : Int) := by omega
          have hl2 : j < t.rs.length := by rw [Hn.out]; exact hlt
          obtain ⟨b9, rfl, hb9⟩ := RulesAt.some (RA.out.1.on bj) (by omega)
          obtain ⟨b6, rfl, hb6⟩ := RulesAt.some (RA.out.2.on bj) (by omega)
          have ca := RulesAt.cells (RA.out.1.on bj) j hl2
          have cb := RulesAt.cells (RA.out.2.on bj) j hl2
          obtain ⟨q, hq⟩ : ∃ q, q = t.rs.getD j Ru.zero := ⟨_, rfl⟩
          rw [← hq] at ca cb
          clear hq hl2 hi hlt rl
          go_upto_region 25 with fail
          obtain ⟨ga0_, ga1_, ga2_, ga3_, ga4_, ga5_, ga6_, ga7_, ga8_, ga9_, ga10_⟩ := ca
          have GA0 : ∀ q_ : Later wr.heap.size wr, q_.u.cell? ⟨b9, j * 11, none⟩ = some (.int .i64 q.k) := fun q_ => q_.block hb9 ga0_
          have GA1 : ∀ q_ : Later wr.heap.size wr, q_.u.cell? ⟨b9, j * 11 + 1, none⟩ = some (.int .u8 q.pr) := fun q_ => q_.block hb9 ga1_
          have GA2 : ∀ q_ : Later wr.heap.size wr, q_.u.cell? ⟨b9, j * 11 + 2, none⟩ = some (.int .u32 (q.si : Int)) := fun q_ => q_.block hb9 ga2_
          have GA3 : ∀ q_ : Later wr.heap.size wr, q_.u.cell? ⟨b9, j * 11 + 3, none⟩ = some (.int .i64 q.sb) := fun q_ => q_.block hb9 ga3_
          have GA4 : ∀ q_ : Later wr.heap.size wr, q_.u.cell? ⟨b9, j * 11 + 4, none⟩ = some (.int .u32 (q.di : Int)) := fun q_ => q_.block hb9 ga4_
          have GA5 : ∀ q_ : Later wr.heap.size wr, q_.u.cell? ⟨b9, j * 11 + 5, none⟩ = some (.int .i64 q.db) := fun q_ => q_.block hb9 ga5_
          have GA6 : ∀ q_ : Later wr.heap.size wr, q_.u.cell? ⟨b9, j * 11 + 6, none⟩ = some (.int .u32 (q.ex : Int)) := fun q_ => q_.block hb9 ga6_
          have GA7 : ∀ q_ : Later wr.heap.size wr, q_.u.cell? ⟨b9, j * 11 + 7, none⟩ = some (.int .u16 q.fr) := fun q_ => q_.block hb9 ga7_
          have GA8 : ∀ q_ : Later wr.heap.size wr, q_.u.cell? ⟨b9, j * 11 + 8, none⟩ = some (.int .u16 q.to) := fun q_ => q_.block hb9 ga8_
          have GA9 : ∀ q_ : Later wr.heap.size wr, q_.u.cell? ⟨b9, j * 11 + 9, none⟩ = some (.int .u32 (q.ii : Int)) := fun q_ => q_.block hb9 ga9_
          have GA10 : ∀ q_ : Later wr.heap.size wr, q_.u.cell? ⟨b9, j * 11 + 10, none⟩ = some (.int .u16 q.ip) := fun q_ => q_.block hb9 ga10_
          clear ga0_ ga1_ ga2_ ga3_ ga4_ ga5_ ga6_ ga7_ ga8_ ga9_ ga10_
          obtain ⟨gb0_, gb1_, gb2_, gb3_, gb4_, gb5_, gb6_, gb7_, gb8_, gb9_, gb10_⟩ := cb
          have GB0 : ∀ q_ : Later wr.heap.size wr, q_.u.cell? ⟨b6, j * 11, none⟩ = some (.int .i64 q.k) := fun q_ => q_.block hb6 gb0_
          have GB1 : ∀ q_ : Later wr.heap.size wr, q_.u.cell? ⟨b6, j * 11 + 1, none⟩ = some (.int .u8 q.pr) := fun q_ => q_.block hb6 gb1_
          have GB2 : ∀ q_ : Later wr.heap.size wr, q_.u.cell? ⟨b6, j * 11 + 2, none⟩ = some (.int .u32 (q.si : Int)) := fun q_ => q_.block hb6 gb2_
          have GB3 : ∀ q_ : Later wr.heap.size wr, q_.u.cell? ⟨b6, j * 11 + 3, none⟩ = some (.int .i64 q.sb) := fun q_ => q_.block hb6 gb3_
          have GB4 : ∀ q_ : Later wr.heap.size wr, q_.u.cell? ⟨b6, j * 11 + 4, none⟩ = some (.int .u32 (q.di : Int)) := fun q_ => q_.block hb6 gb4_
          have GB5 : ∀ q_ : Later wr.heap.size wr, q_.u.cell? ⟨b6, j * 11 + 5, none⟩ = some (.int .i64 q.db) := fun q_ => q_.block hb6 gb5_
          have GB6 : ∀ q_ : Later wr.heap.size wr, q_.u.cell? ⟨b6, j * 11 + 6, none⟩ = some (.int .u32 (q.ex : Int)) := fun q_ => q_.block hb6 gb6_
          have GB7 : ∀ q_ : Later wr.heap.size wr, q_.u.cell? ⟨b6, j * 11 + 7, none⟩ = some (.int .u16 q.fr) := fun q_ => q_.block hb6 gb7_
          have GB8 : ∀ q_ : Later wr.heap.size wr, q_.u.cell? ⟨b6, j * 11 + 8, none⟩ = some (.int .u16 q.to) := fun q_ => q_.block hb6 gb8_
          have GB9 : ∀ q_ : Later wr.heap.size wr, q_.u.cell? ⟨b6, j * 11 + 9, none⟩ = some (.int .u32 (q.ii : Int)) := fun q_ => q_.block hb6 gb9_
          have GB10 : ∀ q_ : Later wr.heap.size wr, q_.u.cell? ⟨b6, j * 11 + 10, none⟩ = some (.int .u16 q.ip) := fun q_ => q_.block hb6 gb10_
          clear gb0_ gb1_ gb2_ gb3_ gb4_ gb5_ gb6_ gb7_ gb8_ gb9_ gb10_
          refine region_later (B := wr.heap.size) (by kernel_rfl) (by kernel_rfl) ?_
          repeat (go_big_quiet_step (fail))
          refine later_end fun w71 x71 => ?_
          clear GA0 GA1 GA2 GA3 GA4 GA5 GA6 GA7 GA8 GA9 GA10 GB0 GB1 GB2 GB3 GB4 GB5 GB6 GB7 GB8 GB9 GB10
          have BJ := bj.trans (x71.mono bj.size)
          clear bj x71
          go_wp2_with fail
          go_roundw
          case rel => exact ⟨j + 1, HI.out, by go_num, BJ⟩
          case measure => have := HI.out; simp [intOf]; omega
      have HI := Lib.hid hlt
      have e10 : decide ((i : Int) < (n : Int)) = true := by simp; omega
      have e11 : decide (i < n) = true := by simp; omega
      have e12 : (i : Int) < (n : Int) := by omega
      have hl2 : i < t.rs.length := by rw [Hn.out]; exact hlt
      have hn0 : t.rs.length ≠ 0 := by omega
      obtain ⟨b9, rfl, hb9⟩ := RulesAt.some R3 hn0
      obtain ⟨b5, rfl, hb5⟩ := Left.some L3 hn0
      have nq : b9 ≠ b5 := HN.out.1 b9 b5 rfl rfl hn0
      have nf5 : ¬ footC p v2 b5 := HN.out.2.1 b5 rfl hn0
      have le5 : w.heap.size ≤ b5 := Nat.le_trans HN.out.2.2.2 (HN.out.2.2.1 b5 rfl)
      have ca := RulesAt.cells R3 i hl2
      have cb := (Left.cells L3 hl2).2
      obtain ⟨q, hq⟩ : ∃ q, q = t.rs.getD i Ru.zero := ⟨_, rfl⟩
      rw [← hq] at ca cb
      have HQ := Lib.hid hq
      have KN := Lib.hid (And.intro nq (And.intro nf5 (And.intro le5 hl2)))
      clear hq hi hlt rl hn0 nq nf5 le5 hl2 cl
      go_upto_region 18 with fail
      obtain ⟨ga0_, ga1_, ga2_, ga3_, ga4_, ga5_, ga6_, ga7_, ga8_, ga9_, ga10_⟩ := ca
      have GA0 : ∀ q_ : Later wr.heap.size wr, q_.u.cell? ⟨b9, i * 11, none⟩ = some (.int .i64 q.k) := fun q_ => q_.block hb9 ga0_
      have GA1 : ∀ q_ : Later wr.heap.size wr, q_.u.cell? ⟨b9, i * 11 + 1, none⟩ = some (.int .u8 q.pr) := fun q_ => q_.block hb9 ga1_
      have GA2 : ∀ q_ : Later wr.heap.size wr, q_.u.cell? ⟨b9, i * 11 + 2, none⟩ = some (.int .u32 (q.si : Int)) := fun q_ => q_.block hb9 ga2_
      have GA3 : ∀ q_ : Later wr.heap.size wr, q_.u.cell? ⟨b9, i * 11 + 3, none⟩ = some (.int .i64 q.sb) := fun q_ => q_.block hb9 ga3_
      have GA4 : ∀ q_ : Later wr.heap.size wr, q_.u.cell? ⟨b9, i * 11 + 4, none⟩ = some (.int .u32 (q.di : Int)) := fun q_ => q_.block hb9 ga4_
      have GA5 : ∀ q_ : Later wr.heap.size wr, q_.u.cell? ⟨b9, i * 11 + 5, none⟩ = some (.int .i64 q.db) := fun q_ => q_.block hb9 ga5_
      have GA6 : ∀ q_ : Later wr.heap.size wr, q_.u.cell? ⟨b9, i * 11 + 6, none⟩ = some (.int .u32 (q.ex : Int)) := fun q_ => q_.block hb9 ga6_
      have GA7 : ∀ q_ : Later wr.heap.size wr, q_.u.cell? ⟨b9, i * 11 + 7, none⟩ = some (.int .u16 q.fr) := fun q_ => q_.block hb9 ga7_
      have GA8 : ∀ q_ : Later wr.heap.size wr, q_.u.cell? ⟨b9, i * 11 + 8, none⟩ = some (.int .u16 q.to) := fun q_ => q_.block hb9 ga8_
      have GA9 : ∀ q_ : Later wr.heap.size wr, q_.u.cell? ⟨b9, i * 11 + 9, none⟩ = some (.int .u32 (q.ii : Int)) := fun q_ => q_.block hb9 ga9_
      have GA10 : ∀ q_ : Later wr.heap.size wr, q_.u.cell? ⟨b9, i * 11 + 10, none⟩ = some (.int .u16 q.ip) := fun q_ => q_.block hb9 ga10_
      clear ga0_ ga1_ ga2_ ga3_ ga4_ ga5_ ga6_ ga7_ ga8_ ga9_ ga10_
      obtain ⟨gb0_, gb1_, gb2_, gb3_, gb4_, gb5_, gb6_, gb7_, gb8_, gb9_, gb10_⟩ := cb
      have GB0 : ∀ q_ : Later wr.heap.size wr, q_.u.cell? ⟨b5, i * 11, none⟩ = some (.int .i64 q.k) := fun q_ => q_.block hb5 gb0_
      have GB1 : ∀ q_ : Later wr.heap.size wr, q_.u.cell? ⟨b5, i * 11 + 1, none⟩ = some (.int .u8 q.pr) := fun q_ => q_.block hb5 gb1_
      have GB2 : ∀ q_ : Later wr.heap.size wr, q_.u.cell? ⟨b5, i * 11 + 2, none⟩ = some (.int .u32 (q.si : Int)) := fun q_ => q_.block hb5 gb2_
      have GB3 : ∀ q_ : Later wr.heap.size wr, q_.u.cell? ⟨b5, i * 11 + 3, none⟩ = some (.int .i64 q.sb) := fun q_ => q_.block hb5 gb3_
      have GB4 : ∀ q_ : Later wr.heap.size wr, q_.u.cell? ⟨b5, i * 11 + 4, none⟩ = some (.int .u32 (q.di : Int)) := fun q_ => q_.block hb5 gb4_
      have GB5 : ∀ q_ : Later wr.heap.size wr, q_.u.cell? ⟨b5, i * 11 + 5, none⟩ = some (.int .i64 q.db) := fun q_ => q_.block hb5 gb5_
      have GB6 : ∀ q_ : Later wr.heap.size wr, q_.u.cell? ⟨b5, i * 11 + 6, none⟩ = some (.int .u32 (q.ex : Int)) := fun q_ => q_.block hb5 gb6_
      have GB7 : ∀ q_ : Later wr.heap.size wr, q_.u.cell? ⟨b5, i * 11 + 7, none⟩ = some (.int .u16 q.fr) := fun q_ => q_.block hb5 gb7_
      have GB8 : ∀ q_ : Later wr.heap.size wr, q_.u.cell? ⟨b5, i * 11 + 8, none⟩ = some (.int .u16 q.to) := fun q_ => q_.block hb5 gb8_
      have GB9 : ∀ q_ : Later wr.heap.size wr, q_.u.cell? ⟨b5, i * 11 + 9, none⟩ = some (.int .u32 (q.ii : Int)) := fun q_ => q_.block hb5 gb9_
      have GB10 : ∀ q_ : Later wr.heap.size wr, q_.u.cell? ⟨b5, i * 11 + 10, none⟩ = some (.int .u16 q.ip) := fun q_ => q_.block hb5 gb10_
      clear gb0_ gb1_ gb2_ gb3_ gb4_ gb5_ gb6_ gb7_ gb8_ gb9_ gb10_
      refine region_later (B := wr.heap.size) (by kernel_rfl) (by kernel_rfl) ?_
      repeat (go_big_quiet_step (fail))
      refine later_end fun w80 x80 => ?_
      clear GA0 GA1 GA2 GA3 GA4 GA5 GA6 GA7 GA8 GA9 GA10 GB0 GB1 GB2 GB3 GB4 GB5 GB6 GB7 GB8 GB9 GB10
      have B80 := bb.trans (x80.mono bb.size)
      have T80 := T3.on x80
      have R80 := R3.on x80
      have L80 := L3.on x80
      obtain ⟨fz, d0, d1, d2, d3, d4, d5, d6, d7, d8, d9, d10⟩ := Left.cells L80 KN.out.2.2.2
      have KK := Lib.hid (And.intro B80 (And.intro T80 (And.intro R80 L80)))
      clear bb T3 R3 L3 x80 hb5 hb9 B80 T80 R80 L80
      go_wp2_with fail
      go_roundw
      case rel =>
        obtain ⟨B80, T80, R80, L80⟩ := KK.out
        have nz : ∀ b', (some ⟨b9, 0, none⟩ : Option Addr) = some ⟨b', 0, none⟩ → t.rs.length ≠ 0 → b' ≠ b5 := fun b' e _ => by
          simp only [Option.some.injEq, Addr.mk.injEq, and_true] at e
          rw [← e]; exact KN.out.1
        exact ⟨i + 1, HI.out, by go_num, (((((((((((B80.setCell (p := ⟨b5, i * 11, none⟩) KN.out.2.2.1 (.int .i64 0)).setCell (p := ⟨b5, i * 11 + 1, none⟩) KN.out.2.2.1 (.int .u8 0)).setCell (p := ⟨b5, i * 11 + 2, none⟩) KN.out.2.2.1 (.int .u32 0)).setCell (p := ⟨b5, i * 11 + 3, none⟩) KN.out.2.2.1 (.int .i64 0)).setCell (p := ⟨b5, i * 11 + 4, none⟩) KN.out.2.2.1 (.int .u32 0)).setCell (p := ⟨b5, i * 11 + 5, none⟩) KN.out.2.2.1 (.int .i64 0)).setCell (p := ⟨b5, i * 11 + 6, none⟩) KN.out.2.2.1 (.int .u32 0)).setCell (p := ⟨b5, i * 11 + 7, none⟩) KN.out.2.2.1 (.int .u16 0)).setCell (p := ⟨b5, i * 11 + 8, none⟩) KN.out.2.2.1 (.int .u16 0)).setCell (p := ⟨b5, i * 11 + 9, none⟩) KN.out.2.2.1 (.int .u32 0)).setCell (p := ⟨b5, i * 11 + 10, none⟩) KN.out.2.2.1 (.int .u16 0)), (TabC.cell (TabC.cell (TabC.cell (TabC.cell (TabC.cell (TabC.cell (TabC.cell (TabC.cell (TabC.cell (TabC.cell (TabC.cell T80 KN.out.2.1 (i * 11) (.int .i64 0)) KN.out.2.1 (i * 11 + 1) (.int .u8 0)) KN.out.2.1 (i * 11 + 2) (.int .u32 0)) KN.out.2.1 (i * 11 + 3) (.int .i64 0)) KN.out.2.1 (i * 11 + 4) (.int .u32 0)) KN.out.2.1 (i * 11 + 5) (.int .i64 0)) KN.out.2.1 (i * 11 + 6) (.int .u32 0)) KN.out.2.1 (i * 11 + 7) (.int .u16 0)) KN.out.2.1 (i * 11 + 8) (.int .u16 0)) KN.out.2.1 (i * 11 + 9) (.int .u32 0)) KN.out.2.1 (i * 11 + 10) (.int .u16 0)), (RulesAt.cell (o := i * 11 + 10) (v := .int .u16 0) (RulesAt.cell (o := i * 11 + 9) (v := .int .u32 0) (RulesAt.cell (o := i * 11 + 8) (v := .int .u16 0) (RulesAt.cell (o := i * 11 + 7) (v := .int .u16 0) (RulesAt.cell (o := i * 11 + 6) (v := .int .u32 0) (RulesAt.cell (o := i * 11 + 5) (v := .int .i64 0) (RulesAt.cell (o := i * 11 + 4) (v := .int .u32 0) (RulesAt.cell (o := i * 11 + 3) (v := .int .i64 0) (RulesAt.cell (o := i * 11 + 2) (v := .int .u32 0) (RulesAt.cell (o := i * 11 + 1) (v := .int .u8 0) (RulesAt.cell (o := i * 11) (v := .int .i64 0) R80 nz) nz) nz) nz) nz) nz) nz) nz) nz) nz) nz), (Left.more (Left.more (Left.more (Left.more (Left.more (Left.more (Left.more (Left.more (Left.more (Left.more (Left.set L80 0 (by omega) (.int .i64 0)) (Nat.le_refl _) 1 (by omega) (.int .u8 0)) (Nat.le_refl _) 2 (by omega) (.int .u32 0)) (Nat.le_refl _) 3 (by omega) (.int .i64 0)) (Nat.le_refl _) 4 (by omega) (.int .u32 0)) (Nat.le_refl _) 5 (by omega) (.int .i64 0)) (Nat.le_refl _) 6 (by omega) (.int .u32 0)) (Nat.le_refl _) 7 (by omega) (.int .u16 0)) (Nat.le_refl _) 8 (by omega) (.int .u16 0)) (Nat.le_refl _) 9 (by omega) (.int .u32 0)) (Nat.le_refl _) 10 (by omega) (.int .u16 0))⟩
      case measure => have := HI.out; simp [intOf]; omega
end RulesBack
end Go.Proofs.Ytoogegpkgohffaa
namespace Go.Proofs.Ytoogegpkgohffaa
open Go.ChangeShapes Go.WideShapes Go.ChangeAt Go.RowKit Go.PlainAid
theorem RulesBack.walkI (a : Option Addr) (len cap : Nat) (ds : List Dr) (z0 z1 z2 z3 z4 z5 at_ : Int) (w : World) (hm : len ≤ maxLen) (D : DrAt w a len ds) (h0 : (Lit.int .u8 z0).wf = true) (h1 : (Lit.int .u8 z1).wf = true) (h2 : (Lit.int .u8 z2).wf = true) (h3 : (Lit.int .u8 z3).wf = true) (h4 : (Lit.int .u8 z4).wf = true) (h5 : (Lit.int .u8 z5).wf = true) (h6 : (Lit.int .u8 at_).wf = true) :
    Calls Try.prog 8 #[.slice a len cap, .agg #[.int .u8 z0, .int .u8 z1, .int .u8 z2, .int .u8 z3, .int .u8 z4, .int .u8 z5], .int .u8 at_] w fun e w' => e = .returned (.bool true) ∧ Below w.heap.size w w' :=
  RulesBack.walk_ filled_ a len cap ds ⟨z0, z1, z2, z3, z4, z5⟩ at_ w D ⟨bounds_u8 h0, bounds_u8 h1, bounds_u8 h2, bounds_u8 h3, bounds_u8 h4, bounds_u8 h5⟩ (bounds_u8 h6) hm
end Go.Proofs.Ytoogegpkgohffaa
