/- Texts of this proof, together: RulH, RulI. -/
import Derived.Test.YtoogegpkgohffaaSe
import Derived.Test.YtoogegpkgohffaaSh
import Derived.Test.YtoogegpkgohffaaSj
import Derived.Test.YtoogegpkgohffaaSi
namespace Go.Proofs.Ytoogegpkgohffaa
set_option linter.unusedVariables false
set_option linter.unusedSimpArgs false
open Go.ChangeShapes Go.WideShapes Go.ChangeAt Go.RowKit Go.PlainAid
attribute [local go_sem ↓] Go.wp_at_zero Go.wp_at_succ
/-- The document's table in memory. -/
structure TabD (w : World) (B p : Nat) (v : Value) (t : Tm) : Prop where
  box : Box4 w p (.int .u32 (t.own : Int)) (.int .u32 (t.ip : Int)) (.int .i64 t.bits) v
  row : RowC w B v t.rs
  low : B ≤ p
  ne : v.ownBlock ≠ some p
  fz : ∀ i, w.frozen? ⟨p, i, none⟩ = false
theorem Box4.keep {w w' : World} {b : Nat} {v0 v1 v2 v3 : Value} (h : Box4 w b v0 v1 v2 v3) (hs : w.heap.size ≤ w'.heap.size) (hb : w'.heap[b]? = w.heap[b]?) : Box4 w' b v0 v1 v2 v3 := by
  obtain ⟨h, h0, h1, h2, h3⟩ := h
  have e : ∀ i : Nat, w'.cell? ⟨b, i, none⟩ = w.cell? ⟨b, i, none⟩ := fun i => World.cell?_of_block (w := w) hb
  exact ⟨Nat.lt_of_lt_of_le h hs, (e 0).trans h0, (e 1).trans h1, (e 2).trans h2, (e 3).trans h3⟩
theorem TabD.keep {w w' : World} {B p : Nat} {v : Value} {t : Tm} (h : TabD w B p v t) (hs : w.heap.size ≤ w'.heap.size) (hp : w'.heap[p]? = w.heap[p]?) (hv : ∀ g, v.ownBlock = some g → w'.heap[g]? = w.heap[g]?) : TabD w' B p v t :=
  ⟨h.box.keep hs hp, h.row.kept hs hv, h.low, h.ne, fun i => (World.frozen?_of_block (w := w) hp : w'.frozen? ⟨p, i, none⟩ = w.frozen? ⟨p, i, none⟩).trans (h.fz i)⟩
theorem TabD.on {w w' : World} {B p : Nat} {v : Value} {t : Tm} (h : TabD w B p v t) (hb : Below w.heap.size w w') : TabD w' B p v t := h.keep hb.size (hb.block p h.box.1) fun g hg => hb.block g (h.row.lt g hg).2
theorem TabD.less {w : World} {A B p : Nat} {v : Value} {t : Tm} (h : TabD w B p v t) (hA : A ≤ B) : TabD w A p v t := ⟨h.box, h.row.low hA, Nat.le_trans hA h.low, h.ne, h.fz⟩
theorem TabD.beside {w w' : World} {S : Nat → Prop} {B p : Nat} {v : Value} {t : Tm} (h : TabD w B p v t) (hb : Beside S w w') (hn : ∀ k, footC p v k → ¬ S k) : TabD w' B p v t :=
  h.keep hb.size (hb.block p h.box.1 (hn p (.inl rfl))) fun g hg => hb.block g (h.row.lt g hg).2 (hn g (.inr hg))
theorem TabD.stored {w : World} {B p : Nat} {v v' : Value} {t t' : Tm} (T : Box4 w p (.int .u32 (t.own : Int)) (.int .u32 (t.ip : Int)) (.int .i64 t.bits) v) (F : ∀ i, w.frozen? ⟨p, i, none⟩ = false) (L : B ≤ p) (R : RowC w B v' t'.rs) (hne : v'.ownBlock ≠ some p) (ho : t'.own = t.own) (hi : t'.ip = t.ip) (hb : t'.bits = t.bits) : TabD (w.setCell ⟨p, 3, none⟩ v') B p v' t' := by
  obtain ⟨z, c0, c1, c2, c3⟩ := T
  refine ⟨⟨by simpa using z, by rw [ho]; simp [go_sem, c0], by rw [hi]; simp [go_sem, c1], by rw [hb]; simp [go_sem, c2], by simp [go_sem, c3]⟩, ?_, L, hne, fun i => by rw [World.frozen?_setCell]; exact F i⟩
  refine R.kept (by simp) fun g hg => ?_
  exact Below.heap_setCell _ _ _ _ (show g ≠ p from fun e => hne (by rw [hg, e]))
/-- What an append is given. -/
def SrcR (w : World) (u : Value) (ys : List Ru) : Prop := (u = .slice none 0 0 ∧ ys = []) ∨ ∃ ad c, u = .slice (some ad) ys.length c ∧ ∀ j z, (valsR ys)[j]? = some z → w.cell? (ad.add j) = some z
theorem SrcR.of {w w' : World} {u : Value} {ys : List Ru} (h : SrcR w u ys) (hc : ∀ a z, w.cell? a = some z → w'.cell? a = some z) : SrcR w' u ys := by
  rcases h with h | ⟨ad, c, e, h⟩
  · exact .inl h
  · exact .inr ⟨ad, c, e, fun j z hj => hc _ _ (h j z hj)⟩
/-- Rules appended to a row of the call's own. -/
theorem append_rules (ty : TypeId) {w : World} {B : Nat} {v u : Value} {xs ys : List Ru} (hv : RowC w B v xs) (hu : SrcR w u ys) (hl : xs.length + ys.length ≤ 2000) (hB : B ≤ w.heap.size) :
    ∃ v' w', (Builtin.append_ #[50, 50] ty #[v, u]).run Try.prog w = .ok v' w' ∧ RowC w' B v' (xs ++ ys) ∧ w.grownBy w' v.ownBlock := by
  obtain ⟨i0, hi0, hz0, hz1, hz2⟩ := rule_info
  rcases hu with ⟨rfl, rfl⟩ | ⟨ad, c, rfl, hc⟩
  · refine ⟨v, w, run_append_owned_none w B 50 ty 42 i0 11 Try.underlying50 hi0 v xs.length (valsR xs) hv, by simpa using hv, ⟨rfl, rfl, rfl, Nat.le_refl _, fun _ _ _ => rfl⟩⟩
  · obtain ⟨v', w', hr, ho, hg, _⟩ := run_append_own (P := Try.prog) w B 50 ty 42 i0 _ 11 64 Try.underlying50 hi0 hz0 hz1 hz2 rfl (by omega) v xs.length (valsR xs) hv ad ys.length c (valsR ys) (valsR_len ys) hc (vals_one ys) (by unfold maxLen; omega) (by omega) hB
    refine ⟨v', w', hr, ?_, hg⟩
    show w'.ownsRow _ _ _ v' (xs ++ ys).length (valsR (xs ++ ys))
    rw [List.length_append, valsR_app]
    exact ho
/-- The two parts of a slice of rules. -/
theorem SrcR.low {w : World} {g cap : Nat} {rs : List Ru} (h : RulesAt w (some ⟨g, 0, none⟩) rs) (k : Nat) (hk : k ≤ rs.length) : SrcR w (.slice (some ⟨g, 0, none⟩) k cap) (rs.take k) := by
  refine .inr ⟨_, cap, by rw [List.length_take, Nat.min_eq_left hk], fun j z hj => ?_⟩
  rw [Addr.add_lit, Nat.zero_add]
  refine h.each j z ?_
  rw [← valsR_take, List.getElem?_take] at hj
  split at hj
  · exact hj
  · cases hj
theorem SrcR.high {w : World} {g cap : Nat} {rs : List Ru} (h : RulesAt w (some ⟨g, 0, none⟩) rs) (k : Nat) (hk : k ≤ rs.length) (hc : rs.length ≤ cap) : ∃ A : Addr, (if cap = k then some (⟨g, 0, none⟩ : Addr) else some ⟨g, k * 11, none⟩) = some A ∧ ∀ c, SrcR w (.slice (some A) (rs.length - k) c) (rs.drop k) := by
  by_cases e : cap = k
  · refine ⟨⟨g, 0, none⟩, by simp [e], fun c => .inr ⟨_, c, by rw [List.length_drop], fun j z hj => ?_⟩⟩
    have := (List.getElem?_eq_some_iff.1 hj).1
    rw [valsR_len, List.length_drop] at this
    omega
  · refine ⟨⟨g, k * 11, none⟩, by simp [e], fun c => .inr ⟨_, c, by rw [List.length_drop], fun j z hj => ?_⟩⟩
    rw [Addr.add_lit]
    refine h.each _ z ?_
    rw [← List.getElem?_drop, valsR_drop]
    exact hj
theorem Beside.src {S : Nat → Prop} {w w' : World} {u : Value} {ys : List Ru} (h : SrcR w u ys) (hb : Beside S w w') (hn : ∀ k, k < w.heap.size → ¬ S k) : SrcR w' u ys :=
  h.of fun a z ha => (hb.cell (World.block_lt_of_cell? _ _ ha) (hn _ (World.block_lt_of_cell? _ _ ha))).trans ha
theorem Below.row {a w w' : World} {v : Value} {xs : List Ru} (h : Below a.heap.size a w) (r : RowC w a.heap.size v xs) (g : w.grownBy w' v.ownBlock) : Below a.heap.size a w' :=
  h.trans ⟨g.os, g.tape, g.output, g.size, fun k hk => g.block k (Nat.lt_of_lt_of_le hk h.size) (fun e => by have := (r.lt k e.symm).1; omega)⟩
theorem SrcR.box {w : World} {b : Nat} {x : Ru} (h : w.heap[b]? = some (.cells x.vals.toArray 42 (0, 0))) : SrcR w (.slice (some ⟨b, 0, none⟩) 1 1) [x] := by
  refine .inr ⟨_, 1, rfl, fun j z hj => ?_⟩
  rw [Addr.add_lit]
  simp only [World.cell?, Nat.zero_add]
  rw [h]
  simpa [valsR] using hj
set_option maxHeartbeats 4000000 in
set_option maxRecDepth 100000 in
theorem rdelR_ (t : Tm) (B p : Nat) (v : Value) (i : Int) (w : World) (H : TabD w B p v t) (hB : B ≤ w.heap.size) (hl : t.rs.length ≤ 1000) :
    Calls Try.prog 18 #[.pointer (some ⟨p, 0, none⟩), .int .i64 i] w fun e w' => e = .returned (.int .i64 (ruDelE t i)) ∧ ∃ v', TabD w' B p v' (ruDelT t i) ∧ Beside (fun k => k = p) w w' ∧ (v'.ownBlock = v.ownBlock ∨ ∀ g, v'.ownBlock = some g → w.heap.size ≤ g) := by
  have HZ := Lib.hid H
  have T0 := H.box
  by_cases hi : i < 0 ∨ (t.rs.length : Int) ≤ i
  · have HV : Hid (ruDelE t i = 2 ∧ ruDelT t i = t) := by
      have e : ruDelE t i = 2 := by unfold ruDelE; rw [if_pos hi]
      exact ⟨e, by unfold ruDelT; rw [if_neg (by rw [e]; omega)]⟩
    obtain ⟨a, cap, rfl⟩ := H.row.slice
    clear H hl
    rcases hi with hi | hi
    · have e1 : decide (i < 0) = true := by simpa using hi
      clear hi
      go_enter Try.func18, Try.ntmps18
      have B1 := Below.refl w.heap.size w
      obtain ⟨_, t1_0, t1_1, t1_2, t1_3⟩ := id T0
      go_wp2
      go_ret
      rw [HV.out.1, HV.out.2]
      exact ⟨rfl, _, HZ.out.on B1, Beside.of B1, .inl rfl⟩
    · have e1 : decide ((t.rs.length : Int) ≤ i) = true := by simpa using hi
      have e2 : decide (i < 0) = false := by simp; omega
      have e3 : ¬ (i < 0) := by omega
      go_enter Try.func18, Try.ntmps18
      have B1 := Below.refl w.heap.size w
      obtain ⟨_, t1_0, t1_1, t1_2, t1_3⟩ := id T0
      go_wp2
      go_ret
      rw [HV.out.1, HV.out.2]
      exact ⟨rfl, _, HZ.out.on B1, Beside.of B1, .inl rfl⟩
  · obtain ⟨k, rfl⟩ : ∃ k : Nat, i = (k : Int) := ⟨i.toNat, by omega⟩
    have hk : k < t.rs.length := by omega
    have HV : Hid (ruDelE t (k : Int) = 0 ∧ ruDelT t (k : Int) = { t with rs := t.rs.take k ++ t.rs.drop (k + 1) }) := by
      have e : ruDelE t (k : Int) = 0 := by unfold ruDelE; rw [if_neg hi]
      exact ⟨e, by unfold ruDelT; rw [if_pos e, Int.toNat_natCast]⟩
    obtain ⟨g, cap, rfl⟩ : ∃ g cap, v = .slice (some ⟨g, 0, none⟩) t.rs.length cap := by
      rcases H.row.kinds with ⟨_, h0⟩ | h
      · rw [h0] at hk; simp at hk
      · exact h
    obtain ⟨cur, _, hgB, hgw, hg, hnc, hcm, hcs, hcur⟩ := H.row.get
    have R0 := H.row.at.2
    have S1 := SrcR.low (cap := cap) R0 k (by omega)
    obtain ⟨A, hA, S2⟩ := SrcR.high R0 (k + 1) hk hnc
    have S2 := S2 (cap - (k + 1))
    have bD := Beside.of (S := fun _ => False) ((Below.refl w.heap.size w).drew)
    obtain ⟨v1, w1, hr1, r1, g1⟩ := append_rules (ty := 50) (w := w.drew) (B := w.heap.size) (xs := []) (World.ownsRow_nil _ _ _ _) (Beside.src S1 bD (fun _ _ h => h)) (by simp; omega) (Nat.le_refl _)
    have z1 : w.heap.size ≤ w1.heap.size := g1.size
    have b1 : Below w.heap.size w w1 := ⟨g1.os, g1.tape, g1.output, z1, fun k hk => g1.block k hk (by simp [Value.ownBlock])⟩
    obtain ⟨v2, w2, hr2, r2, g2⟩ := append_rules (ty := 50) r1 (Beside.src S2 (Beside.of (S := fun _ => False) b1) (fun _ _ h => h)) (by simp; omega) z1
    have b2 : Below w.heap.size w w2 := b1.trans ⟨g2.os, g2.tape, g2.output, g2.size, fun k hk => g2.block k (Nat.lt_of_lt_of_le hk z1) (fun e => by have := (r1.lt k e.symm).1; omega)⟩
    have e1 : decide ((k : Int) < 0) = false := by simp
    have e2 : decide ((t.rs.length : Int) ≤ (k : Int)) = false := by simp; omega
    have e3 : ¬ ((t.rs.length : Int) ≤ (k : Int)) := by omega
    have e4 : (k : Int) + 1 ≤ 1001 := by omega
    have e4w : IntKind.i64.wrap ((k : Int) + 1) = (k : Int) + 1 := by rw [IntKind.wrap_i64]; omega
    have e5 : ((k : Int) + 1).toNat = k + 1 := by omega
    have e6 : (0 : Int) ≤ (k : Int) + 1 := by omega
    have e7 : (k : Int) + 1 ≤ (t.rs.length : Int) := by omega
    have e8 : k ≤ cap := by omega
    have e9 : k + 1 ≤ t.rs.length := hk
    have e11 : (k : Int) ≤ (cap : Int) := by omega
    have T1 := H.box.on b1
    have T2 := H.box.on b2
    have F2 : ∀ i, w2.frozen? ⟨p, i, none⟩ = false := fun i => (b2.frozen (p := ⟨p, i, none⟩) H.box.1).trans (H.fz i)
    obtain ⟨v2a, v2c, hv2⟩ := r2.slice
    subst hv2
    have r2 : RowC w2 w.heap.size (.slice v2a ([] ++ t.rs.take k ++ t.rs.drop (k + 1)).length v2c) (t.rs.take k ++ t.rs.drop (k + 1)) := r2
    generalize ([] ++ t.rs.take k ++ t.rs.drop (k + 1)).length = N2 at hr2 r2
    have KK := Lib.hid (And.intro T2 (And.intro F2 (And.intro r2 b2)))
    have c1 := T1.2.2.2.2
    have c2 := T2.2.2.2.2
    have f3 := F2 3
    have HR := Lib.hid hr1
    have HS := Lib.hid hr2
    clear H hi hl hk T1 T2 F2 r2 r1 g1 g2 S1 S2 R0 hcur hg hcs hcm hnc hgB hgw z1 bD hr1 hr2 b1 b2
    go_enter Try.func18, Try.ntmps18
    have B1 := Below.refl w.heap.size w
    obtain ⟨_, t1_0, t1_1, t1_2, t1_3⟩ := id T0
    go_upto_region 3 with fail
    refine region_till 18 (fun w' => w'.cell? ⟨p, 3, none⟩ = some (.slice (some ⟨g, 0, none⟩) t.rs.length cap)) (by kernel_rfl) ?_ (fun hHeld => ?_)
    · simp [t1_0, t1_1, t1_2, t1_3]
    clear t1_0 t1_1 t1_2 t1_3
    refine till_take (i := 0) (oi := _) (v := ?_) rfl (by kernel_rfl) (by kernel_rfl) (by kernel_rfl) (by kernel_rfl) (by rfl) (fun _ _ _ h => h) (Or.inl ⟨by rfl, ?_⟩) (by assumption) ?_
    rotate_left
    · intro w hSw
      (try dsimp only at hSw)
      go_simp
      with_reducible rfl
    try simp only [Act.put, List.setIfInBounds_toArray, List.set_cons_zero, List.set_cons_succ]
    refine till_take (i := 1) (oi := _) (v := ?_) rfl (by kernel_rfl) (by kernel_rfl) (by kernel_rfl) (by kernel_rfl) (by rfl) (fun _ _ _ h => h) (Or.inl ⟨by rfl, ?_⟩) (by assumption) ?_
    rotate_left
    · intro w hSw
      (try dsimp only at hSw)
      go_simp
      with_reducible rfl
    try simp only [Act.put, List.setIfInBounds_toArray, List.set_cons_zero, List.set_cons_succ]
    refine till_take (i := 2) (oi := _) (v := ?_) rfl (by kernel_rfl) (by kernel_rfl) (by kernel_rfl) (by kernel_rfl) (by rfl) (fun _ _ _ h => h) (Or.inl ⟨by rfl, ?_⟩) (by assumption) ?_
    rotate_left
    · intro w hSw
      (try dsimp only at hSw)
      go_simp
      with_reducible rfl
    try simp only [Act.put, List.setIfInBounds_toArray, List.set_cons_zero, List.set_cons_succ]
    refine till_take (i := 3) (oi := _) (v := ?_) rfl (by kernel_rfl) (by kernel_rfl) (by kernel_rfl) (by kernel_rfl) (by rfl) (fun _ _ _ h => h) (Or.inl ⟨by rfl, ?_⟩) (by assumption) ?_
    rotate_left
    · intro w hSw
      (try dsimp only at hSw)
      go_simp
      with_reducible rfl
    try simp only [Act.put, List.setIfInBounds_toArray, List.set_cons_zero, List.set_cons_succ]
    refine till_take (i := 4) (oi := _) (v := ?_) rfl (by kernel_rfl) (by kernel_rfl) (by kernel_rfl) (by kernel_rfl) (by rfl) (fun _ _ _ h => h) (Or.inl ⟨by rfl, ?_⟩) (by assumption) ?_
    rotate_left
    · intro w hSw
      (try dsimp only at hSw)
      go_simp
      with_reducible rfl
    try simp only [Act.put, List.setIfInBounds_toArray, List.set_cons_zero, List.set_cons_succ]
    refine till_take (i := 5) (oi := _) (v := ?_) rfl (by kernel_rfl) (by kernel_rfl) (by kernel_rfl) (by kernel_rfl) (by rfl) (fun _ _ _ h => h) (Or.inl ⟨by rfl, ?_⟩) (by assumption) ?_
    rotate_left
    · intro w hSw
      (try dsimp only at hSw)
      go_simp
      with_reducible rfl
    try simp only [Act.put, List.setIfInBounds_toArray, List.set_cons_zero, List.set_cons_succ]
    refine till_take (i := 6) (oi := _) (v := ?_) rfl (by kernel_rfl) (by kernel_rfl) (by kernel_rfl) (by kernel_rfl) (by rfl) (fun _ _ _ h => h) (Or.inl ⟨by rfl, ?_⟩) (by assumption) ?_
    rotate_left
    · intro w hSw
      (try dsimp only at hSw)
      go_simp
      with_reducible rfl
    try simp only [Act.put, List.setIfInBounds_toArray, List.set_cons_zero, List.set_cons_succ]
    refine till_take (i := 8) (oi := _) (v := ?_) rfl (by kernel_rfl) (by kernel_rfl) (by kernel_rfl) (by kernel_rfl) (by rfl) (fun _ _ _ h => h) (Or.inl ⟨by rfl, ?_⟩) (by assumption) ?_
    rotate_left
    · intro w hSw
      (try dsimp only at hSw)
      go_simp
      with_reducible rfl
    try simp only [Act.put, List.setIfInBounds_toArray, List.set_cons_zero, List.set_cons_succ]
    refine till_take (i := 9) (oi := _) (v := ?_) rfl (by kernel_rfl) (by kernel_rfl) (by kernel_rfl) (by kernel_rfl) (by rfl) (fun _ _ _ h => h) (Or.inl ⟨by rfl, ?_⟩) (by assumption) ?_
    rotate_left
    · intro w hSw
      (try dsimp only at hSw)
      go_simp
      with_reducible rfl
    try simp only [Act.put, List.setIfInBounds_toArray, List.set_cons_zero, List.set_cons_succ]
    refine till_take (i := 10) (oi := _) (v := ?_) rfl (by kernel_rfl) (by kernel_rfl) (by kernel_rfl) (by kernel_rfl) (by rfl) (fun _ _ _ h => h) (Or.inl ⟨by rfl, ?_⟩) (by assumption) ?_
    rotate_left
    · intro w hSw
      (try dsimp only at hSw)
      go_simp
      with_reducible rfl
    try simp only [Act.put, List.setIfInBounds_toArray, List.set_cons_zero, List.set_cons_succ]
    refine till_take (i := 11) (oi := _) (v := ?_) rfl (by kernel_rfl) (by kernel_rfl) (by kernel_rfl) (by kernel_rfl) (by rfl) (fun _ _ _ h => h) (Or.inl ⟨by rfl, ?_⟩) (by assumption) ?_
    rotate_left
    · intro w hSw
      (try dsimp only at hSw)
      go_simp
      with_reducible rfl
    try simp only [Act.put, List.setIfInBounds_toArray, List.set_cons_zero, List.set_cons_succ]
    refine till_take (i := 12) (oi := _) (v := ?_) rfl (by kernel_rfl) (by kernel_rfl) (by kernel_rfl) (by kernel_rfl) (by rfl) (fun _ _ _ h => h) (Or.inl ⟨by rfl, ?_⟩) (by assumption) ?_
    rotate_left
    · intro w hSw
      (try dsimp only at hSw)
      go_simp
      with_reducible rfl
    try simp only [Act.put, List.setIfInBounds_toArray, List.set_cons_zero, List.set_cons_succ]
    refine till_take (i := 13) (oi := _) (v := ?_) rfl (by kernel_rfl) (by kernel_rfl) (by kernel_rfl) (by kernel_rfl) (by rfl) (fun _ _ _ h => h) (Or.inl ⟨by rfl, ?_⟩) (by assumption) ?_
    rotate_left
    · intro w hSw
      (try dsimp only at hSw)
      go_simp
      with_reducible rfl
    try simp only [Act.put, List.setIfInBounds_toArray, List.set_cons_zero, List.set_cons_succ]
    refine till_take (i := 14) (oi := _) (v := ?_) rfl (by kernel_rfl) (by kernel_rfl) (by kernel_rfl) (by kernel_rfl) (by rfl) (fun _ _ _ h => h) (Or.inl ⟨by rfl, ?_⟩) (by assumption) ?_
    rotate_left
    · intro w hSw
      (try dsimp only at hSw)
      go_simp
      with_reducible rfl
    try simp only [Act.put, List.setIfInBounds_toArray, List.set_cons_zero, List.set_cons_succ]
    refine till_ready (rs := [7]) (by kernel_rfl) (by simp) ?_
    refine TillAll.cons (o := _) (by simp only [List.getElem?_toArray, List.getElem?_cons_succ, List.getElem?_cons_zero]; rfl) (by rfl) (fun K hK => ?_) TillAll.nil
    rw [if_pos (by simp [Region.wanted])]
    refine Lib.wp_append_run _ _ _ 50 50 rfl (.slice none 0 0) (.slice (some ⟨g, 0, none⟩) k cap) (by simp [Act.eval, Act.put]) (by simp [Act.eval, Act.put]) _ _ HR.out ?_
    refine hK.out _ _ c1 (fun hS1 => ?_)
    clear hK K
    try simp only [Act.put, List.setIfInBounds_toArray, List.set_cons_zero, List.set_cons_succ]
    refine till_ready (rs := [15]) (by kernel_rfl) (by simp) ?_
    refine TillAll.cons (o := _) (by simp only [List.getElem?_toArray, List.getElem?_cons_succ, List.getElem?_cons_zero]; rfl) (by rfl) (fun K hK => ?_) TillAll.nil
    rw [if_pos (by simp [Region.wanted])]
    refine Lib.wp_append_run _ _ _ 50 50 rfl (v1) (.slice (some A) (t.rs.length - (k + 1)) (cap - (k + 1))) (by simp [Act.eval, Act.put]) (by simp [Act.eval, Act.put]) _ _ HS.out ?_
    refine hK.out _ _ c2 (fun hS2 => ?_)
    clear hK K
    try simp only [Act.put, List.setIfInBounds_toArray, List.set_cons_zero, List.set_cons_succ]
    refine till_ready (rs := [16]) (by kernel_rfl) (by simp) ?_
    refine TillAll.cons (o := _) rfl (by rfl) (fun K hK => ?_) TillAll.nil
    go_simp
    refine hK.out _ _ hS2 (fun _ => ?_)
    clear hK K
    try simp only [Act.put, List.setIfInBounds_toArray, List.set_cons_zero, List.set_cons_succ]
    refine till_take (i := 17) (oi := _) (v := ?_) rfl (by kernel_rfl) (by kernel_rfl) (by kernel_rfl) (by kernel_rfl) (by rfl) (fun _ _ _ h => h) (Or.inl ⟨by rfl, ?_⟩) (by assumption) ?_
    rotate_left
    · intro w hSw
      (try dsimp only at hSw)
      go_simp
      with_reducible rfl
    try simp only [Act.put, List.setIfInBounds_toArray, List.set_cons_zero, List.set_cons_succ]
    obtain ⟨_, t0, t1, t2, t3⟩ := id KK.out.1
    refine till_last (by kernel_rfl) (by kernel_rfl) rfl (fun K hK => ?_)
    go_simp
    refine hK.out _ _ ?_
    clear hK K
    go_wp2
    go_ret
    rw [HV.out.1, HV.out.2]
    obtain ⟨T2, F2, r2, b2⟩ := KK.out
    have lo : ∀ g, Value.ownBlock (.slice v2a N2 v2c) = some g → w.heap.size ≤ g := fun g h => (r2.lt g h).1
    exact ⟨rfl, _, TabD.stored (t := t) T2 F2 HZ.out.low (r2.low hB) (fun e => by have := lo p e; have := HZ.out.box.1; omega) rfl rfl rfl, Beside.setCell (S := fun k => k = p) (Beside.of b2) (p := ⟨p, 3, none⟩) rfl _, .inr lo⟩
set_option maxHeartbeats 4000000 in
set_option maxRecDepth 100000 in
theorem raddR_ (t : Tm) (B p : Nat) (v : Value) (i : Int) (x : Ru) (w : World) (H : TabD w B p v t) (hB : B ≤ w.heap.size) (hl : t.rs.length ≤ 32) (h1 : t.ip < 4294967296) (h2 : -9223372036854775808 ≤ t.bits ∧ t.bits ≤ 9223372036854775807) (hr : x.Ok) :
    Calls Try.prog 16 #[.pointer (some ⟨p, 0, none⟩), .int .i64 i, .agg #[.int .i64 x.k, .int .u8 x.pr, .int .u32 (x.si : Int), .int .i64 x.sb, .int .u32 (x.di : Int), .int .i64 x.db, .int .u32 (x.ex : Int), .int .u16 x.fr, .int .u16 x.to, .int .u32 (x.ii : Int), .int .u16 x.ip]] w fun e w' => e = .returned (.int .i64 (ruAddE t i x)) ∧ ∃ v', TabD w' B p v' (ruAddT t i x) ∧ Beside (fun k => k = p) w w' ∧ (v'.ownBlock = v.ownBlock ∨ ∀ g, v'.ownBlock = some g → w.heap.size ≤ g) := by
  have HZ := Lib.hid H
  have T0 := H.box
  obtain ⟨a, cap, hv⟩ := H.row.slice
  subst hv
  have RZ := Lib.hid H.row.at.2
  have cm := fun (u : World) (T : Box4 u p (.int .u32 (t.own : Int)) (.int .u32 (t.ip : Int)) (.int .i64 t.bits) (.slice a t.rs.length cap)) => rmayR_ t x p _ u T h1 h2 hr
  have cc := fun (u : World) (r : Ru) (T : Box4 u p (.int .u32 (t.own : Int)) (.int .u32 (t.ip : Int)) (.int .i64 t.bits) (.slice a t.rs.length cap)) => rclashR_ t r x p _ u T
  have HL := Lib.hid hl
  have HR := Lib.hid H.row
  clear H h1 h2
  by_cases hm : mayRu t x = false
  ·
    have HV : Hid (ruAddE t i x = 2 ∧ ruAddT t i x = t) := by
      have e : ruAddE t i x = 2 := by unfold ruAddE; rw [if_pos (.inl hm)]
      exact ⟨e, by unfold ruAddT; rw [if_neg (by rw [e]; omega)]⟩
    rw [hm] at cm
    clear hm
    go_enter Try.func16, Try.ntmps16
    have B1 := Below.refl w.heap.size w
    go_upto_region 1 with fail
    have T_2 := T0.past (o := (.cells #[.int .i64 x.k, .int .u8 x.pr, .int .u32 (x.si : Int), .int .i64 x.sb, .int .u32 (x.di : Int), .int .i64 x.db, .int .u32 (x.ex : Int), .int .u16 x.fr, .int .u16 x.to, .int .u32 (x.ii : Int), .int .u16 x.ip] 42))
    have X_3 := Box11.make w (.int .i64 x.k) (.int .u8 x.pr) (.int .u32 (x.si : Int)) (.int .i64 x.sb) (.int .u32 (x.di : Int)) (.int .i64 x.db) (.int .u32 (x.ex : Int)) (.int .u16 x.fr) (.int .u16 x.to) (.int .u32 (x.ii : Int)) (.int .u16 x.ip) 42
    have B4 := B1.alloc B1.size (.cells #[.int .i64 x.k, .int .u8 x.pr, .int .u32 (x.si : Int), .int .i64 x.sb, .int .u32 (x.di : Int), .int .i64 x.db, .int .u32 (x.ex : Int), .int .u16 x.fr, .int .u16 x.to, .int .u32 (x.ii : Int), .int .u16 x.ip] 42)
    clear T0 B1
    obtain ⟨u1, hu1⟩ : ∃ x_ : World, x_ = w.alloc (.cells #[.int .i64 x.k, .int .u8 x.pr, .int .u32 (x.si : Int), .int .i64 x.sb, .int .u32 (x.di : Int), .int .i64 x.db, .int .u32 (x.ex : Int), .int .u16 x.fr, .int .u16 x.to, .int .u32 (x.ii : Int), .int .u16 x.ip] 42) := ⟨_, rfl⟩
    rw [← hu1] at T_2 X_3 B4 ⊢
    clear hu1
    obtain ⟨_, x1_0, x1_1, x1_2, x1_3, x1_4, x1_5, x1_6, x1_7, x1_8, x1_9, x1_10⟩ := id X_3
    obtain ⟨_, t2_0, t2_1, t2_2, t2_3⟩ := id T_2
    go_wp2_with fail
    refine (cm _ T_2).mono ?_; rintro e w2 ⟨rfl, x2⟩
    have T_5 := T_2.on x2
    have X_6 := X_3.on x2
    have B7 := B4.trans (x2.mono B4.size)
    clear x1_0 x1_1 x1_2 x1_3 x1_4 x1_5 x1_6 x1_7 x1_8 x1_9 x1_10 t2_0 t2_1 t2_2 t2_3 T_2 X_3 B4 x2
    obtain ⟨_, x3_0, x3_1, x3_2, x3_3, x3_4, x3_5, x3_6, x3_7, x3_8, x3_9, x3_10⟩ := id X_6
    obtain ⟨_, t4_0, t4_1, t4_2, t4_3⟩ := id T_5
    go_wp2
    go_ret
    rw [HV.out.1, HV.out.2]
    exact ⟨rfl, _, HZ.out.on B7, Beside.of B7, .inl rfl⟩
  have hm' : mayRu t x = true := by simpa using hm
  rw [hm'] at cm
  by_cases h : i < 0
  ·
    have HV : Hid (ruAddE t i x = 2 ∧ ruAddT t i x = t) := by
      have e : ruAddE t i x = 2 := by unfold ruAddE; rw [if_pos (.inr (.inl h))]
      exact ⟨e, by unfold ruAddT; rw [if_neg (by rw [e]; omega)]⟩
    have e1 : decide (i < 0) = true := by simpa using h
    clear h hm hm'
    go_enter Try.func16, Try.ntmps16
    have B1 := Below.refl w.heap.size w
    go_upto_region 1 with fail
    have T_2 := T0.past (o := (.cells #[.int .i64 x.k, .int .u8 x.pr, .int .u32 (x.si : Int), .int .i64 x.sb, .int .u32 (x.di : Int), .int .i64 x.db, .int .u32 (x.ex : Int), .int .u16 x.fr, .int .u16 x.to, .int .u32 (x.ii : Int), .int .u16 x.ip] 42))
    have X_3 := Box11.make w (.int .i64 x.k) (.int .u8 x.pr) (.int .u32 (x.si : Int)) (.int .i64 x.sb) (.int .u32 (x.di : Int)) (.int .i64 x.db) (.int .u32 (x.ex : Int)) (.int .u16 x.fr) (.int .u16 x.to) (.int .u32 (x.ii : Int)) (.int .u16 x.ip) 42
    have B4 := B1.alloc B1.size (.cells #[.int .i64 x.k, .int .u8 x.pr, .int .u32 (x.si : Int), .int .i64 x.sb, .int .u32 (x.di : Int), .int .i64 x.db, .int .u32 (x.ex : Int), .int .u16 x.fr, .int .u16 x.to, .int .u32 (x.ii : Int), .int .u16 x.ip] 42)
    clear T0 B1
    obtain ⟨u1, hu1⟩ : ∃ x_ : World, x_ = w.alloc (.cells #[.int .i64 x.k, .int .u8 x.pr, .int .u32 (x.si : Int), .int .i64 x.sb, .int .u32 (x.di : Int), .int .i64 x.db, .int .u32 (x.ex : Int), .int .u16 x.fr, .int .u16 x.to, .int .u32 (x.ii : Int), .int .u16 x.ip] 42) := ⟨_, rfl⟩
    rw [← hu1] at T_2 X_3 B4 ⊢
    clear hu1
    obtain ⟨_, x1_0, x1_1, x1_2, x1_3, x1_4, x1_5, x1_6, x1_7, x1_8, x1_9, x1_10⟩ := id X_3
    obtain ⟨_, t2_0, t2_1, t2_2, t2_3⟩ := id T_2
    go_wp2_with fail
    refine (cm _ T_2).mono ?_; rintro e w2 ⟨rfl, x2⟩
    have T_5 := T_2.on x2
    have X_6 := X_3.on x2
    have B7 := B4.trans (x2.mono B4.size)
    clear x1_0 x1_1 x1_2 x1_3 x1_4 x1_5 x1_6 x1_7 x1_8 x1_9 x1_10 t2_0 t2_1 t2_2 t2_3 T_2 X_3 B4 x2
    obtain ⟨_, x3_0, x3_1, x3_2, x3_3, x3_4, x3_5, x3_6, x3_7, x3_8, x3_9, x3_10⟩ := id X_6
    obtain ⟨_, t4_0, t4_1, t4_2, t4_3⟩ := id T_5
    go_wp2
    go_ret
    rw [HV.out.1, HV.out.2]
    exact ⟨rfl, _, HZ.out.on B7, Beside.of B7, .inl rfl⟩
  have g1 : decide (i < 0) = false := by simpa using h
  have g1n : ¬ (i < 0) := h
  clear h
  by_cases h : (t.rs.length : Int) < i
  ·
    have HV : Hid (ruAddE t i x = 2 ∧ ruAddT t i x = t) := by
      have e : ruAddE t i x = 2 := by unfold ruAddE; rw [if_pos (.inr (.inr h))]
      exact ⟨e, by unfold ruAddT; rw [if_neg (by rw [e]; omega)]⟩
    have e1 : decide ((t.rs.length : Int) < i) = true := by simpa using h
    clear hm hm'
    go_enter Try.func16, Try.ntmps16
    have B1 := Below.refl w.heap.size w
    go_upto_region 1 with fail
    have T_2 := T0.past (o := (.cells #[.int .i64 x.k, .int .u8 x.pr, .int .u32 (x.si : Int), .int .i64 x.sb, .int .u32 (x.di : Int), .int .i64 x.db, .int .u32 (x.ex : Int), .int .u16 x.fr, .int .u16 x.to, .int .u32 (x.ii : Int), .int .u16 x.ip] 42))
    have X_3 := Box11.make w (.int .i64 x.k) (.int .u8 x.pr) (.int .u32 (x.si : Int)) (.int .i64 x.sb) (.int .u32 (x.di : Int)) (.int .i64 x.db) (.int .u32 (x.ex : Int)) (.int .u16 x.fr) (.int .u16 x.to) (.int .u32 (x.ii : Int)) (.int .u16 x.ip) 42
    have B4 := B1.alloc B1.size (.cells #[.int .i64 x.k, .int .u8 x.pr, .int .u32 (x.si : Int), .int .i64 x.sb, .int .u32 (x.di : Int), .int .i64 x.db, .int .u32 (x.ex : Int), .int .u16 x.fr, .int .u16 x.to, .int .u32 (x.ii : Int), .int .u16 x.ip] 42)
    clear T0 B1
    obtain ⟨u1, hu1⟩ : ∃ x_ : World, x_ = w.alloc (.cells #[.int .i64 x.k, .int .u8 x.pr, .int .u32 (x.si : Int), .int .i64 x.sb, .int .u32 (x.di : Int), .int .i64 x.db, .int .u32 (x.ex : Int), .int .u16 x.fr, .int .u16 x.to, .int .u32 (x.ii : Int), .int .u16 x.ip] 42) := ⟨_, rfl⟩
    rw [← hu1] at T_2 X_3 B4 ⊢
    clear hu1
    obtain ⟨_, x1_0, x1_1, x1_2, x1_3, x1_4, x1_5, x1_6, x1_7, x1_8, x1_9, x1_10⟩ := id X_3
    obtain ⟨_, t2_0, t2_1, t2_2, t2_3⟩ := id T_2
    go_wp2_with fail
    refine (cm _ T_2).mono ?_; rintro e w2 ⟨rfl, x2⟩
    have T_5 := T_2.on x2
    have X_6 := X_3.on x2
    have B7 := B4.trans (x2.mono B4.size)
    clear x1_0 x1_1 x1_2 x1_3 x1_4 x1_5 x1_6 x1_7 x1_8 x1_9 x1_10 t2_0 t2_1 t2_2 t2_3 T_2 X_3 B4 x2
    obtain ⟨_, x3_0, x3_1, x3_2, x3_3, x3_4, x3_5, x3_6, x3_7, x3_8, x3_9, x3_10⟩ := id X_6
    obtain ⟨_, t4_0, t4_1, t4_2, t4_3⟩ := id T_5
    go_wp2
    go_ret
    rw [HV.out.1, HV.out.2]
    exact ⟨rfl, _, HZ.out.on B7, Beside.of B7, .inl rfl⟩
  have g2 : decide ((t.rs.length : Int) < i) = false := by simpa using h
  have g2n : ¬ ((t.rs.length : Int) < i) := h
  have g3 : ¬ (mayRu t x = false ∨ i < 0 ∨ (t.rs.length : Int) < i) := by rw [hm']; intro k; rcases k with k | k | k; exact absurd k (by decide); exact g1n k; exact g2n k
  clear h hm hm'
  by_cases h : 31 < t.rs.length
  ·
    have HV : Hid (ruAddE t i x = 5 ∧ ruAddT t i x = t) := by
      have e : ruAddE t i x = 5 := by unfold ruAddE; rw [if_neg g3, if_pos h]
      exact ⟨e, by unfold ruAddT; rw [if_neg (by rw [e]; omega)]⟩
    have e1 : decide ((31 : Int) < (t.rs.length : Int)) = true := by simp; omega
    have e2 : decide (31 < t.rs.length) = true := by simp; omega
    clear g3
    go_enter Try.func16, Try.ntmps16
    have B1 := Below.refl w.heap.size w
    go_upto_region 1 with fail
    have T_2 := T0.past (o := (.cells #[.int .i64 x.k, .int .u8 x.pr, .int .u32 (x.si : Int), .int .i64 x.sb, .int .u32 (x.di : Int), .int .i64 x.db, .int .u32 (x.ex : Int), .int .u16 x.fr, .int .u16 x.to, .int .u32 (x.ii : Int), .int .u16 x.ip] 42))
    have X_3 := Box11.make w (.int .i64 x.k) (.int .u8 x.pr) (.int .u32 (x.si : Int)) (.int .i64 x.sb) (.int .u32 (x.di : Int)) (.int .i64 x.db) (.int .u32 (x.ex : Int)) (.int .u16 x.fr) (.int .u16 x.to) (.int .u32 (x.ii : Int)) (.int .u16 x.ip) 42
    have B4 := B1.alloc B1.size (.cells #[.int .i64 x.k, .int .u8 x.pr, .int .u32 (x.si : Int), .int .i64 x.sb, .int .u32 (x.di : Int), .int .i64 x.db, .int .u32 (x.ex : Int), .int .u16 x.fr, .int .u16 x.to, .int .u32 (x.ii : Int), .int .u16 x.ip] 42)
    clear T0 B1
    obtain ⟨u1, hu1⟩ : ∃ x_ : World, x_ = w.alloc (.cells #[.int .i64 x.k, .int .u8 x.pr, .int .u32 (x.si : Int), .int .i64 x.sb, .int .u32 (x.di : Int), .int .i64 x.db, .int .u32 (x.ex : Int), .int .u16 x.fr, .int .u16 x.to, .int .u32 (x.ii : Int), .int .u16 x.ip] 42) := ⟨_, rfl⟩
    rw [← hu1] at T_2 X_3 B4 ⊢
    clear hu1
    obtain ⟨_, x1_0, x1_1, x1_2, x1_3, x1_4, x1_5, x1_6, x1_7, x1_8, x1_9, x1_10⟩ := id X_3
    obtain ⟨_, t2_0, t2_1, t2_2, t2_3⟩ := id T_2
    go_wp2_with fail
    refine (cm _ T_2).mono ?_; rintro e w2 ⟨rfl, x2⟩
    have T_5 := T_2.on x2
    have X_6 := X_3.on x2
    have B7 := B4.trans (x2.mono B4.size)
    clear x1_0 x1_1 x1_2 x1_3 x1_4 x1_5 x1_6 x1_7 x1_8 x1_9 x1_10 t2_0 t2_1 t2_2 t2_3 T_2 X_3 B4 x2
    obtain ⟨_, x3_0, x3_1, x3_2, x3_3, x3_4, x3_5, x3_6, x3_7, x3_8, x3_9, x3_10⟩ := id X_6
    obtain ⟨_, t4_0, t4_1, t4_2, t4_3⟩ := id T_5
    go_wp2
    go_ret
    rw [HV.out.1, HV.out.2]
    exact ⟨rfl, _, HZ.out.on B7, Beside.of B7, .inl rfl⟩
  have g4 : decide ((31 : Int) < (t.rs.length : Int)) = false := by simp; omega
  have g5 : decide (31 < t.rs.length) = false := by simp; omega
  have g4n : ¬ ((31 : Int) < (t.rs.length : Int)) := by omega
  have g6 := h
  clear h
  have HG := Lib.hid (And.intro g3 g6)
  clear g3 g6
  obtain ⟨k, rfl⟩ : ∃ k : Nat, i = (k : Int) := ⟨i.toNat, by omega⟩
  have hk : k ≤ t.rs.length := by omega
  go_enter Try.func16, Try.ntmps16
  have B1 := Below.refl w.heap.size w
  go_upto_region 1 with fail
  have T_2 := T0.past (o := (.cells #[.int .i64 x.k, .int .u8 x.pr, .int .u32 (x.si : Int), .int .i64 x.sb, .int .u32 (x.di : Int), .int .i64 x.db, .int .u32 (x.ex : Int), .int .u16 x.fr, .int .u16 x.to, .int .u32 (x.ii : Int), .int .u16 x.ip] 42))
  have X_3 := Box11.make w (.int .i64 x.k) (.int .u8 x.pr) (.int .u32 (x.si : Int)) (.int .i64 x.sb) (.int .u32 (x.di : Int)) (.int .i64 x.db) (.int .u32 (x.ex : Int)) (.int .u16 x.fr) (.int .u16 x.to) (.int .u32 (x.ii : Int)) (.int .u16 x.ip) 42
  have B4 := B1.alloc B1.size (.cells #[.int .i64 x.k, .int .u8 x.pr, .int .u32 (x.si : Int), .int .i64 x.sb, .int .u32 (x.di : Int), .int .i64 x.db, .int .u32 (x.ex : Int), .int .u16 x.fr, .int .u16 x.to, .int .u32 (x.ii : Int), .int .u16 x.ip] 42)
  clear T0 B1
  obtain ⟨u1, hu1⟩ : ∃ x_ : World, x_ = w.alloc (.cells #[.int .i64 x.k, .int .u8 x.pr, .int .u32 (x.si : Int), .int .i64 x.sb, .int .u32 (x.di : Int), .int .i64 x.db, .int .u32 (x.ex : Int), .int .u16 x.fr, .int .u16 x.to, .int .u32 (x.ii : Int), .int .u16 x.ip] 42) := ⟨_, rfl⟩
  rw [← hu1] at T_2 X_3 B4 ⊢
  clear hu1
  obtain ⟨_, x1_0, x1_1, x1_2, x1_3, x1_4, x1_5, x1_6, x1_7, x1_8, x1_9, x1_10⟩ := id X_3
  obtain ⟨_, t2_0, t2_1, t2_2, t2_3⟩ := id T_2
  go_wp2_with fail
  refine (cm _ T_2).mono ?_; rintro e w2 ⟨rfl, x2⟩
  have T_5 := T_2.on x2
  have X_6 := X_3.on x2
  have B7 := B4.trans (x2.mono B4.size)
  clear x1_0 x1_1 x1_2 x1_3 x1_4 x1_5 x1_6 x1_7 x1_8 x1_9 x1_10 t2_0 t2_1 t2_2 t2_3 T_2 X_3 B4 x2
  have su : w.heap.size < w2.heap.size := X_6.1
  have HT1 := Lib.hid T_5
  have HX1 := Lib.hid X_6
  have HB1 := Lib.hid B7
  obtain ⟨_, t3_0, t3_1, t3_2, t3_3⟩ := id T_5
  go_wp2_with fail
  go_loopw [7] (fun si wr => ∃ i : Nat, i ≤ t.rs.length ∧ si = .int .i64 (i : Int) ∧ Below w2.heap.size w2 wr ∧ Hid (∀ j, j < i → clashRu t (t.rs.getD j Ru.zero) x = false)) (fun si _ => t.rs.length - (intOf si).toNat)
  case atStart => exact ⟨0, Nat.zero_le _, rfl, Below.refl _ _, fun j hj => by omega⟩
  case round =>
    clear t3_0 t3_1 t3_2 t3_3
    obtain ⟨i, hi, rfl, bb, HF⟩ := hrel
    have T2 := HT1.out.on bb
    have X2 := HX1.out.on bb
    have B2 := HB1.out.trans (bb.mono HB1.out.size)
    by_cases hlt : i < t.rs.length
    · have HI := Lib.hid hlt
      have e10 : decide ((i : Int) < (t.rs.length : Int)) = true := by simp; omega
      have e11 : decide (i < t.rs.length) = true := by simp; omega
      have e12 : (i : Int) < (t.rs.length : Int) := by omega
      have e13 : (i : Int) + 1 ≤ 100000 := by have := HL.out; omega
      obtain ⟨b, ha, hb, hc⟩ : ∃ b, a = some ⟨b, 0, none⟩ ∧ b < wr.heap.size ∧ _ := by
        rcases (RZ.out.on B2) with h | h
        · omega
        · exact h
      subst ha
      obtain ⟨c0, c1, c2, c3, c4, c5, c6, c7, c8, c9, c10⟩ := hc i hlt
      obtain ⟨r, hr'⟩ : ∃ r, r = t.rs.getD i Ru.zero := ⟨_, rfl⟩
      rw [← hr'] at c0 c1 c2 c3 c4 c5 c6 c7 c8 c9 c10
      have HR' := Lib.hid hr'
      have c := fun (u : World) (T : Box4 u p (.int .u32 (t.own : Int)) (.int .u32 (t.ip : Int)) (.int .i64 t.bits) (.slice (some ⟨b, 0, none⟩) t.rs.length cap)) => cc u r T
      clear hr' hc hi hlt cc cm
      obtain ⟨z, hz⟩ : ∃ z, clashRu t r x = z := ⟨_, rfl⟩
      rw [hz] at c
      have HZ2 := Lib.hid hz
      clear hz
      have TQ := Lib.hid T2
      cases z with
      | true =>
        have bR := hb
        have CF : ∀ y : Later wr.heap.size wr, y.u.cell? ⟨b, i * 11, none⟩ = some (.int .i64 r.k) ∧ y.u.cell? ⟨b, i * 11 + 1, none⟩ = some (.int .u8 r.pr) ∧ y.u.cell? ⟨b, i * 11 + 2, none⟩ = some (.int .u32 (r.si : Int)) ∧ y.u.cell? ⟨b, i * 11 + 3, none⟩ = some (.int .i64 r.sb) ∧ y.u.cell? ⟨b, i * 11 + 4, none⟩ = some (.int .u32 (r.di : Int)) ∧ y.u.cell? ⟨b, i * 11 + 5, none⟩ = some (.int .i64 r.db) ∧ y.u.cell? ⟨b, i * 11 + 6, none⟩ = some (.int .u32 (r.ex : Int)) ∧ y.u.cell? ⟨b, i * 11 + 7, none⟩ = some (.int .u16 r.fr) ∧ y.u.cell? ⟨b, i * 11 + 8, none⟩ = some (.int .u16 r.to) ∧ y.u.cell? ⟨b, i * 11 + 9, none⟩ = some (.int .u32 (r.ii : Int)) ∧ y.u.cell? ⟨b, i * 11 + 10, none⟩ = some (.int .u16 r.ip) := fun y => ⟨y.block hb c0, y.block hb c1, y.block hb c2, y.block hb c3, y.block hb c4, y.block hb c5, y.block hb c6, y.block hb c7, y.block hb c8, y.block hb c9, y.block hb c10⟩
        clear c0 c1 c2 c3 c4 c5 c6 c7 c8 c9 c10
        have D0 : ∀ y : Later wr.heap.size wr, y.u.cell? ⟨b, i * 11, none⟩ = some (.int .i64 r.k) := fun y => (CF y).1
        have D1 : ∀ y : Later wr.heap.size wr, y.u.cell? ⟨b, i * 11 + 1, none⟩ = some (.int .u8 r.pr) := fun y => (CF y).2.1
        have D2 : ∀ y : Later wr.heap.size wr, y.u.cell? ⟨b, i * 11 + 2, none⟩ = some (.int .u32 (r.si : Int)) := fun y => (CF y).2.2.1
        have D3 : ∀ y : Later wr.heap.size wr, y.u.cell? ⟨b, i * 11 + 3, none⟩ = some (.int .i64 r.sb) := fun y => (CF y).2.2.2.1
        have D4 : ∀ y : Later wr.heap.size wr, y.u.cell? ⟨b, i * 11 + 4, none⟩ = some (.int .u32 (r.di : Int)) := fun y => (CF y).2.2.2.2.1
        have D5 : ∀ y : Later wr.heap.size wr, y.u.cell? ⟨b, i * 11 + 5, none⟩ = some (.int .i64 r.db) := fun y => (CF y).2.2.2.2.2.1
        have D6 : ∀ y : Later wr.heap.size wr, y.u.cell? ⟨b, i * 11 + 6, none⟩ = some (.int .u32 (r.ex : Int)) := fun y => (CF y).2.2.2.2.2.2.1
        have D7 : ∀ y : Later wr.heap.size wr, y.u.cell? ⟨b, i * 11 + 7, none⟩ = some (.int .u16 r.fr) := fun y => (CF y).2.2.2.2.2.2.2.1
        have D8 : ∀ y : Later wr.heap.size wr, y.u.cell? ⟨b, i * 11 + 8, none⟩ = some (.int .u16 r.to) := fun y => (CF y).2.2.2.2.2.2.2.2.1
        have D9 : ∀ y : Later wr.heap.size wr, y.u.cell? ⟨b, i * 11 + 9, none⟩ = some (.int .u32 (r.ii : Int)) := fun y => (CF y).2.2.2.2.2.2.2.2.2.1
        have D10 : ∀ y : Later wr.heap.size wr, y.u.cell? ⟨b, i * 11 + 10, none⟩ = some (.int .u16 r.ip) := fun y => (CF y).2.2.2.2.2.2.2.2.2.2
        clear CF
        obtain ⟨_, t1_0, t1_1, t1_2, t1_3⟩ := id T2
        go_upto_region 8 with fail
        clear t1_0 t1_1 t1_2 t1_3
        obtain ⟨zt, gt0, gt1, gt2, gt3⟩ := id T2
        have Ft3 : ∀ q_ : Later wr.heap.size wr, q_.u.cell? ⟨p, 3, none⟩ = some (.slice (some ⟨b, 0, none⟩) t.rs.length cap) := fun q_ => q_.block zt gt3
        clear gt0 gt1 gt2 gt3
        obtain ⟨zx, gx0, gx1, gx2, gx3, gx4, gx5, gx6, gx7, gx8, gx9, gx10⟩ := id X2
        have Fx0 : ∀ q_ : Later wr.heap.size wr, q_.u.cell? ⟨w.heap.size, 0, none⟩ = some (.int .i64 x.k) := fun q_ => q_.block zx gx0
        have Fx1 : ∀ q_ : Later wr.heap.size wr, q_.u.cell? ⟨w.heap.size, 1, none⟩ = some (.int .u8 x.pr) := fun q_ => q_.block zx gx1
        have Fx2 : ∀ q_ : Later wr.heap.size wr, q_.u.cell? ⟨w.heap.size, 2, none⟩ = some (.int .u32 (x.si : Int)) := fun q_ => q_.block zx gx2
        have Fx3 : ∀ q_ : Later wr.heap.size wr, q_.u.cell? ⟨w.heap.size, 3, none⟩ = some (.int .i64 x.sb) := fun q_ => q_.block zx gx3
        have Fx4 : ∀ q_ : Later wr.heap.size wr, q_.u.cell? ⟨w.heap.size, 4, none⟩ = some (.int .u32 (x.di : Int)) := fun q_ => q_.block zx gx4
        have Fx5 : ∀ q_ : Later wr.heap.size wr, q_.u.cell? ⟨w.heap.size, 5, none⟩ = some (.int .i64 x.db) := fun q_ => q_.block zx gx5
        have Fx6 : ∀ q_ : Later wr.heap.size wr, q_.u.cell? ⟨w.heap.size, 6, none⟩ = some (.int .u32 (x.ex : Int)) := fun q_ => q_.block zx gx6
        have Fx7 : ∀ q_ : Later wr.heap.size wr, q_.u.cell? ⟨w.heap.size, 7, none⟩ = some (.int .u16 x.fr) := fun q_ => q_.block zx gx7
        have Fx8 : ∀ q_ : Later wr.heap.size wr, q_.u.cell? ⟨w.heap.size, 8, none⟩ = some (.int .u16 x.to) := fun q_ => q_.block zx gx8
        have Fx9 : ∀ q_ : Later wr.heap.size wr, q_.u.cell? ⟨w.heap.size, 9, none⟩ = some (.int .u32 (x.ii : Int)) := fun q_ => q_.block zx gx9
        have Fx10 : ∀ q_ : Later wr.heap.size wr, q_.u.cell? ⟨w.heap.size, 10, none⟩ = some (.int .u16 x.ip) := fun q_ => q_.block zx gx10
        clear gx0 gx1 gx2 gx3 gx4 gx5 gx6 gx7 gx8 gx9 gx10
        refine region_later (B := wr.heap.size) (by kernel_rfl) (by kernel_rfl) ?_
        repeat (go_big_quiet_step (first
          | (go_at_call 45; exact later_of _ (Nat.le_refl _) (c _ (TQ.out.on (Later.h _))))))
        refine later_end fun w61 x61 => ?_
        have T_501 := T2.on x61
        have X_502 := X2.on x61
        have B503 := B2.trans (x61.mono B2.size)
        clear Ft3 zt Fx0 Fx1 Fx2 Fx3 Fx4 Fx5 Fx6 Fx7 Fx8 Fx9 Fx10 zx T2 X2 B2 x61
        clear D0 D1 D2 D3 D4 D5 D6 D7 D8 D9 D10
        have HV : Hid (ruAddE t (k : Int) x = 11 ∧ ruAddT t (k : Int) x = t) := by
          have hany : t.rs.any (fun o => clashRu t o x) = true := any_hit (f := fun o => clashRu t o x) HI.out HR'.out HZ2.out
          have e : ruAddE t (k : Int) x = 11 := by unfold ruAddE; rw [if_neg HG.out.1, if_neg HG.out.2, if_pos hany]
          exact ⟨e, by unfold ruAddT; rw [if_neg (by rw [e]; omega)]⟩
        go_wp2
        go_ret
        rw [HV.out.1, HV.out.2]
        exact ⟨rfl, _, HZ.out.on B503, Beside.of B503, .inl rfl⟩
      | false =>
        have bR := hb
        have CF : ∀ y : Later wr.heap.size wr, y.u.cell? ⟨b, i * 11, none⟩ = some (.int .i64 r.k) ∧ y.u.cell? ⟨b, i * 11 + 1, none⟩ = some (.int .u8 r.pr) ∧ y.u.cell? ⟨b, i * 11 + 2, none⟩ = some (.int .u32 (r.si : Int)) ∧ y.u.cell? ⟨b, i * 11 + 3, none⟩ = some (.int .i64 r.sb) ∧ y.u.cell? ⟨b, i * 11 + 4, none⟩ = some (.int .u32 (r.di : Int)) ∧ y.u.cell? ⟨b, i * 11 + 5, none⟩ = some (.int .i64 r.db) ∧ y.u.cell? ⟨b, i * 11 + 6, none⟩ = some (.int .u32 (r.ex : Int)) ∧ y.u.cell? ⟨b, i * 11 + 7, none⟩ = some (.int .u16 r.fr) ∧ y.u.cell? ⟨b, i * 11 + 8, none⟩ = some (.int .u16 r.to) ∧ y.u.cell? ⟨b, i * 11 + 9, none⟩ = some (.int .u32 (r.ii : Int)) ∧ y.u.cell? ⟨b, i * 11 + 10, none⟩ = some (.int .u16 r.ip) := fun y => ⟨y.block hb c0, y.block hb c1, y.block hb c2, y.block hb c3, y.block hb c4, y.block hb c5, y.block hb c6, y.block hb c7, y.block hb c8, y.block hb c9, y.block hb c10⟩
        clear c0 c1 c2 c3 c4 c5 c6 c7 c8 c9 c10
        have D0 : ∀ y : Later wr.heap.size wr, y.u.cell? ⟨b, i * 11, none⟩ = some (.int .i64 r.k) := fun y => (CF y).1
        have D1 : ∀ y : Later wr.heap.size wr, y.u.cell? ⟨b, i * 11 + 1, none⟩ = some (.int .u8 r.pr) := fun y => (CF y).2.1
        have D2 : ∀ y : Later wr.heap.size wr, y.u.cell? ⟨b, i * 11 + 2, none⟩ = some (.int .u32 (r.si : Int)) := fun y => (CF y).2.2.1
        have D3 : ∀ y : Later wr.heap.size wr, y.u.cell? ⟨b, i * 11 + 3, none⟩ = some (.int .i64 r.sb) := fun y => (CF y).2.2.2.1
        have D4 : ∀ y : Later wr.heap.size wr, y.u.cell? ⟨b, i * 11 + 4, none⟩ = some (.int .u32 (r.di : Int)) := fun y => (CF y).2.2.2.2.1
        have D5 : ∀ y : Later wr.heap.size wr, y.u.cell? ⟨b, i * 11 + 5, none⟩ = some (.int .i64 r.db) := fun y => (CF y).2.2.2.2.2.1
        have D6 : ∀ y : Later wr.heap.size wr, y.u.cell? ⟨b, i * 11 + 6, none⟩ = some (.int .u32 (r.ex : Int)) := fun y => (CF y).2.2.2.2.2.2.1
        have D7 : ∀ y : Later wr.heap.size wr, y.u.cell? ⟨b, i * 11 + 7, none⟩ = some (.int .u16 r.fr) := fun y => (CF y).2.2.2.2.2.2.2.1
        have D8 : ∀ y : Later wr.heap.size wr, y.u.cell? ⟨b, i * 11 + 8, none⟩ = some (.int .u16 r.to) := fun y => (CF y).2.2.2.2.2.2.2.2.1
        have D9 : ∀ y : Later wr.heap.size wr, y.u.cell? ⟨b, i * 11 + 9, none⟩ = some (.int .u32 (r.ii : Int)) := fun y => (CF y).2.2.2.2.2.2.2.2.2.1
        have D10 : ∀ y : Later wr.heap.size wr, y.u.cell? ⟨b, i * 11 + 10, none⟩ = some (.int .u16 r.ip) := fun y => (CF y).2.2.2.2.2.2.2.2.2.2
        clear CF
        obtain ⟨_, t1_0, t1_1, t1_2, t1_3⟩ := id T2
        go_upto_region 8 with fail
        clear t1_0 t1_1 t1_2 t1_3
        obtain ⟨zt, gt0, gt1, gt2, gt3⟩ := id T2
        have Ft3 : ∀ q_ : Later wr.heap.size wr, q_.u.cell? ⟨p, 3, none⟩ = some (.slice (some ⟨b, 0, none⟩) t.rs.length cap) := fun q_ => q_.block zt gt3
        clear gt0 gt1 gt2 gt3
        obtain ⟨zx, gx0, gx1, gx2, gx3, gx4, gx5, gx6, gx7, gx8, gx9, gx10⟩ := id X2
        have Fx0 : ∀ q_ : Later wr.heap.size wr, q_.u.cell? ⟨w.heap.size, 0, none⟩ = some (.int .i64 x.k) := fun q_ => q_.block zx gx0
        have Fx1 : ∀ q_ : Later wr.heap.size wr, q_.u.cell? ⟨w.heap.size, 1, none⟩ = some (.int .u8 x.pr) := fun q_ => q_.block zx gx1
        have Fx2 : ∀ q_ : Later wr.heap.size wr, q_.u.cell? ⟨w.heap.size, 2, none⟩ = some (.int .u32 (x.si : Int)) := fun q_ => q_.block zx gx2
        have Fx3 : ∀ q_ : Later wr.heap.size wr, q_.u.cell? ⟨w.heap.size, 3, none⟩ = some (.int .i64 x.sb) := fun q_ => q_.block zx gx3
        have Fx4 : ∀ q_ : Later wr.heap.size wr, q_.u.cell? ⟨w.heap.size, 4, none⟩ = some (.int .u32 (x.di : Int)) := fun q_ => q_.block zx gx4
        have Fx5 : ∀ q_ : Later wr.heap.size wr, q_.u.cell? ⟨w.heap.size, 5, none⟩ = some (.int .i64 x.db) := fun q_ => q_.block zx gx5
        have Fx6 : ∀ q_ : Later wr.heap.size wr, q_.u.cell? ⟨w.heap.size, 6, none⟩ = some (.int .u32 (x.ex : Int)) := fun q_ => q_.block zx gx6
        have Fx7 : ∀ q_ : Later wr.heap.size wr, q_.u.cell? ⟨w.heap.size, 7, none⟩ = some (.int .u16 x.fr) := fun q_ => q_.block zx gx7
        have Fx8 : ∀ q_ : Later wr.heap.size wr, q_.u.cell? ⟨w.heap.size, 8, none⟩ = some (.int .u16 x.to) := fun q_ => q_.block zx gx8
        have Fx9 : ∀ q_ : Later wr.heap.size wr, q_.u.cell? ⟨w.heap.size, 9, none⟩ = some (.int .u32 (x.ii : Int)) := fun q_ => q_.block zx gx9
        have Fx10 : ∀ q_ : Later wr.heap.size wr, q_.u.cell? ⟨w.heap.size, 10, none⟩ = some (.int .u16 x.ip) := fun q_ => q_.block zx gx10
        clear gx0 gx1 gx2 gx3 gx4 gx5 gx6 gx7 gx8 gx9 gx10
        refine region_later (B := wr.heap.size) (by kernel_rfl) (by kernel_rfl) ?_
        repeat (go_big_quiet_step (first
          | (go_at_call 45; exact later_of _ (Nat.le_refl _) (c _ (TQ.out.on (Later.h _))))))
        refine later_end fun w61 x61 => ?_
        have BN := bb.trans (x61.mono bb.size)
        have T_501 := T2.on x61
        have X_502 := X2.on x61
        have B503 := B2.trans (x61.mono B2.size)
        clear Ft3 zt Fx0 Fx1 Fx2 Fx3 Fx4 Fx5 Fx6 Fx7 Fx8 Fx9 Fx10 zx T2 X2 B2 x61
        clear D0 D1 D2 D3 D4 D5 D6 D7 D8 D9 D10
        go_wp2_with fail
        go_roundw
        case rel =>
          refine ⟨i + 1, HI.out, by go_num, BN, fun j hj => ?_⟩
          by_cases e : j = i
          · rw [e, ← HR'.out]; exact HZ2.out
          · exact HF.out j (by omega)
        case measure => have := HI.out; simp [intOf]; omega
    · have e10 : decide ((i : Int) < (t.rs.length : Int)) = false := by simp; omega
      have e11 : decide (i < t.rs.length) = false := by simp; omega
      have HV : Hid (ruAddE t (k : Int) x = 0 ∧ ruAddT t (k : Int) x = { t with rs := t.rs.take k ++ x :: t.rs.drop k }) := by
        have hany : t.rs.any (fun o => clashRu t o x) = false := any_none (i := i) (by omega) HF.out
        have e : ruAddE t (k : Int) x = 0 := by unfold ruAddE; rw [if_neg HG.out.1, if_neg HG.out.2, if_neg (by rw [hany]; decide)]
        exact ⟨e, by unfold ruAddT; rw [if_pos e, Int.toNat_natCast]⟩
      have R2 := HR.out.on B2
      have F2 : ∀ j, wr.frozen? ⟨p, j, none⟩ = false := fun j => (B2.frozen (p := ⟨p, j, none⟩) HZ.out.box.1).trans (HZ.out.fz j)
      have zp : p < wr.heap.size := T2.1
      have e12 : (k : Int) ≤ (t.rs.length : Int) := by omega
      have q1 : Hid (([] : List Ru).length + (t.rs.take k).length ≤ 2000) := by show _ ≤ _; simp; omega
      have q2 : Hid ((t.rs.take k).length + [x].length ≤ 2000) := by show _ ≤ _; simp; omega
      have q3 : Hid ((t.rs.take k ++ [x]).length + (t.rs.drop k).length ≤ 2000) := by show _ ≤ _; simp; omega
      clear hlt hi HF cc cm e10
      have HP := Lib.hid (And.intro T2 (And.intro X2 (And.intro B2 (And.intro F2 (And.intro R2 (And.intro zp e12))))))
      obtain ⟨_, t0, t1, t2, t3⟩ := id T2
      go_upto_region 10 with fail
      rcases R2.kinds with ⟨e0, e1⟩ | ⟨g, c, e0⟩
      · simp only [Value.slice.injEq] at e0
        obtain ⟨rfl, hn0, rfl⟩ := e0
        have k0 : k = 0 := by omega
        rw [hn0] at t3 T2
        have HV : Hid (ruAddE t 0 x = 0 ∧ ruAddT t 0 x = { t with rs := t.rs.take k ++ x :: t.rs.drop k }) := by
          have h := HV.out
          have e : ((k : Nat) : Int) = 0 := by omega
          rw [e] at h
          exact h
        have S1 : SrcR wr (.slice none 0 0) (t.rs.take k) := .inl ⟨rfl, by rw [e1]; simp⟩
        have S2 : SrcR wr (.slice none 0 0) (t.rs.drop k) := .inl ⟨rfl, by rw [e1]; simp⟩
        have bC0A := (Below.refl wr.heap.size wr).drew
        have z1 := Beside.src (S := fun _ => False) S1 (Beside.of bC0A) (fun _ _ h => h)
        have z2 : RowC wr.drew wr.heap.size (.slice none 0 0) [] := World.ownsRow_nil _ _ _ _
        obtain ⟨v1A, w71A, hr1A, r1, g1⟩ := append_rules (ty := 50) z2 z1 q1.out bC0A.size
        have bC1A := Below.row bC0A z2 g1
        clear z1 z2 g1
        have bC2A : Below wr.heap.size wr (w71A.alloc (.cells #[.int .i64 x.k, .int .u8 x.pr, .int .u32 (x.si : Int), .int .i64 x.sb, .int .u32 (x.di : Int), .int .i64 x.db, .int .u32 (x.ex : Int), .int .u16 x.fr, .int .u16 x.to, .int .u32 (x.ii : Int), .int .u16 x.ip] 42)) := bC1A.alloc bC1A.size _
        have sX : SrcR (w71A.alloc (.cells #[.int .i64 x.k, .int .u8 x.pr, .int .u32 (x.si : Int), .int .i64 x.sb, .int .u32 (x.di : Int), .int .i64 x.db, .int .u32 (x.ex : Int), .int .u16 x.fr, .int .u16 x.to, .int .u32 (x.ii : Int), .int .u16 x.ip] 42)) (.slice (some ⟨w71A.heap.size, 0, none⟩) 1 1) [x] := SrcR.box (heap_alloc_new w71A _)
        have r1 : RowC (w71A.alloc (.cells #[.int .i64 x.k, .int .u8 x.pr, .int .u32 (x.si : Int), .int .i64 x.sb, .int .u32 (x.di : Int), .int .i64 x.db, .int .u32 (x.ex : Int), .int .u16 x.fr, .int .u16 x.to, .int .u32 (x.ii : Int), .int .u16 x.ip] 42)) wr.heap.size v1A (t.rs.take k) := World.ownsRow.alloc r1 _
        obtain ⟨v3A, w73A, hr3A, r3, g3⟩ := append_rules (ty := 50) r1 sX q2.out bC2A.size
        have bC3A := Below.row bC2A r1 g3
        clear r1 sX g3
        have z4 := Beside.src (S := fun _ => False) S2 (Beside.of bC3A) (fun _ _ h => h)
        obtain ⟨v4, w74A, hr4A, r4, g4⟩ := append_rules (ty := 50) r3 z4 q3.out bC3A.size
        have bC4A := Below.row bC3A r3 g4
        clear r3 z4 g4
        obtain ⟨a4A, c4A, hv4⟩ := r4.slice
        subst hv4
        have e4 : t.rs.take k ++ [x] ++ t.rs.drop k = t.rs.take k ++ x :: t.rs.drop k := by simp
        rw [e4] at r4 hr4A
        generalize hN4 : (t.rs.take k ++ x :: t.rs.drop k).length = N4A at r4 hr4A
        clear hN4 e4
        have T4 := T2.on bC4A
        have F4 : ∀ j, w74A.frozen? ⟨p, j, none⟩ = false := fun j => (bC4A.frozen (p := ⟨p, j, none⟩) T2.1).trans (HP.out.2.2.2.1 j)
        have KKA := Lib.hid (And.intro T4 (And.intro F4 (And.intro r4 (HP.out.2.2.1.trans (bC4A.mono HP.out.2.2.1.size)))))
        clear T4 r4 F4
        have H1A := Lib.hid hr1A
        have H3A := Lib.hid hr3A
        have H4A := Lib.hid hr4A
        clear hr1A hr3A hr4A
        have P1A := Lib.hid (And.intro (T2.on bC1A).2.2.2.2 (X2.on bC1A).2)
        clear bC1A
        have P2A := Lib.hid (And.intro (T2.on bC2A).2.2.2.2 (X2.on bC2A).2)
        clear bC2A
        have P3A := Lib.hid (And.intro (T2.on bC3A).2.2.2.2 (X2.on bC3A).2)
        clear bC3A
        have P4A := Lib.hid (And.intro (T2.on bC4A).2.2.2.2 (X2.on bC4A).2)
        clear bC4A
        have bC0B := (Below.refl wr.heap.size wr).drew
        have bC2B : Below wr.heap.size wr (wr.alloc (.cells #[.int .i64 x.k, .int .u8 x.pr, .int .u32 (x.si : Int), .int .i64 x.sb, .int .u32 (x.di : Int), .int .i64 x.db, .int .u32 (x.ex : Int), .int .u16 x.fr, .int .u16 x.to, .int .u32 (x.ii : Int), .int .u16 x.ip] 42)).drew := ((Below.refl wr.heap.size wr).alloc (Nat.le_refl _) _).drew
        have sX : SrcR (wr.alloc (.cells #[.int .i64 x.k, .int .u8 x.pr, .int .u32 (x.si : Int), .int .i64 x.sb, .int .u32 (x.di : Int), .int .i64 x.db, .int .u32 (x.ex : Int), .int .u16 x.fr, .int .u16 x.to, .int .u32 (x.ii : Int), .int .u16 x.ip] 42)).drew (.slice (some ⟨wr.heap.size, 0, none⟩) 1 1) [x] := SrcR.box (heap_alloc_new wr _)
        have z1 := Beside.src (S := fun _ => False) S1 (Beside.of bC2B) (fun _ _ h => h)
        have z2 : RowC (wr.alloc (.cells #[.int .i64 x.k, .int .u8 x.pr, .int .u32 (x.si : Int), .int .i64 x.sb, .int .u32 (x.di : Int), .int .i64 x.db, .int .u32 (x.ex : Int), .int .u16 x.fr, .int .u16 x.to, .int .u32 (x.ii : Int), .int .u16 x.ip] 42)).drew wr.heap.size (.slice none 0 0) [] := World.ownsRow_nil _ _ _ _
        obtain ⟨v1B, w71B, hr1B, r1, g1⟩ := append_rules (ty := 50) z2 z1 q1.out bC2B.size
        have bC1B := Below.row bC2B z2 g1
        have r1 : RowC w71B wr.heap.size v1B (t.rs.take k) := r1
        have sX := Beside.src (S := fun _ => False) sX (Beside.of ⟨g1.os, g1.tape, g1.output, g1.size, fun k hk => g1.block k hk (by simp [Value.ownBlock])⟩) (fun _ _ h => h)
        clear z1 z2 g1
        obtain ⟨v3B, w73B, hr3B, r3, g3⟩ := append_rules (ty := 50) r1 sX q2.out bC1B.size
        have bC3B := Below.row bC1B r1 g3
        clear r1 sX g3
        have z4 := Beside.src (S := fun _ => False) S2 (Beside.of bC3B) (fun _ _ h => h)
        obtain ⟨v4, w74B, hr4B, r4, g4⟩ := append_rules (ty := 50) r3 z4 q3.out bC3B.size
        have bC4B := Below.row bC3B r3 g4
        clear r3 z4 g4
        obtain ⟨a4B, c4B, hv4⟩ := r4.slice
        subst hv4
        have e4 : t.rs.take k ++ [x] ++ t.rs.drop k = t.rs.take k ++ x :: t.rs.drop k := by simp
        rw [e4] at r4 hr4B
        generalize hN4 : (t.rs.take k ++ x :: t.rs.drop k).length = N4B at r4 hr4B
        clear hN4 e4
        have T4 := T2.on bC4B
        have F4 : ∀ j, w74B.frozen? ⟨p, j, none⟩ = false := fun j => (bC4B.frozen (p := ⟨p, j, none⟩) T2.1).trans (HP.out.2.2.2.1 j)
        have KKB := Lib.hid (And.intro T4 (And.intro F4 (And.intro r4 (HP.out.2.2.1.trans (bC4B.mono HP.out.2.2.1.size)))))
        clear T4 r4 F4
        have H1B := Lib.hid hr1B
        have H3B := Lib.hid hr3B
        have H4B := Lib.hid hr4B
        clear hr1B hr3B hr4B
        have P1B := Lib.hid (And.intro (T2.on bC1B).2.2.2.2 (X2.on bC1B).2)
        clear bC1B
        have P2B := Lib.hid (And.intro (T2.on bC2B).2.2.2.2 (X2.on bC2B).2)
        clear bC2B
        have P3B := Lib.hid (And.intro (T2.on bC3B).2.2.2.2 (X2.on bC3B).2)
        clear bC3B
        have P4B := Lib.hid (And.intro (T2.on bC4B).2.2.2.2 (X2.on bC4B).2)
        clear bC4B
        have FIN : ∀ (W : World) (a4 : Option Addr) (N4 c4 : Nat), Hid (Box4 W p (.int .u32 (t.own : Int)) (.int .u32 (t.ip : Int)) (.int .i64 t.bits) (.slice none 0 0) ∧ (∀ j, W.frozen? ⟨p, j, none⟩ = false) ∧ RowC W wr.heap.size (.slice a4 N4 c4) (t.rs.take k ++ x :: t.rs.drop k) ∧ Below w.heap.size w W) → (Ending.returned (Value.int .i64 0) = Ending.returned (Value.int .i64 0) ∧ ∃ v', TabD (W.setCell ⟨p, 3, none⟩ (.slice a4 N4 c4)) B p v' { t with rs := t.rs.take k ++ x :: t.rs.drop k } ∧ Beside (fun k => k = p) w (W.setCell ⟨p, 3, none⟩ (.slice a4 N4 c4)) ∧ (v'.ownBlock = Value.ownBlock (.slice none 0 0) ∨ ∀ g, v'.ownBlock = some g → w.heap.size ≤ g)) := by
          intro W a4 N4 c4 h
          obtain ⟨T4, F4, r4, b4⟩ := h.out
          have lo : ∀ g, Value.ownBlock (.slice a4 N4 c4) = some g → wr.heap.size ≤ g := fun g h => (r4.lt g h).1
          have hwr := HP.out.2.2.1.size
          exact ⟨rfl, _, TabD.stored (t := t) T4 F4 HZ.out.low (r4.low (Nat.le_trans hB hwr)) (fun e => by have := lo p e; have := HP.out.1.1; omega) rfl rfl rfl, Beside.setCell (S := fun k => k = p) (Beside.of b4) (p := ⟨p, 3, none⟩) rfl _, .inr fun g h => Nat.le_trans hwr (lo g h)⟩
        clear S1 S2
        refine region_till 20 (fun w' => w'.cell? ⟨p, 3, none⟩ = some (.slice none 0 0) ∧ w'.cell? ⟨w.heap.size, 0, none⟩ = some (.int .i64 x.k) ∧ w'.cell? ⟨w.heap.size, 1, none⟩ = some (.int .u8 x.pr) ∧ w'.cell? ⟨w.heap.size, 2, none⟩ = some (.int .u32 (x.si : Int)) ∧ w'.cell? ⟨w.heap.size, 3, none⟩ = some (.int .i64 x.sb) ∧ w'.cell? ⟨w.heap.size, 4, none⟩ = some (.int .u32 (x.di : Int)) ∧ w'.cell? ⟨w.heap.size, 5, none⟩ = some (.int .i64 x.db) ∧ w'.cell? ⟨w.heap.size, 6, none⟩ = some (.int .u32 (x.ex : Int)) ∧ w'.cell? ⟨w.heap.size, 7, none⟩ = some (.int .u16 x.fr) ∧ w'.cell? ⟨w.heap.size, 8, none⟩ = some (.int .u16 x.to) ∧ w'.cell? ⟨w.heap.size, 9, none⟩ = some (.int .u32 (x.ii : Int)) ∧ w'.cell? ⟨w.heap.size, 10, none⟩ = some (.int .u16 x.ip)) (by kernel_rfl) ?_ (fun hHeld => ?_)
        · exact ⟨t3, X2.2⟩
        refine till_take (i := 0) (oi := _) (v := ?_) rfl (by kernel_rfl) (by kernel_rfl) (by kernel_rfl) (by kernel_rfl) (by rfl) (fun _ _ _ h => h) (Or.inl ⟨by rfl, ?_⟩) (by assumption) ?_
        rotate_left
        · intro w hSw
          (try dsimp only at hSw)
          go_simp
          with_reducible rfl
        try simp only [Act.put, List.setIfInBounds_toArray, List.set_cons_zero, List.set_cons_succ]
        refine till_take (i := 1) (oi := _) (v := ?_) rfl (by kernel_rfl) (by kernel_rfl) (by kernel_rfl) (by kernel_rfl) (by rfl) (fun _ _ _ h => h) (Or.inl ⟨by rfl, ?_⟩) (by assumption) ?_
        rotate_left
        · intro w hSw
          (try dsimp only at hSw)
          go_simp
          with_reducible rfl
        try simp only [Act.put, List.setIfInBounds_toArray, List.set_cons_zero, List.set_cons_succ]
        refine till_take (i := 2) (oi := _) (v := ?_) rfl (by kernel_rfl) (by kernel_rfl) (by kernel_rfl) (by kernel_rfl) (by rfl) (fun _ _ _ h => h) (Or.inl ⟨by rfl, ?_⟩) (by assumption) ?_
        rotate_left
        · intro w hSw
          (try dsimp only at hSw)
          go_simp
          with_reducible rfl
        try simp only [Act.put, List.setIfInBounds_toArray, List.set_cons_zero, List.set_cons_succ]
        refine till_take (i := 3) (oi := _) (v := ?_) rfl (by kernel_rfl) (by kernel_rfl) (by kernel_rfl) (by kernel_rfl) (by rfl) (fun _ _ _ h => h) (Or.inl ⟨by rfl, ?_⟩) (by assumption) ?_
        rotate_left
        · intro w hSw
          (try dsimp only at hSw)
          go_simp
          with_reducible rfl
        try simp only [Act.put, List.setIfInBounds_toArray, List.set_cons_zero, List.set_cons_succ]
        refine till_take (i := 4) (oi := _) (v := ?_) rfl (by kernel_rfl) (by kernel_rfl) (by kernel_rfl) (by kernel_rfl) (by rfl) (fun _ _ _ h => h) (Or.inl ⟨by rfl, ?_⟩) (by assumption) ?_
        rotate_left
        · intro w hSw
          (try dsimp only at hSw)
          obtain ⟨q0, q1, q2, q3, q4, q5, q6, q7, q8, q9, q10, q11⟩ := hSw
          go_simp
          with_reducible rfl
        try simp only [Act.put, List.setIfInBounds_toArray, List.set_cons_zero, List.set_cons_succ]
        refine till_take (i := 5) (oi := _) (v := ?_) rfl (by kernel_rfl) (by kernel_rfl) (by kernel_rfl) (by kernel_rfl) (by rfl) (fun _ _ _ h => h) (Or.inl ⟨by rfl, ?_⟩) (by assumption) ?_
        rotate_left
        · intro w hSw
          (try dsimp only at hSw)
          go_simp
          with_reducible rfl
        try simp only [Act.put, List.setIfInBounds_toArray, List.set_cons_zero, List.set_cons_succ]
        refine till_take (i := 6) (oi := _) (v := ?_) rfl (by kernel_rfl) (by kernel_rfl) (by kernel_rfl) (by kernel_rfl) (by rfl) (fun _ _ _ h => h) (Or.inl ⟨by rfl, ?_⟩) (by assumption) ?_
        rotate_left
        · intro w hSw
          (try dsimp only at hSw)
          go_simp
          with_reducible rfl
        try simp only [Act.put, List.setIfInBounds_toArray, List.set_cons_zero, List.set_cons_succ]
        refine till_take (i := 8) (oi := _) (v := ?_) rfl (by kernel_rfl) (by kernel_rfl) (by kernel_rfl) (by kernel_rfl) (by rfl) (fun _ _ _ h => h) (Or.inl ⟨by rfl, ?_⟩) (by assumption) ?_
        rotate_left
        · intro w hSw
          (try dsimp only at hSw)
          obtain ⟨q0, q1, q2, q3, q4, q5, q6, q7, q8, q9, q10, q11⟩ := hSw
          go_simp
          with_reducible rfl
        try simp only [Act.put, List.setIfInBounds_toArray, List.set_cons_zero, List.set_cons_succ]
        refine till_take (i := 11) (oi := _) (v := ?_) rfl (by kernel_rfl) (by kernel_rfl) (by kernel_rfl) (by kernel_rfl) (by rfl) (fun _ _ _ h => h) (Or.inl ⟨by rfl, ?_⟩) (by assumption) ?_
        rotate_left
        · intro w hSw
          (try dsimp only at hSw)
          go_simp
          with_reducible rfl
        try simp only [Act.put, List.setIfInBounds_toArray, List.set_cons_zero, List.set_cons_succ]
        refine till_take (i := 12) (oi := _) (v := ?_) rfl (by kernel_rfl) (by kernel_rfl) (by kernel_rfl) (by kernel_rfl) (by rfl) (fun _ _ _ h => h) (Or.inl ⟨by rfl, ?_⟩) (by assumption) ?_
        rotate_left
        · intro w hSw
          (try dsimp only at hSw)
          go_simp
          with_reducible rfl
        try simp only [Act.put, List.setIfInBounds_toArray, List.set_cons_zero, List.set_cons_succ]
        refine till_take (i := 13) (oi := _) (v := ?_) rfl (by kernel_rfl) (by kernel_rfl) (by kernel_rfl) (by kernel_rfl) (by rfl) (fun _ _ _ h => h) (Or.inl ⟨by rfl, ?_⟩) (by assumption) ?_
        rotate_left
        · intro w hSw
          (try dsimp only at hSw)
          go_simp
          with_reducible rfl
        try simp only [Act.put, List.setIfInBounds_toArray, List.set_cons_zero, List.set_cons_succ]
        refine till_take (i := 14) (oi := _) (v := ?_) rfl (by kernel_rfl) (by kernel_rfl) (by kernel_rfl) (by kernel_rfl) (by rfl) (fun _ _ _ h => h) (Or.inl ⟨by rfl, ?_⟩) (by assumption) ?_
        rotate_left
        · intro w hSw
          (try dsimp only at hSw)
          obtain ⟨q0, q1, q2, q3, q4, q5, q6, q7, q8, q9, q10, q11⟩ := hSw
          go_simp
          with_reducible rfl
        try simp only [Act.put, List.setIfInBounds_toArray, List.set_cons_zero, List.set_cons_succ]
        refine till_take (i := 15) (oi := _) (v := ?_) rfl (by kernel_rfl) (by kernel_rfl) (by kernel_rfl) (by kernel_rfl) (by rfl) (fun _ _ _ h => h) (Or.inl ⟨by rfl, ?_⟩) (by assumption) ?_
        rotate_left
        · intro w hSw
          (try dsimp only at hSw)
          go_simp
          with_reducible rfl
        try simp only [Act.put, List.setIfInBounds_toArray, List.set_cons_zero, List.set_cons_succ]
        refine till_take (i := 16) (oi := _) (v := ?_) rfl (by kernel_rfl) (by kernel_rfl) (by kernel_rfl) (by kernel_rfl) (by rfl) (fun _ _ _ h => h) (Or.inl ⟨by rfl, ?_⟩) (by assumption) ?_
        rotate_left
        · intro w hSw
          (try dsimp only at hSw)
          go_simp
          with_reducible rfl
        try simp only [Act.put, List.setIfInBounds_toArray, List.set_cons_zero, List.set_cons_succ]
        clear t0 t1 t2 t3
        refine till_ready (rs := [7, 9]) (by kernel_rfl) (by simp) ?_
        refine TillAll.cons (o := _) (by simp only [List.getElem?_toArray, List.getElem?_cons_succ, List.getElem?_cons_zero]; rfl) (by rfl) (fun K hK => ?_) ?_
        · rw [if_pos (by simp [Region.wanted])]
          refine Lib.wp_append_run _ _ _ 50 50 rfl (.slice none 0 0) (.slice none 0 0) (by simp [Act.eval, Act.put]) (by simp [Act.eval, Act.put]) _ _ H1A.out ?_
          refine hK.out _ _ P1A.out (fun hS1 => ?_)
          clear hK K
          try simp only [Act.put, List.setIfInBounds_toArray, List.set_cons_zero, List.set_cons_succ]
          clear hHeld
          refine till_ready (rs := [9]) (by kernel_rfl) (by simp) ?_
          refine TillAll.cons (o := _) rfl (by rfl) (fun K hK => ?_) TillAll.nil
          go_simp
          refine hK.out _ _ P2A.out (fun hS2 => ?_)
          clear hK K
          try simp only [Act.put, List.setIfInBounds_toArray, List.set_cons_zero, List.set_cons_succ]
          clear hS1 hS2
          refine till_ready (rs := [10]) (by kernel_rfl) (by simp) ?_
          refine TillAll.cons (o := _) (by simp only [List.getElem?_toArray, List.getElem?_cons_succ, List.getElem?_cons_zero]; rfl) (by rfl) (fun K hK => ?_) TillAll.nil
          rw [if_pos (by simp [Region.wanted])]
          refine Lib.wp_append_run _ _ _ 50 50 rfl (v1A) (.slice (some ⟨w71A.heap.size, 0, none⟩) 1 1) (by simp [Act.eval, Act.put]) (by simp [Act.eval, Act.put]) _ _ H3A.out ?_
          refine hK.out _ _ P3A.out (fun hS3 => ?_)
          clear hK K hS3
          try simp only [Act.put, List.setIfInBounds_toArray, List.set_cons_zero, List.set_cons_succ]
          refine till_ready (rs := [17]) (by kernel_rfl) (by simp) ?_
          refine TillAll.cons (o := _) (by simp only [List.getElem?_toArray, List.getElem?_cons_succ, List.getElem?_cons_zero]; rfl) (by rfl) (fun K hK => ?_) TillAll.nil
          rw [if_pos (by simp [Region.wanted])]
          refine Lib.wp_append_run _ _ _ 50 50 rfl (v3A) (.slice none 0 0) (by simp [Act.eval, Act.put]) (by simp [Act.eval, Act.put]) _ _ H4A.out ?_
          refine hK.out _ _ P4A.out (fun hS4 => ?_)
          clear hK K
          try simp only [Act.put, List.setIfInBounds_toArray, List.set_cons_zero, List.set_cons_succ]
          refine till_ready (rs := [18]) (by kernel_rfl) (by simp) ?_
          refine TillAll.cons (o := _) rfl (by rfl) (fun K hK => ?_) TillAll.nil
          go_simp
          refine hK.out _ _ hS4 (fun _ => ?_)
          clear hK K
          try simp only [Act.put, List.setIfInBounds_toArray, List.set_cons_zero, List.set_cons_succ]
          refine till_take (i := 19) (oi := _) (v := ?_) rfl (by kernel_rfl) (by kernel_rfl) (by kernel_rfl) (by kernel_rfl) (by rfl) (fun _ _ _ h => h) (Or.inl ⟨by rfl, ?_⟩) (by assumption) ?_
          rotate_left
          · intro w hSw
            (try dsimp only at hSw)
            go_simp
            with_reducible rfl
          try simp only [Act.put, List.setIfInBounds_toArray, List.set_cons_zero, List.set_cons_succ]
          clear hS4
          have f3 := KKA.out.2.1 3
          obtain ⟨_, y0, y1, y2, y3⟩ := id KKA.out.1
          refine till_last (by kernel_rfl) (by kernel_rfl) rfl (fun K hK => ?_)
          go_simp
          refine hK.out _ _ ?_
          clear hK K
          go_wp2
          go_ret
          rw [HV.out.1, HV.out.2]
          exact ⟨rfl, (FIN _ _ _ _ KKA).2⟩
        refine TillAll.cons (o := _) rfl (by rfl) (fun K hK => ?_) TillAll.nil
        go_simp
        refine hK.out _ _ P2B.out (fun hS2 => ?_)
        clear hK K
        try simp only [Act.put, List.setIfInBounds_toArray, List.set_cons_zero, List.set_cons_succ]
        clear hHeld
        refine till_ready (rs := [7]) (by kernel_rfl) (by simp) ?_
        refine TillAll.cons (o := _) (by simp only [List.getElem?_toArray, List.getElem?_cons_succ, List.getElem?_cons_zero]; rfl) (by rfl) (fun K hK => ?_) TillAll.nil
        rw [if_pos (by simp [Region.wanted])]
        refine Lib.wp_append_run _ _ _ 50 50 rfl (.slice none 0 0) (.slice none 0 0) (by simp [Act.eval, Act.put]) (by simp [Act.eval, Act.put]) _ _ H1B.out ?_
        refine hK.out _ _ P1B.out (fun hS1 => ?_)
        clear hK K
        try simp only [Act.put, List.setIfInBounds_toArray, List.set_cons_zero, List.set_cons_succ]
        clear hS1 hS2
        refine till_ready (rs := [10]) (by kernel_rfl) (by simp) ?_
        refine TillAll.cons (o := _) (by simp only [List.getElem?_toArray, List.getElem?_cons_succ, List.getElem?_cons_zero]; rfl) (by rfl) (fun K hK => ?_) TillAll.nil
        rw [if_pos (by simp [Region.wanted])]
        refine Lib.wp_append_run _ _ _ 50 50 rfl (v1B) (.slice (some ⟨wr.heap.size, 0, none⟩) 1 1) (by simp [Act.eval, Act.put]) (by simp [Act.eval, Act.put]) _ _ H3B.out ?_
        refine hK.out _ _ P3B.out (fun hS3 => ?_)
        clear hK K hS3
        try simp only [Act.put, List.setIfInBounds_toArray, List.set_cons_zero, List.set_cons_succ]
        refine till_ready (rs := [17]) (by kernel_rfl) (by simp) ?_
        refine TillAll.cons (o := _) (by simp only [List.getElem?_toArray, List.getElem?_cons_succ, List.getElem?_cons_zero]; rfl) (by rfl) (fun K hK => ?_) TillAll.nil
        rw [if_pos (by simp [Region.wanted])]
        refine Lib.wp_append_run _ _ _ 50 50 rfl (v3B) (.slice none 0 0) (by simp [Act.eval, Act.put]) (by simp [Act.eval, Act.put]) _ _ H4B.out ?_
        refine hK.out _ _ P4B.out (fun hS4 => ?_)
        clear hK K
        try simp only [Act.put, List.setIfInBounds_toArray, List.set_cons_zero, List.set_cons_succ]
        refine till_ready (rs := [18]) (by kernel_rfl) (by simp) ?_
        refine TillAll.cons (o := _) rfl (by rfl) (fun K hK => ?_) TillAll.nil
        go_simp
        refine hK.out _ _ hS4 (fun _ => ?_)
        clear hK K
        try simp only [Act.put, List.setIfInBounds_toArray, List.set_cons_zero, List.set_cons_succ]
        refine till_take (i := 19) (oi := _) (v := ?_) rfl (by kernel_rfl) (by kernel_rfl) (by kernel_rfl) (by kernel_rfl) (by rfl) (fun _ _ _ h => h) (Or.inl ⟨by rfl, ?_⟩) (by assumption) ?_
        rotate_left
        · intro w hSw
          (try dsimp only at hSw)
          go_simp
          with_reducible rfl
        try simp only [Act.put, List.setIfInBounds_toArray, List.set_cons_zero, List.set_cons_succ]
        clear hS4
        have f3 := KKB.out.2.1 3
        obtain ⟨_, y0, y1, y2, y3⟩ := id KKB.out.1
        refine till_last (by kernel_rfl) (by kernel_rfl) rfl (fun K hK => ?_)
        go_simp
        refine hK.out _ _ ?_
        clear hK K
        go_wp2
        go_ret
        rw [HV.out.1, HV.out.2]
        exact ⟨rfl, (FIN _ _ _ _ KKB).2⟩
      · simp only [Value.slice.injEq] at e0
        obtain ⟨rfl, _, rfl⟩ := e0
        obtain ⟨cur, _, hgB, hgw, hg, hnc, hcm, hcs, hcur⟩ := R2.get
        have R0 := R2.at.2
        have S1 := SrcR.low (cap := cap) R0 k hk
        obtain ⟨A, hA, S2⟩ := SrcR.high R0 k hk hnc
        have S2 := S2 (cap - k)
        have e8 : k ≤ cap := by omega
        have e9 : (k : Int) ≤ (cap : Int) := by omega
        clear hgB hg hcm hcs hcur R0
        have bC0A := (Below.refl wr.heap.size wr).drew
        have z1 := Beside.src (S := fun _ => False) S1 (Beside.of bC0A) (fun _ _ h => h)
        have z2 : RowC wr.drew wr.heap.size (.slice none 0 0) [] := World.ownsRow_nil _ _ _ _
        obtain ⟨v1A, w71A, hr1A, r1, g1⟩ := append_rules (ty := 50) z2 z1 q1.out bC0A.size
        have bC1A := Below.row bC0A z2 g1
        clear z1 z2 g1
        have bC2A : Below wr.heap.size wr (w71A.alloc (.cells #[.int .i64 x.k, .int .u8 x.pr, .int .u32 (x.si : Int), .int .i64 x.sb, .int .u32 (x.di : Int), .int .i64 x.db, .int .u32 (x.ex : Int), .int .u16 x.fr, .int .u16 x.to, .int .u32 (x.ii : Int), .int .u16 x.ip] 42)) := bC1A.alloc bC1A.size _
        have sX : SrcR (w71A.alloc (.cells #[.int .i64 x.k, .int .u8 x.pr, .int .u32 (x.si : Int), .int .i64 x.sb, .int .u32 (x.di : Int), .int .i64 x.db, .int .u32 (x.ex : Int), .int .u16 x.fr, .int .u16 x.to, .int .u32 (x.ii : Int), .int .u16 x.ip] 42)) (.slice (some ⟨w71A.heap.size, 0, none⟩) 1 1) [x] := SrcR.box (heap_alloc_new w71A _)
        have r1 : RowC (w71A.alloc (.cells #[.int .i64 x.k, .int .u8 x.pr, .int .u32 (x.si : Int), .int .i64 x.sb, .int .u32 (x.di : Int), .int .i64 x.db, .int .u32 (x.ex : Int), .int .u16 x.fr, .int .u16 x.to, .int .u32 (x.ii : Int), .int .u16 x.ip] 42)) wr.heap.size v1A (t.rs.take k) := World.ownsRow.alloc r1 _
        obtain ⟨v3A, w73A, hr3A, r3, g3⟩ := append_rules (ty := 50) r1 sX q2.out bC2A.size
        have bC3A := Below.row bC2A r1 g3
        clear r1 sX g3
        have z4 := Beside.src (S := fun _ => False) S2 (Beside.of bC3A) (fun _ _ h => h)
        obtain ⟨v4, w74A, hr4A, r4, g4⟩ := append_rules (ty := 50) r3 z4 q3.out bC3A.size
        have bC4A := Below.row bC3A r3 g4
        clear r3 z4 g4
        obtain ⟨a4A, c4A, hv4⟩ := r4.slice
        subst hv4
        have e4 : t.rs.take k ++ [x] ++ t.rs.drop k = t.rs.take k ++ x :: t.rs.drop k := by simp
        rw [e4] at r4 hr4A
        generalize hN4 : (t.rs.take k ++ x :: t.rs.drop k).length = N4A at r4 hr4A
        clear hN4 e4
        have T4 := T2.on bC4A
        have F4 : ∀ j, w74A.frozen? ⟨p, j, none⟩ = false := fun j => (bC4A.frozen (p := ⟨p, j, none⟩) T2.1).trans (HP.out.2.2.2.1 j)
        have KKA := Lib.hid (And.intro T4 (And.intro F4 (And.intro r4 (HP.out.2.2.1.trans (bC4A.mono HP.out.2.2.1.size)))))
        clear T4 r4 F4
        have H1A := Lib.hid hr1A
        have H3A := Lib.hid hr3A
        have H4A := Lib.hid hr4A
        clear hr1A hr3A hr4A
        have P1A := Lib.hid (And.intro (T2.on bC1A).2.2.2.2 (X2.on bC1A).2)
        clear bC1A
        have P2A := Lib.hid (And.intro (T2.on bC2A).2.2.2.2 (X2.on bC2A).2)
        clear bC2A
        have P3A := Lib.hid (And.intro (T2.on bC3A).2.2.2.2 (X2.on bC3A).2)
        clear bC3A
        have P4A := Lib.hid (And.intro (T2.on bC4A).2.2.2.2 (X2.on bC4A).2)
        clear bC4A
        have bC0B := (Below.refl wr.heap.size wr).drew
        have bC2B : Below wr.heap.size wr (wr.alloc (.cells #[.int .i64 x.k, .int .u8 x.pr, .int .u32 (x.si : Int), .int .i64 x.sb, .int .u32 (x.di : Int), .int .i64 x.db, .int .u32 (x.ex : Int), .int .u16 x.fr, .int .u16 x.to, .int .u32 (x.ii : Int), .int .u16 x.ip] 42)).drew := ((Below.refl wr.heap.size wr).alloc (Nat.le_refl _) _).drew
        have sX : SrcR (wr.alloc (.cells #[.int .i64 x.k, .int .u8 x.pr, .int .u32 (x.si : Int), .int .i64 x.sb, .int .u32 (x.di : Int), .int .i64 x.db, .int .u32 (x.ex : Int), .int .u16 x.fr, .int .u16 x.to, .int .u32 (x.ii : Int), .int .u16 x.ip] 42)).drew (.slice (some ⟨wr.heap.size, 0, none⟩) 1 1) [x] := SrcR.box (heap_alloc_new wr _)
        have z1 := Beside.src (S := fun _ => False) S1 (Beside.of bC2B) (fun _ _ h => h)
        have z2 : RowC (wr.alloc (.cells #[.int .i64 x.k, .int .u8 x.pr, .int .u32 (x.si : Int), .int .i64 x.sb, .int .u32 (x.di : Int), .int .i64 x.db, .int .u32 (x.ex : Int), .int .u16 x.fr, .int .u16 x.to, .int .u32 (x.ii : Int), .int .u16 x.ip] 42)).drew wr.heap.size (.slice none 0 0) [] := World.ownsRow_nil _ _ _ _
        obtain ⟨v1B, w71B, hr1B, r1, g1⟩ := append_rules (ty := 50) z2 z1 q1.out bC2B.size
        have bC1B := Below.row bC2B z2 g1
        have r1 : RowC w71B wr.heap.size v1B (t.rs.take k) := r1
        have sX := Beside.src (S := fun _ => False) sX (Beside.of ⟨g1.os, g1.tape, g1.output, g1.size, fun k hk => g1.block k hk (by simp [Value.ownBlock])⟩) (fun _ _ h => h)
        clear z1 z2 g1
        obtain ⟨v3B, w73B, hr3B, r3, g3⟩ := append_rules (ty := 50) r1 sX q2.out bC1B.size
        have bC3B := Below.row bC1B r1 g3
        clear r1 sX g3
        have z4 := Beside.src (S := fun _ => False) S2 (Beside.of bC3B) (fun _ _ h => h)
        obtain ⟨v4, w74B, hr4B, r4, g4⟩ := append_rules (ty := 50) r3 z4 q3.out bC3B.size
        have bC4B := Below.row bC3B r3 g4
        clear r3 z4 g4
        obtain ⟨a4B, c4B, hv4⟩ := r4.slice
        subst hv4
        have e4 : t.rs.take k ++ [x] ++ t.rs.drop k = t.rs.take k ++ x :: t.rs.drop k := by simp
        rw [e4] at r4 hr4B
        generalize hN4 : (t.rs.take k ++ x :: t.rs.drop k).length = N4B at r4 hr4B
        clear hN4 e4
        have T4 := T2.on bC4B
        have F4 : ∀ j, w74B.frozen? ⟨p, j, none⟩ = false := fun j => (bC4B.frozen (p := ⟨p, j, none⟩) T2.1).trans (HP.out.2.2.2.1 j)
        have KKB := Lib.hid (And.intro T4 (And.intro F4 (And.intro r4 (HP.out.2.2.1.trans (bC4B.mono HP.out.2.2.1.size)))))
        clear T4 r4 F4
        have H1B := Lib.hid hr1B
        have H3B := Lib.hid hr3B
        have H4B := Lib.hid hr4B
        clear hr1B hr3B hr4B
        have P1B := Lib.hid (And.intro (T2.on bC1B).2.2.2.2 (X2.on bC1B).2)
        clear bC1B
        have P2B := Lib.hid (And.intro (T2.on bC2B).2.2.2.2 (X2.on bC2B).2)
        clear bC2B
        have P3B := Lib.hid (And.intro (T2.on bC3B).2.2.2.2 (X2.on bC3B).2)
        clear bC3B
        have P4B := Lib.hid (And.intro (T2.on bC4B).2.2.2.2 (X2.on bC4B).2)
        clear bC4B
        have FIN : ∀ (W : World) (a4 : Option Addr) (N4 c4 : Nat), Hid (Box4 W p (.int .u32 (t.own : Int)) (.int .u32 (t.ip : Int)) (.int .i64 t.bits) (.slice (some ⟨g, 0, none⟩) t.rs.length cap) ∧ (∀ j, W.frozen? ⟨p, j, none⟩ = false) ∧ RowC W wr.heap.size (.slice a4 N4 c4) (t.rs.take k ++ x :: t.rs.drop k) ∧ Below w.heap.size w W) → (Ending.returned (Value.int .i64 0) = Ending.returned (Value.int .i64 0) ∧ ∃ v', TabD (W.setCell ⟨p, 3, none⟩ (.slice a4 N4 c4)) B p v' { t with rs := t.rs.take k ++ x :: t.rs.drop k } ∧ Beside (fun k => k = p) w (W.setCell ⟨p, 3, none⟩ (.slice a4 N4 c4)) ∧ (v'.ownBlock = Value.ownBlock (.slice (some ⟨g, 0, none⟩) t.rs.length cap) ∨ ∀ g, v'.ownBlock = some g → w.heap.size ≤ g)) := by
          intro W a4 N4 c4 h
          obtain ⟨T4, F4, r4, b4⟩ := h.out
          have lo : ∀ g, Value.ownBlock (.slice a4 N4 c4) = some g → wr.heap.size ≤ g := fun g h => (r4.lt g h).1
          have hwr := HP.out.2.2.1.size
          exact ⟨rfl, _, TabD.stored (t := t) T4 F4 HZ.out.low (r4.low (Nat.le_trans hB hwr)) (fun e => by have := lo p e; have := HP.out.1.1; omega) rfl rfl rfl, Beside.setCell (S := fun k => k = p) (Beside.of b4) (p := ⟨p, 3, none⟩) rfl _, .inr fun g h => Nat.le_trans hwr (lo g h)⟩
        clear S1 S2
        refine region_till 20 (fun w' => w'.cell? ⟨p, 3, none⟩ = some (.slice (some ⟨g, 0, none⟩) t.rs.length cap) ∧ w'.cell? ⟨w.heap.size, 0, none⟩ = some (.int .i64 x.k) ∧ w'.cell? ⟨w.heap.size, 1, none⟩ = some (.int .u8 x.pr) ∧ w'.cell? ⟨w.heap.size, 2, none⟩ = some (.int .u32 (x.si : Int)) ∧ w'.cell? ⟨w.heap.size, 3, none⟩ = some (.int .i64 x.sb) ∧ w'.cell? ⟨w.heap.size, 4, none⟩ = some (.int .u32 (x.di : Int)) ∧ w'.cell? ⟨w.heap.size, 5, none⟩ = some (.int .i64 x.db) ∧ w'.cell? ⟨w.heap.size, 6, none⟩ = some (.int .u32 (x.ex : Int)) ∧ w'.cell? ⟨w.heap.size, 7, none⟩ = some (.int .u16 x.fr) ∧ w'.cell? ⟨w.heap.size, 8, none⟩ = some (.int .u16 x.to) ∧ w'.cell? ⟨w.heap.size, 9, none⟩ = some (.int .u32 (x.ii : Int)) ∧ w'.cell? ⟨w.heap.size, 10, none⟩ = some (.int .u16 x.ip)) (by kernel_rfl) ?_ (fun hHeld => ?_)
        · exact ⟨t3, X2.2⟩
        refine till_take (i := 0) (oi := _) (v := ?_) rfl (by kernel_rfl) (by kernel_rfl) (by kernel_rfl) (by kernel_rfl) (by rfl) (fun _ _ _ h => h) (Or.inl ⟨by rfl, ?_⟩) (by assumption) ?_
        rotate_left
        · intro w hSw
          (try dsimp only at hSw)
          go_simp
          with_reducible rfl
        try simp only [Act.put, List.setIfInBounds_toArray, List.set_cons_zero, List.set_cons_succ]
        refine till_take (i := 1) (oi := _) (v := ?_) rfl (by kernel_rfl) (by kernel_rfl) (by kernel_rfl) (by kernel_rfl) (by rfl) (fun _ _ _ h => h) (Or.inl ⟨by rfl, ?_⟩) (by assumption) ?_
        rotate_left
        · intro w hSw
          (try dsimp only at hSw)
          go_simp
          with_reducible rfl
        try simp only [Act.put, List.setIfInBounds_toArray, List.set_cons_zero, List.set_cons_succ]
        refine till_take (i := 2) (oi := _) (v := ?_) rfl (by kernel_rfl) (by kernel_rfl) (by kernel_rfl) (by kernel_rfl) (by rfl) (fun _ _ _ h => h) (Or.inl ⟨by rfl, ?_⟩) (by assumption) ?_
        rotate_left
        · intro w hSw
          (try dsimp only at hSw)
          go_simp
          with_reducible rfl
        try simp only [Act.put, List.setIfInBounds_toArray, List.set_cons_zero, List.set_cons_succ]
        refine till_take (i := 3) (oi := _) (v := ?_) rfl (by kernel_rfl) (by kernel_rfl) (by kernel_rfl) (by kernel_rfl) (by rfl) (fun _ _ _ h => h) (Or.inl ⟨by rfl, ?_⟩) (by assumption) ?_
        rotate_left
        · intro w hSw
          (try dsimp only at hSw)
          go_simp
          with_reducible rfl
        try simp only [Act.put, List.setIfInBounds_toArray, List.set_cons_zero, List.set_cons_succ]
        refine till_take (i := 4) (oi := _) (v := ?_) rfl (by kernel_rfl) (by kernel_rfl) (by kernel_rfl) (by kernel_rfl) (by rfl) (fun _ _ _ h => h) (Or.inl ⟨by rfl, ?_⟩) (by assumption) ?_
        rotate_left
        · intro w hSw
          (try dsimp only at hSw)
          obtain ⟨q0, q1, q2, q3, q4, q5, q6, q7, q8, q9, q10, q11⟩ := hSw
          go_simp
          with_reducible rfl
        try simp only [Act.put, List.setIfInBounds_toArray, List.set_cons_zero, List.set_cons_succ]
        refine till_take (i := 5) (oi := _) (v := ?_) rfl (by kernel_rfl) (by kernel_rfl) (by kernel_rfl) (by kernel_rfl) (by rfl) (fun _ _ _ h => h) (Or.inl ⟨by rfl, ?_⟩) (by assumption) ?_
        rotate_left
        · intro w hSw
          (try dsimp only at hSw)
          go_simp
          with_reducible rfl
        try simp only [Act.put, List.setIfInBounds_toArray, List.set_cons_zero, List.set_cons_succ]
        refine till_take (i := 6) (oi := _) (v := ?_) rfl (by kernel_rfl) (by kernel_rfl) (by kernel_rfl) (by kernel_rfl) (by rfl) (fun _ _ _ h => h) (Or.inl ⟨by rfl, ?_⟩) (by assumption) ?_
        rotate_left
        · intro w hSw
          (try dsimp only at hSw)
          go_simp
          with_reducible rfl
        try simp only [Act.put, List.setIfInBounds_toArray, List.set_cons_zero, List.set_cons_succ]
        refine till_take (i := 8) (oi := _) (v := ?_) rfl (by kernel_rfl) (by kernel_rfl) (by kernel_rfl) (by kernel_rfl) (by rfl) (fun _ _ _ h => h) (Or.inl ⟨by rfl, ?_⟩) (by assumption) ?_
        rotate_left
        · intro w hSw
          (try dsimp only at hSw)
          obtain ⟨q0, q1, q2, q3, q4, q5, q6, q7, q8, q9, q10, q11⟩ := hSw
          go_simp
          with_reducible rfl
        try simp only [Act.put, List.setIfInBounds_toArray, List.set_cons_zero, List.set_cons_succ]
        refine till_take (i := 11) (oi := _) (v := ?_) rfl (by kernel_rfl) (by kernel_rfl) (by kernel_rfl) (by kernel_rfl) (by rfl) (fun _ _ _ h => h) (Or.inl ⟨by rfl, ?_⟩) (by assumption) ?_
        rotate_left
        · intro w hSw
          (try dsimp only at hSw)
          go_simp
          with_reducible rfl
        try simp only [Act.put, List.setIfInBounds_toArray, List.set_cons_zero, List.set_cons_succ]
        refine till_take (i := 12) (oi := _) (v := ?_) rfl (by kernel_rfl) (by kernel_rfl) (by kernel_rfl) (by kernel_rfl) (by rfl) (fun _ _ _ h => h) (Or.inl ⟨by rfl, ?_⟩) (by assumption) ?_
        rotate_left
        · intro w hSw
          (try dsimp only at hSw)
          go_simp
          with_reducible rfl
        try simp only [Act.put, List.setIfInBounds_toArray, List.set_cons_zero, List.set_cons_succ]
        refine till_take (i := 13) (oi := _) (v := ?_) rfl (by kernel_rfl) (by kernel_rfl) (by kernel_rfl) (by kernel_rfl) (by rfl) (fun _ _ _ h => h) (Or.inl ⟨by rfl, ?_⟩) (by assumption) ?_
        rotate_left
        · intro w hSw
          (try dsimp only at hSw)
          go_simp
          with_reducible rfl
        try simp only [Act.put, List.setIfInBounds_toArray, List.set_cons_zero, List.set_cons_succ]
        refine till_take (i := 14) (oi := _) (v := ?_) rfl (by kernel_rfl) (by kernel_rfl) (by kernel_rfl) (by kernel_rfl) (by rfl) (fun _ _ _ h => h) (Or.inl ⟨by rfl, ?_⟩) (by assumption) ?_
        rotate_left
        · intro w hSw
          (try dsimp only at hSw)
          obtain ⟨q0, q1, q2, q3, q4, q5, q6, q7, q8, q9, q10, q11⟩ := hSw
          go_simp
          with_reducible rfl
        try simp only [Act.put, List.setIfInBounds_toArray, List.set_cons_zero, List.set_cons_succ]
        refine till_take (i := 15) (oi := _) (v := ?_) rfl (by kernel_rfl) (by kernel_rfl) (by kernel_rfl) (by kernel_rfl) (by rfl) (fun _ _ _ h => h) (Or.inl ⟨by rfl, ?_⟩) (by assumption) ?_
        rotate_left
        · intro w hSw
          (try dsimp only at hSw)
          go_simp
          with_reducible rfl
        try simp only [Act.put, List.setIfInBounds_toArray, List.set_cons_zero, List.set_cons_succ]
        refine till_take (i := 16) (oi := _) (v := ?_) rfl (by kernel_rfl) (by kernel_rfl) (by kernel_rfl) (by kernel_rfl) (by rfl) (fun _ _ _ h => h) (Or.inl ⟨by rfl, ?_⟩) (by assumption) ?_
        rotate_left
        · intro w hSw
          (try dsimp only at hSw)
          go_simp
          with_reducible rfl
        try simp only [Act.put, List.setIfInBounds_toArray, List.set_cons_zero, List.set_cons_succ]
        clear t0 t1 t2 t3
        refine till_ready (rs := [7, 9]) (by kernel_rfl) (by simp) ?_
        refine TillAll.cons (o := _) (by simp only [List.getElem?_toArray, List.getElem?_cons_succ, List.getElem?_cons_zero]; rfl) (by rfl) (fun K hK => ?_) ?_
        · rw [if_pos (by simp [Region.wanted])]
          refine Lib.wp_append_run _ _ _ 50 50 rfl (.slice none 0 0) (.slice (some ⟨g, 0, none⟩) k cap) (by simp [Act.eval, Act.put]) (by simp [Act.eval, Act.put]) _ _ H1A.out ?_
          refine hK.out _ _ P1A.out (fun hS1 => ?_)
          clear hK K
          try simp only [Act.put, List.setIfInBounds_toArray, List.set_cons_zero, List.set_cons_succ]
          clear hHeld
          refine till_ready (rs := [9]) (by kernel_rfl) (by simp) ?_
          refine TillAll.cons (o := _) rfl (by rfl) (fun K hK => ?_) TillAll.nil
          go_simp
          refine hK.out _ _ P2A.out (fun hS2 => ?_)
          clear hK K
          try simp only [Act.put, List.setIfInBounds_toArray, List.set_cons_zero, List.set_cons_succ]
          clear hS1 hS2
          refine till_ready (rs := [10]) (by kernel_rfl) (by simp) ?_
          refine TillAll.cons (o := _) (by simp only [List.getElem?_toArray, List.getElem?_cons_succ, List.getElem?_cons_zero]; rfl) (by rfl) (fun K hK => ?_) TillAll.nil
          rw [if_pos (by simp [Region.wanted])]
          refine Lib.wp_append_run _ _ _ 50 50 rfl (v1A) (.slice (some ⟨w71A.heap.size, 0, none⟩) 1 1) (by simp [Act.eval, Act.put]) (by simp [Act.eval, Act.put]) _ _ H3A.out ?_
          refine hK.out _ _ P3A.out (fun hS3 => ?_)
          clear hK K hS3
          try simp only [Act.put, List.setIfInBounds_toArray, List.set_cons_zero, List.set_cons_succ]
          refine till_ready (rs := [17]) (by kernel_rfl) (by simp) ?_
          refine TillAll.cons (o := _) (by simp only [List.getElem?_toArray, List.getElem?_cons_succ, List.getElem?_cons_zero]; rfl) (by rfl) (fun K hK => ?_) TillAll.nil
          rw [if_pos (by simp [Region.wanted])]
          refine Lib.wp_append_run _ _ _ 50 50 rfl (v3A) (.slice (some A) (t.rs.length - k) (cap - k)) (by simp [Act.eval, Act.put]) (by simp [Act.eval, Act.put]) _ _ H4A.out ?_
          refine hK.out _ _ P4A.out (fun hS4 => ?_)
          clear hK K
          try simp only [Act.put, List.setIfInBounds_toArray, List.set_cons_zero, List.set_cons_succ]
          refine till_ready (rs := [18]) (by kernel_rfl) (by simp) ?_
          refine TillAll.cons (o := _) rfl (by rfl) (fun K hK => ?_) TillAll.nil
          go_simp
          refine hK.out _ _ hS4 (fun _ => ?_)
          clear hK K
          try simp only [Act.put, List.setIfInBounds_toArray, List.set_cons_zero, List.set_cons_succ]
          refine till_take (i := 19) (oi := _) (v := ?_) rfl (by kernel_rfl) (by kernel_rfl) (by kernel_rfl) (by kernel_rfl) (by rfl) (fun _ _ _ h => h) (Or.inl ⟨by rfl, ?_⟩) (by assumption) ?_
          rotate_left
          · intro w hSw
            (try dsimp only at hSw)
            go_simp
            with_reducible rfl
          try simp only [Act.put, List.setIfInBounds_toArray, List.set_cons_zero, List.set_cons_succ]
          clear hS4
          have f3 := KKA.out.2.1 3
          obtain ⟨_, y0, y1, y2, y3⟩ := id KKA.out.1
          refine till_last (by kernel_rfl) (by kernel_rfl) rfl (fun K hK => ?_)
          go_simp
          refine hK.out _ _ ?_
          clear hK K
          go_wp2
          go_ret
          rw [HV.out.1, HV.out.2]
          exact ⟨rfl, (FIN _ _ _ _ KKA).2⟩
        refine TillAll.cons (o := _) rfl (by rfl) (fun K hK => ?_) TillAll.nil
        go_simp
        refine hK.out _ _ P2B.out (fun hS2 => ?_)
        clear hK K
        try simp only [Act.put, List.setIfInBounds_toArray, List.set_cons_zero, List.set_cons_succ]
        clear hHeld
        refine till_ready (rs := [7]) (by kernel_rfl) (by simp) ?_
        refine TillAll.cons (o := _) (by simp only [List.getElem?_toArray, List.getElem?_cons_succ, List.getElem?_cons_zero]; rfl) (by rfl) (fun K hK => ?_) TillAll.nil
        rw [if_pos (by simp [Region.wanted])]
        refine Lib.wp_append_run _ _ _ 50 50 rfl (.slice none 0 0) (.slice (some ⟨g, 0, none⟩) k cap) (by simp [Act.eval, Act.put]) (by simp [Act.eval, Act.put]) _ _ H1B.out ?_
        refine hK.out _ _ P1B.out (fun hS1 => ?_)
        clear hK K
        try simp only [Act.put, List.setIfInBounds_toArray, List.set_cons_zero, List.set_cons_succ]
        clear hS1 hS2
        refine till_ready (rs := [10]) (by kernel_rfl) (by simp) ?_
        refine TillAll.cons (o := _) (by simp only [List.getElem?_toArray, List.getElem?_cons_succ, List.getElem?_cons_zero]; rfl) (by rfl) (fun K hK => ?_) TillAll.nil
        rw [if_pos (by simp [Region.wanted])]
        refine Lib.wp_append_run _ _ _ 50 50 rfl (v1B) (.slice (some ⟨wr.heap.size, 0, none⟩) 1 1) (by simp [Act.eval, Act.put]) (by simp [Act.eval, Act.put]) _ _ H3B.out ?_
        refine hK.out _ _ P3B.out (fun hS3 => ?_)
        clear hK K hS3
        try simp only [Act.put, List.setIfInBounds_toArray, List.set_cons_zero, List.set_cons_succ]
        refine till_ready (rs := [17]) (by kernel_rfl) (by simp) ?_
        refine TillAll.cons (o := _) (by simp only [List.getElem?_toArray, List.getElem?_cons_succ, List.getElem?_cons_zero]; rfl) (by rfl) (fun K hK => ?_) TillAll.nil
        rw [if_pos (by simp [Region.wanted])]
        refine Lib.wp_append_run _ _ _ 50 50 rfl (v3B) (.slice (some A) (t.rs.length - k) (cap - k)) (by simp [Act.eval, Act.put]) (by simp [Act.eval, Act.put]) _ _ H4B.out ?_
        refine hK.out _ _ P4B.out (fun hS4 => ?_)
        clear hK K
        try simp only [Act.put, List.setIfInBounds_toArray, List.set_cons_zero, List.set_cons_succ]
        refine till_ready (rs := [18]) (by kernel_rfl) (by simp) ?_
        refine TillAll.cons (o := _) rfl (by rfl) (fun K hK => ?_) TillAll.nil
        go_simp
        refine hK.out _ _ hS4 (fun _ => ?_)
        clear hK K
        try simp only [Act.put, List.setIfInBounds_toArray, List.set_cons_zero, List.set_cons_succ]
        refine till_take (i := 19) (oi := _) (v := ?_) rfl (by kernel_rfl) (by kernel_rfl) (by kernel_rfl) (by kernel_rfl) (by rfl) (fun _ _ _ h => h) (Or.inl ⟨by rfl, ?_⟩) (by assumption) ?_
        rotate_left
        · intro w hSw
          (try dsimp only at hSw)
          go_simp
          with_reducible rfl
        try simp only [Act.put, List.setIfInBounds_toArray, List.set_cons_zero, List.set_cons_succ]
        clear hS4
        have f3 := KKB.out.2.1 3
        obtain ⟨_, y0, y1, y2, y3⟩ := id KKB.out.1
        refine till_last (by kernel_rfl) (by kernel_rfl) rfl (fun K hK => ?_)
        go_simp
        refine hK.out _ _ ?_
        clear hK K
        go_wp2
        go_ret
        rw [HV.out.1, HV.out.2]
        exact ⟨rfl, (FIN _ _ _ _ KKB).2⟩
end Go.Proofs.Ytoogegpkgohffaa
