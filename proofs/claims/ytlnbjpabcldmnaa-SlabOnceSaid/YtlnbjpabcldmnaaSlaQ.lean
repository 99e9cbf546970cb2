/- Plain and memory: what SlabAll goes by (layer 13). -/
import Derived.Test.YtlnbjpabcldmnaaSlaK
import Derived.Test.YtlnbjpabcldmnaaSlaN
import Derived.Laws.MakeOwn
namespace Go.Proofs.Ytlnbjpabcldmnaa
set_option linter.unusedVariables false
set_option linter.unusedSimpArgs false
open Go.ChangeShapes Go.WideShapes Go.ChangeAt Go.RowKit Go.PlainAid
/-- The first 'i' slots are taken, for the first time. -/
def TakenTo (t : Sl) (n i : Nat) : Prop := t.length = n ∧ ∀ k, k < n → slS t k = (if k < i then 1 else 0) ∧ slG t k = 1
theorem TakenTo.new (n : Nat) : TakenTo (slNew n) n 0 := ⟨slNew_len n, fun k hk => ⟨by rw [slNew_S, if_neg (by omega)], slNew_G n k hk⟩⟩
theorem TakenTo.first {t : Sl} {n i : Nat} (h : TakenTo t n i) (hi : i < n) : slFirst t = some i :=
  slFirst_hit (by rw [h.1]; exact hi) (fun m hm => by rw [(h.2 m (by omega)).1, if_pos hm]; omega) (by rw [(h.2 i hi).1, if_neg (by omega)])
theorem TakenTo.told {t : Sl} {n i : Nat} (h : TakenTo t n i) (hi : i < n) : takeS t = i ∧ takeG t = 1 ∧ takeE t = 0 := by
  unfold takeS takeG takeE
  rw [h.first hi]
  exact ⟨rfl, (h.2 i hi).2, rfl⟩
theorem TakenTo.step {t : Sl} {n i : Nat} (h : TakenTo t n i) (hi : i < n) : TakenTo (slTake t) n (i + 1) := by
  have e : slTake t = slPut t i 1 (slG t i) := by unfold slTake; rw [h.first hi]
  refine ⟨by rw [slTake_len]; exact h.1, fun k hk => ?_⟩
  rw [e, slPut_S _ _ _ _ _ (by rw [h.1]; exact hi), slPut_G _ _ _ _ _ (by rw [h.1]; exact hi)]
  obtain ⟨h1, h2⟩ := h.2 k hk
  by_cases ek : k = i
  · subst ek; rw [if_pos rfl, if_pos rfl, if_pos (by omega)]; exact ⟨rfl, h2⟩
  · rw [if_neg ek, if_neg ek, h1, h2]
    refine ⟨?_, rfl⟩
    by_cases e2 : k < i
    · rw [if_pos e2, if_pos (by omega)]
    · rw [if_neg e2, if_neg (by omega)]
theorem TakenTo.live {t : Sl} {n i k : Nat} (h : TakenTo t n i) (hk : k < i) (hi : i ≤ n) : liveV t (k : Int) 1 = true := by
  rw [liveV_nat (by rw [h.1]; omega)]
  obtain ⟨h1, h2⟩ := h.2 k (by omega)
  rw [h1, h2, if_pos hk]
  rfl
theorem TakenTo.full {t : Sl} {n : Nat} (h : TakenTo t n n) : takeS t = 0 ∧ takeG t = 0 ∧ takeE t = 8 ∧ slTake t = t := by
  have e : slFirst t = none := slFirst_no fun m hm => by rw [h.1] at hm; rw [(h.2 m hm).1, if_pos hm]; omega
  unfold takeS takeG takeE slTake
  rw [e]
  exact ⟨rfl, rfl, rfl, rfl⟩
/-- The handles that were taken. -/
def firstH (n : Nat) : Sl := (List.range n).map fun k => (k, 1)
theorem firstH_len (n : Nat) : (firstH n).length = n := by simp [firstH]
theorem firstH_succ (n : Nat) : firstH n ++ [(n, 1)] = firstH (n + 1) := by unfold firstH; rw [List.range_succ, List.map_append]; rfl
theorem firstH_at {n i : Nat} (h : i < n) : slS (firstH n) i = i ∧ slG (firstH n) i = 1 := by
  unfold slS slG firstH
  simp [List.getD, h]
/-- Which of them were given back; from 'i' on, those ahead having been taken again. -/
def BackAt (t : Sl) (n i : Nat) (z : Nat → Nat) : Prop := t.length = n ∧ (∀ k, k < n → z k = 0 ∨ z k = 1) ∧ ∀ k, k < n → slS t k = (if z k = 0 ∨ k < i then 1 else 0) ∧ slG t k = (if z k = 0 then 1 else 2)
theorem BackAt.start {t : Sl} {n : Nat} (h : TakenTo t n n) : BackAt t n 0 (fun _ => 0) :=
  ⟨h.1, fun _ _ => .inl rfl, fun k hk => by obtain ⟨h1, h2⟩ := h.2 k hk; rw [h1, h2, if_pos hk, if_pos (.inl rfl), if_pos rfl]; exact ⟨rfl, rfl⟩⟩
theorem BackAt.live {t : Sl} {n k : Nat} {z : Nat → Nat} (h : BackAt t n 0 z) (hk : k < n) : liveV t (k : Int) 1 = decide (z k = 0) := by
  rw [liveV_nat (by rw [h.1]; exact hk)]
  obtain ⟨h1, h2⟩ := h.2.2 k hk
  rw [h1, h2]
  refine decide_eq_decide.2 ?_
  by_cases e : z k = 0
  · rw [if_pos (.inl e), if_pos e]; simp [e]
  · rw [if_neg (by omega), if_neg e]; simp [e]
theorem BackAt.give {t : Sl} {n k : Nat} {z : Nat → Nat} (h : BackAt t n 0 z) (hk : k < n) : endE t (k : Int) 1 = (if z k = 0 then 0 else 9) ∧ BackAt (endT t (k : Int) 1 0) n 0 (fun j => if j = k then 1 else z j) := by
  have hl := h.live hk
  refine ⟨?_, by rw [endT_len]; exact h.1, fun j hj => ?_, fun j hj => ?_⟩
  · unfold endE; rw [hl]
    by_cases e : z k = 0
    · simp [e]
    · simp [e]
  · show (if j = k then 1 else z j) = 0 ∨ (if j = k then 1 else z j) = 1
    split
    · exact .inr rfl
    · exact h.2.1 j hj
  · unfold endT
    rw [hl]
    obtain ⟨h1, h2⟩ := h.2.2 j hj
    by_cases e : z k = 0
    · simp only [e, decide_true, if_true]
      rw [slPut_S _ _ _ _ _ (by rw [h.1]; simpa using hk), slPut_G _ _ _ _ _ (by rw [h.1]; simpa using hk), Int.toNat_natCast]
      by_cases ej : j = k
      · subst ej; simp
      · simp only [ej, if_false]; exact ⟨h1, h2⟩
    · simp only [e, decide_false, Bool.false_eq_true, if_false]
      by_cases ej : j = k
      · subst ej
        rw [h1, h2]
        simp [e]
      · simp only [ej, if_false]; exact ⟨h1, h2⟩
theorem BackAt.skip {t : Sl} {n i : Nat} {z : Nat → Nat} (h : BackAt t n i z) (hz : z i = 0) : BackAt t n (i + 1) z := by
  refine ⟨h.1, h.2.1, fun k hk => ?_⟩
  obtain ⟨h1, h2⟩ := h.2.2 k hk
  rw [h1]
  refine ⟨?_, h2⟩
  by_cases e : z k = 0 ∨ k < i
  · rw [if_pos e, if_pos (by omega)]
  · rw [if_neg e, if_neg (by
      intro h3
      rcases h3 with h3 | h3
      · exact e (.inl h3)
      · by_cases ek : k = i
        · subst ek; exact e (.inl hz)
        · exact e (.inr (by omega)))]
theorem BackAt.first {t : Sl} {n i : Nat} {z : Nat → Nat} (h : BackAt t n i z) (hi : i < n) (hz : z i ≠ 0) : slFirst t = some i :=
  slFirst_hit (by rw [h.1]; exact hi) (fun m hm => by rw [(h.2.2 m (by omega)).1, if_pos (.inr hm)]; omega) (by rw [(h.2.2 i hi).1, if_neg (by omega)])
theorem BackAt.take {t : Sl} {n i : Nat} {z : Nat → Nat} (h : BackAt t n i z) (hi : i < n) (hz : z i ≠ 0) : takeS t = i ∧ takeG t = 2 ∧ takeE t = 0 ∧ BackAt (slTake t) n (i + 1) z ∧ liveV (slTake t) (i : Int) 1 = false := by
  have e : slTake t = slPut t i 1 (slG t i) := by unfold slTake; rw [h.first hi hz]
  have g : slG t i = 2 := by rw [(h.2.2 i hi).2, if_neg hz]
  have hl : i < t.length := by rw [h.1]; exact hi
  refine ⟨by unfold takeS; rw [h.first hi hz]; rfl, by unfold takeG; rw [h.first hi hz]; exact g, by unfold takeE; rw [h.first hi hz], ⟨by rw [slTake_len]; exact h.1, h.2.1, fun k hk => ?_⟩, ?_⟩
  · rw [e, slPut_S _ _ _ _ _ hl, slPut_G _ _ _ _ _ hl]
    obtain ⟨h1, h2⟩ := h.2.2 k hk
    by_cases ek : k = i
    · subst ek; rw [if_pos rfl, if_pos rfl, if_pos (.inr (by omega)), h2]; exact ⟨rfl, rfl⟩
    · rw [if_neg ek, if_neg ek, h1, h2]
      refine ⟨?_, rfl⟩
      by_cases e2 : z k = 0 ∨ k < i
      · rw [if_pos e2, if_pos (by omega)]
      · rw [if_neg e2, if_neg (by omega)]
  · rw [e, liveV_nat (by rw [slPut_len]; exact hl), (slPut_at t i 1 (slG t i) hl).2, g]
    simp
theorem BackAt.full {t : Sl} {n : Nat} {z : Nat → Nat} (h : BackAt t n n z) : takeE t = 8 ∧ slTake t = t := by
  have e : slFirst t = none := slFirst_no fun m hm => by rw [h.1] at hm; rw [(h.2.2 m hm).1, if_pos (.inr hm)]; omega
  unfold takeE slTake
  rw [e]
  exact ⟨rfl, rfl⟩
/-- A row of the call's own, that may be written: its cells by a function. -/
def OwnF (w : World) (g n : Nat) (f : Nat → Value) : Prop := g < w.heap.size ∧ ∀ j, j < n → w.cell? ⟨g, j, none⟩ = some (f j) ∧ w.frozen? ⟨g, j, none⟩ = false
theorem OwnF.on {w w' : World} {g n : Nat} {f : Nat → Value} (h : OwnF w g n f) (hb : Below w.heap.size w w') : OwnF w' g n f :=
  ⟨Nat.lt_of_lt_of_le h.1 hb.size, fun j hj => ⟨(hb.cell (p := ⟨g, j, none⟩) h.1).trans (h.2 j hj).1, (hb.frozen (p := ⟨g, j, none⟩) h.1).trans (h.2 j hj).2⟩⟩
theorem OwnF.by {S : Nat → Prop} {w w' : World} {g n : Nat} {f : Nat → Value} (h : OwnF w g n f) (hb : Beside S w w') (hn : ¬ S g) : OwnF w' g n f :=
  ⟨Nat.lt_of_lt_of_le h.1 hb.size, fun j hj => ⟨(hb.cell (p := ⟨g, j, none⟩) h.1 hn).trans (h.2 j hj).1, (hb.frozen (p := ⟨g, j, none⟩) h.1 hn).trans (h.2 j hj).2⟩⟩
theorem OwnF.set {w : World} {g n : Nat} {f : Nat → Value} (h : OwnF w g n f) (k : Nat) (hk : k < n) (v : Value) : OwnF (w.setCell ⟨g, k, none⟩ v) g n (fun j => if j = k then v else f j) := by
  refine ⟨by simpa [World.setCell] using h.1, fun j hj => ⟨?_, by rw [World.frozen?_setCell]; exact (h.2 j hj).2⟩⟩
  show _ = some (if j = k then v else f j)
  by_cases e : j = k
  · subst e; rw [if_pos rfl]; exact World.cell?_setCell_same' _ _ _ (by rw [(h.2 j hj).1]; rfl)
  · rw [if_neg e, World.cell?_setCell_other _ _ _ _ (by intro he; injection he with h5 h6; omega)]; exact (h.2 j hj).1
theorem OwnF.congr {w : World} {g n : Nat} {f f' : Nat → Value} (h : OwnF w g n f) (e : ∀ j, j < n → f j = f' j) : OwnF w g n f' := ⟨h.1, fun j hj => by rw [← e j hj]; exact h.2 j hj⟩
theorem OwnF.made (w : World) (z : Value) (n : Nat) (T : TypeId) : OwnF (w.alloc (.cells (madeCells #[z] n) T)) w.heap.size n (fun _ => z) := by
  refine ⟨by simp, fun j hj => ⟨?_, ?_⟩⟩
  · have h : (madeCells #[z] n)[j]? = some z := by
      unfold madeCells
      simp [hj, Nat.mod_one]
    have k := World.cell?_alloc_mark w (madeCells #[z] n) T (0, 0) j
    rw [h] at k
    exact k
  · have k := World.frozen?_alloc_mark w (madeCells #[z] n) T 0 0 j
    refine k.trans ?_
    simp
theorem handle_info : ∃ i0, Try.prog.info? 34 = some i0 ∧ i0.zero = some (.agg #[.int .i64 0, .int .u32 0]) ∧ i0.size = 2 ∧ i0.bytes = 16 := by
  have h : (Try.prog.info? 34).map (fun i => (i.zero, i.size, i.bytes)) = some (some (.agg #[.int .i64 0, .int .u32 0]), 2, 16) := by kernel_rfl
  cases hq : Try.prog.info? 34 with
  | none => rw [hq] at h; simp at h
  | some i0 =>
    rw [hq] at h
    simp only [Option.map_some, Option.some.injEq, Prod.mk.injEq] at h
    exact ⟨i0, rfl, h.1, h.2.1, h.2.2⟩
theorem int_info : ∃ i0, Try.prog.info? 3 = some i0 ∧ i0.zero = some (.int .i64 0) ∧ i0.size = 1 ∧ i0.bytes = 8 := by
  have h : (Try.prog.info? 3).map (fun i => (i.zero, i.size, i.bytes)) = some (some (.int .i64 0), 1, 8) := by kernel_rfl
  cases hq : Try.prog.info? 3 with
  | none => rw [hq] at h; simp at h
  | some i0 =>
    rw [hq] at h
    simp only [Option.map_some, Option.some.injEq, Prod.mk.injEq] at h
    exact ⟨i0, rfl, h.1, h.2.1, h.2.2⟩
/-- A slice of ints that is made. -/
theorem made_ints (n : Nat) (hn : n ≤ 300) : ∀ u : World, (Instr.makeSlice 56 (.int .i64 (n : Int)) (.int .i64 (n : Int))).run Try.prog u = .ok (.slice (some ⟨u.heap.size, 0, none⟩) n n) (u.alloc (.cells (madeCells #[.int .i64 0] n) 3)) := by
  intro u
  obtain ⟨i0, hi, hz0, hz1, hz2⟩ := int_info
  have h := run_make (P := Try.prog) u 56 3 i0 (.int .i64 0) Try.underlying56 hi hz0 .i64 .i64 (n : Int) (n : Int) (by omega) (Int.le_refl _) (by rw [hz2]; omega) (by omega)
  rw [h, hz1, Int.toNat_natCast, Nat.mul_one]
  rfl
theorem push_ok {i n : Nat} (h : i < n) (hn : n ≤ 256) : i + 1 ≤ maxLen ∧ (i + 1) * 16 ≤ 140737488355328 := by
  have : maxLen = 9223372036854775807 := rfl
  omega
theorem push_base {q : Nat} {w : World} (o : Obj) (h : q < w.heap.size) : q + 1 ≤ (w.alloc o).heap.size := by simp; omega
/-- A handle more in a row of the call's own. -/
theorem push_row {T : TypeId} {w' : World} {B s g : Nat} {v' : Value} {hs : Sl} (h : w'.ownsRow B T 2 v' (hs.length + 1) (valsP hs ++ valsP [(s, g)])) : RowP T w' B v' (hs ++ [(s, g)]) := by
  unfold RowP
  rw [List.length_append, valsP_app]
  exact h
theorem SlabOk.takeTo (K : SlabOk) {t : Sl} {n i q : Nat} (T : TakenTo t n i) (hi : i < n) (u : World) (R : K.Rep u q t) : Calls Try.prog 10 #[.pointer (some ⟨q, 0, none⟩)] u fun e w' => e = .returned (.tuple #[.agg #[.int .i64 (i : Int), .int .u32 1], .int .i64 0]) ∧ K.Rep w' q (slTake t) ∧ Beside (fun k => k = q) u w' := by
  have h := K.takes q t u R
  rw [(T.told hi).1, (T.told hi).2.1, (T.told hi).2.2] at h
  exact h
theorem SlabOk.liveTo (K : SlabOk) {t : Sl} {n i k q : Nat} (T : TakenTo t n i) (hk : k < i) (hi : i ≤ n) (u : World) (R : K.Rep u q t) : Calls Try.prog 22 #[.pointer (some ⟨q, 0, none⟩), .agg #[.int .i64 (k : Int), .int .u32 1]] u fun e w' => e = .returned (.bool true) ∧ Below u.heap.size u w' := by
  have h := K.lives q t (k : Int) 1 u R (by omega)
  rw [T.live hk hi] at h
  exact h
theorem SlabOk.takeFull (K : SlabOk) {t : Sl} {n q : Nat} (T : TakenTo t n n) (u : World) (R : K.Rep u q t) : Calls Try.prog 10 #[.pointer (some ⟨q, 0, none⟩)] u fun e w' => e = .returned (.tuple #[.agg #[.int .i64 0, .int .u32 0], .int .i64 8]) ∧ K.Rep w' q t ∧ Beside (fun k => k = q) u w' := by
  have h := K.takes q t u R
  rw [T.full.1, T.full.2.1, T.full.2.2.1, T.full.2.2.2] at h
  exact h
theorem SlabOk.giveBack (K : SlabOk) {t : Sl} {n k q : Nat} {z : Nat → Nat} (T : BackAt t n 0 z) (hk : k < n) (u : World) (R : K.Rep u q t) : Calls Try.prog 12 #[.pointer (some ⟨q, 0, none⟩), .agg #[.int .i64 (k : Int), .int .u32 1]] u fun e w' => e = .returned (.int .i64 (((if z k = 0 then 0 else 9 : Nat) : Nat) : Int)) ∧ K.Rep w' q (endT t (k : Int) 1 0) ∧ Beside (fun k => k = q) u w' := by
  have h := K.gives q t (k : Int) 1 u R (by omega)
  rw [(T.give hk).1] at h
  exact h
theorem SlabOk.takeBack (K : SlabOk) {t : Sl} {n i q : Nat} {z : Nat → Nat} (T : BackAt t n i z) (hi : i < n) (hz : z i ≠ 0) (u : World) (R : K.Rep u q t) : Calls Try.prog 10 #[.pointer (some ⟨q, 0, none⟩)] u fun e w' => e = .returned (.tuple #[.agg #[.int .i64 (i : Int), .int .u32 2], .int .i64 0]) ∧ K.Rep w' q (slTake t) ∧ Beside (fun k => k = q) u w' := by
  have h := K.takes q t u R
  obtain ⟨h1, h2, h3, _⟩ := T.take hi hz
  rw [h1, h2, h3] at h
  exact h
theorem SlabOk.liveBack (K : SlabOk) {t : Sl} {n i q : Nat} {z : Nat → Nat} (T : BackAt t n i z) (hi : i < n) (hz : z i ≠ 0) (u : World) (R : K.Rep u q (slTake t)) : Calls Try.prog 22 #[.pointer (some ⟨q, 0, none⟩), .agg #[.int .i64 (i : Int), .int .u32 1]] u fun e w' => e = .returned (.bool false) ∧ Below u.heap.size u w' := by
  have h := K.lives q (slTake t) (i : Int) 1 u R (by omega)
  rw [(T.take hi hz).2.2.2.2] at h
  exact h
theorem SlabOk.takeEnd (K : SlabOk) {t : Sl} {n q : Nat} {z : Nat → Nat} (T : BackAt t n n z) (u : World) (R : K.Rep u q t) : Calls Try.prog 10 #[.pointer (some ⟨q, 0, none⟩)] u fun e w' => (∃ s g : Nat, e = .returned (.tuple #[.agg #[.int .i64 (s : Int), .int .u32 (g : Int)], .int .i64 8])) ∧ K.Rep w' q t ∧ Beside (fun k => k = q) u w' := by
  have h := K.takes q t u R
  rw [T.full.1, T.full.2] at h
  exact h.mono fun e w' ⟨h1, h2⟩ => ⟨⟨_, _, h1⟩, h2⟩
theorem grown_size {w w' : World} {o : Obj} {r : Option Nat} (h : (w.alloc o).grownBy w' r) : w.heap.size ≤ w'.heap.size := Nat.le_trans (by simp) h.size
theorem grown_block {w w' : World} {o : Obj} {r : Option Nat} {k : Nat} (h : (w.alloc o).grownBy w' r) (hk : k < w.heap.size) (hn : some k ≠ r) : w'.heap[k]? = w.heap[k]? :=
  (h.block k (by simp; omega) hn).trans (Below.heap_alloc w o k hk)
/-- Behind an append to a row that is newer than the slab. -/
theorem grown_step {T : TypeId} {w0 w w' : World} {o : Obj} {q : Nat} {v : Value} {t : Sl} (h : Below w0.heap.size w0 w) (hq : w0.heap.size ≤ q) (hl : q < w.heap.size) (hr : RowP T w (q + 1) v t) (hg : (w.alloc o).grownBy w' v.ownBlock) : Below w0.heap.size w0 w' :=
  (h.alloc h.size o).grown hg (by simp; omega) (fun k e => by have := (hr.lt k e).1; omega)
theorem pair_at {w : World} {g n k : Nat} (h : PairsAt w g (firstH n)) (hk : k < n) : w.cell? ⟨g, k * 2, none⟩ = some (.int .i64 (k : Int)) ∧ w.cell? ⟨g, k * 2 + 1, none⟩ = some (.int .u32 1) := by
  obtain ⟨h1, h2⟩ := h.cs k (by rw [firstH_len]; exact hk)
  rw [(firstH_at hk).1] at h1
  rw [(firstH_at hk).2] at h2
  exact ⟨h1, h2⟩
theorem own_at {w : World} {g n k c : Nat} {z : Nat → Nat} (h : OwnF w g n (fun j => .int .i64 (z j : Int))) (hk : k < n) (hz : z k = c) : w.cell? ⟨g, k, none⟩ = some (.int .i64 (c : Int)) := by
  rw [← hz]; exact (h.2 k hk).1
theorem OwnF.setZ {w : World} {g n : Nat} {z : Nat → Nat} (h : OwnF w g n (fun j => .int .i64 (z j : Int))) (k c : Nat) (hk : k < n) : OwnF (w.setCell ⟨g, k, none⟩ (.int .i64 (c : Int))) g n (fun j => .int .i64 (((if j = k then c else z j : Nat) : Nat) : Int)) :=
  (h.set k hk _).congr fun j _ => by
    show (if j = k then Value.int .i64 (c : Int) else Value.int .i64 (z j : Int)) = _
    split <;> rfl
theorem byte_at {zs : List Int} (h : ∀ x ∈ zs, 0 ≤ x ∧ x ≤ 255) {j : Nat} (hj : j < zs.length) : ∃ m : Nat, zs.getD j 0 = (m : Int) ∧ m ≤ 255 := by
  have e : zs.getD j 0 = zs[j] := by simp [List.getD, hj]
  obtain ⟨h0, h1⟩ := h _ (List.getElem_mem hj)
  obtain ⟨m, hm⟩ := Int.eq_ofNat_of_zero_le h0
  exact ⟨m, by rw [e]; exact hm, by rw [hm] at h1; omega⟩
theorem rem_at {n : Nat} (m : Nat) (h : 1 ≤ n) : (m : Int).tmod (n : Int) = ((m % n : Nat) : Int) ∧ (m : Int) % (n : Int) = ((m % n : Nat) : Int) ∧ m % n < n ∧ ((n : Int) == 0) = false := by
  have e : (m : Int) % (n : Int) = ((m % n : Nat) : Int) := (Int.natCast_emod m n).symm
  exact ⟨by rw [Int.tmod_eq_emod_of_nonneg (by omega)]; exact e, e, Nat.mod_lt _ (by omega), by simp; omega⟩
theorem step_64 {j : Nat} (h : j < 300) : wrap64 ((j : Int) + 1) = (j : Int) + 1 := IntWalk.wrap64_in _ (by omega)
theorem wrap_byte {m : Nat} (h : m ≤ 255) : IntKind.i64.wrap (m : Int) = (m : Int) := IntWalk.i64_in _ (by omega)
theorem step_meas {j n : Nat} (h : wrap64 ((j : Int) + 1) = (j : Int) + 1) (hl : n - (j + 1) < n - j) : n - (intOf (.int .i64 (wrap64 ((j : Int) + 1)))).toNat < n - (intOf (.int .i64 (j : Int))).toNat := by
  rw [h]; exact hl
theorem lt_two {k : Nat} (h : k < 2) : decide ((k : Int) < 2) = true := by simp; omega
theorem step_less {j n : Nat} (h : j < n) : n - (j + 1) < n - j := by omega
end Go.Proofs.Ytlnbjpabcldmnaa
