/- Texts of this proof, together: RulS, RulT, RulU. -/
import Derived.Test.YtoogegpkgohffaaSk
import Derived.Test.YtoogegpkgohffaaSl
namespace Go.Proofs.Ytoogegpkgohffaa
set_option linter.unusedVariables false
set_option linter.unusedSimpArgs false
open Go.ChangeShapes Go.WideShapes Go.ChangeAt Go.RowKit Go.PlainAid
attribute [local go_sem ↓] Go.wp_at_zero Go.wp_at_succ
theorem TabC.newer {w : World} {B p : Nat} {v : Value} {t : Tm} (h : TabC w B p v t) : ¬ footC p v w.heap.size := by
  rintro (e | e)
  · have := h.box.1; omega
  · have := (h.row.lt _ e).2; omega
theorem TabD.newer {w : World} {B p : Nat} {v : Value} {t : Tm} (h : TabD w B p v t) : ¬ footC p v w.heap.size := by
  rintro (e | e)
  · have := h.box.1; omega
  · have := (h.row.lt _ e).2; omega
theorem foot_kept {w : World} {p b : Nat} {v v' : Value} (h : ¬ footC p v b) (hb : b < w.heap.size) (ho : v'.ownBlock = v.ownBlock ∨ ∃ g, v'.ownBlock = some g ∧ w.heap.size ≤ g) : ¬ footC p v' b := by
  rintro (e | e)
  · exact h (.inl e)
  · rcases ho with ho | ⟨g, ho, hg⟩
    · exact h (.inr (ho.symm.trans e))
    · rw [e] at ho
      have : b = g := by simpa using ho
      omega
theorem TabC.after {a w w' : World} {B p : Nat} {v : Value} {t : Tm} (T : TabC w B p v t) (hB : a.heap.size ≤ B) (b : Below a.heap.size a w) (bs : Beside (footC p v) w w') : Below a.heap.size a w' :=
  b.trans (bs.below (fun k _ h => by rcases h with rfl | h; exact Nat.le_trans hB T.low; exact Nat.le_trans hB (T.row.lt k h).1) b.size)
theorem Box11.keep {w w' : World} {b : Nat} {v0 v1 v2 v3 v4 v5 v6 v7 v8 v9 v10 : Value} (h : Box11 w b v0 v1 v2 v3 v4 v5 v6 v7 v8 v9 v10) (hs : w.heap.size ≤ w'.heap.size) (hb : w'.heap[b]? = w.heap[b]?) : Box11 w' b v0 v1 v2 v3 v4 v5 v6 v7 v8 v9 v10 := by
  obtain ⟨h, h0, h1, h2, h3, h4, h5, h6, h7, h8, h9, h10⟩ := h
  have e : ∀ i : Nat, w'.cell? ⟨b, i, none⟩ = w.cell? ⟨b, i, none⟩ := fun i => World.cell?_of_block (w := w) hb
  exact ⟨Nat.lt_of_lt_of_le h hs, (e 0).trans h0, (e 1).trans h1, (e 2).trans h2, (e 3).trans h3, (e 4).trans h4, (e 5).trans h5, (e 6).trans h6, (e 7).trans h7, (e 8).trans h8, (e 9).trans h9, (e 10).trans h10⟩
def tm0 : Tm := ⟨151587081, 167772160, 8, []⟩
def ruA : Ru := ⟨2, 0, 0, 0, 0, 0, 0, 1000, 1999, 0, 0⟩
def ruB : Ru := ⟨3, 6, 0, 0, 0, 0, 151587081, 1500, 1500, 167772165, 80⟩
def ruC : Ru := ⟨3, 6, 0, 0, 0, 0, 151587081, 2000, 2000, 167772165, 80⟩
def ruA2 : Ru := ⟨2, 0, 0, 0, 0, 0, 151587081, 1000, 1999, 0, 0⟩
def tm1 : Tm := ⟨151587081, 167772160, 8, [ruA]⟩
def tm2 : Tm := ⟨151587081, 167772160, 8, [ruC, ruA]⟩
theorem ex_1 : ruAddE tm0 0 ruA = 0 ∧ ruAddT tm0 0 ruA = tm1 := ⟨by decide, rfl⟩
theorem ex_2 : ruAddE tm1 0 ruB = 11 ∧ ruAddT tm1 0 ruB = tm1 := ⟨by decide, rfl⟩
theorem ex_3 : ruAddE tm1 0 ruC = 0 ∧ ruAddT tm1 0 ruC = tm2 := ⟨by decide, rfl⟩
theorem ex_4 : ruAddE tm2 0 ruC = 11 ∧ ruAddT tm2 0 ruC = tm2 := ⟨by decide, rfl⟩
theorem ex_5 : ruAddE tm2 3 ruA2 = 2 ∧ ruAddT tm2 3 ruA2 = tm2 := ⟨by decide, rfl⟩
theorem ex_6 : ruDelE tm2 2 = 2 ∧ ruDelT tm2 2 = tm2 := ⟨by decide, rfl⟩
theorem ex_7 : srcRu tm2 17 167772161 16909060 = ruA2 ∧ hitRu tm2.rs (fitF 17 167772161 16909060) = true := ⟨rfl, by decide⟩
theorem ex_8 : findRu tm2.rs (fitS 6 151587081 2000) = ruC ∧ hitRu tm2.rs (fitS 6 151587081 2000) = true := ⟨rfl, by decide⟩
theorem ex_9 : outerB tm2 151587081 = true ∧ innerB tm2 167837953 = true ∧ ruNewE 151587081 167772160 8 = 0 := ⟨by decide, by decide, by decide⟩
theorem ok_A : ruA.Ok := by constructor <;> decide
theorem ok_B : ruB.Ok := by constructor <;> decide
theorem ok_C : ruC.Ok := by constructor <;> decide
theorem ok_A2 : ruA2.Ok := by constructor <;> decide
theorem TabC.cell {w : World} {B p b : Nat} {v : Value} {t : Tm} (h : TabC w B p v t) (hn : ¬ footC p v b) (i : Nat) (u : Value) : TabC (w.setCell ⟨b, i, none⟩ u) B p v t :=
  h.keep (by simp) (Below.heap_setCell _ _ _ _ (show p ≠ b from fun e => hn (.inl e.symm))) fun g hg => Below.heap_setCell _ _ _ _ (show g ≠ b from fun e => hn (.inr (by rw [← e]; exact hg)))
theorem TabD.cell {w : World} {B p b : Nat} {v : Value} {t : Tm} (h : TabD w B p v t) (hn : ¬ footC p v b) (i : Nat) (u : Value) : TabD (w.setCell ⟨b, i, none⟩ u) B p v t :=
  h.keep (by simp) (Below.heap_setCell _ _ _ _ (show p ≠ b from fun e => hn (.inl e.symm))) fun g hg => Below.heap_setCell _ _ _ _ (show g ≠ b from fun e => hn (.inr (by rw [← e]; exact hg)))
theorem TabC.drew {w : World} {B p : Nat} {v : Value} {t : Tm} (h : TabC w B p v t) : TabC w.drew B p v t := h.on ((Below.refl _ _).drew)
theorem TabD.drew {w : World} {B p : Nat} {v : Value} {t : Tm} (h : TabD w B p v t) : TabD w.drew B p v t := h.on ((Below.refl _ _).drew)
theorem TabC.sizeB {w : World} {B p : Nat} {v : Value} {t : Tm} (h : TabC w B p v t) : B ≤ w.heap.size := Nat.le_of_lt (Nat.lt_of_le_of_lt h.low h.box.1)
theorem TabD.sizeB {w : World} {B p : Nat} {v : Value} {t : Tm} (h : TabD w B p v t) : B ≤ w.heap.size := Nat.le_of_lt (Nat.lt_of_le_of_lt h.low h.box.1)
/-- What holds of a table's values. -/
structure Tm.Good (t : Tm) : Prop where
  own1 : t.own < 4294967296
  ip1 : t.ip < 4294967296
  bits : -9223372036854775808 ≤ t.bits ∧ t.bits ≤ 9223372036854775807
  few : t.rs.length ≤ 32
  all : ∀ r ∈ t.rs, r.Ok
theorem statC_ (t : Tm) (B p : Nat) (v : Value) (w : World) (H : TabC w B p v t) (G : t.Good) (pr ep : Int) (ea : Nat) : Calls Try.prog 27 #[.pointer (some ⟨p, 0, none⟩), .int .u8 pr, .agg #[.int .u32 (ea : Int), .int .u16 ep]] w fun e w' => e = .returned (.tuple #[.agg #[.int .i64 (findRu t.rs (fitS pr ea ep)).k, .int .u8 (findRu t.rs (fitS pr ea ep)).pr, .int .u32 ((findRu t.rs (fitS pr ea ep)).si : Int), .int .i64 (findRu t.rs (fitS pr ea ep)).sb, .int .u32 ((findRu t.rs (fitS pr ea ep)).di : Int), .int .i64 (findRu t.rs (fitS pr ea ep)).db, .int .u32 ((findRu t.rs (fitS pr ea ep)).ex : Int), .int .u16 (findRu t.rs (fitS pr ea ep)).fr, .int .u16 (findRu t.rs (fitS pr ea ep)).to, .int .u32 ((findRu t.rs (fitS pr ea ep)).ii : Int), .int .u16 (findRu t.rs (fitS pr ea ep)).ip], .bool (hitRu t.rs (fitS pr ea ep))]) ∧ Below w.heap.size w w' := by
  obtain ⟨a, cap, rfl⟩ := H.row.slice
  exact staticC_ t pr ep ea p cap a w H.box H.row.at.2 (by have := G.few; omega)
theorem ownTC_ (t : Tm) (B p : Nat) (v : Value) (w : World) (H : TabC w B p v t) (G : t.Good) (pr ep : Int) (ea : Nat) : Calls Try.prog 28 #[.pointer (some ⟨p, 0, none⟩), .int .u8 pr, .agg #[.int .u32 (ea : Int), .int .u16 ep]] w fun e w' => e = .returned (.tuple #[.agg #[.int .i64 (findRu t.rs (fitO pr ea ep)).k, .int .u8 (findRu t.rs (fitO pr ea ep)).pr, .int .u32 ((findRu t.rs (fitO pr ea ep)).si : Int), .int .i64 (findRu t.rs (fitO pr ea ep)).sb, .int .u32 ((findRu t.rs (fitO pr ea ep)).di : Int), .int .i64 (findRu t.rs (fitO pr ea ep)).db, .int .u32 ((findRu t.rs (fitO pr ea ep)).ex : Int), .int .u16 (findRu t.rs (fitO pr ea ep)).fr, .int .u16 (findRu t.rs (fitO pr ea ep)).to, .int .u32 ((findRu t.rs (fitO pr ea ep)).ii : Int), .int .u16 (findRu t.rs (fitO pr ea ep)).ip], .bool (hitRu t.rs (fitO pr ea ep))]) ∧ Below w.heap.size w w' := by
  obtain ⟨a, cap, rfl⟩ := H.row.slice
  exact ownC_ t pr ep ea p cap a w H.box H.row.at.2 (by have := G.few; omega)
theorem sourC_ (t : Tm) (B p : Nat) (v : Value) (w : World) (H : TabC w B p v t) (G : t.Good) (pr sp dp : Int) (sa da : Nat) (s1 : sa < 4294967296) (d1 : da < 4294967296) : Calls Try.prog 29 #[.pointer (some ⟨p, 0, none⟩), .agg #[.int .u8 pr, .int .u32 (sa : Int), .int .u16 sp, .int .u32 (da : Int), .int .u16 dp]] w fun e w' => e = .returned (.tuple #[.agg #[.int .i64 (srcRu t pr sa da).k, .int .u8 (srcRu t pr sa da).pr, .int .u32 ((srcRu t pr sa da).si : Int), .int .i64 (srcRu t pr sa da).sb, .int .u32 ((srcRu t pr sa da).di : Int), .int .i64 (srcRu t pr sa da).db, .int .u32 ((srcRu t pr sa da).ex : Int), .int .u16 (srcRu t pr sa da).fr, .int .u16 (srcRu t pr sa da).to, .int .u32 ((srcRu t pr sa da).ii : Int), .int .u16 (srcRu t pr sa da).ip], .bool (hitRu t.rs (fitF pr sa da))]) ∧ Below w.heap.size w w' := by
  obtain ⟨a, cap, rfl⟩ := H.row.slice
  exact sourceC_ t pr sp dp sa da p cap a w H.box H.row.at.2 (by have := G.few; omega) G.all s1 d1
theorem outeC_ (t : Tm) (B p : Nat) (v : Value) (w : World) (H : TabC w B p v t) (G : t.Good) (ad : Nat) : Calls Try.prog 25 #[.pointer (some ⟨p, 0, none⟩), .int .u32 (ad : Int)] w fun e w' => e = .returned (.bool (outerB t ad)) ∧ Below w.heap.size w w' := by
  obtain ⟨a, cap, rfl⟩ := H.row.slice
  exact outerAtC_ t ad p cap a w H.box H.row.at.2 (by have := G.few; omega)
theorem inneC_ (t : Tm) (B p : Nat) (v : Value) (w : World) (H : TabC w B p v t) (G : t.Good) (ad : Nat) (h : ad < 4294967296) : Calls Try.prog 23 #[.pointer (some ⟨p, 0, none⟩), .int .u32 (ad : Int)] w fun e w' => e = .returned (.bool (innerB t ad)) ∧ Below w.heap.size w w' := inner_ t ad p v w H.box h G.ip1 G.bits
theorem checC_ (t : Tm) (B p : Nat) (v : Value) (w : World) (H : TabC w B p v t) (G : t.Good) (r : Ru) (hr : r.Ok) : Calls Try.prog 13 #[.pointer (some ⟨p, 0, none⟩), .agg #[.int .i64 r.k, .int .u8 r.pr, .int .u32 (r.si : Int), .int .i64 r.sb, .int .u32 (r.di : Int), .int .i64 r.db, .int .u32 (r.ex : Int), .int .u16 r.fr, .int .u16 r.to, .int .u32 (r.ii : Int), .int .u16 r.ip]] w fun e w' => e = .returned (.int .i64 (ruCheckE t r)) ∧ Below w.heap.size w w' := check_ t r p v w H.box G.ip1 G.bits hr
theorem statD_ (t : Tm) (B p : Nat) (v : Value) (w : World) (H : TabD w B p v t) (G : t.Good) (pr ep : Int) (ea : Nat) : Calls Try.prog 48 #[.pointer (some ⟨p, 0, none⟩), .int .u8 pr, .agg #[.int .u32 (ea : Int), .int .u16 ep]] w fun e w' => e = .returned (.tuple #[.agg #[.int .i64 (findRu t.rs (fitS pr ea ep)).k, .int .u8 (findRu t.rs (fitS pr ea ep)).pr, .int .u32 ((findRu t.rs (fitS pr ea ep)).si : Int), .int .i64 (findRu t.rs (fitS pr ea ep)).sb, .int .u32 ((findRu t.rs (fitS pr ea ep)).di : Int), .int .i64 (findRu t.rs (fitS pr ea ep)).db, .int .u32 ((findRu t.rs (fitS pr ea ep)).ex : Int), .int .u16 (findRu t.rs (fitS pr ea ep)).fr, .int .u16 (findRu t.rs (fitS pr ea ep)).to, .int .u32 ((findRu t.rs (fitS pr ea ep)).ii : Int), .int .u16 (findRu t.rs (fitS pr ea ep)).ip], .bool (hitRu t.rs (fitS pr ea ep))]) ∧ Below w.heap.size w w' := by
  obtain ⟨a, cap, rfl⟩ := H.row.slice
  exact rstaticR_ t pr ep ea p cap a w H.box H.row.at.2 (by have := G.few; omega)
theorem ownTD_ (t : Tm) (B p : Nat) (v : Value) (w : World) (H : TabD w B p v t) (G : t.Good) (pr ep : Int) (ea : Nat) : Calls Try.prog 49 #[.pointer (some ⟨p, 0, none⟩), .int .u8 pr, .agg #[.int .u32 (ea : Int), .int .u16 ep]] w fun e w' => e = .returned (.tuple #[.agg #[.int .i64 (findRu t.rs (fitO pr ea ep)).k, .int .u8 (findRu t.rs (fitO pr ea ep)).pr, .int .u32 ((findRu t.rs (fitO pr ea ep)).si : Int), .int .i64 (findRu t.rs (fitO pr ea ep)).sb, .int .u32 ((findRu t.rs (fitO pr ea ep)).di : Int), .int .i64 (findRu t.rs (fitO pr ea ep)).db, .int .u32 ((findRu t.rs (fitO pr ea ep)).ex : Int), .int .u16 (findRu t.rs (fitO pr ea ep)).fr, .int .u16 (findRu t.rs (fitO pr ea ep)).to, .int .u32 ((findRu t.rs (fitO pr ea ep)).ii : Int), .int .u16 (findRu t.rs (fitO pr ea ep)).ip], .bool (hitRu t.rs (fitO pr ea ep))]) ∧ Below w.heap.size w w' := by
  obtain ⟨a, cap, rfl⟩ := H.row.slice
  exact rownR_ t pr ep ea p cap a w H.box H.row.at.2 (by have := G.few; omega)
theorem sourD_ (t : Tm) (B p : Nat) (v : Value) (w : World) (H : TabD w B p v t) (G : t.Good) (pr sp dp : Int) (sa da : Nat) (s1 : sa < 4294967296) (d1 : da < 4294967296) : Calls Try.prog 50 #[.pointer (some ⟨p, 0, none⟩), .agg #[.int .u8 pr, .int .u32 (sa : Int), .int .u16 sp, .int .u32 (da : Int), .int .u16 dp]] w fun e w' => e = .returned (.tuple #[.agg #[.int .i64 (srcRu t pr sa da).k, .int .u8 (srcRu t pr sa da).pr, .int .u32 ((srcRu t pr sa da).si : Int), .int .i64 (srcRu t pr sa da).sb, .int .u32 ((srcRu t pr sa da).di : Int), .int .i64 (srcRu t pr sa da).db, .int .u32 ((srcRu t pr sa da).ex : Int), .int .u16 (srcRu t pr sa da).fr, .int .u16 (srcRu t pr sa da).to, .int .u32 ((srcRu t pr sa da).ii : Int), .int .u16 (srcRu t pr sa da).ip], .bool (hitRu t.rs (fitF pr sa da))]) ∧ Below w.heap.size w w' := by
  obtain ⟨a, cap, rfl⟩ := H.row.slice
  exact rsourceR_ t pr sp dp sa da p cap a w H.box H.row.at.2 (by have := G.few; omega) G.all s1 d1
theorem outeD_ (t : Tm) (B p : Nat) (v : Value) (w : World) (H : TabD w B p v t) (G : t.Good) (ad : Nat) : Calls Try.prog 26 #[.pointer (some ⟨p, 0, none⟩), .int .u32 (ad : Int)] w fun e w' => e = .returned (.bool (outerB t ad)) ∧ Below w.heap.size w w' := by
  obtain ⟨a, cap, rfl⟩ := H.row.slice
  exact routerR_ t ad p cap a w H.box H.row.at.2 (by have := G.few; omega)
theorem inneD_ (t : Tm) (B p : Nat) (v : Value) (w : World) (H : TabD w B p v t) (G : t.Good) (ad : Nat) (h : ad < 4294967296) : Calls Try.prog 24 #[.pointer (some ⟨p, 0, none⟩), .int .u32 (ad : Int)] w fun e w' => e = .returned (.bool (innerB t ad)) ∧ Below w.heap.size w w' := rinnerR_ t ad p v w H.box h G.ip1 G.bits
theorem checD_ (t : Tm) (B p : Nat) (v : Value) (w : World) (H : TabD w B p v t) (G : t.Good) (r : Ru) (hr : r.Ok) : Calls Try.prog 14 #[.pointer (some ⟨p, 0, none⟩), .agg #[.int .i64 r.k, .int .u8 r.pr, .int .u32 (r.si : Int), .int .i64 r.sb, .int .u32 (r.di : Int), .int .i64 r.db, .int .u32 (r.ex : Int), .int .u16 r.fr, .int .u16 r.to, .int .u32 (r.ii : Int), .int .u16 r.ip]] w fun e w' => e = .returned (.int .i64 (ruCheckE t r)) ∧ Below w.heap.size w w' := rcheckR_ t r p v w H.box G.ip1 G.bits hr
theorem addTC_ (t t2 : Tm) (B p : Nat) (v : Value) (w : World) (H : TabC w B p v t) (G : t.Good) (i : Int) (x : Ru) (hr : x.Ok) (i0 : -9223372036854775808 ≤ i) (i1 : i ≤ 9223372036854775807) (E : Int) (he : ruAddE t i x = E ∧ ruAddT t i x = t2) : Calls Try.prog 15 #[.pointer (some ⟨p, 0, none⟩), .int .i64 i, .agg #[.int .i64 x.k, .int .u8 x.pr, .int .u32 (x.si : Int), .int .i64 x.sb, .int .u32 (x.di : Int), .int .i64 x.db, .int .u32 (x.ex : Int), .int .u16 x.fr, .int .u16 x.to, .int .u32 (x.ii : Int), .int .u16 x.ip]] w fun e w' => e = .returned (.int .i64 (E)) ∧ ∃ v', TabC w' B p v' t2 ∧ Beside (footC p v) w w' ∧ (v'.ownBlock = v.ownBlock ∨ ∃ g, v'.ownBlock = some g ∧ w.heap.size ≤ g) := by
  have h := addC_ t B p v i x w H H.sizeB G.few G.ip1 G.bits hr i0 i1
  rw [he.1, he.2] at h
  exact h
theorem delTC_ (t t2 : Tm) (B p : Nat) (v : Value) (w : World) (H : TabC w B p v t) (G : t.Good) (i : Int) (E : Int) (he : ruDelE t i = E ∧ ruDelT t i = t2) : Calls Try.prog 17 #[.pointer (some ⟨p, 0, none⟩), .int .i64 i] w fun e w' => e = .returned (.int .i64 (E)) ∧ ∃ v', TabC w' B p v' t2 ∧ Beside (footC p v) w w' ∧ (v'.ownBlock = v.ownBlock ∨ ∃ g, v'.ownBlock = some g ∧ w.heap.size ≤ g) := by
  have h := deleteC_ t B p v i w H (by have := G.few; omega)
  rw [he.1, he.2] at h
  exact h.mono fun e w' ⟨a, v', b, c, d⟩ => ⟨a, v', b, c, .inl d⟩
theorem Beside.foot {w w' : World} {p : Nat} (v : Value) (h : Beside (fun k => k = p) w w') : Beside (footC p v) w w' := h.mono fun _ _ e => .inl e
theorem tens_ (w : World) : Calls Try.prog 11 #[] w fun e w' => e = .returned (.agg #[.int .u32 167772160, .int .i64 8]) ∧ Below w.heap.size w w' := by
  go_enter Try.func11, Try.ntmps11
  go_wp2
  refine bodyPost_ret (v := .agg #[.int .u32 167772160, .int .i64 8]) (by simp [results, Try.results11, go_sem]) rfl ?_
  exact ⟨rfl, (Below.refl w.heap.size w).alloc (Nat.le_refl _) _⟩
theorem good_ (rs : List Ru) (h : rs.length ≤ 32) (ha : ∀ r ∈ rs, r.Ok) : Tm.Good ⟨151587081, 167772160, 8, rs⟩ := ⟨by show 151587081 < 4294967296; omega, by show 167772160 < 4294967296; omega, by show (-9223372036854775808 : Int) ≤ 8 ∧ (8 : Int) ≤ 9223372036854775807; omega, h, ha⟩
theorem good0 : tm0.Good := good_ _ (by decide) (by simp)
theorem good1 : tm1.Good := good_ _ (by decide) (by simp [ok_A])
theorem good2 : tm2.Good := good_ _ (by decide) (by simp [ok_A, ok_C])
theorem xa1 (B p : Nat) (v : Value) (w : World) (H : TabC w B p v tm0) : Calls Try.prog 15 #[.pointer (some ⟨p, 0, none⟩), .int .i64 0, .agg #[.int .i64 2, .int .u8 0, .int .u32 0, .int .i64 0, .int .u32 0, .int .i64 0, .int .u32 0, .int .u16 1000, .int .u16 1999, .int .u32 0, .int .u16 0]] w fun e w' => e = .returned (.int .i64 0) ∧ ∃ v', TabC w' B p v' tm1 ∧ Beside (footC p v) w w' ∧ (v'.ownBlock = v.ownBlock ∨ ∃ g, v'.ownBlock = some g ∧ w.heap.size ≤ g) := addTC_ tm0 tm1 B p v w H good0 0 ruA ok_A (by omega) (by omega) 0 ex_1
theorem xa2 (B p : Nat) (v : Value) (w : World) (H : TabC w B p v tm1) : Calls Try.prog 15 #[.pointer (some ⟨p, 0, none⟩), .int .i64 0, .agg #[.int .i64 3, .int .u8 6, .int .u32 0, .int .i64 0, .int .u32 0, .int .i64 0, .int .u32 151587081, .int .u16 1500, .int .u16 1500, .int .u32 167772165, .int .u16 80]] w fun e w' => e = .returned (.int .i64 11) ∧ ∃ v', TabC w' B p v' tm1 ∧ Beside (footC p v) w w' ∧ (v'.ownBlock = v.ownBlock ∨ ∃ g, v'.ownBlock = some g ∧ w.heap.size ≤ g) := addTC_ tm1 tm1 B p v w H good1 0 ruB ok_B (by omega) (by omega) 11 ex_2
theorem xa3 (B p : Nat) (v : Value) (w : World) (H : TabC w B p v tm1) : Calls Try.prog 15 #[.pointer (some ⟨p, 0, none⟩), .int .i64 0, .agg #[.int .i64 3, .int .u8 6, .int .u32 0, .int .i64 0, .int .u32 0, .int .i64 0, .int .u32 151587081, .int .u16 2000, .int .u16 2000, .int .u32 167772165, .int .u16 80]] w fun e w' => e = .returned (.int .i64 0) ∧ ∃ v', TabC w' B p v' tm2 ∧ Beside (footC p v) w w' ∧ (v'.ownBlock = v.ownBlock ∨ ∃ g, v'.ownBlock = some g ∧ w.heap.size ≤ g) := addTC_ tm1 tm2 B p v w H good1 0 ruC ok_C (by omega) (by omega) 0 ex_3
theorem xa4 (B p : Nat) (v : Value) (w : World) (H : TabC w B p v tm2) : Calls Try.prog 15 #[.pointer (some ⟨p, 0, none⟩), .int .i64 0, .agg #[.int .i64 3, .int .u8 6, .int .u32 0, .int .i64 0, .int .u32 0, .int .i64 0, .int .u32 151587081, .int .u16 2000, .int .u16 2000, .int .u32 167772165, .int .u16 80]] w fun e w' => e = .returned (.int .i64 11) ∧ ∃ v', TabC w' B p v' tm2 ∧ Beside (footC p v) w w' ∧ (v'.ownBlock = v.ownBlock ∨ ∃ g, v'.ownBlock = some g ∧ w.heap.size ≤ g) := addTC_ tm2 tm2 B p v w H good2 0 ruC ok_C (by omega) (by omega) 11 ex_4
theorem xa5 (B p : Nat) (v : Value) (w : World) (H : TabC w B p v tm2) : Calls Try.prog 15 #[.pointer (some ⟨p, 0, none⟩), .int .i64 3, .agg #[.int .i64 2, .int .u8 0, .int .u32 0, .int .i64 0, .int .u32 0, .int .i64 0, .int .u32 151587081, .int .u16 1000, .int .u16 1999, .int .u32 0, .int .u16 0]] w fun e w' => e = .returned (.int .i64 2) ∧ ∃ v', TabC w' B p v' tm2 ∧ Beside (footC p v) w w' ∧ (v'.ownBlock = v.ownBlock ∨ ∃ g, v'.ownBlock = some g ∧ w.heap.size ≤ g) := addTC_ tm2 tm2 B p v w H good2 3 ruA2 ok_A2 (by omega) (by omega) 2 ex_5
theorem xd6 (B p : Nat) (v : Value) (w : World) (H : TabC w B p v tm2) : Calls Try.prog 17 #[.pointer (some ⟨p, 0, none⟩), .int .i64 2] w fun e w' => e = .returned (.int .i64 2) ∧ ∃ v', TabC w' B p v' tm2 ∧ Beside (footC p v) w w' ∧ (v'.ownBlock = v.ownBlock ∨ ∃ g, v'.ownBlock = some g ∧ w.heap.size ≤ g) := delTC_ tm2 tm2 B p v w H good2 2 2 ex_6
theorem xs7 (B p : Nat) (v : Value) (w : World) (H : TabC w B p v tm2) : Calls Try.prog 29 #[.pointer (some ⟨p, 0, none⟩), .agg #[.int .u8 17, .int .u32 167772161, .int .u16 5, .int .u32 16909060, .int .u16 53]] w fun e w' => e = .returned (.tuple #[.agg #[.int .i64 2, .int .u8 0, .int .u32 0, .int .i64 0, .int .u32 0, .int .i64 0, .int .u32 151587081, .int .u16 1000, .int .u16 1999, .int .u32 0, .int .u16 0], .bool true]) ∧ Below w.heap.size w w' := by
  have h := sourC_ tm2 B p v w H good2 17 5 53 167772161 16909060 (by omega) (by omega)
  rw [ex_7.1, ex_7.2] at h
  exact h
theorem xs8 (B p : Nat) (v : Value) (w : World) (H : TabC w B p v tm2) : Calls Try.prog 27 #[.pointer (some ⟨p, 0, none⟩), .int .u8 6, .agg #[.int .u32 151587081, .int .u16 2000]] w fun e w' => e = .returned (.tuple #[.agg #[.int .i64 3, .int .u8 6, .int .u32 0, .int .i64 0, .int .u32 0, .int .i64 0, .int .u32 151587081, .int .u16 2000, .int .u16 2000, .int .u32 167772165, .int .u16 80], .bool true]) ∧ Below w.heap.size w w' := by
  have h := statC_ tm2 B p v w H good2 6 2000 151587081
  rw [ex_8.1, ex_8.2] at h
  exact h
theorem xo9 (B p : Nat) (v : Value) (w : World) (H : TabC w B p v tm2) : Calls Try.prog 25 #[.pointer (some ⟨p, 0, none⟩), .int .u32 151587081] w fun e w' => e = .returned (.bool true) ∧ Below w.heap.size w w' := by
  have h := outeC_ tm2 B p v w H good2 151587081
  rw [ex_9.1] at h
  exact h
theorem xi9 (B p : Nat) (v : Value) (w : World) (H : TabC w B p v tm2) : Calls Try.prog 23 #[.pointer (some ⟨p, 0, none⟩), .int .u32 167837953] w fun e w' => e = .returned (.bool true) ∧ Below w.heap.size w w' := by
  have h := inneC_ tm2 B p v w H good2 167837953 (by omega)
  rw [ex_9.2.1] at h
  exact h
theorem xn0 (w : World) : Calls Try.prog 10 #[.int .u32 151587081, .agg #[.int .u32 167772160, .int .i64 8]] w fun e w' => ∃ p, e = .returned (.tuple #[.pointer (some ⟨p, 0, none⟩), .int .i64 0]) ∧ TabC w' w.heap.size p (.slice none 0 0) tm0 ∧ Below w.heap.size w w' := by
  refine (newC_ 151587081 167772160 8 w (by omega) (by omega) (by omega)).mono ?_
  rintro e w' ⟨b, ⟨h, _⟩ | ⟨_, p, h, T⟩⟩
  · rw [ex_9.2.2] at h; cases h
  · exact ⟨p, h, T, b⟩
set_option maxHeartbeats 4000000 in
set_option maxRecDepth 100000 in
theorem ruled_ (w : World) :
    Calls Try.prog 9 #[] w fun e w' => e = .returned (.bool true) ∧ Below w.heap.size w w' := by
  go_enter Try.func9, Try.ntmps9
  have B1 := Below.refl w.heap.size w
  go_wp2_with fail
  refine (tens_ _).mono ?_; rintro e w1 ⟨rfl, x1⟩
  have B2 := B1.trans (x1.mono B1.size)
  clear B1 x1
  go_wp2_with fail
  refine (xn0 _).mono ?_; rintro e w2 ⟨p, rfl, T0, b2⟩
  have B90 := B2.trans (b2.mono B2.size)
  have hb0 := B2.size
  clear B2 b2
  have z2 := B90.size
  go_upto_region 4 with fail
  have nfAT_3 : ¬ footC p (.slice none 0 0) (w2.heap.size) := by
    have hs_ : w2.heap.size = w2.heap.size := by simp
    rw [← hs_]
    exact T0.newer
  have T_4 := T0.on ((Below.refl w2.heap.size w2).alloc (Nat.le_refl _) (.cells #[.int .i64 2, .int .u8 0, .int .u32 0, .int .i64 0, .int .u32 0, .int .i64 0, .int .u32 0, .int .u16 1000, .int .u16 1999, .int .u32 0, .int .u16 0] 42))
  clear T0
  have A_5 := Box11.make w2 (.int .i64 2) (.int .u8 0) (.int .u32 0) (.int .i64 0) (.int .u32 0) (.int .i64 0) (.int .u32 0) (.int .u16 1000) (.int .u16 1999) (.int .u32 0) (.int .u16 0) 42
  have B6 := B90.alloc B90.size (.cells #[.int .i64 2, .int .u8 0, .int .u32 0, .int .i64 0, .int .u32 0, .int .i64 0, .int .u32 0, .int .u16 1000, .int .u16 1999, .int .u32 0, .int .u16 0] 42)
  clear B90
  have fzA_7 : ∀ i, (w2.alloc (.cells #[.int .i64 2, .int .u8 0, .int .u32 0, .int .i64 0, .int .u32 0, .int .i64 0, .int .u32 0, .int .u16 1000, .int .u16 1999, .int .u32 0, .int .u16 0] 42)).frozen? ⟨w2.heap.size, i, none⟩ = false := by intro i; simp [go_sem]
  have nfBT_8 : ¬ footC p (.slice none 0 0) (w2.heap.size + 1) := by
    have hs_ : (w2.alloc (.cells #[.int .i64 2, .int .u8 0, .int .u32 0, .int .i64 0, .int .u32 0, .int .i64 0, .int .u32 0, .int .u16 1000, .int .u16 1999, .int .u32 0, .int .u16 0] 42)).heap.size = w2.heap.size + 1 := by simp
    rw [← hs_]
    exact T_4.newer
  have T_9 := T_4.on ((Below.refl (w2.alloc (.cells #[.int .i64 2, .int .u8 0, .int .u32 0, .int .i64 0, .int .u32 0, .int .i64 0, .int .u32 0, .int .u16 1000, .int .u16 1999, .int .u32 0, .int .u16 0] 42)).heap.size (w2.alloc (.cells #[.int .i64 2, .int .u8 0, .int .u32 0, .int .i64 0, .int .u32 0, .int .i64 0, .int .u32 0, .int .u16 1000, .int .u16 1999, .int .u32 0, .int .u16 0] 42))).alloc (Nat.le_refl _) (.cells #[.int .i64 3, .int .u8 6, .int .u32 0, .int .i64 0, .int .u32 0, .int .i64 0, .int .u32 151587081, .int .u16 1500, .int .u16 1500, .int .u32 167772165, .int .u16 80] 42))
  clear T_4
  have fzA_10 : ∀ i, ((w2.alloc (.cells #[.int .i64 2, .int .u8 0, .int .u32 0, .int .i64 0, .int .u32 0, .int .i64 0, .int .u32 0, .int .u16 1000, .int .u16 1999, .int .u32 0, .int .u16 0] 42)).alloc (.cells #[.int .i64 3, .int .u8 6, .int .u32 0, .int .i64 0, .int .u32 0, .int .i64 0, .int .u32 151587081, .int .u16 1500, .int .u16 1500, .int .u32 167772165, .int .u16 80] 42)).frozen? ⟨w2.heap.size, i, none⟩ = false := fun i => (((Below.refl (w2.alloc (.cells #[.int .i64 2, .int .u8 0, .int .u32 0, .int .i64 0, .int .u32 0, .int .i64 0, .int .u32 0, .int .u16 1000, .int .u16 1999, .int .u32 0, .int .u16 0] 42)).heap.size (w2.alloc (.cells #[.int .i64 2, .int .u8 0, .int .u32 0, .int .i64 0, .int .u32 0, .int .i64 0, .int .u32 0, .int .u16 1000, .int .u16 1999, .int .u32 0, .int .u16 0] 42))).alloc (Nat.le_refl _) (.cells #[.int .i64 3, .int .u8 6, .int .u32 0, .int .i64 0, .int .u32 0, .int .i64 0, .int .u32 151587081, .int .u16 1500, .int .u16 1500, .int .u32 167772165, .int .u16 80] 42)).frozen (p := ⟨_, i, none⟩) A_5.1).trans (fzA_7 i)
  clear fzA_7
  have A_11 := A_5.past (o := (.cells #[.int .i64 3, .int .u8 6, .int .u32 0, .int .i64 0, .int .u32 0, .int .i64 0, .int .u32 151587081, .int .u16 1500, .int .u16 1500, .int .u32 167772165, .int .u16 80] 42))
  have hs_ : (w2.alloc (.cells #[.int .i64 2, .int .u8 0, .int .u32 0, .int .i64 0, .int .u32 0, .int .i64 0, .int .u32 0, .int .u16 1000, .int .u16 1999, .int .u32 0, .int .u16 0] 42)).heap.size = w2.heap.size + 1 := by simp
  have B_12 := Box11.make (w2.alloc (.cells #[.int .i64 2, .int .u8 0, .int .u32 0, .int .i64 0, .int .u32 0, .int .i64 0, .int .u32 0, .int .u16 1000, .int .u16 1999, .int .u32 0, .int .u16 0] 42)) (.int .i64 3) (.int .u8 6) (.int .u32 0) (.int .i64 0) (.int .u32 0) (.int .i64 0) (.int .u32 151587081) (.int .u16 1500) (.int .u16 1500) (.int .u32 167772165) (.int .u16 80) 42
  rw [hs_] at B_12
  clear hs_
  have B13 := B6.alloc B6.size (.cells #[.int .i64 3, .int .u8 6, .int .u32 0, .int .i64 0, .int .u32 0, .int .i64 0, .int .u32 151587081, .int .u16 1500, .int .u16 1500, .int .u32 167772165, .int .u16 80] 42)
  clear A_5 B6
  obtain ⟨u3, hu3⟩ : ∃ x_ : World, x_ = (w2.alloc (.cells #[.int .i64 2, .int .u8 0, .int .u32 0, .int .i64 0, .int .u32 0, .int .i64 0, .int .u32 0, .int .u16 1000, .int .u16 1999, .int .u32 0, .int .u16 0] 42)).alloc (.cells #[.int .i64 3, .int .u8 6, .int .u32 0, .int .i64 0, .int .u32 0, .int .i64 0, .int .u32 151587081, .int .u16 1500, .int .u16 1500, .int .u32 167772165, .int .u16 80] 42) := ⟨_, rfl⟩
  rw [← hu3] at A_11 B_12 fzA_10 T_9 B13 ⊢
  clear hu3
  obtain ⟨_, a1_0, a1_1, a1_2, a1_3, a1_4, a1_5, a1_6, a1_7, a1_8, a1_9, a1_10⟩ := id A_11
  obtain ⟨_, b2_0, b2_1, b2_2, b2_3, b2_4, b2_5, b2_6, b2_7, b2_8, b2_9, b2_10⟩ := id B_12
  go_upto_region 5 with fail
  clear a1_0 a1_1 a1_2 a1_3 a1_4 a1_5 a1_6 a1_7 a1_8 a1_9 a1_10 b2_0 b2_1 b2_2 b2_3 b2_4 b2_5 b2_6 b2_7 b2_8 b2_9 b2_10
  have a1 : w2.heap.size < u3.heap.size := A_11.1
  have a2 : w2.heap.size + 1 < u3.heap.size := B_12.1
  have a3 : w.heap.size ≤ u3.heap.size := B13.size
  have ne12 : ¬ (w2.heap.size = w2.heap.size + 1) := by omega
  have ne12_ : ¬ (w2.heap.size + 1 = w2.heap.size) := by omega
  have ne22 : ¬ (w2.heap.size = u3.heap.size) := by omega
  have ne22_ : ¬ (u3.heap.size = w2.heap.size) := by omega
  have ne32 : ¬ (w2.heap.size + 1 = u3.heap.size) := by omega
  have ne32_ : ¬ (u3.heap.size = w2.heap.size + 1) := by omega
  have nfCT_14 : ¬ footC p (.slice none 0 0) (u3.heap.size) := by
    have hs_ : u3.heap.size = u3.heap.size := by simp
    rw [← hs_]
    exact T_9.newer
  have T_15 := T_9.on ((Below.refl u3.heap.size u3).alloc (Nat.le_refl _) (.cells #[.int .i64 3, .int .u8 6, .int .u32 0, .int .i64 0, .int .u32 0, .int .i64 0, .int .u32 151587081, .int .u16 1500, .int .u16 1500, .int .u32 167772165, .int .u16 80] 42))
  clear T_9
  have fzA_16 : ∀ i, (u3.alloc (.cells #[.int .i64 3, .int .u8 6, .int .u32 0, .int .i64 0, .int .u32 0, .int .i64 0, .int .u32 151587081, .int .u16 1500, .int .u16 1500, .int .u32 167772165, .int .u16 80] 42)).frozen? ⟨w2.heap.size, i, none⟩ = false := fun i => (((Below.refl u3.heap.size u3).alloc (Nat.le_refl _) (.cells #[.int .i64 3, .int .u8 6, .int .u32 0, .int .i64 0, .int .u32 0, .int .i64 0, .int .u32 151587081, .int .u16 1500, .int .u16 1500, .int .u32 167772165, .int .u16 80] 42)).frozen (p := ⟨_, i, none⟩) A_11.1).trans (fzA_10 i)
  clear fzA_10
  have A_17 := A_11.past (o := (.cells #[.int .i64 3, .int .u8 6, .int .u32 0, .int .i64 0, .int .u32 0, .int .i64 0, .int .u32 151587081, .int .u16 1500, .int .u16 1500, .int .u32 167772165, .int .u16 80] 42))
  have B_18 := B_12.past (o := (.cells #[.int .i64 3, .int .u8 6, .int .u32 0, .int .i64 0, .int .u32 0, .int .i64 0, .int .u32 151587081, .int .u16 1500, .int .u16 1500, .int .u32 167772165, .int .u16 80] 42))
  have C_19 := Box11.make u3 (.int .i64 3) (.int .u8 6) (.int .u32 0) (.int .i64 0) (.int .u32 0) (.int .i64 0) (.int .u32 151587081) (.int .u16 1500) (.int .u16 1500) (.int .u32 167772165) (.int .u16 80) 42
  have B20 := B13.alloc B13.size (.cells #[.int .i64 3, .int .u8 6, .int .u32 0, .int .i64 0, .int .u32 0, .int .i64 0, .int .u32 151587081, .int .u16 1500, .int .u16 1500, .int .u32 167772165, .int .u16 80] 42)
  clear A_11 B_12 B13
  have fzC_21 : ∀ i, (u3.alloc (.cells #[.int .i64 3, .int .u8 6, .int .u32 0, .int .i64 0, .int .u32 0, .int .i64 0, .int .u32 151587081, .int .u16 1500, .int .u16 1500, .int .u32 167772165, .int .u16 80] 42)).frozen? ⟨u3.heap.size, i, none⟩ = false := by intro i; simp [go_sem]
  obtain ⟨u6, hu6⟩ : ∃ x_ : World, x_ = u3.alloc (.cells #[.int .i64 3, .int .u8 6, .int .u32 0, .int .i64 0, .int .u32 0, .int .i64 0, .int .u32 151587081, .int .u16 1500, .int .u16 1500, .int .u32 167772165, .int .u16 80] 42) := ⟨_, rfl⟩
  rw [← hu6] at A_17 B_18 C_19 fzA_16 fzC_21 T_15 B20 ⊢
  clear hu6
  obtain ⟨_, a3_0, a3_1, a3_2, a3_3, a3_4, a3_5, a3_6, a3_7, a3_8, a3_9, a3_10⟩ := id A_17
  obtain ⟨_, b4_0, b4_1, b4_2, b4_3, b4_4, b4_5, b4_6, b4_7, b4_8, b4_9, b4_10⟩ := id B_18
  obtain ⟨_, c5_0, c5_1, c5_2, c5_3, c5_4, c5_5, c5_6, c5_7, c5_8, c5_9, c5_10⟩ := id C_19
  go_upto_region 6 with fail
  clear a3_0 a3_1 a3_2 a3_3 a3_4 a3_5 a3_6 a3_7 a3_8 a3_9 a3_10 b4_0 b4_1 b4_2 b4_3 b4_4 b4_5 b4_6 b4_7 b4_8 b4_9 b4_10 c5_0 c5_1 c5_2 c5_3 c5_4 c5_5 c5_6 c5_7 c5_8 c5_9 c5_10
  have T_22 := ((T_15.cell nfCT_14 7 (.int .u16 2000)).cell nfCT_14 8 (.int .u16 2000))
  clear T_15
  obtain ⟨_, a6_0, a6_1, a6_2, a6_3, a6_4, a6_5, a6_6, a6_7, a6_8, a6_9, a6_10⟩ := id A_17
  obtain ⟨_, b7_0, b7_1, b7_2, b7_3, b7_4, b7_5, b7_6, b7_7, b7_8, b7_9, b7_10⟩ := id B_18
  obtain ⟨_, c8_0, c8_1, c8_2, c8_3, c8_4, c8_5, c8_6, c8_7, c8_8, c8_9, c8_10⟩ := id C_19
  have B23 := ((B20.setCell (p := ⟨u3.heap.size, 7, none⟩) a3 (.int .u16 2000)).setCell (p := ⟨u3.heap.size, 8, none⟩) a3 (.int .u16 2000))
  have A_24 : Box11 ((u6.setCell ⟨u3.heap.size, 7, none⟩ (.int .u16 2000)).setCell ⟨u3.heap.size, 8, none⟩ (.int .u16 2000)) w2.heap.size (.int .i64 2) (.int .u8 0) (.int .u32 0) (.int .i64 0) (.int .u32 0) (.int .i64 0) (.int .u32 0) (.int .u16 1000) (.int .u16 1999) (.int .u32 0) (.int .u16 0) := ⟨by have := A_17.1; simpa using this, by simp [go_sem, a6_0, a6_1, a6_2, a6_3, a6_4, a6_5, a6_6, a6_7, a6_8, a6_9, a6_10, b7_0, b7_1, b7_2, b7_3, b7_4, b7_5, b7_6, b7_7, b7_8, b7_9, b7_10, c8_0, c8_1, c8_2, c8_3, c8_4, c8_5, c8_6, c8_7, c8_8, c8_9, c8_10], by simp [go_sem, a6_0, a6_1, a6_2, a6_3, a6_4, a6_5, a6_6, a6_7, a6_8, a6_9, a6_10, b7_0, b7_1, b7_2, b7_3, b7_4, b7_5, b7_6, b7_7, b7_8, b7_9, b7_10, c8_0, c8_1, c8_2, c8_3, c8_4, c8_5, c8_6, c8_7, c8_8, c8_9, c8_10], by simp [go_sem, a6_0, a6_1, a6_2, a6_3, a6_4, a6_5, a6_6, a6_7, a6_8, a6_9, a6_10, b7_0, b7_1, b7_2, b7_3, b7_4, b7_5, b7_6, b7_7, b7_8, b7_9, b7_10, c8_0, c8_1, c8_2, c8_3, c8_4, c8_5, c8_6, c8_7, c8_8, c8_9, c8_10], by simp [go_sem, a6_0, a6_1, a6_2, a6_3, a6_4, a6_5, a6_6, a6_7, a6_8, a6_9, a6_10, b7_0, b7_1, b7_2, b7_3, b7_4, b7_5, b7_6, b7_7, b7_8, b7_9, b7_10, c8_0, c8_1, c8_2, c8_3, c8_4, c8_5, c8_6, c8_7, c8_8, c8_9, c8_10], by simp [go_sem, a6_0, a6_1, a6_2, a6_3, a6_4, a6_5, a6_6, a6_7, a6_8, a6_9, a6_10, b7_0, b7_1, b7_2, b7_3, b7_4, b7_5, b7_6, b7_7, b7_8, b7_9, b7_10, c8_0, c8_1, c8_2, c8_3, c8_4, c8_5, c8_6, c8_7, c8_8, c8_9, c8_10], by simp [go_sem, a6_0, a6_1, a6_2, a6_3, a6_4, a6_5, a6_6, a6_7, a6_8, a6_9, a6_10, b7_0, b7_1, b7_2, b7_3, b7_4, b7_5, b7_6, b7_7, b7_8, b7_9, b7_10, c8_0, c8_1, c8_2, c8_3, c8_4, c8_5, c8_6, c8_7, c8_8, c8_9, c8_10], by simp [go_sem, a6_0, a6_1, a6_2, a6_3, a6_4, a6_5, a6_6, a6_7, a6_8, a6_9, a6_10, b7_0, b7_1, b7_2, b7_3, b7_4, b7_5, b7_6, b7_7, b7_8, b7_9, b7_10, c8_0, c8_1, c8_2, c8_3, c8_4, c8_5, c8_6, c8_7, c8_8, c8_9, c8_10], by simp [go_sem, a6_0, a6_1, a6_2, a6_3, a6_4, a6_5, a6_6, a6_7, a6_8, a6_9, a6_10, b7_0, b7_1, b7_2, b7_3, b7_4, b7_5, b7_6, b7_7, b7_8, b7_9, b7_10, c8_0, c8_1, c8_2, c8_3, c8_4, c8_5, c8_6, c8_7, c8_8, c8_9, c8_10], by simp [go_sem, a6_0, a6_1, a6_2, a6_3, a6_4, a6_5, a6_6, a6_7, a6_8, a6_9, a6_10, b7_0, b7_1, b7_2, b7_3, b7_4, b7_5, b7_6, b7_7, b7_8, b7_9, b7_10, c8_0, c8_1, c8_2, c8_3, c8_4, c8_5, c8_6, c8_7, c8_8, c8_9, c8_10], by simp [go_sem, a6_0, a6_1, a6_2, a6_3, a6_4, a6_5, a6_6, a6_7, a6_8, a6_9, a6_10, b7_0, b7_1, b7_2, b7_3, b7_4, b7_5, b7_6, b7_7, b7_8, b7_9, b7_10, c8_0, c8_1, c8_2, c8_3, c8_4, c8_5, c8_6, c8_7, c8_8, c8_9, c8_10], by simp [go_sem, a6_0, a6_1, a6_2, a6_3, a6_4, a6_5, a6_6, a6_7, a6_8, a6_9, a6_10, b7_0, b7_1, b7_2, b7_3, b7_4, b7_5, b7_6, b7_7, b7_8, b7_9, b7_10, c8_0, c8_1, c8_2, c8_3, c8_4, c8_5, c8_6, c8_7, c8_8, c8_9, c8_10]⟩
  have B_25 : Box11 ((u6.setCell ⟨u3.heap.size, 7, none⟩ (.int .u16 2000)).setCell ⟨u3.heap.size, 8, none⟩ (.int .u16 2000)) (w2.heap.size + 1) (.int .i64 3) (.int .u8 6) (.int .u32 0) (.int .i64 0) (.int .u32 0) (.int .i64 0) (.int .u32 151587081) (.int .u16 1500) (.int .u16 1500) (.int .u32 167772165) (.int .u16 80) := ⟨by have := B_18.1; simpa using this, by simp [go_sem, a6_0, a6_1, a6_2, a6_3, a6_4, a6_5, a6_6, a6_7, a6_8, a6_9, a6_10, b7_0, b7_1, b7_2, b7_3, b7_4, b7_5, b7_6, b7_7, b7_8, b7_9, b7_10, c8_0, c8_1, c8_2, c8_3, c8_4, c8_5, c8_6, c8_7, c8_8, c8_9, c8_10], by simp [go_sem, a6_0, a6_1, a6_2, a6_3, a6_4, a6_5, a6_6, a6_7, a6_8, a6_9, a6_10, b7_0, b7_1, b7_2, b7_3, b7_4, b7_5, b7_6, b7_7, b7_8, b7_9, b7_10, c8_0, c8_1, c8_2, c8_3, c8_4, c8_5, c8_6, c8_7, c8_8, c8_9, c8_10], by simp [go_sem, a6_0, a6_1, a6_2, a6_3, a6_4, a6_5, a6_6, a6_7, a6_8, a6_9, a6_10, b7_0, b7_1, b7_2, b7_3, b7_4, b7_5, b7_6, b7_7, b7_8, b7_9, b7_10, c8_0, c8_1, c8_2, c8_3, c8_4, c8_5, c8_6, c8_7, c8_8, c8_9, c8_10], by simp [go_sem, a6_0, a6_1, a6_2, a6_3, a6_4, a6_5, a6_6, a6_7, a6_8, a6_9, a6_10, b7_0, b7_1, b7_2, b7_3, b7_4, b7_5, b7_6, b7_7, b7_8, b7_9, b7_10, c8_0, c8_1, c8_2, c8_3, c8_4, c8_5, c8_6, c8_7, c8_8, c8_9, c8_10], by simp [go_sem, a6_0, a6_1, a6_2, a6_3, a6_4, a6_5, a6_6, a6_7, a6_8, a6_9, a6_10, b7_0, b7_1, b7_2, b7_3, b7_4, b7_5, b7_6, b7_7, b7_8, b7_9, b7_10, c8_0, c8_1, c8_2, c8_3, c8_4, c8_5, c8_6, c8_7, c8_8, c8_9, c8_10], by simp [go_sem, a6_0, a6_1, a6_2, a6_3, a6_4, a6_5, a6_6, a6_7, a6_8, a6_9, a6_10, b7_0, b7_1, b7_2, b7_3, b7_4, b7_5, b7_6, b7_7, b7_8, b7_9, b7_10, c8_0, c8_1, c8_2, c8_3, c8_4, c8_5, c8_6, c8_7, c8_8, c8_9, c8_10], by simp [go_sem, a6_0, a6_1, a6_2, a6_3, a6_4, a6_5, a6_6, a6_7, a6_8, a6_9, a6_10, b7_0, b7_1, b7_2, b7_3, b7_4, b7_5, b7_6, b7_7, b7_8, b7_9, b7_10, c8_0, c8_1, c8_2, c8_3, c8_4, c8_5, c8_6, c8_7, c8_8, c8_9, c8_10], by simp [go_sem, a6_0, a6_1, a6_2, a6_3, a6_4, a6_5, a6_6, a6_7, a6_8, a6_9, a6_10, b7_0, b7_1, b7_2, b7_3, b7_4, b7_5, b7_6, b7_7, b7_8, b7_9, b7_10, c8_0, c8_1, c8_2, c8_3, c8_4, c8_5, c8_6, c8_7, c8_8, c8_9, c8_10], by simp [go_sem, a6_0, a6_1, a6_2, a6_3, a6_4, a6_5, a6_6, a6_7, a6_8, a6_9, a6_10, b7_0, b7_1, b7_2, b7_3, b7_4, b7_5, b7_6, b7_7, b7_8, b7_9, b7_10, c8_0, c8_1, c8_2, c8_3, c8_4, c8_5, c8_6, c8_7, c8_8, c8_9, c8_10], by simp [go_sem, a6_0, a6_1, a6_2, a6_3, a6_4, a6_5, a6_6, a6_7, a6_8, a6_9, a6_10, b7_0, b7_1, b7_2, b7_3, b7_4, b7_5, b7_6, b7_7, b7_8, b7_9, b7_10, c8_0, c8_1, c8_2, c8_3, c8_4, c8_5, c8_6, c8_7, c8_8, c8_9, c8_10], by simp [go_sem, a6_0, a6_1, a6_2, a6_3, a6_4, a6_5, a6_6, a6_7, a6_8, a6_9, a6_10, b7_0, b7_1, b7_2, b7_3, b7_4, b7_5, b7_6, b7_7, b7_8, b7_9, b7_10, c8_0, c8_1, c8_2, c8_3, c8_4, c8_5, c8_6, c8_7, c8_8, c8_9, c8_10]⟩
  have C_26 : Box11 ((u6.setCell ⟨u3.heap.size, 7, none⟩ (.int .u16 2000)).setCell ⟨u3.heap.size, 8, none⟩ (.int .u16 2000)) u3.heap.size (.int .i64 3) (.int .u8 6) (.int .u32 0) (.int .i64 0) (.int .u32 0) (.int .i64 0) (.int .u32 151587081) (.int .u16 2000) (.int .u16 2000) (.int .u32 167772165) (.int .u16 80) := ⟨by have := C_19.1; simpa using this, by simp [go_sem, a6_0, a6_1, a6_2, a6_3, a6_4, a6_5, a6_6, a6_7, a6_8, a6_9, a6_10, b7_0, b7_1, b7_2, b7_3, b7_4, b7_5, b7_6, b7_7, b7_8, b7_9, b7_10, c8_0, c8_1, c8_2, c8_3, c8_4, c8_5, c8_6, c8_7, c8_8, c8_9, c8_10], by simp [go_sem, a6_0, a6_1, a6_2, a6_3, a6_4, a6_5, a6_6, a6_7, a6_8, a6_9, a6_10, b7_0, b7_1, b7_2, b7_3, b7_4, b7_5, b7_6, b7_7, b7_8, b7_9, b7_10, c8_0, c8_1, c8_2, c8_3, c8_4, c8_5, c8_6, c8_7, c8_8, c8_9, c8_10], by simp [go_sem, a6_0, a6_1, a6_2, a6_3, a6_4, a6_5, a6_6, a6_7, a6_8, a6_9, a6_10, b7_0, b7_1, b7_2, b7_3, b7_4, b7_5, b7_6, b7_7, b7_8, b7_9, b7_10, c8_0, c8_1, c8_2, c8_3, c8_4, c8_5, c8_6, c8_7, c8_8, c8_9, c8_10], by simp [go_sem, a6_0, a6_1, a6_2, a6_3, a6_4, a6_5, a6_6, a6_7, a6_8, a6_9, a6_10, b7_0, b7_1, b7_2, b7_3, b7_4, b7_5, b7_6, b7_7, b7_8, b7_9, b7_10, c8_0, c8_1, c8_2, c8_3, c8_4, c8_5, c8_6, c8_7, c8_8, c8_9, c8_10], by simp [go_sem, a6_0, a6_1, a6_2, a6_3, a6_4, a6_5, a6_6, a6_7, a6_8, a6_9, a6_10, b7_0, b7_1, b7_2, b7_3, b7_4, b7_5, b7_6, b7_7, b7_8, b7_9, b7_10, c8_0, c8_1, c8_2, c8_3, c8_4, c8_5, c8_6, c8_7, c8_8, c8_9, c8_10], by simp [go_sem, a6_0, a6_1, a6_2, a6_3, a6_4, a6_5, a6_6, a6_7, a6_8, a6_9, a6_10, b7_0, b7_1, b7_2, b7_3, b7_4, b7_5, b7_6, b7_7, b7_8, b7_9, b7_10, c8_0, c8_1, c8_2, c8_3, c8_4, c8_5, c8_6, c8_7, c8_8, c8_9, c8_10], by simp [go_sem, a6_0, a6_1, a6_2, a6_3, a6_4, a6_5, a6_6, a6_7, a6_8, a6_9, a6_10, b7_0, b7_1, b7_2, b7_3, b7_4, b7_5, b7_6, b7_7, b7_8, b7_9, b7_10, c8_0, c8_1, c8_2, c8_3, c8_4, c8_5, c8_6, c8_7, c8_8, c8_9, c8_10], by simp [go_sem, a6_0, a6_1, a6_2, a6_3, a6_4, a6_5, a6_6, a6_7, a6_8, a6_9, a6_10, b7_0, b7_1, b7_2, b7_3, b7_4, b7_5, b7_6, b7_7, b7_8, b7_9, b7_10, c8_0, c8_1, c8_2, c8_3, c8_4, c8_5, c8_6, c8_7, c8_8, c8_9, c8_10], by simp [go_sem, a6_0, a6_1, a6_2, a6_3, a6_4, a6_5, a6_6, a6_7, a6_8, a6_9, a6_10, b7_0, b7_1, b7_2, b7_3, b7_4, b7_5, b7_6, b7_7, b7_8, b7_9, b7_10, c8_0, c8_1, c8_2, c8_3, c8_4, c8_5, c8_6, c8_7, c8_8, c8_9, c8_10], by simp [go_sem, a6_0, a6_1, a6_2, a6_3, a6_4, a6_5, a6_6, a6_7, a6_8, a6_9, a6_10, b7_0, b7_1, b7_2, b7_3, b7_4, b7_5, b7_6, b7_7, b7_8, b7_9, b7_10, c8_0, c8_1, c8_2, c8_3, c8_4, c8_5, c8_6, c8_7, c8_8, c8_9, c8_10], by simp [go_sem, a6_0, a6_1, a6_2, a6_3, a6_4, a6_5, a6_6, a6_7, a6_8, a6_9, a6_10, b7_0, b7_1, b7_2, b7_3, b7_4, b7_5, b7_6, b7_7, b7_8, b7_9, b7_10, c8_0, c8_1, c8_2, c8_3, c8_4, c8_5, c8_6, c8_7, c8_8, c8_9, c8_10]⟩
  have fzA_27 : ∀ i, ((u6.setCell ⟨u3.heap.size, 7, none⟩ (.int .u16 2000)).setCell ⟨u3.heap.size, 8, none⟩ (.int .u16 2000)).frozen? ⟨w2.heap.size, i, none⟩ = false := by intro i; simp [fzA_16]
  have fzC_28 : ∀ i, ((u6.setCell ⟨u3.heap.size, 7, none⟩ (.int .u16 2000)).setCell ⟨u3.heap.size, 8, none⟩ (.int .u16 2000)).frozen? ⟨u3.heap.size, i, none⟩ = false := by intro i; simp [fzC_21]
  clear a6_0 a6_1 a6_2 a6_3 a6_4 a6_5 a6_6 a6_7 a6_8 a6_9 a6_10 b7_0 b7_1 b7_2 b7_3 b7_4 b7_5 b7_6 b7_7 b7_8 b7_9 b7_10 c8_0 c8_1 c8_2 c8_3 c8_4 c8_5 c8_6 c8_7 c8_8 c8_9 c8_10 A_17 B_18 C_19 fzA_16 fzC_21 B20
  obtain ⟨u7, hu7⟩ : ∃ x_ : World, x_ = ((u6.setCell ⟨u3.heap.size, 7, none⟩ (.int .u16 2000)).setCell ⟨u3.heap.size, 8, none⟩ (.int .u16 2000)) := ⟨_, rfl⟩
  rw [← hu7] at A_24 B_25 C_26 fzA_27 fzC_28 T_22 B23 ⊢
  clear hu7
  obtain ⟨_, a9_0, a9_1, a9_2, a9_3, a9_4, a9_5, a9_6, a9_7, a9_8, a9_9, a9_10⟩ := id A_24
  obtain ⟨_, b10_0, b10_1, b10_2, b10_3, b10_4, b10_5, b10_6, b10_7, b10_8, b10_9, b10_10⟩ := id B_25
  obtain ⟨_, c11_0, c11_1, c11_2, c11_3, c11_4, c11_5, c11_6, c11_7, c11_8, c11_9, c11_10⟩ := id C_26
  go_wp2_with fail
  refine (xa1 _ p _ _ T_22).mono ?_; rintro e w21 ⟨rfl, v21, T_29, x21, ho21⟩
  clear a9_0 a9_1 a9_2 a9_3 a9_4 a9_5 a9_6 a9_7 a9_8 a9_9 a9_10 b10_0 b10_1 b10_2 b10_3 b10_4 b10_5 b10_6 b10_7 b10_8 b10_9 b10_10 c11_0 c11_1 c11_2 c11_3 c11_4 c11_5 c11_6 c11_7 c11_8 c11_9 c11_10
  have A_30 := A_24.keep x21.size (x21.block _ A_24.1 nfAT_3)
  have B_31 := B_25.keep x21.size (x21.block _ B_25.1 nfBT_8)
  have C_32 := C_26.keep x21.size (x21.block _ C_26.1 nfCT_14)
  have fzA_33 : ∀ i, w21.frozen? ⟨w2.heap.size, i, none⟩ = false := fun i => (x21.frozen (p := ⟨_, i, none⟩) A_24.1 nfAT_3).trans (fzA_27 i)
  have fzC_34 : ∀ i, w21.frozen? ⟨u3.heap.size, i, none⟩ = false := fun i => (x21.frozen (p := ⟨_, i, none⟩) C_26.1 nfCT_14).trans (fzC_28 i)
  have nfAT_35 := foot_kept nfAT_3 A_24.1 ho21
  have nfBT_36 := foot_kept nfBT_8 B_25.1 ho21
  have nfCT_37 := foot_kept nfCT_14 C_26.1 ho21
  have B38 := T_22.after hb0 B23 x21
  clear nfAT_3 nfBT_8 nfCT_14 A_24 B_25 C_26 fzA_27 fzC_28 B23 T_22 x21 ho21
  obtain ⟨_, a12_0, a12_1, a12_2, a12_3, a12_4, a12_5, a12_6, a12_7, a12_8, a12_9, a12_10⟩ := id A_30
  obtain ⟨_, b13_0, b13_1, b13_2, b13_3, b13_4, b13_5, b13_6, b13_7, b13_8, b13_9, b13_10⟩ := id B_31
  obtain ⟨_, c14_0, c14_1, c14_2, c14_3, c14_4, c14_5, c14_6, c14_7, c14_8, c14_9, c14_10⟩ := id C_32
  go_wp2_with fail
  refine (xa2 _ p _ _ T_29).mono ?_; rintro e w22 ⟨rfl, v22, T_39, x22, ho22⟩
  clear a12_0 a12_1 a12_2 a12_3 a12_4 a12_5 a12_6 a12_7 a12_8 a12_9 a12_10 b13_0 b13_1 b13_2 b13_3 b13_4 b13_5 b13_6 b13_7 b13_8 b13_9 b13_10 c14_0 c14_1 c14_2 c14_3 c14_4 c14_5 c14_6 c14_7 c14_8 c14_9 c14_10
  have A_40 := A_30.keep x22.size (x22.block _ A_30.1 nfAT_35)
  have B_41 := B_31.keep x22.size (x22.block _ B_31.1 nfBT_36)
  have C_42 := C_32.keep x22.size (x22.block _ C_32.1 nfCT_37)
  have fzA_43 : ∀ i, w22.frozen? ⟨w2.heap.size, i, none⟩ = false := fun i => (x22.frozen (p := ⟨_, i, none⟩) A_30.1 nfAT_35).trans (fzA_33 i)
  have fzC_44 : ∀ i, w22.frozen? ⟨u3.heap.size, i, none⟩ = false := fun i => (x22.frozen (p := ⟨_, i, none⟩) C_32.1 nfCT_37).trans (fzC_34 i)
  have nfAT_45 := foot_kept nfAT_35 A_30.1 ho22
  have nfBT_46 := foot_kept nfBT_36 B_31.1 ho22
  have nfCT_47 := foot_kept nfCT_37 C_32.1 ho22
  have B48 := T_29.after hb0 B38 x22
  clear nfAT_35 nfBT_36 nfCT_37 A_30 B_31 C_32 fzA_33 fzC_34 B38 T_29 x22 ho22
  obtain ⟨_, a15_0, a15_1, a15_2, a15_3, a15_4, a15_5, a15_6, a15_7, a15_8, a15_9, a15_10⟩ := id A_40
  obtain ⟨_, b16_0, b16_1, b16_2, b16_3, b16_4, b16_5, b16_6, b16_7, b16_8, b16_9, b16_10⟩ := id B_41
  obtain ⟨_, c17_0, c17_1, c17_2, c17_3, c17_4, c17_5, c17_6, c17_7, c17_8, c17_9, c17_10⟩ := id C_42
  go_wp2_with fail
  refine (xa3 _ p _ _ T_39).mono ?_; rintro e w23 ⟨rfl, v23, T_49, x23, ho23⟩
  clear a15_0 a15_1 a15_2 a15_3 a15_4 a15_5 a15_6 a15_7 a15_8 a15_9 a15_10 b16_0 b16_1 b16_2 b16_3 b16_4 b16_5 b16_6 b16_7 b16_8 b16_9 b16_10 c17_0 c17_1 c17_2 c17_3 c17_4 c17_5 c17_6 c17_7 c17_8 c17_9 c17_10
  have A_50 := A_40.keep x23.size (x23.block _ A_40.1 nfAT_45)
  have B_51 := B_41.keep x23.size (x23.block _ B_41.1 nfBT_46)
  have C_52 := C_42.keep x23.size (x23.block _ C_42.1 nfCT_47)
  have fzA_53 : ∀ i, w23.frozen? ⟨w2.heap.size, i, none⟩ = false := fun i => (x23.frozen (p := ⟨_, i, none⟩) A_40.1 nfAT_45).trans (fzA_43 i)
  have fzC_54 : ∀ i, w23.frozen? ⟨u3.heap.size, i, none⟩ = false := fun i => (x23.frozen (p := ⟨_, i, none⟩) C_42.1 nfCT_47).trans (fzC_44 i)
  have nfAT_55 := foot_kept nfAT_45 A_40.1 ho23
  have nfBT_56 := foot_kept nfBT_46 B_41.1 ho23
  have nfCT_57 := foot_kept nfCT_47 C_42.1 ho23
  have B58 := T_39.after hb0 B48 x23
  clear nfAT_45 nfBT_46 nfCT_47 A_40 B_41 C_42 fzA_43 fzC_44 B48 T_39 x23 ho23
  obtain ⟨_, a18_0, a18_1, a18_2, a18_3, a18_4, a18_5, a18_6, a18_7, a18_8, a18_9, a18_10⟩ := id A_50
  obtain ⟨_, b19_0, b19_1, b19_2, b19_3, b19_4, b19_5, b19_6, b19_7, b19_8, b19_9, b19_10⟩ := id B_51
  obtain ⟨_, c20_0, c20_1, c20_2, c20_3, c20_4, c20_5, c20_6, c20_7, c20_8, c20_9, c20_10⟩ := id C_52
  go_wp2_with fail
  refine (xa4 _ p _ _ T_49).mono ?_; rintro e w24 ⟨rfl, v24, T_59, x24, ho24⟩
  clear a18_0 a18_1 a18_2 a18_3 a18_4 a18_5 a18_6 a18_7 a18_8 a18_9 a18_10 b19_0 b19_1 b19_2 b19_3 b19_4 b19_5 b19_6 b19_7 b19_8 b19_9 b19_10 c20_0 c20_1 c20_2 c20_3 c20_4 c20_5 c20_6 c20_7 c20_8 c20_9 c20_10
  have A_60 := A_50.keep x24.size (x24.block _ A_50.1 nfAT_55)
  have B_61 := B_51.keep x24.size (x24.block _ B_51.1 nfBT_56)
  have C_62 := C_52.keep x24.size (x24.block _ C_52.1 nfCT_57)
  have fzA_63 : ∀ i, w24.frozen? ⟨w2.heap.size, i, none⟩ = false := fun i => (x24.frozen (p := ⟨_, i, none⟩) A_50.1 nfAT_55).trans (fzA_53 i)
  have fzC_64 : ∀ i, w24.frozen? ⟨u3.heap.size, i, none⟩ = false := fun i => (x24.frozen (p := ⟨_, i, none⟩) C_52.1 nfCT_57).trans (fzC_54 i)
  have nfAT_65 := foot_kept nfAT_55 A_50.1 ho24
  have nfBT_66 := foot_kept nfBT_56 B_51.1 ho24
  have nfCT_67 := foot_kept nfCT_57 C_52.1 ho24
  have B68 := T_49.after hb0 B58 x24
  clear nfAT_55 nfBT_56 nfCT_57 A_50 B_51 C_52 fzA_53 fzC_54 B58 T_49 x24 ho24
  clear nfBT_66
  clear B_61
  obtain ⟨_, a21_0, a21_1, a21_2, a21_3, a21_4, a21_5, a21_6, a21_7, a21_8, a21_9, a21_10⟩ := id A_60
  obtain ⟨_, c22_0, c22_1, c22_2, c22_3, c22_4, c22_5, c22_6, c22_7, c22_8, c22_9, c22_10⟩ := id C_62
  go_upto_region 9 with fail
  clear a21_0 a21_1 a21_2 a21_3 a21_4 a21_5 a21_6 a21_7 a21_8 a21_9 a21_10 c22_0 c22_1 c22_2 c22_3 c22_4 c22_5 c22_6 c22_7 c22_8 c22_9 c22_10
  have nfXT_69 : ¬ footC p (v24) (w24.heap.size) := by
    have hs_ : w24.heap.size = w24.heap.size := by simp
    rw [← hs_]
    exact T_59.newer
  have T_70 := T_59.on ((Below.refl w24.heap.size w24).alloc (Nat.le_refl _) (.cells #[.int .u8 17, .int .u32 167772161, .int .u16 5, .int .u32 16909060, .int .u16 53] 57))
  clear T_59
  have fzA_71 : ∀ i, (w24.alloc (.cells #[.int .u8 17, .int .u32 167772161, .int .u16 5, .int .u32 16909060, .int .u16 53] 57)).frozen? ⟨w2.heap.size, i, none⟩ = false := fun i => (((Below.refl w24.heap.size w24).alloc (Nat.le_refl _) (.cells #[.int .u8 17, .int .u32 167772161, .int .u16 5, .int .u32 16909060, .int .u16 53] 57)).frozen (p := ⟨_, i, none⟩) A_60.1).trans (fzA_63 i)
  have fzC_72 : ∀ i, (w24.alloc (.cells #[.int .u8 17, .int .u32 167772161, .int .u16 5, .int .u32 16909060, .int .u16 53] 57)).frozen? ⟨u3.heap.size, i, none⟩ = false := fun i => (((Below.refl w24.heap.size w24).alloc (Nat.le_refl _) (.cells #[.int .u8 17, .int .u32 167772161, .int .u16 5, .int .u32 16909060, .int .u16 53] 57)).frozen (p := ⟨_, i, none⟩) C_62.1).trans (fzC_64 i)
  clear fzA_63 fzC_64
  have A_73 := A_60.past (o := (.cells #[.int .u8 17, .int .u32 167772161, .int .u16 5, .int .u32 16909060, .int .u16 53] 57))
  have C_74 := C_62.past (o := (.cells #[.int .u8 17, .int .u32 167772161, .int .u16 5, .int .u32 16909060, .int .u16 53] 57))
  have X_75 := Box5.make w24 (.int .u8 17) (.int .u32 167772161) (.int .u16 5) (.int .u32 16909060) (.int .u16 53) 57
  have B76 := B68.alloc B68.size (.cells #[.int .u8 17, .int .u32 167772161, .int .u16 5, .int .u32 16909060, .int .u16 53] 57)
  clear A_60 C_62 B68
  obtain ⟨u25, hu25⟩ : ∃ x_ : World, x_ = w24.alloc (.cells #[.int .u8 17, .int .u32 167772161, .int .u16 5, .int .u32 16909060, .int .u16 53] 57) := ⟨_, rfl⟩
  rw [← hu25] at A_73 C_74 X_75 fzA_71 fzC_72 T_70 B76 ⊢
  clear hu25
  obtain ⟨_, a23_0, a23_1, a23_2, a23_3, a23_4, a23_5, a23_6, a23_7, a23_8, a23_9, a23_10⟩ := id A_73
  obtain ⟨_, c24_0, c24_1, c24_2, c24_3, c24_4, c24_5, c24_6, c24_7, c24_8, c24_9, c24_10⟩ := id C_74
  obtain ⟨_, x25_0, x25_1, x25_2, x25_3, x25_4⟩ := id X_75
  go_wp2_with fail
  refine (xs7 _ p _ _ T_70).mono ?_; rintro e w26 ⟨rfl, x26⟩
  have T_77 := T_70.on x26
  clear T_70
  have fzA_78 : ∀ i, w26.frozen? ⟨w2.heap.size, i, none⟩ = false := fun i => (x26.frozen (p := ⟨_, i, none⟩) A_73.1).trans (fzA_71 i)
  have fzC_79 : ∀ i, w26.frozen? ⟨u3.heap.size, i, none⟩ = false := fun i => (x26.frozen (p := ⟨_, i, none⟩) C_74.1).trans (fzC_72 i)
  clear fzA_71 fzC_72
  have A_80 := A_73.on x26
  have C_81 := C_74.on x26
  have X_82 := X_75.on x26
  have B83 := B76.trans (x26.mono B76.size)
  clear a23_0 a23_1 a23_2 a23_3 a23_4 a23_5 a23_6 a23_7 a23_8 a23_9 a23_10 c24_0 c24_1 c24_2 c24_3 c24_4 c24_5 c24_6 c24_7 c24_8 c24_9 c24_10 x25_0 x25_1 x25_2 x25_3 x25_4 A_73 C_74 X_75 B76 x26
  clear nfXT_69
  clear X_82
  go_upto_region 10 with fail
  have np27 : ¬ (w26.heap.size = w2.heap.size) := by have := A_80.1; omega
  have np27_ : ¬ (w2.heap.size = w26.heap.size) := by have := A_80.1; omega
  have np28 : ¬ (w26.heap.size = u3.heap.size) := by have := C_81.1; omega
  have np28_ : ¬ (u3.heap.size = w26.heap.size) := by have := C_81.1; omega
  have nfST_84 : ¬ footC p (v24) (w26.heap.size) := by
    have hs_ : w26.heap.size = w26.heap.size := by simp
    rw [← hs_]
    exact T_77.newer
  have T_85 := T_77.on ((Below.refl w26.heap.size w26).alloc (Nat.le_refl _) (.cells #[.int .i64 2, .int .u8 0, .int .u32 0, .int .i64 0, .int .u32 0, .int .i64 0, .int .u32 151587081, .int .u16 1000, .int .u16 1999, .int .u32 0, .int .u16 0] 42))
  clear T_77
  have fzA_86 : ∀ i, (w26.alloc (.cells #[.int .i64 2, .int .u8 0, .int .u32 0, .int .i64 0, .int .u32 0, .int .i64 0, .int .u32 151587081, .int .u16 1000, .int .u16 1999, .int .u32 0, .int .u16 0] 42)).frozen? ⟨w2.heap.size, i, none⟩ = false := fun i => (((Below.refl w26.heap.size w26).alloc (Nat.le_refl _) (.cells #[.int .i64 2, .int .u8 0, .int .u32 0, .int .i64 0, .int .u32 0, .int .i64 0, .int .u32 151587081, .int .u16 1000, .int .u16 1999, .int .u32 0, .int .u16 0] 42)).frozen (p := ⟨_, i, none⟩) A_80.1).trans (fzA_78 i)
  have fzC_87 : ∀ i, (w26.alloc (.cells #[.int .i64 2, .int .u8 0, .int .u32 0, .int .i64 0, .int .u32 0, .int .i64 0, .int .u32 151587081, .int .u16 1000, .int .u16 1999, .int .u32 0, .int .u16 0] 42)).frozen? ⟨u3.heap.size, i, none⟩ = false := fun i => (((Below.refl w26.heap.size w26).alloc (Nat.le_refl _) (.cells #[.int .i64 2, .int .u8 0, .int .u32 0, .int .i64 0, .int .u32 0, .int .i64 0, .int .u32 151587081, .int .u16 1000, .int .u16 1999, .int .u32 0, .int .u16 0] 42)).frozen (p := ⟨_, i, none⟩) C_81.1).trans (fzC_79 i)
  clear fzA_78 fzC_79
  have A_88 := A_80.past (o := (.cells #[.int .i64 2, .int .u8 0, .int .u32 0, .int .i64 0, .int .u32 0, .int .i64 0, .int .u32 151587081, .int .u16 1000, .int .u16 1999, .int .u32 0, .int .u16 0] 42))
  have C_89 := C_81.past (o := (.cells #[.int .i64 2, .int .u8 0, .int .u32 0, .int .i64 0, .int .u32 0, .int .i64 0, .int .u32 151587081, .int .u16 1000, .int .u16 1999, .int .u32 0, .int .u16 0] 42))
  have S_90 := Box11.make w26 (.int .i64 2) (.int .u8 0) (.int .u32 0) (.int .i64 0) (.int .u32 0) (.int .i64 0) (.int .u32 151587081) (.int .u16 1000) (.int .u16 1999) (.int .u32 0) (.int .u16 0) 42
  have B91 := B83.alloc B83.size (.cells #[.int .i64 2, .int .u8 0, .int .u32 0, .int .i64 0, .int .u32 0, .int .i64 0, .int .u32 151587081, .int .u16 1000, .int .u16 1999, .int .u32 0, .int .u16 0] 42)
  clear A_80 C_81 B83
  obtain ⟨u29, hu29⟩ : ∃ x_ : World, x_ = w26.alloc (.cells #[.int .i64 2, .int .u8 0, .int .u32 0, .int .i64 0, .int .u32 0, .int .i64 0, .int .u32 151587081, .int .u16 1000, .int .u16 1999, .int .u32 0, .int .u16 0] 42) := ⟨_, rfl⟩
  rw [← hu29] at A_88 C_89 S_90 fzA_86 fzC_87 T_85 B91 ⊢
  clear hu29
  obtain ⟨_, a26_0, a26_1, a26_2, a26_3, a26_4, a26_5, a26_6, a26_7, a26_8, a26_9, a26_10⟩ := id A_88
  obtain ⟨_, c27_0, c27_1, c27_2, c27_3, c27_4, c27_5, c27_6, c27_7, c27_8, c27_9, c27_10⟩ := id C_89
  obtain ⟨_, s28_0, s28_1, s28_2, s28_3, s28_4, s28_5, s28_6, s28_7, s28_8, s28_9, s28_10⟩ := id S_90
  go_wp2_with fail
  refine (xs8 _ p _ _ T_85).mono ?_; rintro e w31 ⟨rfl, x31⟩
  have T_92 := T_85.on x31
  clear T_85
  have fzA_93 : ∀ i, w31.frozen? ⟨w2.heap.size, i, none⟩ = false := fun i => (x31.frozen (p := ⟨_, i, none⟩) A_88.1).trans (fzA_86 i)
  have fzC_94 : ∀ i, w31.frozen? ⟨u3.heap.size, i, none⟩ = false := fun i => (x31.frozen (p := ⟨_, i, none⟩) C_89.1).trans (fzC_87 i)
  clear fzA_86 fzC_87
  have A_95 := A_88.on x31
  have C_96 := C_89.on x31
  have S_97 := S_90.on x31
  have B98 := B91.trans (x31.mono B91.size)
  clear a26_0 a26_1 a26_2 a26_3 a26_4 a26_5 a26_6 a26_7 a26_8 a26_9 a26_10 c27_0 c27_1 c27_2 c27_3 c27_4 c27_5 c27_6 c27_7 c27_8 c27_9 c27_10 s28_0 s28_1 s28_2 s28_3 s28_4 s28_5 s28_6 s28_7 s28_8 s28_9 s28_10 A_88 C_89 S_90 B91 x31
  go_upto_region 11 with fail
  have np33 : ¬ (w31.heap.size = w2.heap.size) := by have := A_95.1; omega
  have np33_ : ¬ (w2.heap.size = w31.heap.size) := by have := A_95.1; omega
  have np34 : ¬ (w31.heap.size = u3.heap.size) := by have := C_96.1; omega
  have np34_ : ¬ (u3.heap.size = w31.heap.size) := by have := C_96.1; omega
  have np35 : ¬ (w31.heap.size = w26.heap.size) := by have := S_97.1; omega
  have np35_ : ¬ (w26.heap.size = w31.heap.size) := by have := S_97.1; omega
  have nfDT_99 : ¬ footC p (v24) (w31.heap.size) := by
    have hs_ : w31.heap.size = w31.heap.size := by simp
    rw [← hs_]
    exact T_92.newer
  have T_100 := T_92.on ((Below.refl w31.heap.size w31).alloc (Nat.le_refl _) (.cells #[.int .i64 3, .int .u8 6, .int .u32 0, .int .i64 0, .int .u32 0, .int .i64 0, .int .u32 151587081, .int .u16 2000, .int .u16 2000, .int .u32 167772165, .int .u16 80] 42))
  clear T_92
  have fzA_101 : ∀ i, (w31.alloc (.cells #[.int .i64 3, .int .u8 6, .int .u32 0, .int .i64 0, .int .u32 0, .int .i64 0, .int .u32 151587081, .int .u16 2000, .int .u16 2000, .int .u32 167772165, .int .u16 80] 42)).frozen? ⟨w2.heap.size, i, none⟩ = false := fun i => (((Below.refl w31.heap.size w31).alloc (Nat.le_refl _) (.cells #[.int .i64 3, .int .u8 6, .int .u32 0, .int .i64 0, .int .u32 0, .int .i64 0, .int .u32 151587081, .int .u16 2000, .int .u16 2000, .int .u32 167772165, .int .u16 80] 42)).frozen (p := ⟨_, i, none⟩) A_95.1).trans (fzA_93 i)
  have fzC_102 : ∀ i, (w31.alloc (.cells #[.int .i64 3, .int .u8 6, .int .u32 0, .int .i64 0, .int .u32 0, .int .i64 0, .int .u32 151587081, .int .u16 2000, .int .u16 2000, .int .u32 167772165, .int .u16 80] 42)).frozen? ⟨u3.heap.size, i, none⟩ = false := fun i => (((Below.refl w31.heap.size w31).alloc (Nat.le_refl _) (.cells #[.int .i64 3, .int .u8 6, .int .u32 0, .int .i64 0, .int .u32 0, .int .i64 0, .int .u32 151587081, .int .u16 2000, .int .u16 2000, .int .u32 167772165, .int .u16 80] 42)).frozen (p := ⟨_, i, none⟩) C_96.1).trans (fzC_94 i)
  clear fzA_93 fzC_94
  have A_103 := A_95.past (o := (.cells #[.int .i64 3, .int .u8 6, .int .u32 0, .int .i64 0, .int .u32 0, .int .i64 0, .int .u32 151587081, .int .u16 2000, .int .u16 2000, .int .u32 167772165, .int .u16 80] 42))
  have C_104 := C_96.past (o := (.cells #[.int .i64 3, .int .u8 6, .int .u32 0, .int .i64 0, .int .u32 0, .int .i64 0, .int .u32 151587081, .int .u16 2000, .int .u16 2000, .int .u32 167772165, .int .u16 80] 42))
  have S_105 := S_97.past (o := (.cells #[.int .i64 3, .int .u8 6, .int .u32 0, .int .i64 0, .int .u32 0, .int .i64 0, .int .u32 151587081, .int .u16 2000, .int .u16 2000, .int .u32 167772165, .int .u16 80] 42))
  have D_106 := Box11.make w31 (.int .i64 3) (.int .u8 6) (.int .u32 0) (.int .i64 0) (.int .u32 0) (.int .i64 0) (.int .u32 151587081) (.int .u16 2000) (.int .u16 2000) (.int .u32 167772165) (.int .u16 80) 42
  have B107 := B98.alloc B98.size (.cells #[.int .i64 3, .int .u8 6, .int .u32 0, .int .i64 0, .int .u32 0, .int .i64 0, .int .u32 151587081, .int .u16 2000, .int .u16 2000, .int .u32 167772165, .int .u16 80] 42)
  clear A_95 C_96 S_97 B98
  obtain ⟨u40, hu40⟩ : ∃ x_ : World, x_ = w31.alloc (.cells #[.int .i64 3, .int .u8 6, .int .u32 0, .int .i64 0, .int .u32 0, .int .i64 0, .int .u32 151587081, .int .u16 2000, .int .u16 2000, .int .u32 167772165, .int .u16 80] 42) := ⟨_, rfl⟩
  rw [← hu40] at A_103 C_104 S_105 D_106 fzA_101 fzC_102 T_100 B107 ⊢
  clear hu40
  obtain ⟨_, a29_0, a29_1, a29_2, a29_3, a29_4, a29_5, a29_6, a29_7, a29_8, a29_9, a29_10⟩ := id A_103
  obtain ⟨_, c30_0, c30_1, c30_2, c30_3, c30_4, c30_5, c30_6, c30_7, c30_8, c30_9, c30_10⟩ := id C_104
  obtain ⟨_, s31_0, s31_1, s31_2, s31_3, s31_4, s31_5, s31_6, s31_7, s31_8, s31_9, s31_10⟩ := id S_105
  obtain ⟨_, d32_0, d32_1, d32_2, d32_3, d32_4, d32_5, d32_6, d32_7, d32_8, d32_9, d32_10⟩ := id D_106
  go_upto_region 12 with fail
  clear a29_0 a29_1 a29_2 a29_3 a29_4 a29_5 a29_6 a29_7 a29_8 a29_9 a29_10 c30_0 c30_1 c30_2 c30_3 c30_4 c30_5 c30_6 c30_7 c30_8 c30_9 c30_10 s31_0 s31_1 s31_2 s31_3 s31_4 s31_5 s31_6 s31_7 s31_8 s31_9 s31_10 d32_0 d32_1 d32_2 d32_3 d32_4 d32_5 d32_6 d32_7 d32_8 d32_9 d32_10
  have T_108 := (T_100.cell nfAT_65 6 (.int .u32 151587081))
  clear T_100
  obtain ⟨_, a33_0, a33_1, a33_2, a33_3, a33_4, a33_5, a33_6, a33_7, a33_8, a33_9, a33_10⟩ := id A_103
  obtain ⟨_, c34_0, c34_1, c34_2, c34_3, c34_4, c34_5, c34_6, c34_7, c34_8, c34_9, c34_10⟩ := id C_104
  obtain ⟨_, s35_0, s35_1, s35_2, s35_3, s35_4, s35_5, s35_6, s35_7, s35_8, s35_9, s35_10⟩ := id S_105
  obtain ⟨_, d36_0, d36_1, d36_2, d36_3, d36_4, d36_5, d36_6, d36_7, d36_8, d36_9, d36_10⟩ := id D_106
  have B109 := (B107.setCell (p := ⟨w2.heap.size, 6, none⟩) z2 (.int .u32 151587081))
  have A_110 : Box11 (u40.setCell ⟨w2.heap.size, 6, none⟩ (.int .u32 151587081)) w2.heap.size (.int .i64 2) (.int .u8 0) (.int .u32 0) (.int .i64 0) (.int .u32 0) (.int .i64 0) (.int .u32 151587081) (.int .u16 1000) (.int .u16 1999) (.int .u32 0) (.int .u16 0) := ⟨by have := A_103.1; simpa using this, by simp [go_sem, a33_0, a33_1, a33_2, a33_3, a33_4, a33_5, a33_6, a33_7, a33_8, a33_9, a33_10, c34_0, c34_1, c34_2, c34_3, c34_4, c34_5, c34_6, c34_7, c34_8, c34_9, c34_10, s35_0, s35_1, s35_2, s35_3, s35_4, s35_5, s35_6, s35_7, s35_8, s35_9, s35_10, d36_0, d36_1, d36_2, d36_3, d36_4, d36_5, d36_6, d36_7, d36_8, d36_9, d36_10], by simp [go_sem, a33_0, a33_1, a33_2, a33_3, a33_4, a33_5, a33_6, a33_7, a33_8, a33_9, a33_10, c34_0, c34_1, c34_2, c34_3, c34_4, c34_5, c34_6, c34_7, c34_8, c34_9, c34_10, s35_0, s35_1, s35_2, s35_3, s35_4, s35_5, s35_6, s35_7, s35_8, s35_9, s35_10, d36_0, d36_1, d36_2, d36_3, d36_4, d36_5, d36_6, d36_7, d36_8, d36_9, d36_10], by simp [go_sem, a33_0, a33_1, a33_2, a33_3, a33_4, a33_5, a33_6, a33_7, a33_8, a33_9, a33_10, c34_0, c34_1, c34_2, c34_3, c34_4, c34_5, c34_6, c34_7, c34_8, c34_9, c34_10, s35_0, s35_1, s35_2, s35_3, s35_4, s35_5, s35_6, s35_7, s35_8, s35_9, s35_10, d36_0, d36_1, d36_2, d36_3, d36_4, d36_5, d36_6, d36_7, d36_8, d36_9, d36_10], by simp [go_sem, a33_0, a33_1, a33_2, a33_3, a33_4, a33_5, a33_6, a33_7, a33_8, a33_9, a33_10, c34_0, c34_1, c34_2, c34_3, c34_4, c34_5, c34_6, c34_7, c34_8, c34_9, c34_10, s35_0, s35_1, s35_2, s35_3, s35_4, s35_5, s35_6, s35_7, s35_8, s35_9, s35_10, d36_0, d36_1, d36_2, d36_3, d36_4, d36_5, d36_6, d36_7, d36_8, d36_9, d36_10], by simp [go_sem, a33_0, a33_1, a33_2, a33_3, a33_4, a33_5, a33_6, a33_7, a33_8, a33_9, a33_10, c34_0, c34_1, c34_2, c34_3, c34_4, c34_5, c34_6, c34_7, c34_8, c34_9, c34_10, s35_0, s35_1, s35_2, s35_3, s35_4, s35_5, s35_6, s35_7, s35_8, s35_9, s35_10, d36_0, d36_1, d36_2, d36_3, d36_4, d36_5, d36_6, d36_7, d36_8, d36_9, d36_10], by simp [go_sem, a33_0, a33_1, a33_2, a33_3, a33_4, a33_5, a33_6, a33_7, a33_8, a33_9, a33_10, c34_0, c34_1, c34_2, c34_3, c34_4, c34_5, c34_6, c34_7, c34_8, c34_9, c34_10, s35_0, s35_1, s35_2, s35_3, s35_4, s35_5, s35_6, s35_7, s35_8, s35_9, s35_10, d36_0, d36_1, d36_2, d36_3, d36_4, d36_5, d36_6, d36_7, d36_8, d36_9, d36_10], by simp [go_sem, a33_0, a33_1, a33_2, a33_3, a33_4, a33_5, a33_6, a33_7, a33_8, a33_9, a33_10, c34_0, c34_1, c34_2, c34_3, c34_4, c34_5, c34_6, c34_7, c34_8, c34_9, c34_10, s35_0, s35_1, s35_2, s35_3, s35_4, s35_5, s35_6, s35_7, s35_8, s35_9, s35_10, d36_0, d36_1, d36_2, d36_3, d36_4, d36_5, d36_6, d36_7, d36_8, d36_9, d36_10], by simp [go_sem, a33_0, a33_1, a33_2, a33_3, a33_4, a33_5, a33_6, a33_7, a33_8, a33_9, a33_10, c34_0, c34_1, c34_2, c34_3, c34_4, c34_5, c34_6, c34_7, c34_8, c34_9, c34_10, s35_0, s35_1, s35_2, s35_3, s35_4, s35_5, s35_6, s35_7, s35_8, s35_9, s35_10, d36_0, d36_1, d36_2, d36_3, d36_4, d36_5, d36_6, d36_7, d36_8, d36_9, d36_10], by simp [go_sem, a33_0, a33_1, a33_2, a33_3, a33_4, a33_5, a33_6, a33_7, a33_8, a33_9, a33_10, c34_0, c34_1, c34_2, c34_3, c34_4, c34_5, c34_6, c34_7, c34_8, c34_9, c34_10, s35_0, s35_1, s35_2, s35_3, s35_4, s35_5, s35_6, s35_7, s35_8, s35_9, s35_10, d36_0, d36_1, d36_2, d36_3, d36_4, d36_5, d36_6, d36_7, d36_8, d36_9, d36_10], by simp [go_sem, a33_0, a33_1, a33_2, a33_3, a33_4, a33_5, a33_6, a33_7, a33_8, a33_9, a33_10, c34_0, c34_1, c34_2, c34_3, c34_4, c34_5, c34_6, c34_7, c34_8, c34_9, c34_10, s35_0, s35_1, s35_2, s35_3, s35_4, s35_5, s35_6, s35_7, s35_8, s35_9, s35_10, d36_0, d36_1, d36_2, d36_3, d36_4, d36_5, d36_6, d36_7, d36_8, d36_9, d36_10], by simp [go_sem, a33_0, a33_1, a33_2, a33_3, a33_4, a33_5, a33_6, a33_7, a33_8, a33_9, a33_10, c34_0, c34_1, c34_2, c34_3, c34_4, c34_5, c34_6, c34_7, c34_8, c34_9, c34_10, s35_0, s35_1, s35_2, s35_3, s35_4, s35_5, s35_6, s35_7, s35_8, s35_9, s35_10, d36_0, d36_1, d36_2, d36_3, d36_4, d36_5, d36_6, d36_7, d36_8, d36_9, d36_10]⟩
  have C_111 : Box11 (u40.setCell ⟨w2.heap.size, 6, none⟩ (.int .u32 151587081)) u3.heap.size (.int .i64 3) (.int .u8 6) (.int .u32 0) (.int .i64 0) (.int .u32 0) (.int .i64 0) (.int .u32 151587081) (.int .u16 2000) (.int .u16 2000) (.int .u32 167772165) (.int .u16 80) := ⟨by have := C_104.1; simpa using this, by simp [go_sem, a33_0, a33_1, a33_2, a33_3, a33_4, a33_5, a33_6, a33_7, a33_8, a33_9, a33_10, c34_0, c34_1, c34_2, c34_3, c34_4, c34_5, c34_6, c34_7, c34_8, c34_9, c34_10, s35_0, s35_1, s35_2, s35_3, s35_4, s35_5, s35_6, s35_7, s35_8, s35_9, s35_10, d36_0, d36_1, d36_2, d36_3, d36_4, d36_5, d36_6, d36_7, d36_8, d36_9, d36_10], by simp [go_sem, a33_0, a33_1, a33_2, a33_3, a33_4, a33_5, a33_6, a33_7, a33_8, a33_9, a33_10, c34_0, c34_1, c34_2, c34_3, c34_4, c34_5, c34_6, c34_7, c34_8, c34_9, c34_10, s35_0, s35_1, s35_2, s35_3, s35_4, s35_5, s35_6, s35_7, s35_8, s35_9, s35_10, d36_0, d36_1, d36_2, d36_3, d36_4, d36_5, d36_6, d36_7, d36_8, d36_9, d36_10], by simp [go_sem, a33_0, a33_1, a33_2, a33_3, a33_4, a33_5, a33_6, a33_7, a33_8, a33_9, a33_10, c34_0, c34_1, c34_2, c34_3, c34_4, c34_5, c34_6, c34_7, c34_8, c34_9, c34_10, s35_0, s35_1, s35_2, s35_3, s35_4, s35_5, s35_6, s35_7, s35_8, s35_9, s35_10, d36_0, d36_1, d36_2, d36_3, d36_4, d36_5, d36_6, d36_7, d36_8, d36_9, d36_10], by simp [go_sem, a33_0, a33_1, a33_2, a33_3, a33_4, a33_5, a33_6, a33_7, a33_8, a33_9, a33_10, c34_0, c34_1, c34_2, c34_3, c34_4, c34_5, c34_6, c34_7, c34_8, c34_9, c34_10, s35_0, s35_1, s35_2, s35_3, s35_4, s35_5, s35_6, s35_7, s35_8, s35_9, s35_10, d36_0, d36_1, d36_2, d36_3, d36_4, d36_5, d36_6, d36_7, d36_8, d36_9, d36_10], by simp [go_sem, a33_0, a33_1, a33_2, a33_3, a33_4, a33_5, a33_6, a33_7, a33_8, a33_9, a33_10, c34_0, c34_1, c34_2, c34_3, c34_4, c34_5, c34_6, c34_7, c34_8, c34_9, c34_10, s35_0, s35_1, s35_2, s35_3, s35_4, s35_5, s35_6, s35_7, s35_8, s35_9, s35_10, d36_0, d36_1, d36_2, d36_3, d36_4, d36_5, d36_6, d36_7, d36_8, d36_9, d36_10], by simp [go_sem, a33_0, a33_1, a33_2, a33_3, a33_4, a33_5, a33_6, a33_7, a33_8, a33_9, a33_10, c34_0, c34_1, c34_2, c34_3, c34_4, c34_5, c34_6, c34_7, c34_8, c34_9, c34_10, s35_0, s35_1, s35_2, s35_3, s35_4, s35_5, s35_6, s35_7, s35_8, s35_9, s35_10, d36_0, d36_1, d36_2, d36_3, d36_4, d36_5, d36_6, d36_7, d36_8, d36_9, d36_10], by simp [go_sem, a33_0, a33_1, a33_2, a33_3, a33_4, a33_5, a33_6, a33_7, a33_8, a33_9, a33_10, c34_0, c34_1, c34_2, c34_3, c34_4, c34_5, c34_6, c34_7, c34_8, c34_9, c34_10, s35_0, s35_1, s35_2, s35_3, s35_4, s35_5, s35_6, s35_7, s35_8, s35_9, s35_10, d36_0, d36_1, d36_2, d36_3, d36_4, d36_5, d36_6, d36_7, d36_8, d36_9, d36_10], by simp [go_sem, a33_0, a33_1, a33_2, a33_3, a33_4, a33_5, a33_6, a33_7, a33_8, a33_9, a33_10, c34_0, c34_1, c34_2, c34_3, c34_4, c34_5, c34_6, c34_7, c34_8, c34_9, c34_10, s35_0, s35_1, s35_2, s35_3, s35_4, s35_5, s35_6, s35_7, s35_8, s35_9, s35_10, d36_0, d36_1, d36_2, d36_3, d36_4, d36_5, d36_6, d36_7, d36_8, d36_9, d36_10], by simp [go_sem, a33_0, a33_1, a33_2, a33_3, a33_4, a33_5, a33_6, a33_7, a33_8, a33_9, a33_10, c34_0, c34_1, c34_2, c34_3, c34_4, c34_5, c34_6, c34_7, c34_8, c34_9, c34_10, s35_0, s35_1, s35_2, s35_3, s35_4, s35_5, s35_6, s35_7, s35_8, s35_9, s35_10, d36_0, d36_1, d36_2, d36_3, d36_4, d36_5, d36_6, d36_7, d36_8, d36_9, d36_10], by simp [go_sem, a33_0, a33_1, a33_2, a33_3, a33_4, a33_5, a33_6, a33_7, a33_8, a33_9, a33_10, c34_0, c34_1, c34_2, c34_3, c34_4, c34_5, c34_6, c34_7, c34_8, c34_9, c34_10, s35_0, s35_1, s35_2, s35_3, s35_4, s35_5, s35_6, s35_7, s35_8, s35_9, s35_10, d36_0, d36_1, d36_2, d36_3, d36_4, d36_5, d36_6, d36_7, d36_8, d36_9, d36_10], by simp [go_sem, a33_0, a33_1, a33_2, a33_3, a33_4, a33_5, a33_6, a33_7, a33_8, a33_9, a33_10, c34_0, c34_1, c34_2, c34_3, c34_4, c34_5, c34_6, c34_7, c34_8, c34_9, c34_10, s35_0, s35_1, s35_2, s35_3, s35_4, s35_5, s35_6, s35_7, s35_8, s35_9, s35_10, d36_0, d36_1, d36_2, d36_3, d36_4, d36_5, d36_6, d36_7, d36_8, d36_9, d36_10]⟩
  have S_112 : Box11 (u40.setCell ⟨w2.heap.size, 6, none⟩ (.int .u32 151587081)) w26.heap.size (.int .i64 2) (.int .u8 0) (.int .u32 0) (.int .i64 0) (.int .u32 0) (.int .i64 0) (.int .u32 151587081) (.int .u16 1000) (.int .u16 1999) (.int .u32 0) (.int .u16 0) := ⟨by have := S_105.1; simpa using this, by simp [go_sem, a33_0, a33_1, a33_2, a33_3, a33_4, a33_5, a33_6, a33_7, a33_8, a33_9, a33_10, c34_0, c34_1, c34_2, c34_3, c34_4, c34_5, c34_6, c34_7, c34_8, c34_9, c34_10, s35_0, s35_1, s35_2, s35_3, s35_4, s35_5, s35_6, s35_7, s35_8, s35_9, s35_10, d36_0, d36_1, d36_2, d36_3, d36_4, d36_5, d36_6, d36_7, d36_8, d36_9, d36_10], by simp [go_sem, a33_0, a33_1, a33_2, a33_3, a33_4, a33_5, a33_6, a33_7, a33_8, a33_9, a33_10, c34_0, c34_1, c34_2, c34_3, c34_4, c34_5, c34_6, c34_7, c34_8, c34_9, c34_10, s35_0, s35_1, s35_2, s35_3, s35_4, s35_5, s35_6, s35_7, s35_8, s35_9, s35_10, d36_0, d36_1, d36_2, d36_3, d36_4, d36_5, d36_6, d36_7, d36_8, d36_9, d36_10], by simp [go_sem, a33_0, a33_1, a33_2, a33_3, a33_4, a33_5, a33_6, a33_7, a33_8, a33_9, a33_10, c34_0, c34_1, c34_2, c34_3, c34_4, c34_5, c34_6, c34_7, c34_8, c34_9, c34_10, s35_0, s35_1, s35_2, s35_3, s35_4, s35_5, s35_6, s35_7, s35_8, s35_9, s35_10, d36_0, d36_1, d36_2, d36_3, d36_4, d36_5, d36_6, d36_7, d36_8, d36_9, d36_10], by simp [go_sem, a33_0, a33_1, a33_2, a33_3, a33_4, a33_5, a33_6, a33_7, a33_8, a33_9, a33_10, c34_0, c34_1, c34_2, c34_3, c34_4, c34_5, c34_6, c34_7, c34_8, c34_9, c34_10, s35_0, s35_1, s35_2, s35_3, s35_4, s35_5, s35_6, s35_7, s35_8, s35_9, s35_10, d36_0, d36_1, d36_2, d36_3, d36_4, d36_5, d36_6, d36_7, d36_8, d36_9, d36_10], by simp [go_sem, a33_0, a33_1, a33_2, a33_3, a33_4, a33_5, a33_6, a33_7, a33_8, a33_9, a33_10, c34_0, c34_1, c34_2, c34_3, c34_4, c34_5, c34_6, c34_7, c34_8, c34_9, c34_10, s35_0, s35_1, s35_2, s35_3, s35_4, s35_5, s35_6, s35_7, s35_8, s35_9, s35_10, d36_0, d36_1, d36_2, d36_3, d36_4, d36_5, d36_6, d36_7, d36_8, d36_9, d36_10], by simp [go_sem, a33_0, a33_1, a33_2, a33_3, a33_4, a33_5, a33_6, a33_7, a33_8, a33_9, a33_10, c34_0, c34_1, c34_2, c34_3, c34_4, c34_5, c34_6, c34_7, c34_8, c34_9, c34_10, s35_0, s35_1, s35_2, s35_3, s35_4, s35_5, s35_6, s35_7, s35_8, s35_9, s35_10, d36_0, d36_1, d36_2, d36_3, d36_4, d36_5, d36_6, d36_7, d36_8, d36_9, d36_10], by simp [go_sem, a33_0, a33_1, a33_2, a33_3, a33_4, a33_5, a33_6, a33_7, a33_8, a33_9, a33_10, c34_0, c34_1, c34_2, c34_3, c34_4, c34_5, c34_6, c34_7, c34_8, c34_9, c34_10, s35_0, s35_1, s35_2, s35_3, s35_4, s35_5, s35_6, s35_7, s35_8, s35_9, s35_10, d36_0, d36_1, d36_2, d36_3, d36_4, d36_5, d36_6, d36_7, d36_8, d36_9, d36_10], by simp [go_sem, a33_0, a33_1, a33_2, a33_3, a33_4, a33_5, a33_6, a33_7, a33_8, a33_9, a33_10, c34_0, c34_1, c34_2, c34_3, c34_4, c34_5, c34_6, c34_7, c34_8, c34_9, c34_10, s35_0, s35_1, s35_2, s35_3, s35_4, s35_5, s35_6, s35_7, s35_8, s35_9, s35_10, d36_0, d36_1, d36_2, d36_3, d36_4, d36_5, d36_6, d36_7, d36_8, d36_9, d36_10], by simp [go_sem, a33_0, a33_1, a33_2, a33_3, a33_4, a33_5, a33_6, a33_7, a33_8, a33_9, a33_10, c34_0, c34_1, c34_2, c34_3, c34_4, c34_5, c34_6, c34_7, c34_8, c34_9, c34_10, s35_0, s35_1, s35_2, s35_3, s35_4, s35_5, s35_6, s35_7, s35_8, s35_9, s35_10, d36_0, d36_1, d36_2, d36_3, d36_4, d36_5, d36_6, d36_7, d36_8, d36_9, d36_10], by simp [go_sem, a33_0, a33_1, a33_2, a33_3, a33_4, a33_5, a33_6, a33_7, a33_8, a33_9, a33_10, c34_0, c34_1, c34_2, c34_3, c34_4, c34_5, c34_6, c34_7, c34_8, c34_9, c34_10, s35_0, s35_1, s35_2, s35_3, s35_4, s35_5, s35_6, s35_7, s35_8, s35_9, s35_10, d36_0, d36_1, d36_2, d36_3, d36_4, d36_5, d36_6, d36_7, d36_8, d36_9, d36_10], by simp [go_sem, a33_0, a33_1, a33_2, a33_3, a33_4, a33_5, a33_6, a33_7, a33_8, a33_9, a33_10, c34_0, c34_1, c34_2, c34_3, c34_4, c34_5, c34_6, c34_7, c34_8, c34_9, c34_10, s35_0, s35_1, s35_2, s35_3, s35_4, s35_5, s35_6, s35_7, s35_8, s35_9, s35_10, d36_0, d36_1, d36_2, d36_3, d36_4, d36_5, d36_6, d36_7, d36_8, d36_9, d36_10]⟩
  have D_113 : Box11 (u40.setCell ⟨w2.heap.size, 6, none⟩ (.int .u32 151587081)) w31.heap.size (.int .i64 3) (.int .u8 6) (.int .u32 0) (.int .i64 0) (.int .u32 0) (.int .i64 0) (.int .u32 151587081) (.int .u16 2000) (.int .u16 2000) (.int .u32 167772165) (.int .u16 80) := ⟨by have := D_106.1; simpa using this, by simp [go_sem, a33_0, a33_1, a33_2, a33_3, a33_4, a33_5, a33_6, a33_7, a33_8, a33_9, a33_10, c34_0, c34_1, c34_2, c34_3, c34_4, c34_5, c34_6, c34_7, c34_8, c34_9, c34_10, s35_0, s35_1, s35_2, s35_3, s35_4, s35_5, s35_6, s35_7, s35_8, s35_9, s35_10, d36_0, d36_1, d36_2, d36_3, d36_4, d36_5, d36_6, d36_7, d36_8, d36_9, d36_10], by simp [go_sem, a33_0, a33_1, a33_2, a33_3, a33_4, a33_5, a33_6, a33_7, a33_8, a33_9, a33_10, c34_0, c34_1, c34_2, c34_3, c34_4, c34_5, c34_6, c34_7, c34_8, c34_9, c34_10, s35_0, s35_1, s35_2, s35_3, s35_4, s35_5, s35_6, s35_7, s35_8, s35_9, s35_10, d36_0, d36_1, d36_2, d36_3, d36_4, d36_5, d36_6, d36_7, d36_8, d36_9, d36_10], by simp [go_sem, a33_0, a33_1, a33_2, a33_3, a33_4, a33_5, a33_6, a33_7, a33_8, a33_9, a33_10, c34_0, c34_1, c34_2, c34_3, c34_4, c34_5, c34_6, c34_7, c34_8, c34_9, c34_10, s35_0, s35_1, s35_2, s35_3, s35_4, s35_5, s35_6, s35_7, s35_8, s35_9, s35_10, d36_0, d36_1, d36_2, d36_3, d36_4, d36_5, d36_6, d36_7, d36_8, d36_9, d36_10], by simp [go_sem, a33_0, a33_1, a33_2, a33_3, a33_4, a33_5, a33_6, a33_7, a33_8, a33_9, a33_10, c34_0, c34_1, c34_2, c34_3, c34_4, c34_5, c34_6, c34_7, c34_8, c34_9, c34_10, s35_0, s35_1, s35_2, s35_3, s35_4, s35_5, s35_6, s35_7, s35_8, s35_9, s35_10, d36_0, d36_1, d36_2, d36_3, d36_4, d36_5, d36_6, d36_7, d36_8, d36_9, d36_10], by simp [go_sem, a33_0, a33_1, a33_2, a33_3, a33_4, a33_5, a33_6, a33_7, a33_8, a33_9, a33_10, c34_0, c34_1, c34_2, c34_3, c34_4, c34_5, c34_6, c34_7, c34_8, c34_9, c34_10, s35_0, s35_1, s35_2, s35_3, s35_4, s35_5, s35_6, s35_7, s35_8, s35_9, s35_10, d36_0, d36_1, d36_2, d36_3, d36_4, d36_5, d36_6, d36_7, d36_8, d36_9, d36_10], by simp [go_sem, a33_0, a33_1, a33_2, a33_3, a33_4, a33_5, a33_6, a33_7, a33_8, a33_9, a33_10, c34_0, c34_1, c34_2, c34_3, c34_4, c34_5, c34_6, c34_7, c34_8, c34_9, c34_10, s35_0, s35_1, s35_2, s35_3, s35_4, s35_5, s35_6, s35_7, s35_8, s35_9, s35_10, d36_0, d36_1, d36_2, d36_3, d36_4, d36_5, d36_6, d36_7, d36_8, d36_9, d36_10], by simp [go_sem, a33_0, a33_1, a33_2, a33_3, a33_4, a33_5, a33_6, a33_7, a33_8, a33_9, a33_10, c34_0, c34_1, c34_2, c34_3, c34_4, c34_5, c34_6, c34_7, c34_8, c34_9, c34_10, s35_0, s35_1, s35_2, s35_3, s35_4, s35_5, s35_6, s35_7, s35_8, s35_9, s35_10, d36_0, d36_1, d36_2, d36_3, d36_4, d36_5, d36_6, d36_7, d36_8, d36_9, d36_10], by simp [go_sem, a33_0, a33_1, a33_2, a33_3, a33_4, a33_5, a33_6, a33_7, a33_8, a33_9, a33_10, c34_0, c34_1, c34_2, c34_3, c34_4, c34_5, c34_6, c34_7, c34_8, c34_9, c34_10, s35_0, s35_1, s35_2, s35_3, s35_4, s35_5, s35_6, s35_7, s35_8, s35_9, s35_10, d36_0, d36_1, d36_2, d36_3, d36_4, d36_5, d36_6, d36_7, d36_8, d36_9, d36_10], by simp [go_sem, a33_0, a33_1, a33_2, a33_3, a33_4, a33_5, a33_6, a33_7, a33_8, a33_9, a33_10, c34_0, c34_1, c34_2, c34_3, c34_4, c34_5, c34_6, c34_7, c34_8, c34_9, c34_10, s35_0, s35_1, s35_2, s35_3, s35_4, s35_5, s35_6, s35_7, s35_8, s35_9, s35_10, d36_0, d36_1, d36_2, d36_3, d36_4, d36_5, d36_6, d36_7, d36_8, d36_9, d36_10], by simp [go_sem, a33_0, a33_1, a33_2, a33_3, a33_4, a33_5, a33_6, a33_7, a33_8, a33_9, a33_10, c34_0, c34_1, c34_2, c34_3, c34_4, c34_5, c34_6, c34_7, c34_8, c34_9, c34_10, s35_0, s35_1, s35_2, s35_3, s35_4, s35_5, s35_6, s35_7, s35_8, s35_9, s35_10, d36_0, d36_1, d36_2, d36_3, d36_4, d36_5, d36_6, d36_7, d36_8, d36_9, d36_10], by simp [go_sem, a33_0, a33_1, a33_2, a33_3, a33_4, a33_5, a33_6, a33_7, a33_8, a33_9, a33_10, c34_0, c34_1, c34_2, c34_3, c34_4, c34_5, c34_6, c34_7, c34_8, c34_9, c34_10, s35_0, s35_1, s35_2, s35_3, s35_4, s35_5, s35_6, s35_7, s35_8, s35_9, s35_10, d36_0, d36_1, d36_2, d36_3, d36_4, d36_5, d36_6, d36_7, d36_8, d36_9, d36_10]⟩
  have fzA_114 : ∀ i, (u40.setCell ⟨w2.heap.size, 6, none⟩ (.int .u32 151587081)).frozen? ⟨w2.heap.size, i, none⟩ = false := by intro i; simp [fzA_101]
  have fzC_115 : ∀ i, (u40.setCell ⟨w2.heap.size, 6, none⟩ (.int .u32 151587081)).frozen? ⟨u3.heap.size, i, none⟩ = false := by intro i; simp [fzC_102]
  clear a33_0 a33_1 a33_2 a33_3 a33_4 a33_5 a33_6 a33_7 a33_8 a33_9 a33_10 c34_0 c34_1 c34_2 c34_3 c34_4 c34_5 c34_6 c34_7 c34_8 c34_9 c34_10 s35_0 s35_1 s35_2 s35_3 s35_4 s35_5 s35_6 s35_7 s35_8 s35_9 s35_10 d36_0 d36_1 d36_2 d36_3 d36_4 d36_5 d36_6 d36_7 d36_8 d36_9 d36_10 A_103 C_104 S_105 D_106 fzA_101 fzC_102 B107
  obtain ⟨u41, hu41⟩ : ∃ x_ : World, x_ = (u40.setCell ⟨w2.heap.size, 6, none⟩ (.int .u32 151587081)) := ⟨_, rfl⟩
  rw [← hu41] at A_110 C_111 S_112 D_113 fzA_114 fzC_115 T_108 B109 ⊢
  clear hu41
  obtain ⟨_, a37_0, a37_1, a37_2, a37_3, a37_4, a37_5, a37_6, a37_7, a37_8, a37_9, a37_10⟩ := id A_110
  obtain ⟨_, c38_0, c38_1, c38_2, c38_3, c38_4, c38_5, c38_6, c38_7, c38_8, c38_9, c38_10⟩ := id C_111
  obtain ⟨_, s39_0, s39_1, s39_2, s39_3, s39_4, s39_5, s39_6, s39_7, s39_8, s39_9, s39_10⟩ := id S_112
  obtain ⟨_, d40_0, d40_1, d40_2, d40_3, d40_4, d40_5, d40_6, d40_7, d40_8, d40_9, d40_10⟩ := id D_113
  go_wp2_with fail
  refine (xa5 _ p _ _ T_108).mono ?_; rintro e w51 ⟨rfl, v51, T_116, x51, ho51⟩
  clear a37_0 a37_1 a37_2 a37_3 a37_4 a37_5 a37_6 a37_7 a37_8 a37_9 a37_10 c38_0 c38_1 c38_2 c38_3 c38_4 c38_5 c38_6 c38_7 c38_8 c38_9 c38_10 s39_0 s39_1 s39_2 s39_3 s39_4 s39_5 s39_6 s39_7 s39_8 s39_9 s39_10 d40_0 d40_1 d40_2 d40_3 d40_4 d40_5 d40_6 d40_7 d40_8 d40_9 d40_10
  have A_117 := A_110.keep x51.size (x51.block _ A_110.1 nfAT_65)
  have C_118 := C_111.keep x51.size (x51.block _ C_111.1 nfCT_67)
  have S_119 := S_112.keep x51.size (x51.block _ S_112.1 nfST_84)
  have D_120 := D_113.keep x51.size (x51.block _ D_113.1 nfDT_99)
  have fzA_121 : ∀ i, w51.frozen? ⟨w2.heap.size, i, none⟩ = false := fun i => (x51.frozen (p := ⟨_, i, none⟩) A_110.1 nfAT_65).trans (fzA_114 i)
  have fzC_122 : ∀ i, w51.frozen? ⟨u3.heap.size, i, none⟩ = false := fun i => (x51.frozen (p := ⟨_, i, none⟩) C_111.1 nfCT_67).trans (fzC_115 i)
  have nfAT_123 := foot_kept nfAT_65 A_110.1 ho51
  have nfCT_124 := foot_kept nfCT_67 C_111.1 ho51
  have nfST_125 := foot_kept nfST_84 S_112.1 ho51
  have nfDT_126 := foot_kept nfDT_99 D_113.1 ho51
  have B127 := T_108.after hb0 B109 x51
  clear nfAT_65 nfCT_67 nfST_84 nfDT_99 A_110 C_111 S_112 D_113 fzA_114 fzC_115 B109 T_108 x51 ho51
  obtain ⟨_, a41_0, a41_1, a41_2, a41_3, a41_4, a41_5, a41_6, a41_7, a41_8, a41_9, a41_10⟩ := id A_117
  obtain ⟨_, c42_0, c42_1, c42_2, c42_3, c42_4, c42_5, c42_6, c42_7, c42_8, c42_9, c42_10⟩ := id C_118
  obtain ⟨_, s43_0, s43_1, s43_2, s43_3, s43_4, s43_5, s43_6, s43_7, s43_8, s43_9, s43_10⟩ := id S_119
  obtain ⟨_, d44_0, d44_1, d44_2, d44_3, d44_4, d44_5, d44_6, d44_7, d44_8, d44_9, d44_10⟩ := id D_120
  go_wp2_with fail
  refine (xd6 _ p _ _ T_116).mono ?_; rintro e w52 ⟨rfl, v52, T_128, x52, ho52⟩
  clear a41_0 a41_1 a41_2 a41_3 a41_4 a41_5 a41_6 a41_7 a41_8 a41_9 a41_10 c42_0 c42_1 c42_2 c42_3 c42_4 c42_5 c42_6 c42_7 c42_8 c42_9 c42_10 s43_0 s43_1 s43_2 s43_3 s43_4 s43_5 s43_6 s43_7 s43_8 s43_9 s43_10 d44_0 d44_1 d44_2 d44_3 d44_4 d44_5 d44_6 d44_7 d44_8 d44_9 d44_10
  have A_129 := A_117.keep x52.size (x52.block _ A_117.1 nfAT_123)
  have C_130 := C_118.keep x52.size (x52.block _ C_118.1 nfCT_124)
  have S_131 := S_119.keep x52.size (x52.block _ S_119.1 nfST_125)
  have D_132 := D_120.keep x52.size (x52.block _ D_120.1 nfDT_126)
  have fzA_133 : ∀ i, w52.frozen? ⟨w2.heap.size, i, none⟩ = false := fun i => (x52.frozen (p := ⟨_, i, none⟩) A_117.1 nfAT_123).trans (fzA_121 i)
  have fzC_134 : ∀ i, w52.frozen? ⟨u3.heap.size, i, none⟩ = false := fun i => (x52.frozen (p := ⟨_, i, none⟩) C_118.1 nfCT_124).trans (fzC_122 i)
  have nfAT_135 := foot_kept nfAT_123 A_117.1 ho52
  have nfCT_136 := foot_kept nfCT_124 C_118.1 ho52
  have nfST_137 := foot_kept nfST_125 S_119.1 ho52
  have nfDT_138 := foot_kept nfDT_126 D_120.1 ho52
  have B139 := T_116.after hb0 B127 x52
  clear nfAT_123 nfCT_124 nfST_125 nfDT_126 A_117 C_118 S_119 D_120 fzA_121 fzC_122 B127 T_116 x52 ho52
  obtain ⟨_, a45_0, a45_1, a45_2, a45_3, a45_4, a45_5, a45_6, a45_7, a45_8, a45_9, a45_10⟩ := id A_129
  go_wp2_with fail
  refine (xo9 _ p _ _ T_128).mono ?_; rintro e w53 ⟨rfl, x53⟩
  have T_140 := T_128.on x53
  clear T_128
  have fzA_141 : ∀ i, w53.frozen? ⟨w2.heap.size, i, none⟩ = false := fun i => (x53.frozen (p := ⟨_, i, none⟩) A_129.1).trans (fzA_133 i)
  have fzC_142 : ∀ i, w53.frozen? ⟨u3.heap.size, i, none⟩ = false := fun i => (x53.frozen (p := ⟨_, i, none⟩) C_130.1).trans (fzC_134 i)
  clear fzA_133 fzC_134
  have A_143 := A_129.on x53
  have C_144 := C_130.on x53
  have S_145 := S_131.on x53
  have D_146 := D_132.on x53
  have B147 := B139.trans (x53.mono B139.size)
  clear a45_0 a45_1 a45_2 a45_3 a45_4 a45_5 a45_6 a45_7 a45_8 a45_9 a45_10 A_129 C_130 S_131 D_132 B139 x53
  obtain ⟨_, a46_0, a46_1, a46_2, a46_3, a46_4, a46_5, a46_6, a46_7, a46_8, a46_9, a46_10⟩ := id A_143
  go_wp2_with fail
  refine (xi9 _ p _ _ T_140).mono ?_; rintro e w54 ⟨rfl, x54⟩
  have T_148 := T_140.on x54
  clear T_140
  have fzA_149 : ∀ i, w54.frozen? ⟨w2.heap.size, i, none⟩ = false := fun i => (x54.frozen (p := ⟨_, i, none⟩) A_143.1).trans (fzA_141 i)
  have fzC_150 : ∀ i, w54.frozen? ⟨u3.heap.size, i, none⟩ = false := fun i => (x54.frozen (p := ⟨_, i, none⟩) C_144.1).trans (fzC_142 i)
  clear fzA_141 fzC_142
  have A_151 := A_143.on x54
  have C_152 := C_144.on x54
  have S_153 := S_145.on x54
  have D_154 := D_146.on x54
  have B155 := B147.trans (x54.mono B147.size)
  clear a46_0 a46_1 a46_2 a46_3 a46_4 a46_5 a46_6 a46_7 a46_8 a46_9 a46_10 A_143 C_144 S_145 D_146 B147 x54
  obtain ⟨_, a47_0, a47_1, a47_2, a47_3, a47_4, a47_5, a47_6, a47_7, a47_8, a47_9, a47_10⟩ := id A_151
  go_wp2_with fail
  refine (listC_ tm2 _ p _ _ T_148.box T_148.row (by decide)).mono ?_; rintro e w99 ⟨v99, rfl, r99, b99⟩
  obtain ⟨a9, c9, rfl⟩ := r99.slice
  have ln : tm2.rs.length = 2 := rfl
  go_wp2
  go_ret
  exact ⟨rfl, B155.trans (b99.mono B155.size)⟩
/-- The blocks of a table are old ones, or new. -/
def Newer (v v' : Value) (n : Nat) : Prop := ∀ g, v'.ownBlock = some g → v.ownBlock = some g ∨ n ≤ g
theorem Newer.of {v v' : Value} {n : Nat} (h : v'.ownBlock = v.ownBlock ∨ ∃ g, v'.ownBlock = some g ∧ n ≤ g) : Newer v v' n := by
  intro g hg
  rcases h with h | ⟨k, h, hk⟩
  · exact .inl (h ▸ hg)
  · rw [hg] at h
    obtain rfl : g = k := by simpa using h
    exact .inr hk
theorem Newer.ofD {v v' : Value} {n : Nat} (h : v'.ownBlock = v.ownBlock ∨ ∀ g, v'.ownBlock = some g → n ≤ g) : Newer v v' n := by
  intro g hg
  rcases h with h | h
  · exact .inl (h ▸ hg)
  · exact .inr (h g hg)
theorem foot_newer {w : World} {p b : Nat} {v v' : Value} (h : ¬ footC p v b) (hb : b < w.heap.size) (ho : Newer v v' w.heap.size) : ¬ footC p v' b := by
  rintro (e | e)
  · exact h (.inl e)
  · rcases ho b e with ho | ho
    · exact h (.inr ho)
    · omega
/-- Two tables have no block in common. -/
def Apart (p : Nat) (v : Value) (q : Nat) (u : Value) : Prop := ∀ k, footC p v k → ¬ footC q u k
theorem Apart.symm {p q : Nat} {v u : Value} (h : Apart p v q u) : Apart q u p v := fun k hk hp => h k hp hk
theorem TabC.lt {w : World} {B p : Nat} {v : Value} {t : Tm} (h : TabC w B p v t) : ∀ k, footC p v k → k < w.heap.size := by
  rintro k (rfl | e)
  · exact h.box.1
  · exact (h.row.lt k e).2
theorem TabD.lt {w : World} {B p : Nat} {v : Value} {t : Tm} (h : TabD w B p v t) : ∀ k, footC p v k → k < w.heap.size := by
  rintro k (rfl | e)
  · exact h.box.1
  · exact (h.row.lt k e).2
theorem TabC.ge {w : World} {B p : Nat} {v : Value} {t : Tm} (h : TabC w B p v t) : ∀ k, footC p v k → B ≤ k := by
  rintro k (rfl | e)
  · exact h.low
  · exact (h.row.lt k e).1
theorem TabD.ge {w : World} {B p : Nat} {v : Value} {t : Tm} (h : TabD w B p v t) : ∀ k, footC p v k → B ≤ k := by
  rintro k (rfl | e)
  · exact h.low
  · exact (h.row.lt k e).1
theorem Apart.of {p q n : Nat} {v u : Value} (h : ∀ k, footC p v k → k < n) (g : ∀ k, footC q u k → n ≤ k) : Apart p v q u := fun k hp hq => by have := h k hp; have := g k hq; omega
theorem Apart.kept {p q n : Nat} {v v' u : Value} (h : Apart p v q u) (hu : ∀ k, footC q u k → k < n) (ho : Newer v v' n) : Apart p v' q u := by
  intro k hp hq
  rcases hp with e | e
  · exact h k (.inl e) hq
  · rcases ho k e with ho | ho
    · exact h k (.inr ho) hq
    · have := hu k hq; omega
theorem TabD.after {a w w' : World} {B p : Nat} {v : Value} {t : Tm} (T : TabD w B p v t) (hB : a.heap.size ≤ B) (b : Below a.heap.size a w) (bs : Beside (footC p v) w w') : Below a.heap.size a w' :=
  b.trans (bs.below (fun k _ h => Nat.le_trans hB (T.ge k h)) b.size)
theorem Tm.Good.add {t : Tm} (h : t.Good) {i : Int} {r : Ru} (hr : r.Ok) : (ruAddT t i r).Good := by
  unfold ruAddT
  split
  · rename_i e
    refine ⟨h.own1, h.ip1, h.bits, ?_, fun x hx => ?_⟩
    · unfold ruAddE at e
      split at e
      · omega
      · split at e
        · omega
        · have := h.few; show (t.rs.take i.toNat ++ r :: t.rs.drop i.toNat).length ≤ 32; simp; omega
    · simp only [List.mem_append, List.mem_cons] at hx
      rcases hx with hx | rfl | hx
      · exact h.all x (List.mem_of_mem_take hx)
      · exact hr
      · exact h.all x (List.mem_of_mem_drop hx)
  · exact h
theorem Tm.Good.del {t : Tm} (h : t.Good) {i : Int} : (ruDelT t i).Good := by
  unfold ruDelT
  split
  · refine ⟨h.own1, h.ip1, h.bits, ?_, fun x hx => ?_⟩
    · have := h.few; show (t.rs.take i.toNat ++ t.rs.drop (i.toNat + 1)).length ≤ 32; simp; omega
    · simp only [List.mem_append] at hx
      rcases hx with hx | hx
      · exact h.all x (List.mem_of_mem_take hx)
      · exact h.all x (List.mem_of_mem_drop hx)
  · exact h
theorem addC_n (t : Tm) (B p : Nat) (v : Value) (w : World) (H : TabC w B p v t) (G : t.Good) (i : Int) (x : Ru) (hr : x.Ok) (i0 : -9223372036854775808 ≤ i) (i1 : i ≤ 9223372036854775807) : Calls Try.prog 15 #[.pointer (some ⟨p, 0, none⟩), .int .i64 i, .agg #[.int .i64 x.k, .int .u8 x.pr, .int .u32 (x.si : Int), .int .i64 x.sb, .int .u32 (x.di : Int), .int .i64 x.db, .int .u32 (x.ex : Int), .int .u16 x.fr, .int .u16 x.to, .int .u32 (x.ii : Int), .int .u16 x.ip]] w fun e w' => e = .returned (.int .i64 (ruAddE t i x)) ∧ ∃ v', TabC w' B p v' (ruAddT t i x) ∧ Beside (footC p v) w w' ∧ Newer v v' w.heap.size :=
  (addC_ t B p v i x w H H.sizeB G.few G.ip1 G.bits hr i0 i1).mono fun e w' ⟨a, v', b, c, d⟩ => ⟨a, v', b, c, Newer.of d⟩
theorem delC_n (t : Tm) (B p : Nat) (v : Value) (w : World) (H : TabC w B p v t) (G : t.Good) (i : Int) : Calls Try.prog 17 #[.pointer (some ⟨p, 0, none⟩), .int .i64 i] w fun e w' => e = .returned (.int .i64 (ruDelE t i)) ∧ ∃ v', TabC w' B p v' (ruDelT t i) ∧ Beside (footC p v) w w' ∧ Newer v v' w.heap.size :=
  (deleteC_ t B p v i w H (by have := G.few; omega)).mono fun e w' ⟨a, v', b, c, d⟩ => ⟨a, v', b, c, Newer.of (.inl d)⟩
theorem addD_n (t : Tm) (B p : Nat) (v : Value) (w : World) (H : TabD w B p v t) (G : t.Good) (i : Int) (x : Ru) (hr : x.Ok) (i0 : -9223372036854775808 ≤ i) (i1 : i ≤ 9223372036854775807) : Calls Try.prog 16 #[.pointer (some ⟨p, 0, none⟩), .int .i64 i, .agg #[.int .i64 x.k, .int .u8 x.pr, .int .u32 (x.si : Int), .int .i64 x.sb, .int .u32 (x.di : Int), .int .i64 x.db, .int .u32 (x.ex : Int), .int .u16 x.fr, .int .u16 x.to, .int .u32 (x.ii : Int), .int .u16 x.ip]] w fun e w' => e = .returned (.int .i64 (ruAddE t i x)) ∧ ∃ v', TabD w' B p v' (ruAddT t i x) ∧ Beside (footC p v) w w' ∧ Newer v v' w.heap.size :=
  (raddR_ t B p v i x w H H.sizeB G.few G.ip1 G.bits hr).mono fun e w' ⟨a, v', b, c, d⟩ => ⟨a, v', b, c.foot v, Newer.ofD d⟩
theorem delD_n (t : Tm) (B p : Nat) (v : Value) (w : World) (H : TabD w B p v t) (G : t.Good) (i : Int) : Calls Try.prog 18 #[.pointer (some ⟨p, 0, none⟩), .int .i64 i] w fun e w' => e = .returned (.int .i64 (ruDelE t i)) ∧ ∃ v', TabD w' B p v' (ruDelT t i) ∧ Beside (footC p v) w w' ∧ Newer v v' w.heap.size :=
  (rdelR_ t B p v i w H H.sizeB (by have := G.few; omega)).mono fun e w' ⟨a, v', b, c, d⟩ => ⟨a, v', b, c.foot v, Newer.ofD d⟩
theorem newD_ (own ip : Nat) (bits : Int) (w : World) (ho : own < 4294967296) (hi : ip < 4294967296) (hb : -9223372036854775808 ≤ bits ∧ bits ≤ 9223372036854775807) :
    Calls Try.prog 12 #[.int .u32 (own : Int), .agg #[.int .u32 (ip : Int), .int .i64 bits]] w fun e w' => Below w.heap.size w w' ∧ ((ruNewE own ip bits = 2 ∧ e = .returned (.tuple #[.pointer none, .int .i64 2])) ∨ (ruNewE own ip bits = 0 ∧ ∃ p, e = .returned (.tuple #[.pointer (some ⟨p, 0, none⟩), .int .i64 0]) ∧ TabD w' w.heap.size p (.slice none 0 0) ⟨own, ip, bits, []⟩)) := by
  refine (rnewR_ own ip bits w ho hi hb).mono ?_
  rintro e w' ⟨b, h | ⟨h, p, e', hp, T, F⟩⟩
  · exact ⟨b, .inl h⟩
  · exact ⟨b, .inr ⟨h, p, e', T, World.ownsRow_nil _ _ _ _, hp, by simp [Value.ownBlock], F⟩⟩
end Go.Proofs.Ytoogegpkgohffaa
