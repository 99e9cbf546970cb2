/- Texts of this proof, together: RulKI, RulKJ, RulKL. -/
import Derived.Test.YtoogegpkgohffaaSc
import Derived.Lib.SlBuf
import Derived.Lib.AppendZerosOnto
import Derived.Lib.Overlaps
import Derived.Laws.CopyRow
import Derived.Laws.OwnMore
import Derived.Deep.RegionLaw
namespace Go.Proofs.Ytoogegpkgohffaa
set_option linter.unusedVariables false
set_option linter.unusedSimpArgs false
open Go.ChangeShapes Go.WideShapes Go.ChangeAt Go.RowKit Go.PlainAid
attribute [local go_sem ↓] Go.wp_at_zero Go.wp_at_succ
section
variable {P : Program}
/-- copy, both of elements of i.size cells: all is read ahead of what is written. -/
theorem run_copyk (w : World) (dT sT ty elem : TypeId) (i : TypeInfo) (g o dLen dCap : Nat) (a : Addr) (sLen sCap : Nat) (cur : Array Value) (t : TypeId) (cs : List Value) (hu : P.underlying dT = some (.slice elem)) (hs : P.info? elem = some i)
    (hg : w.heap[g]? = some (.cells cur t (0, 0))) (n : Nat) (hm : Nat.min sLen dLen = n) (hn : cs.length = n * i.size) (hsrc : ∀ j v, cs[j]? = some v → w.cell? (a.add j) = some v) (hfit : o + cs.length ≤ cur.size) (h1 : ∀ v ∈ cs, v.oneCell' = true) :
    (Builtin.copy_ #[dT, sT] ty #[.slice (some ⟨g, o, none⟩) dLen dCap, .slice (some a) sLen sCap]).run P w = .ok (goInt n) (w.setRow g (cur.toList.take o ++ cs ++ cur.toList.drop (o + cs.length)).toArray) := by
  have hf := run_firstCells_some (P := P) w i.size n a sLen sCap cs hn hsrc
  have hst := run_storeCells_at P g o t cs 0 cur w hg (by simpa using hfit) h1
  simp [Builtin.copy_, run_underlying hu, Builtin.lenOf, sizeOf, typeInfo, hs, hm, hf, hst]
/-- clear of one element. -/
theorem run_clear1 (w : World) (t e ty : TypeId) (z : Value) (k : Nat) (ht : P.underlying t = some (.slice e)) (hv : ∀ w, (zeroValue e).run P w = .ok z w) (hk : 0 < k) (hz : z.cells.size = k) (h1 : ∀ u ∈ z.cells.toList, u.oneCell' = true) (g o n c : Nat) (hn1 : n = 1) (cur : Array Value) (T : TypeId)
    (hg : w.heap[g]? = some (.cells cur T (0, 0))) (hfit : o + k ≤ cur.size) :
    (Builtin.clear_ #[t] ty #[.slice (some ⟨g, o, none⟩) n c]).run P w = .ok (.tuple #[]) (w.setRow g (cur.toList.take o ++ (Builtin.zeroCells z.cells 1).toList ++ cur.toList.drop (o + k)).toArray) := by
  subst hn1
  have hl : (Builtin.zeroCells z.cells 1).toList.length = k := by simp [Builtin.zeroCells, hz]
  have ho : ∀ u ∈ (Builtin.zeroCells z.cells 1).toList, u.oneCell' = true := by
    intro u hu
    simp [Builtin.zeroCells] at hu
    obtain ⟨i, _, hi⟩ := hu
    refine h1 u ?_
    rw [← hi]
    rw [getElem!_pos z.cells _ (Nat.mod_lt _ (by rw [hz]; exact hk))]
    exact Array.getElem_mem_toList _
  have hst := run_storeCells_at P g o T (Builtin.zeroCells z.cells 1).toList 0 cur w hg (by rw [hl]; simpa using hfit) ho
  rw [hl] at hst
  simp only [Nat.add_zero] at hst
  simp [Builtin.clear_, run_underlying ht, hv, hst]
/-- copy, as one step of a region that draws. -/
theorem step_copyk {ops : Array Oper} {o : Oper} {a : Act} {w : World} {K : Act → World → Prop} {Q : Exit → Act → World → Prop} {E : Prop} (hg : o.guard = none) (d x : Operand) (dT sT : TypeId) (hop : o.op = Op.call { callee := Callee.builtin Builtin.copy, args := #[d, x], argTypes := #[dT, sT] })
    (v u : Value) (hd : a.eval d = v) (hx : a.eval x = u) {v' : Value} {w' : World} (hr : ∀ ty, (Builtin.copy_ #[dT, sT] ty #[v, u]).run P w = .ok v' w') (hK : K (a.put o.dst v') w') :
    if Region.wanted o (yielded ops a.tmps) = true then Oper.wp P o a w K Q else E := by
  rw [if_pos (by simp [Region.wanted, hg])]
  exact Lib.wp_copy_run w d x dT sT hop v u hd hx (hr _) hK
/-- append, as one step of a region that draws. -/
theorem step_appendk {ops : Array Oper} {o : Oper} {a : Act} {w : World} {K : Act → World → Prop} {Q : Exit → Act → World → Prop} {E : Prop} (hg : o.guard = none) (d x : Operand) (dT sT : TypeId) (hop : o.op = Op.call { callee := Callee.builtin Builtin.append, args := #[d, x], argTypes := #[dT, sT] })
    (v u : Value) (hd : a.eval d = v) (hx : a.eval x = u) {v' : Value} {w' : World} (hr : ∀ ty, (Builtin.append_ #[dT, sT] ty #[v, u]).run P w = .ok v' w') (hK : K (a.put o.dst v') w') :
    if Region.wanted o (yielded ops a.tmps) = true then Oper.wp P o a w K Q else E := by
  rw [if_pos (by simp [Region.wanted, hg])]
  exact Lib.wp_append_run w d x dT sT hop v u hd hx _ _ (hr _) hK
end
theorem info_rule : (Try.prog.info? 42).map (fun i => (i.zero, i.size, i.bytes)) = some (some (.agg #[.int .i64 0, .int .u8 0, .int .u32 0, .int .i64 0, .int .u32 0, .int .i64 0, .int .u32 0, .int .u16 0, .int .u16 0, .int .u32 0, .int .u16 0]), 11, 64) := by kernel_rfl
theorem rule_info : ∃ i0, Try.prog.info? 42 = some i0 ∧ i0.zero = some (.agg #[.int .i64 0, .int .u8 0, .int .u32 0, .int .i64 0, .int .u32 0, .int .i64 0, .int .u32 0, .int .u16 0, .int .u16 0, .int .u32 0, .int .u16 0]) ∧ i0.size = 11 ∧ i0.bytes = 64 := by
  have h := info_rule
  cases hq : Try.prog.info? 42 with
  | none => rw [hq] at h; simp at h
  | some i0 =>
    rw [hq] at h
    simp only [Option.map_some, Option.some.injEq, Prod.mk.injEq] at h
    exact ⟨i0, rfl, h.1, h.2.1, h.2.2⟩
/-- A slice of rules of the call's own (from block B on). -/
def RowC (w : World) (B : Nat) (v : Value) (rs : List Ru) : Prop := w.ownsRow B 42 11 v rs.length (valsR rs)
theorem valsR_take (rs : List Ru) (i : Nat) : (valsR rs).take (i * 11) = valsR (rs.take i) := by
  induction rs generalizing i with
  | nil => simp [valsR]
  | cons r l ih =>
    cases i with
    | zero => simp [valsR]
    | succ i => rw [List.take_succ_cons, valsR_cons, valsR_cons, List.take_append, vals_len, show (i + 1) * 11 - 11 = i * 11 by omega, ih, List.take_of_length_le (by rw [vals_len]; omega)]
theorem valsR_drop (rs : List Ru) (i : Nat) : (valsR rs).drop (i * 11) = valsR (rs.drop i) := by
  induction rs generalizing i with
  | nil => simp [valsR]
  | cons r l ih =>
    cases i with
    | zero => simp
    | succ i => rw [List.drop_succ_cons, valsR_cons, List.drop_append, vals_len, show (i + 1) * 11 - 11 = i * 11 by omega, ih, List.drop_of_length_le (by rw [vals_len]; omega)]; simp

theorem RowC.of {w : World} {B g cap : Nat} {cur : Array Value} {rs : List Ru} (hg : w.heap[g]? = some (.cells cur 42 (0, 0))) (hB : B ≤ g) (hn : rs.length ≤ cap) (hm : cap ≤ maxLen) (hs : cur.size = cap * 11) (h : ∀ j, j < rs.length * 11 → cur.toList[j]? = (valsR rs)[j]?) : RowC w B (.slice (some ⟨g, 0, none⟩) rs.length cap) rs := by
  refine ⟨valsR_len rs, .inr ⟨g, cap, cur, rfl, hB, hg, hn, hm, hs, ?_⟩⟩
  refine List.ext_getElem? fun j => ?_
  rw [List.getElem?_take]
  by_cases hj : j < rs.length * 11
  · rw [if_pos hj, h j hj]
  · rw [if_neg hj, List.getElem?_eq_none (by rw [valsR_len]; omega)]
theorem RowC.get {w : World} {B g n cap : Nat} {rs : List Ru} (h : RowC w B (.slice (some ⟨g, 0, none⟩) n cap) rs) : ∃ cur : Array Value, n = rs.length ∧ B ≤ g ∧ g < w.heap.size ∧ w.heap[g]? = some (.cells cur 42 (0, 0)) ∧ rs.length ≤ cap ∧ cap ≤ maxLen ∧ cur.size = cap * 11 ∧ ∀ j, j < rs.length * 11 → cur.toList[j]? = (valsR rs)[j]? := by
  obtain ⟨_, ⟨h, _⟩ | ⟨g', cap', cur, e, hB, hg, hn, hm, hs, ht⟩⟩ := h
  · cases h
  · simp only [Value.slice.injEq, Option.some.injEq, Addr.mk.injEq] at e
    obtain ⟨⟨rfl, _⟩, rfl, rfl⟩ := e
    refine ⟨cur, rfl, hB, (Array.getElem?_eq_some_iff.1 hg).1, hg, hn, hm, hs, fun j hj => ?_⟩
    rw [← ht, List.getElem?_take, if_pos hj]
theorem RowC.kinds {w : World} {B : Nat} {v : Value} {rs : List Ru} (h : RowC w B v rs) : (v = .slice none 0 0 ∧ rs = []) ∨ ∃ g cap, v = .slice (some ⟨g, 0, none⟩) rs.length cap := by
  obtain ⟨hl, ⟨h, hn⟩ | ⟨g, cap, cur, e, _⟩⟩ := h
  · exact .inl ⟨h, List.eq_nil_of_length_eq_zero hn⟩
  · exact .inr ⟨g, cap, e⟩
theorem RowC.low {w : World} {A B : Nat} {v : Value} {rs : List Ru} (h : RowC w B v rs) (hA : A ≤ B) : RowC w A v rs := by
  obtain ⟨hl, h | ⟨g, cap, cur, e, hB, hr⟩⟩ := h
  · exact ⟨hl, .inl h⟩
  · exact ⟨hl, .inr ⟨g, cap, cur, e, Nat.le_trans hA hB, hr⟩⟩
/-- A part of a list, written over. -/
def spl {α : Type} (L : List α) (o : Nat) (cs : List α) : List α := L.take o ++ cs ++ L.drop (o + cs.length)
theorem spl_len {α : Type} (L : List α) (o : Nat) (cs : List α) (h : o + cs.length ≤ L.length) : (spl L o cs).length = L.length := by simp [spl]; omega
theorem spl_get {α : Type} (L : List α) (o : Nat) (cs : List α) (h : o + cs.length ≤ L.length) (j : Nat) : (spl L o cs)[j]? = if j < o then L[j]? else if j < o + cs.length then cs[j - o]? else L[j]? := by
  unfold spl
  by_cases h1 : j < o
  · rw [if_pos h1, List.append_assoc, List.getElem?_append_left (by simp; omega), List.getElem?_take, if_pos h1]
  · rw [if_neg h1]
    by_cases h2 : j < o + cs.length
    · rw [if_pos h2, List.getElem?_append_left (by simp; omega), List.getElem?_append_right (by simp; omega)]
      congr 1
      simp
      omega
    · rw [if_neg h2, List.getElem?_append_right (by simp; omega), List.getElem?_drop]
      congr 1
      simp
      omega
theorem ins_get (rs : List Ru) (r : Ru) (i j : Nat) (hi : i ≤ rs.length) : (valsR (rs.take i ++ r :: rs.drop i))[j]? = if j < i * 11 then (valsR rs)[j]? else if j < i * 11 + 11 then r.vals[j - i * 11]? else (valsR rs)[j - 11]? := by
  have hl : (valsR (rs.take i)).length = i * 11 := by rw [valsR_len, List.length_take, Nat.min_eq_left hi]
  rw [valsR_app, valsR_cons]
  by_cases h1 : j < i * 11
  · rw [if_pos h1, List.getElem?_append_left (by omega), ← valsR_take, List.getElem?_take, if_pos h1]
  · rw [if_neg h1, List.getElem?_append_right (by omega), hl]
    by_cases h2 : j < i * 11 + 11
    · rw [if_pos h2, List.getElem?_append_left (by rw [vals_len]; omega)]
    · rw [if_neg h2, List.getElem?_append_right (by rw [vals_len]; omega), vals_len, ← valsR_drop, List.getElem?_drop]
      congr 1
      omega
theorem del_get (rs : List Ru) (i j : Nat) (hi : i < rs.length) : (valsR (rs.take i ++ rs.drop (i + 1)))[j]? = if j < i * 11 then (valsR rs)[j]? else (valsR rs)[j + 11]? := by
  have hl : (valsR (rs.take i)).length = i * 11 := by rw [valsR_len, List.length_take, Nat.min_eq_left (by omega)]
  rw [valsR_app]
  by_cases h1 : j < i * 11
  · rw [if_pos h1, List.getElem?_append_left (by omega), ← valsR_take, List.getElem?_take, if_pos h1]
  · rw [if_neg h1, List.getElem?_append_right (by omega), hl, ← valsR_drop, List.getElem?_drop]
    congr 1
    omega
theorem zero_cells : ((.agg #[.int .i64 0, .int .u8 0, .int .u32 0, .int .i64 0, .int .u32 0, .int .i64 0, .int .u32 0, .int .u16 0, .int .u16 0, .int .u32 0, .int .u16 0] : Value)).cells.size = 11 := by rfl
/-- What is told of slices.Insert: a row of the own that holds what it should; blocks beside the slice's own are as they were; the row's block is the old one, or a new one. -/
def Ins (B : Nat) (v : Value) (rs : List Ru) (w : World) (e : Ending) (w' : World) : Prop := ∃ v', e = .returned v' ∧ RowC w' B v' rs ∧ w.grownBy w' v.ownBlock ∧ (v'.ownBlock = v.ownBlock ∨ ∃ g, v'.ownBlock = some g ∧ w.heap.size ≤ g)
theorem RowC.fresh {w : World} {B cap : Nat} {rs : List Ru} {arr : Array Value} (hB : B ≤ w.heap.size) (hn : rs.length ≤ cap) (hm : cap ≤ maxLen) (hs : arr.size = cap * 11) (h : ∀ j, j < rs.length * 11 → arr.toList[j]? = (valsR rs)[j]?) : RowC (w.drew.alloc (.cells arr 42)) B (.slice (some ⟨w.heap.size, 0, none⟩) rs.length cap) rs := by
  refine RowC.of (cur := arr) ?_ hB hn hm hs h
  exact heap_alloc_new w.drew _
theorem grown_fresh (w : World) (o : Obj) (row : Option Nat) : w.grownBy (w.drew.alloc o) row := ⟨rfl, rfl, rfl, by simp, fun k hk _ => heap_alloc_old w.drew o hk⟩
theorem grown_row {w w' : World} {g : Nat} (h : w.grownBy w' (some g)) (cs : Array Value) : w.grownBy (w'.setRow g cs) (some g) := ⟨h.os, h.tape, h.output, by have := h.size; simpa [World.setRow] using this, fun k hk hn => (setRow_other w' g k cs (fun e => hn (by rw [e]))).trans (h.block k hk hn)⟩
set_option maxHeartbeats 4000000 in
set_option maxRecDepth 100000 in
theorem insert_nil (B : Nat) (r : Ru) (vb : Nat) (w : World) (hB : B ≤ w.heap.size) (hv : w.heap[vb]? = some (.cells r.vals.toArray 42 (0, 0))) :
    Calls Try.prog 44 #[.slice none 0 0, .int .i64 (0 : Nat), .slice (some ⟨vb, 0, none⟩) 1 1] w (Ins B (.slice none 0 0) ([r]) w) := by
  have hvc : ∀ W : World, W.heap[vb]? = w.heap[vb]? → ∀ j u, (r.vals)[j]? = some u → W.cell? ((⟨vb, 0, none⟩ : Addr).add j) = some u := by
    intro W hW j u hj
    rw [Addr.add_lit]
    simp only [World.cell?, Nat.zero_add]
    rw [hW, hv]
    simpa using hj
  have hv1 : ∀ u ∈ r.vals, u.oneCell' = true := fun u hu => vals_one [r] u (by simpa [valsR] using hu)
  obtain ⟨i0, hi0, hz0, hz1, hz2⟩ := rule_info
  have mxl : maxLen = 9223372036854775807 := rfl
  have hr := fun ty => run_append_nil (P := Try.prog) w 50 ty 42 i0 _ Try.underlying50 hi0 hz0 ⟨vb, 0, none⟩ 1 1 r.vals (by rw [hz1]; rfl) (hvc w rfl) (by omega) (by omega) (by rw [hz2]; omega)
  have hG := grownCap_ge w 1 0 42
  have hGm := grownCap_le_maxLen w 1 0 42 (by omega)
  generalize grownCap w 1 0 42 = G at *
  have EN : Hid (∀ e w', (e = .returned (.slice (some ⟨w.heap.size, 0, none⟩) 1 G) ∧ w' = w.drew.alloc (.cells (r.vals.toArray ++ Builtin.zeroCells (.agg #[.int .i64 0, .int .u8 0, .int .u32 0, .int .i64 0, .int .u32 0, .int .i64 0, .int .u32 0, .int .u16 0, .int .u16 0, .int .u32 0, .int .u16 0] : Value).cells (G - 1)) 42)) → Ins B (.slice none 0 0) [r] w e w') := by
    rintro e w' ⟨rfl, rfl⟩
    refine ⟨_, rfl, RowC.fresh (rs := [r]) hB hG hGm ?_ ?_, grown_fresh _ _ _, .inr ⟨_, rfl, Nat.le_refl _⟩⟩
    · rw [Array.size_append, size_zeroCells, zero_cells]
      simp [vals_len]
      omega
    · intro j hj
      rw [Array.toList_append, List.getElem?_append_left (by simp [vals_len]; simpa using hj)]
      simp [valsR]
  clear hvc hv hv1 hi0 hz0 hz1 hz2 hG hGm hB
  refine Calls.mono ?_ EN.out
  go_enter Try.func44, Try.ntmps44
  go_wp2_with (at_builtin; refine Lib.wpList_append_run _ rfl _ _ _ _ rfl _ _ rfl rfl _ _ (hr _) ?_)
  go_ret
  exact ⟨rfl, rfl⟩
set_option maxHeartbeats 4000000 in
set_option maxRecDepth 100000 in
theorem insert_endR (B : Nat) (rs : List Ru) (r : Ru) (vb : Nat) (w : World) (hl : rs.length ≤ 1000) (hB : B ≤ w.heap.size) (hv : w.heap[vb]? = some (.cells r.vals.toArray 42 (0, 0))) (g c : Nat) (hR : RowC w B (.slice (some ⟨g, 0, none⟩) rs.length c) rs) (hroom : rs.length + 1 ≤ c) :
    Calls Try.prog 44 #[.slice (some ⟨g, 0, none⟩) rs.length c, .int .i64 (rs.length : Nat), .slice (some ⟨vb, 0, none⟩) 1 1] w (Ins B (.slice (some ⟨g, 0, none⟩) rs.length c) (rs ++ [r]) w) := by
  have hvc : ∀ W : World, W.heap[vb]? = w.heap[vb]? → ∀ j u, (r.vals)[j]? = some u → W.cell? ((⟨vb, 0, none⟩ : Addr).add j) = some u := by
    intro W hW j u hj
    rw [Addr.add_lit]
    simp only [World.cell?, Nat.zero_add]
    rw [hW, hv]
    simpa using hj
  have hv1 : ∀ u ∈ r.vals, u.oneCell' = true := fun u hu => vals_one [r] u (by simpa [valsR] using hu)
  obtain ⟨i0, hi0, hz0, hz1, hz2⟩ := rule_info
  have mxl : maxLen = 9223372036854775807 := rfl
  obtain ⟨cur, _, hgB, hgw, hg, hnc, hcm, hcs, hcur⟩ := hR.get
  have hv_len := valsR_len rs
  have hcurl : cur.toList.length = c * 11 := by simpa using hcs
  have hgc : ∀ W : World, W.heap[g]? = w.heap[g]? → ∀ j u, (valsR rs)[j]? = some u → W.cell? ((⟨g, 0, none⟩ : Addr).add j) = some u := by
    intro W hW j u hj
    have hlt : j < rs.length * 11 := by
      have := (List.getElem?_eq_some_iff.1 hj).1
      omega
    rw [Addr.add_lit]
    simp only [World.cell?, Nat.zero_add]
    rw [hW, hg]
    have := hcur j hlt
    rw [hj] at this
    simpa using this
  have hx0 : ¬ ((1 : Int) = 0) := by omega
  have hr := fun ty => run_append_room (P := Try.prog) w 50 ty 42 i0 Try.underlying50 hi0 g rs.length c cur hg ⟨vb, 0, none⟩ 1 1 r.vals (by rw [hz1]; rfl) (hvc w rfl) hv1 hroom (by rw [hz1, vals_len]; omega)
  rw [hz1] at hr
  obtain ⟨ROW, hROW⟩ : ∃ x, x = cur.toList.take (rs.length * 11) ++ r.vals ++ cur.toList.drop (rs.length * 11 + r.vals.length) := ⟨_, rfl⟩
  rw [← hROW] at hr
  have EN : Hid (∀ e w', (e = .returned (.slice (some ⟨g, 0, none⟩) (rs.length + 1) c) ∧ w' = w.setRow g ROW.toArray) → Ins B (.slice (some ⟨g, 0, none⟩) rs.length c) (rs ++ [r]) w e w') := by
    rintro e w' ⟨rfl, rfl⟩
    have hrow : ROW = spl cur.toList (rs.length * 11) r.vals := hROW
    refine ⟨_, rfl, ?_, grown_row ⟨rfl, rfl, rfl, Nat.le_refl _, fun _ _ _ => rfl⟩ _, .inl rfl⟩
    have key := RowC.of (w := w.setRow g ROW.toArray) (B := B) (g := g) (cap := c) (cur := ROW.toArray) (rs := rs ++ [r]) (setRow_heap w g cur _ _ _ hg) hgB (by simp; omega) hcm (by rw [hrow, List.size_toArray, spl_len _ _ _ (by rw [vals_len]; omega)]; exact hcurl) (by
      intro j hj
      simp only [List.length_append, List.length_singleton] at hj
      rw [hrow, List.toList_toArray, spl_get _ _ _ (by rw [vals_len]; omega), vals_len]
      have hi2 := ins_get rs r rs.length j (Nat.le_refl _)
      rw [List.take_length, List.drop_length] at hi2
      rw [hi2]
      by_cases h1 : j < rs.length * 11
      · rw [if_pos h1, if_pos h1, hcur j h1]
      · rw [if_neg h1, if_neg h1, if_pos (by omega), if_pos (by omega)])
    simpa using key
  clear hvc hv hv1 hi0 hz0 hz1 hz2 hB hR hg hgB hgw hnc hcs hcur hcurl hROW hgc hv_len
  have hn2 : (rs.length : Int) ≤ 1000 := by omega
  refine Calls.mono ?_ EN.out
  generalize rs.length = n at *
  go_enter Try.func44, Try.ntmps44
  go_wp2_with (at_builtin; refine Lib.wpList_append_run _ rfl _ _ _ _ rfl _ _ rfl rfl _ _ (hr _) ?_)
  all_goals (go_ret; exact ⟨rfl, rfl⟩)
set_option maxHeartbeats 4000000 in
set_option maxRecDepth 100000 in
theorem insert_endG (B : Nat) (rs : List Ru) (r : Ru) (vb : Nat) (w : World) (hl : rs.length ≤ 1000) (hB : B ≤ w.heap.size) (hv : w.heap[vb]? = some (.cells r.vals.toArray 42 (0, 0))) (g c : Nat) (hR : RowC w B (.slice (some ⟨g, 0, none⟩) rs.length c) rs) (hroom : c < rs.length + 1) :
    Calls Try.prog 44 #[.slice (some ⟨g, 0, none⟩) rs.length c, .int .i64 (rs.length : Nat), .slice (some ⟨vb, 0, none⟩) 1 1] w (Ins B (.slice (some ⟨g, 0, none⟩) rs.length c) (rs ++ [r]) w) := by
  have hvc : ∀ W : World, W.heap[vb]? = w.heap[vb]? → ∀ j u, (r.vals)[j]? = some u → W.cell? ((⟨vb, 0, none⟩ : Addr).add j) = some u := by
    intro W hW j u hj
    rw [Addr.add_lit]
    simp only [World.cell?, Nat.zero_add]
    rw [hW, hv]
    simpa using hj
  have hv1 : ∀ u ∈ r.vals, u.oneCell' = true := fun u hu => vals_one [r] u (by simpa [valsR] using hu)
  obtain ⟨i0, hi0, hz0, hz1, hz2⟩ := rule_info
  have mxl : maxLen = 9223372036854775807 := rfl
  obtain ⟨cur, _, hgB, hgw, hg, hnc, hcm, hcs, hcur⟩ := hR.get
  have hv_len := valsR_len rs
  have hcurl : cur.toList.length = c * 11 := by simpa using hcs
  have hgc : ∀ W : World, W.heap[g]? = w.heap[g]? → ∀ j u, (valsR rs)[j]? = some u → W.cell? ((⟨g, 0, none⟩ : Addr).add j) = some u := by
    intro W hW j u hj
    have hlt : j < rs.length * 11 := by
      have := (List.getElem?_eq_some_iff.1 hj).1
      omega
    rw [Addr.add_lit]
    simp only [World.cell?, Nat.zero_add]
    rw [hW, hg]
    have := hcur j hlt
    rw [hj] at this
    simpa using this
  have hx0 : ¬ ((1 : Int) = 0) := by omega
  have hr := fun ty => run_append_grow (P := Try.prog) w 50 ty 42 i0 _ Try.underlying50 hi0 hz0 ⟨g, 0, none⟩ rs.length c (valsR rs) (by rw [hz1, valsR_len]) (hgc w rfl) ⟨vb, 0, none⟩ 1 1 r.vals (by rw [hz1]; rfl) (hvc w rfl) hroom (by omega) (growslice_fits hroom (by rw [hz2]; omega))
  have hG := grownCap_ge w (rs.length + 1) c 42
  have hGm := grownCap_le_maxLen w (rs.length + 1) c 42 (by omega)
  generalize grownCap w (rs.length + 1) c 42 = G at *
  obtain ⟨ROW, hROW⟩ : ∃ x, x = (valsR rs).toArray ++ r.vals.toArray ++ Builtin.zeroCells (.agg #[.int .i64 0, .int .u8 0, .int .u32 0, .int .i64 0, .int .u32 0, .int .i64 0, .int .u32 0, .int .u16 0, .int .u16 0, .int .u32 0, .int .u16 0] : Value).cells (G - (rs.length + 1)) := ⟨_, rfl⟩
  rw [← hROW] at hr
  have EN : Hid (∀ e w', (e = .returned (.slice (some ⟨w.heap.size, 0, none⟩) (rs.length + 1) G) ∧ w' = w.drew.alloc (.cells ROW 42)) → Ins B (.slice (some ⟨g, 0, none⟩) rs.length c) (rs ++ [r]) w e w') := by
    rintro e w' ⟨rfl, rfl⟩
    refine ⟨_, rfl, ?_, grown_fresh _ _ _, .inr ⟨_, rfl, Nat.le_refl _⟩⟩
    have key := RowC.fresh (w := w) (B := B) (cap := G) (rs := rs ++ [r]) (arr := ROW) hB (by simpa using hG) hGm (by
      rw [hROW, Array.size_append, Array.size_append, size_zeroCells, zero_cells, List.size_toArray, List.size_toArray, valsR_len, vals_len]
      omega) (by
      intro j hj
      rw [hROW, Array.toList_append, Array.toList_append, List.toList_toArray, List.toList_toArray, List.getElem?_append_left (by simp only [List.length_append, valsR_len, vals_len, List.length_singleton] at hj ⊢; omega), valsR_app]
      simp [valsR])
    simpa using key
  clear hvc hv hv1 hi0 hz0 hz1 hz2 hB hR hg hgB hgw hnc hcs hcur hcurl hROW hgc hv_len hG hGm
  have hn2 : (rs.length : Int) ≤ 1000 := by omega
  refine Calls.mono ?_ EN.out
  generalize rs.length = n at *
  go_enter Try.func44, Try.ntmps44
  go_wp2_with (at_builtin; refine Lib.wpList_append_run _ rfl _ _ _ _ rfl _ _ rfl rfl _ _ (hr _) ?_)
  all_goals (go_ret; exact ⟨rfl, rfl⟩)
set_option maxHeartbeats 4000000 in
set_option maxRecDepth 100000 in
theorem insert_grow (B : Nat) (rs : List Ru) (r : Ru) (i vb : Nat) (w : World) (hl : rs.length ≤ 1000) (hB : B ≤ w.heap.size) (hv : w.heap[vb]? = some (.cells r.vals.toArray 42 (0, 0))) (g c : Nat) (hR : RowC w B (.slice (some ⟨g, 0, none⟩) rs.length c) rs) (hi : i < rs.length) (hne : ¬ g = vb) (hroom : c < rs.length + 1) :
    Calls Try.prog 44 #[.slice (some ⟨g, 0, none⟩) rs.length c, .int .i64 (i : Nat), .slice (some ⟨vb, 0, none⟩) 1 1] w (Ins B (.slice (some ⟨g, 0, none⟩) rs.length c) (rs.take i ++ r :: rs.drop i) w) := by
  have hvc : ∀ W : World, W.heap[vb]? = w.heap[vb]? → ∀ j u, (r.vals)[j]? = some u → W.cell? ((⟨vb, 0, none⟩ : Addr).add j) = some u := by
    intro W hW j u hj
    rw [Addr.add_lit]
    simp only [World.cell?, Nat.zero_add]
    rw [hW, hv]
    simpa using hj
  have hv1 : ∀ u ∈ r.vals, u.oneCell' = true := fun u hu => vals_one [r] u (by simpa [valsR] using hu)
  obtain ⟨i0, hi0, hz0, hz1, hz2⟩ := rule_info
  have mxl : maxLen = 9223372036854775807 := rfl
  obtain ⟨cur, _, hgB, hgw, hg, hnc, hcm, hcs, hcur⟩ := hR.get
  have hv_len := valsR_len rs
  have hd_len : (valsR (rs.drop i)).length = (rs.length - i) * 11 := by rw [valsR_len, List.length_drop]
  have ht_len : (valsR (rs.take i)).length = i * 11 := by rw [valsR_len, List.length_take, Nat.min_eq_left (by omega)]
  have hd1 : ∀ u ∈ valsR (rs.drop i), u.oneCell' = true := vals_one _
  have hcurl : cur.toList.length = c * 11 := by simpa using hcs
  have hdc : ∀ W : World, W.heap[g]? = w.heap[g]? → ∀ j u, (valsR (rs.drop i))[j]? = some u → W.cell? ((⟨g, i * 11, none⟩ : Addr).add j) = some u := by
    intro W hW j u hj
    have hlt : j < (rs.length - i) * 11 := by
      have := (List.getElem?_eq_some_iff.1 hj).1
      omega
    rw [Addr.add_lit]
    simp only [World.cell?]
    rw [hW, hg]
    have e : (valsR (rs.drop i))[j]? = (valsR rs)[i * 11 + j]? := by rw [← valsR_drop, List.getElem?_drop]
    have := hcur (i * 11 + j) (by omega)
    rw [← e, hj] at this
    simpa using this
  have hvw : vb < w.heap.size := (Array.getElem?_eq_some_iff.1 hv).1
  have hik : i + (rs.length + 1 - i) = rs.length + 1 := by omega
  have hold : (Builtin.firstCells i0.size i (.slice (some ⟨g, 0, none⟩) i c)).run Try.prog w.drew = .ok (valsR (rs.take i)).toArray w.drew := by
    refine run_firstCells_some w.drew i0.size i ⟨g, 0, none⟩ i c _ (by rw [ht_len, hz1]) (fun j u hj => ?_)
    have hlt : j < i * 11 := by
      have := (List.getElem?_eq_some_iff.1 hj).1
      omega
    rw [Addr.add_lit, World.cell?_drew]
    simp only [World.cell?, Nat.zero_add]
    rw [hg]
    have := hcur j (by omega)
    rw [← valsR_take, List.getElem?_take, if_pos hlt] at hj
    rw [hj] at this
    simpa using this
  have hrz := fun ty => Lib.run_append_grow_zeros w 50 3 ty 42 i0 _ .i64 .i64 Try.underlying50 Try.underlying3 hi0 hz0 (some ⟨g, 0, none⟩) i c (valsR (rs.take i)) hold (rs.length + 1 - i) (by omega) (by omega) (by omega) (by omega) (by rw [hz2]; omega) (by rw [hz2, hik]; exact growslice_fits hroom (by omega))
  rw [hik] at hrz
  have hG := grownCap_ge w (rs.length + 1) c 42
  have hGm := grownCap_le_maxLen w (rs.length + 1) c 42 (by omega)
  generalize grownCap w (rs.length + 1) c 42 = G at *
  obtain ⟨ROW, hROW⟩ : ∃ x, x = (valsR (rs.take i)).toArray ++ Builtin.zeroCells (.agg #[.int .i64 0, .int .u8 0, .int .u32 0, .int .i64 0, .int .u32 0, .int .i64 0, .int .u32 0, .int .u16 0, .int .u16 0, .int .u32 0, .int .u16 0] : Value).cells (rs.length + 1 - i) ++ Builtin.zeroCells (.agg #[.int .i64 0, .int .u8 0, .int .u32 0, .int .i64 0, .int .u32 0, .int .i64 0, .int .u32 0, .int .u16 0, .int .u16 0, .int .u32 0, .int .u16 0] : Value).cells (G - (rs.length + 1)) := ⟨_, rfl⟩
  rw [← hROW] at hrz
  have hRl : ROW.size = G * 11 := by
    rw [hROW, Array.size_append, Array.size_append, size_zeroCells, size_zeroCells, zero_cells, List.size_toArray, ht_len]
    omega
  have hRt : ∀ j, j < i * 11 → ROW.toList[j]? = (valsR rs)[j]? := by
    intro j hj
    rw [hROW, Array.toList_append, Array.toList_append, List.append_assoc, List.toList_toArray, List.getElem?_append_left (by omega), ← valsR_take, List.getElem?_take, if_pos hj]
  clear hROW hold
  obtain ⟨W1, hW1⟩ : ∃ W1, W1 = w.drew.alloc (.cells ROW 42) := ⟨_, rfl⟩
  rw [← hW1] at hrz
  have hN : W1.heap[w.heap.size]? = some (.cells ROW 42 (0, 0)) := by rw [hW1]; exact heap_alloc_new w.drew _
  have hOg : ∀ k, k < w.heap.size → W1.heap[k]? = w.heap[k]? := fun k hk => by rw [hW1]; exact (grown_fresh w _ none).block k hk (by simp)
  obtain ⟨R1, hR1⟩ : ∃ x, x = spl ROW.toList (i * 11) r.vals := ⟨_, rfl⟩
  have hR1l : R1.length = G * 11 := by rw [hR1, spl_len _ _ _ (by rw [vals_len]; simp; omega)]; simpa using hRl
  have hcpA : ∀ (W : World), W.heap = W1.heap → ∀ ty dc, (Builtin.copy_ #[50, 50] ty #[.slice (some ⟨w.heap.size, i * 11, none⟩) (rs.length + 1 - i) dc, .slice (some ⟨vb, 0, none⟩) 1 1]).run Try.prog W = .ok (goInt 1) (W.setRow w.heap.size R1.toArray) := fun W hW ty dc => by
    rw [hR1]
    exact run_copyk W _ _ ty 42 i0 w.heap.size (i * 11) _ dc ⟨vb, 0, none⟩ 1 1 ROW 42 r.vals Try.underlying50 hi0 (by rw [hW]; exact hN) 1 (by simp only [Nat.min_def]; split <;> omega) (by rw [hz1]; rfl) (hvc W (by rw [hW]; exact hOg vb hvw)) (by rw [vals_len]; omega) hv1
  obtain ⟨R2, hR2⟩ : ∃ x, x = spl R1 ((i + 1) * 11) (valsR (rs.drop i)) := ⟨_, rfl⟩
  have hcpB : ∀ (W : World), W.heap = (W1.setRow w.heap.size R1.toArray).heap → ∀ ty dc sc, (Builtin.copy_ #[50, 50] ty #[.slice (some ⟨w.heap.size, (i + 1) * 11, none⟩) (rs.length + 1 - (i + 1)) dc, .slice (some ⟨g, i * 11, none⟩) (rs.length - i) sc]).run Try.prog W = .ok (goInt ((rs.length - i : Nat) : Int)) (W.setRow w.heap.size R2.toArray) := fun W hW ty dc sc => by
    rw [hR2]
    have := run_copyk W 50 50 ty 42 i0 w.heap.size ((i + 1) * 11) (rs.length + 1 - (i + 1)) dc ⟨g, i * 11, none⟩ (rs.length - i) sc R1.toArray 42 (valsR (rs.drop i)) Try.underlying50 hi0 (by rw [hW]; exact setRow_heap W1 _ ROW _ _ _ hN) (rs.length - i) (by simp only [Nat.min_def]; split <;> omega) (by rw [hz1]; exact hd_len) (hdc W (by rw [hW, setRow_other W1 w.heap.size g _ (by omega)]; exact hOg g hgw)) (by rw [List.size_toArray, hR1l, hd_len]; omega) hd1
    exact this
  have EN : Hid (∀ e w', (e = .returned (.slice (some ⟨w.heap.size, 0, none⟩) (rs.length + 1) G) ∧ ∃ W : World, W.heap = W1.heap ∧ W.os = w.os ∧ W.tape = w.tape ∧ W.output = w.output ∧ w'.heap = ((W.setRow w.heap.size R1.toArray).setRow w.heap.size R2.toArray).heap ∧ w'.os = w.os ∧ w'.tape = w.tape ∧ w'.output = w.output) → Ins B (.slice (some ⟨g, 0, none⟩) rs.length c) (rs.take i ++ r :: rs.drop i) w e w') := by
    rintro e w' ⟨rfl, W, e1, _, _, _, e2, e3, e4, e5⟩
    have hh : w'.heap[w.heap.size]? = some (.cells R2.toArray 42 (0, 0)) := by
      rw [e2]
      exact setRow_heap _ _ R1.toArray _ _ _ (setRow_heap W _ ROW _ _ _ (by rw [e1]; exact hN))
    refine ⟨_, rfl, ?_, ⟨e3, e4, e5, ?_, fun k hk _ => ?_⟩, .inr ⟨_, rfl, Nat.le_refl _⟩⟩
    · have ln : (rs.take i ++ r :: rs.drop i).length = rs.length + 1 := by simp; omega
      have key := RowC.of (w := w') (B := B) (g := w.heap.size) (cap := G) (cur := R2.toArray) (rs := rs.take i ++ r :: rs.drop i) hh hB (by omega) hGm (by rw [List.size_toArray, hR2, spl_len _ _ _ (by omega)]; exact hR1l) (by
        intro j hj
        rw [ln] at hj
        rw [List.toList_toArray, ins_get rs r i j (by omega), hR2, spl_get _ _ _ (by omega), hR1, spl_get _ _ _ (by rw [vals_len]; simp; omega), vals_len]
        by_cases h1 : j < i * 11
        · rw [if_pos (by omega), if_pos h1, if_pos h1, hRt j h1]
        · by_cases h2 : j < i * 11 + 11
          · rw [if_pos (by omega), if_neg h1, if_pos h2, if_neg h1, if_pos h2]
          · rw [if_neg (by omega), if_pos (by omega), if_neg h1, if_neg h2, ← valsR_drop, List.getElem?_drop]
            congr 1
            omega)
      rw [ln] at key
      exact key
    · rw [e2]
      simp only [World.setRow, Array.size_modify]
      rw [e1, hW1]
      simp
    · rw [e2, setRow_other _ _ _ _ (by omega), setRow_other _ _ _ _ (by omega), e1]
      exact hOg k hk
  have hE : W1.os = w.os ∧ W1.tape = w.tape ∧ W1.output = w.output := by rw [hW1]; exact ⟨rfl, rfl, rfl⟩
  have hn2 : (rs.length : Int) ≤ 1000 := by omega
  have hz2' : ¬ ((i : Int) = (rs.length : Int)) := by omega
  have hz3 : (c : Int) < (rs.length : Int) + 1 := by omega
  have hkk : (rs.length : Int) + 1 - (i : Int) = ((rs.length + 1 - i : Nat) : Int) := by omega
  rw [← hkk] at hrz
  have hGi : ¬ (G = i) := by omega
  have hGim : ¬ (G = i + 1) := by omega
  have hci : ¬ (c = i) := by omega
  have hin : i ≤ rs.length := by omega
  have hin2 : i ≤ rs.length + 1 := by omega
  have hic : i ≤ c := by omega
  have hG63 : G ≤ 9223372036854775807 := by omega
  have HE1 := Lib.hid hE
  refine Calls.mono ?_ EN.out
  clear hkk hRl hR1 hR2 hR1l hRt hd_len ht_len hd1 hcurl hdc hcur hg hvc hv1 hv hi0 hz0 hz1 hz2 hR hnc hcm hcs hE EN hN hOg mxl
  generalize rs.length = n at *
  generalize R1.toArray = A1 at *
  generalize R2.toArray = A2 at *
  subst hW1
  go_enter Try.func44, Try.ntmps44
  have mixed : Try.prog.follows .mixedOrders = true := by kernel_rfl
  have hw1 : IntKind.i64.wrap ((i : Int) + 1) = (i : Int) + 1 := by rw [IntKind.wrap_i64]; omega
  have hb1 : (0 : Int) ≤ (i : Int) + 1 := by omega
  have htn : ((i : Int) + 1).toNat = i + 1 := by omega
  have hb3 : (i : Int) ≤ (n : Int) := by omega
  have hb4 : i + 1 ≤ G := by omega
  have hb5 : i + 1 ≤ n + 1 := by omega
  have hA := hcpA ((w.alloc (.cells ROW 42)).drew) rfl
  clear hcpA
  go_wp2_with (at_builtin; refine Lib.wpList_append_run _ rfl _ _ _ _ rfl _ _ rfl rfl _ _ (hrz _) ?_)
  go_region_law_o (refine step_copyk rfl _ _ 50 50 rfl (.slice (some ⟨w.heap.size, (i + 1) * 11, none⟩) (n + 1 - (i + 1)) (G - (i + 1))) (.slice (some ⟨g, i * 11, none⟩) (n - i) (c - i)) (by simp [Act.eval, Act.put]) (by simp [Act.eval, Act.put]) (fun ty => hcpB (((w.alloc (.cells ROW 42)).drew.setRow w.heap.size A1).drew) rfl ty _ _) ?_)
  go_wp2
  go_ret
  exact ⟨rfl, _, rfl, HE1.out.1, HE1.out.2.1, HE1.out.2.2, rfl, HE1.out.1, HE1.out.2.1, HE1.out.2.2⟩
set_option maxHeartbeats 4000000 in
set_option maxRecDepth 100000 in
theorem insert_shift (B : Nat) (rs : List Ru) (r : Ru) (i vb : Nat) (w : World) (hl : rs.length ≤ 1000) (hB : B ≤ w.heap.size) (hv : w.heap[vb]? = some (.cells r.vals.toArray 42 (0, 0))) (g c : Nat) (hR : RowC w B (.slice (some ⟨g, 0, none⟩) rs.length c) rs) (hi : i < rs.length) (hne : ¬ g = vb) (hroom : rs.length + 1 ≤ c) :
    Calls Try.prog 44 #[.slice (some ⟨g, 0, none⟩) rs.length c, .int .i64 (i : Nat), .slice (some ⟨vb, 0, none⟩) 1 1] w (Ins B (.slice (some ⟨g, 0, none⟩) rs.length c) (rs.take i ++ r :: rs.drop i) w) := by
  have hvc : ∀ W : World, W.heap[vb]? = w.heap[vb]? → ∀ j u, (r.vals)[j]? = some u → W.cell? ((⟨vb, 0, none⟩ : Addr).add j) = some u := by
    intro W hW j u hj
    rw [Addr.add_lit]
    simp only [World.cell?, Nat.zero_add]
    rw [hW, hv]
    simpa using hj
  have hv1 : ∀ u ∈ r.vals, u.oneCell' = true := fun u hu => vals_one [r] u (by simpa [valsR] using hu)
  obtain ⟨i0, hi0, hz0, hz1, hz2⟩ := rule_info
  have mxl : maxLen = 9223372036854775807 := rfl
  obtain ⟨cur, _, hgB, hgw, hg, hnc, hcm, hcs, hcur⟩ := hR.get
  have hv_len := valsR_len rs
  have hd_len : (valsR (rs.drop i)).length = (rs.length - i) * 11 := by rw [valsR_len, List.length_drop]
  have ht_len : (valsR (rs.take i)).length = i * 11 := by rw [valsR_len, List.length_take, Nat.min_eq_left (by omega)]
  have hd1 : ∀ u ∈ valsR (rs.drop i), u.oneCell' = true := vals_one _
  have hcurl : cur.toList.length = c * 11 := by simpa using hcs
  have hdc : ∀ W : World, W.heap[g]? = w.heap[g]? → ∀ j u, (valsR (rs.drop i))[j]? = some u → W.cell? ((⟨g, i * 11, none⟩ : Addr).add j) = some u := by
    intro W hW j u hj
    have hlt : j < (rs.length - i) * 11 := by
      have := (List.getElem?_eq_some_iff.1 hj).1
      omega
    rw [Addr.add_lit]
    simp only [World.cell?]
    rw [hW, hg]
    have e : (valsR (rs.drop i))[j]? = (valsR rs)[i * 11 + j]? := by rw [← valsR_drop, List.getElem?_drop]
    have := hcur (i * 11 + j) (by omega)
    rw [← e, hj] at this
    simpa using this
  have hvw : vb < w.heap.size := (Array.getElem?_eq_some_iff.1 hv).1
  have hov : ∀ lb cb, (callFunc 66 #[.slice (some ⟨vb, 0, none⟩) 1 1, .slice (some ⟨g, (i + 1) * 11, none⟩) lb cb]).run Try.prog w = .ok (.value (.bool false)) w := fun lb cb => by
    rw [run_callFunc_extern Try.func66 (by kernel_rfl) (by kernel_rfl) (by kernel_rfl) (e := Extern.SlicesOverlaps.overlaps #[50, 50] #[4]) (by kernel_rfl),
      Lib.run_overlaps_apart w 50 4 42 Try.underlying50 11 Try.sizeOf42 ⟨vb, 0, none⟩ ⟨g, (i + 1) * 11, none⟩ 1 1 lb cb (fun e => hne e.symm) 42 42 11 (c * 11) (by simp only [World.shape?]; rw [hv]; rfl) (by simp only [World.shape?]; rw [hg]; simp [hcs]) (by omega) (by simp only [World.frozen?]; rw [hv]; rfl) (by simp only [World.frozen?]; rw [hv]; rfl)]
    rfl
  obtain ⟨R1, hR1⟩ : ∃ x, x = spl cur.toList ((i + 1) * 11) (valsR (rs.drop i)) := ⟨_, rfl⟩
  have hR1l : R1.length = c * 11 := by rw [hR1, spl_len _ _ _ (by omega)]; exact hcurl
  have hcA : ∀ ty dc sc, (Builtin.copy_ #[50, 50] ty #[.slice (some ⟨g, (i + 1) * 11, none⟩) (rs.length + 1 - (i + 1)) dc, .slice (some ⟨g, i * 11, none⟩) (rs.length + 1 - i) sc]).run Try.prog w.drew = .ok (goInt ((rs.length - i : Nat) : Int)) (w.drew.setRow g R1.toArray) := fun ty dc sc => by
    rw [hR1]
    exact run_copyk w.drew _ _ ty 42 i0 g ((i + 1) * 11) _ dc ⟨g, i * 11, none⟩ _ sc cur 42 (valsR (rs.drop i)) Try.underlying50 hi0 hg (rs.length - i) (by simp only [Nat.min_def]; split <;> omega) (by rw [hz1]; exact hd_len) (hdc w.drew rfl) (by rw [hd_len]; omega) hd1
  obtain ⟨R2, hR2⟩ : ∃ x, x = spl R1 (i * 11) r.vals := ⟨_, rfl⟩
  have hcB : ∀ (W : World), W.heap = (w.setRow g R1.toArray).heap → ∀ ty dc, (Builtin.copy_ #[50, 50] ty #[.slice (some ⟨g, i * 11, none⟩) (rs.length + 1 - i) dc, .slice (some ⟨vb, 0, none⟩) 1 1]).run Try.prog W = .ok (goInt 1) (W.setRow g R2.toArray) := fun W hW ty dc => by
    rw [hR2]
    exact run_copyk W _ _ ty 42 i0 g (i * 11) _ dc ⟨vb, 0, none⟩ 1 1 R1.toArray 42 r.vals Try.underlying50 hi0 (by rw [hW]; exact setRow_heap w _ cur _ _ _ hg) 1 (by simp only [Nat.min_def]; split <;> omega) (by rw [hz1]; rfl) (hvc W (by rw [hW]; exact setRow_other w g vb _ (fun e => hne e.symm))) (by rw [vals_len, List.size_toArray, hR1l]; omega) hv1
  have hB2 := hcB (w.setRow g R1.toArray).drew rfl
  have hB3 := hcB (w.drew.setRow g R1.toArray) rfl
  have EN : Hid (∀ e w', (e = .returned (.slice (some ⟨g, 0, none⟩) (rs.length + 1) c) ∧ w'.heap = ((w.setRow g R1.toArray).setRow g R2.toArray).heap ∧ w'.os = w.os ∧ w'.tape = w.tape ∧ w'.output = w.output) → Ins B (.slice (some ⟨g, 0, none⟩) rs.length c) (rs.take i ++ r :: rs.drop i) w e w') := by
    rintro e w' ⟨rfl, e2, e3, e4, e5⟩
    have hh : w'.heap[g]? = some (.cells R2.toArray 42 (0, 0)) := by
      rw [e2]
      exact setRow_heap _ _ R1.toArray _ _ _ (setRow_heap w _ cur _ _ _ hg)
    refine ⟨_, rfl, ?_, ⟨e3, e4, e5, ?_, fun k _ hk => ?_⟩, .inl rfl⟩
    · have ln : (rs.take i ++ r :: rs.drop i).length = rs.length + 1 := by simp; omega
      have key := RowC.of (w := w') (B := B) (g := g) (cap := c) (cur := R2.toArray) (rs := rs.take i ++ r :: rs.drop i) hh hgB (by omega) hcm (by rw [List.size_toArray, hR2, spl_len _ _ _ (by rw [vals_len]; omega)]; exact hR1l) (by
        intro j hj
        rw [ln] at hj
        rw [List.toList_toArray, ins_get rs r i j (by omega), hR2, spl_get _ _ _ (by rw [vals_len]; omega), hR1, spl_get _ _ _ (by omega), vals_len]
        by_cases h1 : j < i * 11
        · rw [if_pos h1, if_pos (by omega), if_pos h1, hcur j (by omega)]
        · by_cases h2 : j < i * 11 + 11
          · rw [if_neg h1, if_pos h2, if_neg h1, if_pos h2]
          · rw [if_neg h1, if_neg h2, if_neg (by omega), if_pos (by omega), if_neg h1, if_neg h2, ← valsR_drop, List.getElem?_drop]
            congr 1
            omega)
      rw [ln] at key
      exact key
    · rw [e2]
      simp [World.setRow]
    · have hkg : k ≠ g := fun e => hk (by rw [e]; rfl)
      rw [e2, setRow_other _ _ _ _ hkg, setRow_other _ _ _ _ hkg]
  have mixed : Try.prog.follows .mixedOrders = true := by kernel_rfl
  have hn2 : (rs.length : Int) ≤ 1000 := by omega
  have hz2' : ¬ ((i : Int) = (rs.length : Int)) := by omega
  have hz3 : ¬ ((c : Int) < (rs.length : Int) + 1) := by omega
  have hci : ¬ (c = i) := by omega
  have hci2 : ¬ (c = i + 1) := by omega
  have hin : i ≤ rs.length := by omega
  have hin2 : i ≤ rs.length + 1 := by omega
  have hic : i ≤ c := by omega
  have hw1 : IntKind.i64.wrap ((i : Int) + 1) = (i : Int) + 1 := by rw [IntKind.wrap_i64]; omega
  have hb1 : (0 : Int) ≤ (i : Int) + 1 := by omega
  have htn : ((i : Int) + 1).toNat = i + 1 := by omega
  have hwn : IntKind.i64.wrap ((rs.length : Int) + 1) = (rs.length : Int) + 1 := by rw [IntKind.wrap_i64]; omega
  have hbn : (0 : Int) ≤ (rs.length : Int) + 1 := by omega
  have hnn : ((rs.length : Int) + 1).toNat = rs.length + 1 := by omega
  have hb3 : (i : Int) ≤ (rs.length : Int) := by omega
  have hb3' : (i : Int) ≤ (rs.length : Int) + 1 := by omega
  have hb6 : (rs.length : Int) + 1 ≤ (c : Int) := by omega
  have hb4 : i + 1 ≤ c := by omega
  have hb5 : i + 1 ≤ rs.length + 1 := by omega
  have hc63 : c ≤ 9223372036854775807 := by omega
  refine Calls.mono ?_ EN.out
  clear hR1 hR2 hR1l hd_len ht_len hd1 hcurl hdc hcur hg hvc hv1 hv hi0 hz0 hz1 hz2 hR hnc hcm hcs EN mxl hcB
  generalize rs.length = n at *
  generalize R1.toArray = A1 at *
  generalize R2.toArray = A2 at *
  go_enter Try.func44, Try.ntmps44
  go_wp2_with (simp only [hov])
  go_region_law_o (refine step_copyk rfl _ _ 50 50 rfl (.slice (some ⟨g, (i + 1) * 11, none⟩) (n + 1 - (i + 1)) (c - (i + 1))) (.slice (some ⟨g, i * 11, none⟩) (n + 1 - i) (c - i)) (by simp [Act.eval, Act.put]) (by simp [Act.eval, Act.put]) (fun ty => hcA ty _ _) ?_)
  go_wp2
  go_ret
  exact ⟨rfl, rfl, rfl, rfl, rfl⟩
theorem insert_ (B : Nat) (v : Value) (rs : List Ru) (r : Ru) (i vb : Nat) (w : World) (hR : RowC w B v rs) (hl : rs.length ≤ 1000) (hi : i ≤ rs.length) (hB : B ≤ w.heap.size) (hv : w.heap[vb]? = some (.cells r.vals.toArray 42 (0, 0))) (hne : v.ownBlock ≠ some vb) :
    Calls Try.prog 44 #[v, .int .i64 (i : Nat), .slice (some ⟨vb, 0, none⟩) 1 1] w (Ins B v (rs.take i ++ r :: rs.drop i) w) := by
  rcases hR.kinds with ⟨rfl, rfl⟩ | ⟨g, c, rfl⟩
  · obtain rfl : i = 0 := by simpa using hi
    exact insert_nil B r vb w hB hv
  · have hg : ¬ g = vb := fun e => hne (by rw [e]; rfl)
    rcases Nat.lt_or_ge i rs.length with h1 | h1
    · rcases Nat.lt_or_ge c (rs.length + 1) with h2 | h2
      · exact insert_grow B rs r i vb w hl hB hv g c hR h1 hg h2
      · exact insert_shift B rs r i vb w hl hB hv g c hR h1 hg h2
    · obtain rfl : i = rs.length := by omega
      rw [List.take_length, List.drop_length]
      rcases Nat.lt_or_ge c (rs.length + 1) with h2 | h2
      · exact insert_endG B rs r vb w hl hB hv g c hR h2
      · exact insert_endR B rs r vb w hl hB hv g c hR h2
theorem zero_list : (.agg #[.int .i64 0, .int .u8 0, .int .u32 0, .int .i64 0, .int .u32 0, .int .i64 0, .int .u32 0, .int .u16 0, .int .u16 0, .int .u32 0, .int .u16 0] : Value).cells.toList = valsR [Ru.zero] := by rfl
set_option maxHeartbeats 4000000 in
set_option maxRecDepth 100000 in
theorem delete_ (B : Nat) (rs : List Ru) (i g c : Nat) (w : World) (hR : RowC w B (.slice (some ⟨g, 0, none⟩) rs.length c) rs) (hl : rs.length ≤ 1000) (hi : i < rs.length) :
    Calls Try.prog 46 #[.slice (some ⟨g, 0, none⟩) rs.length c, .int .i64 (i : Nat), .int .i64 ((i : Int) + 1)] w fun e w' => e = .returned (.slice (some ⟨g, 0, none⟩) (rs.length - 1) c) ∧ RowC w' B (.slice (some ⟨g, 0, none⟩) (rs.length - 1) c) (rs.take i ++ rs.drop (i + 1)) ∧ w.grownBy w' (some g) := by
  obtain ⟨i0, hi0, hz0, hz1, hz2⟩ := rule_info
  have mxl : maxLen = 9223372036854775807 := rfl
  obtain ⟨cur, _, hgB, hgw, hg, hnc, hcm, hcs, hcur⟩ := hR.get
  obtain ⟨m, hm⟩ : ∃ m, rs.length = i + 1 + m := ⟨rs.length - (i + 1), by omega⟩
  have hv_len := valsR_len rs
  have hd_len : (valsR (rs.drop (i + 1))).length = m * 11 := by rw [valsR_len, List.length_drop, hm]; congr 1; omega
  have hd1 : ∀ u ∈ valsR (rs.drop (i + 1)), u.oneCell' = true := vals_one _
  have hcurl : cur.toList.length = c * 11 := by simpa using hcs
  obtain ⟨A, hA, hsrc⟩ : ∃ A : Addr, (if c = i + 1 then some (⟨g, 0, none⟩ : Addr) else some ⟨g, (i + 1) * 11, none⟩) = some A ∧ ∀ j u, (valsR (rs.drop (i + 1)))[j]? = some u → w.drew.cell? (A.add j) = some u := by
    by_cases h : c = i + 1
    · refine ⟨⟨g, 0, none⟩, by simp [h], fun j u hj => ?_⟩
      have h0 : m = 0 := by omega
      have := (List.getElem?_eq_some_iff.1 hj).1
      rw [hd_len, h0] at this
      omega
    · refine ⟨⟨g, (i + 1) * 11, none⟩, by simp [h], fun j u hj => ?_⟩
      have hlt : j < m * 11 := by
        have := (List.getElem?_eq_some_iff.1 hj).1
        omega
      rw [Addr.add_lit, World.cell?_drew]
      simp only [World.cell?]
      rw [hg]
      have e : (valsR (rs.drop (i + 1)))[j]? = (valsR rs)[(i + 1) * 11 + j]? := by rw [← valsR_drop, List.getElem?_drop]
      have := hcur ((i + 1) * 11 + j) (by omega)
      rw [← e, hj] at this
      simpa using this
  obtain ⟨R1, hR1⟩ : ∃ x, x = spl cur.toList (i * 11) (valsR (rs.drop (i + 1))) := ⟨_, rfl⟩
  have hR1l : R1.length = c * 11 := by rw [hR1, spl_len _ _ _ (by omega)]; exact hcurl
  have hap : ∀ ty sc, (Builtin.append_ #[50, 50] ty #[.slice (some ⟨g, 0, none⟩) i c, .slice (some A) m sc]).run Try.prog w.drew = .ok (.slice (some ⟨g, 0, none⟩) (i + m) c) (w.drew.setRow g R1.toArray) := fun ty sc => by
    have := run_append_room (P := Try.prog) w.drew 50 ty 42 i0 Try.underlying50 hi0 g i c cur hg A m sc (valsR (rs.drop (i + 1))) (by rw [hz1]; exact hd_len) hsrc hd1 (by omega) (by rw [hz1, hd_len]; omega)
    rw [hz1] at this
    rw [hR1]
    exact this
  have hW1 : (w.drew.setRow g R1.toArray).heap[g]? = some (.cells R1.toArray 42 (0, 0)) := setRow_heap w.drew _ cur _ _ _ hg
  obtain ⟨R2, hR2⟩ : ∃ x, x = spl R1 ((i + m) * 11) (Builtin.zeroCells (.agg #[.int .i64 0, .int .u8 0, .int .u32 0, .int .i64 0, .int .u32 0, .int .i64 0, .int .u32 0, .int .u16 0, .int .u16 0, .int .u32 0, .int .u16 0] : Value).cells 1).toList := ⟨_, rfl⟩
  have zl : (Builtin.zeroCells (.agg #[.int .i64 0, .int .u8 0, .int .u32 0, .int .i64 0, .int .u32 0, .int .i64 0, .int .u32 0, .int .u16 0, .int .u16 0, .int .u32 0, .int .u16 0] : Value).cells 1).toList.length = 11 := by rw [Array.length_toList, size_zeroCells, zero_cells]
  have hR2l : R2.length = c * 11 := by rw [hR2, spl_len _ _ _ (by rw [zl]; omega)]; exact hR1l
  have hcl : ∀ (W : World), W.heap = (w.drew.setRow g R1.toArray).heap → ∀ ty n sc, n = 1 → (Builtin.clear_ #[50] ty #[.slice (some ⟨g, (i + m) * 11, none⟩) n sc]).run Try.prog W = .ok (.tuple #[]) (W.setRow g R2.toArray) := fun W hW ty n sc hn => by
    have := run_clear1 (P := Try.prog) W 50 42 ty (.agg #[.int .i64 0, .int .u8 0, .int .u32 0, .int .i64 0, .int .u32 0, .int .i64 0, .int .u32 0, .int .u16 0, .int .u16 0, .int .u32 0, .int .u16 0]) 11 Try.underlying50 Try.zeroValue42 (by omega) zero_cells (fun u hu => vals_one [Ru.zero] u (by rw [← zero_list]; exact hu)) g ((i + m) * 11) n sc hn R1.toArray 42 (by rw [hW]; exact hW1) (by rw [List.size_toArray, hR1l]; omega)
    rw [hR2]
    unfold spl
    rw [zl]
    exact this
  have EN : Hid (∀ (e : Ending) (w' : World), (e = .returned (.slice (some ⟨g, 0, none⟩) (i + m) c) ∧ w'.heap = ((w.setRow g R1.toArray).setRow g R2.toArray).heap ∧ w'.os = w.os ∧ w'.tape = w.tape ∧ w'.output = w.output) → (e = .returned (.slice (some ⟨g, 0, none⟩) (rs.length - 1) c) ∧ RowC w' B (.slice (some ⟨g, 0, none⟩) (rs.length - 1) c) (rs.take i ++ rs.drop (i + 1)) ∧ w.grownBy w' (some g))) := by
    rintro e w' ⟨rfl, e2, e3, e4, e5⟩
    have hh : w'.heap[g]? = some (.cells R2.toArray 42 (0, 0)) := by
      rw [e2]
      exact setRow_heap _ _ R1.toArray _ _ _ (setRow_heap w _ cur _ _ _ hg)
    refine ⟨by rw [hm]; congr 2; omega, ?_, ⟨e3, e4, e5, ?_, fun k _ hk => ?_⟩⟩
    · have ln : (rs.take i ++ rs.drop (i + 1)).length = rs.length - 1 := by simp; omega
      have key := RowC.of (w := w') (B := B) (g := g) (cap := c) (cur := R2.toArray) (rs := rs.take i ++ rs.drop (i + 1)) hh hgB (by omega) hcm (by rw [List.size_toArray]; exact hR2l) (by
        intro j hj
        rw [ln] at hj
        rw [List.toList_toArray, del_get rs i j hi, hR2, spl_get _ _ _ (by rw [zl]; omega), if_pos (by omega), hR1, spl_get _ _ _ (by omega)]
        by_cases h1 : j < i * 11
        · rw [if_pos h1, if_pos h1, hcur j (by omega)]
        · rw [if_neg h1, if_pos (by omega), if_neg h1, ← valsR_drop, List.getElem?_drop]
          congr 1
          omega)
      rw [ln] at key
      exact key
    · rw [e2]
      simp [World.setRow]
    · have hkg : k ≠ g := fun e => hk (by rw [e])
      rw [e2, setRow_other _ _ _ _ hkg, setRow_other _ _ _ _ hkg]
  have hcl1 := fun ty sc => hcl (w.drew.setRow g R1.toArray) rfl ty (i + 1 + m - (i + m)) sc (by omega)
  have hcl2 := fun ty sc => hcl (w.setRow g R1.toArray).drew rfl ty (i + 1 + m - (i + m)) sc (by omega)
  have mixed : Try.prog.follows .mixedOrders = true := by kernel_rfl
  have hw1 : IntKind.i64.wrap ((i : Int) + 1) = (i : Int) + 1 := by rw [IntKind.wrap_i64]; omega
  have htn : ((i : Int) + 1).toNat = i + 1 := by omega
  have hb1 : (0 : Int) ≤ (i : Int) + 1 := by omega
  have hq1 : ¬ ((i : Int) = (i : Int) + 1) := by omega
  have hq8 : (i : Int) + 1 ≤ (i : Int) + 1 + (m : Int) := by omega
  have hq9 : (i : Int) + (m : Int) ≤ (i : Int) + 1 + (m : Int) := by omega
  have hq2 : ¬ (c = i + m) := by omega
  have hq3 : i + 1 + m ≤ c := by omega
  have hq4 : ¬ (c = i) := by omega
  have hq5 : i + 1 ≤ c := by omega
  have hq6 : i ≤ c := by omega
  have hq7 : i + m ≤ c := by omega
  have hc63 : c ≤ 9223372036854775807 := by omega
  have hn2 : (i : Int) + 1 + (m : Int) ≤ 1000 := by omega
  refine Calls.mono ?_ EN.out
  clear EN hR1 hR2 hR1l hR2l hcl hd_len hd1 hcurl hsrc hcur hg hi0 hz0 hz1 hz2 hR hnc hcm hcs mxl hW1 zl hv_len hi hl
  rw [hm]
  clear hm
  generalize R1.toArray = A1 at *
  generalize R2.toArray = A2 at *
  go_enter Try.func46, Try.ntmps46
  go_wp2_with fail
  go_region_law_o (refine step_appendk rfl _ _ 50 50 rfl (.slice (some ⟨g, 0, none⟩) i c) (.slice (some A) m (c - (i + 1))) (by simp [Act.eval, Act.put]) (by simp [Act.eval, Act.put]) (fun ty => hap ty _) ?_)
  go_wp2
  go_ret
  exact ⟨rfl, rfl, rfl, rfl, rfl⟩
end Go.Proofs.Ytoogegpkgohffaa
