/- Texts of this proof, together: RulKI, RulKJ, RulKL, RulKM, RulD, RulE, RulKN, RulKO, RulKR, RulG, RulKS, RulKT, RulKU. -/
import Derived.Test.YtoogegpkgohffaaRb
import Derived.Test.YtoogegpkgohffaaRc
import Derived.Test.YtoogegpkgohffaaGc
import Derived.Lib.SlBuf
import Derived.Lib.AppendZerosOnto
import Derived.Lib.Overlaps
import Derived.Laws.CopyRow
import Derived.Laws.OwnMore
import Derived.Deep.RegionLaw
namespace Go.Proofs.Ytoogegpkgohffaa
set_option linter.unusedVariables false
set_option linter.unusedSimpArgs false
open Go.ChangeShapes Go.WideShapes Go.ChangeAt Go.RowKit Go.PlainAid
attribute [local go_sem ↓] Go.wp_at_zero Go.wp_at_succ
section
variable {P : Program}
/-- copy, both of elements of i.size cells: all is read ahead of what is written. -/
theorem run_copyk (w : World) (dT sT ty elem : TypeId) (i : TypeInfo) (g o dLen dCap : Nat) (a : Addr) (sLen sCap : Nat) (cur : Array Value) (t : TypeId) (cs : List Value) (hu : P.underlying dT = some (.slice elem)) (hs : P.info? elem = some i)
    (hg : w.heap[g]? = some (.cells cur t (0, 0))) (n : Nat) (hm : Nat.min sLen dLen = n) (hn : cs.length = n * i.size) (hsrc : ∀ j v, cs[j]? = some v → w.cell? (a.add j) = some v) (hfit : o + cs.length ≤ cur.size) (h1 : ∀ v ∈ cs, v.oneCell' = true) :
    (Builtin.copy_ #[dT, sT] ty #[.slice (some ⟨g, o, none⟩) dLen dCap, .slice (some a) sLen sCap]).run P w = .ok (goInt n) (w.setRow g (cur.toList.take o ++ cs ++ cur.toList.drop (o + cs.length)).toArray) := by
  have hf := run_firstCells_some (P := P) w i.size n a sLen sCap cs hn hsrc
  have hst := run_storeCells_at P g o t cs 0 cur w hg (by simpa using hfit) h1
  simp [Builtin.copy_, run_underlying hu, Builtin.lenOf, sizeOf, typeInfo, hs, hm, hf, hst]
/-- clear of one element. -/
theorem run_clear1 (w : World) (t e ty : TypeId) (z : Value) (k : Nat) (ht : P.underlying t = some (.slice e)) (hv : ∀ w, (zeroValue e).run P w = .ok z w) (hk : 0 < k) (hz : z.cells.size = k) (h1 : ∀ u ∈ z.cells.toList, u.oneCell' = true) (g o n c : Nat) (hn1 : n = 1) (cur : Array Value) (T : TypeId)
    (hg : w.heap[g]? = some (.cells cur T (0, 0))) (hfit : o + k ≤ cur.size) :
    (Builtin.clear_ #[t] ty #[.slice (some ⟨g, o, none⟩) n c]).run P w = .ok (.tuple #[]) (w.setRow g (cur.toList.take o ++ (Builtin.zeroCells z.cells 1).toList ++ cur.toList.drop (o + k)).toArray) := by
  subst hn1
  have hl : (Builtin.zeroCells z.cells 1).toList.length = k := by simp [Builtin.zeroCells, hz]
  have ho : ∀ u ∈ (Builtin.zeroCells z.cells 1).toList, u.oneCell' = true := by
    intro u hu
    simp [Builtin.zeroCells] at hu
    obtain ⟨i, _, hi⟩ := hu
    refine h1 u ?_
    rw [← hi]
    rw [getElem!_pos z.cells _ (Nat.mod_lt _ (by rw [hz]; exact hk))]
    exact Array.getElem_mem_toList _
  have hst := run_storeCells_at P g o T (Builtin.zeroCells z.cells 1).toList 0 cur w hg (by rw [hl]; simpa using hfit) ho
  rw [hl] at hst
  simp only [Nat.add_zero] at hst
  simp [Builtin.clear_, run_underlying ht, hv, hst]
/-- copy, as one step of a region that draws. -/
theorem step_copyk {ops : Array Oper} {o : Oper} {a : Act} {w : World} {K : Act → World → Prop} {Q : Exit → Act → World → Prop} {E : Prop} (hg : o.guard = none) (d x : Operand) (dT sT : TypeId) (hop : o.op = Op.call { callee := Callee.builtin Builtin.copy, args := #[d, x], argTypes := #[dT, sT] })
    (v u : Value) (hd : a.eval d = v) (hx : a.eval x = u) {v' : Value} {w' : World} (hr : ∀ ty, (Builtin.copy_ #[dT, sT] ty #[v, u]).run P w = .ok v' w') (hK : K (a.put o.dst v') w') :
    if Region.wanted o (yielded ops a.tmps) = true then Oper.wp P o a w K Q else E := by
  rw [if_pos (by simp [Region.wanted, hg])]
  exact Lib.wp_copy_run w d x dT sT hop v u hd hx (hr _) hK
/-- append, as one step of a region that draws. -/
theorem step_appendk {ops : Array Oper} {o : Oper} {a : Act} {w : World} {K : Act → World → Prop} {Q : Exit → Act → World → Prop} {E : Prop} (hg : o.guard = none) (d x : Operand) (dT sT : TypeId) (hop : o.op = Op.call { callee := Callee.builtin Builtin.append, args := #[d, x], argTypes := #[dT, sT] })
    (v u : Value) (hd : a.eval d = v) (hx : a.eval x = u) {v' : Value} {w' : World} (hr : ∀ ty, (Builtin.append_ #[dT, sT] ty #[v, u]).run P w = .ok v' w') (hK : K (a.put o.dst v') w') :
    if Region.wanted o (yielded ops a.tmps) = true then Oper.wp P o a w K Q else E := by
  rw [if_pos (by simp [Region.wanted, hg])]
  exact Lib.wp_append_run w d x dT sT hop v u hd hx _ _ (hr _) hK
end
theorem info_rule : (Try.prog.info? 42).map (fun i => (i.zero, i.size, i.bytes)) = some (some (.agg #[.int .i64 0, .int .u8 0, .int .u32 0, .int .i64 0, .int .u32 0, .int .i64 0, .int .u32 0, .int .u16 0, .int .u16 0, .int .u32 0, .int .u16 0]), 11, 64) := by kernel_rfl
theorem rule_info : ∃ i0, Try.prog.info? 42 = some i0 ∧ i0.zero = some (.agg #[.int .i64 0, .int .u8 0, .int .u32 0, .int .i64 0, .int .u32 0, .int .i64 0, .int .u32 0, .int .u16 0, .int .u16 0, .int .u32 0, .int .u16 0]) ∧ i0.size = 11 ∧ i0.bytes = 64 := by
  have h := info_rule
  cases hq : Try.prog.info? 42 with
  | none => rw [hq] at h; simp at h
  | some i0 =>
    rw [hq] at h
    simp only [Option.map_some, Option.some.injEq, Prod.mk.injEq] at h
    exact ⟨i0, rfl, h.1, h.2.1, h.2.2⟩
/-- A slice of rules of the call's own (from block B on). -/
def RowC (w : World) (B : Nat) (v : Value) (rs : List Ru) : Prop := w.ownsRow B 42 11 v rs.length (valsR rs)
theorem valsR_take (rs : List Ru) (i : Nat) : (valsR rs).take (i * 11) = valsR (rs.take i) := by
  induction rs generalizing i with
  | nil => simp [valsR]
  | cons r l ih =>
    cases i with
    | zero => simp [valsR]
    | succ i => rw [List.take_succ_cons, valsR_cons, valsR_cons, List.take_append, vals_len, show (i + 1) * 11 - 11 = i * 11 by omega, ih, List.take_of_length_le (by rw [vals_len]; omega)]
theorem valsR_drop (rs : List Ru) (i : Nat) : (valsR rs).drop (i * 11) = valsR (rs.drop i) := by
  induction rs generalizing i with
  | nil => simp [valsR]
  | cons r l ih =>
    cases i with
    | zero => simp
    | succ i => rw [List.drop_succ_cons, valsR_cons, List.drop_append, vals_len, show (i + 1) * 11 - 11 = i * 11 by omega, ih, List.drop_of_length_le (by rw [vals_len]; omega)]; simp

theorem RowC.of {w : World} {B g cap : Nat} {cur : Array Value} {rs : List Ru} (hg : w.heap[g]? = some (.cells cur 42 (0, 0))) (hB : B ≤ g) (hn : rs.length ≤ cap) (hm : cap ≤ maxLen) (hs : cur.size = cap * 11) (h : ∀ j, j < rs.length * 11 → cur.toList[j]? = (valsR rs)[j]?) : RowC w B (.slice (some ⟨g, 0, none⟩) rs.length cap) rs := by
  refine ⟨valsR_len rs, .inr ⟨g, cap, cur, rfl, hB, hg, hn, hm, hs, ?_⟩⟩
  refine List.ext_getElem? fun j => ?_
  rw [List.getElem?_take]
  by_cases hj : j < rs.length * 11
  · rw [if_pos hj, h j hj]
  · rw [if_neg hj, List.getElem?_eq_none (by rw [valsR_len]; omega)]
theorem RowC.get {w : World} {B g n cap : Nat} {rs : List Ru} (h : RowC w B (.slice (some ⟨g, 0, none⟩) n cap) rs) : ∃ cur : Array Value, n = rs.length ∧ B ≤ g ∧ g < w.heap.size ∧ w.heap[g]? = some (.cells cur 42 (0, 0)) ∧ rs.length ≤ cap ∧ cap ≤ maxLen ∧ cur.size = cap * 11 ∧ ∀ j, j < rs.length * 11 → cur.toList[j]? = (valsR rs)[j]? := by
  obtain ⟨_, ⟨h, _⟩ | ⟨g', cap', cur, e, hB, hg, hn, hm, hs, ht⟩⟩ := h
  · cases h
  · simp only [Value.slice.injEq, Option.some.injEq, Addr.mk.injEq] at e
    obtain ⟨⟨rfl, _⟩, rfl, rfl⟩ := e
    refine ⟨cur, rfl, hB, (Array.getElem?_eq_some_iff.1 hg).1, hg, hn, hm, hs, fun j hj => ?_⟩
    rw [← ht, List.getElem?_take, if_pos hj]
theorem RowC.kinds {w : World} {B : Nat} {v : Value} {rs : List Ru} (h : RowC w B v rs) : (v = .slice none 0 0 ∧ rs = []) ∨ ∃ g cap, v = .slice (some ⟨g, 0, none⟩) rs.length cap := by
  obtain ⟨hl, ⟨h, hn⟩ | ⟨g, cap, cur, e, _⟩⟩ := h
  · exact .inl ⟨h, List.eq_nil_of_length_eq_zero hn⟩
  · exact .inr ⟨g, cap, e⟩
theorem RowC.low {w : World} {A B : Nat} {v : Value} {rs : List Ru} (h : RowC w B v rs) (hA : A ≤ B) : RowC w A v rs := by
  obtain ⟨hl, h | ⟨g, cap, cur, e, hB, hr⟩⟩ := h
  · exact ⟨hl, .inl h⟩
  · exact ⟨hl, .inr ⟨g, cap, cur, e, Nat.le_trans hA hB, hr⟩⟩
/-- A part of a list, written over. -/
def spl {α : Type} (L : List α) (o : Nat) (cs : List α) : List α := L.take o ++ cs ++ L.drop (o + cs.length)
theorem spl_len {α : Type} (L : List α) (o : Nat) (cs : List α) (h : o + cs.length ≤ L.length) : (spl L o cs).length = L.length := by simp [spl]; omega
theorem spl_get {α : Type} (L : List α) (o : Nat) (cs : List α) (h : o + cs.length ≤ L.length) (j : Nat) : (spl L o cs)[j]? = if j < o then L[j]? else if j < o + cs.length then cs[j - o]? else L[j]? := by
  unfold spl
  by_cases h1 : j < o
  · rw [if_pos h1, List.append_assoc, List.getElem?_append_left (by simp; omega), List.getElem?_take, if_pos h1]
  · rw [if_neg h1]
    by_cases h2 : j < o + cs.length
    · rw [if_pos h2, List.getElem?_append_left (by simp; omega), List.getElem?_append_right (by simp; omega)]
      congr 1
      simp
      omega
    · rw [if_neg h2, List.getElem?_append_right (by simp; omega), List.getElem?_drop]
      congr 1
      simp
      omega
theorem ins_get (rs : List Ru) (r : Ru) (i j : Nat) (hi : i ≤ rs.length) : (valsR (rs.take i ++ r :: rs.drop i))[j]? = if j < i * 11 then (valsR rs)[j]? else if j < i * 11 + 11 then r.vals[j - i * 11]? else (valsR rs)[j - 11]? := by
  have hl : (valsR (rs.take i)).length = i * 11 := by rw [valsR_len, List.length_take, Nat.min_eq_left hi]
  rw [valsR_app, valsR_cons]
  by_cases h1 : j < i * 11
  · rw [if_pos h1, List.getElem?_append_left (by omega), ← valsR_take, List.getElem?_take, if_pos h1]
  · rw [if_neg h1, List.getElem?_append_right (by omega), hl]
    by_cases h2 : j < i * 11 + 11
    · rw [if_pos h2, List.getElem?_append_left (by rw [vals_len]; omega)]
    · rw [if_neg h2, List.getElem?_append_right (by rw [vals_len]; omega), vals_len, ← valsR_drop, List.getElem?_drop]
      congr 1
      omega
theorem del_get (rs : List Ru) (i j : Nat) (hi : i < rs.length) : (valsR (rs.take i ++ rs.drop (i + 1)))[j]? = if j < i * 11 then (valsR rs)[j]? else (valsR rs)[j + 11]? := by
  have hl : (valsR (rs.take i)).length = i * 11 := by rw [valsR_len, List.length_take, Nat.min_eq_left (by omega)]
  rw [valsR_app]
  by_cases h1 : j < i * 11
  · rw [if_pos h1, List.getElem?_append_left (by omega), ← valsR_take, List.getElem?_take, if_pos h1]
  · rw [if_neg h1, List.getElem?_append_right (by omega), hl, ← valsR_drop, List.getElem?_drop]
    congr 1
    omega
theorem zero_cells : ((.agg #[.int .i64 0, .int .u8 0, .int .u32 0, .int .i64 0, .int .u32 0, .int .i64 0, .int .u32 0, .int .u16 0, .int .u16 0, .int .u32 0, .int .u16 0] : Value)).cells.size = 11 := by rfl
/-- What is told of slices.Insert: a row of the own that holds what it should; blocks beside the slice's own are as they were; the row's block is the old one, or a new one. -/
def Ins (B : Nat) (v : Value) (rs : List Ru) (w : World) (e : Ending) (w' : World) : Prop := ∃ v', e = .returned v' ∧ RowC w' B v' rs ∧ w.grownBy w' v.ownBlock ∧ (v'.ownBlock = v.ownBlock ∨ ∃ g, v'.ownBlock = some g ∧ w.heap.size ≤ g)
theorem RowC.fresh {w : World} {B cap : Nat} {rs : List Ru} {arr : Array Value} (hB : B ≤ w.heap.size) (hn : rs.length ≤ cap) (hm : cap ≤ maxLen) (hs : arr.size = cap * 11) (h : ∀ j, j < rs.length * 11 → arr.toList[j]? = (valsR rs)[j]?) : RowC (w.drew.alloc (.cells arr 42)) B (.slice (some ⟨w.heap.size, 0, none⟩) rs.length cap) rs := by
  refine RowC.of (cur := arr) ?_ hB hn hm hs h
  exact heap_alloc_new w.drew _
theorem grown_fresh (w : World) (o : Obj) (row : Option Nat) : w.grownBy (w.drew.alloc o) row := ⟨rfl, rfl, rfl, by simp, fun k hk _ => heap_alloc_old w.drew o hk⟩
theorem grown_row {w w' : World} {g : Nat} (h : w.grownBy w' (some g)) (cs : Array Value) : w.grownBy (w'.setRow g cs) (some g) := ⟨h.os, h.tape, h.output, by have := h.size; simpa [World.setRow] using this, fun k hk hn => (setRow_other w' g k cs (fun e => hn (by rw [e]))).trans (h.block k hk hn)⟩
set_option maxHeartbeats 4000000 in
set_option maxRecDepth 100000 in
theorem insert_nil (B : Nat) (r : Ru) (vb : Nat) (w : World) (hB : B ≤ w.heap.size) (hv : w.heap[vb]? = some (.cells r.vals.toArray 42 (0, 0))) :
    Calls Try.prog 44 #[.slice none 0 0, .int .i64 (0 : Nat), .slice (some ⟨vb, 0, none⟩) 1 1] w (Ins B (.slice none 0 0) ([r]) w) := by
  have hvc : ∀ W : World, W.heap[vb]? = w.heap[vb]? → ∀ j u, (r.vals)[j]? = some u → W.cell? ((⟨vb, 0, none⟩ : Addr).add j) = some u := by
    intro W hW j u hj
    rw [Addr.add_lit]
    simp only [World.cell?, Nat.zero_add]
    rw [hW, hv]
    simpa using hj
  have hv1 : ∀ u ∈ r.vals, u.oneCell' = true := fun u hu => vals_one [r] u (by simpa [valsR] using hu)
  obtain ⟨i0, hi0, hz0, hz1, hz2⟩ := rule_info
  have mxl : maxLen = 9223372036854775807 := rfl
  have hr := fun ty => run_append_nil (P := Try.prog) w 50 ty 42 i0 _ Try.underlying50 hi0 hz0 ⟨vb, 0, none⟩ 1 1 r.vals (by rw [hz1]; rfl) (hvc w rfl) (by omega) (by omega) (by rw [hz2]; omega)
  have hG := grownCap_ge w 1 0 42
  have hGm := grownCap_le_maxLen w 1 0 42 (by omega)
  generalize grownCap w 1 0 42 = G at *
  have EN : Hid (∀ e w', (e = .returned (.slice (some ⟨w.heap.size, 0, none⟩) 1 G) ∧ w' = w.drew.alloc (.cells (r.vals.toArray ++ Builtin.zeroCells (.agg #[.int .i64 0, .int .u8 0, .int .u32 0, .int .i64 0, .int .u32 0, .int .i64 0, .int .u32 0, .int .u16 0, .int .u16 0, .int .u32 0, .int .u16 0] : Value).cells (G - 1)) 42)) → Ins B (.slice none 0 0) [r] w e w') := by
    rintro e w' ⟨rfl, rfl⟩
    refine ⟨_, rfl, RowC.fresh (rs := [r]) hB hG hGm ?_ ?_, grown_fresh _ _ _, .inr ⟨_, rfl, Nat.le_refl _⟩⟩
    · rw [Array.size_append, size_zeroCells, zero_cells]
      simp [vals_len]
      omega
    · intro j hj
      rw [Array.toList_append, List.getElem?_append_left (by simp [vals_len]; simpa using hj)]
      simp [valsR]
  clear hvc hv hv1 hi0 hz0 hz1 hz2 hG hGm hB
  refine Calls.mono ?_ EN.out
  go_enter Try.func44, Try.ntmps44
  go_wp2_with (at_builtin; refine Lib.wpList_append_run _ rfl _ _ _ _ rfl _ _ rfl rfl _ _ (hr _) ?_)
  go_ret
  exact ⟨rfl, rfl⟩
set_option maxHeartbeats 4000000 in
set_option maxRecDepth 100000 in
theorem insert_endR (B : Nat) (rs : List Ru) (r : Ru) (vb : Nat) (w : World) (hl : rs.length ≤ 1000) (hB : B ≤ w.heap.size) (hv : w.heap[vb]? = some (.cells r.vals.toArray 42 (0, 0))) (g c : Nat) (hR : RowC w B (.slice (some ⟨g, 0, none⟩) rs.length c) rs) (hroom : rs.length + 1 ≤ c) :
    Calls Try.prog 44 #[.slice (some ⟨g, 0, none⟩) rs.length c, .int .i64 (rs.length : Nat), .slice (some ⟨vb, 0, none⟩) 1 1] w (Ins B (.slice (some ⟨g, 0, none⟩) rs.length c) (rs ++ [r]) w) := by
  have hvc : ∀ W : World, W.heap[vb]? = w.heap[vb]? → ∀ j u, (r.vals)[j]? = some u → W.cell? ((⟨vb, 0, none⟩ : Addr).add j) = some u := by
    intro W hW j u hj
    rw [Addr.add_lit]
    simp only [World.cell?, Nat.zero_add]
    rw [hW, hv]
    simpa using hj
  have hv1 : ∀ u ∈ r.vals, u.oneCell' = true := fun u hu => vals_one [r] u (by simpa [valsR] using hu)
  obtain ⟨i0, hi0, hz0, hz1, hz2⟩ := rule_info
  have mxl : maxLen = 9223372036854775807 := rfl
  obtain ⟨cur, _, hgB, hgw, hg, hnc, hcm, hcs, hcur⟩ := hR.get
  have hv_len := valsR_len rs
  have hcurl : cur.toList.length = c * 11 := by simpa using hcs
  have hgc : ∀ W : World, W.heap[g]? = w.heap[g]? → ∀ j u, (valsR rs)[j]? = some u → W.cell? ((⟨g, 0, none⟩ : Addr).add j) = some u := by
    intro W hW j u hj
    have hlt : j < rs.length * 11 := by
      have := (List.getElem?_eq_some_iff.1 hj).1
      omega
    rw [Addr.add_lit]
    simp only [World.cell?, Nat.zero_add]
    rw [hW, hg]
    have := hcur j hlt
    rw [hj] at this
    simpa using this
  have hx0 : ¬ ((1 : Int) = 0) := by omega
  have hr := fun ty => run_append_room (P := Try.prog) w 50 ty 42 i0 Try.underlying50 hi0 g rs.length c cur hg ⟨vb, 0, none⟩ 1 1 r.vals (by rw [hz1]; rfl) (hvc w rfl) hv1 hroom (by rw [hz1, vals_len]; omega)
  rw [hz1] at hr
  obtain ⟨ROW, hROW⟩ : ∃ x, x = cur.toList.take (rs.length * 11) ++ r.vals ++ cur.toList.drop (rs.length * 11 + r.vals.length) := ⟨_, rfl⟩
  rw [← hROW] at hr
  have EN : Hid (∀ e w', (e = .returned (.slice (some ⟨g, 0, none⟩) (rs.length + 1) c) ∧ w' = w.setRow g ROW.toArray) → Ins B (.slice (some ⟨g, 0, none⟩) rs.length c) (rs ++ [r]) w e w') := by
    rintro e w' ⟨rfl, rfl⟩
    have hrow : ROW = spl cur.toList (rs.length * 11) r.vals := hROW
    refine ⟨_, rfl, ?_, grown_row ⟨rfl, rfl, rfl, Nat.le_refl _, fun _ _ _ => rfl⟩ _, .inl rfl⟩
    have key := RowC.of (w := w.setRow g ROW.toArray) (B := B) (g := g) (cap := c) (cur := ROW.toArray) (rs := rs ++ [r]) (setRow_heap w g cur _ _ _ hg) hgB (by simp; omega) hcm (by rw [hrow, List.size_toArray, spl_len _ _ _ (by rw [vals_len]; omega)]; exact hcurl) (by
      intro j hj
      simp only [List.length_append, List.length_singleton] at hj
      rw [hrow, List.toList_toArray, spl_get _ _ _ (by rw [vals_len]; omega), vals_len]
      have hi2 := ins_get rs r rs.length j (Nat.le_refl _)
      rw [List.take_length, List.drop_length] at hi2
      rw [hi2]
      by_cases h1 : j < rs.length * 11
      · rw [if_pos h1, if_pos h1, hcur j h1]
      · rw [if_neg h1, if_neg h1, if_pos (by omega), if_pos (by omega)])
    simpa using key
  clear hvc hv hv1 hi0 hz0 hz1 hz2 hB hR hg hgB hgw hnc hcs hcur hcurl hROW hgc hv_len
  have hn2 : (rs.length : Int) ≤ 1000 := by omega
  refine Calls.mono ?_ EN.out
  generalize rs.length = n at *
  go_enter Try.func44, Try.ntmps44
  go_wp2_with (at_builtin; refine Lib.wpList_append_run _ rfl _ _ _ _ rfl _ _ rfl rfl _ _ (hr _) ?_)
  all_goals (go_ret; exact ⟨rfl, rfl⟩)
set_option maxHeartbeats 4000000 in
set_option maxRecDepth 100000 in
theorem insert_endG (B : Nat) (rs : List Ru) (r : Ru) (vb : Nat) (w : World) (hl : rs.length ≤ 1000) (hB : B ≤ w.heap.size) (hv : w.heap[vb]? = some (.cells r.vals.toArray 42 (0, 0))) (g c : Nat) (hR : RowC w B (.slice (some ⟨g, 0, none⟩) rs.length c) rs) (hroom : c < rs.length + 1) :
    Calls Try.prog 44 #[.slice (some ⟨g, 0, none⟩) rs.length c, .int .i64 (rs.length : Nat), .slice (some ⟨vb, 0, none⟩) 1 1] w (Ins B (.slice (some ⟨g, 0, none⟩) rs.length c) (rs ++ [r]) w) := by
  have hvc : ∀ W : World, W.heap[vb]? = w.heap[vb]? → ∀ j u, (r.vals)[j]? = some u → W.cell? ((⟨vb, 0, none⟩ : Addr).add j) = some u := by
    intro W hW j u hj
    rw [Addr.add_lit]
    simp only [World.cell?, Nat.zero_add]
    rw [hW, hv]
    simpa using hj
  have hv1 : ∀ u ∈ r.vals, u.oneCell' = true := fun u hu => vals_one [r] u (by simpa [valsR] using hu)
  obtain ⟨i0, hi0, hz0, hz1, hz2⟩ := rule_info
  have mxl : maxLen = 9223372036854775807 := rfl
  obtain ⟨cur, _, hgB, hgw, hg, hnc, hcm, hcs, hcur⟩ := hR.get
  have hv_len := valsR_len rs
  have hcurl : cur.toList.length = c * 11 := by simpa using hcs
  have hgc : ∀ W : World, W.heap[g]? = w.heap[g]? → ∀ j u, (valsR rs)[j]? = some u → W.cell? ((⟨g, 0, none⟩ : Addr).add j) = some u := by
    intro W hW j u hj
    have hlt : j < rs.length * 11 := by
      have := (List.getElem?_eq_some_iff.1 hj).1
      omega
    rw [Addr.add_lit]
    simp only [World.cell?, Nat.zero_add]
    rw [hW, hg]
    have := hcur j hlt
    rw [hj] at this
    simpa using this
  have hx0 : ¬ ((1 : Int) = 0) := by omega
  have hr := fun ty => run_append_grow (P := Try.prog) w 50 ty 42 i0 _ Try.underlying50 hi0 hz0 ⟨g, 0, none⟩ rs.length c (valsR rs) (by rw [hz1, valsR_len]) (hgc w rfl) ⟨vb, 0, none⟩ 1 1 r.vals (by rw [hz1]; rfl) (hvc w rfl) hroom (by omega) (growslice_fits hroom (by rw [hz2]; omega))
  have hG := grownCap_ge w (rs.length + 1) c 42
  have hGm := grownCap_le_maxLen w (rs.length + 1) c 42 (by omega)
  generalize grownCap w (rs.length + 1) c 42 = G at *
  obtain ⟨ROW, hROW⟩ : ∃ x, x = (valsR rs).toArray ++ r.vals.toArray ++ Builtin.zeroCells (.agg #[.int .i64 0, .int .u8 0, .int .u32 0, .int .i64 0, .int .u32 0, .int .i64 0, .int .u32 0, .int .u16 0, .int .u16 0, .int .u32 0, .int .u16 0] : Value).cells (G - (rs.length + 1)) := ⟨_, rfl⟩
  rw [← hROW] at hr
  have EN : Hid (∀ e w', (e = .returned (.slice (some ⟨w.heap.size, 0, none⟩) (rs.length + 1) G) ∧ w' = w.drew.alloc (.cells ROW 42)) → Ins B (.slice (some ⟨g, 0, none⟩) rs.length c) (rs ++ [r]) w e w') := by
    rintro e w' ⟨rfl, rfl⟩
    refine ⟨_, rfl, ?_, grown_fresh _ _ _, .inr ⟨_, rfl, Nat.le_refl _⟩⟩
    have key := RowC.fresh (w := w) (B := B) (cap := G) (rs := rs ++ [r]) (arr := ROW) hB (by simpa using hG) hGm (by
      rw [hROW, Array.size_append, Array.size_append, size_zeroCells, zero_cells, List.size_toArray, List.size_toArray, valsR_len, vals_len]
      omega) (by
      intro j hj
      rw [hROW, Array.toList_append, Array.toList_append, List.toList_toArray, List.toList_toArray, List.getElem?_append_left (by simp only [List.length_append, valsR_len, vals_len, List.length_singleton] at hj ⊢; omega), valsR_app]
      simp [valsR])
    simpa using key
  clear hvc hv hv1 hi0 hz0 hz1 hz2 hB hR hg hgB hgw hnc hcs hcur hcurl hROW hgc hv_len hG hGm
  have hn2 : (rs.length : Int) ≤ 1000 := by omega
  refine Calls.mono ?_ EN.out
  generalize rs.length = n at *
  go_enter Try.func44, Try.ntmps44
  go_wp2_with (at_builtin; refine Lib.wpList_append_run _ rfl _ _ _ _ rfl _ _ rfl rfl _ _ (hr _) ?_)
  all_goals (go_ret; exact ⟨rfl, rfl⟩)
set_option maxHeartbeats 4000000 in
set_option maxRecDepth 100000 in
theorem insert_grow (B : Nat) (rs : List Ru) (r : Ru) (i vb : Nat) (w : World) (hl : rs.length ≤ 1000) (hB : B ≤ w.heap.size) (hv : w.heap[vb]? = some (.cells r.vals.toArray 42 (0, 0))) (g c : Nat) (hR : RowC w B (.slice (some ⟨g, 0, none⟩) rs.length c) rs) (hi : i < rs.length) (hne : ¬ g = vb) (hroom : c < rs.length + 1) :
    Calls Try.prog 44 #[.slice (some ⟨g, 0, none⟩) rs.length c, .int .i64 (i : Nat), .slice (some ⟨vb, 0, none⟩) 1 1] w (Ins B (.slice (some ⟨g, 0, none⟩) rs.length c) (rs.take i ++ r :: rs.drop i) w) := by
  have hvc : ∀ W : World, W.heap[vb]? = w.heap[vb]? → ∀ j u, (r.vals)[j]? = some u → W.cell? ((⟨vb, 0, none⟩ : Addr).add j) = some u := by
    intro W hW j u hj
    rw [Addr.add_lit]
    simp only [World.cell?, Nat.zero_add]
    rw [hW, hv]
    simpa using hj
  have hv1 : ∀ u ∈ r.vals, u.oneCell' = true := fun u hu => vals_one [r] u (by simpa [valsR] using hu)
  obtain ⟨i0, hi0, hz0, hz1, hz2⟩ := rule_info
  have mxl : maxLen = 9223372036854775807 := rfl
  obtain ⟨cur, _, hgB, hgw, hg, hnc, hcm, hcs, hcur⟩ := hR.get
  have hv_len := valsR_len rs
  have hd_len : (valsR (rs.drop i)).length = (rs.length - i) * 11 := by rw [valsR_len, List.length_drop]
  have ht_len : (valsR (rs.take i)).length = i * 11 := by rw [valsR_len, List.length_take, Nat.min_eq_left (by omega)]
  have hd1 : ∀ u ∈ valsR (rs.drop i), u.oneCell' = true := vals_one _
  have hcurl : cur.toList.length = c * 11 := by simpa using hcs
  have hdc : ∀ W : World, W.heap[g]? = w.heap[g]? → ∀ j u, (valsR (rs.drop i))[j]? = some u → W.cell? ((⟨g, i * 11, none⟩ : Addr).add j) = some u := by
    intro W hW j u hj
    have hlt : j < (rs.length - i) * 11 := by
      have := (List.getElem?_eq_some_iff.1 hj).1
      omega
    rw [Addr.add_lit]
    simp only [World.cell?]
    rw [hW, hg]
    have e : (valsR (rs.drop i))[j]? = (valsR rs)[i * 11 + j]? := by rw [← valsR_drop, List.getElem?_drop]
    have := hcur (i * 11 + j) (by omega)
    rw [← e, hj] at this
    simpa using this
  have hvw : vb < w.heap.size := (Array.getElem?_eq_some_iff.1 hv).1
  have hik : i + (rs.length + 1 - i) = rs.length + 1 := by omega
  have hold : (Builtin.firstCells i0.size i (.slice (some ⟨g, 0, none⟩) i c)).run Try.prog w.drew = .ok (valsR (rs.take i)).toArray w.drew := by
    refine run_firstCells_some w.drew i0.size i ⟨g, 0, none⟩ i c _ (by rw [ht_len, hz1]) (fun j u hj => ?_)
    have hlt : j < i * 11 := by
      have := (List.getElem?_eq_some_iff.1 hj).1
      omega
    rw [Addr.add_lit, World.cell?_drew]
    simp only [World.cell?, Nat.zero_add]
    rw [hg]
    have := hcur j (by omega)
    rw [← valsR_take, List.getElem?_take, if_pos hlt] at hj
    rw [hj] at this
    simpa using this
  have hrz := fun ty => Lib.run_append_grow_zeros w 50 3 ty 42 i0 _ .i64 .i64 Try.underlying50 Try.underlying3 hi0 hz0 (some ⟨g, 0, none⟩) i c (valsR (rs.take i)) hold (rs.length + 1 - i) (by omega) (by omega) (by omega) (by omega) (by rw [hz2]; omega) (by rw [hz2, hik]; exact growslice_fits hroom (by omega))
  rw [hik] at hrz
  have hG := grownCap_ge w (rs.length + 1) c 42
  have hGm := grownCap_le_maxLen w (rs.length + 1) c 42 (by omega)
  generalize grownCap w (rs.length + 1) c 42 = G at *
  obtain ⟨ROW, hROW⟩ : ∃ x, x = (valsR (rs.take i)).toArray ++ Builtin.zeroCells (.agg #[.int .i64 0, .int .u8 0, .int .u32 0, .int .i64 0, .int .u32 0, .int .i64 0, .int .u32 0, .int .u16 0, .int .u16 0, .int .u32 0, .int .u16 0] : Value).cells (rs.length + 1 - i) ++ Builtin.zeroCells (.agg #[.int .i64 0, .int .u8 0, .int .u32 0, .int .i64 0, .int .u32 0, .int .i64 0, .int .u32 0, .int .u16 0, .int .u16 0, .int .u32 0, .int .u16 0] : Value).cells (G - (rs.length + 1)) := ⟨_, rfl⟩
  rw [← hROW] at hrz
  have hRl : ROW.size = G * 11 := by
    rw [hROW, Array.size_append, Array.size_append, size_zeroCells, size_zeroCells, zero_cells, List.size_toArray, ht_len]
    omega
  have hRt : ∀ j, j < i * 11 → ROW.toList[j]? = (valsR rs)[j]? := by
    intro j hj
    rw [hROW, Array.toList_append, Array.toList_append, List.append_assoc, List.toList_toArray, List.getElem?_append_left (by omega), ← valsR_take, List.getElem?_take, if_pos hj]
  clear hROW hold
  obtain ⟨W1, hW1⟩ : ∃ W1, W1 = w.drew.alloc (.cells ROW 42) := ⟨_, rfl⟩
  rw [← hW1] at hrz
  have hN : W1.heap[w.heap.size]? = some (.cells ROW 42 (0, 0)) := by rw [hW1]; exact heap_alloc_new w.drew _
  have hOg : ∀ k, k < w.heap.size → W1.heap[k]? = w.heap[k]? := fun k hk => by rw [hW1]; exact (grown_fresh w _ none).block k hk (by simp)
  obtain ⟨R1, hR1⟩ : ∃ x, x = spl ROW.toList (i * 11) r.vals := ⟨_, rfl⟩
  have hR1l : R1.length = G * 11 := by rw [hR1, spl_len _ _ _ (by rw [vals_len]; simp; omega)]; simpa using hRl
  have hcpA : ∀ (W : World), W.heap = W1.heap → ∀ ty dc, (Builtin.copy_ #[50, 50] ty #[.slice (some ⟨w.heap.size, i * 11, none⟩) (rs.length + 1 - i) dc, .slice (some ⟨vb, 0, none⟩) 1 1]).run Try.prog W = .ok (goInt 1) (W.setRow w.heap.size R1.toArray) := fun W hW ty dc => by
    rw [hR1]
    exact run_copyk W _ _ ty 42 i0 w.heap.size (i * 11) _ dc ⟨vb, 0, none⟩ 1 1 ROW 42 r.vals Try.underlying50 hi0 (by rw [hW]; exact hN) 1 (by simp only [Nat.min_def]; split <;> omega) (by rw [hz1]; rfl) (hvc W (by rw [hW]; exact hOg vb hvw)) (by rw [vals_len]; omega) hv1
  obtain ⟨R2, hR2⟩ : ∃ x, x = spl R1 ((i + 1) * 11) (valsR (rs.drop i)) := ⟨_, rfl⟩
  have hcpB : ∀ (W : World), W.heap = (W1.setRow w.heap.size R1.toArray).heap → ∀ ty dc sc, (Builtin.copy_ #[50, 50] ty #[.slice (some ⟨w.heap.size, (i + 1) * 11, none⟩) (rs.length + 1 - (i + 1)) dc, .slice (some ⟨g, i * 11, none⟩) (rs.length - i) sc]).run Try.prog W = .ok (goInt ((rs.length - i : Nat) : Int)) (W.setRow w.heap.size R2.toArray) := fun W hW ty dc sc => by
    rw [hR2]
    have := run_copyk W 50 50 ty 42 i0 w.heap.size ((i + 1) * 11) (rs.length + 1 - (i + 1)) dc ⟨g, i * 11, none⟩ (rs.length - i) sc R1.toArray 42 (valsR (rs.drop i)) Try.underlying50 hi0 (by rw [hW]; exact setRow_heap W1 _ ROW _ _ _ hN) (rs.length - i) (by simp only [Nat.min_def]; split <;> omega) (by rw [hz1]; exact hd_len) (hdc W (by rw [hW, setRow_other W1 w.heap.size g _ (by omega)]; exact hOg g hgw)) (by rw [List.size_toArray, hR1l, hd_len]; omega) hd1
    exact this
  have EN : Hid (∀ e w', (e = .returned (.slice (some ⟨w.heap.size, 0, none⟩) (rs.length + 1) G) ∧ ∃ W : World, W.heap = W1.heap ∧ W.os = w.os ∧ W.tape = w.tape ∧ W.output = w.output ∧ w'.heap = ((W.setRow w.heap.size R1.toArray).setRow w.heap.size R2.toArray).heap ∧ w'.os = w.os ∧ w'.tape = w.tape ∧ w'.output = w.output) → Ins B (.slice (some ⟨g, 0, none⟩) rs.length c) (rs.take i ++ r :: rs.drop i) w e w') := by
    rintro e w' ⟨rfl, W, e1, _, _, _, e2, e3, e4, e5⟩
    have hh : w'.heap[w.heap.size]? = some (.cells R2.toArray 42 (0, 0)) := by
      rw [e2]
      exact setRow_heap _ _ R1.toArray _ _ _ (setRow_heap W _ ROW _ _ _ (by rw [e1]; exact hN))
    refine ⟨_, rfl, ?_, ⟨e3, e4, e5, ?_, fun k hk _ => ?_⟩, .inr ⟨_, rfl, Nat.le_refl _⟩⟩
    · have ln : (rs.take i ++ r :: rs.drop i).length = rs.length + 1 := by simp; omega
      have key := RowC.of (w := w') (B := B) (g := w.heap.size) (cap := G) (cur := R2.toArray) (rs := rs.take i ++ r :: rs.drop i) hh hB (by omega) hGm (by rw [List.size_toArray, hR2, spl_len _ _ _ (by omega)]; exact hR1l) (by
        intro j hj
        rw [ln] at hj
        rw [List.toList_toArray, ins_get rs r i j (by omega), hR2, spl_get _ _ _ (by omega), hR1, spl_get _ _ _ (by rw [vals_len]; simp; omega), vals_len]
        by_cases h1 : j < i * 11
        · rw [if_pos (by omega), if_pos h1, if_pos h1, hRt j h1]
        · by_cases h2 : j < i * 11 + 11
          · rw [if_pos (by omega), if_neg h1, if_pos h2, if_neg h1, if_pos h2]
          · rw [if_neg (by omega), if_pos (by omega), if_neg h1, if_neg h2, ← valsR_drop, List.getElem?_drop]
            congr 1
            omega)
      rw [ln] at key
      exact key
    · rw [e2]
      simp only [World.setRow, Array.size_modify]
      rw [e1, hW1]
      simp
    · rw [e2, setRow_other _ _ _ _ (by omega), setRow_other _ _ _ _ (by omega), e1]
      exact hOg k hk
  have hE : W1.os = w.os ∧ W1.tape = w.tape ∧ W1.output = w.output := by rw [hW1]; exact ⟨rfl, rfl, rfl⟩
  have hn2 : (rs.length : Int) ≤ 1000 := by omega
  have hz2' : ¬ ((i : Int) = (rs.length : Int)) := by omega
  have hz3 : (c : Int) < (rs.length : Int) + 1 := by omega
  have hkk : (rs.length : Int) + 1 - (i : Int) = ((rs.length + 1 - i : Nat) : Int) := by omega
  rw [← hkk] at hrz
  have hGi : ¬ (G = i) := by omega
  have hGim : ¬ (G = i + 1) := by omega
  have hci : ¬ (c = i) := by omega
  have hin : i ≤ rs.length := by omega
  have hin2 : i ≤ rs.length + 1 := by omega
  have hic : i ≤ c := by omega
  have hG63 : G ≤ 9223372036854775807 := by omega
  have HE1 := Lib.hid hE
  refine Calls.mono ?_ EN.out
  clear hkk hRl hR1 hR2 hR1l hRt hd_len ht_len hd1 hcurl hdc hcur hg hvc hv1 hv hi0 hz0 hz1 hz2 hR hnc hcm hcs hE EN hN hOg mxl
  generalize rs.length = n at *
  generalize R1.toArray = A1 at *
  generalize R2.toArray = A2 at *
  subst hW1
  go_enter Try.func44, Try.ntmps44
  have mixed : Try.prog.follows .mixedOrders = true := by kernel_rfl
  have hw1 : IntKind.i64.wrap ((i : Int) + 1) = (i : Int) + 1 := by rw [IntKind.wrap_i64]; omega
  have hb1 : (0 : Int) ≤ (i : Int) + 1 := by omega
  have htn : ((i : Int) + 1).toNat = i + 1 := by omega
  have hb3 : (i : Int) ≤ (n : Int) := by omega
  have hb4 : i + 1 ≤ G := by omega
  have hb5 : i + 1 ≤ n + 1 := by omega
  have hA := hcpA ((w.alloc (.cells ROW 42)).drew) rfl
  clear hcpA
  go_wp2_with (at_builtin; refine Lib.wpList_append_run _ rfl _ _ _ _ rfl _ _ rfl rfl _ _ (hrz _) ?_)
  go_region_law_o (refine step_copyk rfl _ _ 50 50 rfl (.slice (some ⟨w.heap.size, (i + 1) * 11, none⟩) (n + 1 - (i + 1)) (G - (i + 1))) (.slice (some ⟨g, i * 11, none⟩) (n - i) (c - i)) (by simp [Act.eval, Act.put]) (by simp [Act.eval, Act.put]) (fun ty => hcpB (((w.alloc (.cells ROW 42)).drew.setRow w.heap.size A1).drew) rfl ty _ _) ?_)
  go_wp2
  go_ret
  exact ⟨rfl, _, rfl, HE1.out.1, HE1.out.2.1, HE1.out.2.2, rfl, HE1.out.1, HE1.out.2.1, HE1.out.2.2⟩
set_option maxHeartbeats 4000000 in
set_option maxRecDepth 100000 in
theorem insert_shift (B : Nat) (rs : List Ru) (r : Ru) (i vb : Nat) (w : World) (hl : rs.length ≤ 1000) (hB : B ≤ w.heap.size) (hv : w.heap[vb]? = some (.cells r.vals.toArray 42 (0, 0))) (g c : Nat) (hR : RowC w B (.slice (some ⟨g, 0, none⟩) rs.length c) rs) (hi : i < rs.length) (hne : ¬ g = vb) (hroom : rs.length + 1 ≤ c) :
    Calls Try.prog 44 #[.slice (some ⟨g, 0, none⟩) rs.length c, .int .i64 (i : Nat), .slice (some ⟨vb, 0, none⟩) 1 1] w (Ins B (.slice (some ⟨g, 0, none⟩) rs.length c) (rs.take i ++ r :: rs.drop i) w) := by
  have hvc : ∀ W : World, W.heap[vb]? = w.heap[vb]? → ∀ j u, (r.vals)[j]? = some u → W.cell? ((⟨vb, 0, none⟩ : Addr).add j) = some u := by
    intro W hW j u hj
    rw [Addr.add_lit]
    simp only [World.cell?, Nat.zero_add]
    rw [hW, hv]
    simpa using hj
  have hv1 : ∀ u ∈ r.vals, u.oneCell' = true := fun u hu => vals_one [r] u (by simpa [valsR] using hu)
  obtain ⟨i0, hi0, hz0, hz1, hz2⟩ := rule_info
  have mxl : maxLen = 9223372036854775807 := rfl
  obtain ⟨cur, _, hgB, hgw, hg, hnc, hcm, hcs, hcur⟩ := hR.get
  have hv_len := valsR_len rs
  have hd_len : (valsR (rs.drop i)).length = (rs.length - i) * 11 := by rw [valsR_len, List.length_drop]
  have ht_len : (valsR (rs.take i)).length = i * 11 := by rw [valsR_len, List.length_take, Nat.min_eq_left (by omega)]
  have hd1 : ∀ u ∈ valsR (rs.drop i), u.oneCell' = true := vals_one _
  have hcurl : cur.toList.length = c * 11 := by simpa using hcs
  have hdc : ∀ W : World, W.heap[g]? = w.heap[g]? → ∀ j u, (valsR (rs.drop i))[j]? = some u → W.cell? ((⟨g, i * 11, none⟩ : Addr).add j) = some u := by
    intro W hW j u hj
    have hlt : j < (rs.length - i) * 11 := by
      have := (List.getElem?_eq_some_iff.1 hj).1
      omega
    rw [Addr.add_lit]
    simp only [World.cell?]
    rw [hW, hg]
    have e : (valsR (rs.drop i))[j]? = (valsR rs)[i * 11 + j]? := by rw [← valsR_drop, List.getElem?_drop]
    have := hcur (i * 11 + j) (by omega)
    rw [← e, hj] at this
    simpa using this
  have hvw : vb < w.heap.size := (Array.getElem?_eq_some_iff.1 hv).1
  have hov : ∀ lb cb, (callFunc 66 #[.slice (some ⟨vb, 0, none⟩) 1 1, .slice (some ⟨g, (i + 1) * 11, none⟩) lb cb]).run Try.prog w = .ok (.value (.bool false)) w := fun lb cb => by
    rw [run_callFunc_extern Try.func66 (by kernel_rfl) (by kernel_rfl) (by kernel_rfl) (e := Extern.SlicesOverlaps.overlaps #[50, 50] #[4]) (by kernel_rfl),
      Lib.run_overlaps_apart w 50 4 42 Try.underlying50 11 Try.sizeOf42 ⟨vb, 0, none⟩ ⟨g, (i + 1) * 11, none⟩ 1 1 lb cb (fun e => hne e.symm) 42 42 11 (c * 11) (by simp only [World.shape?]; rw [hv]; rfl) (by simp only [World.shape?]; rw [hg]; simp [hcs]) (by omega) (by simp only [World.frozen?]; rw [hv]; rfl) (by simp only [World.frozen?]; rw [hv]; rfl)]
    rfl
  obtain ⟨R1, hR1⟩ : ∃ x, x = spl cur.toList ((i + 1) * 11) (valsR (rs.drop i)) := ⟨_, rfl⟩
  have hR1l : R1.length = c * 11 := by rw [hR1, spl_len _ _ _ (by omega)]; exact hcurl
  have hcA : ∀ ty dc sc, (Builtin.copy_ #[50, 50] ty #[.slice (some ⟨g, (i + 1) * 11, none⟩) (rs.length + 1 - (i + 1)) dc, .slice (some ⟨g, i * 11, none⟩) (rs.length + 1 - i) sc]).run Try.prog w.drew = .ok (goInt ((rs.length - i : Nat) : Int)) (w.drew.setRow g R1.toArray) := fun ty dc sc => by
    rw [hR1]
    exact run_copyk w.drew _ _ ty 42 i0 g ((i + 1) * 11) _ dc ⟨g, i * 11, none⟩ _ sc cur 42 (valsR (rs.drop i)) Try.underlying50 hi0 hg (rs.length - i) (by simp only [Nat.min_def]; split <;> omega) (by rw [hz1]; exact hd_len) (hdc w.drew rfl) (by rw [hd_len]; omega) hd1
  obtain ⟨R2, hR2⟩ : ∃ x, x = spl R1 (i * 11) r.vals := ⟨_, rfl⟩
  have hcB : ∀ (W : World), W.heap = (w.setRow g R1.toArray).heap → ∀ ty dc, (Builtin.copy_ #[50, 50] ty #[.slice (some ⟨g, i * 11, none⟩) (rs.length + 1 - i) dc, .slice (some ⟨vb, 0, none⟩) 1 1]).run Try.prog W = .ok (goInt 1) (W.setRow g R2.toArray) := fun W hW ty dc => by
    rw [hR2]
    exact run_copyk W _ _ ty 42 i0 g (i * 11) _ dc ⟨vb, 0, none⟩ 1 1 R1.toArray 42 r.vals Try.underlying50 hi0 (by rw [hW]; exact setRow_heap w _ cur _ _ _ hg) 1 (by simp only [Nat.min_def]; split <;> omega) (by rw [hz1]; rfl) (hvc W (by rw [hW]; exact setRow_other w g vb _ (fun e => hne e.symm))) (by rw [vals_len, List.size_toArray, hR1l]; omega) hv1
  have hB2 := hcB (w.setRow g R1.toArray).drew rfl
  have hB3 := hcB (w.drew.setRow g R1.toArray) rfl
  have EN : Hid (∀ e w', (e = .returned (.slice (some ⟨g, 0, none⟩) (rs.length + 1) c) ∧ w'.heap = ((w.setRow g R1.toArray).setRow g R2.toArray).heap ∧ w'.os = w.os ∧ w'.tape = w.tape ∧ w'.output = w.output) → Ins B (.slice (some ⟨g, 0, none⟩) rs.length c) (rs.take i ++ r :: rs.drop i) w e w') := by
    rintro e w' ⟨rfl, e2, e3, e4, e5⟩
    have hh : w'.heap[g]? = some (.cells R2.toArray 42 (0, 0)) := by
      rw [e2]
      exact setRow_heap _ _ R1.toArray _ _ _ (setRow_heap w _ cur _ _ _ hg)
    refine ⟨_, rfl, ?_, ⟨e3, e4, e5, ?_, fun k _ hk => ?_⟩, .inl rfl⟩
    · have ln : (rs.take i ++ r :: rs.drop i).length = rs.length + 1 := by simp; omega
      have key := RowC.of (w := w') (B := B) (g := g) (cap := c) (cur := R2.toArray) (rs := rs.take i ++ r :: rs.drop i) hh hgB (by omega) hcm (by rw [List.size_toArray, hR2, spl_len _ _ _ (by rw [vals_len]; omega)]; exact hR1l) (by
        intro j hj
        rw [ln] at hj
        rw [List.toList_toArray, ins_get rs r i j (by omega), hR2, spl_get _ _ _ (by rw [vals_len]; omega), hR1, spl_get _ _ _ (by omega), vals_len]
        by_cases h1 : j < i * 11
        · rw [if_pos h1, if_pos (by omega), if_pos h1, hcur j (by omega)]
        · by_cases h2 : j < i * 11 + 11
          · rw [if_neg h1, if_pos h2, if_neg h1, if_pos h2]
          · rw [if_neg h1, if_neg h2, if_neg (by omega), if_pos (by omega), if_neg h1, if_neg h2, ← valsR_drop, List.getElem?_drop]
            congr 1
            omega)
      rw [ln] at key
      exact key
    · rw [e2]
      simp [World.setRow]
    · have hkg : k ≠ g := fun e => hk (by rw [e]; rfl)
      rw [e2, setRow_other _ _ _ _ hkg, setRow_other _ _ _ _ hkg]
  have mixed : Try.prog.follows .mixedOrders = true := by kernel_rfl
  have hn2 : (rs.length : Int) ≤ 1000 := by omega
  have hz2' : ¬ ((i : Int) = (rs.length : Int)) := by omega
  have hz3 : ¬ ((c : Int) < (rs.length : Int) + 1) := by omega
  have hci : ¬ (c = i) := by omega
  have hci2 : ¬ (c = i + 1) := by omega
  have hin : i ≤ rs.length := by omega
  have hin2 : i ≤ rs.length + 1 := by omega
  have hic : i ≤ c := by omega
  have hw1 : IntKind.i64.wrap ((i : Int) + 1) = (i : Int) + 1 := by rw [IntKind.wrap_i64]; omega
  have hb1 : (0 : Int) ≤ (i : Int) + 1 := by omega
  have htn : ((i : Int) + 1).toNat = i + 1 := by omega
  have hwn : IntKind.i64.wrap ((rs.length : Int) + 1) = (rs.length : Int) + 1 := by rw [IntKind.wrap_i64]; omega
  have hbn : (0 : Int) ≤ (rs.length : Int) + 1 := by omega
  have hnn : ((rs.length : Int) + 1).toNat = rs.length + 1 := by omega
  have hb3 : (i : Int) ≤ (rs.length : Int) := by omega
  have hb3' : (i : Int) ≤ (rs.length : Int) + 1 := by omega
  have hb6 : (rs.length : Int) + 1 ≤ (c : Int) := by omega
  have hb4 : i + 1 ≤ c := by omega
  have hb5 : i + 1 ≤ rs.length + 1 := by omega
  have hc63 : c ≤ 9223372036854775807 := by omega
  refine Calls.mono ?_ EN.out
  clear hR1 hR2 hR1l hd_len ht_len hd1 hcurl hdc hcur hg hvc hv1 hv hi0 hz0 hz1 hz2 hR hnc hcm hcs EN mxl hcB
  generalize rs.length = n at *
  generalize R1.toArray = A1 at *
  generalize R2.toArray = A2 at *
  go_enter Try.func44, Try.ntmps44
  go_wp2_with (simp only [hov])
  go_region_law_o (refine step_copyk rfl _ _ 50 50 rfl (.slice (some ⟨g, (i + 1) * 11, none⟩) (n + 1 - (i + 1)) (c - (i + 1))) (.slice (some ⟨g, i * 11, none⟩) (n + 1 - i) (c - i)) (by simp [Act.eval, Act.put]) (by simp [Act.eval, Act.put]) (fun ty => hcA ty _ _) ?_)
  go_wp2
  go_ret
  exact ⟨rfl, rfl, rfl, rfl, rfl⟩
theorem insert_ (B : Nat) (v : Value) (rs : List Ru) (r : Ru) (i vb : Nat) (w : World) (hR : RowC w B v rs) (hl : rs.length ≤ 1000) (hi : i ≤ rs.length) (hB : B ≤ w.heap.size) (hv : w.heap[vb]? = some (.cells r.vals.toArray 42 (0, 0))) (hne : v.ownBlock ≠ some vb) :
    Calls Try.prog 44 #[v, .int .i64 (i : Nat), .slice (some ⟨vb, 0, none⟩) 1 1] w (Ins B v (rs.take i ++ r :: rs.drop i) w) := by
  rcases hR.kinds with ⟨rfl, rfl⟩ | ⟨g, c, rfl⟩
  · obtain rfl : i = 0 := by simpa using hi
    exact insert_nil B r vb w hB hv
  · have hg : ¬ g = vb := fun e => hne (by rw [e]; rfl)
    rcases Nat.lt_or_ge i rs.length with h1 | h1
    · rcases Nat.lt_or_ge c (rs.length + 1) with h2 | h2
      · exact insert_grow B rs r i vb w hl hB hv g c hR h1 hg h2
      · exact insert_shift B rs r i vb w hl hB hv g c hR h1 hg h2
    · obtain rfl : i = rs.length := by omega
      rw [List.take_length, List.drop_length]
      rcases Nat.lt_or_ge c (rs.length + 1) with h2 | h2
      · exact insert_endG B rs r vb w hl hB hv g c hR h2
      · exact insert_endR B rs r vb w hl hB hv g c hR h2
theorem zero_list : (.agg #[.int .i64 0, .int .u8 0, .int .u32 0, .int .i64 0, .int .u32 0, .int .i64 0, .int .u32 0, .int .u16 0, .int .u16 0, .int .u32 0, .int .u16 0] : Value).cells.toList = valsR [Ru.zero] := by rfl
set_option maxHeartbeats 4000000 in
set_option maxRecDepth 100000 in
theorem delete_ (B : Nat) (rs : List Ru) (i g c : Nat) (w : World) (hR : RowC w B (.slice (some ⟨g, 0, none⟩) rs.length c) rs) (hl : rs.length ≤ 1000) (hi : i < rs.length) :
    Calls Try.prog 46 #[.slice (some ⟨g, 0, none⟩) rs.length c, .int .i64 (i : Nat), .int .i64 ((i : Int) + 1)] w fun e w' => e = .returned (.slice (some ⟨g, 0, none⟩) (rs.length - 1) c) ∧ RowC w' B (.slice (some ⟨g, 0, none⟩) (rs.length - 1) c) (rs.take i ++ rs.drop (i + 1)) ∧ w.grownBy w' (some g) := by
  obtain ⟨i0, hi0, hz0, hz1, hz2⟩ := rule_info
  have mxl : maxLen = 9223372036854775807 := rfl
  obtain ⟨cur, _, hgB, hgw, hg, hnc, hcm, hcs, hcur⟩ := hR.get
  obtain ⟨m, hm⟩ : ∃ m, rs.length = i + 1 + m := ⟨rs.length - (i + 1), by omega⟩
  have hv_len := valsR_len rs
  have hd_len : (valsR (rs.drop (i + 1))).length = m * 11 := by rw [valsR_len, List.length_drop, hm]; congr 1; omega
  have hd1 : ∀ u ∈ valsR (rs.drop (i + 1)), u.oneCell' = true := vals_one _
  have hcurl : cur.toList.length = c * 11 := by simpa using hcs
  obtain ⟨A, hA, hsrc⟩ : ∃ A : Addr, (if c = i + 1 then some (⟨g, 0, none⟩ : Addr) else some ⟨g, (i + 1) * 11, none⟩) = some A ∧ ∀ j u, (valsR (rs.drop (i + 1)))[j]? = some u → w.drew.cell? (A.add j) = some u := by
    by_cases h : c = i + 1
    · refine ⟨⟨g, 0, none⟩, by simp [h], fun j u hj => ?_⟩
      have h0 : m = 0 := by omega
      have := (List.getElem?_eq_some_iff.1 hj).1
      rw [hd_len, h0] at this
      omega
    · refine ⟨⟨g, (i + 1) * 11, none⟩, by simp [h], fun j u hj => ?_⟩
      have hlt : j < m * 11 := by
        have := (List.getElem?_eq_some_iff.1 hj).1
        omega
      rw [Addr.add_lit, World.cell?_drew]
      simp only [World.cell?]
      rw [hg]
      have e : (valsR (rs.drop (i + 1)))[j]? = (valsR rs)[(i + 1) * 11 + j]? := by rw [← valsR_drop, List.getElem?_drop]
      have := hcur ((i + 1) * 11 + j) (by omega)
      rw [← e, hj] at this
      simpa using this
  obtain ⟨R1, hR1⟩ : ∃ x, x = spl cur.toList (i * 11) (valsR (rs.drop (i + 1))) := ⟨_, rfl⟩
  have hR1l : R1.length = c * 11 := by rw [hR1, spl_len _ _ _ (by omega)]; exact hcurl
  have hap : ∀ ty sc, (Builtin.append_ #[50, 50] ty #[.slice (some ⟨g, 0, none⟩) i c, .slice (some A) m sc]).run Try.prog w.drew = .ok (.slice (some ⟨g, 0, none⟩) (i + m) c) (w.drew.setRow g R1.toArray) := fun ty sc => by
    have := run_append_room (P := Try.prog) w.drew 50 ty 42 i0 Try.underlying50 hi0 g i c cur hg A m sc (valsR (rs.drop (i + 1))) (by rw [hz1]; exact hd_len) hsrc hd1 (by omega) (by rw [hz1, hd_len]; omega)
    rw [hz1] at this
    rw [hR1]
    exact this
  have hW1 : (w.drew.setRow g R1.toArray).heap[g]? = some (.cells R1.toArray 42 (0, 0)) := setRow_heap w.drew _ cur _ _ _ hg
  obtain ⟨R2, hR2⟩ : ∃ x, x = spl R1 ((i + m) * 11) (Builtin.zeroCells (.agg #[.int .i64 0, .int .u8 0, .int .u32 0, .int .i64 0, .int .u32 0, .int .i64 0, .int .u32 0, .int .u16 0, .int .u16 0, .int .u32 0, .int .u16 0] : Value).cells 1).toList := ⟨_, rfl⟩
  have zl : (Builtin.zeroCells (.agg #[.int .i64 0, .int .u8 0, .int .u32 0, .int .i64 0, .int .u32 0, .int .i64 0, .int .u32 0, .int .u16 0, .int .u16 0, .int .u32 0, .int .u16 0] : Value).cells 1).toList.length = 11 := by rw [Array.length_toList, size_zeroCells, zero_cells]
  have hR2l : R2.length = c * 11 := by rw [hR2, spl_len _ _ _ (by rw [zl]; omega)]; exact hR1l
  have hcl : ∀ (W : World), W.heap = (w.drew.setRow g R1.toArray).heap → ∀ ty n sc, n = 1 → (Builtin.clear_ #[50] ty #[.slice (some ⟨g, (i + m) * 11, none⟩) n sc]).run Try.prog W = .ok (.tuple #[]) (W.setRow g R2.toArray) := fun W hW ty n sc hn => by
    have := run_clear1 (P := Try.prog) W 50 42 ty (.agg #[.int .i64 0, .int .u8 0, .int .u32 0, .int .i64 0, .int .u32 0, .int .i64 0, .int .u32 0, .int .u16 0, .int .u16 0, .int .u32 0, .int .u16 0]) 11 Try.underlying50 Try.zeroValue42 (by omega) zero_cells (fun u hu => vals_one [Ru.zero] u (by rw [← zero_list]; exact hu)) g ((i + m) * 11) n sc hn R1.toArray 42 (by rw [hW]; exact hW1) (by rw [List.size_toArray, hR1l]; omega)
    rw [hR2]
    unfold spl
    rw [zl]
    exact this
  have EN : Hid (∀ (e : Ending) (w' : World), (e = .returned (.slice (some ⟨g, 0, none⟩) (i + m) c) ∧ w'.heap = ((w.setRow g R1.toArray).setRow g R2.toArray).heap ∧ w'.os = w.os ∧ w'.tape = w.tape ∧ w'.output = w.output) → (e = .returned (.slice (some ⟨g, 0, none⟩) (rs.length - 1) c) ∧ RowC w' B (.slice (some ⟨g, 0, none⟩) (rs.length - 1) c) (rs.take i ++ rs.drop (i + 1)) ∧ w.grownBy w' (some g))) := by
    rintro e w' ⟨rfl, e2, e3, e4, e5⟩
    have hh : w'.heap[g]? = some (.cells R2.toArray 42 (0, 0)) := by
      rw [e2]
      exact setRow_heap _ _ R1.toArray _ _ _ (setRow_heap w _ cur _ _ _ hg)
    refine ⟨by rw [hm]; congr 2; omega, ?_, ⟨e3, e4, e5, ?_, fun k _ hk => ?_⟩⟩
    · have ln : (rs.take i ++ rs.drop (i + 1)).length = rs.length - 1 := by simp; omega
      have key := RowC.of (w := w') (B := B) (g := g) (cap := c) (cur := R2.toArray) (rs := rs.take i ++ rs.drop (i + 1)) hh hgB (by omega) hcm (by rw [List.size_toArray]; exact hR2l) (by
        intro j hj
        rw [ln] at hj
        rw [List.toList_toArray, del_get rs i j hi, hR2, spl_get _ _ _ (by rw [zl]; omega), if_pos (by omega), hR1, spl_get _ _ _ (by omega)]
        by_cases h1 : j < i * 11
        · rw [if_pos h1, if_pos h1, hcur j (by omega)]
        · rw [if_neg h1, if_pos (by omega), if_neg h1, ← valsR_drop, List.getElem?_drop]
          congr 1
          omega)
      rw [ln] at key
      exact key
    · rw [e2]
      simp [World.setRow]
    · have hkg : k ≠ g := fun e => hk (by rw [e])
      rw [e2, setRow_other _ _ _ _ hkg, setRow_other _ _ _ _ hkg]
  have hcl1 := fun ty sc => hcl (w.drew.setRow g R1.toArray) rfl ty (i + 1 + m - (i + m)) sc (by omega)
  have hcl2 := fun ty sc => hcl (w.setRow g R1.toArray).drew rfl ty (i + 1 + m - (i + m)) sc (by omega)
  have mixed : Try.prog.follows .mixedOrders = true := by kernel_rfl
  have hw1 : IntKind.i64.wrap ((i : Int) + 1) = (i : Int) + 1 := by rw [IntKind.wrap_i64]; omega
  have htn : ((i : Int) + 1).toNat = i + 1 := by omega
  have hb1 : (0 : Int) ≤ (i : Int) + 1 := by omega
  have hq1 : ¬ ((i : Int) = (i : Int) + 1) := by omega
  have hq8 : (i : Int) + 1 ≤ (i : Int) + 1 + (m : Int) := by omega
  have hq9 : (i : Int) + (m : Int) ≤ (i : Int) + 1 + (m : Int) := by omega
  have hq2 : ¬ (c = i + m) := by omega
  have hq3 : i + 1 + m ≤ c := by omega
  have hq4 : ¬ (c = i) := by omega
  have hq5 : i + 1 ≤ c := by omega
  have hq6 : i ≤ c := by omega
  have hq7 : i + m ≤ c := by omega
  have hc63 : c ≤ 9223372036854775807 := by omega
  have hn2 : (i : Int) + 1 + (m : Int) ≤ 1000 := by omega
  refine Calls.mono ?_ EN.out
  clear EN hR1 hR2 hR1l hR2l hcl hd_len hd1 hcurl hsrc hcur hg hi0 hz0 hz1 hz2 hR hnc hcm hcs mxl hW1 zl hv_len hi hl
  rw [hm]
  clear hm
  generalize R1.toArray = A1 at *
  generalize R2.toArray = A2 at *
  go_enter Try.func46, Try.ntmps46
  go_wp2_with fail
  go_region_law_o (refine step_appendk rfl _ _ 50 50 rfl (.slice (some ⟨g, 0, none⟩) i c) (.slice (some A) m (c - (i + 1))) (by simp [Act.eval, Act.put]) (by simp [Act.eval, Act.put]) (fun ty => hap ty _) ?_)
  go_wp2
  go_ret
  exact ⟨rfl, rfl, rfl, rfl, rfl⟩
theorem RowC.at {w : World} {B : Nat} {a : Option Addr} {n cap : Nat} {rs : List Ru} (h : RowC w B (.slice a n cap) rs) : n = rs.length ∧ RulesAt w a rs := by
  rcases h.kinds with ⟨e, rfl⟩ | ⟨g, c, e⟩
  · simp only [Value.slice.injEq] at e
    obtain ⟨rfl, rfl, rfl⟩ := e
    exact ⟨rfl, .inl rfl⟩
  · simp only [Value.slice.injEq] at e
    obtain ⟨rfl, rfl, rfl⟩ := e
    obtain ⟨cur, hn, _, hlt, hg, _, _, hcs, hcur⟩ := h.get
    refine ⟨rfl, RulesAt.made hlt fun q u hq => ?_⟩
    have hl : q < rs.length * 11 := by
      have := (List.getElem?_eq_some_iff.1 hq).1
      rwa [valsR_len] at this
    have := hcur q hl
    rw [hq] at this
    simp only [World.cell?]
    rw [hg]
    simpa using this
theorem RowC.kept {w w' : World} {B : Nat} {v : Value} {rs : List Ru} (h : RowC w B v rs) (hs : w.heap.size ≤ w'.heap.size) (hb : ∀ g, v.ownBlock = some g → w'.heap[g]? = w.heap[g]?) : RowC w' B v rs := by
  obtain ⟨hl, h | ⟨g, cap, cur, rfl, hB, hg, hr⟩⟩ := h
  · exact ⟨hl, .inl h⟩
  · exact ⟨hl, .inr ⟨g, cap, cur, rfl, hB, (hb g rfl).trans hg, hr⟩⟩
theorem RowC.lt {w : World} {B : Nat} {v : Value} {rs : List Ru} (h : RowC w B v rs) (g : Nat) (hg : v.ownBlock = some g) : B ≤ g ∧ g < w.heap.size := World.ownsRow.lt h g hg
theorem RowC.on {w w' : World} {B : Nat} {v : Value} {rs : List Ru} (h : RowC w B v rs) (hb : Below w.heap.size w w') : RowC w' B v rs := h.kept hb.size fun g hg => hb.block g (h.lt g hg).2

set_option maxHeartbeats 1000000 in
set_option maxRecDepth 100000 in
theorem clone_ (B : Nat) (v : Value) (rs : List Ru) (w : World) (hR : RowC w B v rs) (hl : rs.length ≤ 1000) :
    Calls Try.prog 47 #[v] w fun e w' => ∃ v', e = .returned v' ∧ RowC w' w.heap.size v' rs ∧ Below w.heap.size w w' := by
  have qn : ∀ (w : World) (a : Option Addr) (n c n' c' : Nat), (binOp .eql 50 (.slice a n c) (.slice none n' c')).run Try.prog w = .ok (.bool a.isNone) w := fun w a n c n' c' => Lib.run_eql_slice_nil w _ _ a n c n' c' Try.underlying50
  rcases hR.kinds with ⟨rfl, rfl⟩ | ⟨g, c, rfl⟩
  · go_enter Try.func47, Try.ntmps47
    go_wp2
    go_ret
    exact ⟨_, rfl, World.ownsRow_nil _ _ _ _, Below.refl _ _⟩
  · obtain ⟨i0, hi0, hz0, hz1, hz2⟩ := rule_info
    have mxl : maxLen = 9223372036854775807 := rfl
    have hat := hR.at.2
    have hq : ∀ j u, (valsR rs)[j]? = some u → (w.alloc (.cells #[] 42)).cell? ((⟨g, 0, none⟩ : Addr).add j) = some u := by
      intro j u hj
      rw [Addr.add_lit, Nat.zero_add]
      exact Lib.cell?_alloc_some _ (hat.each j u hj)
    have hone := vals_one rs
    have hlen := valsR_len rs
    have HL := Lib.hid hl
    clear hat hR
    obtain ⟨n, hn⟩ : ∃ n, n = rs.length := ⟨_, rfl⟩
    rw [← hn] at hl hlen ⊢
    have HN := Lib.hid hn
    clear hn HL
    go_enter Try.func47, Try.ntmps47
    go_wp2_with (at_builtin; refine wpList_append_own _ rfl _ _ 50 rfl w.heap.size 42 i0 _ 11 64 Try.underlying50 hi0 hz0 hz1 hz2 rfl (by omega) _ _ _ rfl (World.ownsRow_made w #[] 0 (Nat.le_refl _) (Nat.zero_le _) (by simp)) ⟨g, 0, none⟩ n c (valsR rs) rfl hlen hq hone (by rw [Nat.zero_add, mxl]; omega) (by rw [Nat.zero_add]; omega) (by simp) ?_)
    intro v' w1 hown hgrow hnil
    go_wp2
    go_ret
    refine ⟨v', rfl, ?_, ?_⟩
    · show w1.ownsRow _ _ _ v' rs.length (valsR rs)
      rw [← HN.out]
      simpa using hown
    · exact ((Below.refl _ w).alloc (Nat.le_refl _) _).grown hgrow (by simp) (by intro k hk; simp [Value.ownBlock] at hk; omega)
/-- What a predicate tells of a table's rules, in whatever world is behind; it may make memory. -/
def Pred (g : Nat) (lb : Array Value) (p : Ru → Bool) (rs : List Ru) (w : World) : Prop := ∀ (W : World) (r : Ru), Below w.heap.size w W → r ∈ rs → Calls Try.prog g (#[.agg #[.int .i64 r.k, .int .u8 r.pr, .int .u32 (r.si : Int), .int .i64 r.sb, .int .u32 (r.di : Int), .int .i64 r.db, .int .u32 (r.ex : Int), .int .u16 r.fr, .int .u16 r.to, .int .u32 (r.ii : Int), .int .u16 r.ip]] ++ lb) W fun e w' => e = .returned (.bool (p r)) ∧ Below W.heap.size W w'
theorem Pred.on {g : Nat} {lb : Array Value} {p : Ru → Bool} {rs : List Ru} {w w' : World} (h : Pred g lb p rs w) (hb : Below w.heap.size w w') : Pred g lb p rs w' := fun W r hW hr => h W r (hb.trans (hW.mono hb.size)) hr
/-- The place of the first rule that fits. -/
def placeR (rs : List Ru) (p : Ru → Bool) : Int := if rs.any p = true then ((rs.findIdx p : Nat) : Int) else -1
theorem placeR_hit {rs : List Ru} {p : Ru → Bool} {i : Nat} (h : i < rs.length) (hn : ∀ j, j < i → p (rs.getD j Ru.zero) = false) (hf : p (rs.getD i Ru.zero) = true) : placeR rs p = (i : Int) ∧ hitRu rs p = true ∧ findRu rs p = rs.getD i Ru.zero := by
  have k := first_fit h rfl hn hf
  refine ⟨?_, k.2, k.1⟩
  have ha : rs.any p = true := k.2
  unfold placeR
  rw [if_pos ha]
  congr 1
  refine (List.findIdx_eq h).2 ⟨?_, fun j hj => ?_⟩
  · rw [List.getD_eq_getElem?_getD, List.getElem?_eq_getElem h] at hf
    simpa using hf
  · have := hn j hj
    rw [List.getD_eq_getElem?_getD, List.getElem?_eq_getElem (by omega)] at this
    simpa using this
theorem placeR_none {rs : List Ru} {p : Ru → Bool} (hn : ∀ j, j < rs.length → p (rs.getD j Ru.zero) = false) : placeR rs p = -1 ∧ hitRu rs p = false ∧ findRu rs p = Ru.zero := by
  have k := none_fits (Nat.le_refl _) hn
  refine ⟨?_, k.2, k.1⟩
  have ha : rs.any p = false := k.2
  unfold placeR
  rw [ha]
  rfl
set_option maxHeartbeats 4000000 in
set_option maxRecDepth 100000 in
theorem index_ (g : Nat) (lb : Array Value) (p : Ru → Bool) (a : Option Addr) (n cap : Nat) (rs : List Ru) (w : World) (eg : ∀ args w, (callFunc g args).run Try.prog w = .ok (.enter g args) w) (hn : n = rs.length) (hR : RulesAt w a rs) (hl : rs.length ≤ 1000) (hp : Pred g lb p rs w) :
    Calls Try.prog 64 #[.slice a n cap, .func (.func g) #[] lb] w fun e w' => e = .returned (.int .i64 (placeR rs p)) ∧ Below w.heap.size w w' := by
  subst hn
  have RZ := Lib.hid hR
  have HL := Lib.hid hl
  have HP := Lib.hid hp
  clear hR hl hp
  go_enter Try.func64, Try.ntmps64
  go_wp2
  go_loopw [5, 8] (fun s5 s8 wr => ∃ i : Nat, i ≤ rs.length ∧ s8 = .int .i64 (i : Int) ∧ Below w.heap.size w wr ∧ Hid (∀ j, j < i → p (rs.getD j Ru.zero) = false)) (fun _ s8 _ => rs.length - (intOf s8).toNat)
  case atStart => exact ⟨0, Nat.zero_le _, rfl, Below.refl _ _, fun j hj => by omega⟩
  case round =>
    obtain ⟨i, hi, rfl, bb, HF⟩ := hrel
    by_cases hlt : i < rs.length
    · have HI := Lib.hid hlt
      have e10 : decide ((i : Int) < (rs.length : Int)) = true := by simp; omega
      have e11 : decide (i < rs.length) = true := by simp; omega
      have e12 : (i : Int) < (rs.length : Int) := by omega
      have e13 : (i : Int) + 1 ≤ 100000 := by have := HL.out; omega
      obtain ⟨b, ha, hb, hc⟩ : ∃ b, a = some ⟨b, 0, none⟩ ∧ b < wr.heap.size ∧ _ := by
        rcases (RZ.out.on bb) with h | h
        · omega
        · exact h
      subst ha
      obtain ⟨c0, c1, c2, c3, c4, c5, c6, c7, c8, c9, c10⟩ := hc i hlt
      have hm : rs.getD i Ru.zero ∈ rs := by simp [List.getD, hlt]
      obtain ⟨r, hr⟩ : ∃ r, r = rs.getD i Ru.zero := ⟨_, rfl⟩
      rw [← hr] at c0 c1 c2 c3 c4 c5 c6 c7 c8 c9 c10 hm
      have hcall := HP.out wr r bb hm
      have HR := Lib.hid hr
      clear hr hc hi hlt hm
      cases hq : p r with
      | true =>
        rw [hq] at hcall
        have HV : Hid (placeR rs p = (i : Int)) := (placeR_hit HI.out HF.out (by rw [← HR.out]; exact hq)).1
        clear hq
        go_wp2_with (go_at_fn g; refine hcall.mono ?_; rintro e w' ⟨rfl, hb'⟩)
        go_ret
        exact ⟨by rw [HV.out]; rfl, bb.trans (hb'.mono bb.size)⟩
      | false =>
        rw [hq] at hcall
        have HQ := Lib.hid hq
        clear hq
        go_wp2_with (go_at_fn g; refine hcall.mono ?_; rintro e w' ⟨rfl, hb'⟩)
        have BN := bb.trans (hb'.mono bb.size)
        go_roundw
        case rel =>
          refine ⟨i + 1, HI.out, by go_num, BN, fun j hj => ?_⟩
          by_cases e : j = i
          · rw [e, ← HR.out]; exact HQ.out
          · exact HF.out j (by omega)
        case measure => have := HI.out; simp [intOf]; omega
    · have e10 : decide ((i : Int) < (rs.length : Int)) = false := by simp; omega
      have e11 : decide (i < rs.length) = false := by simp; omega
      have HV : Hid (placeR rs p = -1) := (placeR_none (fun j hj => HF.out j (by omega))).1
      go_wp2
      go_ret
      exact ⟨by rw [HV.out]; rfl, bb⟩
theorem least (P : Nat → Bool) : ∀ n, (∃ i, i < n ∧ P i = true ∧ ∀ j, j < i → P j = false) ∨ ∀ j, j < n → P j = false
  | 0 => .inr fun j hj => by omega
  | n + 1 => by
    rcases least P n with ⟨i, hi, h1, h2⟩ | h
    · exact .inl ⟨i, by omega, h1, h2⟩
    · cases hq : P n with
      | true => exact .inl ⟨n, by omega, hq, h⟩
      | false =>
        refine .inr fun j hj => ?_
        by_cases e : j = n
        · rw [e]; exact hq
        · exact h j (by omega)
set_option maxHeartbeats 4000000 in
set_option maxRecDepth 100000 in
theorem firstC_ (g : Nat) (lb : Array Value) (f : Ru → Bool) (t : Tm) (p cap : Nat) (a : Option Addr) (w : World) (eg : ∀ args w, (callFunc g args).run Try.prog w = .ok (.enter g args) w) (T0 : Box5 w p (.bool true) (.int .u32 (t.own : Int)) (.int .u32 (t.ip : Int)) (.int .i64 t.bits) (.slice a t.rs.length cap)) (R0 : RulesAt w a t.rs) (hl : t.rs.length ≤ 1000) (hp : Pred g lb f t.rs w) :
    Calls Try.prog 41 #[.pointer (some ⟨p, 0, none⟩), .func (.func g) #[] lb] w fun e w' => e = .returned (.tuple #[.agg #[.int .i64 (findRu t.rs f).k, .int .u8 (findRu t.rs f).pr, .int .u32 ((findRu t.rs f).si : Int), .int .i64 (findRu t.rs f).sb, .int .u32 ((findRu t.rs f).di : Int), .int .i64 (findRu t.rs f).db, .int .u32 ((findRu t.rs f).ex : Int), .int .u16 (findRu t.rs f).fr, .int .u16 (findRu t.rs f).to, .int .u32 ((findRu t.rs f).ii : Int), .int .u16 (findRu t.rs f).ip], .bool (hitRu t.rs f)]) ∧ Below w.heap.size w w' := by
  have RZ := Lib.hid R0
  have HP := Lib.hid hp
  have n := fun (u : World) (T : Box5 u p (.bool true) (.int .u32 (t.own : Int)) (.int .u32 (t.ip : Int)) (.int .i64 t.bits) (.slice a t.rs.length cap)) => none_ t p _ u T
  have c := fun (u : World) (R : RulesAt u a t.rs) (hP : Pred g lb f t.rs u) => index_ g lb f a t.rs.length cap t.rs u eg rfl R hl hP
  have HL := Lib.hid hl
  clear R0 hp eg hl
  generalize hG : t.rs = rs at *
  rcases least (fun i => f (rs.getD i Ru.zero)) rs.length with ⟨i, hi, h1, h2⟩ | h
  · have k := placeR_hit hi h2 h1
    have K := Lib.hid k
    rw [k.1] at c
    have e1 : ¬ ((i : Int) < 0) := by omega
    have e2 : (i : Int) < (rs.length : Int) := by omega
    have HI := Lib.hid hi
    clear k h1 h2
    go_enter Try.func41, Try.ntmps41
    have B1 := Below.refl w.heap.size w
    go_upto_region 1 with fail
    have T_2 := T0.past (o := (.cells #[.int .i64 0, .int .u8 0, .int .u32 0, .int .i64 0, .int .u32 0, .int .i64 0, .int .u32 0, .int .u16 0, .int .u16 0, .int .u32 0, .int .u16 0] 42))
    have Z_3 := Box11.make w (.int .i64 0) (.int .u8 0) (.int .u32 0) (.int .i64 0) (.int .u32 0) (.int .i64 0) (.int .u32 0) (.int .u16 0) (.int .u16 0) (.int .u32 0) (.int .u16 0) 42
    have B4 := B1.alloc B1.size (.cells #[.int .i64 0, .int .u8 0, .int .u32 0, .int .i64 0, .int .u32 0, .int .i64 0, .int .u32 0, .int .u16 0, .int .u16 0, .int .u32 0, .int .u16 0] 42)
    clear T0 B1
    have fzZ_5 : ∀ i, (w.alloc (.cells #[.int .i64 0, .int .u8 0, .int .u32 0, .int .i64 0, .int .u32 0, .int .i64 0, .int .u32 0, .int .u16 0, .int .u16 0, .int .u32 0, .int .u16 0] 42)).frozen? ⟨w.heap.size, i, none⟩ = false := by intro i; simp [go_sem]
    obtain ⟨u1, hu1⟩ : ∃ x_ : World, x_ = w.alloc (.cells #[.int .i64 0, .int .u8 0, .int .u32 0, .int .i64 0, .int .u32 0, .int .i64 0, .int .u32 0, .int .u16 0, .int .u16 0, .int .u32 0, .int .u16 0] 42) := ⟨_, rfl⟩
    rw [← hu1] at T_2 Z_3 fzZ_5 B4 ⊢
    clear hu1
    obtain ⟨_, t1_0, t1_1, t1_2, t1_3, t1_4⟩ := id T_2
    go_wp2_with fail
    refine (n _ T_2).mono ?_; rintro e w2 ⟨rfl, x2⟩
    have fzZ_6 : ∀ i, w2.frozen? ⟨w.heap.size, i, none⟩ = false := fun i => (x2.frozen (p := ⟨_, i, none⟩) Z_3.1).trans (fzZ_5 i)
    clear fzZ_5
    have T_7 := T_2.on x2
    have Z_8 := Z_3.on x2
    have B9 := B4.trans (x2.mono B4.size)
    clear t1_0 t1_1 t1_2 t1_3 t1_4 T_2 Z_3 B4 x2
    obtain ⟨_, t2_0, t2_1, t2_2, t2_3, t2_4⟩ := id T_7
    go_wp2_with fail
    refine (c _ (RZ.out.on B9) (HP.out.on B9)).mono ?_; rintro e w3 ⟨rfl, x3⟩
    have fzZ_10 : ∀ i, w3.frozen? ⟨w.heap.size, i, none⟩ = false := fun i => (x3.frozen (p := ⟨_, i, none⟩) Z_8.1).trans (fzZ_6 i)
    clear fzZ_6
    have T_11 := T_7.on x3
    have Z_12 := Z_8.on x3
    have B13 := B9.trans (x3.mono B9.size)
    clear t2_0 t2_1 t2_2 t2_3 t2_4 T_7 Z_8 B9 x3
    obtain ⟨b, ha, hb, hc⟩ : ∃ b, a = some ⟨b, 0, none⟩ ∧ b < w3.heap.size ∧ _ := by
      rcases (RZ.out.on B13) with h | h
      · omega
      · exact h
    subst ha
    obtain ⟨c0, c1, c2, c3, c4, c5, c6, c7, c8, c9, c10⟩ := hc i hi
    obtain ⟨r, hr⟩ : ∃ r, r = rs.getD i Ru.zero := ⟨_, rfl⟩
    rw [← hr] at c0 c1 c2 c3 c4 c5 c6 c7 c8 c9 c10
    have HR := Lib.hid hr
    clear hr hc
    obtain ⟨_, t3_0, t3_1, t3_2, t3_3, t3_4⟩ := id T_11
    obtain ⟨_, z4_0, z4_1, z4_2, z4_3, z4_4, z4_5, z4_6, z4_7, z4_8, z4_9, z4_10⟩ := id Z_12
    go_wp2
    refine box11_ (b := w.heap.size) Z_12.some B13 (Nat.le_refl _) fun X x0_ x1_ x2_ x3_ x4_ x5_ x6_ x7_ x8_ x9_ x10_ BX _ _ => ?_
    refine bodyPost_ret (v := .tuple #[.agg #[.int .i64 r.k, .int .u8 r.pr, .int .u32 (r.si : Int), .int .i64 r.sb, .int .u32 (r.di : Int), .int .i64 r.db, .int .u32 (r.ex : Int), .int .u16 r.fr, .int .u16 r.to, .int .u32 (r.ii : Int), .int .u16 r.ip], .bool true]) (by simp [results, Try.results41, go_sem, x0_, x1_, x2_, x3_, x4_, x5_, x6_, x7_, x8_, x9_, x10_]) rfl ?_
    rw [K.out.2.1, K.out.2.2, ← HR.out]
    exact ⟨rfl, BX⟩
  · have k := placeR_none h
    have K := Lib.hid k
    rw [k.1] at c
    have e1 : decide ((-1 : Int) < 0) = true := by decide
    clear k h
    go_enter Try.func41, Try.ntmps41
    have B1 := Below.refl w.heap.size w
    go_upto_region 1 with fail
    have T_2 := T0.past (o := (.cells #[.int .i64 0, .int .u8 0, .int .u32 0, .int .i64 0, .int .u32 0, .int .i64 0, .int .u32 0, .int .u16 0, .int .u16 0, .int .u32 0, .int .u16 0] 42))
    have Z_3 := Box11.make w (.int .i64 0) (.int .u8 0) (.int .u32 0) (.int .i64 0) (.int .u32 0) (.int .i64 0) (.int .u32 0) (.int .u16 0) (.int .u16 0) (.int .u32 0) (.int .u16 0) 42
    have B4 := B1.alloc B1.size (.cells #[.int .i64 0, .int .u8 0, .int .u32 0, .int .i64 0, .int .u32 0, .int .i64 0, .int .u32 0, .int .u16 0, .int .u16 0, .int .u32 0, .int .u16 0] 42)
    clear T0 B1
    have fzZ_5 : ∀ i, (w.alloc (.cells #[.int .i64 0, .int .u8 0, .int .u32 0, .int .i64 0, .int .u32 0, .int .i64 0, .int .u32 0, .int .u16 0, .int .u16 0, .int .u32 0, .int .u16 0] 42)).frozen? ⟨w.heap.size, i, none⟩ = false := by intro i; simp [go_sem]
    obtain ⟨u1, hu1⟩ : ∃ x_ : World, x_ = w.alloc (.cells #[.int .i64 0, .int .u8 0, .int .u32 0, .int .i64 0, .int .u32 0, .int .i64 0, .int .u32 0, .int .u16 0, .int .u16 0, .int .u32 0, .int .u16 0] 42) := ⟨_, rfl⟩
    rw [← hu1] at T_2 Z_3 fzZ_5 B4 ⊢
    clear hu1
    obtain ⟨_, t1_0, t1_1, t1_2, t1_3, t1_4⟩ := id T_2
    go_wp2_with fail
    refine (n _ T_2).mono ?_; rintro e w2 ⟨rfl, x2⟩
    have fzZ_6 : ∀ i, w2.frozen? ⟨w.heap.size, i, none⟩ = false := fun i => (x2.frozen (p := ⟨_, i, none⟩) Z_3.1).trans (fzZ_5 i)
    clear fzZ_5
    have T_7 := T_2.on x2
    have Z_8 := Z_3.on x2
    have B9 := B4.trans (x2.mono B4.size)
    clear t1_0 t1_1 t1_2 t1_3 t1_4 T_2 Z_3 B4 x2
    obtain ⟨_, t2_0, t2_1, t2_2, t2_3, t2_4⟩ := id T_7
    go_wp2_with fail
    refine (c _ (RZ.out.on B9) (HP.out.on B9)).mono ?_; rintro e w3 ⟨rfl, x3⟩
    have fzZ_10 : ∀ i, w3.frozen? ⟨w.heap.size, i, none⟩ = false := fun i => (x3.frozen (p := ⟨_, i, none⟩) Z_8.1).trans (fzZ_6 i)
    clear fzZ_6
    have T_11 := T_7.on x3
    have Z_12 := Z_8.on x3
    have B13 := B9.trans (x3.mono B9.size)
    clear t2_0 t2_1 t2_2 t2_3 t2_4 T_7 Z_8 B9 x3
    obtain ⟨_, t3_0, t3_1, t3_2, t3_3, t3_4⟩ := id T_11
    obtain ⟨_, z4_0, z4_1, z4_2, z4_3, z4_4, z4_5, z4_6, z4_7, z4_8, z4_9, z4_10⟩ := id Z_12
    go_wp2
    refine box11_ (b := w.heap.size) Z_12.some B13 (Nat.le_refl _) fun X x0_ x1_ x2_ x3_ x4_ x5_ x6_ x7_ x8_ x9_ x10_ BX _ _ => ?_
    refine bodyPost_ret (v := .tuple #[.agg #[.int .i64 0, .int .u8 0, .int .u32 0, .int .i64 0, .int .u32 0, .int .i64 0, .int .u32 0, .int .u16 0, .int .u16 0, .int .u32 0, .int .u16 0], .bool false]) (by simp [results, Try.results41, go_sem, x0_, x1_, x2_, x3_, x4_, x5_, x6_, x7_, x8_, x9_, x10_]) rfl ?_
    rw [K.out.2.1, K.out.2.2]
    exact ⟨rfl, BX⟩
/-- A box of one cell. -/
def Box1 (w : World) (b : Nat) (v0 : Value) : Prop := b < w.heap.size ∧ w.cell? ⟨b, 0, none⟩ = some v0
theorem Box1.on {w w' : World} {b : Nat} {v0 : Value} (h : Box1 w b v0) (hb : Below w.heap.size w w') : Box1 w' b v0 := ⟨Nat.lt_of_lt_of_le h.1 hb.size, (hb.cell (p := ⟨b, 0, none⟩) h.1).trans h.2⟩
theorem Box1.make (w : World) (v0 : Value) (t : TypeId) : Box1 (w.alloc (.cells #[v0] t)) w.heap.size v0 := ⟨by simp, by simp [go_sem]⟩
theorem Box1.past {w : World} {o : Obj} {b : Nat} {v0 : Value} (h : Box1 w b v0) : Box1 (w.alloc o) b v0 := h.on ((Below.refl _ _).alloc (Nat.le_refl _) _)
set_option maxHeartbeats 4000000 in
set_option maxRecDepth 100000 in
theorem staticP_ (pr ep : Int) (ea b1 b2 : Nat) (rs : List Ru) (w : World) (C0 : Box1 w b1 (.int .u8 pr)) (E0 : Box2 w b2 (.int .u32 (ea : Int)) (.int .u16 ep)) : Pred 54 #[.pointer (some ⟨b1, 0, none⟩), .pointer (some ⟨b2, 0, none⟩)] (fitS pr ea ep) rs w := by
  intro W r hb _
  have C1 := C0.on hb
  have E1 := E0.on hb
  show Calls Try.prog 54 #[.agg #[.int .i64 r.k, .int .u8 r.pr, .int .u32 (r.si : Int), .int .i64 r.sb, .int .u32 (r.di : Int), .int .i64 r.db, .int .u32 (r.ex : Int), .int .u16 r.fr, .int .u16 r.to, .int .u32 (r.ii : Int), .int .u16 r.ip], .pointer (some ⟨b1, 0, none⟩), .pointer (some ⟨b2, 0, none⟩)] W _
  clear C0 E0 hb
  have m1 := fun u => static_ r u
  have m2 := fun u => front_ r u
  obtain ⟨z1, p1, q1, l1⟩ := eqi_ r.k 3
  obtain ⟨z2, p2, q2, l2⟩ := eqi_ r.pr pr
  obtain ⟨z3, p3, q3, l3⟩ := eqn_ r.ex ea
  obtain ⟨z4, p4, q4, l4⟩ := eqi_ r.fr ep
  rw [l1] at m1
  have HV : Hid (fitS pr ea ep r = (z1 && z2 && z3 && z4)) := by show _ = _; unfold fitS; rw [l1, l2, l3, l4]
  clear l1 l2 l3 l4 p1 q1
  have key : (z1 = false) ∨ (z1 = true ∧ z2 = false) ∨ (z1 = true ∧ z2 = true ∧ z3 = false) ∨ (z1 = true ∧ z2 = true ∧ z3 = true ∧ z4 = false) ∨ (z1 = true ∧ z2 = true ∧ z3 = true ∧ z4 = true) := by cases z1 <;> cases z2 <;> cases z3 <;> cases z4 <;> simp
  rcases key with rfl | ⟨rfl, rfl⟩ | ⟨rfl, rfl, rfl⟩ | ⟨rfl, rfl, rfl, rfl⟩ | ⟨rfl, rfl, rfl, rfl⟩
  all_goals
    simp only [Bool.not_true, Bool.not_false, Bool.and_true, Bool.and_false, Bool.true_and, Bool.false_and, Bool.or_true, Bool.or_false, Bool.true_or, Bool.false_or] at HV
    go_enter Try.func54, Try.ntmps54
    have B21 := Below.refl W.heap.size W
    go_upto_region 1 with fail
    have C_22 := C1.past (o := (.cells #[.int .i64 r.k, .int .u8 r.pr, .int .u32 (r.si : Int), .int .i64 r.sb, .int .u32 (r.di : Int), .int .i64 r.db, .int .u32 (r.ex : Int), .int .u16 r.fr, .int .u16 r.to, .int .u32 (r.ii : Int), .int .u16 r.ip] 42))
    have E_23 := E1.past (o := (.cells #[.int .i64 r.k, .int .u8 r.pr, .int .u32 (r.si : Int), .int .i64 r.sb, .int .u32 (r.di : Int), .int .i64 r.db, .int .u32 (r.ex : Int), .int .u16 r.fr, .int .u16 r.to, .int .u32 (r.ii : Int), .int .u16 r.ip] 42))
    have R_24 := Box11.make W (.int .i64 r.k) (.int .u8 r.pr) (.int .u32 (r.si : Int)) (.int .i64 r.sb) (.int .u32 (r.di : Int)) (.int .i64 r.db) (.int .u32 (r.ex : Int)) (.int .u16 r.fr) (.int .u16 r.to) (.int .u32 (r.ii : Int)) (.int .u16 r.ip) 42
    have B25 := B21.alloc B21.size (.cells #[.int .i64 r.k, .int .u8 r.pr, .int .u32 (r.si : Int), .int .i64 r.sb, .int .u32 (r.di : Int), .int .i64 r.db, .int .u32 (r.ex : Int), .int .u16 r.fr, .int .u16 r.to, .int .u32 (r.ii : Int), .int .u16 r.ip] 42)
    clear C1 E1 B21
    obtain ⟨u1, hu1⟩ : ∃ x_ : World, x_ = W.alloc (.cells #[.int .i64 r.k, .int .u8 r.pr, .int .u32 (r.si : Int), .int .i64 r.sb, .int .u32 (r.di : Int), .int .i64 r.db, .int .u32 (r.ex : Int), .int .u16 r.fr, .int .u16 r.to, .int .u32 (r.ii : Int), .int .u16 r.ip] 42) := ⟨_, rfl⟩
    rw [← hu1] at C_22 E_23 R_24 B25 ⊢
    clear hu1
    obtain ⟨zr, gr0, gr1, gr2, gr3, gr4, gr5, gr6, gr7, gr8, gr9, gr10⟩ := id R_24
    have Fr0 : ∀ x : Later u1.heap.size u1, x.u.cell? ⟨W.heap.size, 0, none⟩ = some (.int .i64 r.k) := fun x => x.block zr gr0
    have Fr1 : ∀ x : Later u1.heap.size u1, x.u.cell? ⟨W.heap.size, 1, none⟩ = some (.int .u8 r.pr) := fun x => x.block zr gr1
    have Fr2 : ∀ x : Later u1.heap.size u1, x.u.cell? ⟨W.heap.size, 2, none⟩ = some (.int .u32 (r.si : Int)) := fun x => x.block zr gr2
    have Fr3 : ∀ x : Later u1.heap.size u1, x.u.cell? ⟨W.heap.size, 3, none⟩ = some (.int .i64 r.sb) := fun x => x.block zr gr3
    have Fr4 : ∀ x : Later u1.heap.size u1, x.u.cell? ⟨W.heap.size, 4, none⟩ = some (.int .u32 (r.di : Int)) := fun x => x.block zr gr4
    have Fr5 : ∀ x : Later u1.heap.size u1, x.u.cell? ⟨W.heap.size, 5, none⟩ = some (.int .i64 r.db) := fun x => x.block zr gr5
    have Fr6 : ∀ x : Later u1.heap.size u1, x.u.cell? ⟨W.heap.size, 6, none⟩ = some (.int .u32 (r.ex : Int)) := fun x => x.block zr gr6
    have Fr7 : ∀ x : Later u1.heap.size u1, x.u.cell? ⟨W.heap.size, 7, none⟩ = some (.int .u16 r.fr) := fun x => x.block zr gr7
    have Fr8 : ∀ x : Later u1.heap.size u1, x.u.cell? ⟨W.heap.size, 8, none⟩ = some (.int .u16 r.to) := fun x => x.block zr gr8
    have Fr9 : ∀ x : Later u1.heap.size u1, x.u.cell? ⟨W.heap.size, 9, none⟩ = some (.int .u32 (r.ii : Int)) := fun x => x.block zr gr9
    have Fr10 : ∀ x : Later u1.heap.size u1, x.u.cell? ⟨W.heap.size, 10, none⟩ = some (.int .u16 r.ip) := fun x => x.block zr gr10
    clear gr0 gr1 gr2 gr3 gr4 gr5 gr6 gr7 gr8 gr9 gr10
    obtain ⟨zc, gc0⟩ := id C_22
    have Fc0 : ∀ x : Later u1.heap.size u1, x.u.cell? ⟨b1, 0, none⟩ = some (.int .u8 pr) := fun x => x.block zc gc0
    clear gc0
    obtain ⟨ze, ge0, ge1⟩ := id E_23
    have Fe0 : ∀ x : Later u1.heap.size u1, x.u.cell? ⟨b2, 0, none⟩ = some (.int .u32 (ea : Int)) := fun x => x.block ze ge0
    have Fe1 : ∀ x : Later u1.heap.size u1, x.u.cell? ⟨b2, 1, none⟩ = some (.int .u16 ep) := fun x => x.block ze ge1
    clear ge0 ge1
    refine region_later (B := u1.heap.size) (by kernel_rfl) (by kernel_rfl) ?_
    repeat (go_big_quiet_step (first
      | (go_at_call 55; exact later_of _ (Nat.le_refl _) (m1 _))
      | (go_at_call 56; exact later_of _ (Nat.le_refl _) (m2 _))))
    refine later_end fun w2 x2 => ?_
    have C_26 := C_22.on x2
    have E_27 := E_23.on x2
    have R_28 := R_24.on x2
    have B29 := B25.trans (x2.mono B25.size)
    clear Fr0 Fr1 Fr2 Fr3 Fr4 Fr5 Fr6 Fr7 Fr8 Fr9 Fr10 zr Fc0 zc Fe0 Fe1 ze C_22 E_23 R_24 B25 x2
    go_wp2
    go_ret
    rw [HV.out]
    exact ⟨rfl, B29⟩
set_option maxHeartbeats 4000000 in
set_option maxRecDepth 100000 in
theorem ownP_ (pr ep : Int) (ea b1 b2 : Nat) (rs : List Ru) (w : World) (C0 : Box1 w b1 (.int .u8 pr)) (E0 : Box2 w b2 (.int .u32 (ea : Int)) (.int .u16 ep)) : Pred 57 #[.pointer (some ⟨b1, 0, none⟩), .pointer (some ⟨b2, 0, none⟩)] (fitO pr ea ep) rs w := by
  intro W r hb _
  have C1 := C0.on hb
  have E1 := E0.on hb
  show Calls Try.prog 57 #[.agg #[.int .i64 r.k, .int .u8 r.pr, .int .u32 (r.si : Int), .int .i64 r.sb, .int .u32 (r.di : Int), .int .i64 r.db, .int .u32 (r.ex : Int), .int .u16 r.fr, .int .u16 r.to, .int .u32 (r.ii : Int), .int .u16 r.ip], .pointer (some ⟨b1, 0, none⟩), .pointer (some ⟨b2, 0, none⟩)] W _
  clear C0 E0 hb
  have m1 := fun u => static_ r u
  have m2 := fun u => front_ r u
  obtain ⟨z1, p1, q1, l1⟩ := eqi_ r.k 3
  obtain ⟨z2, p2, q2, l2⟩ := eqi_ r.pr pr
  obtain ⟨z3, p3, q3, l3⟩ := eqn_ r.ii ea
  obtain ⟨z4, p4, q4, l4⟩ := eqi_ r.ip ep
  rw [l1] at m1
  have HV : Hid (fitO pr ea ep r = (z1 && z2 && (z3 && z4))) := by show _ = _; unfold fitO; rw [l1, l2, l3, l4]
  clear l1 l2 l3 l4 p1 q1
  have key : (z1 = false) ∨ (z1 = true ∧ z2 = false) ∨ (z1 = true ∧ z2 = true ∧ z3 = false) ∨ (z1 = true ∧ z2 = true ∧ z3 = true ∧ z4 = false) ∨ (z1 = true ∧ z2 = true ∧ z3 = true ∧ z4 = true) := by cases z1 <;> cases z2 <;> cases z3 <;> cases z4 <;> simp
  rcases key with rfl | ⟨rfl, rfl⟩ | ⟨rfl, rfl, rfl⟩ | ⟨rfl, rfl, rfl, rfl⟩ | ⟨rfl, rfl, rfl, rfl⟩
  all_goals
    simp only [Bool.not_true, Bool.not_false, Bool.and_true, Bool.and_false, Bool.true_and, Bool.false_and, Bool.or_true, Bool.or_false, Bool.true_or, Bool.false_or] at HV
    go_enter Try.func57, Try.ntmps57
    have B21 := Below.refl W.heap.size W
    go_upto_region 1 with fail
    have C_22 := C1.past (o := (.cells #[.int .i64 r.k, .int .u8 r.pr, .int .u32 (r.si : Int), .int .i64 r.sb, .int .u32 (r.di : Int), .int .i64 r.db, .int .u32 (r.ex : Int), .int .u16 r.fr, .int .u16 r.to, .int .u32 (r.ii : Int), .int .u16 r.ip] 42))
    have E_23 := E1.past (o := (.cells #[.int .i64 r.k, .int .u8 r.pr, .int .u32 (r.si : Int), .int .i64 r.sb, .int .u32 (r.di : Int), .int .i64 r.db, .int .u32 (r.ex : Int), .int .u16 r.fr, .int .u16 r.to, .int .u32 (r.ii : Int), .int .u16 r.ip] 42))
    have R_24 := Box11.make W (.int .i64 r.k) (.int .u8 r.pr) (.int .u32 (r.si : Int)) (.int .i64 r.sb) (.int .u32 (r.di : Int)) (.int .i64 r.db) (.int .u32 (r.ex : Int)) (.int .u16 r.fr) (.int .u16 r.to) (.int .u32 (r.ii : Int)) (.int .u16 r.ip) 42
    have B25 := B21.alloc B21.size (.cells #[.int .i64 r.k, .int .u8 r.pr, .int .u32 (r.si : Int), .int .i64 r.sb, .int .u32 (r.di : Int), .int .i64 r.db, .int .u32 (r.ex : Int), .int .u16 r.fr, .int .u16 r.to, .int .u32 (r.ii : Int), .int .u16 r.ip] 42)
    clear C1 E1 B21
    obtain ⟨u1, hu1⟩ : ∃ x_ : World, x_ = W.alloc (.cells #[.int .i64 r.k, .int .u8 r.pr, .int .u32 (r.si : Int), .int .i64 r.sb, .int .u32 (r.di : Int), .int .i64 r.db, .int .u32 (r.ex : Int), .int .u16 r.fr, .int .u16 r.to, .int .u32 (r.ii : Int), .int .u16 r.ip] 42) := ⟨_, rfl⟩
    rw [← hu1] at C_22 E_23 R_24 B25 ⊢
    clear hu1
    obtain ⟨_, c1_0⟩ := id C_22
    obtain ⟨_, e2_0, e2_1⟩ := id E_23
    obtain ⟨_, r3_0, r3_1, r3_2, r3_3, r3_4, r3_5, r3_6, r3_7, r3_8, r3_9, r3_10⟩ := id R_24
    go_wp2_with fail
    refine (m1 _).mono ?_; rintro e w2 ⟨rfl, x2⟩
    have C_26 := C_22.on x2
    have E_27 := E_23.on x2
    have R_28 := R_24.on x2
    have B29 := B25.trans (x2.mono B25.size)
    clear c1_0 e2_0 e2_1 r3_0 r3_1 r3_2 r3_3 r3_4 r3_5 r3_6 r3_7 r3_8 r3_9 r3_10 C_22 E_23 R_24 B25 x2
    obtain ⟨_, c4_0⟩ := id C_26
    obtain ⟨_, e5_0, e5_1⟩ := id E_27
    obtain ⟨_, r6_0, r6_1, r6_2, r6_3, r6_4, r6_5, r6_6, r6_7, r6_8, r6_9, r6_10⟩ := id R_28
    go_wp2
    go_ret
    rw [HV.out]
    exact ⟨rfl, B29⟩
set_option maxHeartbeats 4000000 in
set_option maxRecDepth 100000 in
theorem sourceP_ (pr sp dp : Int) (sa da b1 : Nat) (rs : List Ru) (w : World) (X0 : Box5 w b1 (.int .u8 pr) (.int .u32 (sa : Int)) (.int .u16 sp) (.int .u32 (da : Int)) (.int .u16 dp)) (s1 : sa < 4294967296) (d1 : da < 4294967296) (hall : ∀ r ∈ rs, r.Ok) : Pred 58 #[.pointer (some ⟨b1, 0, none⟩)] (fitF pr sa da) rs w := by
  intro W r hb hm
  have ok := hall r hm
  have X1 := X0.on hb
  show Calls Try.prog 58 #[.agg #[.int .i64 r.k, .int .u8 r.pr, .int .u32 (r.si : Int), .int .i64 r.sb, .int .u32 (r.di : Int), .int .i64 r.db, .int .u32 (r.ex : Int), .int .u16 r.fr, .int .u16 r.to, .int .u32 (r.ii : Int), .int .u16 r.ip], .pointer (some ⟨b1, 0, none⟩)] W _
  clear X0 hb
  have m1 := fun u => static_ r u
  have m2 := fun u => isFor_ r pr u
  have m3 := fun u => has_ r.si r.sb sa u ok.si1 s1 ⟨ok.sb0, ok.sb1⟩
  have m4 := fun u => has_ r.di r.db da u ok.di1 d1 ⟨ok.db0, ok.db1⟩
  obtain ⟨z1, l1⟩ : ∃ x : Bool, decide (r.k = 3) = x := ⟨_, rfl⟩
  obtain ⟨z2, l2⟩ : ∃ x : Bool, (decide (r.pr = 0) || decide (r.pr = pr)) = x := ⟨_, rfl⟩
  obtain ⟨v1, hv1⟩ : ∃ v, hasV r.si r.sb sa = v := ⟨_, rfl⟩
  obtain ⟨v2, hv2⟩ : ∃ v, hasV r.di r.db da = v := ⟨_, rfl⟩
  rw [l1] at m1
  rw [l2] at m2
  rw [hv1] at m3
  rw [hv2] at m4
  have HV : Hid (fitF pr sa da r = (!z1 && z2 && v1 && v2)) := by show _ = _; unfold fitF; rw [l1, l2, hv1, hv2]
  clear l1 l2 hv1 hv2 ok hm hall
  have key : z1 = true ∨ (z1 = false ∧ z2 = false) ∨ (z1 = false ∧ z2 = true ∧ v1 = false) ∨ (z1 = false ∧ z2 = true ∧ v1 = true) := by cases z1 <;> cases z2 <;> cases v1 <;> simp
  rcases key with rfl | ⟨rfl, rfl⟩ | ⟨rfl, rfl, rfl⟩ | ⟨rfl, rfl, rfl⟩
  · simp only [Bool.not_true, Bool.not_false, Bool.and_true, Bool.and_false, Bool.true_and, Bool.false_and, Bool.or_true, Bool.or_false, Bool.true_or, Bool.false_or] at HV
    go_enter Try.func58, Try.ntmps58
    have B21 := Below.refl W.heap.size W
    go_upto_region 1 with fail
    have X_22 := X1.past (o := (.cells #[.int .i64 r.k, .int .u8 r.pr, .int .u32 (r.si : Int), .int .i64 r.sb, .int .u32 (r.di : Int), .int .i64 r.db, .int .u32 (r.ex : Int), .int .u16 r.fr, .int .u16 r.to, .int .u32 (r.ii : Int), .int .u16 r.ip] 42))
    have R_23 := Box11.make W (.int .i64 r.k) (.int .u8 r.pr) (.int .u32 (r.si : Int)) (.int .i64 r.sb) (.int .u32 (r.di : Int)) (.int .i64 r.db) (.int .u32 (r.ex : Int)) (.int .u16 r.fr) (.int .u16 r.to) (.int .u32 (r.ii : Int)) (.int .u16 r.ip) 42
    have B24 := B21.alloc B21.size (.cells #[.int .i64 r.k, .int .u8 r.pr, .int .u32 (r.si : Int), .int .i64 r.sb, .int .u32 (r.di : Int), .int .i64 r.db, .int .u32 (r.ex : Int), .int .u16 r.fr, .int .u16 r.to, .int .u32 (r.ii : Int), .int .u16 r.ip] 42)
    clear X1 B21
    obtain ⟨u1, hu1⟩ : ∃ x_ : World, x_ = W.alloc (.cells #[.int .i64 r.k, .int .u8 r.pr, .int .u32 (r.si : Int), .int .i64 r.sb, .int .u32 (r.di : Int), .int .i64 r.db, .int .u32 (r.ex : Int), .int .u16 r.fr, .int .u16 r.to, .int .u32 (r.ii : Int), .int .u16 r.ip] 42) := ⟨_, rfl⟩
    rw [← hu1] at X_22 R_23 B24 ⊢
    clear hu1
    obtain ⟨_, x1_0, x1_1, x1_2, x1_3, x1_4⟩ := id X_22
    obtain ⟨_, r2_0, r2_1, r2_2, r2_3, r2_4, r2_5, r2_6, r2_7, r2_8, r2_9, r2_10⟩ := id R_23
    go_wp2_with fail
    refine (m1 _).mono ?_; rintro e w2 ⟨rfl, x2⟩
    have X_25 := X_22.on x2
    have R_26 := R_23.on x2
    have B27 := B24.trans (x2.mono B24.size)
    clear x1_0 x1_1 x1_2 x1_3 x1_4 r2_0 r2_1 r2_2 r2_3 r2_4 r2_5 r2_6 r2_7 r2_8 r2_9 r2_10 X_22 R_23 B24 x2
    obtain ⟨_, x3_0, x3_1, x3_2, x3_3, x3_4⟩ := id X_25
    obtain ⟨_, r4_0, r4_1, r4_2, r4_3, r4_4, r4_5, r4_6, r4_7, r4_8, r4_9, r4_10⟩ := id R_26
    go_wp2
    go_ret
    rw [HV.out]
    exact ⟨rfl, B27⟩
  · simp only [Bool.not_true, Bool.not_false, Bool.and_true, Bool.and_false, Bool.true_and, Bool.false_and, Bool.or_true, Bool.or_false, Bool.true_or, Bool.false_or] at HV
    go_enter Try.func58, Try.ntmps58
    have B21 := Below.refl W.heap.size W
    go_upto_region 1 with fail
    have X_22 := X1.past (o := (.cells #[.int .i64 r.k, .int .u8 r.pr, .int .u32 (r.si : Int), .int .i64 r.sb, .int .u32 (r.di : Int), .int .i64 r.db, .int .u32 (r.ex : Int), .int .u16 r.fr, .int .u16 r.to, .int .u32 (r.ii : Int), .int .u16 r.ip] 42))
    have R_23 := Box11.make W (.int .i64 r.k) (.int .u8 r.pr) (.int .u32 (r.si : Int)) (.int .i64 r.sb) (.int .u32 (r.di : Int)) (.int .i64 r.db) (.int .u32 (r.ex : Int)) (.int .u16 r.fr) (.int .u16 r.to) (.int .u32 (r.ii : Int)) (.int .u16 r.ip) 42
    have B24 := B21.alloc B21.size (.cells #[.int .i64 r.k, .int .u8 r.pr, .int .u32 (r.si : Int), .int .i64 r.sb, .int .u32 (r.di : Int), .int .i64 r.db, .int .u32 (r.ex : Int), .int .u16 r.fr, .int .u16 r.to, .int .u32 (r.ii : Int), .int .u16 r.ip] 42)
    clear X1 B21
    obtain ⟨u1, hu1⟩ : ∃ x_ : World, x_ = W.alloc (.cells #[.int .i64 r.k, .int .u8 r.pr, .int .u32 (r.si : Int), .int .i64 r.sb, .int .u32 (r.di : Int), .int .i64 r.db, .int .u32 (r.ex : Int), .int .u16 r.fr, .int .u16 r.to, .int .u32 (r.ii : Int), .int .u16 r.ip] 42) := ⟨_, rfl⟩
    rw [← hu1] at X_22 R_23 B24 ⊢
    clear hu1
    obtain ⟨_, x1_0, x1_1, x1_2, x1_3, x1_4⟩ := id X_22
    obtain ⟨_, r2_0, r2_1, r2_2, r2_3, r2_4, r2_5, r2_6, r2_7, r2_8, r2_9, r2_10⟩ := id R_23
    go_wp2_with fail
    refine (m1 _).mono ?_; rintro e w2 ⟨rfl, x2⟩
    have X_25 := X_22.on x2
    have R_26 := R_23.on x2
    have B27 := B24.trans (x2.mono B24.size)
    clear x1_0 x1_1 x1_2 x1_3 x1_4 r2_0 r2_1 r2_2 r2_3 r2_4 r2_5 r2_6 r2_7 r2_8 r2_9 r2_10 X_22 R_23 B24 x2
    obtain ⟨_, x3_0, x3_1, x3_2, x3_3, x3_4⟩ := id X_25
    obtain ⟨_, r4_0, r4_1, r4_2, r4_3, r4_4, r4_5, r4_6, r4_7, r4_8, r4_9, r4_10⟩ := id R_26
    go_wp2_with fail
    refine (m2 _).mono ?_; rintro e w3 ⟨rfl, x3⟩
    have X_28 := X_25.on x3
    have R_29 := R_26.on x3
    have B30 := B27.trans (x3.mono B27.size)
    clear x3_0 x3_1 x3_2 x3_3 x3_4 r4_0 r4_1 r4_2 r4_3 r4_4 r4_5 r4_6 r4_7 r4_8 r4_9 r4_10 X_25 R_26 B27 x3
    obtain ⟨_, x5_0, x5_1, x5_2, x5_3, x5_4⟩ := id X_28
    obtain ⟨_, r6_0, r6_1, r6_2, r6_3, r6_4, r6_5, r6_6, r6_7, r6_8, r6_9, r6_10⟩ := id R_29
    go_wp2
    go_ret
    rw [HV.out]
    exact ⟨rfl, B30⟩
  · simp only [Bool.not_true, Bool.not_false, Bool.and_true, Bool.and_false, Bool.true_and, Bool.false_and, Bool.or_true, Bool.or_false, Bool.true_or, Bool.false_or] at HV
    go_enter Try.func58, Try.ntmps58
    have B21 := Below.refl W.heap.size W
    go_upto_region 1 with fail
    have X_22 := X1.past (o := (.cells #[.int .i64 r.k, .int .u8 r.pr, .int .u32 (r.si : Int), .int .i64 r.sb, .int .u32 (r.di : Int), .int .i64 r.db, .int .u32 (r.ex : Int), .int .u16 r.fr, .int .u16 r.to, .int .u32 (r.ii : Int), .int .u16 r.ip] 42))
    have R_23 := Box11.make W (.int .i64 r.k) (.int .u8 r.pr) (.int .u32 (r.si : Int)) (.int .i64 r.sb) (.int .u32 (r.di : Int)) (.int .i64 r.db) (.int .u32 (r.ex : Int)) (.int .u16 r.fr) (.int .u16 r.to) (.int .u32 (r.ii : Int)) (.int .u16 r.ip) 42
    have B24 := B21.alloc B21.size (.cells #[.int .i64 r.k, .int .u8 r.pr, .int .u32 (r.si : Int), .int .i64 r.sb, .int .u32 (r.di : Int), .int .i64 r.db, .int .u32 (r.ex : Int), .int .u16 r.fr, .int .u16 r.to, .int .u32 (r.ii : Int), .int .u16 r.ip] 42)
    clear X1 B21
    obtain ⟨u1, hu1⟩ : ∃ x_ : World, x_ = W.alloc (.cells #[.int .i64 r.k, .int .u8 r.pr, .int .u32 (r.si : Int), .int .i64 r.sb, .int .u32 (r.di : Int), .int .i64 r.db, .int .u32 (r.ex : Int), .int .u16 r.fr, .int .u16 r.to, .int .u32 (r.ii : Int), .int .u16 r.ip] 42) := ⟨_, rfl⟩
    rw [← hu1] at X_22 R_23 B24 ⊢
    clear hu1
    obtain ⟨_, x1_0, x1_1, x1_2, x1_3, x1_4⟩ := id X_22
    obtain ⟨_, r2_0, r2_1, r2_2, r2_3, r2_4, r2_5, r2_6, r2_7, r2_8, r2_9, r2_10⟩ := id R_23
    go_wp2_with fail
    refine (m1 _).mono ?_; rintro e w2 ⟨rfl, x2⟩
    have X_25 := X_22.on x2
    have R_26 := R_23.on x2
    have B27 := B24.trans (x2.mono B24.size)
    clear x1_0 x1_1 x1_2 x1_3 x1_4 r2_0 r2_1 r2_2 r2_3 r2_4 r2_5 r2_6 r2_7 r2_8 r2_9 r2_10 X_22 R_23 B24 x2
    obtain ⟨_, x3_0, x3_1, x3_2, x3_3, x3_4⟩ := id X_25
    obtain ⟨_, r4_0, r4_1, r4_2, r4_3, r4_4, r4_5, r4_6, r4_7, r4_8, r4_9, r4_10⟩ := id R_26
    go_wp2_with fail
    refine (m2 _).mono ?_; rintro e w3 ⟨rfl, x3⟩
    have X_28 := X_25.on x3
    have R_29 := R_26.on x3
    have B30 := B27.trans (x3.mono B27.size)
    clear x3_0 x3_1 x3_2 x3_3 x3_4 r4_0 r4_1 r4_2 r4_3 r4_4 r4_5 r4_6 r4_7 r4_8 r4_9 r4_10 X_25 R_26 B27 x3
    obtain ⟨_, x5_0, x5_1, x5_2, x5_3, x5_4⟩ := id X_28
    obtain ⟨_, r6_0, r6_1, r6_2, r6_3, r6_4, r6_5, r6_6, r6_7, r6_8, r6_9, r6_10⟩ := id R_29
    go_wp2_with fail
    refine (m3 _).mono ?_; rintro e w4 ⟨rfl, x4⟩
    have X_31 := X_28.on x4
    have R_32 := R_29.on x4
    have B33 := B30.trans (x4.mono B30.size)
    clear x5_0 x5_1 x5_2 x5_3 x5_4 r6_0 r6_1 r6_2 r6_3 r6_4 r6_5 r6_6 r6_7 r6_8 r6_9 r6_10 X_28 R_29 B30 x4
    obtain ⟨_, x7_0, x7_1, x7_2, x7_3, x7_4⟩ := id X_31
    obtain ⟨_, r8_0, r8_1, r8_2, r8_3, r8_4, r8_5, r8_6, r8_7, r8_8, r8_9, r8_10⟩ := id R_32
    go_wp2
    go_ret
    rw [HV.out]
    exact ⟨rfl, B33⟩
  · simp only [Bool.not_true, Bool.not_false, Bool.and_true, Bool.and_false, Bool.true_and, Bool.false_and, Bool.or_true, Bool.or_false, Bool.true_or, Bool.false_or] at HV
    go_enter Try.func58, Try.ntmps58
    have B21 := Below.refl W.heap.size W
    go_upto_region 1 with fail
    have X_22 := X1.past (o := (.cells #[.int .i64 r.k, .int .u8 r.pr, .int .u32 (r.si : Int), .int .i64 r.sb, .int .u32 (r.di : Int), .int .i64 r.db, .int .u32 (r.ex : Int), .int .u16 r.fr, .int .u16 r.to, .int .u32 (r.ii : Int), .int .u16 r.ip] 42))
    have R_23 := Box11.make W (.int .i64 r.k) (.int .u8 r.pr) (.int .u32 (r.si : Int)) (.int .i64 r.sb) (.int .u32 (r.di : Int)) (.int .i64 r.db) (.int .u32 (r.ex : Int)) (.int .u16 r.fr) (.int .u16 r.to) (.int .u32 (r.ii : Int)) (.int .u16 r.ip) 42
    have B24 := B21.alloc B21.size (.cells #[.int .i64 r.k, .int .u8 r.pr, .int .u32 (r.si : Int), .int .i64 r.sb, .int .u32 (r.di : Int), .int .i64 r.db, .int .u32 (r.ex : Int), .int .u16 r.fr, .int .u16 r.to, .int .u32 (r.ii : Int), .int .u16 r.ip] 42)
    clear X1 B21
    obtain ⟨u1, hu1⟩ : ∃ x_ : World, x_ = W.alloc (.cells #[.int .i64 r.k, .int .u8 r.pr, .int .u32 (r.si : Int), .int .i64 r.sb, .int .u32 (r.di : Int), .int .i64 r.db, .int .u32 (r.ex : Int), .int .u16 r.fr, .int .u16 r.to, .int .u32 (r.ii : Int), .int .u16 r.ip] 42) := ⟨_, rfl⟩
    rw [← hu1] at X_22 R_23 B24 ⊢
    clear hu1
    obtain ⟨_, x1_0, x1_1, x1_2, x1_3, x1_4⟩ := id X_22
    obtain ⟨_, r2_0, r2_1, r2_2, r2_3, r2_4, r2_5, r2_6, r2_7, r2_8, r2_9, r2_10⟩ := id R_23
    go_wp2_with fail
    refine (m1 _).mono ?_; rintro e w2 ⟨rfl, x2⟩
    have X_25 := X_22.on x2
    have R_26 := R_23.on x2
    have B27 := B24.trans (x2.mono B24.size)
    clear x1_0 x1_1 x1_2 x1_3 x1_4 r2_0 r2_1 r2_2 r2_3 r2_4 r2_5 r2_6 r2_7 r2_8 r2_9 r2_10 X_22 R_23 B24 x2
    obtain ⟨_, x3_0, x3_1, x3_2, x3_3, x3_4⟩ := id X_25
    obtain ⟨_, r4_0, r4_1, r4_2, r4_3, r4_4, r4_5, r4_6, r4_7, r4_8, r4_9, r4_10⟩ := id R_26
    go_wp2_with fail
    refine (m2 _).mono ?_; rintro e w3 ⟨rfl, x3⟩
    have X_28 := X_25.on x3
    have R_29 := R_26.on x3
    have B30 := B27.trans (x3.mono B27.size)
    clear x3_0 x3_1 x3_2 x3_3 x3_4 r4_0 r4_1 r4_2 r4_3 r4_4 r4_5 r4_6 r4_7 r4_8 r4_9 r4_10 X_25 R_26 B27 x3
    obtain ⟨_, x5_0, x5_1, x5_2, x5_3, x5_4⟩ := id X_28
    obtain ⟨_, r6_0, r6_1, r6_2, r6_3, r6_4, r6_5, r6_6, r6_7, r6_8, r6_9, r6_10⟩ := id R_29
    go_wp2_with fail
    refine (m3 _).mono ?_; rintro e w4 ⟨rfl, x4⟩
    have X_31 := X_28.on x4
    have R_32 := R_29.on x4
    have B33 := B30.trans (x4.mono B30.size)
    clear x5_0 x5_1 x5_2 x5_3 x5_4 r6_0 r6_1 r6_2 r6_3 r6_4 r6_5 r6_6 r6_7 r6_8 r6_9 r6_10 X_28 R_29 B30 x4
    obtain ⟨_, x7_0, x7_1, x7_2, x7_3, x7_4⟩ := id X_31
    obtain ⟨_, r8_0, r8_1, r8_2, r8_3, r8_4, r8_5, r8_6, r8_7, r8_8, r8_9, r8_10⟩ := id R_32
    go_wp2_with fail
    refine (m4 _).mono ?_; rintro e w5 ⟨rfl, x5⟩
    have X_34 := X_31.on x5
    have R_35 := R_32.on x5
    have B36 := B33.trans (x5.mono B33.size)
    clear x7_0 x7_1 x7_2 x7_3 x7_4 r8_0 r8_1 r8_2 r8_3 r8_4 r8_5 r8_6 r8_7 r8_8 r8_9 r8_10 X_31 R_32 B33 x5
    obtain ⟨_, x9_0, x9_1, x9_2, x9_3, x9_4⟩ := id X_34
    obtain ⟨_, r10_0, r10_1, r10_2, r10_3, r10_4, r10_5, r10_6, r10_7, r10_8, r10_9, r10_10⟩ := id R_35
    go_wp2
    go_ret
    rw [HV.out]
    exact ⟨rfl, B36⟩
set_option maxHeartbeats 4000000 in
set_option maxRecDepth 100000 in
theorem outerP_ (t : Tm) (ad p b1 b2 : Nat) (S : Value) (rs : List Ru) (w : World) (T0 : Box5 w p (.bool true) (.int .u32 (t.own : Int)) (.int .u32 (t.ip : Int)) (.int .i64 t.bits) S) (C0 : Box1 w b1 (.pointer (some ⟨p, 0, none⟩))) (A0 : Box1 w b2 (.int .u32 (ad : Int))) : Pred 51 #[.pointer (some ⟨b1, 0, none⟩), .pointer (some ⟨b2, 0, none⟩)] (fun r => decide (extRu t r = ad)) rs w := by
  intro W r hb _
  have C1 := C0.on hb
  have A1 := A0.on hb
  have T1 := T0.on hb
  show Calls Try.prog 51 #[.agg #[.int .i64 r.k, .int .u8 r.pr, .int .u32 (r.si : Int), .int .i64 r.sb, .int .u32 (r.di : Int), .int .i64 r.db, .int .u32 (r.ex : Int), .int .u16 r.fr, .int .u16 r.to, .int .u32 (r.ii : Int), .int .u16 r.ip], .pointer (some ⟨b1, 0, none⟩), .pointer (some ⟨b2, 0, none⟩)] W _
  clear C0 A0 T0 hb
  have m := fun (u : World) (T : Box5 u p (.bool true) (.int .u32 (t.own : Int)) (.int .u32 (t.ip : Int)) (.int .i64 t.bits) S) => outerC_ t r p S u T
  obtain ⟨z, p1, q1, l1⟩ := eqn_ (extRu t r) ad
  have HV : Hid (decide (extRu t r = ad) = z) := l1
  clear l1 q1
  go_enter Try.func51, Try.ntmps51
  have B21 := Below.refl W.heap.size W
  go_upto_region 1 with fail
  have C_22 := C1.past (o := (.cells #[.int .i64 r.k, .int .u8 r.pr, .int .u32 (r.si : Int), .int .i64 r.sb, .int .u32 (r.di : Int), .int .i64 r.db, .int .u32 (r.ex : Int), .int .u16 r.fr, .int .u16 r.to, .int .u32 (r.ii : Int), .int .u16 r.ip] 42))
  have A_23 := A1.past (o := (.cells #[.int .i64 r.k, .int .u8 r.pr, .int .u32 (r.si : Int), .int .i64 r.sb, .int .u32 (r.di : Int), .int .i64 r.db, .int .u32 (r.ex : Int), .int .u16 r.fr, .int .u16 r.to, .int .u32 (r.ii : Int), .int .u16 r.ip] 42))
  have T_24 := T1.past (o := (.cells #[.int .i64 r.k, .int .u8 r.pr, .int .u32 (r.si : Int), .int .i64 r.sb, .int .u32 (r.di : Int), .int .i64 r.db, .int .u32 (r.ex : Int), .int .u16 r.fr, .int .u16 r.to, .int .u32 (r.ii : Int), .int .u16 r.ip] 42))
  have R_25 := Box11.make W (.int .i64 r.k) (.int .u8 r.pr) (.int .u32 (r.si : Int)) (.int .i64 r.sb) (.int .u32 (r.di : Int)) (.int .i64 r.db) (.int .u32 (r.ex : Int)) (.int .u16 r.fr) (.int .u16 r.to) (.int .u32 (r.ii : Int)) (.int .u16 r.ip) 42
  have B26 := B21.alloc B21.size (.cells #[.int .i64 r.k, .int .u8 r.pr, .int .u32 (r.si : Int), .int .i64 r.sb, .int .u32 (r.di : Int), .int .i64 r.db, .int .u32 (r.ex : Int), .int .u16 r.fr, .int .u16 r.to, .int .u32 (r.ii : Int), .int .u16 r.ip] 42)
  clear C1 A1 T1 B21
  obtain ⟨u1, hu1⟩ : ∃ x_ : World, x_ = W.alloc (.cells #[.int .i64 r.k, .int .u8 r.pr, .int .u32 (r.si : Int), .int .i64 r.sb, .int .u32 (r.di : Int), .int .i64 r.db, .int .u32 (r.ex : Int), .int .u16 r.fr, .int .u16 r.to, .int .u32 (r.ii : Int), .int .u16 r.ip] 42) := ⟨_, rfl⟩
  rw [← hu1] at C_22 A_23 T_24 R_25 B26 ⊢
  clear hu1
  obtain ⟨zr, gr0, gr1, gr2, gr3, gr4, gr5, gr6, gr7, gr8, gr9, gr10⟩ := id R_25
  have Fr0 : ∀ x : Later u1.heap.size u1, x.u.cell? ⟨W.heap.size, 0, none⟩ = some (.int .i64 r.k) := fun x => x.block zr gr0
  have Fr1 : ∀ x : Later u1.heap.size u1, x.u.cell? ⟨W.heap.size, 1, none⟩ = some (.int .u8 r.pr) := fun x => x.block zr gr1
  have Fr2 : ∀ x : Later u1.heap.size u1, x.u.cell? ⟨W.heap.size, 2, none⟩ = some (.int .u32 (r.si : Int)) := fun x => x.block zr gr2
  have Fr3 : ∀ x : Later u1.heap.size u1, x.u.cell? ⟨W.heap.size, 3, none⟩ = some (.int .i64 r.sb) := fun x => x.block zr gr3
  have Fr4 : ∀ x : Later u1.heap.size u1, x.u.cell? ⟨W.heap.size, 4, none⟩ = some (.int .u32 (r.di : Int)) := fun x => x.block zr gr4
  have Fr5 : ∀ x : Later u1.heap.size u1, x.u.cell? ⟨W.heap.size, 5, none⟩ = some (.int .i64 r.db) := fun x => x.block zr gr5
  have Fr6 : ∀ x : Later u1.heap.size u1, x.u.cell? ⟨W.heap.size, 6, none⟩ = some (.int .u32 (r.ex : Int)) := fun x => x.block zr gr6
  have Fr7 : ∀ x : Later u1.heap.size u1, x.u.cell? ⟨W.heap.size, 7, none⟩ = some (.int .u16 r.fr) := fun x => x.block zr gr7
  have Fr8 : ∀ x : Later u1.heap.size u1, x.u.cell? ⟨W.heap.size, 8, none⟩ = some (.int .u16 r.to) := fun x => x.block zr gr8
  have Fr9 : ∀ x : Later u1.heap.size u1, x.u.cell? ⟨W.heap.size, 9, none⟩ = some (.int .u32 (r.ii : Int)) := fun x => x.block zr gr9
  have Fr10 : ∀ x : Later u1.heap.size u1, x.u.cell? ⟨W.heap.size, 10, none⟩ = some (.int .u16 r.ip) := fun x => x.block zr gr10
  clear gr0 gr1 gr2 gr3 gr4 gr5 gr6 gr7 gr8 gr9 gr10
  obtain ⟨zc, gc0⟩ := id C_22
  have Fc0 : ∀ x : Later u1.heap.size u1, x.u.cell? ⟨b1, 0, none⟩ = some (.pointer (some ⟨p, 0, none⟩)) := fun x => x.block zc gc0
  clear gc0
  obtain ⟨za, ga0⟩ := id A_23
  have Fa0 : ∀ x : Later u1.heap.size u1, x.u.cell? ⟨b2, 0, none⟩ = some (.int .u32 (ad : Int)) := fun x => x.block za ga0
  clear ga0
  refine region_later (B := u1.heap.size) (by kernel_rfl) (by kernel_rfl) ?_
  repeat (go_big_quiet_step (first
    | (go_at_call 52; exact later_of _ (Nat.le_refl _) (m _ (T_24.on (Later.h _))))))
  refine later_end fun w2 x2 => ?_
  have C_27 := C_22.on x2
  have A_28 := A_23.on x2
  have T_29 := T_24.on x2
  have R_30 := R_25.on x2
  have B31 := B26.trans (x2.mono B26.size)
  clear Fr0 Fr1 Fr2 Fr3 Fr4 Fr5 Fr6 Fr7 Fr8 Fr9 Fr10 zr Fc0 zc Fa0 za C_22 A_23 T_24 R_25 B26 x2
  go_wp2
  go_ret
  refine ⟨?_, B31⟩
  show _ = Ending.returned (Value.bool (decide (extRu t r = ad)))
  rw [HV.out]
  rfl
set_option maxHeartbeats 4000000 in
set_option maxRecDepth 100000 in
theorem addP_ (t : Tm) (x : Ru) (p b1 b2 : Nat) (S : Value) (rs : List Ru) (w : World) (T0 : Box5 w p (.bool true) (.int .u32 (t.own : Int)) (.int .u32 (t.ip : Int)) (.int .i64 t.bits) S) (C0 : Box1 w b1 (.pointer (some ⟨p, 0, none⟩))) (A0 : Box11 w b2 (.int .i64 x.k) (.int .u8 x.pr) (.int .u32 (x.si : Int)) (.int .i64 x.sb) (.int .u32 (x.di : Int)) (.int .i64 x.db) (.int .u32 (x.ex : Int)) (.int .u16 x.fr) (.int .u16 x.to) (.int .u32 (x.ii : Int)) (.int .u16 x.ip)) : Pred 42 #[.pointer (some ⟨b1, 0, none⟩), .pointer (some ⟨b2, 0, none⟩)] (fun r => clashRu t r x) rs w := by
  intro W r hb _
  have C1 := C0.on hb
  have A1 := A0.on hb
  have T1 := T0.on hb
  show Calls Try.prog 42 #[.agg #[.int .i64 r.k, .int .u8 r.pr, .int .u32 (r.si : Int), .int .i64 r.sb, .int .u32 (r.di : Int), .int .i64 r.db, .int .u32 (r.ex : Int), .int .u16 r.fr, .int .u16 r.to, .int .u32 (r.ii : Int), .int .u16 r.ip], .pointer (some ⟨b1, 0, none⟩), .pointer (some ⟨b2, 0, none⟩)] W _
  show Calls _ _ _ W fun e w' => e = .returned (.bool (clashRu t r x)) ∧ Below W.heap.size W w'
  clear C0 A0 T0 hb
  have m := fun (u : World) (T : Box5 u p (.bool true) (.int .u32 (t.own : Int)) (.int .u32 (t.ip : Int)) (.int .i64 t.bits) S) => clash_ t r x p S u T
  have HV : Hid (clashRu t r x = clashRu t r x) := rfl
  generalize clashRu t r x = z at m ⊢
  go_enter Try.func42, Try.ntmps42
  have B21 := Below.refl W.heap.size W
  go_upto_region 1 with fail
  have C_22 := C1.past (o := (.cells #[.int .i64 r.k, .int .u8 r.pr, .int .u32 (r.si : Int), .int .i64 r.sb, .int .u32 (r.di : Int), .int .i64 r.db, .int .u32 (r.ex : Int), .int .u16 r.fr, .int .u16 r.to, .int .u32 (r.ii : Int), .int .u16 r.ip] 42))
  have A_23 := A1.past (o := (.cells #[.int .i64 r.k, .int .u8 r.pr, .int .u32 (r.si : Int), .int .i64 r.sb, .int .u32 (r.di : Int), .int .i64 r.db, .int .u32 (r.ex : Int), .int .u16 r.fr, .int .u16 r.to, .int .u32 (r.ii : Int), .int .u16 r.ip] 42))
  have T_24 := T1.past (o := (.cells #[.int .i64 r.k, .int .u8 r.pr, .int .u32 (r.si : Int), .int .i64 r.sb, .int .u32 (r.di : Int), .int .i64 r.db, .int .u32 (r.ex : Int), .int .u16 r.fr, .int .u16 r.to, .int .u32 (r.ii : Int), .int .u16 r.ip] 42))
  have R_25 := Box11.make W (.int .i64 r.k) (.int .u8 r.pr) (.int .u32 (r.si : Int)) (.int .i64 r.sb) (.int .u32 (r.di : Int)) (.int .i64 r.db) (.int .u32 (r.ex : Int)) (.int .u16 r.fr) (.int .u16 r.to) (.int .u32 (r.ii : Int)) (.int .u16 r.ip) 42
  have B26 := B21.alloc B21.size (.cells #[.int .i64 r.k, .int .u8 r.pr, .int .u32 (r.si : Int), .int .i64 r.sb, .int .u32 (r.di : Int), .int .i64 r.db, .int .u32 (r.ex : Int), .int .u16 r.fr, .int .u16 r.to, .int .u32 (r.ii : Int), .int .u16 r.ip] 42)
  clear C1 A1 T1 B21
  obtain ⟨u1, hu1⟩ : ∃ x_ : World, x_ = W.alloc (.cells #[.int .i64 r.k, .int .u8 r.pr, .int .u32 (r.si : Int), .int .i64 r.sb, .int .u32 (r.di : Int), .int .i64 r.db, .int .u32 (r.ex : Int), .int .u16 r.fr, .int .u16 r.to, .int .u32 (r.ii : Int), .int .u16 r.ip] 42) := ⟨_, rfl⟩
  rw [← hu1] at C_22 A_23 T_24 R_25 B26 ⊢
  clear hu1
  obtain ⟨_, c1_0⟩ := id C_22
  obtain ⟨_, a2_0, a2_1, a2_2, a2_3, a2_4, a2_5, a2_6, a2_7, a2_8, a2_9, a2_10⟩ := id A_23
  obtain ⟨_, r3_0, r3_1, r3_2, r3_3, r3_4, r3_5, r3_6, r3_7, r3_8, r3_9, r3_10⟩ := id R_25
  go_wp2_with fail
  refine (m _ T_24).mono ?_; rintro e w2 ⟨rfl, x2⟩
  have C_27 := C_22.on x2
  have A_28 := A_23.on x2
  have T_29 := T_24.on x2
  have R_30 := R_25.on x2
  have B31 := B26.trans (x2.mono B26.size)
  clear c1_0 a2_0 a2_1 a2_2 a2_3 a2_4 a2_5 a2_6 a2_7 a2_8 a2_9 a2_10 r3_0 r3_1 r3_2 r3_3 r3_4 r3_5 r3_6 r3_7 r3_8 r3_9 r3_10 C_22 A_23 T_24 R_25 B26 x2
  obtain ⟨_, c4_0⟩ := id C_27
  obtain ⟨_, a5_0, a5_1, a5_2, a5_3, a5_4, a5_5, a5_6, a5_7, a5_8, a5_9, a5_10⟩ := id A_28
  obtain ⟨_, r6_0, r6_1, r6_2, r6_3, r6_4, r6_5, r6_6, r6_7, r6_8, r6_9, r6_10⟩ := id R_30
  go_wp2
  go_ret
  exact ⟨rfl, B31⟩
set_option maxHeartbeats 4000000 in
set_option maxRecDepth 100000 in
theorem staticC_ (t : Tm) (pr ep : Int) (ea p cap : Nat) (a : Option Addr) (w : World) (T0 : Box5 w p (.bool true) (.int .u32 (t.own : Int)) (.int .u32 (t.ip : Int)) (.int .i64 t.bits) (.slice a t.rs.length cap)) (R0 : RulesAt w a t.rs) (hl : t.rs.length ≤ 1000) :
    Calls Try.prog 27 #[.pointer (some ⟨p, 0, none⟩), .int .u8 pr, .agg #[.int .u32 (ea : Int), .int .u16 ep]] w fun e w' => e = .returned (.tuple #[.agg #[.int .i64 (findRu t.rs (fitS pr ea ep)).k, .int .u8 (findRu t.rs (fitS pr ea ep)).pr, .int .u32 ((findRu t.rs (fitS pr ea ep)).si : Int), .int .i64 (findRu t.rs (fitS pr ea ep)).sb, .int .u32 ((findRu t.rs (fitS pr ea ep)).di : Int), .int .i64 (findRu t.rs (fitS pr ea ep)).db, .int .u32 ((findRu t.rs (fitS pr ea ep)).ex : Int), .int .u16 (findRu t.rs (fitS pr ea ep)).fr, .int .u16 (findRu t.rs (fitS pr ea ep)).to, .int .u32 ((findRu t.rs (fitS pr ea ep)).ii : Int), .int .u16 (findRu t.rs (fitS pr ea ep)).ip], .bool (hitRu t.rs (fitS pr ea ep))]) ∧ Below w.heap.size w w' := by
  have RZ := Lib.hid R0
  clear R0
  have eg : ∀ args w, (callFunc 54 args).run Try.prog w = .ok (.enter 54 args) w := enters_of Try.func54 (by kernel_rfl) rfl
  have c := fun (u : World) (T : Box5 u p (.bool true) (.int .u32 (t.own : Int)) (.int .u32 (t.ip : Int)) (.int .i64 t.bits) (.slice a t.rs.length cap)) (R : RulesAt u a t.rs) (hP : Pred 54 #[.pointer (some ⟨w.heap.size, 0, none⟩), .pointer (some ⟨(w.heap.size + 1), 0, none⟩)] (fitS pr ea ep) t.rs u) => firstC_ 54 #[.pointer (some ⟨w.heap.size, 0, none⟩), .pointer (some ⟨(w.heap.size + 1), 0, none⟩)] (fitS pr ea ep) t p cap a u eg T R hl hP
  have HL := Lib.hid hl
  clear eg hl
  generalize hG : hitRu t.rs (fitS pr ea ep) = ok at *
  generalize hF : findRu t.rs (fitS pr ea ep) = q at *
  clear hG hF
  go_enter Try.func27, Try.ntmps27
  have B1 := Below.refl w.heap.size w
  go_upto_region 1 with fail
  have T_2 := T0.past (o := (.cells #[.int .u8 pr] 5))
  have C_3 := Box1.make w (.int .u8 pr) 5
  have B4 := B1.alloc B1.size (.cells #[.int .u8 pr] 5)
  clear T0 B1
  have T_5 := T_2.past (o := (.cells #[.int .u32 (ea : Int), .int .u16 ep] 40))
  have C_6 := C_3.past (o := (.cells #[.int .u32 (ea : Int), .int .u16 ep] 40))
  have hs_ : (w.alloc (.cells #[.int .u8 pr] 5)).heap.size = w.heap.size + 1 := by simp
  have E_7 := Box2.make (w.alloc (.cells #[.int .u8 pr] 5)) (.int .u32 (ea : Int)) (.int .u16 ep) 40
  rw [hs_] at E_7
  clear hs_
  have B8 := B4.alloc B4.size (.cells #[.int .u32 (ea : Int), .int .u16 ep] 40)
  clear T_2 C_3 B4
  have T_9 := T_5.past (o := (.cells #[.int .i64 0, .int .u8 0, .int .u32 0, .int .i64 0, .int .u32 0, .int .i64 0, .int .u32 0, .int .u16 0, .int .u16 0, .int .u32 0, .int .u16 0] 42))
  have C_10 := C_6.past (o := (.cells #[.int .i64 0, .int .u8 0, .int .u32 0, .int .i64 0, .int .u32 0, .int .i64 0, .int .u32 0, .int .u16 0, .int .u16 0, .int .u32 0, .int .u16 0] 42))
  have E_11 := E_7.past (o := (.cells #[.int .i64 0, .int .u8 0, .int .u32 0, .int .i64 0, .int .u32 0, .int .i64 0, .int .u32 0, .int .u16 0, .int .u16 0, .int .u32 0, .int .u16 0] 42))
  have hs_ : ((w.alloc (.cells #[.int .u8 pr] 5)).alloc (.cells #[.int .u32 (ea : Int), .int .u16 ep] 40)).heap.size = w.heap.size + 2 := by simp
  have Z_12 := Box11.make ((w.alloc (.cells #[.int .u8 pr] 5)).alloc (.cells #[.int .u32 (ea : Int), .int .u16 ep] 40)) (.int .i64 0) (.int .u8 0) (.int .u32 0) (.int .i64 0) (.int .u32 0) (.int .i64 0) (.int .u32 0) (.int .u16 0) (.int .u16 0) (.int .u32 0) (.int .u16 0) 42
  rw [hs_] at Z_12
  clear hs_
  have B13 := B8.alloc B8.size (.cells #[.int .i64 0, .int .u8 0, .int .u32 0, .int .i64 0, .int .u32 0, .int .i64 0, .int .u32 0, .int .u16 0, .int .u16 0, .int .u32 0, .int .u16 0] 42)
  clear T_5 C_6 E_7 B8
  have fzZ_14 : ∀ i, (((w.alloc (.cells #[.int .u8 pr] 5)).alloc (.cells #[.int .u32 (ea : Int), .int .u16 ep] 40)).alloc (.cells #[.int .i64 0, .int .u8 0, .int .u32 0, .int .i64 0, .int .u32 0, .int .i64 0, .int .u32 0, .int .u16 0, .int .u16 0, .int .u32 0, .int .u16 0] 42)).frozen? ⟨(w.heap.size + 2), i, none⟩ = false := by intro i; simp [go_sem]
  obtain ⟨u1, hu1⟩ : ∃ x_ : World, x_ = ((w.alloc (.cells #[.int .u8 pr] 5)).alloc (.cells #[.int .u32 (ea : Int), .int .u16 ep] 40)).alloc (.cells #[.int .i64 0, .int .u8 0, .int .u32 0, .int .i64 0, .int .u32 0, .int .i64 0, .int .u32 0, .int .u16 0, .int .u16 0, .int .u32 0, .int .u16 0] 42) := ⟨_, rfl⟩
  rw [← hu1] at T_9 C_10 E_11 Z_12 fzZ_14 B13 ⊢
  clear hu1
  obtain ⟨_, t1_0, t1_1, t1_2, t1_3, t1_4⟩ := id T_9
  go_wp2_with fail
  refine (c _ T_9 (RZ.out.on B13) (staticP_ pr ep ea _ _ t.rs _ C_10 E_11)).mono ?_; rintro e w2 ⟨rfl, x2⟩
  have fzZ_15 : ∀ i, w2.frozen? ⟨(w.heap.size + 2), i, none⟩ = false := fun i => (x2.frozen (p := ⟨_, i, none⟩) Z_12.1).trans (fzZ_14 i)
  clear fzZ_14
  have T_16 := T_9.on x2
  have C_17 := C_10.on x2
  have E_18 := E_11.on x2
  have Z_19 := Z_12.on x2
  have B20 := B13.trans (x2.mono B13.size)
  clear t1_0 t1_1 t1_2 t1_3 t1_4 T_9 C_10 E_11 Z_12 B13 x2
  obtain ⟨_, z2_0, z2_1, z2_2, z2_3, z2_4, z2_5, z2_6, z2_7, z2_8, z2_9, z2_10⟩ := id Z_19
  go_wp2
  refine box11_ (b := w.heap.size + 2) Z_19.some B20 (Nat.le_add_right _ _) fun X x0_ x1_ x2_ x3_ x4_ x5_ x6_ x7_ x8_ x9_ x10_ BX _ _ => ?_
  refine bodyPost_ret (v := .tuple #[.agg #[.int .i64 q.k, .int .u8 q.pr, .int .u32 (q.si : Int), .int .i64 q.sb, .int .u32 (q.di : Int), .int .i64 q.db, .int .u32 (q.ex : Int), .int .u16 q.fr, .int .u16 q.to, .int .u32 (q.ii : Int), .int .u16 q.ip], .bool ok]) (by simp [results, Try.results27, go_sem, x0_, x1_, x2_, x3_, x4_, x5_, x6_, x7_, x8_, x9_, x10_]) rfl ?_
  exact ⟨rfl, BX⟩
set_option maxHeartbeats 4000000 in
set_option maxRecDepth 100000 in
theorem ownC_ (t : Tm) (pr ep : Int) (ea p cap : Nat) (a : Option Addr) (w : World) (T0 : Box5 w p (.bool true) (.int .u32 (t.own : Int)) (.int .u32 (t.ip : Int)) (.int .i64 t.bits) (.slice a t.rs.length cap)) (R0 : RulesAt w a t.rs) (hl : t.rs.length ≤ 1000) :
    Calls Try.prog 28 #[.pointer (some ⟨p, 0, none⟩), .int .u8 pr, .agg #[.int .u32 (ea : Int), .int .u16 ep]] w fun e w' => e = .returned (.tuple #[.agg #[.int .i64 (findRu t.rs (fitO pr ea ep)).k, .int .u8 (findRu t.rs (fitO pr ea ep)).pr, .int .u32 ((findRu t.rs (fitO pr ea ep)).si : Int), .int .i64 (findRu t.rs (fitO pr ea ep)).sb, .int .u32 ((findRu t.rs (fitO pr ea ep)).di : Int), .int .i64 (findRu t.rs (fitO pr ea ep)).db, .int .u32 ((findRu t.rs (fitO pr ea ep)).ex : Int), .int .u16 (findRu t.rs (fitO pr ea ep)).fr, .int .u16 (findRu t.rs (fitO pr ea ep)).to, .int .u32 ((findRu t.rs (fitO pr ea ep)).ii : Int), .int .u16 (findRu t.rs (fitO pr ea ep)).ip], .bool (hitRu t.rs (fitO pr ea ep))]) ∧ Below w.heap.size w w' := by
  have RZ := Lib.hid R0
  clear R0
  have eg : ∀ args w, (callFunc 57 args).run Try.prog w = .ok (.enter 57 args) w := enters_of Try.func57 (by kernel_rfl) rfl
  have c := fun (u : World) (T : Box5 u p (.bool true) (.int .u32 (t.own : Int)) (.int .u32 (t.ip : Int)) (.int .i64 t.bits) (.slice a t.rs.length cap)) (R : RulesAt u a t.rs) (hP : Pred 57 #[.pointer (some ⟨w.heap.size, 0, none⟩), .pointer (some ⟨(w.heap.size + 1), 0, none⟩)] (fitO pr ea ep) t.rs u) => firstC_ 57 #[.pointer (some ⟨w.heap.size, 0, none⟩), .pointer (some ⟨(w.heap.size + 1), 0, none⟩)] (fitO pr ea ep) t p cap a u eg T R hl hP
  have HL := Lib.hid hl
  clear eg hl
  generalize hG : hitRu t.rs (fitO pr ea ep) = ok at *
  generalize hF : findRu t.rs (fitO pr ea ep) = q at *
  clear hG hF
  go_enter Try.func28, Try.ntmps28
  have B1 := Below.refl w.heap.size w
  go_upto_region 1 with fail
  have T_2 := T0.past (o := (.cells #[.int .u8 pr] 5))
  have C_3 := Box1.make w (.int .u8 pr) 5
  have B4 := B1.alloc B1.size (.cells #[.int .u8 pr] 5)
  clear T0 B1
  have T_5 := T_2.past (o := (.cells #[.int .u32 (ea : Int), .int .u16 ep] 40))
  have C_6 := C_3.past (o := (.cells #[.int .u32 (ea : Int), .int .u16 ep] 40))
  have hs_ : (w.alloc (.cells #[.int .u8 pr] 5)).heap.size = w.heap.size + 1 := by simp
  have E_7 := Box2.make (w.alloc (.cells #[.int .u8 pr] 5)) (.int .u32 (ea : Int)) (.int .u16 ep) 40
  rw [hs_] at E_7
  clear hs_
  have B8 := B4.alloc B4.size (.cells #[.int .u32 (ea : Int), .int .u16 ep] 40)
  clear T_2 C_3 B4
  have T_9 := T_5.past (o := (.cells #[.int .i64 0, .int .u8 0, .int .u32 0, .int .i64 0, .int .u32 0, .int .i64 0, .int .u32 0, .int .u16 0, .int .u16 0, .int .u32 0, .int .u16 0] 42))
  have C_10 := C_6.past (o := (.cells #[.int .i64 0, .int .u8 0, .int .u32 0, .int .i64 0, .int .u32 0, .int .i64 0, .int .u32 0, .int .u16 0, .int .u16 0, .int .u32 0, .int .u16 0] 42))
  have E_11 := E_7.past (o := (.cells #[.int .i64 0, .int .u8 0, .int .u32 0, .int .i64 0, .int .u32 0, .int .i64 0, .int .u32 0, .int .u16 0, .int .u16 0, .int .u32 0, .int .u16 0] 42))
  have hs_ : ((w.alloc (.cells #[.int .u8 pr] 5)).alloc (.cells #[.int .u32 (ea : Int), .int .u16 ep] 40)).heap.size = w.heap.size + 2 := by simp
  have Z_12 := Box11.make ((w.alloc (.cells #[.int .u8 pr] 5)).alloc (.cells #[.int .u32 (ea : Int), .int .u16 ep] 40)) (.int .i64 0) (.int .u8 0) (.int .u32 0) (.int .i64 0) (.int .u32 0) (.int .i64 0) (.int .u32 0) (.int .u16 0) (.int .u16 0) (.int .u32 0) (.int .u16 0) 42
  rw [hs_] at Z_12
  clear hs_
  have B13 := B8.alloc B8.size (.cells #[.int .i64 0, .int .u8 0, .int .u32 0, .int .i64 0, .int .u32 0, .int .i64 0, .int .u32 0, .int .u16 0, .int .u16 0, .int .u32 0, .int .u16 0] 42)
  clear T_5 C_6 E_7 B8
  have fzZ_14 : ∀ i, (((w.alloc (.cells #[.int .u8 pr] 5)).alloc (.cells #[.int .u32 (ea : Int), .int .u16 ep] 40)).alloc (.cells #[.int .i64 0, .int .u8 0, .int .u32 0, .int .i64 0, .int .u32 0, .int .i64 0, .int .u32 0, .int .u16 0, .int .u16 0, .int .u32 0, .int .u16 0] 42)).frozen? ⟨(w.heap.size + 2), i, none⟩ = false := by intro i; simp [go_sem]
  obtain ⟨u1, hu1⟩ : ∃ x_ : World, x_ = ((w.alloc (.cells #[.int .u8 pr] 5)).alloc (.cells #[.int .u32 (ea : Int), .int .u16 ep] 40)).alloc (.cells #[.int .i64 0, .int .u8 0, .int .u32 0, .int .i64 0, .int .u32 0, .int .i64 0, .int .u32 0, .int .u16 0, .int .u16 0, .int .u32 0, .int .u16 0] 42) := ⟨_, rfl⟩
  rw [← hu1] at T_9 C_10 E_11 Z_12 fzZ_14 B13 ⊢
  clear hu1
  obtain ⟨_, t1_0, t1_1, t1_2, t1_3, t1_4⟩ := id T_9
  go_wp2_with fail
  refine (c _ T_9 (RZ.out.on B13) (ownP_ pr ep ea _ _ t.rs _ C_10 E_11)).mono ?_; rintro e w2 ⟨rfl, x2⟩
  have fzZ_15 : ∀ i, w2.frozen? ⟨(w.heap.size + 2), i, none⟩ = false := fun i => (x2.frozen (p := ⟨_, i, none⟩) Z_12.1).trans (fzZ_14 i)
  clear fzZ_14
  have T_16 := T_9.on x2
  have C_17 := C_10.on x2
  have E_18 := E_11.on x2
  have Z_19 := Z_12.on x2
  have B20 := B13.trans (x2.mono B13.size)
  clear t1_0 t1_1 t1_2 t1_3 t1_4 T_9 C_10 E_11 Z_12 B13 x2
  obtain ⟨_, z2_0, z2_1, z2_2, z2_3, z2_4, z2_5, z2_6, z2_7, z2_8, z2_9, z2_10⟩ := id Z_19
  go_wp2
  refine box11_ (b := w.heap.size + 2) Z_19.some B20 (Nat.le_add_right _ _) fun X x0_ x1_ x2_ x3_ x4_ x5_ x6_ x7_ x8_ x9_ x10_ BX _ _ => ?_
  refine bodyPost_ret (v := .tuple #[.agg #[.int .i64 q.k, .int .u8 q.pr, .int .u32 (q.si : Int), .int .i64 q.sb, .int .u32 (q.di : Int), .int .i64 q.db, .int .u32 (q.ex : Int), .int .u16 q.fr, .int .u16 q.to, .int .u32 (q.ii : Int), .int .u16 q.ip], .bool ok]) (by simp [results, Try.results28, go_sem, x0_, x1_, x2_, x3_, x4_, x5_, x6_, x7_, x8_, x9_, x10_]) rfl ?_
  exact ⟨rfl, BX⟩
set_option maxHeartbeats 4000000 in
set_option maxRecDepth 100000 in
theorem sourceC_ (t : Tm) (pr sp dp : Int) (sa da p cap : Nat) (a : Option Addr) (w : World) (T0 : Box5 w p (.bool true) (.int .u32 (t.own : Int)) (.int .u32 (t.ip : Int)) (.int .i64 t.bits) (.slice a t.rs.length cap)) (R0 : RulesAt w a t.rs) (hl : t.rs.length ≤ 1000) (hall : ∀ r ∈ t.rs, r.Ok) (s1 : sa < 4294967296) (d1 : da < 4294967296) :
    Calls Try.prog 29 #[.pointer (some ⟨p, 0, none⟩), .agg #[.int .u8 pr, .int .u32 (sa : Int), .int .u16 sp, .int .u32 (da : Int), .int .u16 dp]] w fun e w' => e = .returned (.tuple #[.agg #[.int .i64 (srcRu t pr sa da).k, .int .u8 (srcRu t pr sa da).pr, .int .u32 ((srcRu t pr sa da).si : Int), .int .i64 (srcRu t pr sa da).sb, .int .u32 ((srcRu t pr sa da).di : Int), .int .i64 (srcRu t pr sa da).db, .int .u32 ((srcRu t pr sa da).ex : Int), .int .u16 (srcRu t pr sa da).fr, .int .u16 (srcRu t pr sa da).to, .int .u32 ((srcRu t pr sa da).ii : Int), .int .u16 (srcRu t pr sa da).ip], .bool (hitRu t.rs (fitF pr sa da))]) ∧ Below w.heap.size w w' := by
  have RZ := Lib.hid R0
  clear R0
  have eg : ∀ args w, (callFunc 58 args).run Try.prog w = .ok (.enter 58 args) w := enters_of Try.func58 (by kernel_rfl) rfl
  have c := fun (u : World) (T : Box5 u p (.bool true) (.int .u32 (t.own : Int)) (.int .u32 (t.ip : Int)) (.int .i64 t.bits) (.slice a t.rs.length cap)) (R : RulesAt u a t.rs) (hP : Pred 58 #[.pointer (some ⟨w.heap.size, 0, none⟩)] (fitF pr sa da) t.rs u) => firstC_ 58 #[.pointer (some ⟨w.heap.size, 0, none⟩)] (fitF pr sa da) t p cap a u eg T R hl hP
  have HL := Lib.hid hl
  have HA := Lib.hid hall
  have mz := fun (u : World) (q : Ru) (T : Box5 u p (.bool true) (.int .u32 (t.own : Int)) (.int .u32 (t.ip : Int)) (.int .i64 t.bits) (.slice a t.rs.length cap)) => outerC_ t q p _ u T
  have TK := Lib.hid T0
  clear eg hl hall
  have HG : Hid (srcRu t pr sa da = if hitRu t.rs (fitF pr sa da) = true then { findRu t.rs (fitF pr sa da) with ex := extRu t (findRu t.rs (fitF pr sa da)) } else Ru.zero) := rfl
  generalize srcRu t pr sa da = Q at *
  generalize findRu t.rs (fitF pr sa da) = q at *
  cases hG : hitRu t.rs (fitF pr sa da)
  all_goals
    rw [hG] at c
  · have HQ : Hid (Q = Ru.zero) := by show _ = _; rw [HG.out, hG]; rfl
    clear HG hG mz
    go_enter Try.func29, Try.ntmps29
    have B1 := Below.refl w.heap.size w
    go_upto_region 1 with fail
    have T_2 := T0.past (o := (.cells #[.int .u8 pr, .int .u32 (sa : Int), .int .u16 sp, .int .u32 (da : Int), .int .u16 dp] 57))
    have X_3 := Box5.make w (.int .u8 pr) (.int .u32 (sa : Int)) (.int .u16 sp) (.int .u32 (da : Int)) (.int .u16 dp) 57
    have B4 := B1.alloc B1.size (.cells #[.int .u8 pr, .int .u32 (sa : Int), .int .u16 sp, .int .u32 (da : Int), .int .u16 dp] 57)
    clear T0 B1
    have T_5 := T_2.past (o := (.cells #[.int .i64 0, .int .u8 0, .int .u32 0, .int .i64 0, .int .u32 0, .int .i64 0, .int .u32 0, .int .u16 0, .int .u16 0, .int .u32 0, .int .u16 0] 42))
    have X_6 := X_3.past (o := (.cells #[.int .i64 0, .int .u8 0, .int .u32 0, .int .i64 0, .int .u32 0, .int .i64 0, .int .u32 0, .int .u16 0, .int .u16 0, .int .u32 0, .int .u16 0] 42))
    have hs_ : (w.alloc (.cells #[.int .u8 pr, .int .u32 (sa : Int), .int .u16 sp, .int .u32 (da : Int), .int .u16 dp] 57)).heap.size = w.heap.size + 1 := by simp
    have Z_7 := Box11.make (w.alloc (.cells #[.int .u8 pr, .int .u32 (sa : Int), .int .u16 sp, .int .u32 (da : Int), .int .u16 dp] 57)) (.int .i64 0) (.int .u8 0) (.int .u32 0) (.int .i64 0) (.int .u32 0) (.int .i64 0) (.int .u32 0) (.int .u16 0) (.int .u16 0) (.int .u32 0) (.int .u16 0) 42
    rw [hs_] at Z_7
    clear hs_
    have B8 := B4.alloc B4.size (.cells #[.int .i64 0, .int .u8 0, .int .u32 0, .int .i64 0, .int .u32 0, .int .i64 0, .int .u32 0, .int .u16 0, .int .u16 0, .int .u32 0, .int .u16 0] 42)
    clear T_2 X_3 B4
    have fzZ_9 : ∀ i, ((w.alloc (.cells #[.int .u8 pr, .int .u32 (sa : Int), .int .u16 sp, .int .u32 (da : Int), .int .u16 dp] 57)).alloc (.cells #[.int .i64 0, .int .u8 0, .int .u32 0, .int .i64 0, .int .u32 0, .int .i64 0, .int .u32 0, .int .u16 0, .int .u16 0, .int .u32 0, .int .u16 0] 42)).frozen? ⟨(w.heap.size + 1), i, none⟩ = false := by intro i; simp [go_sem]
    obtain ⟨u1, hu1⟩ : ∃ x_ : World, x_ = (w.alloc (.cells #[.int .u8 pr, .int .u32 (sa : Int), .int .u16 sp, .int .u32 (da : Int), .int .u16 dp] 57)).alloc (.cells #[.int .i64 0, .int .u8 0, .int .u32 0, .int .i64 0, .int .u32 0, .int .i64 0, .int .u32 0, .int .u16 0, .int .u16 0, .int .u32 0, .int .u16 0] 42) := ⟨_, rfl⟩
    rw [← hu1] at T_5 X_6 Z_7 fzZ_9 B8 ⊢
    clear hu1
    obtain ⟨_, t1_0, t1_1, t1_2, t1_3, t1_4⟩ := id T_5
    go_wp2_with fail
    refine (c _ T_5 (RZ.out.on B8) (sourceP_ pr sp dp sa da _ t.rs _ X_6 s1 d1 HA.out)).mono ?_; rintro e w2 ⟨rfl, x2⟩
    have fzZ_10 : ∀ i, w2.frozen? ⟨(w.heap.size + 1), i, none⟩ = false := fun i => (x2.frozen (p := ⟨_, i, none⟩) Z_7.1).trans (fzZ_9 i)
    clear fzZ_9
    have T_11 := T_5.on x2
    have X_12 := X_6.on x2
    have Z_13 := Z_7.on x2
    have B14 := B8.trans (x2.mono B8.size)
    clear t1_0 t1_1 t1_2 t1_3 t1_4 T_5 X_6 Z_7 B8 x2
    obtain ⟨_, z2_0, z2_1, z2_2, z2_3, z2_4, z2_5, z2_6, z2_7, z2_8, z2_9, z2_10⟩ := id Z_13
    go_upto_region 2 with fail
    clear z2_0 z2_1 z2_2 z2_3 z2_4 z2_5 z2_6 z2_7 z2_8 z2_9 z2_10
    refine box11f_ (b := w.heap.size + 1) Z_13.some B14 (Nat.le_succ _) fun uX x0_ x1_ x2_ x3_ x4_ x5_ x6_ x7_ x8_ x9_ x10_ BX_ far_ sz_ fzz_ => ?_
    have Z_z : Box11 uX (w.heap.size + 1) (.int .i64 q.k) (.int .u8 q.pr) (.int .u32 (q.si : Int)) (.int .i64 q.sb) (.int .u32 (q.di : Int)) (.int .i64 q.db) (.int .u32 (q.ex : Int)) (.int .u16 q.fr) (.int .u16 q.to) (.int .u32 (q.ii : Int)) (.int .u16 q.ip) := ⟨by rw [sz_]; exact Z_13.1, x0_, x1_, x2_, x3_, x4_, x5_, x6_, x7_, x8_, x9_, x10_⟩
    have fz_z : ∀ i, uX.frozen? ⟨(w.heap.size + 1), i, none⟩ = false := fun i => (fzz_ _).trans (fzZ_10 i)
    have T_z := TK.out.on BX_
    clear far_ sz_ fzz_ x0_ x1_ x2_ x3_ x4_ x5_ x6_ x7_ x8_ x9_ x10_ T_11 X_12 Z_13 fzZ_10 B14
    obtain ⟨_, t3_0, t3_1, t3_2, t3_3, t3_4⟩ := id T_z
    obtain ⟨_, z4_0, z4_1, z4_2, z4_3, z4_4, z4_5, z4_6, z4_7, z4_8, z4_9, z4_10⟩ := id Z_z
    go_wp2
    refine box11_ (b := w.heap.size + 1) Z_z.some BX_ (Nat.le_succ _) fun X x0_ x1_ x2_ x3_ x4_ x5_ x6_ x7_ x8_ x9_ x10_ BX _ _ => ?_
    refine bodyPost_ret (v := .tuple #[.agg #[.int .i64 0, .int .u8 0, .int .u32 0, .int .i64 0, .int .u32 0, .int .i64 0, .int .u32 0, .int .u16 0, .int .u16 0, .int .u32 0, .int .u16 0], .bool false]) (by simp [results, Try.results29, go_sem, x0_, x1_, x2_, x3_, x4_, x5_, x6_, x7_, x8_, x9_, x10_]) rfl ?_
    rw [HQ.out]
    exact ⟨rfl, BX⟩
  · have HQ : Hid (Q = { q with ex := extRu t q }) := by show _ = _; rw [HG.out, hG]; rfl
    clear HG hG
    have m := fun (u : World) (T : Box5 u p (.bool true) (.int .u32 (t.own : Int)) (.int .u32 (t.ip : Int)) (.int .i64 t.bits) (.slice a t.rs.length cap)) => mz u q T
    clear mz
    go_enter Try.func29, Try.ntmps29
    have B1 := Below.refl w.heap.size w
    go_upto_region 1 with fail
    have T_2 := T0.past (o := (.cells #[.int .u8 pr, .int .u32 (sa : Int), .int .u16 sp, .int .u32 (da : Int), .int .u16 dp] 57))
    have X_3 := Box5.make w (.int .u8 pr) (.int .u32 (sa : Int)) (.int .u16 sp) (.int .u32 (da : Int)) (.int .u16 dp) 57
    have B4 := B1.alloc B1.size (.cells #[.int .u8 pr, .int .u32 (sa : Int), .int .u16 sp, .int .u32 (da : Int), .int .u16 dp] 57)
    clear T0 B1
    have T_5 := T_2.past (o := (.cells #[.int .i64 0, .int .u8 0, .int .u32 0, .int .i64 0, .int .u32 0, .int .i64 0, .int .u32 0, .int .u16 0, .int .u16 0, .int .u32 0, .int .u16 0] 42))
    have X_6 := X_3.past (o := (.cells #[.int .i64 0, .int .u8 0, .int .u32 0, .int .i64 0, .int .u32 0, .int .i64 0, .int .u32 0, .int .u16 0, .int .u16 0, .int .u32 0, .int .u16 0] 42))
    have hs_ : (w.alloc (.cells #[.int .u8 pr, .int .u32 (sa : Int), .int .u16 sp, .int .u32 (da : Int), .int .u16 dp] 57)).heap.size = w.heap.size + 1 := by simp
    have Z_7 := Box11.make (w.alloc (.cells #[.int .u8 pr, .int .u32 (sa : Int), .int .u16 sp, .int .u32 (da : Int), .int .u16 dp] 57)) (.int .i64 0) (.int .u8 0) (.int .u32 0) (.int .i64 0) (.int .u32 0) (.int .i64 0) (.int .u32 0) (.int .u16 0) (.int .u16 0) (.int .u32 0) (.int .u16 0) 42
    rw [hs_] at Z_7
    clear hs_
    have B8 := B4.alloc B4.size (.cells #[.int .i64 0, .int .u8 0, .int .u32 0, .int .i64 0, .int .u32 0, .int .i64 0, .int .u32 0, .int .u16 0, .int .u16 0, .int .u32 0, .int .u16 0] 42)
    clear T_2 X_3 B4
    have fzZ_9 : ∀ i, ((w.alloc (.cells #[.int .u8 pr, .int .u32 (sa : Int), .int .u16 sp, .int .u32 (da : Int), .int .u16 dp] 57)).alloc (.cells #[.int .i64 0, .int .u8 0, .int .u32 0, .int .i64 0, .int .u32 0, .int .i64 0, .int .u32 0, .int .u16 0, .int .u16 0, .int .u32 0, .int .u16 0] 42)).frozen? ⟨(w.heap.size + 1), i, none⟩ = false := by intro i; simp [go_sem]
    obtain ⟨u1, hu1⟩ : ∃ x_ : World, x_ = (w.alloc (.cells #[.int .u8 pr, .int .u32 (sa : Int), .int .u16 sp, .int .u32 (da : Int), .int .u16 dp] 57)).alloc (.cells #[.int .i64 0, .int .u8 0, .int .u32 0, .int .i64 0, .int .u32 0, .int .i64 0, .int .u32 0, .int .u16 0, .int .u16 0, .int .u32 0, .int .u16 0] 42) := ⟨_, rfl⟩
    rw [← hu1] at T_5 X_6 Z_7 fzZ_9 B8 ⊢
    clear hu1
    obtain ⟨_, t1_0, t1_1, t1_2, t1_3, t1_4⟩ := id T_5
    go_wp2_with fail
    refine (c _ T_5 (RZ.out.on B8) (sourceP_ pr sp dp sa da _ t.rs _ X_6 s1 d1 HA.out)).mono ?_; rintro e w2 ⟨rfl, x2⟩
    have fzZ_10 : ∀ i, w2.frozen? ⟨(w.heap.size + 1), i, none⟩ = false := fun i => (x2.frozen (p := ⟨_, i, none⟩) Z_7.1).trans (fzZ_9 i)
    clear fzZ_9
    have T_11 := T_5.on x2
    have X_12 := X_6.on x2
    have Z_13 := Z_7.on x2
    have B14 := B8.trans (x2.mono B8.size)
    clear t1_0 t1_1 t1_2 t1_3 t1_4 T_5 X_6 Z_7 B8 x2
    obtain ⟨_, z2_0, z2_1, z2_2, z2_3, z2_4, z2_5, z2_6, z2_7, z2_8, z2_9, z2_10⟩ := id Z_13
    go_upto_region 2 with fail
    clear z2_0 z2_1 z2_2 z2_3 z2_4 z2_5 z2_6 z2_7 z2_8 z2_9 z2_10
    refine box11f_ (b := w.heap.size + 1) Z_13.some B14 (Nat.le_succ _) fun uX x0_ x1_ x2_ x3_ x4_ x5_ x6_ x7_ x8_ x9_ x10_ BX_ far_ sz_ fzz_ => ?_
    have Z_z : Box11 uX (w.heap.size + 1) (.int .i64 q.k) (.int .u8 q.pr) (.int .u32 (q.si : Int)) (.int .i64 q.sb) (.int .u32 (q.di : Int)) (.int .i64 q.db) (.int .u32 (q.ex : Int)) (.int .u16 q.fr) (.int .u16 q.to) (.int .u32 (q.ii : Int)) (.int .u16 q.ip) := ⟨by rw [sz_]; exact Z_13.1, x0_, x1_, x2_, x3_, x4_, x5_, x6_, x7_, x8_, x9_, x10_⟩
    have fz_z : ∀ i, uX.frozen? ⟨(w.heap.size + 1), i, none⟩ = false := fun i => (fzz_ _).trans (fzZ_10 i)
    have T_z := TK.out.on BX_
    clear far_ sz_ fzz_ x0_ x1_ x2_ x3_ x4_ x5_ x6_ x7_ x8_ x9_ x10_ T_11 X_12 Z_13 fzZ_10 B14
    obtain ⟨_, t3_0, t3_1, t3_2, t3_3, t3_4⟩ := id T_z
    obtain ⟨_, z4_0, z4_1, z4_2, z4_3, z4_4, z4_5, z4_6, z4_7, z4_8, z4_9, z4_10⟩ := id Z_z
    go_wp2_with fail
    refine (m _ T_z).mono ?_; rintro e w3 ⟨rfl, x3⟩
    have fzZ_15 : ∀ i, w3.frozen? ⟨(w.heap.size + 1), i, none⟩ = false := fun i => (x3.frozen (p := ⟨_, i, none⟩) Z_z.1).trans (fz_z i)
    clear fz_z
    have T_16 := T_z.on x3
    have Z_17 := Z_z.on x3
    have B18 := BX_.trans (x3.mono BX_.size)
    clear t3_0 t3_1 t3_2 t3_3 t3_4 z4_0 z4_1 z4_2 z4_3 z4_4 z4_5 z4_6 z4_7 z4_8 z4_9 z4_10 T_z Z_z BX_ x3
    obtain ⟨xe, hxe⟩ : ∃ x, extRu t q = x := ⟨_, rfl⟩
    rw [hxe]
    have HX := Lib.hid hxe
    clear hxe
    obtain ⟨_, t5_0, t5_1, t5_2, t5_3, t5_4⟩ := id T_16
    obtain ⟨_, z6_0, z6_1, z6_2, z6_3, z6_4, z6_5, z6_6, z6_7, z6_8, z6_9, z6_10⟩ := id Z_17
    go_upto_region 5 with fail
    clear t5_0 t5_1 t5_2 t5_3 t5_4 z6_0 z6_1 z6_2 z6_3 z6_4 z6_5 z6_6 z6_7 z6_8 z6_9 z6_10
    obtain ⟨_, t7_0, t7_1, t7_2, t7_3, t7_4⟩ := id T_16
    obtain ⟨_, z8_0, z8_1, z8_2, z8_3, z8_4, z8_5, z8_6, z8_7, z8_8, z8_9, z8_10⟩ := id Z_17
    have B19 := (B18.setCell (p := ⟨(w.heap.size + 1), 6, none⟩) (Nat.le_succ _) (.int .u32 (xe : Int)))
    have T_20 : Box5 (w3.setCell ⟨(w.heap.size + 1), 6, none⟩ (.int .u32 (xe : Int))) p (.bool true) (.int .u32 (t.own : Int)) (.int .u32 (t.ip : Int)) (.int .i64 t.bits) ((.slice a t.rs.length cap)) := ⟨by have := T_16.1; simpa using this, by simp [go_sem, t7_0, t7_1, t7_2, t7_3, t7_4, z8_0, z8_1, z8_2, z8_3, z8_4, z8_5, z8_6, z8_7, z8_8, z8_9, z8_10], by simp [go_sem, t7_0, t7_1, t7_2, t7_3, t7_4, z8_0, z8_1, z8_2, z8_3, z8_4, z8_5, z8_6, z8_7, z8_8, z8_9, z8_10], by simp [go_sem, t7_0, t7_1, t7_2, t7_3, t7_4, z8_0, z8_1, z8_2, z8_3, z8_4, z8_5, z8_6, z8_7, z8_8, z8_9, z8_10], by simp [go_sem, t7_0, t7_1, t7_2, t7_3, t7_4, z8_0, z8_1, z8_2, z8_3, z8_4, z8_5, z8_6, z8_7, z8_8, z8_9, z8_10], by simp [go_sem, t7_0, t7_1, t7_2, t7_3, t7_4, z8_0, z8_1, z8_2, z8_3, z8_4, z8_5, z8_6, z8_7, z8_8, z8_9, z8_10]⟩
    have Z_21 : Box11 (w3.setCell ⟨(w.heap.size + 1), 6, none⟩ (.int .u32 (xe : Int))) (w.heap.size + 1) (.int .i64 q.k) (.int .u8 q.pr) (.int .u32 (q.si : Int)) (.int .i64 q.sb) (.int .u32 (q.di : Int)) (.int .i64 q.db) (.int .u32 (xe : Int)) (.int .u16 q.fr) (.int .u16 q.to) (.int .u32 (q.ii : Int)) (.int .u16 q.ip) := ⟨by have := Z_17.1; simpa using this, by simp [go_sem, t7_0, t7_1, t7_2, t7_3, t7_4, z8_0, z8_1, z8_2, z8_3, z8_4, z8_5, z8_6, z8_7, z8_8, z8_9, z8_10], by simp [go_sem, t7_0, t7_1, t7_2, t7_3, t7_4, z8_0, z8_1, z8_2, z8_3, z8_4, z8_5, z8_6, z8_7, z8_8, z8_9, z8_10], by simp [go_sem, t7_0, t7_1, t7_2, t7_3, t7_4, z8_0, z8_1, z8_2, z8_3, z8_4, z8_5, z8_6, z8_7, z8_8, z8_9, z8_10], by simp [go_sem, t7_0, t7_1, t7_2, t7_3, t7_4, z8_0, z8_1, z8_2, z8_3, z8_4, z8_5, z8_6, z8_7, z8_8, z8_9, z8_10], by simp [go_sem, t7_0, t7_1, t7_2, t7_3, t7_4, z8_0, z8_1, z8_2, z8_3, z8_4, z8_5, z8_6, z8_7, z8_8, z8_9, z8_10], by simp [go_sem, t7_0, t7_1, t7_2, t7_3, t7_4, z8_0, z8_1, z8_2, z8_3, z8_4, z8_5, z8_6, z8_7, z8_8, z8_9, z8_10], by simp [go_sem, t7_0, t7_1, t7_2, t7_3, t7_4, z8_0, z8_1, z8_2, z8_3, z8_4, z8_5, z8_6, z8_7, z8_8, z8_9, z8_10], by simp [go_sem, t7_0, t7_1, t7_2, t7_3, t7_4, z8_0, z8_1, z8_2, z8_3, z8_4, z8_5, z8_6, z8_7, z8_8, z8_9, z8_10], by simp [go_sem, t7_0, t7_1, t7_2, t7_3, t7_4, z8_0, z8_1, z8_2, z8_3, z8_4, z8_5, z8_6, z8_7, z8_8, z8_9, z8_10], by simp [go_sem, t7_0, t7_1, t7_2, t7_3, t7_4, z8_0, z8_1, z8_2, z8_3, z8_4, z8_5, z8_6, z8_7, z8_8, z8_9, z8_10], by simp [go_sem, t7_0, t7_1, t7_2, t7_3, t7_4, z8_0, z8_1, z8_2, z8_3, z8_4, z8_5, z8_6, z8_7, z8_8, z8_9, z8_10]⟩
    have fzZ_22 : ∀ i, (w3.setCell ⟨(w.heap.size + 1), 6, none⟩ (.int .u32 (xe : Int))).frozen? ⟨(w.heap.size + 1), i, none⟩ = false := by intro i; simp [fzZ_15]
    clear t7_0 t7_1 t7_2 t7_3 t7_4 z8_0 z8_1 z8_2 z8_3 z8_4 z8_5 z8_6 z8_7 z8_8 z8_9 z8_10 T_16 Z_17 fzZ_15 B18
    obtain ⟨u4, hu4⟩ : ∃ x_ : World, x_ = (w3.setCell ⟨(w.heap.size + 1), 6, none⟩ (.int .u32 (xe : Int))) := ⟨_, rfl⟩
    rw [← hu4] at T_20 Z_21 fzZ_22 B19 ⊢
    clear hu4
    obtain ⟨_, t9_0, t9_1, t9_2, t9_3, t9_4⟩ := id T_20
    obtain ⟨_, z10_0, z10_1, z10_2, z10_3, z10_4, z10_5, z10_6, z10_7, z10_8, z10_9, z10_10⟩ := id Z_21
    go_wp2
    refine box11_ (b := w.heap.size + 1) Z_21.some B19 (Nat.le_succ _) fun X x0_ x1_ x2_ x3_ x4_ x5_ x6_ x7_ x8_ x9_ x10_ BX _ _ => ?_
    refine bodyPost_ret (v := .tuple #[.agg #[.int .i64 q.k, .int .u8 q.pr, .int .u32 (q.si : Int), .int .i64 q.sb, .int .u32 (q.di : Int), .int .i64 q.db, .int .u32 (xe : Int), .int .u16 q.fr, .int .u16 q.to, .int .u32 (q.ii : Int), .int .u16 q.ip], .bool true]) (by simp [results, Try.results29, go_sem, x0_, x1_, x2_, x3_, x4_, x5_, x6_, x7_, x8_, x9_, x10_]) rfl ?_
    rw [HQ.out, ← HX.out]
    exact ⟨rfl, BX⟩
set_option maxHeartbeats 4000000 in
set_option maxRecDepth 100000 in
theorem outerAtC_ (t : Tm) (ad p cap : Nat) (a : Option Addr) (w : World) (T0 : Box5 w p (.bool true) (.int .u32 (t.own : Int)) (.int .u32 (t.ip : Int)) (.int .i64 t.bits) (.slice a t.rs.length cap)) (R0 : RulesAt w a t.rs) (hl : t.rs.length ≤ 1000) :
    Calls Try.prog 25 #[.pointer (some ⟨p, 0, none⟩), .int .u32 (ad : Int)] w fun e w' => e = .returned (.bool (outerB t ad)) ∧ Below w.heap.size w w' := by
  have RZ := Lib.hid R0
  clear R0
  have eg : ∀ args w, (callFunc 51 args).run Try.prog w = .ok (.enter 51 args) w := enters_of Try.func51 (by kernel_rfl) rfl
  have c := fun (u : World) (T : Box5 u p (.bool true) (.int .u32 (t.own : Int)) (.int .u32 (t.ip : Int)) (.int .i64 t.bits) (.slice a t.rs.length cap)) (R : RulesAt u a t.rs) (hP : Pred 51 #[.pointer (some ⟨w.heap.size, 0, none⟩), .pointer (some ⟨(w.heap.size + 1), 0, none⟩)] (fun r => decide (extRu t r = ad)) t.rs u) => firstC_ 51 #[.pointer (some ⟨w.heap.size, 0, none⟩), .pointer (some ⟨(w.heap.size + 1), 0, none⟩)] (fun r => decide (extRu t r = ad)) t p cap a u eg T R hl hP
  have n := fun (u : World) (T : Box5 u p (.bool true) (.int .u32 (t.own : Int)) (.int .u32 (t.ip : Int)) (.int .i64 t.bits) (.slice a t.rs.length cap)) => none_ t p _ u T
  have HL := Lib.hid hl
  have HG : Hid (outerB t ad = (decide (t.own = ad) || hitRu t.rs (fun r => decide (extRu t r = ad)))) := rfl
  clear eg hl
  generalize findRu t.rs (fun r => decide (extRu t r = ad)) = q at *
  obtain ⟨z, p1, q1, l1⟩ := eqn_ t.own ad
  rw [l1] at HG
  clear l1 q1
  cases hG : hitRu t.rs (fun r => decide (extRu t r = ad))
  all_goals
    rw [hG] at c HG
    clear hG
  · simp only [Bool.not_true, Bool.not_false, Bool.and_true, Bool.and_false, Bool.true_and, Bool.false_and, Bool.or_true, Bool.or_false, Bool.true_or, Bool.false_or] at HG
    go_enter Try.func25, Try.ntmps25
    have B1 := Below.refl w.heap.size w
    go_upto_region 1 with fail
    have T_2 := T0.past (o := (.cells #[.pointer (some ⟨p, 0, none⟩)] 24))
    have C_3 := Box1.make w (.pointer (some ⟨p, 0, none⟩)) 24
    have B4 := B1.alloc B1.size (.cells #[.pointer (some ⟨p, 0, none⟩)] 24)
    clear T0 B1
    have T_5 := T_2.past (o := (.cells #[.int .u32 (ad : Int)] 29))
    have C_6 := C_3.past (o := (.cells #[.int .u32 (ad : Int)] 29))
    have hs_ : (w.alloc (.cells #[.pointer (some ⟨p, 0, none⟩)] 24)).heap.size = w.heap.size + 1 := by simp
    have A_7 := Box1.make (w.alloc (.cells #[.pointer (some ⟨p, 0, none⟩)] 24)) (.int .u32 (ad : Int)) 29
    rw [hs_] at A_7
    clear hs_
    have B8 := B4.alloc B4.size (.cells #[.int .u32 (ad : Int)] 29)
    clear T_2 C_3 B4
    obtain ⟨u1, hu1⟩ : ∃ x_ : World, x_ = (w.alloc (.cells #[.pointer (some ⟨p, 0, none⟩)] 24)).alloc (.cells #[.int .u32 (ad : Int)] 29) := ⟨_, rfl⟩
    rw [← hu1] at T_5 C_6 A_7 B8 ⊢
    clear hu1
    obtain ⟨_, c1_0⟩ := id C_6
    obtain ⟨_, t2_0, t2_1, t2_2, t2_3, t2_4⟩ := id T_5
    go_wp2_with fail
    refine (n _ T_5).mono ?_; rintro e w2 ⟨rfl, x2⟩
    have T_9 := T_5.on x2
    have C_10 := C_6.on x2
    have A_11 := A_7.on x2
    have B12 := B8.trans (x2.mono B8.size)
    clear c1_0 t2_0 t2_1 t2_2 t2_3 t2_4 T_5 C_6 A_7 B8 x2
    obtain ⟨_, c3_0⟩ := id C_10
    obtain ⟨_, t4_0, t4_1, t4_2, t4_3, t4_4⟩ := id T_9
    go_wp2_with fail
    refine (c _ T_9 (RZ.out.on B12) (outerP_ t ad p _ _ _ t.rs _ T_9 C_10 A_11)).mono ?_; rintro e w3 ⟨rfl, x3⟩
    have T_13 := T_9.on x3
    have C_14 := C_10.on x3
    have A_15 := A_11.on x3
    have B16 := B12.trans (x3.mono B12.size)
    clear c3_0 t4_0 t4_1 t4_2 t4_3 t4_4 T_9 C_10 A_11 B12 x3
    go_upto_region 4 with fail
    have T_17 := T_13.past (o := (.cells #[.int .i64 q.k, .int .u8 q.pr, .int .u32 (q.si : Int), .int .i64 q.sb, .int .u32 (q.di : Int), .int .i64 q.db, .int .u32 (q.ex : Int), .int .u16 q.fr, .int .u16 q.to, .int .u32 (q.ii : Int), .int .u16 q.ip] 42))
    have C_18 := C_14.past (o := (.cells #[.int .i64 q.k, .int .u8 q.pr, .int .u32 (q.si : Int), .int .i64 q.sb, .int .u32 (q.di : Int), .int .i64 q.db, .int .u32 (q.ex : Int), .int .u16 q.fr, .int .u16 q.to, .int .u32 (q.ii : Int), .int .u16 q.ip] 42))
    have A_19 := A_15.past (o := (.cells #[.int .i64 q.k, .int .u8 q.pr, .int .u32 (q.si : Int), .int .i64 q.sb, .int .u32 (q.di : Int), .int .i64 q.db, .int .u32 (q.ex : Int), .int .u16 q.fr, .int .u16 q.to, .int .u32 (q.ii : Int), .int .u16 q.ip] 42))
    have B20 := B16.alloc B16.size (.cells #[.int .i64 q.k, .int .u8 q.pr, .int .u32 (q.si : Int), .int .i64 q.sb, .int .u32 (q.di : Int), .int .i64 q.db, .int .u32 (q.ex : Int), .int .u16 q.fr, .int .u16 q.to, .int .u32 (q.ii : Int), .int .u16 q.ip] 42)
    clear T_13 C_14 A_15 B16
    obtain ⟨u4, hu4⟩ : ∃ x_ : World, x_ = w3.alloc (.cells #[.int .i64 q.k, .int .u8 q.pr, .int .u32 (q.si : Int), .int .i64 q.sb, .int .u32 (q.di : Int), .int .i64 q.db, .int .u32 (q.ex : Int), .int .u16 q.fr, .int .u16 q.to, .int .u32 (q.ii : Int), .int .u16 q.ip] 42) := ⟨_, rfl⟩
    rw [← hu4] at T_17 C_18 A_19 B20 ⊢
    clear hu4
    obtain ⟨zc, gc0⟩ := id C_18
    have Fc0 : ∀ x : Later u4.heap.size u4, x.u.cell? ⟨w.heap.size, 0, none⟩ = some (.pointer (some ⟨p, 0, none⟩)) := fun x => x.block zc gc0
    clear gc0
    obtain ⟨za, ga0⟩ := id A_19
    have Fa0 : ∀ x : Later u4.heap.size u4, x.u.cell? ⟨(w.heap.size + 1), 0, none⟩ = some (.int .u32 (ad : Int)) := fun x => x.block za ga0
    clear ga0
    obtain ⟨zt, gt0, gt1, gt2, gt3, gt4⟩ := id T_17
    have Ft1 : ∀ x : Later u4.heap.size u4, x.u.cell? ⟨p, 1, none⟩ = some (.int .u32 (t.own : Int)) := fun x => x.block zt gt1
    clear gt0 gt1 gt2 gt3 gt4
    refine region_later (B := u4.heap.size) (by kernel_rfl) (by kernel_rfl) ?_
    repeat (go_big_quiet_step (fail))
    refine later_end fun w5 x5 => ?_
    have T_21 := T_17.on x5
    have C_22 := C_18.on x5
    have A_23 := A_19.on x5
    have B24 := B20.trans (x5.mono B20.size)
    clear Fc0 zc Fa0 za Ft1 zt T_17 C_18 A_19 B20 x5
    go_wp2
    go_ret
    rw [HG.out]
    exact ⟨rfl, B24⟩
  · simp only [Bool.not_true, Bool.not_false, Bool.and_true, Bool.and_false, Bool.true_and, Bool.false_and, Bool.or_true, Bool.or_false, Bool.true_or, Bool.false_or] at HG
    go_enter Try.func25, Try.ntmps25
    have B1 := Below.refl w.heap.size w
    go_upto_region 1 with fail
    have T_2 := T0.past (o := (.cells #[.pointer (some ⟨p, 0, none⟩)] 24))
    have C_3 := Box1.make w (.pointer (some ⟨p, 0, none⟩)) 24
    have B4 := B1.alloc B1.size (.cells #[.pointer (some ⟨p, 0, none⟩)] 24)
    clear T0 B1
    have T_5 := T_2.past (o := (.cells #[.int .u32 (ad : Int)] 29))
    have C_6 := C_3.past (o := (.cells #[.int .u32 (ad : Int)] 29))
    have hs_ : (w.alloc (.cells #[.pointer (some ⟨p, 0, none⟩)] 24)).heap.size = w.heap.size + 1 := by simp
    have A_7 := Box1.make (w.alloc (.cells #[.pointer (some ⟨p, 0, none⟩)] 24)) (.int .u32 (ad : Int)) 29
    rw [hs_] at A_7
    clear hs_
    have B8 := B4.alloc B4.size (.cells #[.int .u32 (ad : Int)] 29)
    clear T_2 C_3 B4
    obtain ⟨u1, hu1⟩ : ∃ x_ : World, x_ = (w.alloc (.cells #[.pointer (some ⟨p, 0, none⟩)] 24)).alloc (.cells #[.int .u32 (ad : Int)] 29) := ⟨_, rfl⟩
    rw [← hu1] at T_5 C_6 A_7 B8 ⊢
    clear hu1
    obtain ⟨_, c1_0⟩ := id C_6
    obtain ⟨_, t2_0, t2_1, t2_2, t2_3, t2_4⟩ := id T_5
    go_wp2_with fail
    refine (n _ T_5).mono ?_; rintro e w2 ⟨rfl, x2⟩
    have T_9 := T_5.on x2
    have C_10 := C_6.on x2
    have A_11 := A_7.on x2
    have B12 := B8.trans (x2.mono B8.size)
    clear c1_0 t2_0 t2_1 t2_2 t2_3 t2_4 T_5 C_6 A_7 B8 x2
    obtain ⟨_, c3_0⟩ := id C_10
    obtain ⟨_, t4_0, t4_1, t4_2, t4_3, t4_4⟩ := id T_9
    go_wp2_with fail
    refine (c _ T_9 (RZ.out.on B12) (outerP_ t ad p _ _ _ t.rs _ T_9 C_10 A_11)).mono ?_; rintro e w3 ⟨rfl, x3⟩
    have T_13 := T_9.on x3
    have C_14 := C_10.on x3
    have A_15 := A_11.on x3
    have B16 := B12.trans (x3.mono B12.size)
    clear c3_0 t4_0 t4_1 t4_2 t4_3 t4_4 T_9 C_10 A_11 B12 x3
    go_upto_region 4 with fail
    have T_17 := T_13.past (o := (.cells #[.int .i64 q.k, .int .u8 q.pr, .int .u32 (q.si : Int), .int .i64 q.sb, .int .u32 (q.di : Int), .int .i64 q.db, .int .u32 (q.ex : Int), .int .u16 q.fr, .int .u16 q.to, .int .u32 (q.ii : Int), .int .u16 q.ip] 42))
    have C_18 := C_14.past (o := (.cells #[.int .i64 q.k, .int .u8 q.pr, .int .u32 (q.si : Int), .int .i64 q.sb, .int .u32 (q.di : Int), .int .i64 q.db, .int .u32 (q.ex : Int), .int .u16 q.fr, .int .u16 q.to, .int .u32 (q.ii : Int), .int .u16 q.ip] 42))
    have A_19 := A_15.past (o := (.cells #[.int .i64 q.k, .int .u8 q.pr, .int .u32 (q.si : Int), .int .i64 q.sb, .int .u32 (q.di : Int), .int .i64 q.db, .int .u32 (q.ex : Int), .int .u16 q.fr, .int .u16 q.to, .int .u32 (q.ii : Int), .int .u16 q.ip] 42))
    have B20 := B16.alloc B16.size (.cells #[.int .i64 q.k, .int .u8 q.pr, .int .u32 (q.si : Int), .int .i64 q.sb, .int .u32 (q.di : Int), .int .i64 q.db, .int .u32 (q.ex : Int), .int .u16 q.fr, .int .u16 q.to, .int .u32 (q.ii : Int), .int .u16 q.ip] 42)
    clear T_13 C_14 A_15 B16
    obtain ⟨u4, hu4⟩ : ∃ x_ : World, x_ = w3.alloc (.cells #[.int .i64 q.k, .int .u8 q.pr, .int .u32 (q.si : Int), .int .i64 q.sb, .int .u32 (q.di : Int), .int .i64 q.db, .int .u32 (q.ex : Int), .int .u16 q.fr, .int .u16 q.to, .int .u32 (q.ii : Int), .int .u16 q.ip] 42) := ⟨_, rfl⟩
    rw [← hu4] at T_17 C_18 A_19 B20 ⊢
    clear hu4
    obtain ⟨zc, gc0⟩ := id C_18
    have Fc0 : ∀ x : Later u4.heap.size u4, x.u.cell? ⟨w.heap.size, 0, none⟩ = some (.pointer (some ⟨p, 0, none⟩)) := fun x => x.block zc gc0
    clear gc0
    obtain ⟨za, ga0⟩ := id A_19
    have Fa0 : ∀ x : Later u4.heap.size u4, x.u.cell? ⟨(w.heap.size + 1), 0, none⟩ = some (.int .u32 (ad : Int)) := fun x => x.block za ga0
    clear ga0
    obtain ⟨zt, gt0, gt1, gt2, gt3, gt4⟩ := id T_17
    have Ft1 : ∀ x : Later u4.heap.size u4, x.u.cell? ⟨p, 1, none⟩ = some (.int .u32 (t.own : Int)) := fun x => x.block zt gt1
    clear gt0 gt1 gt2 gt3 gt4
    refine region_later (B := u4.heap.size) (by kernel_rfl) (by kernel_rfl) ?_
    repeat (go_big_quiet_step (fail))
    refine later_end fun w5 x5 => ?_
    have T_21 := T_17.on x5
    have C_22 := C_18.on x5
    have A_23 := A_19.on x5
    have B24 := B20.trans (x5.mono B20.size)
    clear Fc0 zc Fa0 za Ft1 zt T_17 C_18 A_19 B20 x5
    go_wp2
    go_ret
    rw [HG.out]
    exact ⟨rfl, B24⟩
set_option maxHeartbeats 4000000 in
set_option maxRecDepth 100000 in
theorem listC_ (t : Tm) (B p : Nat) (v : Value) (w : World) (T0 : Box5 w p (.bool true) (.int .u32 (t.own : Int)) (.int .u32 (t.ip : Int)) (.int .i64 t.bits) v) (R0 : RowC w B v t.rs) (hl : t.rs.length ≤ 1000) :
    Calls Try.prog 21 #[.pointer (some ⟨p, 0, none⟩)] w fun e w' => ∃ v', e = .returned v' ∧ RowC w' w.heap.size v' t.rs ∧ Below w.heap.size w w' := by
  have n := fun (u : World) (T : Box5 u p (.bool true) (.int .u32 (t.own : Int)) (.int .u32 (t.ip : Int)) (.int .i64 t.bits) v) => none_ t p _ u T
  have c := fun (u : World) (R : RowC u B v t.rs) => clone_ B v t.rs u R hl
  have RZ := Lib.hid R0
  clear R0 hl
  go_enter Try.func21, Try.ntmps21
  have B1 := Below.refl w.heap.size w
  obtain ⟨_, t1_0, t1_1, t1_2, t1_3, t1_4⟩ := id T0
  go_wp2_with fail
  refine (n _ T0).mono ?_; rintro e w1 ⟨rfl, x1⟩
  have T_2 := T0.on x1
  have B3 := B1.trans (x1.mono B1.size)
  clear t1_0 t1_1 t1_2 t1_3 t1_4 T0 B1 x1
  obtain ⟨_, t2_0, t2_1, t2_2, t2_3, t2_4⟩ := id T_2
  go_wp2_with fail
  refine (c _ (RZ.out.on B3)).mono ?_; rintro e w9 ⟨v9, rfl, r9, b9⟩
  go_wp2
  go_ret
  exact ⟨v9, rfl, r9.low B3.size, B3.trans (b9.mono B3.size)⟩
/-- A table of the code's in memory: its box at p, the slice v of its rules; both from block B on. -/
structure TabC (w : World) (B p : Nat) (v : Value) (t : Tm) : Prop where
  box : Box5 w p (.bool true) (.int .u32 (t.own : Int)) (.int .u32 (t.ip : Int)) (.int .i64 t.bits) v
  row : RowC w B v t.rs
  low : B ≤ p
  ne : v.ownBlock ≠ some p
  fz : ∀ i, w.frozen? ⟨p, i, none⟩ = false
theorem Box5.keep {w w' : World} {b : Nat} {v0 v1 v2 v3 v4 : Value} (h : Box5 w b v0 v1 v2 v3 v4) (hs : w.heap.size ≤ w'.heap.size) (hb : w'.heap[b]? = w.heap[b]?) : Box5 w' b v0 v1 v2 v3 v4 := by
  obtain ⟨h, h0, h1, h2, h3, h4⟩ := h
  have e : ∀ i : Nat, w'.cell? ⟨b, i, none⟩ = w.cell? ⟨b, i, none⟩ := fun i => World.cell?_of_block (w := w) hb
  exact ⟨Nat.lt_of_lt_of_le h hs, (e 0).trans h0, (e 1).trans h1, (e 2).trans h2, (e 3).trans h3, (e 4).trans h4⟩
theorem TabC.keep {w w' : World} {B p : Nat} {v : Value} {t : Tm} (h : TabC w B p v t) (hs : w.heap.size ≤ w'.heap.size) (hp : w'.heap[p]? = w.heap[p]?) (hv : ∀ g, v.ownBlock = some g → w'.heap[g]? = w.heap[g]?) : TabC w' B p v t :=
  ⟨h.box.keep hs hp, h.row.kept hs hv, h.low, h.ne, fun i => (World.frozen?_of_block (w := w) hp : w'.frozen? ⟨p, i, none⟩ = w.frozen? ⟨p, i, none⟩).trans (h.fz i)⟩
theorem RowC.slice {w : World} {B : Nat} {v : Value} {rs : List Ru} (h : RowC w B v rs) : ∃ a cap, v = .slice a rs.length cap := by
  rcases h.kinds with ⟨rfl, rfl⟩ | ⟨g, c, rfl⟩
  · exact ⟨none, 0, rfl⟩
  · exact ⟨_, c, rfl⟩
theorem TabC.on {w w' : World} {B p : Nat} {v : Value} {t : Tm} (h : TabC w B p v t) (hb : Below w.heap.size w w') : TabC w' B p v t := h.keep hb.size (hb.block p h.box.1) fun g hg => hb.block g (h.row.lt g hg).2
theorem TabC.less {w : World} {A B p : Nat} {v : Value} {t : Tm} (h : TabC w B p v t) (hA : A ≤ B) : TabC w A p v t := ⟨h.box, h.row.low hA, Nat.le_trans hA h.low, h.ne, h.fz⟩
/-- The blocks that are a table's. -/
def footC (p : Nat) (v : Value) (k : Nat) : Prop := k = p ∨ v.ownBlock = some k
theorem TabC.beside {w w' : World} {S : Nat → Prop} {B p : Nat} {v : Value} {t : Tm} (h : TabC w B p v t) (hb : Beside S w w') (hn : ∀ k, footC p v k → ¬ S k) : TabC w' B p v t :=
  h.keep hb.size (hb.block p h.box.1 (hn p (.inl rfl))) fun g hg => hb.block g (h.row.lt g hg).2 (hn g (.inr hg))
theorem Beside.grown {w w' : World} {row : Option Nat} (h : w.grownBy w' row) : Beside (fun k => row = some k) w w' := ⟨h.os, h.tape, h.output, h.size, fun k hk hn => h.block k hk (fun e => hn e.symm)⟩
theorem TabC.stored {w : World} {B p : Nat} {v v' : Value} {t t' : Tm} (T : Box5 w p (.bool true) (.int .u32 (t.own : Int)) (.int .u32 (t.ip : Int)) (.int .i64 t.bits) v) (F : ∀ i, w.frozen? ⟨p, i, none⟩ = false) (L : B ≤ p) (R : RowC w B v' t'.rs) (hne : v'.ownBlock ≠ some p) (ho : t'.own = t.own) (hi : t'.ip = t.ip) (hb : t'.bits = t.bits) : TabC (w.setCell ⟨p, 4, none⟩ v') B p v' t' := by
  obtain ⟨z, c0, c1, c2, c3, c4⟩ := T
  refine ⟨⟨by simpa using z, by simp [go_sem, c0], by rw [ho]; simp [go_sem, c1], by rw [hi]; simp [go_sem, c2], by rw [hb]; simp [go_sem, c3], by simp [go_sem, c4]⟩, ?_, L, hne, fun i => by rw [World.frozen?_setCell]; exact F i⟩
  refine R.kept (by simp) fun g hg => ?_
  exact Below.heap_setCell _ _ _ _ (show g ≠ p from fun e => hne (by rw [hg, e]))

set_option maxHeartbeats 4000000 in
set_option maxRecDepth 100000 in
theorem deleteC_ (t : Tm) (B p : Nat) (v : Value) (i : Int) (w : World) (H : TabC w B p v t) (hl : t.rs.length ≤ 1000) :
    Calls Try.prog 17 #[.pointer (some ⟨p, 0, none⟩), .int .i64 i] w fun e w' => e = .returned (.int .i64 (ruDelE t i)) ∧ ∃ v', TabC w' B p v' (ruDelT t i) ∧ Beside (footC p v) w w' ∧ v'.ownBlock = v.ownBlock := by
  have HZ := Lib.hid H
  by_cases hi : i < 0 ∨ (t.rs.length : Int) ≤ i
  · have HV : Hid (ruDelE t i = 2 ∧ ruDelT t i = t) := by
      have e : ruDelE t i = 2 := by unfold ruDelE; rw [if_pos hi]
      exact ⟨e, by unfold ruDelT; rw [if_neg (by rw [e]; omega)]⟩
    obtain ⟨a, cap, rfl⟩ := H.row.slice
    have n := fun (u : World) (T : Box5 u p (.bool true) (.int .u32 (t.own : Int)) (.int .u32 (t.ip : Int)) (.int .i64 t.bits) (.slice a t.rs.length cap)) => none_ t p _ u T
    have T0 := H.box
    have HI := Lib.hid hi
    clear H hl
    rcases hi with hi | hi
    · have e1 : decide (i < 0) = true := by simpa using hi
      clear hi
      go_enter Try.func17, Try.ntmps17
      have B1 := Below.refl w.heap.size w
      obtain ⟨_, t1_0, t1_1, t1_2, t1_3, t1_4⟩ := id T0
      go_wp2_with fail
      refine (n _ T0).mono ?_; rintro e w1 ⟨rfl, x1⟩
      have T_2 := T0.on x1
      have B3 := B1.trans (x1.mono B1.size)
      clear t1_0 t1_1 t1_2 t1_3 t1_4 T0 B1 x1
      obtain ⟨_, t2_0, t2_1, t2_2, t2_3, t2_4⟩ := id T_2
      go_wp2
      go_ret
      rw [HV.out.1, HV.out.2]
      exact ⟨rfl, _, HZ.out.on B3, Beside.of B3, rfl⟩
    · have e1 : decide ((t.rs.length : Int) ≤ i) = true := by simpa using hi
      have e2 : decide (i < 0) = false := by simp; omega
      have e3 : ¬ (i < 0) := by omega
      clear HI
      go_enter Try.func17, Try.ntmps17
      have B1 := Below.refl w.heap.size w
      obtain ⟨_, t1_0, t1_1, t1_2, t1_3, t1_4⟩ := id T0
      go_wp2_with fail
      refine (n _ T0).mono ?_; rintro e w1 ⟨rfl, x1⟩
      have T_2 := T0.on x1
      have B3 := B1.trans (x1.mono B1.size)
      clear t1_0 t1_1 t1_2 t1_3 t1_4 T0 B1 x1
      obtain ⟨_, t2_0, t2_1, t2_2, t2_3, t2_4⟩ := id T_2
      go_wp2
      go_ret
      rw [HV.out.1, HV.out.2]
      exact ⟨rfl, _, HZ.out.on B3, Beside.of B3, rfl⟩
  · obtain ⟨k, rfl⟩ : ∃ k : Nat, i = (k : Int) := ⟨i.toNat, by omega⟩
    have hk : k < t.rs.length := by omega
    have HV : Hid (ruDelE t (k : Int) = 0 ∧ ruDelT t (k : Int) = { t with rs := t.rs.take k ++ t.rs.drop (k + 1) }) := by
      have e : ruDelE t (k : Int) = 0 := by unfold ruDelE; rw [if_neg hi]
      exact ⟨e, by unfold ruDelT; rw [if_pos e, Int.toNat_natCast]⟩
    obtain ⟨g, cap, rfl⟩ : ∃ g cap, v = .slice (some ⟨g, 0, none⟩) t.rs.length cap := by
      rcases H.row.kinds with ⟨_, h0⟩ | h
      · rw [h0] at hk; simp at hk
      · exact h
    have n := fun (u : World) (T : Box5 u p (.bool true) (.int .u32 (t.own : Int)) (.int .u32 (t.ip : Int)) (.int .i64 t.bits) (.slice (some ⟨g, 0, none⟩) t.rs.length cap)) => none_ t p _ u T
    have c := fun (u : World) (R : RowC u B (.slice (some ⟨g, 0, none⟩) t.rs.length cap) t.rs) => delete_ B t.rs k g cap u R hl hk
    have T0 := H.box
    have hne : g ≠ p := fun e => H.ne (by rw [e]; rfl)
    have e1 : decide ((k : Int) < 0) = false := by simp
    have e2 : decide ((t.rs.length : Int) ≤ (k : Int)) = false := by simp; omega
    have e3 : ¬ ((t.rs.length : Int) ≤ (k : Int)) := by omega
    have e4 : (k : Int) + 1 ≤ 1001 := by omega
    have HL := Lib.hid hl
    have HK := Lib.hid hk
    clear H hi hl hk
    go_enter Try.func17, Try.ntmps17
    have B1 := Below.refl w.heap.size w
    obtain ⟨_, t1_0, t1_1, t1_2, t1_3, t1_4⟩ := id T0
    go_wp2_with fail
    refine (n _ T0).mono ?_; rintro e w1 ⟨rfl, x1⟩
    have T_2 := T0.on x1
    have B3 := B1.trans (x1.mono B1.size)
    clear t1_0 t1_1 t1_2 t1_3 t1_4 T0 B1 x1
    obtain ⟨_, t2_0, t2_1, t2_2, t2_3, t2_4⟩ := id T_2
    go_wp2_with fail
    clear t2_0 t2_1 t2_2 t2_3 t2_4
    have H1 := HZ.out.on B3
    refine (c _ H1.row).mono ?_; rintro e w9 ⟨rfl, r9, g9⟩
    have gp := g9.block p H1.box.1 (fun e => hne (by simpa using e.symm))
    have T9 := H1.box.keep g9.size gp
    have F9 : ∀ i, w9.frozen? ⟨p, i, none⟩ = false := fun i => (World.frozen?_of_block (w := w1) gp : w9.frozen? ⟨p, i, none⟩ = w1.frozen? ⟨p, i, none⟩).trans (H1.fz i)
    have K9 := Lib.hid (And.intro H1 (And.intro r9 g9))
    clear H1 r9 g9 gp
    have KT := Lib.hid T9
    have KF := Lib.hid F9
    obtain ⟨_, t0, t1, t2, t3, t4⟩ := id T9
    go_wp2
    go_ret
    rw [HV.out.1, HV.out.2]
    obtain ⟨H1, r9, g9⟩ := K9.out
    have b9 : Beside (footC p (.slice (some ⟨g, 0, none⟩) t.rs.length cap)) w w9 := (Beside.of B3).trans ((Beside.grown g9).seq (Beside.refl _ _) (fun _ _ h => h) |>.mono fun k _ e => .inr e)
    have q9 : ({ t with rs := t.rs.take k ++ t.rs.drop (k + 1) } : Tm).rs.length = t.rs.length - 1 := by have := HK.out; simp; omega
    exact ⟨rfl, _, TabC.stored (t := t) KT.out KF.out H1.low r9 (fun e => hne (by simpa [Value.ownBlock] using e)) rfl rfl rfl, b9.setCell (p := ⟨p, 4, none⟩) (.inl rfl) _, rfl⟩
end Go.Proofs.Ytoogegpkgohffaa
