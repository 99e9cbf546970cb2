/- The code's ports (layer 16): what the laws ask of them, all of it; ports that are none. -/
import Derived.Test.YtbbadpidolfleaaVe
import Derived.Test.YtbbadpidolfleaaVd
import Derived.Test.YtbbadpidolfleaaPzN
import Derived.Test.YtbbadpidolfleaaPzU
import Derived.Test.YtbbadpidolfleaaPoN
namespace Go.Proofs.Ytbbadpidolfleaa
set_option linter.unusedVariables false
set_option maxRecDepth 100000
set_option linter.unusedSimpArgs false
open Go.ChangeShapes Go.WideShapes Go.ChangeAt Go.RowKit Go.PlainAid
attribute [local go_sem ↓] Go.wp_at_zero Go.wp_at_succ
/-- Ports at p, in the blocks S. -/
def pzRep (w : World) (S : Nat → Prop) (p : Nat) (x : Po) : Prop := ∃ (rb ob : Nat), PzI w p rb ob x ∧ ∀ k, S k ↔ pzS p rb ob k
theorem pzRep.lt {w : World} {S : Nat → Prop} {p : Nat} {x : Po} (h : pzRep w S p x) : ∀ k, S k → k < w.heap.size := fun k hk => by
  obtain ⟨rb, ob, hw, hs⟩ := h
  exact hw.lt k ((hs k).1 hk)
theorem pzRep.keep {w w' : World} {S : Nat → Prop} {p : Nat} {x : Po} (h : pzRep w S p x) (hsz : w.heap.size ≤ w'.heap.size) (hb : ∀ k, S k → w'.heap[k]? = w.heap[k]?) : pzRep w' S p x := by
  obtain ⟨rb, ob, hw, hs⟩ := h
  exact ⟨rb, ob, hw.keep hsz fun k hk => hb k ((hs k).2 hk), hs⟩
def pzO : ObjP Po := ⟨pzRep, pzRep.lt, pzRep.keep⟩
theorem beside_as {w w' : World} {S T : Nat → Prop} (h : Beside T w w') (hs : ∀ k, S k ↔ T k) : Beside S w w' := h.mono fun k _ hk => (hs k).2 hk
theorem pzS_low {q a b n : Nat} (h1 : n ≤ q) (h2 : n ≤ a) (h3 : n ≤ b) : ∀ k, pzS q a b k → n ≤ k := fun k h => by
  rcases h with rfl | rfl | rfl <;> assumption
def portsOk : PortsOk where
  toObjP := pzO
  ok := fun ⟨_, _, hw, _⟩ => hw.ok
  news := fun w => (pz_new_ w).mono fun e w' ⟨q, a, b, he, hb, h1, h2, h3, hw⟩ => ⟨q, pzS q a b, he, hb, pzS_low h1 h2 h3, a, b, hw, fun k => Iff.rfl⟩
  takes := fun p S x v w ⟨rb, ob, hw, hs⟩ few hv => (pz_take_ hw few hv).mono fun e w' ⟨he, h', hb⟩ => ⟨he, S, ⟨rb, ob, h', hs⟩, Fresh.refl _ _, beside_as hb hs⟩
  fixes := fun p S x pr ii ip oi op w ⟨rb, ob, hw, hs⟩ few h1 h2 => (pz_fix_ hw few h1 h2).mono fun e w' ⟨he, h', hb⟩ => ⟨he, S, ⟨rb, ob, h', hs⟩, Fresh.refl _ _, beside_as hb hs⟩
  cons := fun p S x pr oi op w ⟨rb, ob, hw, hs⟩ few h1 => (pz_con_ hw few h1).mono fun e w' ⟨he, h', hb⟩ => ⟨he, S, ⟨rb, ob, h', hs⟩, Fresh.refl _ _, beside_as hb hs⟩
  drps := fun p S x pr oi op w ⟨rb, ob, hw, hs⟩ few h1 => (pz_drp_ hw few h1).mono fun e w' ⟨he, h', hb⟩ => ⟨he, S, ⟨rb, ob, h', hs⟩, Fresh.refl _ _, beside_as hb hs⟩
  rels := fun p S x pr oi op w ⟨rb, ob, hw, hs⟩ few h1 => (pz_rel_ hw few h1).mono fun e w' ⟨he, h', hb⟩ => ⟨he, S, ⟨rb, ob, h', hs⟩, Fresh.refl _ _, beside_as hb hs⟩
  ofs := fun p S x pr ii ip w ⟨rb, ob, hw, hs⟩ few h1 => pz_of_ hw h1
  owners := fun p S x pr oi op w ⟨rb, ob, hw, hs⟩ few h1 => pz_owner_ hw h1
  lists := fun p S x w ⟨rb, ob, hw, hs⟩ few => pz_list_ hw few.1
  counts := fun p S x w ⟨rb, ob, hw, hs⟩ few => pz_count_ hw
  copies := fun p S x w ⟨rb, ob, hw, hs⟩ few => (pz_copy_ hw).mono fun e w' ⟨q, a, b, he, hb, h1, h2, h3, h'⟩ => ⟨q, pzS q a b, he, hb, pzS_low h1 h2 h3, a, b, h', fun k => Iff.rfl⟩
/-- A pointer that is nil, or at ports that New did not make. -/
def NoP (w : World) (v : Value) : Prop := v = .pointer none ∨ ∃ p, v = .pointer (some ⟨p, 0, none⟩) ∧ p < w.heap.size ∧ w.cell? ⟨p, 0, none⟩ = some (.map none)
theorem NoP.on {w w' : World} {v : Value} (h : NoP w v) (hb : Below w.heap.size w w') : NoP w' v := by
  rcases h with h | ⟨p, h, lp, hc⟩
  · exact .inl h
  · exact .inr ⟨p, h, Nat.lt_of_lt_of_le lp hb.size, (hb.cell (p := ⟨p, 0, none⟩) lp).trans hc⟩
theorem np_none_ {w : World} {v : Value} (h : NoP w v) : Calls Try.prog 29 #[v] w fun e w' => e = .returned (.bool true) ∧ w' = w := by
  rcases h with rfl | ⟨p, rfl, lp, c0⟩
  · go_enter Try.func29, Try.ntmps29
    go_wp2
    go_ret
    exact ⟨rfl, rfl⟩
  · have hq := run_eql_map_none (P := Try.prog) _ _ _ none Try.underlying60
    go_enter Try.func29, Try.ntmps29
    go_wp2
    go_ret
    exact ⟨rfl, rfl⟩
theorem np_take_ {w : World} {v : Value} (h : NoP w v) (x : Wi) : Says Try.prog 11 #[v, .agg #[.int .u8 x.pr, .int .u32 x.ii, .int .u16 x.ip, .int .u32 x.oi, .int .u16 x.fr, .int .u16 x.to, .int .u16 x.dr]] w (.tuple #[.agg #[.int .u32 0, .int .u16 0], .int .i64 1]) := by
  show Calls _ _ _ _ _
  have f1 : Below w.heap.size w ((w.alloc (.cells #[.int .u8 x.pr, .int .u32 x.ii, .int .u16 x.ip, .int .u32 x.oi, .int .u16 x.fr, .int .u16 x.to, .int .u16 x.dr] 36)).alloc (.cells #[.int .u32 0, .int .u16 0] 34)) := ((Below.refl _ _).alloc (Nat.le_refl _) _).alloc (by simp) _
  have kn := np_none_ (h.on f1)
  have E1 := EpB.made (w.alloc (.cells #[.int .u8 x.pr, .int .u32 x.ii, .int .u16 x.ip, .int .u32 x.oi, .int .u16 x.fr, .int .u16 x.to, .int .u16 x.dr] 36)) 0 0 34
  have hz : (w.alloc (.cells #[.int .u8 x.pr, .int .u32 x.ii, .int .u16 x.ip, .int .u32 x.oi, .int .u16 x.fr, .int .u16 x.to, .int .u16 x.dr] 36)).heap.size = w.heap.size + 1 := by simp
  rw [hz] at E1
  clear h hz
  go_enter Try.func11, Try.ntmps11
  go_upto_region 1 with fail
  generalize ((w.alloc (.cells #[.int .u8 x.pr, .int .u32 x.ii, .int .u16 x.ip, .int .u32 x.oi, .int .u16 x.fr, .int .u16 x.to, .int .u16 x.dr] 36)).alloc (.cells #[.int .u32 0, .int .u16 0] 34)) = w1 at f1 kn E1 ⊢
  have F1 := Lib.hid f1
  have HE := Lib.hid E1
  obtain ⟨_, z0, z1, fr⟩ := id E1
  clear f1 E1
  go_wp2_with (go_at_call 29; refine kn.mono ?_; rintro e w2 ⟨rfl, hw⟩; obtain rfl : w1 = w2 := hw.symm)
  refine ep_ HE.out fun Y hY bY => ?_
  obtain ⟨_, y0, y1, fy⟩ := id hY
  have B3 := one_box F1.out bY (Nat.le_succ _) F1.out.size
  clear HE z0 z1 fr bY hY
  go_wp2
  refine bodyPost_ret (v := .tuple #[.agg #[.int .u32 0, .int .u16 0], .int .i64 1]) (by simp [results, Try.results11, go_sem, y0, y1]) rfl ?_
  exact ⟨rfl, B3⟩
theorem np_fix_ {w : World} {v : Value} (h : NoP w v) (pr ii ip oi op : Int) : Says Try.prog 21 #[v, .int .u8 pr, .agg #[.int .u32 ii, .int .u16 ip], .agg #[.int .u32 oi, .int .u16 op]] w (.int .i64 1) := by
  show Calls _ _ _ _ _
  have f1 : Below w.heap.size w ((w.alloc (.cells #[.int .u32 ii, .int .u16 ip] 34)).alloc (.cells #[.int .u32 oi, .int .u16 op] 34)) := ((Below.refl _ _).alloc (Nat.le_refl _) _).alloc (by simp) _
  have kn := np_none_ (h.on f1)
  clear h
  go_enter Try.func21, Try.ntmps21
  go_upto_region 1 with fail
  generalize ((w.alloc (.cells #[.int .u32 ii, .int .u16 ip] 34)).alloc (.cells #[.int .u32 oi, .int .u16 op] 34)) = w1 at f1 kn ⊢
  have F1 := Lib.hid f1
  clear f1
  go_wp2_with (go_at_call 29; refine kn.mono ?_; rintro e w2 ⟨rfl, hw⟩; obtain rfl : w1 = w2 := hw.symm)
  go_ret
  exact ⟨rfl, F1.out⟩
theorem np_turn_ {w : World} {v : Value} (h : NoP w v) (pr oi op l k : Int) : Says Try.prog 42 #[v, .int .u8 pr, .agg #[.int .u32 oi, .int .u16 op], .int .i64 l, .int .i64 k] w (.int .i64 1) := by
  show Calls _ _ _ _ _
  have f1 : Below w.heap.size w (w.alloc (.cells #[.int .u32 oi, .int .u16 op] 34)) := (Below.refl _ _).alloc (by simp) _
  have kn := np_none_ (h.on f1)
  have F1 := Lib.hid f1
  clear h f1
  go_enter Try.func42, Try.ntmps42
  go_wp2_with (go_at_call 29; refine kn.mono ?_; rintro e w2 ⟨rfl, rfl⟩)
  go_ret
  exact ⟨rfl, F1.out⟩
theorem np_con_ {w : World} {v : Value} (h : NoP w v) (pr oi op : Int) : Says Try.prog 22 #[v, .int .u8 pr, .agg #[.int .u32 oi, .int .u16 op]] w (.int .i64 1) := by
  show Calls _ _ _ _ _
  have f1 : Below w.heap.size w (w.alloc (.cells #[.int .u32 oi, .int .u16 op] 34)) := (Below.refl _ _).alloc (Nat.le_refl _) _
  have kn := np_turn_ (h.on f1) pr oi op 1 (-1)
  have b0 := World.cell?_alloc_mark w #[.int .u32 oi, .int .u16 op] 34 (0, 0) 0
  have b1 := World.cell?_alloc_mark w #[.int .u32 oi, .int .u16 op] 34 (0, 0) 1
  have F1 := Lib.hid f1
  have C1 := Lib.hid f1.size
  clear h f1
  go_enter Try.func22, Try.ntmps22
  go_upto_region 1 with fail
  generalize w.alloc (.cells #[.int .u32 oi, .int .u16 op] 34) = w1 at b0 b1 kn F1 C1 ⊢
  generalize w.heap.size = c at b0 b1 ⊢
  go_wp2_with (go_at_call 42; refine kn.mono ?_; rintro e w2 ⟨rfl, f2⟩)
  go_ret
  exact ⟨rfl, F1.out.trans (f2.mono C1.out)⟩
theorem np_drp_ {w : World} {v : Value} (h : NoP w v) (pr oi op : Int) : Says Try.prog 23 #[v, .int .u8 pr, .agg #[.int .u32 oi, .int .u16 op]] w (.int .i64 1) := by
  show Calls _ _ _ _ _
  have f1 : Below w.heap.size w (w.alloc (.cells #[.int .u32 oi, .int .u16 op] 34)) := (Below.refl _ _).alloc (Nat.le_refl _) _
  have kn := np_turn_ (h.on f1) pr oi op 0 (-1)
  have b0 := World.cell?_alloc_mark w #[.int .u32 oi, .int .u16 op] 34 (0, 0) 0
  have b1 := World.cell?_alloc_mark w #[.int .u32 oi, .int .u16 op] 34 (0, 0) 1
  have F1 := Lib.hid f1
  have C1 := Lib.hid f1.size
  clear h f1
  go_enter Try.func23, Try.ntmps23
  go_upto_region 1 with fail
  generalize w.alloc (.cells #[.int .u32 oi, .int .u16 op] 34) = w1 at b0 b1 kn F1 C1 ⊢
  generalize w.heap.size = c at b0 b1 ⊢
  go_wp2_with (go_at_call 42; refine kn.mono ?_; rintro e w2 ⟨rfl, f2⟩)
  go_ret
  exact ⟨rfl, F1.out.trans (f2.mono C1.out)⟩
theorem np_rel_ {w : World} {v : Value} (h : NoP w v) (pr oi op : Int) : Says Try.prog 24 #[v, .int .u8 pr, .agg #[.int .u32 oi, .int .u16 op]] w (.int .i64 1) := by
  show Calls _ _ _ _ _
  have f1 : Below w.heap.size w (w.alloc (.cells #[.int .u32 oi, .int .u16 op] 34)) := (Below.refl _ _).alloc (Nat.le_refl _) _
  have kn := np_turn_ (h.on f1) pr oi op (-1) 0
  have b0 := World.cell?_alloc_mark w #[.int .u32 oi, .int .u16 op] 34 (0, 0) 0
  have b1 := World.cell?_alloc_mark w #[.int .u32 oi, .int .u16 op] 34 (0, 0) 1
  have F1 := Lib.hid f1
  have C1 := Lib.hid f1.size
  clear h f1
  go_enter Try.func24, Try.ntmps24
  go_upto_region 1 with fail
  generalize w.alloc (.cells #[.int .u32 oi, .int .u16 op] 34) = w1 at b0 b1 kn F1 C1 ⊢
  generalize w.heap.size = c at b0 b1 ⊢
  go_wp2_with (go_at_call 42; refine kn.mono ?_; rintro e w2 ⟨rfl, f2⟩)
  go_ret
  exact ⟨rfl, F1.out.trans (f2.mono C1.out)⟩
theorem np_of_ {w : World} {v : Value} (h : NoP w v) (pr oi op : Int) : Says Try.prog 14 #[v, .int .u8 pr, .agg #[.int .u32 oi, .int .u16 op]] w (rowV none) := by
  show Calls _ _ _ _ _
  have f1 : Below w.heap.size w ((w.alloc (.cells #[.int .u32 oi, .int .u16 op] 34)).alloc (.cells #[.int .u8 0, .int .u32 0, .int .u16 0, .int .u32 0, .int .u16 0, .int .i64 0, .int .i64 0] 44)) := ((Below.refl _ _).alloc (Nat.le_refl _) _).alloc (by simp) _
  have kn := np_none_ (h.on f1)
  have Z1 := RowB.none (w.alloc (.cells #[.int .u32 oi, .int .u16 op] 34)) 44
  have hz : (w.alloc (.cells #[.int .u32 oi, .int .u16 op] 34)).heap.size = w.heap.size + 1 := by simp
  rw [hz] at Z1
  clear h hz
  go_enter Try.func14, Try.ntmps14
  go_upto_region 1 with fail
  generalize ((w.alloc (.cells #[.int .u32 oi, .int .u16 op] 34)).alloc (.cells #[.int .u8 0, .int .u32 0, .int .u16 0, .int .u32 0, .int .u16 0, .int .i64 0, .int .i64 0] 44)) = w1 at f1 kn Z1 ⊢
  have F1 := Lib.hid f1
  have HZ := Lib.hid Z1
  obtain ⟨_, z0, z1, z2, z3, z4, z5, z6, fr⟩ := id Z1
  simp only [Ro.zero] at z0 z1 z2 z3 z4 z5 z6
  clear f1 Z1
  go_wp2_with (go_at_call 29; refine kn.mono ?_; rintro e w2 ⟨rfl, hw⟩; obtain rfl : w1 = w2 := hw.symm)
  refine row_ (r := Ro.zero) HZ.out fun Y hY bY => ?_
  obtain ⟨_, y0, y1, y2, y3, y4, y5, y6, fy⟩ := id hY
  have B3 := one_box F1.out bY (Nat.le_succ _) F1.out.size
  clear HZ z0 z1 z2 z3 z4 z5 z6 fr bY hY
  go_wp2
  refine bodyPost_ret (v := rowV none) (by simp [results, Try.results14, go_sem, y0, y1, y2, y3, y4, y5, y6, rowV]) rfl ?_
  exact ⟨rfl, B3⟩
theorem np_owner_ {w : World} {v : Value} (h : NoP w v) (pr oi op : Int) : Says Try.prog 15 #[v, .int .u8 pr, .agg #[.int .u32 oi, .int .u16 op]] w (rowV none) := by
  show Calls _ _ _ _ _
  have f1 : Below w.heap.size w ((w.alloc (.cells #[.int .u32 oi, .int .u16 op] 34)).alloc (.cells #[.int .u8 0, .int .u32 0, .int .u16 0, .int .u32 0, .int .u16 0, .int .i64 0, .int .i64 0] 44)) := ((Below.refl _ _).alloc (Nat.le_refl _) _).alloc (by simp) _
  have kn := np_none_ (h.on f1)
  have Z1 := RowB.none (w.alloc (.cells #[.int .u32 oi, .int .u16 op] 34)) 44
  have hz : (w.alloc (.cells #[.int .u32 oi, .int .u16 op] 34)).heap.size = w.heap.size + 1 := by simp
  rw [hz] at Z1
  clear h hz
  go_enter Try.func15, Try.ntmps15
  go_upto_region 1 with fail
  generalize ((w.alloc (.cells #[.int .u32 oi, .int .u16 op] 34)).alloc (.cells #[.int .u8 0, .int .u32 0, .int .u16 0, .int .u32 0, .int .u16 0, .int .i64 0, .int .i64 0] 44)) = w1 at f1 kn Z1 ⊢
  have F1 := Lib.hid f1
  have HZ := Lib.hid Z1
  obtain ⟨_, z0, z1, z2, z3, z4, z5, z6, fr⟩ := id Z1
  simp only [Ro.zero] at z0 z1 z2 z3 z4 z5 z6
  clear f1 Z1
  go_wp2_with (go_at_call 29; refine kn.mono ?_; rintro e w2 ⟨rfl, hw⟩; obtain rfl : w1 = w2 := hw.symm)
  refine row_ (r := Ro.zero) HZ.out fun Y hY bY => ?_
  obtain ⟨_, y0, y1, y2, y3, y4, y5, y6, fy⟩ := id hY
  have B3 := one_box F1.out bY (Nat.le_succ _) F1.out.size
  clear HZ z0 z1 z2 z3 z4 z5 z6 fr bY hY
  go_wp2
  refine bodyPost_ret (v := rowV none) (by simp [results, Try.results15, go_sem, y0, y1, y2, y3, y4, y5, y6, rowV]) rfl ?_
  exact ⟨rfl, B3⟩
theorem np_list_ {w : World} {v : Value} (h : NoP w v) : Says Try.prog 25 #[v] w (.slice none 0 0) := by
  show Calls _ _ _ _ _
  have f1 : Below w.heap.size w w := Below.refl _ _
  have kn := np_none_ (h.on f1)
  have F1 := Lib.hid f1
  clear h f1
  go_enter Try.func25, Try.ntmps25
  go_wp2_with (go_at_call 29; refine kn.mono ?_; rintro e w2 ⟨rfl, rfl⟩)
  go_ret
  exact ⟨rfl, F1.out⟩
theorem np_count_ {w : World} {v : Value} (h : NoP w v) : Says Try.prog 26 #[v] w (.int .i64 0) := by
  show Calls _ _ _ _ _
  have f1 : Below w.heap.size w w := Below.refl _ _
  have kn := np_none_ (h.on f1)
  have F1 := Lib.hid f1
  clear h f1
  go_enter Try.func26, Try.ntmps26
  go_wp2_with (go_at_call 29; refine kn.mono ?_; rintro e w2 ⟨rfl, rfl⟩)
  go_ret
  exact ⟨rfl, F1.out⟩
theorem np_copy_ {w : World} {v : Value} (h : NoP w v) : Says Try.prog 10 #[v] w (.pointer none) := by
  show Calls _ _ _ _ _
  have f1 : Below w.heap.size w w := Below.refl _ _
  have kn := np_none_ (h.on f1)
  have F1 := Lib.hid f1
  clear h f1
  go_enter Try.func10, Try.ntmps10
  go_wp2_with (go_at_call 29; refine kn.mono ?_; rintro e w2 ⟨rfl, rfl⟩)
  go_ret
  exact ⟨rfl, F1.out⟩
def pzNone : PoNone where
  No := NoP
  Z := #[.map none, .map none]
  nil := fun w => .inl rfl
  zrun := fun u => Try.zeroValue63 u
  zero := fun w => .inr ⟨_, rfl, by simp, World.cell?_alloc_mark w _ 63 (0, 0) 0⟩
  on := NoP.on
  takes := fun v x w h => np_take_ h x
  fixes := fun v pr ii ip oi op w h => np_fix_ h pr ii ip oi op
  cons := fun v pr oi op w h => np_con_ h pr oi op
  drps := fun v pr oi op w h => np_drp_ h pr oi op
  rels := fun v pr oi op w h => np_rel_ h pr oi op
  ofs := fun v pr oi op w h => np_of_ h pr oi op
  owners := fun v pr oi op w h => np_owner_ h pr oi op
  lists := fun v w h => np_list_ h
  counts := fun v w h => np_count_ h
  copies := fun v w h => np_copy_ h
end Go.Proofs.Ytbbadpidolfleaa
