/- The code's wheels (layer 15): what the laws ask of them, all of it; wheels that are none. -/
import Derived.Test.YtmephmjlajaopaaWc
import Derived.Test.YtmephmjlajaopaaWb
import Derived.Test.YtmephmjlajaopaaWheelsNone
namespace Go.Proofs.Ytmephmjlajaopaa
set_option linter.unusedVariables false
set_option maxRecDepth 100000
set_option linter.unusedSimpArgs false
open Go.ChangeShapes Go.WideShapes Go.ChangeAt Go.RowKit Go.PlainAid
attribute [local go_sem ↓] Go.wp_at_zero Go.wp_at_succ
/-- A wheel at p, in the blocks S. -/
def whRep (w : World) (S : Nat → Prop) (p : Nat) (x : Wh) : Prop := ∃ (n pb cap sb : Nat) (mb : Nat → Nat), WhI w p x n pb cap sb mb ∧ ∀ k, S k ↔ whS p n pb sb mb k
theorem whRep.lt {w : World} {S : Nat → Prop} {p : Nat} {x : Wh} (h : whRep w S p x) : ∀ k, S k → k < w.heap.size := fun k hk => by
  obtain ⟨n, pb, cap, sb, mb, hw, hs⟩ := h
  exact hw.lt k ((hs k).1 hk)
theorem whRep.keep {w w' : World} {S : Nat → Prop} {p : Nat} {x : Wh} (h : whRep w S p x) (hsz : w.heap.size ≤ w'.heap.size) (hb : ∀ k, S k → w'.heap[k]? = w.heap[k]?) : whRep w' S p x := by
  obtain ⟨n, pb, cap, sb, mb, hw, hs⟩ := h
  exact ⟨n, pb, cap, sb, mb, hw.keep hsz fun k hk => hb k ((hs k).2 hk), hs⟩
def whO : ObjP Wh := ⟨whRep, whRep.lt, whRep.keep⟩
theorem beside_of {w w' : World} {S T : Nat → Prop} (h : Beside T w w') (hs : ∀ k, S k ↔ T k) : Beside S w w' := h.mono fun k _ hk => (hs k).2 hk
def wheelsOk : WheelsOk where
  toObjP := whO
  ok := fun ⟨_, _, _, _, _, hw, _⟩ => hw.ok
  newE := fun n w _ _ h => wz_newE_ n w h
  news := fun n w h1 h64 => (wz_new_ n w h1 h64).mono fun e w' ⟨p, pb, cap, sb, mb, he, hb, hk, hw⟩ => ⟨p, whS p n pb sb mb, he, hb, hk, n, pb, cap, sb, mb, hw, fun k => Iff.rfl⟩
  puts := fun p S x s g d w ⟨n, pb, cap, sb, mb, hw, hs⟩ hl hk => (wz_put_ hw hl hk).mono fun e w' ⟨he, h', hb⟩ => ⟨he, S, ⟨n, pb, cap, sb, mb, h', hs⟩, Fresh.refl _ _, beside_of hb hs⟩
  cuts := fun p S x s g w ⟨n, pb, cap, sb, mb, hw, hs⟩ hl hk => (wz_cut_ hw hk).mono fun e w' ⟨he, h', hb⟩ => ⟨he, S, ⟨n, pb, cap, sb, mb, h', hs⟩, Fresh.refl _ _, beside_of hb hs⟩
  dues := fun p S x s g w ⟨n, pb, cap, sb, mb, hw, hs⟩ hl hk => (wz_due_ hw hk).mono fun e w' ⟨he, f⟩ => ⟨he, f.b⟩
  turns := fun p S x m w ⟨n, pb, cap, sb, mb, hw, hs⟩ hl => (wz_turn_ hw hl m).mono fun e w' ⟨a, c, he, h', hb, hsl, hn⟩ => ⟨a, c, S, he, ⟨n, pb, cap, sb, mb, h', hs⟩, Fresh.refl _ _, beside_of hb hs, hsl, fun b off ea => ⟨fun hk => by have := hw.lt b ((hs b).1 hk); have := (hn b off ea).1; omega, (hn b off ea).1, (hn b off ea).2⟩⟩
  nexts := fun p S x w ⟨n, pb, cap, sb, mb, hw, hs⟩ hl => wz_next_ hw
  counts := fun p S x w ⟨n, pb, cap, sb, mb, hw, hs⟩ hl => wz_count_ hw
/-- A pointer that is nil, or at a wheel that New did not make. -/
def NoW (w : World) (v : Value) : Prop := v = .pointer none ∨ ∃ p, v = .pointer (some ⟨p, 0, none⟩) ∧ p < w.heap.size ∧ w.cell? ⟨p, 1, none⟩ = some (.slice none 0 0)
theorem NoW.on {w w' : World} {v : Value} (h : NoW w v) (hb : Below w.heap.size w w') : NoW w' v := by
  rcases h with h | ⟨p, h, lp, hc⟩
  · exact .inl h
  · exact .inr ⟨p, h, Nat.lt_of_lt_of_le lp hb.size, (hb.cell (p := ⟨p, 1, none⟩) lp).trans hc⟩
theorem no_none_ {w : World} {v : Value} (h : NoW w v) : Calls Try.prog 27 #[v] w fun e w' => e = .returned (.bool true) ∧ w' = w := by
  rcases h with rfl | ⟨p, rfl, lp, c1⟩
  · go_enter Try.func27, Try.ntmps27
    go_wp2
    go_ret
    exact ⟨rfl, rfl⟩
  · go_enter Try.func27, Try.ntmps27
    go_wp2
    go_ret
    exact ⟨rfl, rfl⟩
theorem no_has_ {w : World} {v : Value} (h : NoW w v) (s g : Int) : Calls Try.prog 25 #[v, .agg #[.int .i64 s, .int .u32 g]] w fun e w' => e = .returned (.bool false) ∧ Below w.heap.size w w' := by
  have f1 : Below w.heap.size w (w.alloc (.cells #[.int .i64 s, .int .u32 g] 34)) := (Below.refl _ _).alloc (Nat.le_refl _) _
  have kn := no_none_ (h.on f1)
  have F1 := Lib.hid f1
  clear h f1
  go_enter Try.func25, Try.ntmps25
  go_wp2_with (go_at_call 27; refine kn.mono ?_; rintro e w2 ⟨rfl, rfl⟩)
  go_ret
  exact ⟨rfl, F1.out⟩
theorem no_due_ {w : World} {v : Value} (h : NoW w v) (s g : Int) : Calls Try.prog 19 #[v, .agg #[.int .i64 s, .int .u32 g]] w fun e w' => e = .returned (.tuple #[.int .i64 0, .bool false]) ∧ Below w.heap.size w w' := by
  have f1 : Below w.heap.size w (w.alloc (.cells #[.int .i64 s, .int .u32 g] 34)) := (Below.refl _ _).alloc (Nat.le_refl _) _
  have b0 := World.cell?_alloc_mark w #[.int .i64 s, .int .u32 g] 34 (0, 0) 0
  have b1 := World.cell?_alloc_mark w #[.int .i64 s, .int .u32 g] 34 (0, 0) 1
  have kn := no_has_ (h.on f1) s g
  have F1 := Lib.hid f1
  have C1 := Lib.hid f1.size
  clear h f1
  go_enter Try.func19, Try.ntmps19
  go_upto_region 1 with fail
  generalize w.alloc (.cells #[.int .i64 s, .int .u32 g] 34) = w1 at b0 b1 kn F1 C1 ⊢
  generalize w.heap.size = c at b0 b1 ⊢
  go_wp2_with (go_at_call 25; refine kn.mono ?_; rintro e w2 ⟨rfl, f2⟩)
  go_ret2
  exact ⟨rfl, F1.out.trans (f2.mono C1.out)⟩
theorem no_cut_ {w : World} {v : Value} (h : NoW w v) (s g : Int) : Calls Try.prog 12 #[v, .agg #[.int .i64 s, .int .u32 g]] w fun e w' => e = .returned (.bool false) ∧ Below w.heap.size w w' := by
  have f1 : Below w.heap.size w (w.alloc (.cells #[.int .i64 s, .int .u32 g] 34)) := (Below.refl _ _).alloc (Nat.le_refl _) _
  have b0 := World.cell?_alloc_mark w #[.int .i64 s, .int .u32 g] 34 (0, 0) 0
  have b1 := World.cell?_alloc_mark w #[.int .i64 s, .int .u32 g] 34 (0, 0) 1
  have kn := no_has_ (h.on f1) s g
  have F1 := Lib.hid f1
  have C1 := Lib.hid f1.size
  clear h f1
  go_enter Try.func12, Try.ntmps12
  go_upto_region 1 with fail
  generalize w.alloc (.cells #[.int .i64 s, .int .u32 g] 34) = w1 at b0 b1 kn F1 C1 ⊢
  generalize w.heap.size = c at b0 b1 ⊢
  go_wp2_with (go_at_call 25; refine kn.mono ?_; rintro e w2 ⟨rfl, f2⟩)
  go_ret
  exact ⟨rfl, F1.out.trans (f2.mono C1.out)⟩
theorem no_put_ {w : World} {v : Value} (h : NoW w v) (s g d : Int) : Calls Try.prog 17 #[v, .agg #[.int .i64 s, .int .u32 g], .int .i64 d] w fun e w' => e = .returned (.int .i64 1) ∧ Below w.heap.size w w' := by
  have f1 : Below w.heap.size w (w.alloc (.cells #[.int .i64 s, .int .u32 g] 34)) := (Below.refl _ _).alloc (Nat.le_refl _) _
  have kn := no_none_ (h.on f1)
  have F1 := Lib.hid f1
  clear h f1
  go_enter Try.func17, Try.ntmps17
  go_wp2_with (go_at_call 27; refine kn.mono ?_; rintro e w2 ⟨rfl, rfl⟩)
  go_ret
  exact ⟨rfl, F1.out⟩
theorem no_turn_ {w : World} {v : Value} (h : NoW w v) (n : Int) : Calls Try.prog 14 #[v, .int .i64 n] w fun e w' => ∃ a c, e = .returned (.tuple #[.slice a 0 c, .int .i64 1]) ∧ Below w.heap.size w w' := by
  have kn := no_none_ h
  clear h
  go_enter Try.func14, Try.ntmps14
  go_wp2_with (go_at_call 27; refine kn.mono ?_; rintro e w2 ⟨rfl, rfl⟩)
  go_ret2
  exact ⟨none, 0, rfl, Below.refl _ _⟩
theorem no_next_ {w : World} {v : Value} (h : NoW w v) : Calls Try.prog 21 #[v] w fun e w' => e = .returned (.tuple #[.int .i64 0, .bool false]) ∧ Below w.heap.size w w' := by
  have kn := no_none_ h
  clear h
  go_enter Try.func21, Try.ntmps21
  go_wp2_with (go_at_call 27; refine kn.mono ?_; rintro e w2 ⟨rfl, rfl⟩)
  go_ret2
  exact ⟨rfl, Below.refl _ _⟩
theorem no_count_ {w : World} {v : Value} (h : NoW w v) : Calls Try.prog 23 #[v] w fun e w' => e = .returned (.int .i64 0) ∧ Below w.heap.size w w' := by
  have kn := no_none_ h
  clear h
  go_enter Try.func23, Try.ntmps23
  go_wp2_with (go_at_call 27; refine kn.mono ?_; rintro e w2 ⟨rfl, rfl⟩)
  go_ret
  exact ⟨rfl, Below.refl _ _⟩
def whNone : WhNone where
  No := NoW
  Z := #[.int .i64 0, .slice none 0 0, .map none]
  nil := fun w => .inl rfl
  zrun := fun u => Try.zeroValue55 u
  zero := fun w => .inr ⟨_, rfl, by simp, World.cell?_alloc_mark w _ 55 (0, 0) 1⟩
  on := NoW.on
  turns := fun v n w h => no_turn_ h n
  dues := fun v s g w h => no_due_ h s g
  nexts := fun v w h => no_next_ h
  puts := fun v s g n w h => no_put_ h s g n
  cuts := fun v s g w h => no_cut_ h s g
  counts := fun v w h => no_count_ h
end Go.Proofs.Ytmephmjlajaopaa
