/- Texts of this proof, together: WheM, WheA, WheS, WheW. -/
import Derived.Test.YtmephmjlajaopaaWheK
import Derived.Test.YtmephmjlajaopaaPlace
import Derived.Test.YtmephmjlajaopaaRegion
import Derived.BigRegion
import Derived.Deep.DeepCutAuto
namespace Go.Proofs.Ytmephmjlajaopaa
set_option linter.unusedVariables false
set_option linter.unusedSimpArgs false
open Go.ChangeShapes Go.WideShapes Go.ChangeAt Go.RowKit Go.PlainAid
/-- The document's timers. -/
def eltT : Elt Ti where
  enc x := [.int .i64 x.s, .int .u32 x.g, .int .i64 (x.d : Int)]
  d := Ti.zero
  k := 3
  bytes := 24
  T := 71
  TS := 38
  pos := by decide
  len _ := rfl
  one x u hu := by
    simp only [List.mem_cons, List.not_mem_nil, or_false] at hu
    rcases hu with rfl | rfl | rfl <;> rfl
  und := Try.underlying38
  el := by kernel_rfl
  inf := by
    have h : (Try.prog.info? 71).map (fun i => (i.zero, i.size, i.bytes)) = some (some (.agg #[.int .i64 0, .int .u32 0, .int .i64 0]), 3, 24) := by kernel_rfl
    cases hq : Try.prog.info? 71 with
    | none => rw [hq] at h; simp at h
    | some i0 =>
      rw [hq] at h
      simp only [Option.map_some, Option.some.injEq, Prod.mk.injEq] at h
      exact ⟨i0, _, rfl, h.1, h.2.1, h.2.2, rfl⟩
  sz w := Try.sizeOf71 w
/-- A timer's cells. -/
theorem timer_at {w : World} {a : Option Addr} {l : List Ti} (h : eltT.Row w a l) {i : Nat} (hi : i < l.length) : ∃ b off, a = some ⟨b, off, none⟩ ∧ b < w.heap.size ∧ w.cell? ⟨b, off + i * 3, none⟩ = some (.int .i64 (l.getD i Ti.zero).s) ∧ w.cell? ⟨b, off + i * 3 + 1, none⟩ = some (.int .u32 (l.getD i Ti.zero).g) ∧ w.cell? ⟨b, off + i * 3 + 2, none⟩ = some (.int .i64 ((l.getD i Ti.zero).d : Int)) := by
  obtain ⟨b, off, e, h1, h2⟩ := h.at hi
  exact ⟨b, off, e, h1, h2 0 _ (by decide) rfl, h2 1 _ (by decide) rfl, h2 2 _ (by decide) rfl⟩
/-- A handle's cells. -/
theorem handle_at {w : World} {a : Option Addr} {l : List (Int × Int)} (h : eltH.Row w a l) {i : Nat} (hi : i < l.length) : ∃ b off, a = some ⟨b, off, none⟩ ∧ b < w.heap.size ∧ w.cell? ⟨b, off + i * 2, none⟩ = some (.int .i64 (l.getD i (0, 0)).1) ∧ w.cell? ⟨b, off + i * 2 + 1, none⟩ = some (.int .u32 (l.getD i (0, 0)).2) := by
  obtain ⟨b, off, e, h1, h2⟩ := h.at hi
  exact ⟨b, off, e, h1, h2 0 _ (by decide) rfl, h2 1 _ (by decide) rfl⟩
/-- The document's wheel: a block of two cells; a row of what it has. -/
structure WhD (w : World) (S : Nat → Prop) (p : Nat) (a : Option Addr) (c : Nat) (x : Wh) : Prop where
  lt : ∀ k, S k → k < w.heap.size
  inp : S p
  c0 : w.cell? ⟨p, 0, none⟩ = some (.int .i64 (x.last : Int))
  c1 : w.cell? ⟨p, 1, none⟩ = some (.slice a x.l.length c)
  f : ∀ i, w.frozen? ⟨p, i, none⟩ = false
  sl : eltT.Sl w a c x.l
  ns : ∀ b off, a = some ⟨b, off, none⟩ → S b ∧ b ≠ p
  ok : x.Ok
def WhR (w : World) (S : Nat → Prop) (p : Nat) (x : Wh) : Prop := ∃ a c, WhD w S p a c x
theorem WhD.keep {w w' : World} {S : Nat → Prop} {p c : Nat} {a : Option Addr} {x : Wh} (h : WhD w S p a c x) (hs : w.heap.size ≤ w'.heap.size) (hb : ∀ k, S k → w'.heap[k]? = w.heap[k]?) : WhD w' S p a c x :=
  have hp := hb p h.inp
  ⟨fun k hk => Nat.lt_of_lt_of_le (h.lt k hk) hs, h.inp, (World.cell?_of_block (w := w) (a := ⟨p, 0, none⟩) hp).trans h.c0, (World.cell?_of_block (w := w) (a := ⟨p, 1, none⟩) hp).trans h.c1,
    fun i => (World.frozen?_of_block (w := w) (a := ⟨p, i, none⟩) hp).trans (h.f i), h.sl.keep hs (fun b off e => hb b (h.ns b off e).1), h.ns, h.ok⟩
theorem WhD.on {w w' : World} {S : Nat → Prop} {p c : Nat} {a : Option Addr} {x : Wh} (h : WhD w S p a c x) (hb : Below w.heap.size w w') : WhD w' S p a c x := h.keep hb.size fun k hk => hb.block k (h.lt k hk)
def whR : ObjP Wh where
  Rep := WhR
  lt := fun ⟨_, _, h⟩ => h.lt
  keep := fun ⟨a, c, h⟩ hs hb => ⟨a, c, h.keep hs hb⟩
/-- Another list takes the place of what it had. -/
theorem WhD.relist {w0 w : World} {S : Nat → Prop} {p c c' : Nat} {a a' : Option Addr} {x : Wh} {l' : List Ti} (h0 : WhD w0 S p a c x) (hB : Below w0.heap.size w0 w) (hs : eltT.Sl w a' c' l') (hn : ∀ b off, a' = some ⟨b, off, none⟩ → b < w.heap.size ∧ (w0.heap.size ≤ b ∨ S b ∧ b ≠ p)) (ok : ({ x with l := l' } : Wh).Ok) :
    WhD (w.setCell ⟨p, 1, none⟩ (.slice a' l'.length c')) (fun k => k = p ∨ ∃ off, a' = some ⟨k, off, none⟩) p a' c' { x with l := l' } ∧ Fresh w0 S (fun k => k = p ∨ ∃ off, a' = some ⟨k, off, none⟩) ∧ Beside S w0 (w.setCell ⟨p, 1, none⟩ (.slice a' l'.length c')) := by
  have h := h0.on hB
  have hk1 : ∀ j, j ≠ p → (w.setCell ⟨p, 1, none⟩ (.slice a' l'.length c')).heap[j]? = w.heap[j]? := fun j hj => Below.heap_setCell _ _ _ _ hj
  have hp0 := h0.lt p h0.inp
  have sz : w.heap.size ≤ (w.setCell ⟨p, 1, none⟩ (.slice a' l'.length c')).heap.size := by simp [World.setCell]
  have n4 : ∀ b off, a' = some ⟨b, off, none⟩ → b ≠ p := fun b off e => by
    rcases (hn b off e).2 with h | h
    · intro e2; omega
    · exact h.2
  refine ⟨⟨fun k hk => ?_, .inl rfl, ?_, World.cell?_setCell_same' _ _ _ (by rw [h.c1]; rfl), fun i => by rw [World.frozen?_setCell]; exact h.f i, hs.keep sz (fun b off e => hk1 b (n4 b off e)), fun b off e => ⟨.inr ⟨off, e⟩, n4 b off e⟩, ok⟩, fun k hk hS => ?_, (Beside.of hB).setCell (p := ⟨p, 1, none⟩) h0.inp _⟩
  · refine Nat.lt_of_lt_of_le ?_ sz
    rcases hk with rfl | ⟨off, e⟩
    · exact h.lt _ h.inp
    · exact (hn k off e).1
  · rw [World.cell?_setCell_other _ _ _ _ (by intro he; injection he with h5 h6; omega)]; exact h.c0
  · rcases hS with rfl | ⟨off, e⟩
    · exact h0.inp
    · rcases (hn k off e).2 with h | h
      · omega
      · exact h.1
end Go.Proofs.Ytmephmjlajaopaa

namespace Go.Proofs.Ytmephmjlajaopaa
set_option linter.unusedVariables false
set_option linter.unusedSimpArgs false
open Go.ChangeShapes Go.WideShapes Go.ChangeAt Go.RowKit Go.PlainAid
attribute [local go_sem ↓] Go.wp_at_zero Go.wp_at_succ
theorem says_same {P : Program} {f : FuncId} {args : Array Value} {w : World} {v : Value} (h : Calls P f args w fun e w' => e = .returned v ∧ w = w') : Says P f args w v := Calls.mono h fun _ _ ⟨he, hb⟩ => ⟨he, hb ▸ Below.refl _ _⟩
theorem step_less15 {j n : Nat} (h : j < n) : n - (j + 1) < n - j := by omega
theorem step_meas15 {j n : Nat} (h : wrap64 ((j : Int) + 1) = (j : Int) + 1) (hl : n - (j + 1) < n - j) : n - (intOf (.int .i64 (wrap64 ((j : Int) + 1)))).toNat < n - (intOf (.int .i64 (j : Int))).toNat := by
  rw [h]; exact hl
theorem step_15 {j : Nat} (h : j < 4611686018427387904) : wrap64 ((j : Int) + 1) = ((j + 1 : Nat) : Int) := by
  rw [IntWalk.wrap64_in _ (by omega)]; omega
theorem ix15 {i n : Nat} (h : i < n) : decide ((i : Int) < (n : Int)) = true ∧ (i : Int) < (n : Int) ∧ (0 : Int) ≤ (i : Int) := ⟨by simpa using h, Int.ofNat_lt.2 h, Int.natCast_nonneg _⟩
set_option maxHeartbeats 1000000 in
set_option maxRecDepth 100000 in
theorem rnewE15_ (n : Int) (w : World) (hn : n < 1 ∨ 64 < n) : Calls Try.prog 10 #[.int .i64 n] w fun e w' => e = .returned (.tuple #[.pointer none, .int .i64 2]) ∧ w = w' := by
  by_cases h : n < 1
  · have e1 : decide (n < 1) = true := by simpa using h
    clear h hn
    go_enter Try.func10, Try.ntmps10
    go_wp2
    go_ret2
    exact ⟨rfl, rfl⟩
  · have e1 : decide (n < 1) = false := by simpa using h
    have e2 : decide (64 < n) = true := by simp; omega
    clear h hn
    go_enter Try.func10, Try.ntmps10
    go_wp2
    go_ret2
    exact ⟨rfl, rfl⟩
set_option maxHeartbeats 1000000 in
set_option maxRecDepth 100000 in
theorem rnew15_ (n : Nat) (w : World) (h1 : 1 ≤ n) (h2 : n ≤ 64) : Calls Try.prog 10 #[.int .i64 (n : Int)] w fun e w' => ∃ q S, e = .returned (.tuple #[.pointer (some ⟨q, 0, none⟩), .int .i64 0]) ∧ Below w.heap.size w w' ∧ (∀ k, S k → w.heap.size ≤ k) ∧ WhR w' S q Wh.new := by
  have e1 : decide ((n : Int) < 1) = false := by simp; omega
  have e2 : decide (64 < (n : Int)) = false := by simp; omega
  go_enter Try.func10, Try.ntmps10
  go_wp2
  go_ret2
  refine ⟨w.heap.size, fun k => k = w.heap.size, rfl, (Below.refl _ _).alloc (Nat.le_refl _) _, fun k e => Nat.le_of_eq e.symm, none, 0, ⟨fun k e => ?_, rfl, ?_, ?_, fun i => ?_, Elt.Sl.nil _, (fun b off e => by cases e), Wh.Ok.new⟩⟩
  · simp only [World.size_alloc]; omega
  · simp [go_sem, Wh.new]
  · simp [go_sem, Wh.new]
  · simp [go_sem]
set_option maxHeartbeats 1000000 in
set_option maxRecDepth 100000 in
theorem rcount15_ (S p x) (w : World) (H : WhR w S p x) : Calls Try.prog 24 #[.pointer (some ⟨p, 0, none⟩)] w fun e w' => e = .returned (.int .i64 (x.l.length : Int)) ∧ w = w' := by
  obtain ⟨a, c, H⟩ := H
  have c1 := H.c1
  clear H
  go_enter Try.func24, Try.ntmps24
  go_wp2
  go_ret
  exact ⟨rfl, rfl⟩
set_option maxHeartbeats 1000000 in
set_option maxRecDepth 100000 in
theorem rnext15_ (S p x) (w : World) (H : WhR w S p x) : Calls Try.prog 22 #[.pointer (some ⟨p, 0, none⟩)] w fun e w' => e = .returned (.tuple #[.int .i64 (x.nextN : Int), .bool x.nextB]) ∧ w = w' := by
  obtain ⟨a, c, H⟩ := H
  have c1 := H.c1
  have HR := Lib.hid H.sl.row
  clear H
  obtain ⟨la, l⟩ := x
  simp only at c1 HR
  cases l with
  | nil =>
    simp only [List.length_nil] at c1
    go_enter Try.func22, Try.ntmps22
    go_wp2
    go_ret2
    exact ⟨rfl, rfl⟩
  | cons t l =>
    obtain ⟨b, off, rfl, hb, y0, y1, y2⟩ := timer_at HR.out (i := 0) (Nat.succ_pos _)
    have e1 : ((((t :: l).length : Nat) : Int) == 0) = false := beq_false_of_ne (by simp only [List.length_cons]; omega)
    have e2 : ((t :: l).length == 0) = false := rfl
    have e3 : (0 : Int) < (((t :: l).length : Nat) : Int) := by simp only [List.length_cons]; omega
    have y2' : w.cell? ⟨b, off + 2, none⟩ = some (.int .i64 (t.d : Int)) := by simpa using y2
    clear y0 y1 y2 hb HR
    generalize hN : (t :: l).length = N at c1 e1 e2 e3
    clear hN
    go_enter Try.func22, Try.ntmps22
    go_wp2
    go_ret2
    exact ⟨rfl, rfl⟩
/-- Two handles, compared. -/
theorem is_val (t : Ti) (s g : Int) : (t.s == s && t.g == g) = t.is s g := rfl
set_option maxHeartbeats 2000000 in
set_option maxRecDepth 100000 in
theorem rfind15_ (S p x) (s g : Int) (w : World) (H : WhR w S p x) (hl : x.l.length ≤ 1000) : Says Try.prog 26 #[.pointer (some ⟨p, 0, none⟩), .agg #[.int .i64 s, .int .u32 g]] w (.int .i64 (firstAt x.l fun t => t.is s g)) := by
  obtain ⟨a, c, H⟩ := H
  have B1 : Below w.heap.size w (w.alloc (.cells #[.int .i64 s, .int .u32 g] 34)) := (Below.refl _ _).alloc (Nat.le_refl _) _
  have H1 := H.on B1
  have b0 : (w.alloc (.cells #[.int .i64 s, .int .u32 g] 34)).cell? ⟨w.heap.size, 0, none⟩ = some (.int .i64 s) := by simp [go_sem]
  have b1 : (w.alloc (.cells #[.int .i64 s, .int .u32 g] 34)).cell? ⟨w.heap.size, 1, none⟩ = some (.int .u32 g) := by simp [go_sem]
  have hs : (w.alloc (.cells #[.int .i64 s, .int .u32 g] 34)).heap.size = w.heap.size + 1 := by simp
  have HL := Lib.hid hl
  clear H hl
  show Calls _ _ _ _ _
  go_enter Try.func26, Try.ntmps26
  go_upto_region 1 with fail
  obtain ⟨u, hu⟩ : ∃ x_ : World, x_ = w.alloc (.cells #[.int .i64 s, .int .u32 g] 34) := ⟨_, rfl⟩
  rw [← hu] at B1 H1 b0 b1 hs ⊢
  clear hu
  have Hb := Lib.hid (show w.heap.size < u.heap.size by omega)
  clear hs
  have HH := Lib.hid H1
  have HC := Lib.hid (And.intro b0 b1)
  clear H1 b0 b1
  go_upto_region 2 with fail
  go_loopw [5] (fun si wr => ∃ i : Nat, i ≤ x.l.length ∧ si = .int .i64 (i : Int) ∧ Below u.heap.size u wr ∧ Hid (∀ j, j < i → (x.l.getD j Ti.zero).is s g = false)) (fun si _ => x.l.length - (intOf si).toNat)
  case atStart => exact ⟨0, Nat.zero_le _, rfl, Below.refl _ _, fun j hj => absurd hj (Nat.not_lt_zero j)⟩
  case round =>
    obtain ⟨i, hi, rfl, bb, HF⟩ := hrel
    have EW := Lib.hid (step_15 (j := i) (Nat.lt_of_le_of_lt (Nat.le_trans hi HL.out) (by decide)))
    have H2 := HH.out.on bb
    have c1 := H2.c1
    by_cases hlt : i < x.l.length
    · have HI := Lib.hid hlt
      obtain ⟨e10, e12, e13⟩ := ix15 hlt
      obtain ⟨b, off, rfl, hb, y0, y1, _⟩ := timer_at H2.sl.row hlt
      have z0 := (bb.cell (p := ⟨w.heap.size, 0, none⟩) Hb.out).trans HC.out.1
      have z1 := (bb.cell (p := ⟨w.heap.size, 1, none⟩) Hb.out).trans HC.out.2
      obtain ⟨t, ht⟩ : ∃ t_, t_ = x.l.getD i Ti.zero := ⟨_, rfl⟩
      rw [← ht] at y0 y1
      have HT := Lib.hid ht
      clear ht hlt hi hb H2
      have key : t.is s g = (t.s == s && t.g == g) := rfl
      cases hq : t.is s g with
      | true =>
        have HV : Hid (firstAt x.l (fun t => t.is s g) = (i : Int)) := firstAt_hit HI.out HF.out (by rw [← HT.out]; exact hq)
        obtain ⟨q1, q2⟩ := (t.is_iff s g).1 hq
        rw [q1] at y0
        rw [q2] at y1
        clear hq key q1 q2
        go_wp2
        go_region
        go_wp2
        go_ret
        exact ⟨by rw [HV.out]; rfl, B1.trans ((bb.mono B1.size).trans ((Below.refl _ _).drew.mono (Nat.le_trans B1.size bb.size)))⟩
      | false =>
        have HN : Hid ((x.l.getD i Ti.zero).is s g = false) := by show _ = _; rw [← HT.out]; exact hq
        have hk : ¬ (t.s = s ∧ t.g = g) := fun e => by rw [(t.is_iff s g).2 e] at hq; cases hq
        obtain ⟨t1, t2, t3⟩ := t
        simp only at y0 y1 hk
        by_cases n1 : t1 = s
        · have n2 : ¬ t2 = g := fun e => hk ⟨n1, e⟩
          subst n1
          clear key hq HT hk
          go_wp2
          go_region
          have bk := bb.drew
          generalize wr.drew = wy at bk ⊢
          clear y0 y1 z0 z1 c1
          go_wp2
          go_roundw
          case rel => exact ⟨i + 1, HI.out, by simp [EW.out], bk, fun j hj => by
            by_cases e : j = i
            · rw [e]; exact HN.out
            · exact HF.out j (by omega)⟩
          case measure => first | exact step_meas15 EW.out (step_less15 HI.out) | (simp [EW.out]; exact step_less15 HI.out) | exact step_less15 HI.out
        · clear key hq HT hk
          go_wp2
          go_region
          have bk := bb.drew
          generalize wr.drew = wy at bk ⊢
          clear y0 y1 z0 z1 c1
          go_wp2
          go_roundw
          case rel => exact ⟨i + 1, HI.out, by simp [EW.out], bk, fun j hj => by
            by_cases e : j = i
            · rw [e]; exact HN.out
            · exact HF.out j (by omega)⟩
          case measure => first | exact step_meas15 EW.out (step_less15 HI.out) | (simp [EW.out]; exact step_less15 HI.out) | exact step_less15 HI.out
    · obtain rfl : i = x.l.length := Nat.le_antisymm hi (Nat.le_of_not_lt hlt)
      have t1 : decide ((x.l.length : Int) < (x.l.length : Int)) = false := by simp
      have HV : Hid (firstAt x.l (fun t => t.is s g) = -1) := firstAt_none HF.out
      clear hlt hi H2
      go_wp2
      go_ret
      exact ⟨by rw [HV.out]; rfl, B1.trans (bb.mono B1.size)⟩
set_option maxHeartbeats 1000000 in
set_option maxRecDepth 100000 in
theorem rdue15_ (S p x) (s g : Int) (w : World) (H : WhR w S p x) (hl : x.l.length ≤ 1000) : Says Try.prog 20 #[.pointer (some ⟨p, 0, none⟩), .agg #[.int .i64 s, .int .u32 g]] w (.tuple #[.int .i64 (x.dueN s g : Int), .bool (x.has s g)]) := by
  have HR := Lib.hid H
  have B1 : Below w.heap.size w (w.alloc (.cells #[.int .i64 s, .int .u32 g] 34)) := (Below.refl _ _).alloc (Nat.le_refl _) _
  have b0 : (w.alloc (.cells #[.int .i64 s, .int .u32 g] 34)).cell? ⟨w.heap.size, 0, none⟩ = some (.int .i64 s) := by simp [go_sem]
  have b1 : (w.alloc (.cells #[.int .i64 s, .int .u32 g] 34)).cell? ⟨w.heap.size, 1, none⟩ = some (.int .u32 g) := by simp [go_sem]
  have cf : Says _ _ _ (w.alloc (.cells #[.int .i64 s, .int .u32 g] 34)) _ := rfind15_ S p x s g _ (whR.on H B1) hl
  show Calls _ _ _ _ _
  cases hh : x.has s g with
  | true =>
    obtain ⟨i, e1, hi, _, e4, _⟩ := firstAt_at Ti.zero (show x.l.any (fun t => t.is s g) = true from hh)
    rw [e1] at cf
    have ei : decide ((i : Int) < 0) = false := by simp
    obtain ⟨f1, f2, f3⟩ := ix15 hi
    have HV : Hid (x.dueN s g = (x.l.getD i Ti.zero).d) := by show _ = _; unfold Wh.dueN; rw [e4]
    go_enter Try.func20, Try.ntmps20
    go_upto_region 1 with fail
    obtain ⟨u, hu⟩ : ∃ x_ : World, x_ = w.alloc (.cells #[.int .i64 s, .int .u32 g] 34) := ⟨_, rfl⟩
    rw [← hu] at B1 b0 b1 cf ⊢
    clear hu e1 e4 hh
    go_wp2_with fail
    refine cf.mono ?_; rintro e w2 ⟨rfl, b2⟩
    clear b0 b1 cf
    have B2 := B1.trans (b2.mono B1.size)
    obtain ⟨a, c, H2⟩ := whR.on HR.out B2
    have c1 := H2.c1
    obtain ⟨b, off, rfl, hb, _, _, y2⟩ := timer_at H2.sl.row hi
    clear H2 hb H HR hl hi
    generalize x.l.getD i Ti.zero = t at y2 HV
    go_wp2
    go_ret2
    rw [HV.out]
    exact ⟨rfl, B2⟩
  | false =>
    have e1 : firstAt x.l (fun t => t.is s g) = -1 := by unfold firstAt; rw [if_neg (by rw [show x.l.any (fun t => t.is s g) = false from hh]; decide)]
    rw [e1] at cf
    have HV : Hid (x.dueN s g = 0) := by
      show _ = _
      unfold Wh.dueN
      rw [List.find?_eq_none.2 (fun t ht => by simpa using List.any_eq_false.1 hh t ht)]
    go_enter Try.func20, Try.ntmps20
    go_upto_region 1 with fail
    obtain ⟨u, hu⟩ : ∃ x_ : World, x_ = w.alloc (.cells #[.int .i64 s, .int .u32 g] 34) := ⟨_, rfl⟩
    rw [← hu] at B1 b0 b1 cf ⊢
    clear hu e1 hh
    go_wp2_with fail
    refine cf.mono ?_; rintro e w2 ⟨rfl, b2⟩
    clear b0 b1 cf
    have B2 := B1.trans (b2.mono B1.size)
    clear H HR hl
    go_wp2
    go_ret2
    rw [HV.out]
    exact ⟨rfl, B2⟩
end Go.Proofs.Ytmephmjlajaopaa

namespace Go.Proofs.Ytmephmjlajaopaa
set_option linter.unusedVariables false
set_option linter.unusedSimpArgs false
open Go.ChangeShapes Go.WideShapes Go.ChangeAt Go.RowKit Go.PlainAid
attribute [local go_sem ↓] Go.wp_at_zero Go.wp_at_succ
/-- A row that was told: apart from an object's blocks. -/
structure Kept (w : World) (S : Nat → Prop) (a : Option Addr) (c : Nat) (L : List (Int × Int)) : Prop where
  sl : eltH.Sl w a c L
  far : ∀ b off, a = some ⟨b, off, none⟩ → b < w.heap.size ∧ ¬ S b
theorem Kept.on {w w' : World} {S : Nat → Prop} {a : Option Addr} {c : Nat} {L : List (Int × Int)} (h : Kept w S a c L) (hb : Below w.heap.size w w') : Kept w' S a c L := ⟨h.sl.on hb, fun b off e => ⟨Nat.lt_of_lt_of_le (h.far b off e).1 hb.size, (h.far b off e).2⟩⟩
theorem Kept.by {w w' : World} {S S' : Nat → Prop} {a : Option Addr} {c : Nat} {L : List (Int × Int)} (h : Kept w S a c L) (hb : Beside S w w') (hf : Fresh w S S') : Kept w' S' a c L :=
  ⟨h.sl.by hb (fun b off e => (h.far b off e).2), fun b off e => ⟨Nat.lt_of_lt_of_le (h.far b off e).1 hb.size, hf.not (h.far b off e).1 (h.far b off e).2⟩⟩
theorem Kept.new {w : World} {S : Nat → Prop} {L : List (Int × Int)} (T : TypeId) (cs : Array Value) (hc : cs.toList = eltH.vals L) (hS : ∀ k, S k → k < w.heap.size) : Kept (w.alloc (.cells cs T)) S (some ⟨w.heap.size, 0, none⟩) L.length L :=
  ⟨Elt.Sl.lit w L T cs hc, fun b off e => by injection e with e; injection e with e1 e2 e3; subst e1; exact ⟨by simp, fun h => Nat.lt_irrefl _ (hS _ h)⟩⟩
/-- Four handles' cells. -/
theorem Kept.four {w : World} {S : Nat → Prop} {b c : Nat} {s0 g0 s1 g1 s2 g2 s3 g3 : Int} (h : Kept w S (some ⟨b, 0, none⟩) c [(s0, g0), (s1, g1), (s2, g2), (s3, g3)]) :
    w.cell? ⟨b, 0, none⟩ = some (.int .i64 s0) ∧ w.cell? ⟨b, 1, none⟩ = some (.int .u32 g0) ∧ w.cell? ⟨b, 2, none⟩ = some (.int .i64 s1) ∧ w.cell? ⟨b, 3, none⟩ = some (.int .u32 g1) ∧ w.cell? ⟨b, 4, none⟩ = some (.int .i64 s2) ∧ w.cell? ⟨b, 5, none⟩ = some (.int .u32 g2) ∧ w.cell? ⟨b, 6, none⟩ = some (.int .i64 s3) ∧ w.cell? ⟨b, 7, none⟩ = some (.int .u32 g3) := by
  have key : ∀ i (hi : i < 4), w.cell? ⟨b, i * 2, none⟩ = some (.int .i64 ([(s0, g0), (s1, g1), (s2, g2), (s3, g3)].getD i (0, 0)).1) ∧ w.cell? ⟨b, i * 2 + 1, none⟩ = some (.int .u32 ([(s0, g0), (s1, g1), (s2, g2), (s3, g3)].getD i (0, 0)).2) := fun i hi => by
    obtain ⟨b', off, e, _, h1, h2⟩ := handle_at h.sl.row (i := i) hi
    injection e with e; injection e with e1 e2 e3
    subst e1 e2
    rw [Nat.zero_add] at h1 h2
    exact ⟨h1, h2⟩
  exact ⟨(key 0 (by decide)).1, (key 0 (by decide)).2, (key 1 (by decide)).1, (key 1 (by decide)).2, (key 2 (by decide)).1, (key 2 (by decide)).2, (key 3 (by decide)).1, (key 3 (by decide)).2⟩
set_option maxHeartbeats 1000000 in
set_option maxRecDepth 100000 in
theorem same15_ (a b : Option Addr) (ca cb : Nat) (L : List (Int × Int)) (w : World) (hl : L.length ≤ 1000) (ha : eltH.Sl w a ca L) (hb : eltH.Sl w b cb L) : Says Try.prog 16 #[.slice a L.length ca, .slice b L.length cb] w (.bool true) := by
  show Calls _ _ _ _ _
  have HA := Lib.hid ha
  have HB := Lib.hid hb
  have HL := Lib.hid hl
  clear ha hb hl
  go_enter Try.func16, Try.ntmps16
  go_upto_region 4 with fail
  go_loopw [5] (fun si wr => ∃ i : Nat, i ≤ L.length ∧ si = .int .i64 (i : Int) ∧ Below w.heap.size w wr) (fun si _ => L.length - (intOf si).toNat)
  case atStart => exact ⟨0, Nat.zero_le _, rfl, Below.refl _ _⟩
  case round =>
    obtain ⟨k, hk, rfl, br⟩ := hrel
    have EW := Lib.hid (step_15 (j := k) (Nat.lt_of_le_of_lt (Nat.le_trans hk HL.out) (by decide)))
    by_cases hlt : k < L.length
    · obtain ⟨ba, oa, rfl, hla, x0, x1⟩ := handle_at (HA.out.on br).row hlt
      obtain ⟨bb, ob, rfl, hlb, y0, y1⟩ := handle_at (HB.out.on br).row hlt
      obtain ⟨t1, k1, k0⟩ := ix15 hlt
      have HI := Lib.hid hlt
      clear hlt hk hla hlb
      generalize L.getD k (0, 0) = s at x0 x1 y0 y1
      obtain ⟨s1, s2⟩ := s
      simp only at x0 x1 y0 y1
      go_upto_region 6 with fail
      go_region
      have bk := br.drew
      generalize wr.drew = wy at bk ⊢
      clear x0 x1 y0 y1
      go_wp2
      go_roundw
      case rel => exact ⟨k + 1, HI.out, by simp [EW.out], bk⟩
      case measure => first | exact step_meas15 EW.out (step_less15 HI.out) | (simp [EW.out]; exact step_less15 HI.out) | exact step_less15 HI.out
    · obtain rfl : k = L.length := Nat.le_antisymm hk (Nat.le_of_not_lt hlt)
      have t1 : decide ((L.length : Int) < (L.length : Int)) = false := by simp
      clear hlt hk
      go_wp2
      go_ret
      exact ⟨rfl, br⟩
/-- The law's handle of a number. -/
def hS (n : Int) : Int := n % 6
def hG (n : Int) : Int := n / 6 % 3
theorem h_facts {n : Int} (h0 : 0 ≤ n) (h1 : n ≤ 255) : n.tmod 6 = hS n ∧ (n.tdiv 6).tmod 3 = hG n ∧ 0 ≤ hS n ∧ hS n ≤ 5 ∧ 0 ≤ hG n ∧ hG n ≤ 2 ∧ IntKind.i64.wrap (hS n) = hS n ∧ IntKind.u32.wrap (hG n) = hG n := by
  unfold hS hG
  have e1 : n.tmod 6 = n % 6 := Int.tmod_eq_emod_of_nonneg h0
  have e2 : n.tdiv 6 = n / 6 := Int.tdiv_eq_ediv_of_nonneg h0
  have e3 : 0 ≤ n / 6 := Int.ediv_nonneg h0 (by decide)
  refine ⟨e1, by rw [e2]; exact Int.tmod_eq_emod_of_nonneg e3, by omega, by omega, by omega, by omega, IntWalk.i64_in _ (by omega), ?_⟩
  rw [IntKind.wrap_u32]; omega
theorem h_ok {n : Int} (h0 : 0 ≤ n) (h1 : n ≤ 255) : HOk (hS n) (hG n) := by
  obtain ⟨_, _, a, b, c, d, _⟩ := h_facts h0 h1
  exact ⟨by omega, by omega, c, by omega⟩
set_option maxHeartbeats 1000000 in
set_option maxRecDepth 100000 in
theorem handle15_ (n : Int) (w : World) (h0 : 0 ≤ n) (h1 : n ≤ 255) : Says Try.prog 11 #[.int .u8 n] w (.agg #[.int .i64 (hS n), .int .u32 (hG n)]) := by
  obtain ⟨e1, e2, _, _, _, _, e3, e4⟩ := h_facts h0 h1
  have HH := Lib.hid (And.intro e1 (And.intro e2 (And.intro e3 e4)))
  show Calls _ _ _ _ _
  go_enter Try.func11, Try.ntmps11
  go_wp2
  exact bodyPost_ret (v := .agg #[.int .i64 (hS n), .int .u32 (hG n)]) (by simp [results, Try.results11, go_sem, hG]) rfl ⟨rfl, (Below.refl _ _).alloc (Nat.le_refl _) _⟩
end Go.Proofs.Ytmephmjlajaopaa

namespace Go.Proofs.Ytmephmjlajaopaa
set_option linter.unusedVariables false
set_option linter.unusedSimpArgs false
open Go.ChangeShapes Go.WideShapes Go.ChangeAt Go.RowKit Go.PlainAid
attribute [local go_sem ↓] Go.wp_at_zero Go.wp_at_succ
set_option maxHeartbeats 4000000 in
set_option maxRecDepth 100000 in
theorem timed_ (K : WheelsOk) (w : World) : Says Try.prog 8 #[] w (.bool true) := by
  show Calls _ _ _ _ _
  go_enter Try.func8, Try.ntmps8
  go_wp2_with fail
  refine (K.news 4 w (by decide) (by decide)).mono ?_; rintro e wz ⟨q, S0, rfl, b0, l0, R0⟩
  have Pz : Alone K.toObjP w wz S0 q ⟨0, []⟩ := ⟨R0, l0, b0⟩
  clear R0 l0 b0
  go_upto_region 3 with fail
  have H0 := Kept.new (w := wz) (S := S0) (L := [(1, 0), (2, 0), (3, 0), (4, 0)]) 63 #[.int .i64 1, .int .u32 0, .int .i64 2, .int .u32 0, .int .i64 3, .int .u32 0, .int .i64 4, .int .u32 0] rfl (fun k hk => K.lt Pz.rep k hk)
  have P0 := Pz.on ((Below.refl wz.heap.size wz).alloc (Nat.le_refl _) (.cells #[.int .i64 1, .int .u32 0, .int .i64 2, .int .u32 0, .int .i64 3, .int .u32 0, .int .i64 4, .int .u32 0] 63))
  obtain ⟨w0, hw0⟩ : ∃ x_ : World, x_ = wz.alloc (.cells #[.int .i64 1, .int .u32 0, .int .i64 2, .int .u32 0, .int .i64 3, .int .u32 0, .int .i64 4, .int .u32 0] 63) := ⟨_, rfl⟩
  rw [← hw0] at H0 P0 ⊢
  clear hw0 Pz
  obtain ⟨hb, hhb⟩ : ∃ b_, b_ = wz.heap.size := ⟨_, rfl⟩
  rw [← hhb] at H0 ⊢
  clear hhb
  obtain ⟨c0, c1, c2, c3, c4, c5, c6, c7⟩ := H0.four
  go_wp2_with fail
  have k1 : Told Try.prog K.toObjP 17 #[.pointer (some ⟨q, 0, none⟩), .agg #[.int .i64 1, .int .u32 0], .int .i64 5] w0 S0 q (.int .i64 0) ⟨0, [⟨1, 0, 5⟩]⟩ := K.puts _ _ _ 1 0 5 _ P0.rep (by decide) ⟨by decide, by decide, by decide, by decide⟩
  clear c0 c1 c2 c3 c4 c5 c6 c7
  refine k1.mono ?_; rintro e w1 ⟨rfl, S1, R1, f1, x1⟩
  have P1 := P0.one R1 f1 x1
  have H1 := H0.by x1 f1
  clear P0 R1 f1 x1 k1 H0
  obtain ⟨c0, c1, c2, c3, c4, c5, c6, c7⟩ := H1.four
  go_wp2_with fail
  have k2 : Told Try.prog K.toObjP 17 #[.pointer (some ⟨q, 0, none⟩), .agg #[.int .i64 2, .int .u32 0], .int .i64 9] w1 S1 q (.int .i64 0) ⟨0, [⟨1, 0, 5⟩, ⟨2, 0, 9⟩]⟩ := K.puts _ _ _ 2 0 9 _ P1.rep (by decide) ⟨by decide, by decide, by decide, by decide⟩
  clear c0 c1 c2 c3 c4 c5 c6 c7
  refine k2.mono ?_; rintro e w2 ⟨rfl, S2, R2, f2, x2⟩
  have P2 := P1.one R2 f2 x2
  have H2 := H1.by x2 f2
  clear P1 R2 f2 x2 k2 H1
  obtain ⟨c0, c1, c2, c3, c4, c5, c6, c7⟩ := H2.four
  go_wp2_with fail
  have k3 : Told Try.prog K.toObjP 17 #[.pointer (some ⟨q, 0, none⟩), .agg #[.int .i64 3, .int .u32 0], .int .i64 5] w2 S2 q (.int .i64 0) ⟨0, [⟨1, 0, 5⟩, ⟨3, 0, 5⟩, ⟨2, 0, 9⟩]⟩ := K.puts _ _ _ 3 0 5 _ P2.rep (by decide) ⟨by decide, by decide, by decide, by decide⟩
  clear c0 c1 c2 c3 c4 c5 c6 c7
  refine k3.mono ?_; rintro e w3 ⟨rfl, S3, R3, f3, x3⟩
  have P3 := P2.one R3 f3 x3
  have H3 := H2.by x3 f3
  clear P2 R3 f3 x3 k3 H2
  obtain ⟨c0, c1, c2, c3, c4, c5, c6, c7⟩ := H3.four
  go_wp2_with fail
  have k4 : Told Try.prog K.toObjP 17 #[.pointer (some ⟨q, 0, none⟩), .agg #[.int .i64 1, .int .u32 0], .int .i64 6] w3 S3 q (.int .i64 7) ⟨0, [⟨1, 0, 5⟩, ⟨3, 0, 5⟩, ⟨2, 0, 9⟩]⟩ := K.puts _ _ _ 1 0 6 _ P3.rep (by decide) ⟨by decide, by decide, by decide, by decide⟩
  clear c0 c1 c2 c3 c4 c5 c6 c7
  refine k4.mono ?_; rintro e w4 ⟨rfl, S4, R4, f4, x4⟩
  have P4 := P3.one R4 f4 x4
  have H4 := H3.by x4 f4
  clear P3 R4 f4 x4 k4 H3
  obtain ⟨c0, c1, c2, c3, c4, c5, c6, c7⟩ := H4.four
  go_wp2_with fail
  have k5 : Says Try.prog 21 #[.pointer (some ⟨q, 0, none⟩)] w4 (.tuple #[.int .i64 5, .bool true]) := K.nexts _ _ _ _ P4.rep (by decide)
  clear c0 c1 c2 c3 c4 c5 c6 c7
  refine k5.mono ?_; rintro e w5 ⟨rfl, x5⟩
  have P5 := P4.on x5
  have H5 := H4.on x5
  clear P4 x5 k5 H4
  obtain ⟨S5, hS5⟩ : ∃ S_, S_ = S4 := ⟨_, rfl⟩
  rw [← hS5] at P5 H5
  clear hS5
  obtain ⟨c0, c1, c2, c3, c4, c5, c6, c7⟩ := H5.four
  go_wp2_with fail
  have k6 : Calls Try.prog 14 #[.pointer (some ⟨q, 0, none⟩), .int .i64 4] w5 fun e w' => ∃ (a : Option Addr) (c : Nat) (S' : Nat → Prop), e = .returned (.tuple #[.slice a 0 c, .int .i64 0]) ∧ K.Rep w' S' q ⟨4, [⟨1, 0, 5⟩, ⟨3, 0, 5⟩, ⟨2, 0, 9⟩]⟩ ∧ Fresh w5 S5 S' ∧ Beside S5 w5 w' ∧ eltH.Sl w' a c [] ∧ ∀ b off, a = some ⟨b, off, none⟩ → ¬ S' b ∧ w5.heap.size ≤ b ∧ b < w'.heap.size := K.turns _ _ _ 4 _ P5.rep (by decide)
  clear c0 c1 c2 c3 c4 c5 c6 c7
  refine k6.mono ?_; rintro e w6 ⟨a6, c6_, S6, rfl, R6, f6, x6, sl6, ne6⟩
  have P6 := P5.one R6 f6 x6
  have H6 := H5.by x6 f6
  clear P5 R6 f6 x6 k6 sl6 ne6 H5
  obtain ⟨c0, c1, c2, c3, c4, c5, c6, c7⟩ := H6.four
  go_wp2_with fail
  have k7 : Calls Try.prog 14 #[.pointer (some ⟨q, 0, none⟩), .int .i64 5] w6 fun e w' => ∃ (a : Option Addr) (c : Nat) (S' : Nat → Prop), e = .returned (.tuple #[.slice a 2 c, .int .i64 0]) ∧ K.Rep w' S' q ⟨5, [⟨2, 0, 9⟩]⟩ ∧ Fresh w6 S6 S' ∧ Beside S6 w6 w' ∧ eltH.Sl w' a c [(1, 0), (3, 0)] ∧ ∀ b off, a = some ⟨b, off, none⟩ → ¬ S' b ∧ w6.heap.size ≤ b ∧ b < w'.heap.size := K.turns _ _ _ 5 _ P6.rep (by decide)
  clear c0 c1 c2 c3 c4 c5 c6 c7
  refine k7.mono ?_; rintro e w7 ⟨a7, c7_, S7, rfl, R7, f7, x7, sl7, ne7⟩
  have P7 := P6.one R7 f7 x7
  have H7 := H6.by x7 f7
  have B7 : Kept w7 S7 a7 c7_ [(1, 0), (3, 0)] := ⟨sl7, fun b off e => ⟨(ne7 b off e).2.2, (ne7 b off e).1⟩⟩
  clear P6 R7 f7 x7 k7 sl7 ne7 H6
  obtain ⟨c0, c1, c2, c3, c4, c5, c6, c7⟩ := H7.four
  go_wp2_with fail
  have k8 : Calls Try.prog 14 #[.pointer (some ⟨q, 0, none⟩), .int .i64 4] w7 fun e w' => ∃ (a : Option Addr) (c : Nat) (S' : Nat → Prop), e = .returned (.tuple #[.slice a 0 c, .int .i64 2]) ∧ K.Rep w' S' q ⟨5, [⟨2, 0, 9⟩]⟩ ∧ Fresh w7 S7 S' ∧ Beside S7 w7 w' ∧ eltH.Sl w' a c [] ∧ ∀ b off, a = some ⟨b, off, none⟩ → ¬ S' b ∧ w7.heap.size ≤ b ∧ b < w'.heap.size := K.turns _ _ _ 4 _ P7.rep (by decide)
  clear c0 c1 c2 c3 c4 c5 c6 c7
  refine k8.mono ?_; rintro e w8 ⟨a8, c8_, S8, rfl, R8, f8, x8, sl8, ne8⟩
  have P8 := P7.one R8 f8 x8
  have H8 := H7.by x8 f8
  have B8 := B7.by x8 f8
  clear P7 R8 f8 x8 k8 sl8 ne8 H7 B7
  obtain ⟨c0, c1, c2, c3, c4, c5, c6, c7⟩ := H8.four
  go_wp2_with fail
  have k9 : Told Try.prog K.toObjP 17 #[.pointer (some ⟨q, 0, none⟩), .agg #[.int .i64 4, .int .u32 0], .int .i64 3] w8 S8 q (.int .i64 0) ⟨5, [⟨4, 0, 3⟩, ⟨2, 0, 9⟩]⟩ := K.puts _ _ _ 4 0 3 _ P8.rep (by decide) ⟨by decide, by decide, by decide, by decide⟩
  clear c0 c1 c2 c3 c4 c5 c6 c7
  refine k9.mono ?_; rintro e w9 ⟨rfl, S9, R9, f9, x9⟩
  have P9 := P8.one R9 f9 x9
  have H9 := H8.by x9 f9
  have B9 := B8.by x9 f9
  clear P8 R9 f9 x9 k9 H8 B8
  obtain ⟨c0, c1, c2, c3, c4, c5, c6, c7⟩ := H9.four
  go_wp2_with fail
  have k10 : Calls Try.prog 14 #[.pointer (some ⟨q, 0, none⟩), .int .i64 1000] w9 fun e w' => ∃ (a : Option Addr) (c : Nat) (S' : Nat → Prop), e = .returned (.tuple #[.slice a 2 c, .int .i64 0]) ∧ K.Rep w' S' q ⟨1000, []⟩ ∧ Fresh w9 S9 S' ∧ Beside S9 w9 w' ∧ eltH.Sl w' a c [(4, 0), (2, 0)] ∧ ∀ b off, a = some ⟨b, off, none⟩ → ¬ S' b ∧ w9.heap.size ≤ b ∧ b < w'.heap.size := K.turns _ _ _ 1000 _ P9.rep (by decide)
  clear c0 c1 c2 c3 c4 c5 c6 c7
  refine k10.mono ?_; rintro e w10 ⟨a10, c10_, S10, rfl, R10, f10, x10, sl10, ne10⟩
  have P10 := P9.one R10 f10 x10
  have H10 := H9.by x10 f10
  have B10 := B9.by x10 f10
  have C10 : Kept w10 S10 a10 c10_ [(4, 0), (2, 0)] := ⟨sl10, fun b off e => ⟨(ne10 b off e).2.2, (ne10 b off e).1⟩⟩
  clear P9 R10 f10 x10 k10 sl10 ne10 H9 B9
  obtain ⟨c0, c1, c2, c3, c4, c5, c6, c7⟩ := H10.four
  go_wp2_with fail
  have k11 : Says Try.prog 21 #[.pointer (some ⟨q, 0, none⟩)] w10 (.tuple #[.int .i64 0, .bool false]) := K.nexts _ _ _ _ P10.rep (by decide)
  clear c0 c1 c2 c3 c4 c5 c6 c7
  refine k11.mono ?_; rintro e w11 ⟨rfl, x11⟩
  have P11 := P10.on x11
  have H11 := H10.on x11
  have B11 := B10.on x11
  have C11 := C10.on x11
  clear P10 x11 k11 H10 B10 C10
  obtain ⟨S11, hS11⟩ : ∃ S_, S_ = S10 := ⟨_, rfl⟩
  rw [← hS11] at P11 H11 B11 C11
  clear hS11
  obtain ⟨c0, c1, c2, c3, c4, c5, c6, c7⟩ := H11.four
  have B12 := (Below.refl w11.heap.size w11).alloc (Nat.le_refl _) (.cells #[.int .i64 1, .int .u32 0, .int .i64 3, .int .u32 0] 34)
  have k12 : Says _ _ _ (w11.alloc (.cells #[.int .i64 1, .int .u32 0, .int .i64 3, .int .u32 0] 34)) _ := same15_ a7 (some ⟨w11.heap.size, 0, none⟩) c7_ 2 [(1, 0), (3, 0)] _ (by decide) (B11.on B12).sl (Elt.Sl.lit (E := eltH) w11 [(1, 0), (3, 0)] 34 #[.int .i64 1, .int .u32 0, .int .i64 3, .int .u32 0] rfl)
  go_wp2_with fail
  clear c0 c1 c2 c3 c4 c5 c6 c7
  refine k12.mono ?_; rintro e w12 ⟨rfl, y12⟩
  have x12 : Below w11.heap.size w11 w12 := B12.trans (y12.mono B12.size)
  have P12 := P11.on x12
  have H12 := H11.on x12
  have C12 := C11.on x12
  clear P11 x12 y12 k12 B12 H11 C11 B11
  obtain ⟨S12, hS12⟩ : ∃ S_, S_ = S11 := ⟨_, rfl⟩
  rw [← hS12] at P12 H12 C12
  clear hS12
  obtain ⟨c0, c1, c2, c3, c4, c5, c6, c7⟩ := H12.four
  have B13 := (Below.refl w12.heap.size w12).alloc (Nat.le_refl _) (.cells #[.int .i64 4, .int .u32 0, .int .i64 2, .int .u32 0] 34)
  have k13 : Says _ _ _ (w12.alloc (.cells #[.int .i64 4, .int .u32 0, .int .i64 2, .int .u32 0] 34)) _ := same15_ a10 (some ⟨w12.heap.size, 0, none⟩) c10_ 2 [(4, 0), (2, 0)] _ (by decide) (C12.on B13).sl (Elt.Sl.lit (E := eltH) w12 [(4, 0), (2, 0)] 34 #[.int .i64 4, .int .u32 0, .int .i64 2, .int .u32 0] rfl)
  go_wp2_with fail
  clear c0 c1 c2 c3 c4 c5 c6 c7
  refine k13.mono ?_; rintro e w13 ⟨rfl, y13⟩
  have x13 : Below w12.heap.size w12 w13 := B13.trans (y13.mono B13.size)
  have P13 := P12.on x13
  have H13 := H12.on x13
  clear P12 x13 y13 k13 B13 H12 C12
  obtain ⟨S13, hS13⟩ : ∃ S_, S_ = S12 := ⟨_, rfl⟩
  rw [← hS13] at P13 H13
  clear hS13
  obtain ⟨c0, c1, c2, c3, c4, c5, c6, c7⟩ := H13.four
  go_wp2_with fail
  have k14 : Says Try.prog 23 #[.pointer (some ⟨q, 0, none⟩)] w13 (.int .i64 0) := K.counts _ _ _ _ P13.rep (by decide)
  clear c0 c1 c2 c3 c4 c5 c6 c7
  refine k14.mono ?_; rintro e w14 ⟨rfl, x14⟩
  have P14 := P13.on x14
  have H14 := H13.on x14
  clear P13 x14 k14 H13
  obtain ⟨S14, hS14⟩ : ∃ S_, S_ = S13 := ⟨_, rfl⟩
  rw [← hS14] at P14 H14
  clear hS14
  obtain ⟨c0, c1, c2, c3, c4, c5, c6, c7⟩ := H14.four
  go_wp2_with fail
  have k15 : Told Try.prog K.toObjP 17 #[.pointer (some ⟨q, 0, none⟩), .agg #[.int .i64 1, .int .u32 0], .int .i64 (-1)] w14 S14 q (.int .i64 2) ⟨1000, []⟩ := K.puts _ _ _ 1 0 (-1) _ P14.rep (by decide) ⟨by decide, by decide, by decide, by decide⟩
  clear c0 c1 c2 c3 c4 c5 c6 c7
  refine k15.mono ?_; rintro e w15 ⟨rfl, S15, R15, f15, x15⟩
  have P15 := P14.one R15 f15 x15
  have H15 := H14.by x15 f15
  clear P14 R15 f15 x15 k15 H14
  go_wp2
  go_ret
  exact ⟨rfl, P15.below⟩
end Go.Proofs.Ytmephmjlajaopaa
