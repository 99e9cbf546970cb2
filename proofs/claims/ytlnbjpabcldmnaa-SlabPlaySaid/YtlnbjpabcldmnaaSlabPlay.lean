/- SlabPlay (layer 13). -/
import Derived.Test.YtlnbjpabcldmnaaSlaS
import Derived.Test.YtlnbjpabcldmnaaSlaO
import Derived.Test.YtlnbjpabcldmnaaSlaQ
import Derived.Test.YtlnbjpabcldmnaaSlaAct
import Derived.Deep.CutBlock
import Derived.BigRegion
import Derived.Lib.AppendZeros
import Derived.Test.YtlnbjpabcldmnaaRegion
namespace Go.Proofs.Ytlnbjpabcldmnaa.SlabPlay
set_option linter.unusedVariables false
set_option linter.unusedSimpArgs false
open Go.ChangeShapes Go.WideShapes Go.ChangeAt Go.RowKit Go.PlainAid
attribute [local go_sem ↓] Go.wp_at_zero Go.wp_at_succ
/-- A box of five cells. -/
structure Box5 (w : World) (b : Nat) (x : A13) : Prop where
  lt : b < w.heap.size
  c0 : w.cell? ⟨b, 0, none⟩ = some (.int .u8 x.kd)
  c1 : w.cell? ⟨b, 1, none⟩ = some (.int .u8 x.at_)
  c2 : w.cell? ⟨b, 2, none⟩ = some (.int .i64 x.s)
  c3 : w.cell? ⟨b, 3, none⟩ = some (.int .u32 x.g)
  c4 : w.cell? ⟨b, 4, none⟩ = some (.int .i64 x.raw)
theorem Box5.make (w : World) (x : A13) (T : TypeId) : Box5 (w.alloc (.cells #[.int .u8 x.kd, .int .u8 x.at_, .int .i64 x.s, .int .u32 x.g, .int .i64 x.raw] T)) w.heap.size x := ⟨by simp, by simp [go_sem], by simp [go_sem], by simp [go_sem], by simp [go_sem], by simp [go_sem]⟩
theorem Box5.keep {w w' : World} {b : Nat} {x : A13} (h : Box5 w b x) (hs : w.heap.size ≤ w'.heap.size) (hb : w'.heap[b]? = w.heap[b]?) : Box5 w' b x :=
  ⟨Nat.lt_of_lt_of_le h.lt hs, (World.cell?_of_block (w := w) (a := ⟨b, 0, none⟩) hb).trans h.c0, (World.cell?_of_block (w := w) (a := ⟨b, 1, none⟩) hb).trans h.c1, (World.cell?_of_block (w := w) (a := ⟨b, 2, none⟩) hb).trans h.c2, (World.cell?_of_block (w := w) (a := ⟨b, 3, none⟩) hb).trans h.c3, (World.cell?_of_block (w := w) (a := ⟨b, 4, none⟩) hb).trans h.c4⟩
theorem Box5.on {w w' : World} {b : Nat} {x : A13} (h : Box5 w b x) (hb : Below w.heap.size w w') : Box5 w' b x := h.keep hb.size (hb.block b h.lt)
theorem Box5.by {S : Nat → Prop} {w w' : World} {b : Nat} {x : A13} (h : Box5 w b x) (hb : Beside S w w') (hn : ¬ S b) : Box5 w' b x := h.keep hb.size (hb.block b h.lt hn)
theorem two_set {w : World} {b : Nat} {x y : Value} (h : Two w b x y) (x' y' : Value) : Two ((w.setCell ⟨b, 0, none⟩ x').setCell ⟨b, 1, none⟩ y') b x' y' := by
  refine ⟨by simpa [World.setCell] using h.lt, ?_, ?_⟩
  · rw [World.cell?_setCell_other _ _ _ _ (by intro he; injection he with h5 h6; omega)]
    exact World.cell?_setCell_same' _ _ _ (by rw [h.c0]; rfl)
  · exact World.cell?_setCell_same' _ _ _ (by rw [World.cell?_setCell_other _ _ _ _ (by intro he; injection he with h5 h6; omega), h.c1]; rfl)
theorem apart_ {w q p b X : Nat} (h1 : w ≤ q) (h2 : q < p) (h3 : p < b) (h4 : b < X) : ¬ X = q ∧ ¬ X = b ∧ ¬ X + 1 = q ∧ ¬ X + 1 = b ∧ ¬ p = q ∧ ¬ b = q ∧ w ≤ b ∧ w ≤ X + 1 ∧ w ≤ X ∧ ¬ X = X + 1 ∧ ¬ p = X + 1 ∧ ¬ b = X + 1 := by omega
theorem u32_nat {z : Int} {g : Nat} (h : z = g) (hz : z ≤ 4294967295) : g < 4294967296 := by omega
theorem u8_nat {z : Int} {g : Nat} (h : z = g) (hz : z ≤ 255) : g ≤ 255 := by omega
theorem own_ne {X k : Nat} (h : k < X) (e : k = X + 1) : False := by omega
theorem nat_ne {m : Nat} (h : 1 ≤ m) : ¬ (m : Int) = 0 := by omega
theorem eight {z k : Int} (h0 : 0 ≤ z) (h : z.tmod 8 = k) : k = 0 ∨ k = 1 ∨ k = 2 ∨ k = 3 ∨ k = 4 ∨ k = 5 ∨ k = 6 ∨ k = 7 := by
  rw [Int.tmod_eq_emod_of_nonneg h0] at h
  omega
theorem wrap_u8 {z : Int} (h : (Lit.int .u8 z).wf = true) : IntKind.i64.wrap z = z := by
  obtain ⟨h0, h1⟩ := bounds_u8 h
  exact IntWalk.i64_in _ (by omega)
theorem row_len {T : TypeId} {w : World} {B : Nat} {v : Value} {t : Sl} (h : RowP T w B v t) : ∃ a c, v = .slice a t.length c := by
  rcases h.2 with ⟨h0, h1⟩ | ⟨g, c, cur, rfl, _⟩
  · exact ⟨none, 0, by rw [h1]; exact h0⟩
  · exact ⟨_, _, rfl⟩
theorem two_keep {w w' : World} {b : Nat} {x y : Value} (h : Two w b x y) (hs : w.heap.size ≤ w'.heap.size) (hb : w'.heap[b]? = w.heap[b]?) : Two w' b x y :=
  ⟨Nat.lt_of_lt_of_le h.lt hs, (World.cell?_of_block (w := w) (a := ⟨b, 0, none⟩) hb).trans h.c0, (World.cell?_of_block (w := w) (a := ⟨b, 1, none⟩) hb).trans h.c1⟩
theorem sld_keep {w w' : World} {p b c : Nat} {t : Sl} (h : SlD w p b c t) (hs : w.heap.size ≤ w'.heap.size) (h1 : w'.heap[p]? = w.heap[p]?) (h2 : w'.heap[b]? = w.heap[b]?) : SlD w' p b c t :=
  ⟨Nat.lt_of_lt_of_le h.pl hs, h.ne, (World.cell?_of_block (w := w) (a := ⟨p, 0, none⟩) h1).trans h.head, h.row.keep hs h2, h.ok⟩
theorem ne_own {v : Value} {b k : Nat} (h : ∀ k, v.ownBlock = some k → b + 1 ≤ k) (hk : k ≤ b) : some k ≠ v.ownBlock := fun e => absurd (h k e.symm) (by omega)
/-- append, as one step of a region that draws. -/
theorem step_appendT {P : Program} {ops : Array Oper} {o : Oper} {a : Act} {w : World} {K : Act → World → Prop} {Q : Exit → Act → World → Prop} {E : Prop} (hg : o.guard = none) (d x : Operand) (dT sT : TypeId) (hop : o.op = Op.call { callee := Callee.builtin Builtin.append, args := #[d, x], argTypes := #[dT, sT] })
    (v u : Value) (hd : a.eval d = v) (hx : a.eval x = u) {v' : Value} {w' : World} (hr : (Builtin.append_ #[dT, sT] o.type #[v, u]).run P w = .ok v' w') (hK : K (a.put o.dst v') w') :
    if Region.wanted o (yielded ops a.tmps) = true then Oper.wp P o a w K Q else E := by
  rw [if_pos (by simp [Region.wanted, hg])]
  exact Lib.wp_append_run w d x dT sT hop v u hd hx _ _ hr hK
theorem takeG_lt {t : Sl} (h : t.Ok) : takeG t < 4294967296 := by
  unfold takeG
  split
  · exact (h.2 _).2
  · omega
theorem slG_push {hs : Sl} {s g : Nat} (h : ∀ j, j < hs.length → slG hs j < 4294967296) (hg : g < 4294967296) : ∀ j, j < (hs ++ [(s, g)]).length → slG (hs ++ [(s, g)]) j < 4294967296 := by
  intro j hj
  by_cases e : j < hs.length
  · have k := h j e
    unfold slG at k ⊢
    rw [List.getD_eq_getElem?_getD, List.getElem?_append_left e]
    rw [List.getD_eq_getElem?_getD] at k
    exact k
  · rw [List.length_append] at hj
    have e2 : j = hs.length := by simp at hj; omega
    subst e2
    unfold slG
    rw [List.getD_eq_getElem?_getD]
    simpa using hg
set_option maxHeartbeats 8000000 in
set_option maxRecDepth 100000 in
theorem walk_ (K : SlabOk) (n : Int) (a : Option Addr) (len cap : Nat) (l : List A13) (w : World) (hn : (Lit.int .i64 n).wf = true) (v : Nat) (hr : A13At w a len l) :
    Calls Try.prog 3 #[.int .i64 n, .slice a len cap] w fun e w' => e = .returned (.bool true) ∧ Below w.heap.size w w' := by
  obtain ⟨n0, n1⟩ := bounds_i64 hn
  by_cases h1 : 200 < len
  · have e1 : decide ((200 : Int) < len) = true := by simp; omega
    have e2 : decide (200 < len) = true := by simpa using h1
    go_enter Try.func3, Try.ntmps3
    go_wp2_with fail
    refine (slotted_ K _).mono ?_; rintro e w1 ⟨rfl, b1⟩
    go_wp2
    go_ret
    exact ⟨rfl, b1⟩
  have e1 : decide ((200 : Int) < len) = false := by simp; omega
  have e2 : decide (200 < len) = false := by simpa using h1
  by_cases hr1 : n < 1 ∨ 256 < n
  · go_enter Try.func3, Try.ntmps3
    go_wp2_with fail
    refine (K.newE n w n0 n1 hr1).mono ?_; rintro e w1 ⟨rfl, b1⟩
    go_wp2_with fail
    refine (rnewE13_ n _ hr1).mono ?_; rintro e w2 ⟨rfl, rfl⟩
    go_wp2_with fail
    refine (slotted_ K _).mono ?_; rintro e w3 ⟨rfl, b3⟩
    go_wp2
    go_ret
    exact ⟨rfl, b1.trans (b3.mono b1.size)⟩
  obtain ⟨N, rfl⟩ := Int.eq_ofNat_of_zero_le (show 0 ≤ n by omega)
  have n2 : 1 ≤ N := by omega
  have n3 : N ≤ 256 := by omega
  have H200 := Lib.hid (Nat.le_of_not_lt h1)
  obtain ⟨i0, hi0, hz0, hz1, hz2⟩ := handle_info
  go_enter Try.func3, Try.ntmps3
  go_wp2_with fail
  refine (K.news N w n2 n3).mono ?_; rintro e w1 ⟨q, rfl, b1, hq, R1⟩
  go_wp2_with fail
  refine (rnew13_ N _ n2 n3).mono ?_; rintro e w2 ⟨rfl, b2, b, c, hb, D2⟩
  have hqp : q < w1.heap.size := K.lt R1
  have R2 := K.on R1 b2
  have B2 := b1.trans (b2.mono b1.size)
  obtain ⟨p, hp⟩ : ∃ p, p = w1.heap.size := ⟨_, rfl⟩
  have hwp : w.heap.size ≤ p := by rw [hp]; exact b1.size
  rw [← hp] at D2 hb hqp ⊢
  clear hp R1 b1 b2 h1 hr1 e1 e2 hn n0 n1
  have T2 : slNew N = slNew N := rfl
  clear T2
  go_upto_region 11 with fail
  go_loopw [9, 10] (fun v si wr => ∃ (i : Nat) (t hs : Sl), i ≤ len ∧ si = .int .i64 (i : Int) ∧ RowP 34 wr (b + 1) v hs ∧ K.Rep wr q t ∧ SlD wr p b c t ∧ t.length = N ∧ hs.length ≤ i ∧ (∀ j, j < hs.length → slG hs j < 4294967296) ∧ Below w.heap.size w wr) (fun _ si _ => len - (intOf si).toNat)
  case atStart => exact ⟨0, _, [], Nat.zero_le _, rfl, RowP.nil _ _ _, R2, D2, slNew_len N, Nat.le_refl _, fun j hj => absurd hj (Nat.not_lt_zero j), B2⟩
  case round =>
    obtain ⟨i, t, hs, hi, rfl, r3, R3, D3, ht, hl, hG, B3⟩ := hrel
    clear R2 D2 B2
    by_cases hlt : i < len
    · obtain ⟨bx, off, rfl, hbx, hc⟩ := hr.cells.resolve_left (Nat.ne_of_gt (Nat.lt_of_le_of_lt (Nat.zero_le i) hlt))
      have hx := (hc i hlt).on hbx B3
      have okx := hr.okAt hlt
      obtain ⟨x, hxe⟩ : ∃ x, x = l.getD i A13.zero := ⟨_, rfl⟩
      rw [← hxe] at hx okx
      clear hxe hc
      obtain ⟨c0, c1, c2, c3, c4⟩ := hx
      have t1 : decide ((i : Int) < (len : Int)) = true := by simpa using hlt
      have j0 : (0 : Int) ≤ (i : Int) := Int.natCast_nonneg i
      have j1 : (i : Int) < (len : Int) := Int.ofNat_lt.2 hlt
      go_upto_region 15 with fail
      have X4 := Box5.make wr x 36
      have x4 : Below wr.heap.size wr (wr.alloc (.cells #[.int .u8 x.kd, .int .u8 x.at_, .int .i64 x.s, .int .u32 x.g, .int .i64 x.raw] 36)) := (Below.refl _ _).alloc (Nat.le_refl _) _
      have R4 := K.on R3 x4
      have D4 := D3.on x4
      have r4 := r3.on x4
      have B4 := B3.trans (x4.mono B3.size)
      have hbX : b < wr.heap.size := D3.row.bl
      have hvX : ∀ k, u9.ownBlock = some k → b + 1 ≤ k ∧ k < wr.heap.size := r3.lt
      obtain ⟨X, hX⟩ : ∃ X, X = wr.heap.size := ⟨_, rfl⟩
      obtain ⟨w4, hw4⟩ : ∃ x_ : World, x_ = wr.alloc (.cells #[.int .u8 x.kd, .int .u8 x.at_, .int .i64 x.s, .int .u32 x.g, .int .i64 x.raw] 36) := ⟨_, rfl⟩
      have hs4 : w4.heap.size = X + 1 := by rw [hw4, hX]; simp
      rw [← hw4] at X4 R4 D4 r4 B4 ⊢
      rw [← hX] at X4 hbX hvX ⊢
      clear hw4 x4 R3 D3 r3 B3 c0 c1 c2 c3 c4
      clear hX
      have Y5 := Two.make w4 (.int .i64 x.s) (.int .u32 x.g) 34
      have x5 : Below w4.heap.size w4 (w4.alloc (.cells #[.int .i64 x.s, .int .u32 x.g] 34)) := (Below.refl _ _).alloc (Nat.le_refl _) _
      have X5 := X4.on x5
      have R5 := K.on R4 x5
      have D5 := D4.on x5
      have r5 := r4.on x5
      have B5 := B4.trans (x5.mono B4.size)
      have f50 : (w4.alloc (.cells #[.int .i64 x.s, .int .u32 x.g] 34)).frozen? ⟨w4.heap.size, 0, none⟩ = false := (World.frozen?_alloc_mark w4 #[.int .i64 x.s, .int .u32 x.g] 34 0 0 0).trans (by simp)
      have f51 : (w4.alloc (.cells #[.int .i64 x.s, .int .u32 x.g] 34)).frozen? ⟨w4.heap.size, 1, none⟩ = false := (World.frozen?_alloc_mark w4 #[.int .i64 x.s, .int .u32 x.g] 34 0 0 1).trans (by simp)
      obtain ⟨w5, hw5⟩ : ∃ x_ : World, x_ = w4.alloc (.cells #[.int .i64 x.s, .int .u32 x.g] 34) := ⟨_, rfl⟩
      rw [← hw5] at X5 Y5 R5 D5 r5 B5 f50 f51 ⊢
      rw [hs4] at Y5 f50 f51
      clear hw5 x5 R4 D4 r4 B4 X4
      obtain ⟨av, cv, rfl⟩ := row_len r5
      obtain ⟨m, hm⟩ : ∃ m, m = hs.length := ⟨_, rfl⟩
      rw [← hm] at r5 hvX ⊢
      have HM := Lib.hid hm
      clear hm
      obtain ⟨neXq, neXb, neYq, neYb, nepq, nebq, hwb, hwX1, hwX, neXX, nepX, nebX⟩ := apart_ hq hqp hb hbX
      obtain ⟨_, a0, a1, a2, a3, a4⟩ := id X5
      go_cut [71] (fun s67 wx => s67 = .bool (decide (x.kd.tmod 8 < 4 ∧ 0 < m)) ∧ w5 = wx)
      case first =>
        clear R5 D5 r5 B5 X5 Y5 hG
        by_cases h4 : x.kd.tmod 8 < 4
        · have t4 : decide (x.kd.tmod 8 < 4) = true := by simpa using h4
          by_cases h0 : 0 < m
          · have t5 : decide (0 < m) = true := by simpa using h0
            have e4 : decide (x.kd.tmod 8 < 4 ∧ 0 < m) = true := decide_eq_true ⟨h4, h0⟩
            go_wp2
            go_meet
            exact ⟨by rw [e4], rfl⟩
          · have t5 : decide (0 < m) = false := by simpa using h0
            have e4 : decide (x.kd.tmod 8 < 4 ∧ 0 < m) = false := decide_eq_false (fun h => h0 h.2)
            go_wp2
            go_meet
            exact ⟨by rw [e4], rfl⟩
        · have t4 : decide (x.kd.tmod 8 < 4) = false := by simpa using h4
          have e4 : decide (x.kd.tmod 8 < 4 ∧ 0 < m) = false := decide_eq_false (fun h => h4 h.1)
          go_wp2
          go_meet
          exact ⟨by rw [e4], rfl⟩
      case rest =>
        obtain ⟨rfl, rfl⟩ := hcut
        go_upto_if 71 with fail
        have bx5 := Beside.refl (fun k => k = X + 1) w5
        obtain ⟨g0, hg0⟩ : ∃ g0 : Nat, x.g = (g0 : Int) := Int.eq_ofNat_of_zero_le (bounds_u32 okx.g).1
        obtain ⟨A, hA⟩ : ∃ A : Nat, x.at_ = (A : Int) := Int.eq_ofNat_of_zero_le (bounds_u8 okx.at_).1
        have hg1 := u32_nat hg0 (bounds_u32 okx.g).2
        have hA1 := u8_nat hA (bounds_u8 okx.at_).2
        clear a0 a1 a2 a3 a4
        go_cut [12] (fun s12 wx => s12 = .pointer (some ⟨X + 1, 0, none⟩) ∧ ∃ (s : Int) (g : Nat), Two wx (X + 1) (.int .i64 s) (.int .u32 (g : Int)) ∧ g < 4294967296 ∧ Beside (fun k => k = X + 1) w5 wx)
        case first =>
          by_cases h4 : x.kd.tmod 8 < 4 ∧ 0 < m
          · have e4 : decide (x.kd.tmod 8 < 4 ∧ 0 < m) = true := decide_eq_true h4
            obtain ⟨G, cg, hv, hbG, PG⟩ := r5.at (by rw [← HM.out]; exact h4.2)
            injection hv with hv1 hv2 hv3
            subst hv1
            clear hv2 hv3
            have kA := rem_at A h4.2
            obtain ⟨e5, e6, hkn, e7⟩ := kA
            obtain ⟨k, hk⟩ : ∃ k, k = A % m := ⟨_, rfl⟩
            rw [← hk] at e5 e6 hkn
            obtain ⟨p0, p1⟩ := PG.cs k (by rw [← HM.out]; exact hkn)
            obtain ⟨_, a0, a1, a2, a3, a4⟩ := id X5
            obtain ⟨_, z0, z1⟩ := id Y5
            have y5 : IntKind.i64.wrap (A : Int) = (A : Int) := wrap_byte hA1
            have k0 : (0 : Int) ≤ (k : Int) := Int.natCast_nonneg k
            have k1 : (k : Int) < (m : Int) := Int.ofNat_lt.2 hkn
            rw [hA] at a1
            clear hk hA
            rw [e4]
            have n1m : 1 ≤ m := h4.2
            have e8 := nat_ne n1m
            have HG := Lib.hid hG
            have YY := Lib.hid Y5
            clear h4 X5 Y5 R5 D5 r5 B5 hG PG
            go_upto_region 16 with fail
            go_wp2_with fail
            go_meet
            refine ⟨rfl, (slS hs k : Int), slG hs k, ?_, HG.out k (by rw [← HM.out]; exact hkn), ?_⟩
            · exact two_set YY.out _ _
            · exact (bx5.setCell (p := ⟨X + 1, 0, none⟩) rfl _).setCell (p := ⟨X + 1, 1, none⟩) rfl _
          · have e4 : decide (x.kd.tmod 8 < 4 ∧ 0 < m) = false := decide_eq_false h4
            rw [e4]
            go_wp2
            go_meet
            exact ⟨rfl, x.s, g0, by rw [← hg0]; exact Y5, hg1, bx5⟩
        case rest =>
          obtain ⟨rfl, s, g, Y6, hg6, x6⟩ := hcut
          clear f50 f51
          have X6 := X5.by x6 neXX
          have R6 := K.by R5 x6 (fun e => neYq e.symm)
          have D6 := D5.beside x6 nepX nebX
          have r6 := r5.beside x6 (fun k hk e => own_ne (hvX k hk).2 e)
          have B6 := below_own B5 hwX1 x6
          clear x6 X5 Y5 R5 D5 r5 B5
          obtain ⟨_, a0, a1, a2, a3, a4⟩ := id X6
          go_upto_block 2 with fail
          clear a0 a1 a2 a3 a4
          obtain ⟨kk, hkk⟩ : ∃ k_, x.kd.tmod 8 = k_ := ⟨_, rfl⟩
          rw [hkk]
          go_cut [9, 13] (fun v s13 wx => s13 = .bool true ∧ ∃ (t2 hs2 : Sl), RowP 34 wx (b + 1) v hs2 ∧ hs2.length ≤ i + 1 ∧ (∀ j, j < hs2.length → slG hs2 j < 4294967296) ∧ K.Rep wx q t2 ∧ SlD wx p b c t2 ∧ t2.length = N ∧ Box5 wx X x ∧ Two wx (X + 1) (.int .i64 s) (.int .u32 (g : Int)) ∧ Below w.heap.size w wx)
          case first =>
            have yat : IntKind.i64.wrap x.at_ = x.at_ := wrap_u8 okx.at_
            have neqb : ¬ q = b := fun e => nebq e.symm
            have hvq : ∀ k, Value.ownBlock (.slice av m cv) = some k → ¬ k = q := fun k hk e => Nat.lt_irrefl _ (Nat.lt_of_lt_of_le (Nat.lt_trans (Nat.lt_trans hqp hb) (Nat.lt_succ_self b)) (e ▸ (hvX k hk).1))
            have hvb : ∀ k, Value.ownBlock (.slice av m cv) = some k → ¬ k = b := fun k hk e => Nat.lt_irrefl _ (Nat.lt_of_lt_of_le (Nat.lt_succ_self b) (e ▸ (hvX k hk).1))
            rcases eight (bounds_u8 okx.kd).1 hkk with rfl | rfl | rfl | rfl | rfl | rfl | rfl | rfl
            · as_aux_lemma =>
              have kt := fun u h => K.takes q t u h
              have kd := fun u h => rtake13_ p b c t u h
              have hg1t := takeG_lt D6.ok
              generalize takeS t = s1 at *
              generalize takeG t = g1 at *
              generalize takeE t = e1 at *
              go_wp2_with fail
              refine (kt _ R6).mono ?_; rintro e w7 ⟨rfl, R7, x7⟩
              have X7 := X6.by x7 neXq
              have Y7 := Y6.by x7 neYq
              have D7 := D6.beside x7 nepq nebq
              have r7 := r6.beside x7 hvq
              have B7 := below_own B6 hq x7
              clear R6 X6 Y6 D6 r6 B6 x7 kt
              go_wp2_with fail
              have hpb : ¬ w7.heap.size = b := fun e => Nat.lt_irrefl b (e ▸ D7.row.bl)
              have hPv : ∀ k, Value.ownBlock (.slice av m cv) = some k → k < w7.heap.size := fun k h => (r7.lt k h).2
              have hPX : X < w7.heap.size ∧ X + 1 < w7.heap.size := ⟨X7.lt, Y7.lt⟩
              have x8 : Below w7.heap.size w7 (w7.alloc (.cells #[.int .i64 (s1 : Int), .int .u32 (g1 : Int)] 34)) := (Below.refl _ _).alloc (Nat.le_refl _) _
              have P8 := Two.make w7 (.int .i64 (s1 : Int)) (.int .u32 (g1 : Int)) 34
              have R8 := K.on R7 x8
              have X8 := X7.on x8
              have Y8 := Y7.on x8
              have D8 := D7.on x8
              have r8 := r7.on x8
              have B8 := B7.trans (x8.mono B7.size)
              obtain ⟨w8, hw8⟩ : ∃ x_ : World, x_ = w7.alloc (.cells #[.int .i64 (s1 : Int), .int .u32 (g1 : Int)] 34) := ⟨_, rfl⟩
              rw [← hw8] at P8 R8 X8 Y8 D8 r8 B8 ⊢
              clear hw8 x8 R7 X7 Y7 D7 r7 B7
              refine (kd _ D8).mono ?_; rintro e w9 ⟨rfl, D9, x9⟩
              have P9 := P8.by x9 hpb
              have R9 := K.by R8 x9 neqb
              have X9 := X8.by x9 neXb
              have Y9 := Y8.by x9 neYb
              have r9 := r8.beside x9 hvb
              have B9 := below_own B8 hwb x9
              clear P8 R8 X8 Y8 D8 r8 B8 x9 kd
              go_upto_region 24 with fail
              have hQP : w7.heap.size < w9.heap.size := P9.lt
              have x10 : Below w9.heap.size w9 (w9.alloc (.cells #[.int .i64 (s1 : Int), .int .u32 (g1 : Int)] 34)) := (Below.refl _ _).alloc (Nat.le_refl _) _
              have Q10 := Two.make w9 (.int .i64 (s1 : Int)) (.int .u32 (g1 : Int)) 34
              have P10 := P9.on x10
              have R10 := K.on R9 x10
              have X10 := X9.on x10
              have Y10 := Y9.on x10
              have D10 := D9.on x10
              have r10 := r9.on x10
              have B10 := B9.trans (x10.mono B9.size)
              obtain ⟨w10, hw10⟩ : ∃ x_ : World, x_ = w9.alloc (.cells #[.int .i64 (s1 : Int), .int .u32 (g1 : Int)] 34) := ⟨_, rfl⟩
              rw [← hw10] at Q10 P10 R10 X10 Y10 D10 r10 B10 ⊢
              clear hw10 x10 P9 R9 X9 Y9 D9 r9 B9
              generalize w7.heap.size = P at *
              generalize w9.heap.size = Q at *
              refine wp_region_noPanic ?_
              refine wp_region_held_drew (S := (fun w' => Two w' P (.int .i64 (s1 : Int)) (.int .u32 (g1 : Int)) ∧ Two w' Q (.int .i64 (s1 : Int)) (.int .u32 (g1 : Int)))) (by kernel_rfl) ?_ (fun hHeld => ?_)
              · exact ⟨P10.on ((Below.refl _ _).drew), Q10.on ((Below.refl _ _).drew)⟩
              have x11 : Below w10.heap.size w10 w10.drew := (Below.refl _ _).drew
              have R11 := K.on R10 x11
              have X11 := X10.on x11
              have Y11 := Y10.on x11
              have D11 := D10.on x11
              have r11 := r10.on x11
              have B11 := B10.trans (x11.mono B10.size)
              obtain ⟨w11, hw11⟩ : ∃ x_ : World, x_ = w10.drew := ⟨_, rfl⟩
              rw [← hw11] at R11 X11 Y11 D11 r11 B11 hHeld ⊢
              clear hw11 x11 R10 X10 Y10 D10 r10 B10 P10 Q10
              have hrow : w11.ownsRow (b + 1) 34 2 (.slice av m cv) m (valsP hs) := by have := r11; unfold RowP at this; rwa [← HM.out] at this
              obtain ⟨p1, p2⟩ := push_ok (i := m) (n := 256) (Nat.lt_of_le_of_lt (by rw [HM.out]; exact hl) (Nat.lt_of_lt_of_le hlt (Nat.le_trans H200.out (by decide)))) (Nat.le_refl _)
              have p3 := push_base (.cells #[.int .i64 (s1 : Int), .int .u32 (g1 : Int)] 34) D11.row.bl
              obtain ⟨v3, w13, hrun, hown, hgrow, _, _⟩ := run_append_own_at (P := Try.prog) (w := w11.alloc (.cells #[.int .i64 (s1 : Int), .int .u32 (g1 : Int)] 34)) (b + 1) 31 31 34 i0 _ 2 16 Try.underlying31 hi0 hz0 hz1 hz2 rfl (Nat.succ_pos _) (.slice av m cv) m (valsP hs) (hrow.alloc (.cells #[.int .i64 (s1 : Int), .int .u32 (g1 : Int)] 34)) ⟨w11.heap.size, 0, none⟩ 1 1 (valsP [(s1, g1)]) rfl (newP w11 s1 g1 _) (onesP _) p1 p2 p3
              refine wpAnyH_take (i := 0) (oi := _) (v := ?_) rfl (by kernel_rfl) (by kernel_rfl) (by kernel_rfl) (fun _ _ _ h => h) (Or.inl ⟨by kernel_rfl, ?_⟩) (by assumption) ?_
              rotate_left
              · intro w hSw
                obtain ⟨⟨_, hq0, hq1⟩, _, hq2, hq3⟩ := hSw
                go_simp
                with_reducible rfl
              try simp only [List.getElem_toArray, List.getElem_cons_succ, List.getElem_cons_zero, Act.put, List.setIfInBounds_toArray, List.set_cons_zero, List.set_cons_succ]
              refine wpAnyH_take (i := 1) (oi := _) (v := ?_) rfl (by kernel_rfl) (by kernel_rfl) (by kernel_rfl) (fun _ _ _ h => h) (Or.inl ⟨by kernel_rfl, ?_⟩) (by assumption) ?_
              rotate_left
              · intro w hSw
                obtain ⟨⟨_, hq0, hq1⟩, _, hq2, hq3⟩ := hSw
                go_simp
                with_reducible rfl
              try simp only [List.getElem_toArray, List.getElem_cons_succ, List.getElem_cons_zero, Act.put, List.setIfInBounds_toArray, List.set_cons_zero, List.set_cons_succ]
              refine wpAnyH_take (i := 2) (oi := _) (v := ?_) rfl (by kernel_rfl) (by kernel_rfl) (by kernel_rfl) (fun _ _ _ h => h) (Or.inl ⟨by kernel_rfl, ?_⟩) (by assumption) ?_
              rotate_left
              · intro w hSw
                clear hSw
                go_simp
                with_reducible rfl
              try simp only [List.getElem_toArray, List.getElem_cons_succ, List.getElem_cons_zero, Act.put, List.setIfInBounds_toArray, List.set_cons_zero, List.set_cons_succ]
              refine wpAnyH_take (i := 3) (oi := _) (v := ?_) rfl (by kernel_rfl) (by kernel_rfl) (by kernel_rfl) (fun _ _ _ h => h) (Or.inl ⟨by kernel_rfl, ?_⟩) (by assumption) ?_
              rotate_left
              · intro w hSw
                clear hSw
                go_simp
                with_reducible rfl
              try simp only [List.getElem_toArray, List.getElem_cons_succ, List.getElem_cons_zero, Act.put, List.setIfInBounds_toArray, List.set_cons_zero, List.set_cons_succ]
              refine wpAnyH_take (i := 4) (oi := _) (v := ?_) rfl (by kernel_rfl) (by kernel_rfl) (by kernel_rfl) (fun _ _ _ h => h) (Or.inl ⟨by kernel_rfl, ?_⟩) (by assumption) ?_
              rotate_left
              · intro w hSw
                clear hSw
                go_simp
                with_reducible rfl
              try simp only [List.getElem_toArray, List.getElem_cons_succ, List.getElem_cons_zero, Act.put, List.setIfInBounds_toArray, List.set_cons_zero, List.set_cons_succ]
              refine wpAnyH_take (i := 5) (oi := _) (v := ?_) rfl (by kernel_rfl) (by kernel_rfl) (by kernel_rfl) (fun _ _ _ h => h) (Or.inl ⟨by kernel_rfl, ?_⟩) (by assumption) ?_
              rotate_left
              · intro w hSw
                clear hSw
                go_simp
                with_reducible rfl
              try simp only [List.getElem_toArray, List.getElem_cons_succ, List.getElem_cons_zero, Act.put, List.setIfInBounds_toArray, List.set_cons_zero, List.set_cons_succ]
              refine wpAnyH_take (i := 6) (oi := _) (v := ?_) rfl (by kernel_rfl) (by kernel_rfl) (by kernel_rfl) (fun _ _ _ h => h) (Or.inl ⟨by kernel_rfl, ?_⟩) (by assumption) ?_
              rotate_left
              · intro w hSw
                clear hSw
                go_simp
                with_reducible rfl
              try simp only [List.getElem_toArray, List.getElem_cons_succ, List.getElem_cons_zero, Act.put, List.setIfInBounds_toArray, List.set_cons_zero, List.set_cons_succ]
              refine wpAnyH_take (i := 7) (oi := _) (v := ?_) rfl (by kernel_rfl) (by kernel_rfl) (by kernel_rfl) (fun _ _ _ h => h) (Or.inl ⟨by kernel_rfl, ?_⟩) (by assumption) ?_
              rotate_left
              · intro w hSw
                clear hSw
                go_simp
                with_reducible rfl
              try simp only [List.getElem_toArray, List.getElem_cons_succ, List.getElem_cons_zero, Act.put, List.setIfInBounds_toArray, List.set_cons_zero, List.set_cons_succ]
              refine wpAnyH_take (i := 8) (oi := _) (v := ?_) rfl (by kernel_rfl) (by kernel_rfl) (by kernel_rfl) (fun _ _ _ h => h) (Or.inl ⟨by kernel_rfl, ?_⟩) (by assumption) ?_
              rotate_left
              · intro w hSw
                clear hSw
                go_simp
                with_reducible rfl
              try simp only [List.getElem_toArray, List.getElem_cons_succ, List.getElem_cons_zero, Act.put, List.setIfInBounds_toArray, List.set_cons_zero, List.set_cons_succ]
              refine wpAnyH_take (i := 9) (oi := _) (v := ?_) rfl (by kernel_rfl) (by kernel_rfl) (by kernel_rfl) (fun _ _ _ h => h) (Or.inl ⟨by kernel_rfl, ?_⟩) (by assumption) ?_
              rotate_left
              · intro w hSw
                obtain ⟨⟨_, hq0, hq1⟩, _, hq2, hq3⟩ := hSw
                go_simp
                with_reducible rfl
              try simp only [List.getElem_toArray, List.getElem_cons_succ, List.getElem_cons_zero, Act.put, List.setIfInBounds_toArray, List.set_cons_zero, List.set_cons_succ]
              refine wpAnyH_ready (rs := [10]) (by kernel_rfl) (by simp) ?_
              refine AllReadyH.cons (o := _) rfl (fun K_ hK => ?_) AllReadyH.nil
              go_simp
              refine hK.out _ _ ⟨hHeld.1.on ((Below.refl _ _).alloc (Nat.le_refl _) _), hHeld.2.on ((Below.refl _ _).alloc (Nat.le_refl _) _)⟩ (fun hH1 => ?_)
              clear hK K_
              try simp only [List.getElem_toArray, List.getElem_cons_succ, List.getElem_cons_zero, Act.put, List.setIfInBounds_toArray, List.set_cons_zero, List.set_cons_succ]
              refine wpAnyH_ready (rs := [11]) (by kernel_rfl) (by simp) ?_
              refine AllReadyH.cons (o := _) rfl (fun K_ hK => ?_) AllReadyH.nil
              refine step_appendT rfl _ _ 31 31 rfl (.slice av m cv) (.slice (some ⟨w11.heap.size, 0, none⟩) 1 1) (by simp [Act.eval, Act.put]) (by simp [Act.eval, Act.put]) hrun ?_
              refine hK.out _ _ ⟨two_keep hHeld.1 (grown_size hgrow) (grown_block hgrow hHeld.1.lt ?_), two_keep hHeld.2 (grown_size hgrow) (grown_block hgrow hHeld.2.lt ?_)⟩ (fun hH2 => ?_)
              · exact fun e => Nat.lt_irrefl P (hPv P e.symm)
              · exact fun e => Nat.lt_irrefl Q (Nat.lt_trans (hPv Q e.symm) hQP)
              clear hK K_ hHeld hH1
              have hHeld := hH2
              clear hH2
              try simp only [List.getElem_toArray, List.getElem_cons_succ, List.getElem_cons_zero, Act.put, List.setIfInBounds_toArray, List.set_cons_zero, List.set_cons_succ]
              refine wpAnyH_take (i := 12) (oi := _) (v := ?_) rfl (by kernel_rfl) (by kernel_rfl) (by kernel_rfl) (fun _ _ _ h => h) (Or.inl ⟨by kernel_rfl, ?_⟩) (by assumption) ?_
              rotate_left
              · intro w hSw
                clear hSw
                go_simp
                with_reducible rfl
              try simp only [List.getElem_toArray, List.getElem_cons_succ, List.getElem_cons_zero, Act.put, List.setIfInBounds_toArray, List.set_cons_zero, List.set_cons_succ]
              refine wpAnyH_take (i := 13) (oi := _) (v := ?_) rfl (by kernel_rfl) (by kernel_rfl) (by kernel_rfl) (fun _ _ _ h => h) (Or.inl ⟨by kernel_rfl, ?_⟩) (by assumption) ?_
              rotate_left
              · intro w hSw
                clear hSw
                go_simp
                with_reducible rfl
              try simp only [List.getElem_toArray, List.getElem_cons_succ, List.getElem_cons_zero, Act.put, List.setIfInBounds_toArray, List.set_cons_zero, List.set_cons_succ]
              refine wpAnyH_done (by kernel_rfl) (NoPanic.normal ?_) _
              clear hHeld
              go_wp2
              go_meet
              refine ⟨rfl, slTake t, hs ++ [(s1, g1)], push_row (by rw [← HM.out]; exact hown), by rw [List.length_append]; exact Nat.succ_le_succ hl, slG_push hG hg1t, ?_, ?_, by rw [slTake_len]; exact ht, ?_, ?_, ?_⟩
              · exact K.keep R11 (grown_size hgrow) (grown_block hgrow (K.lt R11) (ne_own (fun k h => (hvX k h).1) (Nat.le_of_lt (Nat.lt_trans hqp hb))))
              · exact sld_keep D11 (grown_size hgrow) (grown_block hgrow D11.pl (ne_own (fun k h => (hvX k h).1) (Nat.le_of_lt hb))) (grown_block hgrow D11.row.bl (ne_own (fun k h => (hvX k h).1) (Nat.le_refl b)))
              · exact X11.keep (grown_size hgrow) (grown_block hgrow X11.lt (fun e => Nat.lt_irrefl X (hvX X e.symm).2))
              · exact two_keep Y11 (grown_size hgrow) (grown_block hgrow Y11.lt (fun e => own_ne (hvX (X + 1) e.symm).2 rfl))
              · exact grown_step B11 hwb D11.row.bl r11 hgrow
            · as_aux_lemma =>
              have kt := fun u h => K.takes q t u h
              have kd := fun u h => rtake13_ p b c t u h
              have hg1t := takeG_lt D6.ok
              generalize takeS t = s1 at *
              generalize takeG t = g1 at *
              generalize takeE t = e1 at *
              go_wp2_with fail
              refine (kt _ R6).mono ?_; rintro e w7 ⟨rfl, R7, x7⟩
              have X7 := X6.by x7 neXq
              have Y7 := Y6.by x7 neYq
              have D7 := D6.beside x7 nepq nebq
              have r7 := r6.beside x7 hvq
              have B7 := below_own B6 hq x7
              clear R6 X6 Y6 D6 r6 B6 x7 kt
              go_wp2_with fail
              have hpb : ¬ w7.heap.size = b := fun e => Nat.lt_irrefl b (e ▸ D7.row.bl)
              have hPv : ∀ k, Value.ownBlock (.slice av m cv) = some k → k < w7.heap.size := fun k h => (r7.lt k h).2
              have hPX : X < w7.heap.size ∧ X + 1 < w7.heap.size := ⟨X7.lt, Y7.lt⟩
              have x8 : Below w7.heap.size w7 (w7.alloc (.cells #[.int .i64 (s1 : Int), .int .u32 (g1 : Int)] 34)) := (Below.refl _ _).alloc (Nat.le_refl _) _
              have P8 := Two.make w7 (.int .i64 (s1 : Int)) (.int .u32 (g1 : Int)) 34
              have R8 := K.on R7 x8
              have X8 := X7.on x8
              have Y8 := Y7.on x8
              have D8 := D7.on x8
              have r8 := r7.on x8
              have B8 := B7.trans (x8.mono B7.size)
              obtain ⟨w8, hw8⟩ : ∃ x_ : World, x_ = w7.alloc (.cells #[.int .i64 (s1 : Int), .int .u32 (g1 : Int)] 34) := ⟨_, rfl⟩
              rw [← hw8] at P8 R8 X8 Y8 D8 r8 B8 ⊢
              clear hw8 x8 R7 X7 Y7 D7 r7 B7
              refine (kd _ D8).mono ?_; rintro e w9 ⟨rfl, D9, x9⟩
              have P9 := P8.by x9 hpb
              have R9 := K.by R8 x9 neqb
              have X9 := X8.by x9 neXb
              have Y9 := Y8.by x9 neYb
              have r9 := r8.beside x9 hvb
              have B9 := below_own B8 hwb x9
              clear P8 R8 X8 Y8 D8 r8 B8 x9 kd
              go_upto_region 24 with fail
              have hQP : w7.heap.size < w9.heap.size := P9.lt
              have x10 : Below w9.heap.size w9 (w9.alloc (.cells #[.int .i64 (s1 : Int), .int .u32 (g1 : Int)] 34)) := (Below.refl _ _).alloc (Nat.le_refl _) _
              have Q10 := Two.make w9 (.int .i64 (s1 : Int)) (.int .u32 (g1 : Int)) 34
              have P10 := P9.on x10
              have R10 := K.on R9 x10
              have X10 := X9.on x10
              have Y10 := Y9.on x10
              have D10 := D9.on x10
              have r10 := r9.on x10
              have B10 := B9.trans (x10.mono B9.size)
              obtain ⟨w10, hw10⟩ : ∃ x_ : World, x_ = w9.alloc (.cells #[.int .i64 (s1 : Int), .int .u32 (g1 : Int)] 34) := ⟨_, rfl⟩
              rw [← hw10] at Q10 P10 R10 X10 Y10 D10 r10 B10 ⊢
              clear hw10 x10 P9 R9 X9 Y9 D9 r9 B9
              generalize w7.heap.size = P at *
              generalize w9.heap.size = Q at *
              refine wp_region_noPanic ?_
              refine wp_region_held_drew (S := (fun w' => Two w' P (.int .i64 (s1 : Int)) (.int .u32 (g1 : Int)) ∧ Two w' Q (.int .i64 (s1 : Int)) (.int .u32 (g1 : Int)))) (by kernel_rfl) ?_ (fun hHeld => ?_)
              · exact ⟨P10.on ((Below.refl _ _).drew), Q10.on ((Below.refl _ _).drew)⟩
              have x11 : Below w10.heap.size w10 w10.drew := (Below.refl _ _).drew
              have R11 := K.on R10 x11
              have X11 := X10.on x11
              have Y11 := Y10.on x11
              have D11 := D10.on x11
              have r11 := r10.on x11
              have B11 := B10.trans (x11.mono B10.size)
              obtain ⟨w11, hw11⟩ : ∃ x_ : World, x_ = w10.drew := ⟨_, rfl⟩
              rw [← hw11] at R11 X11 Y11 D11 r11 B11 hHeld ⊢
              clear hw11 x11 R10 X10 Y10 D10 r10 B10 P10 Q10
              have hrow : w11.ownsRow (b + 1) 34 2 (.slice av m cv) m (valsP hs) := by have := r11; unfold RowP at this; rwa [← HM.out] at this
              obtain ⟨p1, p2⟩ := push_ok (i := m) (n := 256) (Nat.lt_of_le_of_lt (by rw [HM.out]; exact hl) (Nat.lt_of_lt_of_le hlt (Nat.le_trans H200.out (by decide)))) (Nat.le_refl _)
              have p3 := push_base (.cells #[.int .i64 (s1 : Int), .int .u32 (g1 : Int)] 34) D11.row.bl
              obtain ⟨v3, w13, hrun, hown, hgrow, _, _⟩ := run_append_own_at (P := Try.prog) (w := w11.alloc (.cells #[.int .i64 (s1 : Int), .int .u32 (g1 : Int)] 34)) (b + 1) 31 31 34 i0 _ 2 16 Try.underlying31 hi0 hz0 hz1 hz2 rfl (Nat.succ_pos _) (.slice av m cv) m (valsP hs) (hrow.alloc (.cells #[.int .i64 (s1 : Int), .int .u32 (g1 : Int)] 34)) ⟨w11.heap.size, 0, none⟩ 1 1 (valsP [(s1, g1)]) rfl (newP w11 s1 g1 _) (onesP _) p1 p2 p3
              refine wpAnyH_take (i := 0) (oi := _) (v := ?_) rfl (by kernel_rfl) (by kernel_rfl) (by kernel_rfl) (fun _ _ _ h => h) (Or.inl ⟨by kernel_rfl, ?_⟩) (by assumption) ?_
              rotate_left
              · intro w hSw
                obtain ⟨⟨_, hq0, hq1⟩, _, hq2, hq3⟩ := hSw
                go_simp
                with_reducible rfl
              try simp only [List.getElem_toArray, List.getElem_cons_succ, List.getElem_cons_zero, Act.put, List.setIfInBounds_toArray, List.set_cons_zero, List.set_cons_succ]
              refine wpAnyH_take (i := 1) (oi := _) (v := ?_) rfl (by kernel_rfl) (by kernel_rfl) (by kernel_rfl) (fun _ _ _ h => h) (Or.inl ⟨by kernel_rfl, ?_⟩) (by assumption) ?_
              rotate_left
              · intro w hSw
                obtain ⟨⟨_, hq0, hq1⟩, _, hq2, hq3⟩ := hSw
                go_simp
                with_reducible rfl
              try simp only [List.getElem_toArray, List.getElem_cons_succ, List.getElem_cons_zero, Act.put, List.setIfInBounds_toArray, List.set_cons_zero, List.set_cons_succ]
              refine wpAnyH_take (i := 2) (oi := _) (v := ?_) rfl (by kernel_rfl) (by kernel_rfl) (by kernel_rfl) (fun _ _ _ h => h) (Or.inl ⟨by kernel_rfl, ?_⟩) (by assumption) ?_
              rotate_left
              · intro w hSw
                clear hSw
                go_simp
                with_reducible rfl
              try simp only [List.getElem_toArray, List.getElem_cons_succ, List.getElem_cons_zero, Act.put, List.setIfInBounds_toArray, List.set_cons_zero, List.set_cons_succ]
              refine wpAnyH_take (i := 3) (oi := _) (v := ?_) rfl (by kernel_rfl) (by kernel_rfl) (by kernel_rfl) (fun _ _ _ h => h) (Or.inl ⟨by kernel_rfl, ?_⟩) (by assumption) ?_
              rotate_left
              · intro w hSw
                clear hSw
                go_simp
                with_reducible rfl
              try simp only [List.getElem_toArray, List.getElem_cons_succ, List.getElem_cons_zero, Act.put, List.setIfInBounds_toArray, List.set_cons_zero, List.set_cons_succ]
              refine wpAnyH_take (i := 4) (oi := _) (v := ?_) rfl (by kernel_rfl) (by kernel_rfl) (by kernel_rfl) (fun _ _ _ h => h) (Or.inl ⟨by kernel_rfl, ?_⟩) (by assumption) ?_
              rotate_left
              · intro w hSw
                clear hSw
                go_simp
                with_reducible rfl
              try simp only [List.getElem_toArray, List.getElem_cons_succ, List.getElem_cons_zero, Act.put, List.setIfInBounds_toArray, List.set_cons_zero, List.set_cons_succ]
              refine wpAnyH_take (i := 5) (oi := _) (v := ?_) rfl (by kernel_rfl) (by kernel_rfl) (by kernel_rfl) (fun _ _ _ h => h) (Or.inl ⟨by kernel_rfl, ?_⟩) (by assumption) ?_
              rotate_left
              · intro w hSw
                clear hSw
                go_simp
                with_reducible rfl
              try simp only [List.getElem_toArray, List.getElem_cons_succ, List.getElem_cons_zero, Act.put, List.setIfInBounds_toArray, List.set_cons_zero, List.set_cons_succ]
              refine wpAnyH_take (i := 6) (oi := _) (v := ?_) rfl (by kernel_rfl) (by kernel_rfl) (by kernel_rfl) (fun _ _ _ h => h) (Or.inl ⟨by kernel_rfl, ?_⟩) (by assumption) ?_
              rotate_left
              · intro w hSw
                clear hSw
                go_simp
                with_reducible rfl
              try simp only [List.getElem_toArray, List.getElem_cons_succ, List.getElem_cons_zero, Act.put, List.setIfInBounds_toArray, List.set_cons_zero, List.set_cons_succ]
              refine wpAnyH_take (i := 7) (oi := _) (v := ?_) rfl (by kernel_rfl) (by kernel_rfl) (by kernel_rfl) (fun _ _ _ h => h) (Or.inl ⟨by kernel_rfl, ?_⟩) (by assumption) ?_
              rotate_left
              · intro w hSw
                clear hSw
                go_simp
                with_reducible rfl
              try simp only [List.getElem_toArray, List.getElem_cons_succ, List.getElem_cons_zero, Act.put, List.setIfInBounds_toArray, List.set_cons_zero, List.set_cons_succ]
              refine wpAnyH_take (i := 8) (oi := _) (v := ?_) rfl (by kernel_rfl) (by kernel_rfl) (by kernel_rfl) (fun _ _ _ h => h) (Or.inl ⟨by kernel_rfl, ?_⟩) (by assumption) ?_
              rotate_left
              · intro w hSw
                clear hSw
                go_simp
                with_reducible rfl
              try simp only [List.getElem_toArray, List.getElem_cons_succ, List.getElem_cons_zero, Act.put, List.setIfInBounds_toArray, List.set_cons_zero, List.set_cons_succ]
              refine wpAnyH_take (i := 9) (oi := _) (v := ?_) rfl (by kernel_rfl) (by kernel_rfl) (by kernel_rfl) (fun _ _ _ h => h) (Or.inl ⟨by kernel_rfl, ?_⟩) (by assumption) ?_
              rotate_left
              · intro w hSw
                obtain ⟨⟨_, hq0, hq1⟩, _, hq2, hq3⟩ := hSw
                go_simp
                with_reducible rfl
              try simp only [List.getElem_toArray, List.getElem_cons_succ, List.getElem_cons_zero, Act.put, List.setIfInBounds_toArray, List.set_cons_zero, List.set_cons_succ]
              refine wpAnyH_ready (rs := [10]) (by kernel_rfl) (by simp) ?_
              refine AllReadyH.cons (o := _) rfl (fun K_ hK => ?_) AllReadyH.nil
              go_simp
              refine hK.out _ _ ⟨hHeld.1.on ((Below.refl _ _).alloc (Nat.le_refl _) _), hHeld.2.on ((Below.refl _ _).alloc (Nat.le_refl _) _)⟩ (fun hH1 => ?_)
              clear hK K_
              try simp only [List.getElem_toArray, List.getElem_cons_succ, List.getElem_cons_zero, Act.put, List.setIfInBounds_toArray, List.set_cons_zero, List.set_cons_succ]
              refine wpAnyH_ready (rs := [11]) (by kernel_rfl) (by simp) ?_
              refine AllReadyH.cons (o := _) rfl (fun K_ hK => ?_) AllReadyH.nil
              refine step_appendT rfl _ _ 31 31 rfl (.slice av m cv) (.slice (some ⟨w11.heap.size, 0, none⟩) 1 1) (by simp [Act.eval, Act.put]) (by simp [Act.eval, Act.put]) hrun ?_
              refine hK.out _ _ ⟨two_keep hHeld.1 (grown_size hgrow) (grown_block hgrow hHeld.1.lt ?_), two_keep hHeld.2 (grown_size hgrow) (grown_block hgrow hHeld.2.lt ?_)⟩ (fun hH2 => ?_)
              · exact fun e => Nat.lt_irrefl P (hPv P e.symm)
              · exact fun e => Nat.lt_irrefl Q (Nat.lt_trans (hPv Q e.symm) hQP)
              clear hK K_ hHeld hH1
              have hHeld := hH2
              clear hH2
              try simp only [List.getElem_toArray, List.getElem_cons_succ, List.getElem_cons_zero, Act.put, List.setIfInBounds_toArray, List.set_cons_zero, List.set_cons_succ]
              refine wpAnyH_take (i := 12) (oi := _) (v := ?_) rfl (by kernel_rfl) (by kernel_rfl) (by kernel_rfl) (fun _ _ _ h => h) (Or.inl ⟨by kernel_rfl, ?_⟩) (by assumption) ?_
              rotate_left
              · intro w hSw
                clear hSw
                go_simp
                with_reducible rfl
              try simp only [List.getElem_toArray, List.getElem_cons_succ, List.getElem_cons_zero, Act.put, List.setIfInBounds_toArray, List.set_cons_zero, List.set_cons_succ]
              refine wpAnyH_take (i := 13) (oi := _) (v := ?_) rfl (by kernel_rfl) (by kernel_rfl) (by kernel_rfl) (fun _ _ _ h => h) (Or.inl ⟨by kernel_rfl, ?_⟩) (by assumption) ?_
              rotate_left
              · intro w hSw
                clear hSw
                go_simp
                with_reducible rfl
              try simp only [List.getElem_toArray, List.getElem_cons_succ, List.getElem_cons_zero, Act.put, List.setIfInBounds_toArray, List.set_cons_zero, List.set_cons_succ]
              refine wpAnyH_done (by kernel_rfl) (NoPanic.normal ?_) _
              clear hHeld
              go_wp2
              go_meet
              refine ⟨rfl, slTake t, hs ++ [(s1, g1)], push_row (by rw [← HM.out]; exact hown), by rw [List.length_append]; exact Nat.succ_le_succ hl, slG_push hG hg1t, ?_, ?_, by rw [slTake_len]; exact ht, ?_, ?_, ?_⟩
              · exact K.keep R11 (grown_size hgrow) (grown_block hgrow (K.lt R11) (ne_own (fun k h => (hvX k h).1) (Nat.le_of_lt (Nat.lt_trans hqp hb))))
              · exact sld_keep D11 (grown_size hgrow) (grown_block hgrow D11.pl (ne_own (fun k h => (hvX k h).1) (Nat.le_of_lt hb))) (grown_block hgrow D11.row.bl (ne_own (fun k h => (hvX k h).1) (Nat.le_refl b)))
              · exact X11.keep (grown_size hgrow) (grown_block hgrow X11.lt (fun e => Nat.lt_irrefl X (hvX X e.symm).2))
              · exact two_keep Y11 (grown_size hgrow) (grown_block hgrow Y11.lt (fun e => own_ne (hvX (X + 1) e.symm).2 rfl))
              · exact grown_step B11 hwb D11.row.bl r11 hgrow
            · as_aux_lemma =>
              clear hA
              go_upto_region 27 with fail
              refine wp_region_noPanic ?_
              refine wp_region_held_drew (S := (fun w' => w'.cell? ⟨X + 1, 0, none⟩ = some (.int .i64 s) ∧ w'.cell? ⟨X + 1, 1, none⟩ = some (.int .u32 (g : Int)))) (by kernel_rfl) ?_ (fun hHeld => ?_)
              · exact ⟨Y6.c0, Y6.c1⟩
              have Y_101 := Y6.on ((Below.refl wc.heap.size wc).drew)
              have R102 := K.on R6 ((Below.refl wc.heap.size wc).drew)
              have D_103 := D6.on ((Below.refl wc.heap.size wc).drew)
              have r_104 := r6.on ((Below.refl wc.heap.size wc).drew)
              have X_105 := X6.on ((Below.refl wc.heap.size wc).drew)
              have B106 := B6.trans ((((Below.refl wc.heap.size wc).drew)).mono B6.size)
              clear Y6 R6 D6 r6 X6 B6
              obtain ⟨u21, hu21⟩ : ∃ x_ : World, x_ = wc.drew := ⟨_, rfl⟩
              rw [← hu21] at Y_101 R102 B106 D_103 r_104 X_105 hHeld ⊢
              clear hu21
              refine wpAnyH_take (i := 0) (oi := _) (v := ?_) rfl (by kernel_rfl) (by kernel_rfl) (by kernel_rfl) (fun _ _ _ h => h) (Or.inl ⟨by kernel_rfl, ?_⟩) (by assumption) ?_
              rotate_left
              · intro w hSw
                clear hSw
                go_simp
                with_reducible rfl
              try simp only [List.getElem_toArray, List.getElem_cons_succ, List.getElem_cons_zero, Act.put, List.setIfInBounds_toArray, List.set_cons_zero, List.set_cons_succ]
              refine wpAnyH_take (i := 1) (oi := _) (v := ?_) rfl (by kernel_rfl) (by kernel_rfl) (by kernel_rfl) (fun _ _ _ h => h) (Or.inl ⟨by kernel_rfl, ?_⟩) (by assumption) ?_
              rotate_left
              · intro w hSw
                (try dsimp only at hSw)
                obtain ⟨hq0, hq1⟩ := hSw
                go_simp
                with_reducible rfl
              try simp only [List.getElem_toArray, List.getElem_cons_succ, List.getElem_cons_zero, Act.put, List.setIfInBounds_toArray, List.set_cons_zero, List.set_cons_succ]
              refine wpAnyH_take (i := 3) (oi := _) (v := ?_) rfl (by kernel_rfl) (by kernel_rfl) (by kernel_rfl) (fun _ _ _ h => h) (Or.inl ⟨by kernel_rfl, ?_⟩) (by assumption) ?_
              rotate_left
              · intro w hSw
                clear hSw
                go_simp
                with_reducible rfl
              try simp only [List.getElem_toArray, List.getElem_cons_succ, List.getElem_cons_zero, Act.put, List.setIfInBounds_toArray, List.set_cons_zero, List.set_cons_succ]
              refine wpAnyH_take (i := 4) (oi := _) (v := ?_) rfl (by kernel_rfl) (by kernel_rfl) (by kernel_rfl) (fun _ _ _ h => h) (Or.inl ⟨by kernel_rfl, ?_⟩) (by assumption) ?_
              rotate_left
              · intro w hSw
                (try dsimp only at hSw)
                obtain ⟨hq0, hq1⟩ := hSw
                go_simp
                with_reducible rfl
              try simp only [List.getElem_toArray, List.getElem_cons_succ, List.getElem_cons_zero, Act.put, List.setIfInBounds_toArray, List.set_cons_zero, List.set_cons_succ]
              refine wpAnyH_ready (rs := [2]) (by kernel_rfl) (by simp) ?_
              refine AllReadyH.cons (o := _) rfl (fun K_ hK => ?_) AllReadyH.nil
              go_simp
              refine (K.gives q t s g _ R102 hg6).mono ?_; rintro e w22 ⟨rfl, R107, x22⟩
              have Y_108 := Y_101.by x22 neYq
              have D_109 := D_103.beside x22 nepq nebq
              have r_110 := r_104.beside x22 hvq
              have X_111 := X_105.by x22 neXq
              have B112 := below_own B106 hq x22
              clear Y_101 R102 D_103 r_104 X_105 B106 x22
              show K_ _ _
              refine hK.out _ _ ⟨Y_108.c0, Y_108.c1⟩ (fun hH1 => ?_)
              clear hK K_ hHeld
              have hHeld := hH1
              clear hH1
              try simp only [List.getElem_toArray, List.getElem_cons_succ, List.getElem_cons_zero, Act.put, List.setIfInBounds_toArray, List.set_cons_zero, List.set_cons_succ]
              refine wpAnyH_ready (rs := [5]) (by kernel_rfl) (by simp) ?_
              refine AllReadyH.cons (o := _) rfl (fun K_ hK => ?_) AllReadyH.nil
              go_simp
              refine (rgive13_ p b c t s g _ D_109 hg6).mono ?_; rintro e w23 ⟨rfl, D113, x23⟩
              have Y_114 := Y_108.by x23 neYb
              have R115 := K.by R107 x23 neqb
              have r_116 := r_110.beside x23 hvb
              have X_117 := X_111.by x23 neXb
              have B118 := below_own B112 hwb x23
              clear Y_108 R107 D_109 r_110 X_111 B112 x23
              show K_ _ _
              refine hK.out _ _ ⟨Y_114.c0, Y_114.c1⟩ (fun hH2 => ?_)
              clear hK K_ hHeld
              have hHeld := hH2
              clear hH2
              try simp only [List.getElem_toArray, List.getElem_cons_succ, List.getElem_cons_zero, Act.put, List.setIfInBounds_toArray, List.set_cons_zero, List.set_cons_succ]
              refine wpAnyH_take (i := 6) (oi := _) (v := ?_) rfl (by kernel_rfl) (by kernel_rfl) (by kernel_rfl) (fun _ _ _ h => h) (Or.inl ⟨by kernel_rfl, ?_⟩) (by assumption) ?_
              rotate_left
              · intro w hSw
                clear hSw
                go_simp
                with_reducible rfl
              try simp only [List.getElem_toArray, List.getElem_cons_succ, List.getElem_cons_zero, Act.put, List.setIfInBounds_toArray, List.set_cons_zero, List.set_cons_succ]
              refine wpAnyH_take (i := 7) (oi := _) (v := ?_) rfl (by kernel_rfl) (by kernel_rfl) (by kernel_rfl) (fun _ _ _ h => h) (Or.inl ⟨by kernel_rfl, ?_⟩) (by assumption) ?_
              rotate_left
              · intro w hSw
                clear hSw
                go_simp
                with_reducible rfl
              try simp only [List.getElem_toArray, List.getElem_cons_succ, List.getElem_cons_zero, Act.put, List.setIfInBounds_toArray, List.set_cons_zero, List.set_cons_succ]
              refine wpAnyH_done (by kernel_rfl) (NoPanic.normal ?_) _
              clear hHeld
              go_wp2
              go_meet
              exact ⟨rfl, endT t s g 0, hs, r_116, Nat.le_succ_of_le hl, hG, R115, D113, (by rw [endT_len]; exact ht), X_117, Y_114, B118⟩
            · as_aux_lemma =>
              clear hA
              go_upto_region 30 with fail
              refine wp_region_noPanic ?_
              refine wp_region_held_drew (S := (fun w' => w'.cell? ⟨X + 1, 0, none⟩ = some (.int .i64 s) ∧ w'.cell? ⟨X + 1, 1, none⟩ = some (.int .u32 (g : Int)))) (by kernel_rfl) ?_ (fun hHeld => ?_)
              · exact ⟨Y6.c0, Y6.c1⟩
              have Y_101 := Y6.on ((Below.refl wc.heap.size wc).drew)
              have R102 := K.on R6 ((Below.refl wc.heap.size wc).drew)
              have D_103 := D6.on ((Below.refl wc.heap.size wc).drew)
              have r_104 := r6.on ((Below.refl wc.heap.size wc).drew)
              have X_105 := X6.on ((Below.refl wc.heap.size wc).drew)
              have B106 := B6.trans ((((Below.refl wc.heap.size wc).drew)).mono B6.size)
              clear Y6 R6 D6 r6 X6 B6
              obtain ⟨u21, hu21⟩ : ∃ x_ : World, x_ = wc.drew := ⟨_, rfl⟩
              rw [← hu21] at Y_101 R102 B106 D_103 r_104 X_105 hHeld ⊢
              clear hu21
              refine wpAnyH_take (i := 0) (oi := _) (v := ?_) rfl (by kernel_rfl) (by kernel_rfl) (by kernel_rfl) (fun _ _ _ h => h) (Or.inl ⟨by kernel_rfl, ?_⟩) (by assumption) ?_
              rotate_left
              · intro w hSw
                clear hSw
                go_simp
                with_reducible rfl
              try simp only [List.getElem_toArray, List.getElem_cons_succ, List.getElem_cons_zero, Act.put, List.setIfInBounds_toArray, List.set_cons_zero, List.set_cons_succ]
              refine wpAnyH_take (i := 1) (oi := _) (v := ?_) rfl (by kernel_rfl) (by kernel_rfl) (by kernel_rfl) (fun _ _ _ h => h) (Or.inl ⟨by kernel_rfl, ?_⟩) (by assumption) ?_
              rotate_left
              · intro w hSw
                (try dsimp only at hSw)
                obtain ⟨hq0, hq1⟩ := hSw
                go_simp
                with_reducible rfl
              try simp only [List.getElem_toArray, List.getElem_cons_succ, List.getElem_cons_zero, Act.put, List.setIfInBounds_toArray, List.set_cons_zero, List.set_cons_succ]
              refine wpAnyH_take (i := 3) (oi := _) (v := ?_) rfl (by kernel_rfl) (by kernel_rfl) (by kernel_rfl) (fun _ _ _ h => h) (Or.inl ⟨by kernel_rfl, ?_⟩) (by assumption) ?_
              rotate_left
              · intro w hSw
                clear hSw
                go_simp
                with_reducible rfl
              try simp only [List.getElem_toArray, List.getElem_cons_succ, List.getElem_cons_zero, Act.put, List.setIfInBounds_toArray, List.set_cons_zero, List.set_cons_succ]
              refine wpAnyH_take (i := 4) (oi := _) (v := ?_) rfl (by kernel_rfl) (by kernel_rfl) (by kernel_rfl) (fun _ _ _ h => h) (Or.inl ⟨by kernel_rfl, ?_⟩) (by assumption) ?_
              rotate_left
              · intro w hSw
                (try dsimp only at hSw)
                obtain ⟨hq0, hq1⟩ := hSw
                go_simp
                with_reducible rfl
              try simp only [List.getElem_toArray, List.getElem_cons_succ, List.getElem_cons_zero, Act.put, List.setIfInBounds_toArray, List.set_cons_zero, List.set_cons_succ]
              refine wpAnyH_ready (rs := [2]) (by kernel_rfl) (by simp) ?_
              refine AllReadyH.cons (o := _) rfl (fun K_ hK => ?_) AllReadyH.nil
              go_simp
              refine (K.retires q t s g _ R102 hg6).mono ?_; rintro e w22 ⟨rfl, R107, x22⟩
              have Y_108 := Y_101.by x22 neYq
              have D_109 := D_103.beside x22 nepq nebq
              have r_110 := r_104.beside x22 hvq
              have X_111 := X_105.by x22 neXq
              have B112 := below_own B106 hq x22
              clear Y_101 R102 D_103 r_104 X_105 B106 x22
              show K_ _ _
              refine hK.out _ _ ⟨Y_108.c0, Y_108.c1⟩ (fun hH1 => ?_)
              clear hK K_ hHeld
              have hHeld := hH1
              clear hH1
              try simp only [List.getElem_toArray, List.getElem_cons_succ, List.getElem_cons_zero, Act.put, List.setIfInBounds_toArray, List.set_cons_zero, List.set_cons_succ]
              refine wpAnyH_ready (rs := [5]) (by kernel_rfl) (by simp) ?_
              refine AllReadyH.cons (o := _) rfl (fun K_ hK => ?_) AllReadyH.nil
              go_simp
              refine (rretire13_ p b c t s g _ D_109 hg6).mono ?_; rintro e w23 ⟨rfl, D113, x23⟩
              have Y_114 := Y_108.by x23 neYb
              have R115 := K.by R107 x23 neqb
              have r_116 := r_110.beside x23 hvb
              have X_117 := X_111.by x23 neXb
              have B118 := below_own B112 hwb x23
              clear Y_108 R107 D_109 r_110 X_111 B112 x23
              show K_ _ _
              refine hK.out _ _ ⟨Y_114.c0, Y_114.c1⟩ (fun hH2 => ?_)
              clear hK K_ hHeld
              have hHeld := hH2
              clear hH2
              try simp only [List.getElem_toArray, List.getElem_cons_succ, List.getElem_cons_zero, Act.put, List.setIfInBounds_toArray, List.set_cons_zero, List.set_cons_succ]
              refine wpAnyH_take (i := 6) (oi := _) (v := ?_) rfl (by kernel_rfl) (by kernel_rfl) (by kernel_rfl) (fun _ _ _ h => h) (Or.inl ⟨by kernel_rfl, ?_⟩) (by assumption) ?_
              rotate_left
              · intro w hSw
                clear hSw
                go_simp
                with_reducible rfl
              try simp only [List.getElem_toArray, List.getElem_cons_succ, List.getElem_cons_zero, Act.put, List.setIfInBounds_toArray, List.set_cons_zero, List.set_cons_succ]
              refine wpAnyH_take (i := 7) (oi := _) (v := ?_) rfl (by kernel_rfl) (by kernel_rfl) (by kernel_rfl) (fun _ _ _ h => h) (Or.inl ⟨by kernel_rfl, ?_⟩) (by assumption) ?_
              rotate_left
              · intro w hSw
                clear hSw
                go_simp
                with_reducible rfl
              try simp only [List.getElem_toArray, List.getElem_cons_succ, List.getElem_cons_zero, Act.put, List.setIfInBounds_toArray, List.set_cons_zero, List.set_cons_succ]
              refine wpAnyH_done (by kernel_rfl) (NoPanic.normal ?_) _
              clear hHeld
              go_wp2
              go_meet
              exact ⟨rfl, endT t s g 2, hs, r_116, Nat.le_succ_of_le hl, hG, R115, D113, (by rw [endT_len]; exact ht), X_117, Y_114, B118⟩
            · as_aux_lemma =>
              clear hA
              go_upto_region 32 with fail
              refine wp_region_noPanic ?_
              refine wp_region_held_drew (S := (fun w' => w'.cell? ⟨X, 1, none⟩ = some (.int .u8 x.at_))) (by kernel_rfl) ?_ (fun hHeld => ?_)
              · exact X6.c1
              have Y_101 := Y6.on ((Below.refl wc.heap.size wc).drew)
              have R102 := K.on R6 ((Below.refl wc.heap.size wc).drew)
              have D_103 := D6.on ((Below.refl wc.heap.size wc).drew)
              have r_104 := r6.on ((Below.refl wc.heap.size wc).drew)
              have X_105 := X6.on ((Below.refl wc.heap.size wc).drew)
              have B106 := B6.trans ((((Below.refl wc.heap.size wc).drew)).mono B6.size)
              clear Y6 R6 D6 r6 X6 B6
              obtain ⟨u21, hu21⟩ : ∃ x_ : World, x_ = wc.drew := ⟨_, rfl⟩
              rw [← hu21] at Y_101 R102 B106 D_103 r_104 X_105 hHeld ⊢
              clear hu21
              refine wpAnyH_take (i := 0) (oi := _) (v := ?_) rfl (by kernel_rfl) (by kernel_rfl) (by kernel_rfl) (fun _ _ _ h => h) (Or.inl ⟨by kernel_rfl, ?_⟩) (by assumption) ?_
              rotate_left
              · intro w hSw
                clear hSw
                go_simp
                with_reducible rfl
              try simp only [List.getElem_toArray, List.getElem_cons_succ, List.getElem_cons_zero, Act.put, List.setIfInBounds_toArray, List.set_cons_zero, List.set_cons_succ]
              refine wpAnyH_take (i := 1) (oi := _) (v := ?_) rfl (by kernel_rfl) (by kernel_rfl) (by kernel_rfl) (fun _ _ _ h => h) (Or.inl ⟨by kernel_rfl, ?_⟩) (by assumption) ?_
              rotate_left
              · intro w hSw
                clear hSw
                go_simp
                with_reducible rfl
              try simp only [List.getElem_toArray, List.getElem_cons_succ, List.getElem_cons_zero, Act.put, List.setIfInBounds_toArray, List.set_cons_zero, List.set_cons_succ]
              refine wpAnyH_take (i := 2) (oi := _) (v := ?_) rfl (by kernel_rfl) (by kernel_rfl) (by kernel_rfl) (fun _ _ _ h => h) (Or.inl ⟨by kernel_rfl, ?_⟩) (by assumption) ?_
              rotate_left
              · intro w hSw
                (try dsimp only at hSw)
                go_simp
                with_reducible rfl
              try simp only [List.getElem_toArray, List.getElem_cons_succ, List.getElem_cons_zero, Act.put, List.setIfInBounds_toArray, List.set_cons_zero, List.set_cons_succ]
              refine wpAnyH_take (i := 3) (oi := _) (v := ?_) rfl (by kernel_rfl) (by kernel_rfl) (by kernel_rfl) (fun _ _ _ h => h) (Or.inl ⟨by kernel_rfl, ?_⟩) (by assumption) ?_
              rotate_left
              · intro w hSw
                clear hSw
                go_simp
                with_reducible rfl
              try simp only [List.getElem_toArray, List.getElem_cons_succ, List.getElem_cons_zero, Act.put, List.setIfInBounds_toArray, List.set_cons_zero, List.set_cons_succ]
              refine wpAnyH_take (i := 5) (oi := _) (v := ?_) rfl (by kernel_rfl) (by kernel_rfl) (by kernel_rfl) (fun _ _ _ h => h) (Or.inl ⟨by kernel_rfl, ?_⟩) (by assumption) ?_
              rotate_left
              · intro w hSw
                clear hSw
                go_simp
                with_reducible rfl
              try simp only [List.getElem_toArray, List.getElem_cons_succ, List.getElem_cons_zero, Act.put, List.setIfInBounds_toArray, List.set_cons_zero, List.set_cons_succ]
              refine wpAnyH_take (i := 6) (oi := _) (v := ?_) rfl (by kernel_rfl) (by kernel_rfl) (by kernel_rfl) (fun _ _ _ h => h) (Or.inl ⟨by kernel_rfl, ?_⟩) (by assumption) ?_
              rotate_left
              · intro w hSw
                clear hSw
                go_simp
                with_reducible rfl
              try simp only [List.getElem_toArray, List.getElem_cons_succ, List.getElem_cons_zero, Act.put, List.setIfInBounds_toArray, List.set_cons_zero, List.set_cons_succ]
              refine wpAnyH_take (i := 7) (oi := _) (v := ?_) rfl (by kernel_rfl) (by kernel_rfl) (by kernel_rfl) (fun _ _ _ h => h) (Or.inl ⟨by kernel_rfl, ?_⟩) (by assumption) ?_
              rotate_left
              · intro w hSw
                (try dsimp only at hSw)
                go_simp
                with_reducible rfl
              try simp only [List.getElem_toArray, List.getElem_cons_succ, List.getElem_cons_zero, Act.put, List.setIfInBounds_toArray, List.set_cons_zero, List.set_cons_succ]
              refine wpAnyH_take (i := 8) (oi := _) (v := ?_) rfl (by kernel_rfl) (by kernel_rfl) (by kernel_rfl) (fun _ _ _ h => h) (Or.inl ⟨by kernel_rfl, ?_⟩) (by assumption) ?_
              rotate_left
              · intro w hSw
                clear hSw
                go_simp
                with_reducible rfl
              try simp only [List.getElem_toArray, List.getElem_cons_succ, List.getElem_cons_zero, Act.put, List.setIfInBounds_toArray, List.set_cons_zero, List.set_cons_succ]
              refine wpAnyH_ready (rs := [4]) (by kernel_rfl) (by simp) ?_
              refine AllReadyH.cons (o := _) rfl (fun K_ hK => ?_) AllReadyH.nil
              go_simp
              refine (K.frees q t x.at_ _ R102).mono ?_; rintro e w22 ⟨rfl, R107, x22⟩
              have Y_108 := Y_101.by x22 neYq
              have D_109 := D_103.beside x22 nepq nebq
              have r_110 := r_104.beside x22 hvq
              have X_111 := X_105.by x22 neXq
              have B112 := below_own B106 hq x22
              clear Y_101 R102 D_103 r_104 X_105 B106 x22
              show K_ _ _
              refine hK.out _ _ X_111.c1 (fun hH1 => ?_)
              clear hK K_ hHeld
              have hHeld := hH1
              clear hH1
              try simp only [List.getElem_toArray, List.getElem_cons_succ, List.getElem_cons_zero, Act.put, List.setIfInBounds_toArray, List.set_cons_zero, List.set_cons_succ]
              refine wpAnyH_ready (rs := [9]) (by kernel_rfl) (by simp) ?_
              refine AllReadyH.cons (o := _) rfl (fun K_ hK => ?_) AllReadyH.nil
              go_simp
              refine (rfree13_ p b c t x.at_ _ D_109).mono ?_; rintro e w23 ⟨rfl, D113, x23⟩
              have Y_114 := Y_108.by x23 neYb
              have R115 := K.by R107 x23 neqb
              have r_116 := r_110.beside x23 hvb
              have X_117 := X_111.by x23 neXb
              have B118 := below_own B112 hwb x23
              clear Y_108 R107 D_109 r_110 X_111 B112 x23
              show K_ _ _
              refine hK.out _ _ X_117.c1 (fun hH2 => ?_)
              clear hK K_ hHeld
              have hHeld := hH2
              clear hH2
              try simp only [List.getElem_toArray, List.getElem_cons_succ, List.getElem_cons_zero, Act.put, List.setIfInBounds_toArray, List.set_cons_zero, List.set_cons_succ]
              refine wpAnyH_take (i := 10) (oi := _) (v := ?_) rfl (by kernel_rfl) (by kernel_rfl) (by kernel_rfl) (fun _ _ _ h => h) (Or.inl ⟨by kernel_rfl, ?_⟩) (by assumption) ?_
              rotate_left
              · intro w hSw
                clear hSw
                go_simp
                with_reducible rfl
              try simp only [List.getElem_toArray, List.getElem_cons_succ, List.getElem_cons_zero, Act.put, List.setIfInBounds_toArray, List.set_cons_zero, List.set_cons_succ]
              refine wpAnyH_take (i := 11) (oi := _) (v := ?_) rfl (by kernel_rfl) (by kernel_rfl) (by kernel_rfl) (fun _ _ _ h => h) (Or.inl ⟨by kernel_rfl, ?_⟩) (by assumption) ?_
              rotate_left
              · intro w hSw
                clear hSw
                go_simp
                with_reducible rfl
              try simp only [List.getElem_toArray, List.getElem_cons_succ, List.getElem_cons_zero, Act.put, List.setIfInBounds_toArray, List.set_cons_zero, List.set_cons_succ]
              refine wpAnyH_done (by kernel_rfl) (NoPanic.normal ?_) _
              clear hHeld
              go_wp2
              go_meet
              exact ⟨rfl, freeT t x.at_, hs, r_116, Nat.le_succ_of_le hl, hG, R115, D113, (by rw [freeT_len]; exact ht), X_117, Y_114, B118⟩
            · as_aux_lemma =>
              clear hA
              go_upto_region 27 with fail
              refine wp_region_noPanic ?_
              refine wp_region_held_drew (S := (fun w' => w'.cell? ⟨X + 1, 0, none⟩ = some (.int .i64 s) ∧ w'.cell? ⟨X + 1, 1, none⟩ = some (.int .u32 (g : Int)))) (by kernel_rfl) ?_ (fun hHeld => ?_)
              · exact ⟨Y6.c0, Y6.c1⟩
              have Y_101 := Y6.on ((Below.refl wc.heap.size wc).drew)
              have R102 := K.on R6 ((Below.refl wc.heap.size wc).drew)
              have D_103 := D6.on ((Below.refl wc.heap.size wc).drew)
              have r_104 := r6.on ((Below.refl wc.heap.size wc).drew)
              have X_105 := X6.on ((Below.refl wc.heap.size wc).drew)
              have B106 := B6.trans ((((Below.refl wc.heap.size wc).drew)).mono B6.size)
              clear Y6 R6 D6 r6 X6 B6
              obtain ⟨u21, hu21⟩ : ∃ x_ : World, x_ = wc.drew := ⟨_, rfl⟩
              rw [← hu21] at Y_101 R102 B106 D_103 r_104 X_105 hHeld ⊢
              clear hu21
              refine wpAnyH_take (i := 0) (oi := _) (v := ?_) rfl (by kernel_rfl) (by kernel_rfl) (by kernel_rfl) (fun _ _ _ h => h) (Or.inl ⟨by kernel_rfl, ?_⟩) (by assumption) ?_
              rotate_left
              · intro w hSw
                clear hSw
                go_simp
                with_reducible rfl
              try simp only [List.getElem_toArray, List.getElem_cons_succ, List.getElem_cons_zero, Act.put, List.setIfInBounds_toArray, List.set_cons_zero, List.set_cons_succ]
              refine wpAnyH_take (i := 1) (oi := _) (v := ?_) rfl (by kernel_rfl) (by kernel_rfl) (by kernel_rfl) (fun _ _ _ h => h) (Or.inl ⟨by kernel_rfl, ?_⟩) (by assumption) ?_
              rotate_left
              · intro w hSw
                (try dsimp only at hSw)
                obtain ⟨hq0, hq1⟩ := hSw
                go_simp
                with_reducible rfl
              try simp only [List.getElem_toArray, List.getElem_cons_succ, List.getElem_cons_zero, Act.put, List.setIfInBounds_toArray, List.set_cons_zero, List.set_cons_succ]
              refine wpAnyH_take (i := 3) (oi := _) (v := ?_) rfl (by kernel_rfl) (by kernel_rfl) (by kernel_rfl) (fun _ _ _ h => h) (Or.inl ⟨by kernel_rfl, ?_⟩) (by assumption) ?_
              rotate_left
              · intro w hSw
                clear hSw
                go_simp
                with_reducible rfl
              try simp only [List.getElem_toArray, List.getElem_cons_succ, List.getElem_cons_zero, Act.put, List.setIfInBounds_toArray, List.set_cons_zero, List.set_cons_succ]
              refine wpAnyH_take (i := 4) (oi := _) (v := ?_) rfl (by kernel_rfl) (by kernel_rfl) (by kernel_rfl) (fun _ _ _ h => h) (Or.inl ⟨by kernel_rfl, ?_⟩) (by assumption) ?_
              rotate_left
              · intro w hSw
                (try dsimp only at hSw)
                obtain ⟨hq0, hq1⟩ := hSw
                go_simp
                with_reducible rfl
              try simp only [List.getElem_toArray, List.getElem_cons_succ, List.getElem_cons_zero, Act.put, List.setIfInBounds_toArray, List.set_cons_zero, List.set_cons_succ]
              refine wpAnyH_ready (rs := [2]) (by kernel_rfl) (by simp) ?_
              refine AllReadyH.cons (o := _) rfl (fun K_ hK => ?_) AllReadyH.nil
              go_simp
              refine (K.gives q t s g _ R102 hg6).mono ?_; rintro e w22 ⟨rfl, R107, x22⟩
              have Y_108 := Y_101.by x22 neYq
              have D_109 := D_103.beside x22 nepq nebq
              have r_110 := r_104.beside x22 hvq
              have X_111 := X_105.by x22 neXq
              have B112 := below_own B106 hq x22
              clear Y_101 R102 D_103 r_104 X_105 B106 x22
              show K_ _ _
              refine hK.out _ _ ⟨Y_108.c0, Y_108.c1⟩ (fun hH1 => ?_)
              clear hK K_ hHeld
              have hHeld := hH1
              clear hH1
              try simp only [List.getElem_toArray, List.getElem_cons_succ, List.getElem_cons_zero, Act.put, List.setIfInBounds_toArray, List.set_cons_zero, List.set_cons_succ]
              refine wpAnyH_ready (rs := [5]) (by kernel_rfl) (by simp) ?_
              refine AllReadyH.cons (o := _) rfl (fun K_ hK => ?_) AllReadyH.nil
              go_simp
              refine (rgive13_ p b c t s g _ D_109 hg6).mono ?_; rintro e w23 ⟨rfl, D113, x23⟩
              have Y_114 := Y_108.by x23 neYb
              have R115 := K.by R107 x23 neqb
              have r_116 := r_110.beside x23 hvb
              have X_117 := X_111.by x23 neXb
              have B118 := below_own B112 hwb x23
              clear Y_108 R107 D_109 r_110 X_111 B112 x23
              show K_ _ _
              refine hK.out _ _ ⟨Y_114.c0, Y_114.c1⟩ (fun hH2 => ?_)
              clear hK K_ hHeld
              have hHeld := hH2
              clear hH2
              try simp only [List.getElem_toArray, List.getElem_cons_succ, List.getElem_cons_zero, Act.put, List.setIfInBounds_toArray, List.set_cons_zero, List.set_cons_succ]
              refine wpAnyH_take (i := 6) (oi := _) (v := ?_) rfl (by kernel_rfl) (by kernel_rfl) (by kernel_rfl) (fun _ _ _ h => h) (Or.inl ⟨by kernel_rfl, ?_⟩) (by assumption) ?_
              rotate_left
              · intro w hSw
                clear hSw
                go_simp
                with_reducible rfl
              try simp only [List.getElem_toArray, List.getElem_cons_succ, List.getElem_cons_zero, Act.put, List.setIfInBounds_toArray, List.set_cons_zero, List.set_cons_succ]
              refine wpAnyH_take (i := 7) (oi := _) (v := ?_) rfl (by kernel_rfl) (by kernel_rfl) (by kernel_rfl) (fun _ _ _ h => h) (Or.inl ⟨by kernel_rfl, ?_⟩) (by assumption) ?_
              rotate_left
              · intro w hSw
                clear hSw
                go_simp
                with_reducible rfl
              try simp only [List.getElem_toArray, List.getElem_cons_succ, List.getElem_cons_zero, Act.put, List.setIfInBounds_toArray, List.set_cons_zero, List.set_cons_succ]
              refine wpAnyH_done (by kernel_rfl) (NoPanic.normal ?_) _
              clear hHeld
              go_wp2
              go_meet
              exact ⟨rfl, endT t s g 0, hs, r_116, Nat.le_succ_of_le hl, hG, R115, D113, (by rw [endT_len]; exact ht), X_117, Y_114, B118⟩
            · as_aux_lemma =>
              clear hA
              go_upto_region 30 with fail
              refine wp_region_noPanic ?_
              refine wp_region_held_drew (S := (fun w' => w'.cell? ⟨X + 1, 0, none⟩ = some (.int .i64 s) ∧ w'.cell? ⟨X + 1, 1, none⟩ = some (.int .u32 (g : Int)))) (by kernel_rfl) ?_ (fun hHeld => ?_)
              · exact ⟨Y6.c0, Y6.c1⟩
              have Y_101 := Y6.on ((Below.refl wc.heap.size wc).drew)
              have R102 := K.on R6 ((Below.refl wc.heap.size wc).drew)
              have D_103 := D6.on ((Below.refl wc.heap.size wc).drew)
              have r_104 := r6.on ((Below.refl wc.heap.size wc).drew)
              have X_105 := X6.on ((Below.refl wc.heap.size wc).drew)
              have B106 := B6.trans ((((Below.refl wc.heap.size wc).drew)).mono B6.size)
              clear Y6 R6 D6 r6 X6 B6
              obtain ⟨u21, hu21⟩ : ∃ x_ : World, x_ = wc.drew := ⟨_, rfl⟩
              rw [← hu21] at Y_101 R102 B106 D_103 r_104 X_105 hHeld ⊢
              clear hu21
              refine wpAnyH_take (i := 0) (oi := _) (v := ?_) rfl (by kernel_rfl) (by kernel_rfl) (by kernel_rfl) (fun _ _ _ h => h) (Or.inl ⟨by kernel_rfl, ?_⟩) (by assumption) ?_
              rotate_left
              · intro w hSw
                clear hSw
                go_simp
                with_reducible rfl
              try simp only [List.getElem_toArray, List.getElem_cons_succ, List.getElem_cons_zero, Act.put, List.setIfInBounds_toArray, List.set_cons_zero, List.set_cons_succ]
              refine wpAnyH_take (i := 1) (oi := _) (v := ?_) rfl (by kernel_rfl) (by kernel_rfl) (by kernel_rfl) (fun _ _ _ h => h) (Or.inl ⟨by kernel_rfl, ?_⟩) (by assumption) ?_
              rotate_left
              · intro w hSw
                (try dsimp only at hSw)
                obtain ⟨hq0, hq1⟩ := hSw
                go_simp
                with_reducible rfl
              try simp only [List.getElem_toArray, List.getElem_cons_succ, List.getElem_cons_zero, Act.put, List.setIfInBounds_toArray, List.set_cons_zero, List.set_cons_succ]
              refine wpAnyH_take (i := 3) (oi := _) (v := ?_) rfl (by kernel_rfl) (by kernel_rfl) (by kernel_rfl) (fun _ _ _ h => h) (Or.inl ⟨by kernel_rfl, ?_⟩) (by assumption) ?_
              rotate_left
              · intro w hSw
                clear hSw
                go_simp
                with_reducible rfl
              try simp only [List.getElem_toArray, List.getElem_cons_succ, List.getElem_cons_zero, Act.put, List.setIfInBounds_toArray, List.set_cons_zero, List.set_cons_succ]
              refine wpAnyH_take (i := 4) (oi := _) (v := ?_) rfl (by kernel_rfl) (by kernel_rfl) (by kernel_rfl) (fun _ _ _ h => h) (Or.inl ⟨by kernel_rfl, ?_⟩) (by assumption) ?_
              rotate_left
              · intro w hSw
                (try dsimp only at hSw)
                obtain ⟨hq0, hq1⟩ := hSw
                go_simp
                with_reducible rfl
              try simp only [List.getElem_toArray, List.getElem_cons_succ, List.getElem_cons_zero, Act.put, List.setIfInBounds_toArray, List.set_cons_zero, List.set_cons_succ]
              refine wpAnyH_ready (rs := [2]) (by kernel_rfl) (by simp) ?_
              refine AllReadyH.cons (o := _) rfl (fun K_ hK => ?_) AllReadyH.nil
              go_simp
              refine (K.retires q t s g _ R102 hg6).mono ?_; rintro e w22 ⟨rfl, R107, x22⟩
              have Y_108 := Y_101.by x22 neYq
              have D_109 := D_103.beside x22 nepq nebq
              have r_110 := r_104.beside x22 hvq
              have X_111 := X_105.by x22 neXq
              have B112 := below_own B106 hq x22
              clear Y_101 R102 D_103 r_104 X_105 B106 x22
              show K_ _ _
              refine hK.out _ _ ⟨Y_108.c0, Y_108.c1⟩ (fun hH1 => ?_)
              clear hK K_ hHeld
              have hHeld := hH1
              clear hH1
              try simp only [List.getElem_toArray, List.getElem_cons_succ, List.getElem_cons_zero, Act.put, List.setIfInBounds_toArray, List.set_cons_zero, List.set_cons_succ]
              refine wpAnyH_ready (rs := [5]) (by kernel_rfl) (by simp) ?_
              refine AllReadyH.cons (o := _) rfl (fun K_ hK => ?_) AllReadyH.nil
              go_simp
              refine (rretire13_ p b c t s g _ D_109 hg6).mono ?_; rintro e w23 ⟨rfl, D113, x23⟩
              have Y_114 := Y_108.by x23 neYb
              have R115 := K.by R107 x23 neqb
              have r_116 := r_110.beside x23 hvb
              have X_117 := X_111.by x23 neXb
              have B118 := below_own B112 hwb x23
              clear Y_108 R107 D_109 r_110 X_111 B112 x23
              show K_ _ _
              refine hK.out _ _ ⟨Y_114.c0, Y_114.c1⟩ (fun hH2 => ?_)
              clear hK K_ hHeld
              have hHeld := hH2
              clear hH2
              try simp only [List.getElem_toArray, List.getElem_cons_succ, List.getElem_cons_zero, Act.put, List.setIfInBounds_toArray, List.set_cons_zero, List.set_cons_succ]
              refine wpAnyH_take (i := 6) (oi := _) (v := ?_) rfl (by kernel_rfl) (by kernel_rfl) (by kernel_rfl) (fun _ _ _ h => h) (Or.inl ⟨by kernel_rfl, ?_⟩) (by assumption) ?_
              rotate_left
              · intro w hSw
                clear hSw
                go_simp
                with_reducible rfl
              try simp only [List.getElem_toArray, List.getElem_cons_succ, List.getElem_cons_zero, Act.put, List.setIfInBounds_toArray, List.set_cons_zero, List.set_cons_succ]
              refine wpAnyH_take (i := 7) (oi := _) (v := ?_) rfl (by kernel_rfl) (by kernel_rfl) (by kernel_rfl) (fun _ _ _ h => h) (Or.inl ⟨by kernel_rfl, ?_⟩) (by assumption) ?_
              rotate_left
              · intro w hSw
                clear hSw
                go_simp
                with_reducible rfl
              try simp only [List.getElem_toArray, List.getElem_cons_succ, List.getElem_cons_zero, Act.put, List.setIfInBounds_toArray, List.set_cons_zero, List.set_cons_succ]
              refine wpAnyH_done (by kernel_rfl) (NoPanic.normal ?_) _
              clear hHeld
              go_wp2
              go_meet
              exact ⟨rfl, endT t s g 2, hs, r_116, Nat.le_succ_of_le hl, hG, R115, D113, (by rw [endT_len]; exact ht), X_117, Y_114, B118⟩
            · as_aux_lemma =>
              clear hA
              go_upto_region 19 with fail
              refine wp_region_noPanic ?_
              refine wp_region_held_drew (S := (fun w' => w'.cell? ⟨X, 4, none⟩ = some (.int .i64 x.raw))) (by kernel_rfl) ?_ (fun hHeld => ?_)
              · exact X6.c4
              have Y_101 := Y6.on ((Below.refl wc.heap.size wc).drew)
              have R102 := K.on R6 ((Below.refl wc.heap.size wc).drew)
              have D_103 := D6.on ((Below.refl wc.heap.size wc).drew)
              have r_104 := r6.on ((Below.refl wc.heap.size wc).drew)
              have X_105 := X6.on ((Below.refl wc.heap.size wc).drew)
              have B106 := B6.trans ((((Below.refl wc.heap.size wc).drew)).mono B6.size)
              clear Y6 R6 D6 r6 X6 B6
              obtain ⟨u21, hu21⟩ : ∃ x_ : World, x_ = wc.drew := ⟨_, rfl⟩
              rw [← hu21] at Y_101 R102 B106 D_103 r_104 X_105 hHeld ⊢
              clear hu21
              refine wpAnyH_take (i := 0) (oi := _) (v := ?_) rfl (by kernel_rfl) (by kernel_rfl) (by kernel_rfl) (fun _ _ _ h => h) (Or.inl ⟨by kernel_rfl, ?_⟩) (by assumption) ?_
              rotate_left
              · intro w hSw
                clear hSw
                go_simp
                with_reducible rfl
              try simp only [List.getElem_toArray, List.getElem_cons_succ, List.getElem_cons_zero, Act.put, List.setIfInBounds_toArray, List.set_cons_zero, List.set_cons_succ]
              refine wpAnyH_take (i := 1) (oi := _) (v := ?_) rfl (by kernel_rfl) (by kernel_rfl) (by kernel_rfl) (fun _ _ _ h => h) (Or.inl ⟨by kernel_rfl, ?_⟩) (by assumption) ?_
              rotate_left
              · intro w hSw
                clear hSw
                go_simp
                with_reducible rfl
              try simp only [List.getElem_toArray, List.getElem_cons_succ, List.getElem_cons_zero, Act.put, List.setIfInBounds_toArray, List.set_cons_zero, List.set_cons_succ]
              refine wpAnyH_take (i := 2) (oi := _) (v := ?_) rfl (by kernel_rfl) (by kernel_rfl) (by kernel_rfl) (fun _ _ _ h => h) (Or.inl ⟨by kernel_rfl, ?_⟩) (by assumption) ?_
              rotate_left
              · intro w hSw
                (try dsimp only at hSw)
                go_simp
                with_reducible rfl
              try simp only [List.getElem_toArray, List.getElem_cons_succ, List.getElem_cons_zero, Act.put, List.setIfInBounds_toArray, List.set_cons_zero, List.set_cons_succ]
              refine wpAnyH_take (i := 4) (oi := _) (v := ?_) rfl (by kernel_rfl) (by kernel_rfl) (by kernel_rfl) (fun _ _ _ h => h) (Or.inl ⟨by kernel_rfl, ?_⟩) (by assumption) ?_
              rotate_left
              · intro w hSw
                clear hSw
                go_simp
                with_reducible rfl
              try simp only [List.getElem_toArray, List.getElem_cons_succ, List.getElem_cons_zero, Act.put, List.setIfInBounds_toArray, List.set_cons_zero, List.set_cons_succ]
              refine wpAnyH_take (i := 5) (oi := _) (v := ?_) rfl (by kernel_rfl) (by kernel_rfl) (by kernel_rfl) (fun _ _ _ h => h) (Or.inl ⟨by kernel_rfl, ?_⟩) (by assumption) ?_
              rotate_left
              · intro w hSw
                clear hSw
                go_simp
                with_reducible rfl
              try simp only [List.getElem_toArray, List.getElem_cons_succ, List.getElem_cons_zero, Act.put, List.setIfInBounds_toArray, List.set_cons_zero, List.set_cons_succ]
              refine wpAnyH_take (i := 6) (oi := _) (v := ?_) rfl (by kernel_rfl) (by kernel_rfl) (by kernel_rfl) (fun _ _ _ h => h) (Or.inl ⟨by kernel_rfl, ?_⟩) (by assumption) ?_
              rotate_left
              · intro w hSw
                (try dsimp only at hSw)
                go_simp
                with_reducible rfl
              try simp only [List.getElem_toArray, List.getElem_cons_succ, List.getElem_cons_zero, Act.put, List.setIfInBounds_toArray, List.set_cons_zero, List.set_cons_succ]
              refine wpAnyH_ready (rs := [3]) (by kernel_rfl) (by simp) ?_
              refine AllReadyH.cons (o := _) rfl (fun K_ hK => ?_) AllReadyH.nil
              go_simp
              refine (K.frees q t x.raw _ R102).mono ?_; rintro e w22 ⟨rfl, R107, x22⟩
              have Y_108 := Y_101.by x22 neYq
              have D_109 := D_103.beside x22 nepq nebq
              have r_110 := r_104.beside x22 hvq
              have X_111 := X_105.by x22 neXq
              have B112 := below_own B106 hq x22
              clear Y_101 R102 D_103 r_104 X_105 B106 x22
              show K_ _ _
              refine hK.out _ _ X_111.c4 (fun hH1 => ?_)
              clear hK K_ hHeld
              have hHeld := hH1
              clear hH1
              try simp only [List.getElem_toArray, List.getElem_cons_succ, List.getElem_cons_zero, Act.put, List.setIfInBounds_toArray, List.set_cons_zero, List.set_cons_succ]
              refine wpAnyH_ready (rs := [7]) (by kernel_rfl) (by simp) ?_
              refine AllReadyH.cons (o := _) rfl (fun K_ hK => ?_) AllReadyH.nil
              go_simp
              refine (rfree13_ p b c t x.raw _ D_109).mono ?_; rintro e w23 ⟨rfl, D113, x23⟩
              have Y_114 := Y_108.by x23 neYb
              have R115 := K.by R107 x23 neqb
              have r_116 := r_110.beside x23 hvb
              have X_117 := X_111.by x23 neXb
              have B118 := below_own B112 hwb x23
              clear Y_108 R107 D_109 r_110 X_111 B112 x23
              show K_ _ _
              refine hK.out _ _ X_117.c4 (fun hH2 => ?_)
              clear hK K_ hHeld
              have hHeld := hH2
              clear hH2
              try simp only [List.getElem_toArray, List.getElem_cons_succ, List.getElem_cons_zero, Act.put, List.setIfInBounds_toArray, List.set_cons_zero, List.set_cons_succ]
              refine wpAnyH_take (i := 8) (oi := _) (v := ?_) rfl (by kernel_rfl) (by kernel_rfl) (by kernel_rfl) (fun _ _ _ h => h) (Or.inl ⟨by kernel_rfl, ?_⟩) (by assumption) ?_
              rotate_left
              · intro w hSw
                clear hSw
                go_simp
                with_reducible rfl
              try simp only [List.getElem_toArray, List.getElem_cons_succ, List.getElem_cons_zero, Act.put, List.setIfInBounds_toArray, List.set_cons_zero, List.set_cons_succ]
              refine wpAnyH_take (i := 9) (oi := _) (v := ?_) rfl (by kernel_rfl) (by kernel_rfl) (by kernel_rfl) (fun _ _ _ h => h) (Or.inl ⟨by kernel_rfl, ?_⟩) (by assumption) ?_
              rotate_left
              · intro w hSw
                clear hSw
                go_simp
                with_reducible rfl
              try simp only [List.getElem_toArray, List.getElem_cons_succ, List.getElem_cons_zero, Act.put, List.setIfInBounds_toArray, List.set_cons_zero, List.set_cons_succ]
              refine wpAnyH_done (by kernel_rfl) (NoPanic.normal ?_) _
              clear hHeld
              go_wp2
              go_meet
              exact ⟨rfl, freeT t x.raw, hs, r_116, Nat.le_succ_of_le hl, hG, R115, D113, (by rw [freeT_len]; exact ht), X_117, Y_114, B118⟩
          case rest => as_aux_lemma =>
            obtain ⟨rfl, t2, hs2, r7, hl7, hG7, R7, D7, ht7, X7, Y7, B7⟩ := hcut
            clear X6 Y6 R6 D6 r6 B6
            have kc := K.counts q t2
            go_wp2_with fail
            refine (K.counts q t2 _ R7).mono ?_; rintro e w8 ⟨rfl, x8⟩
            have R8 := K.on R7 x8
            have D8 := D7.on x8
            have r8 := r7.on x8
            have X8 := X7.on x8
            have Y8 := Y7.on x8
            have B8 := B7.trans (x8.mono B7.size)
            clear x8 R7 D7 r7 X7 Y7 B7
            go_wp2_with fail
            refine (rcount13_ p b c t2 _ D8).mono ?_; rintro e w9 ⟨rfl, x9⟩
            have R9 := K.on R8 x9
            have D9 := D8.on x9
            have r9 := r8.on x9
            have X9 := X8.on x9
            have Y9 := Y8.on x9
            have B9 := B8.trans (x9.mono B8.size)
            clear x9 R8 D8 r8 X8 Y8 B8
            go_upto_region 35 with fail
            clear kc
            have ba : ∀ q_ : Later w9.heap.size w9, q_.u.cell? ⟨X, 1, none⟩ = some (.int .u8 (A : Int)) := fun q_ => q_.block X9.lt (by rw [← hA]; exact X9.c1)
            have br : ∀ q_ : Later w9.heap.size w9, q_.u.cell? ⟨X, 4, none⟩ = some (.int .i64 x.raw) := fun q_ => q_.block X9.lt X9.c4
            have bs : ∀ q_ : Later w9.heap.size w9, q_.u.cell? ⟨X, 2, none⟩ = some (.int .i64 x.s) := fun q_ => q_.block X9.lt X9.c2
            have bg : ∀ q_ : Later w9.heap.size w9, q_.u.cell? ⟨X, 3, none⟩ = some (.int .u32 (g0 : Int)) := fun q_ => q_.block X9.lt (by rw [← hg0]; exact X9.c3)
            have bh : ∀ q_ : Later w9.heap.size w9, q_.u.cell? ⟨X + 1, 0, none⟩ = some (.int .i64 s) := fun q_ => q_.block Y9.lt Y9.c0
            have bi : ∀ q_ : Later w9.heap.size w9, q_.u.cell? ⟨X + 1, 1, none⟩ = some (.int .u32 (g : Int)) := fun q_ => q_.block Y9.lt Y9.c1
            have y5 : IntKind.i64.wrap (A : Int) = (A : Int) := wrap_byte hA1
            have ks : ∀ (z : Int) (q_ : Later w9.heap.size w9), Calls Try.prog 20 #[.pointer (some ⟨q, 0, none⟩), .int .i64 z] q_.u fun e w' => e = .returned (.int .i64 (stateV t2 z)) ∧ Below q_.u.heap.size q_.u w' := fun z q_ => K.states q t2 z _ (K.on R9 q_.h)
            have kd : ∀ (z : Int) (q_ : Later w9.heap.size w9), Calls Try.prog 21 #[.pointer (some ⟨p, 0, none⟩), .int .i64 z] q_.u fun e w' => e = .returned (.int .i64 (stateV t2 z)) ∧ Below q_.u.heap.size q_.u w' := fun z q_ => (rstate13_ p b c t2 z _ (D9.on q_.h)).mono (fun e w' h => ⟨h.1, by rw [← h.2]; exact Below.refl _ _⟩)
            have kl : ∀ (z : Int) (y : Nat) (hy : y < 4294967296) (q_ : Later w9.heap.size w9), Calls Try.prog 22 #[.pointer (some ⟨q, 0, none⟩), .agg #[.int .i64 z, .int .u32 (y : Int)]] q_.u fun e w' => e = .returned (.bool (liveV t2 z y)) ∧ Below q_.u.heap.size q_.u w' := fun z y hy q_ => K.lives q t2 z y _ (K.on R9 q_.h) hy
            have km : ∀ (z : Int) (y : Nat) (q_ : Later w9.heap.size w9), Calls Try.prog 23 #[.pointer (some ⟨p, 0, none⟩), .agg #[.int .i64 z, .int .u32 (y : Int)]] q_.u fun e w' => e = .returned (.bool (liveV t2 z y)) ∧ Below q_.u.heap.size q_.u w' := fun z y q_ => rlive13_ p b c t2 z y _ (D9.on q_.h)
            have kz : ∀ (q_ : Later w9.heap.size w9), Calls Try.prog 24 #[.pointer (some ⟨q, 0, none⟩)] q_.u fun e w' => e = .returned (.int .i64 (N : Int)) ∧ Below q_.u.heap.size q_.u w' := fun q_ => by have h := K.sizes q t2 _ (K.on R9 q_.h); rw [ht7] at h; exact h
            simp only [List.append_eq, List.cons_append, List.nil_append]
            refine region_later (B := w9.heap.size) (by kernel_rfl) (by kernel_rfl) ?_
            repeat (go_big_quiet_step (first
              | (go_at_call_of 20 x.raw; exact later_of _ (Nat.le_refl _) (ks x.raw _))
              | (go_at_call_of 20 (A : Int); exact later_of _ (Nat.le_refl _) (ks (A : Int) _))
              | (go_at_call_of 21 x.raw; exact later_of _ (Nat.le_refl _) (kd x.raw _))
              | (go_at_call_of 21 (A : Int); exact later_of _ (Nat.le_refl _) (kd (A : Int) _))
              | (go_at_call_of 22 x.s; exact later_of _ (Nat.le_refl _) (kl x.s g0 hg1 _))
              | (go_at_call_of 22 s; exact later_of _ (Nat.le_refl _) (kl s g hg6 _))
              | (go_at_call_of 23 x.s; exact later_of _ (Nat.le_refl _) (km x.s g0 _))
              | (go_at_call_of 23 s; exact later_of _ (Nat.le_refl _) (km s g _))
              | (go_at_call 24; exact later_of _ (Nat.le_refl _) (kz _))))
            refine later_end fun w10 b10 => ?_
            have R10 := Lib.hid (K.on R9 b10)
            have D10 := Lib.hid (D9.on b10)
            have r10 := Lib.hid (r9.on b10)
            have B10 := Lib.hid (B9.trans (b10.mono B9.size))
            clear b10 R9 D9 r9 B9 X9 Y9 ba br bs bg bh bi ks kd kl km kz
            go_wp2
            go_roundw
            case rel =>
              have ew : wrap64 ((i : Int) + 1) = (i : Int) + 1 := step_64 (Nat.lt_of_lt_of_le hlt (Nat.le_trans H200.out (by decide)))
              exact ⟨i + 1, t2, hs2, hlt, by simp [ew], r10.out, R10.out, D10.out, ht7, hl7, hG7, B10.out⟩
            case measure =>
              have ew : wrap64 ((i : Int) + 1) = (i : Int) + 1 := step_64 (Nat.lt_of_lt_of_le hlt (Nat.le_trans H200.out (by decide)))
              first | exact step_meas ew (step_less hlt) | exact step_less hlt
    · obtain rfl : i = len := Nat.le_antisymm hi (Nat.le_of_not_lt hlt)
      have t1 : decide ((i : Int) < (i : Int)) = false := by simp
      clear r3 R3 D3 hG
      go_wp2_with fail
      refine (slotted_ K _).mono ?_; rintro e w9 ⟨rfl, x9⟩
      have B9 := B3.trans (x9.mono B3.size)
      clear B3 x9
      go_wp2
      go_ret
      exact ⟨rfl, B9⟩
end Go.Proofs.Ytlnbjpabcldmnaa.SlabPlay
