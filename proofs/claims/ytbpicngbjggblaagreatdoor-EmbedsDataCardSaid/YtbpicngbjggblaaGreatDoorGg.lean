/- Texts of this proof, together: UdpK, UdpL, UdpN. -/
import Derived.Test.YtbpicngbjggblaaGreatDoorGf
import Derived.Test.YtbpicngbjggblaaGreatDoorGc
import Derived.Test.YtbpicngbjggblaaGreatDoorGb
import Derived.Laws.OwnMore
import Derived.ArgAppend
import Derived.Deep.AppendLies
import Derived.Deep.RegionHeld3
namespace Go.Proofs.YtbpicngbjggblaaGreatDoor
set_option maxHeartbeats 2000000
set_option maxRecDepth 100000
set_option linter.unusedVariables false
set_option linter.unusedSimpArgs false
open Go.ChangeShapes Go.WideShapes Go.ChangeAt Go.RowKit Go.PlainAid
attribute [local go_sem ↓] Go.wp_at_zero Go.wp_at_succ
theorem udpGet16_ (s : ByteArray) (k : Nat) (w : World) (hs : s.size ≤ maxLen) (h : k + 2 ≤ s.size) :
    Cw_ 145 #[.string s, .int .i64 (k : Int)] (.int .u16 (g16 s k)) w := by
  go_enter Tryz.func145, Tryz.ntmps145
  go_wp2_with fail
  refine (get16_yes s k _ hs h).mono ?_; rintro e w' ⟨rfl, B⟩
  go_wp2
  go_ret
  exact ⟨rfl, B⟩
theorem udpRead_ (s : ByteArray) (w : World) (hs : s.size ≤ maxLen) (h : 8 ≤ s.size) :
    Cw_ 133 #[.string s] (.agg #[.int .u16 (g16 s 0), .int .u16 (g16 s 2), .int .u16 (g16 s 4), .int .u16 (g16 s 6)]) w := by
  have c0 := fun u => udpGet16_ s 0 u hs (by omega)
  have c2 := fun u => udpGet16_ s 2 u hs (by omega)
  have c4 := fun u => udpGet16_ s 4 u hs (by omega)
  have c6 := fun u => udpGet16_ s 6 u hs (by omega)
  generalize g16 s 0 = v0 at *
  generalize g16 s 2 = v2 at *
  generalize g16 s 4 = v4 at *
  generalize g16 s 6 = v6 at *
  go_enter Tryz.func133, Tryz.ntmps133
  go_wp2_with fail
  refine (c0 _).mono ?_; rintro e w1 ⟨rfl, b1⟩
  obtain ⟨w0, hw0⟩ : ∃ w0, w0 = w.alloc (.cells #[.int .u16 0, .int .u16 0, .int .u16 0, .int .u16 0] 154) := ⟨_, rfl⟩
  rw [← hw0] at b1
  go_wp2_with fail
  refine (c2 _).mono ?_; rintro e w2 ⟨rfl, b2⟩
  have B2 := b1.trans (b2.mono b1.size)
  clear b1 b2 c0 c2
  go_wp2_with fail
  refine (c4 _).mono ?_; rintro e w3 ⟨rfl, b3⟩
  have B3 := B2.trans (b3.mono B2.size)
  clear b3 c4 B2
  go_wp2_with fail
  refine (c6 _).mono ?_; rintro e w4 ⟨rfl, b4⟩
  have B4 := B3.trans (b4.mono B3.size)
  clear b4 c6 B3
  subst hw0
  obtain ⟨hc, hf⟩ := bcell4_ B4
  have hz : w.heap.size < w4.heap.size := by have := B4.size; simp at this; omega
  have B5 : Below w.heap.size w w4 := ((Below.refl _ _).alloc (Nat.le_refl _) _).trans (B4.mono (by simp))
  have hz2 := B5.size
  go_wp2
  refine box4_ (b := w.heap.size) (box4_is rfl hc) B5 (Nat.le_refl _) fun w9 x0 x1 x2 x3 B9 _ _ => ?_
  refine bodyPost_ret (v := .agg #[.int .u16 v0, .int .u16 v2, .int .u16 v4, .int .u16 v6]) (by simp [results, Tryz.results133, go_sem, x0, x1, x2, x3]) rfl ?_
  exact ⟨rfl, B9⟩
/-- A box of four cells that is written whole, its marks. -/
theorem box4f_ {W0 W : World} {b n : Nat} {v0 v1 v2 v3 : Value} {M : World → Prop} (h : ∀ j, j < 4 → (W.cell? ⟨b, j, none⟩).isSome = true) (hb : Below n W0 W) (hn : n ≤ b)
    (k : ∀ X : World, X.cell? ⟨b, 0, none⟩ = some v0 → X.cell? ⟨b, 1, none⟩ = some v1 → X.cell? ⟨b, 2, none⟩ = some v2 → X.cell? ⟨b, 3, none⟩ = some v3 → Below n W0 X → (∀ a : Addr, X.frozen? a = W.frozen? a) → X.heap.size = W.heap.size → M X) :
    M ((((W.setCell ⟨b, 0, none⟩ v0).setCell ⟨b, 1, none⟩ v1).setCell ⟨b, 2, none⟩ v2).setCell ⟨b, 3, none⟩ v3) := by
  have c := World.cell?_setCells_in b [v0, v1, v2, v3] 0 W (by intro j hj; rw [Nat.zero_add]; exact h j hj)
  refine k _ (c 0 (by simp)) (c 1 (by simp)) (c 2 (by simp)) (c 3 (by simp)) ?_ (by intro a; simp) (by simp)
  exact (((hb.setCell hn _).setCell hn _).setCell hn _).setCell hn _
/-- The same, written whole twice. -/
theorem box4d_ {W0 W : World} {b n : Nat} {u0 u1 u2 u3 v0 v1 v2 v3 : Value} {M : World → Prop} (h : ∀ j, j < 4 → (W.cell? ⟨b, j, none⟩).isSome = true) (hb : Below n W0 W) (hn : n ≤ b)
    (k : ∀ X : World, X.cell? ⟨b, 0, none⟩ = some v0 → X.cell? ⟨b, 1, none⟩ = some v1 → X.cell? ⟨b, 2, none⟩ = some v2 → X.cell? ⟨b, 3, none⟩ = some v3 → Below n W0 X → X.heap.size = W.heap.size → M X) :
    M ((((((((W.setCell ⟨b, 0, none⟩ u0).setCell ⟨b, 1, none⟩ u1).setCell ⟨b, 2, none⟩ u2).setCell ⟨b, 3, none⟩ u3).setCell ⟨b, 0, none⟩ v0).setCell ⟨b, 1, none⟩ v1).setCell ⟨b, 2, none⟩ v2).setCell ⟨b, 3, none⟩ v3) := by
  refine box4f_ (M := fun Y => M ((((Y.setCell ⟨b, 0, none⟩ v0).setCell ⟨b, 1, none⟩ v1).setCell ⟨b, 2, none⟩ v2).setCell ⟨b, 3, none⟩ v3)) h hb hn fun Y y0 y1 y2 y3 BY _ sY => ?_
  refine box4f_ (W0 := W0) (n := n) ?_ BY hn fun X x0 x1 x2 x3 BX _ sX => k X x0 x1 x2 x3 BX (sX.trans sY)
  intro j hj
  match j, hj with
  | 0, _ => rw [y0]; rfl
  | 1, _ => rw [y1]; rfl
  | 2, _ => rw [y2]; rfl
  | 3, _ => rw [y3]; rfl
theorem udpParse_ (s : ByteArray) (w : World) (hs : s.size ≤ 1000000) :
    Cw_ 95 #[.string s] (.tuple #[.agg #[.int .u16 (uI s (g16 s 0)), .int .u16 (uI s (g16 s 2)), .int .u16 (uI s (g16 s 4)), .int .u16 (uI s (g16 s 6))], .string (uP s), .bool (uOk s)]) w := by
  have hs2 : s.size ≤ maxLen := by unfold maxLen; omega
  by_cases h8 : s.size < 8
  · have hk : uOk s = false := by unfold uOk; simp; omega
    obtain ⟨y1, y2⟩ := uOk_no hk
    rw [y1, y1, y1, y1, y2, hk]
    have e1 : decide ((s.size : Int) < 8) = true := by simp; omega
    clear h8 hk y1 y2
    go_enter Tryz.func95, Tryz.ntmps95
    go_wp2
    refine bodyPost_ret (v := .tuple #[.agg #[.int .u16 0, .int .u16 0, .int .u16 0, .int .u16 0], .string ⟨#[]⟩, .bool false]) (by simp [results, Tryz.results95, go_sem]) rfl ?_
    exact ⟨rfl, (Below.refl _ _).alloc (Nat.le_refl _) _⟩
  have e1 : decide ((s.size : Int) < 8) = false := by simp; omega
  have cr := fun u => udpRead_ s u hs2 (by omega)
  have z0 := g16_nonneg s 4
  have z1 := g16_le s 4
  by_cases h4 : g16 s 4 = (s.size : Int)
  rotate_left
  · have hk : uOk s = false := by unfold uOk; simp [h4]
    obtain ⟨y1, y2⟩ := uOk_no hk
    rw [y1, y1, y1, y1, y2, hk]
    generalize g16 s 0 = v0 at *
    generalize g16 s 2 = v2 at *
    generalize g16 s 6 = v6 at *
    obtain ⟨z, hz⟩ : ∃ z : Int, z = g16 s 4 := ⟨_, rfl⟩
    rw [← hz] at h4 cr z0 z1
    have e2 : (z == (s.size : Int)) = false := by simpa using h4
    have e3 : (z != (s.size : Int)) = true := by simpa using h4
    clear h8 hk y1 y2 h4 hz
    go_enter Tryz.func95, Tryz.ntmps95
    go_wp2_with fail
    refine (cr _).mono ?_; rintro e w1 ⟨rfl, b1⟩
    obtain ⟨hc, hf⟩ := bcell4_ b1
    have hz : w.heap.size < w1.heap.size := by have := b1.size; simp at this; omega
    have B1 : Below w.heap.size w w1 := ((Below.refl _ _).alloc (Nat.le_refl _) _).trans (b1.mono (by simp))
    have hz2 := B1.size
    go_wp2
    refine box4d_ (b := w.heap.size) (box4_is rfl hc) B1 (Nat.le_refl _) fun X x0 x1 x2 x3 BX _ => ?_
    refine bodyPost_ret (v := .tuple #[.agg #[.int .u16 0, .int .u16 0, .int .u16 0, .int .u16 0], .string ⟨#[]⟩, .bool false]) (by simp [results, Tryz.results95, go_sem, x0, x1, x2, x3]) rfl ?_
    exact ⟨rfl, BX⟩
  have hk : uOk s = true := by unfold uOk; simp [h4]; omega
  obtain ⟨_, _, y1, y2⟩ := uOk_yes hk
  rw [y1, y1, y1, y1, y2, hk]
  rw [h4] at cr z0 z1 ⊢
  generalize g16 s 0 = v0 at *
  generalize g16 s 2 = v2 at *
  generalize g16 s 6 = v6 at *
  have zp := size_extract' s 8 s.size (by omega) (Nat.le_refl _)
  have cc := fun u => clone_ (s.extract 8 s.size) u (by omega)
  have i8 : (8 : Int) ≤ (s.size : Int) := by omega
  have e2 : ((s.size : Int) == (s.size : Int)) = true := by simp
  clear h8 hk y1 y2 h4 zp
  go_enter Tryz.func95, Tryz.ntmps95
  go_wp2_with fail
  refine (cr _).mono ?_; rintro e w1 ⟨rfl, b1⟩
  obtain ⟨hc, hf⟩ := bcell4_ b1
  have hz : w.heap.size < w1.heap.size := by have := b1.size; simp at this; omega
  have B1 : Below w.heap.size w w1 := ((Below.refl _ _).alloc (Nat.le_refl _) _).trans (b1.mono (by simp))
  have hz2 := B1.size
  go_wp2_with fail
  refine box4f_ (b := w.heap.size) (box4_is rfl hc) B1 (Nat.le_refl _) fun X x0 x1 x2 x3 BX fX sX => ?_
  have fz : ∀ j, X.frozen? ⟨w.heap.size, j, none⟩ = false := by intro j; rw [fX, hf _ _ (by simp)]; simp [go_sem]
  have zX : w.heap.size < X.heap.size := by omega
  have L0 : ∀ q : Later X.heap.size X, q.u.cell? ⟨w.heap.size, 0, none⟩ = some (.int .u16 v0) := fun q => q.block zX x0
  have L1 : ∀ q : Later X.heap.size X, q.u.cell? ⟨w.heap.size, 1, none⟩ = some (.int .u16 v2) := fun q => q.block zX x1
  have L2 : ∀ q : Later X.heap.size X, q.u.cell? ⟨w.heap.size, 2, none⟩ = some (.int .u16 (s.size : Int)) := fun q => q.block zX x2
  have L3 : ∀ q : Later X.heap.size X, q.u.cell? ⟨w.heap.size, 3, none⟩ = some (.int .u16 v6) := fun q => q.block zX x3
  clear hc hf b1 B1 hz hz2 cr fX
  refine region_lead (B := X.heap.size) 4 3 (by kernel_rfl) (by kernel_rfl) (by kernel_rfl) (by kernel_rfl) ?_
  simp only [List.take_succ_cons, List.take_zero]
  repeat (go_big_quiet_step (first
    | (go_at_call 52; exact later_of _ (Nat.le_refl _) (cc _))))
  refine lead_tail (fin := #[true, true, true, true, false, false, false]) (by kernel_rfl) fun f w3 b3 => ?_
  have C0 := (b3.cell (p := ⟨w.heap.size, 0, none⟩) zX).trans x0
  have C1 := (b3.cell (p := ⟨w.heap.size, 1, none⟩) zX).trans x1
  have C2 := (b3.cell (p := ⟨w.heap.size, 2, none⟩) zX).trans x2
  have C3 := (b3.cell (p := ⟨w.heap.size, 3, none⟩) zX).trans x3
  have F0 := (b3.frozen (p := ⟨w.heap.size, 0, none⟩) zX).trans (fz 0)
  have F1 := (b3.frozen (p := ⟨w.heap.size, 1, none⟩) zX).trans (fz 1)
  have F2 := (b3.frozen (p := ⟨w.heap.size, 2, none⟩) zX).trans (fz 2)
  have F3 := (b3.frozen (p := ⟨w.heap.size, 3, none⟩) zX).trans (fz 3)
  have B3 := BX.trans (b3.mono BX.size)
  have hz3 := B3.size
  clear x0 x1 x2 x3 fz L0 L1 L2 L3 b3 BX sX cc
  refine wpAny_ready (rs := [4]) (by kernel_rfl) (by simp) (AllReady.cons rfl (fun K hK => ?_) AllReady.nil)
  go_simp
  refine hK _ _ ?_
  clear hK K
  refine box4f_ (b := w.heap.size) (W0 := w) (n := w.heap.size) (fun j hj => ?_) B3 (Nat.le_refl _) fun Y y0 y1 y2 y3 BY _ _ => ?_
  · match j, hj with
    | 0, _ => rw [C0]; rfl
    | 1, _ => rw [C1]; rfl
    | 2, _ => rw [C2]; rfl
    | 3, _ => rw [C3]; rfl
  clear C0 C1 C2 C3 F0 F1 F2 F3 B3
  refine wpAny_ready (rs := [5]) (by kernel_rfl) (by simp) (AllReady.cons rfl (fun K hK => ?_) AllReady.nil)
  go_simp
  refine hK _ _ ?_
  clear hK K
  refine wpAny_ready (rs := [6]) (by kernel_rfl) (by simp) (AllReady.cons rfl (fun K hK => ?_) AllReady.nil)
  go_simp
  refine hK _ _ ?_
  clear hK K
  refine wpAny_done (by kernel_rfl) ?_ _
  go_wp2
  refine bodyPost_ret (v := .tuple #[.agg #[.int .u16 v0, .int .u16 v2, .int .u16 (s.size : Int), .int .u16 v6], .string (s.extract 8 s.size), .bool true]) (by simp [results, Tryz.results95, go_sem, y0, y1, y2, y3]) rfl ?_
  exact ⟨rfl, BY⟩
theorem udpPut_ (a b l c : Int) (p : ByteArray) (w : World) (a0 : 0 ≤ a) (a1 : a ≤ 65535) (b0 : 0 ≤ b) (b1 : b ≤ 65535) (c0 : 0 ≤ c) (c1 : c ≤ 65535) (hp : p.size ≤ 1000000) :
    Cw_ 105 #[.agg #[.int .u16 a, .int .u16 b, .int .u16 l, .int .u16 c], .string p] (.string (udpB a b c p)) w := by
  obtain ⟨z, hz⟩ : ∃ z : Int, z = (8 + (p.size : Int)) % 65536 := ⟨_, rfl⟩
  have HV : Hid (strOfNums (wordL [a, b, z, c]) ++ p = udpB a b c p) := by show _ = _; unfold udpB; rw [hz]
  have z0 : 0 ≤ z := by omega
  have z1 : z ≤ 65535 := by omega
  obtain ⟨m, hm⟩ : ∃ m, p.size = m := ⟨_, rfl⟩
  rw [hm] at hz hp
  have e1 : (8 + (m : Int)) % 65536 = z := hz.symm
  have e2 : IntKind.u16.wrap (8 + (m : Int)) = z := by rw [IntKind.wrap_u16]; exact e1
  have cw : ∀ u (k : Nat), k < u.heap.size → u.cell? ⟨k, 0, none⟩ = some (.int .u16 a) → u.cell? ⟨k, 1, none⟩ = some (.int .u16 b) → u.cell? ⟨k, 2, none⟩ = some (.int .u16 z) → u.cell? ⟨k, 3, none⟩ = some (.int .u16 c) → Calls Tryz.prog 81 #[.slice (some ⟨k, 0, none⟩) 4 4] u fun e w' => e = .returned (.string (strOfNums (wordL [a, b, z, c]))) ∧ Below u.heap.size u w' :=
    fun u k hk h0 h1 h2 h3 => word_any _ 4 4 [a, b, z, c] u (row4 hk h0 h1 h2 h3) (by omega) (by intro x hx; simp at hx; omega)
  have zw : (strOfNums (wordL [a, b, z, c])).size = 8 := by rw [size_W]; rfl
  generalize strOfNums (wordL [a, b, z, c]) = W at *
  have q1 : W.size + p.size ≤ 9223372036854775807 := by omega
  have ZW := Lib.hid zw
  clear hz zw
  go_enter Tryz.func105, Tryz.ntmps105
  go_wp2_with fail
  refine (cw _ _ (by simp) (by simp [go_sem]) (by simp [go_sem]) (by simp [go_sem]) (by simp [go_sem])).mono ?_; rintro e w2 ⟨rfl, b2⟩
  have B2 : Below w.heap.size w w2 := (((Below.refl _ _).alloc (Nat.le_refl _) _).alloc (by simp) _).trans (b2.mono (by simp; omega))
  clear b2 cw
  go_wp2
  go_ret
  rw [HV.out]
  exact ⟨rfl, B2⟩
end Go.Proofs.YtbpicngbjggblaaGreatDoor
