/- Texts of this proof, together: PoL, PoX, PoY. -/
import Derived.Test.YtbbadpidolfleaaPoK
import Derived.Test.YtbbadpidolfleaaVb
namespace Go.Proofs.Ytbbadpidolfleaa
set_option linter.unusedVariables false
set_option linter.unusedSimpArgs false
open Go.ChangeShapes Go.WideShapes Go.ChangeAt Go.RowKit Go.PlainAid
attribute [local go_sem ↓] Go.wp_at_zero Go.wp_at_succ
structure WiS (w : World) (S : Nat → Prop) (b : Nat) (v : Wi) : Prop where
  box : WiB w b v
  out : ¬ S b
structure EpS (w : World) (S : Nat → Prop) (b : Nat) (i p : Int) : Prop where
  box : EpB w b i p
  out : ¬ S b
structure RoS (w : World) (S : Nat → Prop) (b : Nat) (r : Ro) : Prop where
  box : RowB w b r
  out : ¬ S b
section
variable {w w' : World} {S S' : Nat → Prop} {b : Nat} {v : Wi} {i p : Int} {r : Ro}
theorem WiS.by (h : WiS w S b v) (x : Beside S w w') (f : Fresh w S S') : WiS w' S' b v := ⟨h.box.keep x.size (x.block b h.box.lt h.out), f.not h.box.lt h.out⟩
theorem EpS.by (h : EpS w S b i p) (x : Beside S w w') (f : Fresh w S S') : EpS w' S' b i p := ⟨h.box.keep x.size (x.block b h.box.lt h.out), f.not h.box.lt h.out⟩
theorem RoS.by (h : RoS w S b r) (x : Beside S w w') (f : Fresh w S S') : RoS w' S' b r := ⟨h.box.keep x.size (x.block b h.box.lt h.out), f.not h.box.lt h.out⟩
theorem WiS.on (h : WiS w S b v) (x : Below w.heap.size w w') : WiS w' S b v := ⟨h.box.on x, h.out⟩
theorem EpS.on (h : EpS w S b i p) (x : Below w.heap.size w w') : EpS w' S b i p := ⟨h.box.on x, h.out⟩
theorem RoS.on (h : RoS w S b r) (x : Below w.heap.size w w') : RoS w' S b r := ⟨h.box.on x, h.out⟩
theorem out_new (hl : ∀ k, S k → k < w.heap.size) : ¬ S w.heap.size := fun h => Nat.lt_irrefl _ (hl _ h)
theorem WiS.made (w : World) (v : Wi) (T : TypeId) (hl : ∀ k, S k → k < w.heap.size) : WiS (w.alloc (.cells #[.int .u8 v.pr, .int .u32 v.ii, .int .u16 v.ip, .int .u32 v.oi, .int .u16 v.fr, .int .u16 v.to, .int .u16 v.dr] T)) S w.heap.size v := ⟨WiB.made w v T, out_new hl⟩
theorem EpS.made (w : World) (i p : Int) (T : TypeId) (hl : ∀ k, S k → k < w.heap.size) : EpS (w.alloc (.cells #[.int .u32 i, .int .u16 p] T)) S w.heap.size i p := ⟨EpB.made w i p T, out_new hl⟩
theorem RoS.made (w : World) (r : Ro) (T : TypeId) (hl : ∀ k, S k → k < w.heap.size) : RoS (w.alloc (.cells #[.int .u8 r.pr, .int .u32 r.oi, .int .u16 r.op, .int .u32 r.ii, .int .u16 r.ip, .int .i64 (r.lv : Int), .int .i64 (r.hd : Int)] T)) S w.heap.size r := ⟨RowB.made w r T, out_new hl⟩
theorem wi_in {M : World → Prop} (h : WiS w S b v) (fr : ∀ j, w.frozen? ⟨b, j, none⟩ = false) (k : ∀ X : World, WiS X S b ⟨v.pr, i, p, v.oi, v.fr, v.to, v.dr⟩ → Beside (fun k => k = b) w X → M X) : M ((w.setCell ⟨b, 1, none⟩ (.int .u32 i)).setCell ⟨b, 2, none⟩ (.int .u16 p)) := by
  have c0 := h.box.c0
  have c1 := h.box.c1
  have c2 := h.box.c2
  have c3 := h.box.c3
  have c4 := h.box.c4
  have c5 := h.box.c5
  have c6 := h.box.c6
  exact k _ ⟨⟨by simpa [World.setCell] using h.box.lt, by simp [go_sem, c0, c1, c2], by simp [go_sem, c1, c2], by simp [go_sem, c1, c2], by simp [go_sem, c3, c1, c2], by simp [go_sem, c4, c1, c2], by simp [go_sem, c5, c1, c2], by simp [go_sem, c6, c1, c2]⟩, h.out⟩ (((Beside.refl (fun k => k = b) w).setCell (p := ⟨b, 1, none⟩) rfl _).setCell (p := ⟨b, 2, none⟩) rfl _)
end
namespace Let
theorem t0 : (Po.take Po.new ⟨17, 1, 4000, 9, 1000, 2000, 5⟩) = (((9, 1006), 0), (⟨[⟨17, 9, 1006, 1, 4000, 0, 1⟩]⟩ : Po)) := by kernel_rfl
theorem f0 : (Po.new : Po).Few 1000 := ⟨by decide, by decide⟩
theorem t1 : (Po.take ⟨[⟨17, 9, 1006, 1, 4000, 0, 1⟩]⟩ ⟨17, 2, 1006, 9, 1000, 2000, 5⟩) = (((9, 1008), 0), (⟨[⟨17, 9, 1006, 1, 4000, 0, 1⟩, ⟨17, 9, 1008, 2, 1006, 0, 1⟩]⟩ : Po)) := by kernel_rfl
theorem f1 : (⟨[⟨17, 9, 1006, 1, 4000, 0, 1⟩]⟩ : Po).Few 1000 := ⟨by decide, by decide⟩
theorem t2 : (Po.take ⟨[⟨17, 9, 1006, 1, 4000, 0, 1⟩, ⟨17, 9, 1008, 2, 1006, 0, 1⟩]⟩ ⟨17, 3, 1500, 9, 1000, 2000, 5⟩) = (((9, 1500), 0), (⟨[⟨17, 9, 1006, 1, 4000, 0, 1⟩, ⟨17, 9, 1008, 2, 1006, 0, 1⟩, ⟨17, 9, 1500, 3, 1500, 0, 1⟩]⟩ : Po)) := by kernel_rfl
theorem f2 : (⟨[⟨17, 9, 1006, 1, 4000, 0, 1⟩, ⟨17, 9, 1008, 2, 1006, 0, 1⟩]⟩ : Po).Few 1000 := ⟨by decide, by decide⟩
theorem t3 : (Po.take ⟨[⟨17, 9, 1006, 1, 4000, 0, 1⟩, ⟨17, 9, 1008, 2, 1006, 0, 1⟩, ⟨17, 9, 1500, 3, 1500, 0, 1⟩]⟩ ⟨17, 1, 4000, 9, 1000, 2000, 5⟩) = (((9, 1006), 0), (⟨[⟨17, 9, 1006, 1, 4000, 0, 2⟩, ⟨17, 9, 1008, 2, 1006, 0, 1⟩, ⟨17, 9, 1500, 3, 1500, 0, 1⟩]⟩ : Po)) := by kernel_rfl
theorem f3 : (⟨[⟨17, 9, 1006, 1, 4000, 0, 1⟩, ⟨17, 9, 1008, 2, 1006, 0, 1⟩, ⟨17, 9, 1500, 3, 1500, 0, 1⟩]⟩ : Po).Few 1000 := ⟨by decide, by decide⟩
theorem t4 : (Po.take ⟨[⟨17, 9, 1006, 1, 4000, 0, 2⟩, ⟨17, 9, 1008, 2, 1006, 0, 1⟩, ⟨17, 9, 1500, 3, 1500, 0, 1⟩]⟩ ⟨0, 0, 1, 0, 7, 7, 0⟩) = (((0, 7), 0), (⟨[⟨0, 0, 7, 0, 1, 0, 1⟩, ⟨17, 9, 1006, 1, 4000, 0, 2⟩, ⟨17, 9, 1008, 2, 1006, 0, 1⟩, ⟨17, 9, 1500, 3, 1500, 0, 1⟩]⟩ : Po)) := by kernel_rfl
theorem f4 : (⟨[⟨17, 9, 1006, 1, 4000, 0, 2⟩, ⟨17, 9, 1008, 2, 1006, 0, 1⟩, ⟨17, 9, 1500, 3, 1500, 0, 1⟩]⟩ : Po).Few 1000 := ⟨by decide, by decide⟩
theorem t5 : (Po.take ⟨[⟨0, 0, 7, 0, 1, 0, 1⟩, ⟨17, 9, 1006, 1, 4000, 0, 2⟩, ⟨17, 9, 1008, 2, 1006, 0, 1⟩, ⟨17, 9, 1500, 3, 1500, 0, 1⟩]⟩ ⟨0, 0, 2, 0, 7, 7, 0⟩) = (((0, 0), 8), (⟨[⟨0, 0, 7, 0, 1, 0, 1⟩, ⟨17, 9, 1006, 1, 4000, 0, 2⟩, ⟨17, 9, 1008, 2, 1006, 0, 1⟩, ⟨17, 9, 1500, 3, 1500, 0, 1⟩]⟩ : Po)) := by kernel_rfl
theorem f5 : (⟨[⟨0, 0, 7, 0, 1, 0, 1⟩, ⟨17, 9, 1006, 1, 4000, 0, 2⟩, ⟨17, 9, 1008, 2, 1006, 0, 1⟩, ⟨17, 9, 1500, 3, 1500, 0, 1⟩]⟩ : Po).Few 1000 := ⟨by decide, by decide⟩
theorem fe : (⟨[⟨0, 0, 7, 0, 1, 0, 1⟩, ⟨17, 9, 1006, 1, 4000, 0, 2⟩, ⟨17, 9, 1008, 2, 1006, 0, 1⟩, ⟨17, 9, 1500, 3, 1500, 0, 1⟩]⟩ : Po).Few 1000 := ⟨by decide, by decide⟩
theorem ok_w : WOk ⟨17, 1, 4000, 9, 1000, 2000, 5⟩ := ⟨by decide, by decide, by decide, by decide, by decide, by decide, by decide, by decide, by decide, by decide, by decide, by decide, by decide, by decide⟩
theorem ok_v : WOk ⟨17, 2, 1006, 9, 1000, 2000, 5⟩ := ⟨by decide, by decide, by decide, by decide, by decide, by decide, by decide, by decide, by decide, by decide, by decide, by decide, by decide, by decide⟩
theorem ok_u : WOk ⟨17, 3, 1500, 9, 1000, 2000, 5⟩ := ⟨by decide, by decide, by decide, by decide, by decide, by decide, by decide, by decide, by decide, by decide, by decide, by decide, by decide, by decide⟩
theorem ok_one : WOk ⟨0, 0, 1, 0, 7, 7, 0⟩ := ⟨by decide, by decide, by decide, by decide, by decide, by decide, by decide, by decide, by decide, by decide, by decide, by decide, by decide, by decide⟩
theorem ok_two : WOk ⟨0, 0, 2, 0, 7, 7, 0⟩ := ⟨by decide, by decide, by decide, by decide, by decide, by decide, by decide, by decide, by decide, by decide, by decide, by decide, by decide, by decide⟩
theorem of4 : (Po.ofI ⟨[⟨17, 9, 1006, 1, 4000, 0, 2⟩, ⟨17, 9, 1008, 2, 1006, 0, 1⟩, ⟨17, 9, 1500, 3, 1500, 0, 1⟩]⟩ 17 1 4000) = some ⟨17, 9, 1006, 1, 4000, 0, 2⟩ := by kernel_rfl
end Let
set_option maxHeartbeats 8000000 in
set_option maxRecDepth 100000 in
theorem let_ (K : PortsOk) (w : World) : Says Try.prog 8 #[] w (.bool true) := by
  show Calls _ _ _ _ _
  go_enter Try.func8, Try.ntmps8
  go_wp2_with fail
  refine (K.news _).mono ?_; rintro e w0 ⟨q, S0, rfl, b0, l0, R0⟩
  have P0 : Alone K.toObjP w w0 S0 q Po.new := ⟨R0, l0, b0⟩
  clear R0 l0 b0
  go_upto_region 3 with fail
  have x1 : Below w0.heap.size w0 (w0.alloc (.cells #[.int .u8 17, .int .u32 1, .int .u16 4000, .int .u32 9, .int .u16 1000, .int .u16 2000, .int .u16 5] 36)) := (Below.refl _ _).alloc (Nat.le_refl _) _
  have P1 := P0.on x1
  have A1 : WiS (w0.alloc (.cells #[.int .u8 17, .int .u32 1, .int .u16 4000, .int .u32 9, .int .u16 1000, .int .u16 2000, .int .u16 5] 36)) S0 w0.heap.size ⟨17, 1, 4000, 9, 1000, 2000, 5⟩ := WiS.made _ ⟨17, 1, 4000, 9, 1000, 2000, 5⟩ 36 (fun k hk => K.lt P0.rep k hk)
  obtain ⟨w1, hw1⟩ : ∃ x_ : World, x_ = w0.alloc (.cells #[.int .u8 17, .int .u32 1, .int .u16 4000, .int .u32 9, .int .u16 1000, .int .u16 2000, .int .u16 5] 36) := ⟨_, rfl⟩
  rw [← hw1] at P1 A1 ⊢
  clear hw1 x1 P0 
  obtain ⟨bA, hbA⟩ : ∃ b_, b_ = w0.heap.size := ⟨_, rfl⟩
  rw [← hbA] at A1 ⊢
  clear hbA
  obtain ⟨⟨_, a_0, a_1, a_2, a_3, a_4, a_5, a_6⟩, _⟩ := id A1
  have k1 : Told Try.prog K.toObjP 11 #[.pointer (some ⟨q, 0, none⟩), .agg #[.int .u8 17, .int .u32 1, .int .u16 4000, .int .u32 9, .int .u16 1000, .int .u16 2000, .int .u16 5]] w1 S0 q (.tuple #[.agg #[.int .u32 9, .int .u16 1006], .int .i64 0]) ⟨[⟨17, 9, 1006, 1, 4000, 0, 1⟩]⟩ := by
    have h := K.takes q S0 _ ⟨17, 1, 4000, 9, 1000, 2000, 5⟩ w1 P1.rep Let.f0 Let.ok_w
    rw [Let.t0] at h
    exact h
  go_wp2_with fail
  clear a_0 a_1 a_2 a_3 a_4 a_5 a_6
  refine k1.mono ?_; rintro e w2 ⟨rfl, S1, R2, f2, x2⟩
  have P2 := P1.one R2 f2 x2
  have A2 := A1.by x2 f2
  clear k1 P1 R2 f2 x2 A1
  go_upto_region 4 with fail
  have x3 : Below w2.heap.size w2 (w2.alloc (.cells #[.int .u32 9, .int .u16 1006] 34)) := (Below.refl _ _).alloc (Nat.le_refl _) _
  have A3 := A2.on x3
  have P3 := P2.on x3
  have C3 : EpS (w2.alloc (.cells #[.int .u32 9, .int .u16 1006] 34)) S1 w2.heap.size 9 1006 := EpS.made _ 9 1006 34 (fun k hk => K.lt P2.rep k hk)
  obtain ⟨w3, hw3⟩ : ∃ x_ : World, x_ = w2.alloc (.cells #[.int .u32 9, .int .u16 1006] 34) := ⟨_, rfl⟩
  rw [← hw3] at P3 A3 C3 ⊢
  clear hw3 x3 P2 A2
  obtain ⟨bC, hbC⟩ : ∃ b_, b_ = w2.heap.size := ⟨_, rfl⟩
  rw [← hbC] at C3 ⊢
  clear hbC
  obtain ⟨⟨_, a_0, a_1, a_2, a_3, a_4, a_5, a_6⟩, _⟩ := id A3
  have hz3 : (w3.alloc (.cells #[.int .u8 17, .int .u32 1, .int .u16 4000, .int .u32 9, .int .u16 1000, .int .u16 2000, .int .u16 5] 36)).heap.size = w3.heap.size + 1 := by simp
  have x4 : Below w3.heap.size w3 ((w3.alloc (.cells #[.int .u8 17, .int .u32 1, .int .u16 4000, .int .u32 9, .int .u16 1000, .int .u16 2000, .int .u16 5] 36)).alloc (.cells #[.int .u8 17, .int .u32 1, .int .u16 4000, .int .u32 9, .int .u16 1000, .int .u16 2000, .int .u16 5] 36)).drew := (((Below.refl _ _).alloc (Nat.le_refl _) _).alloc (by simp) _).drew
  have y1 : Below (w3.alloc (.cells #[.int .u8 17, .int .u32 1, .int .u16 4000, .int .u32 9, .int .u16 1000, .int .u16 2000, .int .u16 5] 36)).heap.size (w3.alloc (.cells #[.int .u8 17, .int .u32 1, .int .u16 4000, .int .u32 9, .int .u16 1000, .int .u16 2000, .int .u16 5] 36)) ((w3.alloc (.cells #[.int .u8 17, .int .u32 1, .int .u16 4000, .int .u32 9, .int .u16 1000, .int .u16 2000, .int .u16 5] 36)).alloc (.cells #[.int .u8 17, .int .u32 1, .int .u16 4000, .int .u32 9, .int .u16 1000, .int .u16 2000, .int .u16 5] 36)).drew := ((Below.refl _ _).alloc (Nat.le_refl _) _).drew
  have A4 := A3.on x4
  have C4 := C3.on x4
  have P4 := P3.on x4
  have d1 := (WiS.made w3 ⟨17, 1, 4000, 9, 1000, 2000, 5⟩ 36 (fun k hk => K.lt P3.rep k hk)).on y1
  have d2 := (WiS.made (S := S1) (w3.alloc (.cells #[.int .u8 17, .int .u32 1, .int .u16 4000, .int .u32 9, .int .u16 1000, .int .u16 2000, .int .u16 5] 36)) ⟨17, 1, 4000, 9, 1000, 2000, 5⟩ 36 (fun k hk => Nat.lt_of_lt_of_le (K.lt P3.rep k hk) (by simp))).on (w' := ((w3.alloc (.cells #[.int .u8 17, .int .u32 1, .int .u16 4000, .int .u32 9, .int .u16 1000, .int .u16 2000, .int .u16 5] 36)).alloc (.cells #[.int .u8 17, .int .u32 1, .int .u16 4000, .int .u32 9, .int .u16 1000, .int .u16 2000, .int .u16 5] 36)).drew) (Below.refl _ _).drew
  have fr1 : ∀ j, (((w3.alloc (.cells #[.int .u8 17, .int .u32 1, .int .u16 4000, .int .u32 9, .int .u16 1000, .int .u16 2000, .int .u16 5] 36)).alloc (.cells #[.int .u8 17, .int .u32 1, .int .u16 4000, .int .u32 9, .int .u16 1000, .int .u16 2000, .int .u16 5] 36)).drew).frozen? ⟨w3.heap.size, j, none⟩ = false := fun j => by simp [go_sem]
  have fr2 : ∀ j, (((w3.alloc (.cells #[.int .u8 17, .int .u32 1, .int .u16 4000, .int .u32 9, .int .u16 1000, .int .u16 2000, .int .u16 5] 36)).alloc (.cells #[.int .u8 17, .int .u32 1, .int .u16 4000, .int .u32 9, .int .u16 1000, .int .u16 2000, .int .u16 5] 36)).drew).frozen? ⟨w3.heap.size + 1, j, none⟩ = false := fun j => by simp [go_sem]
  rw [hz3] at d2
  have q0 : w.heap.size ≤ w3.heap.size := P3.below.size
  have lA : bA < w3.heap.size := A3.box.lt
  have lC : bC < w3.heap.size := C3.box.lt
  clear x4 y1 hz3 P3 A3 C3
  have HK := Lib.hid (And.intro P4 (And.intro d1 (And.intro d2 (And.intro fr1 (And.intro fr2 (And.intro q0 (And.intro A4 (And.intro C4 (And.intro lA (And.intro lC trivial))))))))))
  clear P4 A4 C4 d1 d2 fr1 fr2 q0 lA lC
  go_region
  all_goals clear a_0 a_1 a_2 a_3 a_4 a_5 a_6
  obtain ⟨P4, d1, d2, fr1, fr2, q0, A4, C4, lA, lC, _⟩ := HK.out
  clear HK
  obtain ⟨w4, hw4⟩ : ∃ x_ : World, x_ = ((w3.alloc (.cells #[.int .u8 17, .int .u32 1, .int .u16 4000, .int .u32 9, .int .u16 1000, .int .u16 2000, .int .u16 5] 36)).alloc (.cells #[.int .u8 17, .int .u32 1, .int .u16 4000, .int .u32 9, .int .u16 1000, .int .u16 2000, .int .u16 5] 36)).drew := ⟨_, rfl⟩
  rw [← hw4] at P4 d1 d2 fr1 fr2 A4 C4 ⊢
  obtain ⟨bE, hE⟩ : ∃ b_, b_ = w3.heap.size + 1 := ⟨_, rfl⟩
  obtain ⟨bD, hD⟩ : ∃ b_, b_ = w3.heap.size := ⟨_, rfl⟩
  have D4 := d1
  have E4 := d2
  have frD := fr1
  have frE := fr2
  have nDE : ¬ bD = bE := by omega
  have nAD : ¬ bA = bD := by omega
  have nAE : ¬ bA = bE := by omega
  have nCD : ¬ bC = bD := by omega
  have nCE : ¬ bC = bE := by omega
  have gD : w.heap.size ≤ bD := by omega
  have gE : w.heap.size ≤ bE := by omega
  rw [← hE] at E4 frE ⊢
  rw [← hD] at D4 frD ⊢
  clear hw4 hD hE d1 d2 fr1 fr2 q0 lA lC
  rotate_left
  obtain ⟨P4, d1, d2, fr1, fr2, q0, A4, C4, lA, lC, _⟩ := HK.out
  clear HK
  obtain ⟨w4, hw4⟩ : ∃ x_ : World, x_ = ((w3.alloc (.cells #[.int .u8 17, .int .u32 1, .int .u16 4000, .int .u32 9, .int .u16 1000, .int .u16 2000, .int .u16 5] 36)).alloc (.cells #[.int .u8 17, .int .u32 1, .int .u16 4000, .int .u32 9, .int .u16 1000, .int .u16 2000, .int .u16 5] 36)).drew := ⟨_, rfl⟩
  rw [← hw4] at P4 d1 d2 fr1 fr2 A4 C4 ⊢
  obtain ⟨bE, hE⟩ : ∃ b_, b_ = w3.heap.size := ⟨_, rfl⟩
  obtain ⟨bD, hD⟩ : ∃ b_, b_ = w3.heap.size + 1 := ⟨_, rfl⟩
  have D4 := d2
  have E4 := d1
  have frD := fr2
  have frE := fr1
  have nDE : ¬ bD = bE := by omega
  have nAD : ¬ bA = bD := by omega
  have nAE : ¬ bA = bE := by omega
  have nCD : ¬ bC = bD := by omega
  have nCE : ¬ bC = bE := by omega
  have gD : w.heap.size ≤ bD := by omega
  have gE : w.heap.size ≤ bE := by omega
  rw [← hD] at D4 frD ⊢
  rw [← hE] at E4 frE ⊢
  clear hw4 hD hE d1 d2 fr1 fr2 q0 lA lC
  rotate_left
  all_goals
    obtain ⟨⟨_, d_0, d_1, d_2, d_3, d_4, d_5, d_6⟩, _⟩ := id D4
    go_upto_region 6 with fail
    clear d_0 d_1 d_2 d_3 d_4 d_5 d_6
    refine wi_in D4 frD fun w5 D_ x5 => ?_
    have A5 := WiS.mk (A4.box.keep x5.size (x5.block _ A4.box.lt nAD)) A4.out
    have C5 := EpS.mk (C4.box.keep x5.size (x5.block _ C4.box.lt nCD)) C4.out
    have D5 : WiS w5 S1 bD ⟨17, 2, 1006, 9, 1000, 2000, 5⟩ := D_
    have E5 := WiS.mk (E4.box.keep x5.size (x5.block _ E4.box.lt (Ne.symm nDE))) E4.out
    have P5 := P4.by x5 (fun k hk e => D4.out (e ▸ hk)) (fun k e => e ▸ gD)
    have frE := fun j => (World.frozen?_of_block (w := w4) (a := ⟨bE, j, none⟩) (x5.block bE E4.box.lt (Ne.symm nDE))).trans (frE j)
    clear P4 A4 C4 D4 E4 D_ x5
    obtain ⟨⟨_, e_0, e_1, e_2, e_3, e_4, e_5, e_6⟩, _⟩ := id E5
    go_upto_region 7 with fail
    clear e_0 e_1 e_2 e_3 e_4 e_5 e_6
    refine wi_in E5 frE fun w6 D_ x6 => ?_
    have A6 := WiS.mk (A5.box.keep x6.size (x6.block _ A5.box.lt nAE)) A5.out
    have C6 := EpS.mk (C5.box.keep x6.size (x6.block _ C5.box.lt nCE)) C5.out
    have D6 := WiS.mk (D5.box.keep x6.size (x6.block _ D5.box.lt nDE)) D5.out
    have E6 : WiS w6 S1 bE ⟨17, 3, 1500, 9, 1000, 2000, 5⟩ := D_
    have P6 := P5.by x6 (fun k hk e => E5.out (e ▸ hk)) (fun k e => e ▸ gE)
    clear P5 A5 C5 D5 E5 D_ x6
    clear frD frE gD gE nDE nAD nCD nAE nCE
    obtain ⟨⟨_, d_0, d_1, d_2, d_3, d_4, d_5, d_6⟩, _⟩ := id D6
    have k6 : Told Try.prog K.toObjP 11 #[.pointer (some ⟨q, 0, none⟩), .agg #[.int .u8 17, .int .u32 2, .int .u16 1006, .int .u32 9, .int .u16 1000, .int .u16 2000, .int .u16 5]] w6 S1 q (.tuple #[.agg #[.int .u32 9, .int .u16 1008], .int .i64 0]) ⟨[⟨17, 9, 1006, 1, 4000, 0, 1⟩, ⟨17, 9, 1008, 2, 1006, 0, 1⟩]⟩ := by
      have h := K.takes q S1 _ ⟨17, 2, 1006, 9, 1000, 2000, 5⟩ w6 P6.rep Let.f1 Let.ok_v
      rw [Let.t1] at h
      exact h
    go_wp2_with fail
    clear d_0 d_1 d_2 d_3 d_4 d_5 d_6
    refine k6.mono ?_; rintro e w7 ⟨rfl, S2, R7, f7, x7⟩
    have P7 := P6.one R7 f7 x7
    have A7 := A6.by x7 f7
    have C7 := C6.by x7 f7
    have D7 := D6.by x7 f7
    have E7 := E6.by x7 f7
    clear k6 P6 R7 f7 x7 A6 C6 D6 E6
    go_upto_region 8 with fail
    have x8 : Below w7.heap.size w7 (w7.alloc (.cells #[.int .u32 9, .int .u16 1008] 34)) := (Below.refl _ _).alloc (Nat.le_refl _) _
    have A8 := A7.on x8
    have C8 := C7.on x8
    have D8 := D7.on x8
    have E8 := E7.on x8
    have P8 := P7.on x8
    have F8 : EpS (w7.alloc (.cells #[.int .u32 9, .int .u16 1008] 34)) S2 w7.heap.size 9 1008 := EpS.made _ 9 1008 34 (fun k hk => K.lt P7.rep k hk)
    obtain ⟨w8, hw8⟩ : ∃ x_ : World, x_ = w7.alloc (.cells #[.int .u32 9, .int .u16 1008] 34) := ⟨_, rfl⟩
    rw [← hw8] at P8 A8 C8 D8 E8 F8 ⊢
    clear hw8 x8 P7 A7 C7 D7 E7
    obtain ⟨bF, hbF⟩ : ∃ b_, b_ = w7.heap.size := ⟨_, rfl⟩
    rw [← hbF] at F8 ⊢
    clear hbF
    obtain ⟨⟨_, e_0, e_1, e_2, e_3, e_4, e_5, e_6⟩, _⟩ := id E8
    have k8 : Told Try.prog K.toObjP 11 #[.pointer (some ⟨q, 0, none⟩), .agg #[.int .u8 17, .int .u32 3, .int .u16 1500, .int .u32 9, .int .u16 1000, .int .u16 2000, .int .u16 5]] w8 S2 q (.tuple #[.agg #[.int .u32 9, .int .u16 1500], .int .i64 0]) ⟨[⟨17, 9, 1006, 1, 4000, 0, 1⟩, ⟨17, 9, 1008, 2, 1006, 0, 1⟩, ⟨17, 9, 1500, 3, 1500, 0, 1⟩]⟩ := by
      have h := K.takes q S2 _ ⟨17, 3, 1500, 9, 1000, 2000, 5⟩ w8 P8.rep Let.f2 Let.ok_u
      rw [Let.t2] at h
      exact h
    go_wp2_with fail
    clear e_0 e_1 e_2 e_3 e_4 e_5 e_6
    refine k8.mono ?_; rintro e w9 ⟨rfl, S3, R9, f9, x9⟩
    have P9 := P8.one R9 f9 x9
    have A9 := A8.by x9 f9
    have C9 := C8.by x9 f9
    have D9 := D8.by x9 f9
    have E9 := E8.by x9 f9
    have F9 := F8.by x9 f9
    clear k8 P8 R9 f9 x9 A8 C8 D8 E8 F8
    go_upto_region 9 with fail
    have x10 : Below w9.heap.size w9 (w9.alloc (.cells #[.int .u32 9, .int .u16 1500] 34)) := (Below.refl _ _).alloc (Nat.le_refl _) _
    have A10 := A9.on x10
    have C10 := C9.on x10
    have D10 := D9.on x10
    have E10 := E9.on x10
    have F10 := F9.on x10
    have P10 := P9.on x10
    have G10 : EpS (w9.alloc (.cells #[.int .u32 9, .int .u16 1500] 34)) S3 w9.heap.size 9 1500 := EpS.made _ 9 1500 34 (fun k hk => K.lt P9.rep k hk)
    obtain ⟨w10, hw10⟩ : ∃ x_ : World, x_ = w9.alloc (.cells #[.int .u32 9, .int .u16 1500] 34) := ⟨_, rfl⟩
    rw [← hw10] at P10 A10 C10 D10 E10 F10 G10 ⊢
    clear hw10 x10 P9 A9 C9 D9 E9 F9
    obtain ⟨bG, hbG⟩ : ∃ b_, b_ = w9.heap.size := ⟨_, rfl⟩
    rw [← hbG] at G10 ⊢
    clear hbG
    obtain ⟨⟨_, a_0, a_1, a_2, a_3, a_4, a_5, a_6⟩, _⟩ := id A10
    have k10 : Told Try.prog K.toObjP 11 #[.pointer (some ⟨q, 0, none⟩), .agg #[.int .u8 17, .int .u32 1, .int .u16 4000, .int .u32 9, .int .u16 1000, .int .u16 2000, .int .u16 5]] w10 S3 q (.tuple #[.agg #[.int .u32 9, .int .u16 1006], .int .i64 0]) ⟨[⟨17, 9, 1006, 1, 4000, 0, 2⟩, ⟨17, 9, 1008, 2, 1006, 0, 1⟩, ⟨17, 9, 1500, 3, 1500, 0, 1⟩]⟩ := by
      have h := K.takes q S3 _ ⟨17, 1, 4000, 9, 1000, 2000, 5⟩ w10 P10.rep Let.f3 Let.ok_w
      rw [Let.t3] at h
      exact h
    go_wp2_with fail
    clear a_0 a_1 a_2 a_3 a_4 a_5 a_6
    refine k10.mono ?_; rintro e w11 ⟨rfl, S4, R11, f11, x11⟩
    have P11 := P10.one R11 f11 x11
    have A11 := A10.by x11 f11
    have C11 := C10.by x11 f11
    have D11 := D10.by x11 f11
    have E11 := E10.by x11 f11
    have F11 := F10.by x11 f11
    have G11 := G10.by x11 f11
    clear k10 P10 R11 f11 x11 A10 C10 D10 E10 F10 G10
    go_upto_region 10 with fail
    have x12 : Below w11.heap.size w11 (w11.alloc (.cells #[.int .u32 9, .int .u16 1006] 34)) := (Below.refl _ _).alloc (Nat.le_refl _) _
    have A12 := A11.on x12
    have C12 := C11.on x12
    have D12 := D11.on x12
    have E12 := E11.on x12
    have F12 := F11.on x12
    have G12 := G11.on x12
    have P12 := P11.on x12
    have H12 : EpS (w11.alloc (.cells #[.int .u32 9, .int .u16 1006] 34)) S4 w11.heap.size 9 1006 := EpS.made _ 9 1006 34 (fun k hk => K.lt P11.rep k hk)
    obtain ⟨w12, hw12⟩ : ∃ x_ : World, x_ = w11.alloc (.cells #[.int .u32 9, .int .u16 1006] 34) := ⟨_, rfl⟩
    rw [← hw12] at P12 A12 C12 D12 E12 F12 G12 H12 ⊢
    clear hw12 x12 P11 A11 C11 D11 E11 F11 G11
    obtain ⟨bH, hbH⟩ : ∃ b_, b_ = w11.heap.size := ⟨_, rfl⟩
    rw [← hbH] at H12 ⊢
    clear hbH
    obtain ⟨⟨_, a_0, a_1, a_2, a_3, a_4, a_5, a_6⟩, _⟩ := id A12
    have k12 : Says Try.prog 14 #[.pointer (some ⟨q, 0, none⟩), .int .u8 17, .agg #[.int .u32 1, .int .u16 4000]] w12 (.tuple #[.agg #[.int .u8 17, .int .u32 9, .int .u16 1006, .int .u32 1, .int .u16 4000, .int .i64 0, .int .i64 2], .bool true]) := by
      have h := K.ofs q S4 _ 17 1 4000 w12 P12.rep Let.f4 ⟨by decide, by decide, by decide, by decide, by decide, by decide⟩
      rw [Let.of4] at h
      exact h
    go_wp2_with fail
    clear a_0 a_1 a_2 a_3 a_4 a_5 a_6
    refine k12.mono ?_; rintro e w13 ⟨rfl, x13⟩
    have P13 := P12.on x13
    have A13 := A12.on x13
    have C13 := C12.on x13
    have D13 := D12.on x13
    have E13 := E12.on x13
    have F13 := F12.on x13
    have G13 := G12.on x13
    have H13 := H12.on x13
    clear k12 P12 x13 A12 C12 D12 E12 F12 G12 H12
    go_upto_region 11 with fail
    have x14 : Below w13.heap.size w13 (w13.alloc (.cells #[.int .u8 17, .int .u32 9, .int .u16 1006, .int .u32 1, .int .u16 4000, .int .i64 0, .int .i64 2] 44)) := (Below.refl _ _).alloc (Nat.le_refl _) _
    have A14 := A13.on x14
    have C14 := C13.on x14
    have D14 := D13.on x14
    have E14 := E13.on x14
    have F14 := F13.on x14
    have G14 := G13.on x14
    have H14 := H13.on x14
    have P14 := P13.on x14
    have Z14 : RoS (w13.alloc (.cells #[.int .u8 17, .int .u32 9, .int .u16 1006, .int .u32 1, .int .u16 4000, .int .i64 0, .int .i64 2] 44)) S4 w13.heap.size ⟨17, 9, 1006, 1, 4000, 0, 2⟩ := RoS.made _ ⟨17, 9, 1006, 1, 4000, 0, 2⟩ 44 (fun k hk => K.lt P13.rep k hk)
    obtain ⟨w14, hw14⟩ : ∃ x_ : World, x_ = w13.alloc (.cells #[.int .u8 17, .int .u32 9, .int .u16 1006, .int .u32 1, .int .u16 4000, .int .i64 0, .int .i64 2] 44) := ⟨_, rfl⟩
    rw [← hw14] at P14 A14 C14 D14 E14 F14 G14 H14 Z14 ⊢
    clear hw14 x14 P13 A13 C13 D13 E13 F13 G13 H13
    obtain ⟨bZ, hbZ⟩ : ∃ b_, b_ = w13.heap.size := ⟨_, rfl⟩
    rw [← hbZ] at Z14 ⊢
    clear hbZ
    go_upto_region 12 with fail
    have x15 : Below w14.heap.size w14 (w14.alloc (.cells #[.int .u8 0, .int .u32 0, .int .u16 1, .int .u32 0, .int .u16 7, .int .u16 7, .int .u16 0] 36)) := (Below.refl _ _).alloc (Nat.le_refl _) _
    have A15 := A14.on x15
    have C15 := C14.on x15
    have D15 := D14.on x15
    have E15 := E14.on x15
    have F15 := F14.on x15
    have G15 := G14.on x15
    have H15 := H14.on x15
    have Z15 := Z14.on x15
    have P15 := P14.on x15
    have U15 : WiS (w14.alloc (.cells #[.int .u8 0, .int .u32 0, .int .u16 1, .int .u32 0, .int .u16 7, .int .u16 7, .int .u16 0] 36)) S4 w14.heap.size ⟨0, 0, 1, 0, 7, 7, 0⟩ := WiS.made _ ⟨0, 0, 1, 0, 7, 7, 0⟩ 36 (fun k hk => K.lt P14.rep k hk)
    have hz15 : w14.heap.size + 1 = (w14.alloc (.cells #[.int .u8 0, .int .u32 0, .int .u16 1, .int .u32 0, .int .u16 7, .int .u16 7, .int .u16 0] 36)).heap.size := by simp
    rw [hz15]
    clear hz15
    obtain ⟨w15, hw15⟩ : ∃ x_ : World, x_ = w14.alloc (.cells #[.int .u8 0, .int .u32 0, .int .u16 1, .int .u32 0, .int .u16 7, .int .u16 7, .int .u16 0] 36) := ⟨_, rfl⟩
    rw [← hw15] at P15 A15 C15 D15 E15 F15 G15 H15 Z15 U15 ⊢
    clear hw15 x15 P14 A14 C14 D14 E14 F14 G14 H14 Z14
    obtain ⟨bU, hbU⟩ : ∃ b_, b_ = w14.heap.size := ⟨_, rfl⟩
    rw [← hbU] at U15 ⊢
    clear hbU
    have x16 : Below w15.heap.size w15 (w15.alloc (.cells #[.int .u8 0, .int .u32 0, .int .u16 2, .int .u32 0, .int .u16 7, .int .u16 7, .int .u16 0] 36)) := (Below.refl _ _).alloc (Nat.le_refl _) _
    have A16 := A15.on x16
    have C16 := C15.on x16
    have D16 := D15.on x16
    have E16 := E15.on x16
    have F16 := F15.on x16
    have G16 := G15.on x16
    have H16 := H15.on x16
    have Z16 := Z15.on x16
    have U16 := U15.on x16
    have P16 := P15.on x16
    have V16 : WiS (w15.alloc (.cells #[.int .u8 0, .int .u32 0, .int .u16 2, .int .u32 0, .int .u16 7, .int .u16 7, .int .u16 0] 36)) S4 w15.heap.size ⟨0, 0, 2, 0, 7, 7, 0⟩ := WiS.made _ ⟨0, 0, 2, 0, 7, 7, 0⟩ 36 (fun k hk => K.lt P15.rep k hk)
    obtain ⟨w16, hw16⟩ : ∃ x_ : World, x_ = w15.alloc (.cells #[.int .u8 0, .int .u32 0, .int .u16 2, .int .u32 0, .int .u16 7, .int .u16 7, .int .u16 0] 36) := ⟨_, rfl⟩
    rw [← hw16] at P16 A16 C16 D16 E16 F16 G16 H16 Z16 U16 V16 ⊢
    clear hw16 x16 P15 A15 C15 D15 E15 F15 G15 H15 Z15 U15
    obtain ⟨bV, hbV⟩ : ∃ b_, b_ = w15.heap.size := ⟨_, rfl⟩
    rw [← hbV] at V16 ⊢
    clear hbV
    obtain ⟨⟨_, u_0, u_1, u_2, u_3, u_4, u_5, u_6⟩, _⟩ := id U16
    have k16 : Told Try.prog K.toObjP 11 #[.pointer (some ⟨q, 0, none⟩), .agg #[.int .u8 0, .int .u32 0, .int .u16 1, .int .u32 0, .int .u16 7, .int .u16 7, .int .u16 0]] w16 S4 q (.tuple #[.agg #[.int .u32 0, .int .u16 7], .int .i64 0]) ⟨[⟨0, 0, 7, 0, 1, 0, 1⟩, ⟨17, 9, 1006, 1, 4000, 0, 2⟩, ⟨17, 9, 1008, 2, 1006, 0, 1⟩, ⟨17, 9, 1500, 3, 1500, 0, 1⟩]⟩ := by
      have h := K.takes q S4 _ ⟨0, 0, 1, 0, 7, 7, 0⟩ w16 P16.rep Let.f4 Let.ok_one
      rw [Let.t4] at h
      exact h
    go_wp2_with fail
    clear u_0 u_1 u_2 u_3 u_4 u_5 u_6
    refine k16.mono ?_; rintro e w17 ⟨rfl, S5, R17, f17, x17⟩
    have P17 := P16.one R17 f17 x17
    have A17 := A16.by x17 f17
    have C17 := C16.by x17 f17
    have D17 := D16.by x17 f17
    have E17 := E16.by x17 f17
    have F17 := F16.by x17 f17
    have G17 := G16.by x17 f17
    have H17 := H16.by x17 f17
    have Z17 := Z16.by x17 f17
    have U17 := U16.by x17 f17
    have V17 := V16.by x17 f17
    clear k16 P16 R17 f17 x17 A16 C16 D16 E16 F16 G16 H16 Z16 U16 V16
    go_upto_region 13 with fail
    have x18 : Below w17.heap.size w17 (w17.alloc (.cells #[.int .u32 0, .int .u16 7] 34)) := (Below.refl _ _).alloc (Nat.le_refl _) _
    have A18 := A17.on x18
    have C18 := C17.on x18
    have D18 := D17.on x18
    have E18 := E17.on x18
    have F18 := F17.on x18
    have G18 := G17.on x18
    have H18 := H17.on x18
    have Z18 := Z17.on x18
    have U18 := U17.on x18
    have V18 := V17.on x18
    have P18 := P17.on x18
    have I18 : EpS (w17.alloc (.cells #[.int .u32 0, .int .u16 7] 34)) S5 w17.heap.size 0 7 := EpS.made _ 0 7 34 (fun k hk => K.lt P17.rep k hk)
    obtain ⟨w18, hw18⟩ : ∃ x_ : World, x_ = w17.alloc (.cells #[.int .u32 0, .int .u16 7] 34) := ⟨_, rfl⟩
    rw [← hw18] at P18 A18 C18 D18 E18 F18 G18 H18 Z18 U18 V18 I18 ⊢
    clear hw18 x18 P17 A17 C17 D17 E17 F17 G17 H17 Z17 U17 V17
    obtain ⟨bI, hbI⟩ : ∃ b_, b_ = w17.heap.size := ⟨_, rfl⟩
    rw [← hbI] at I18 ⊢
    clear hbI
    obtain ⟨⟨_, v_0, v_1, v_2, v_3, v_4, v_5, v_6⟩, _⟩ := id V18
    have k18 : Told Try.prog K.toObjP 11 #[.pointer (some ⟨q, 0, none⟩), .agg #[.int .u8 0, .int .u32 0, .int .u16 2, .int .u32 0, .int .u16 7, .int .u16 7, .int .u16 0]] w18 S5 q (.tuple #[.agg #[.int .u32 0, .int .u16 0], .int .i64 8]) ⟨[⟨0, 0, 7, 0, 1, 0, 1⟩, ⟨17, 9, 1006, 1, 4000, 0, 2⟩, ⟨17, 9, 1008, 2, 1006, 0, 1⟩, ⟨17, 9, 1500, 3, 1500, 0, 1⟩]⟩ := by
      have h := K.takes q S5 _ ⟨0, 0, 2, 0, 7, 7, 0⟩ w18 P18.rep Let.f5 Let.ok_two
      rw [Let.t5] at h
      exact h
    go_wp2_with fail
    clear v_0 v_1 v_2 v_3 v_4 v_5 v_6
    refine k18.mono ?_; rintro e w19 ⟨rfl, S6, R19, f19, x19⟩
    have P19 := P18.one R19 f19 x19
    have A19 := A18.by x19 f19
    have C19 := C18.by x19 f19
    have D19 := D18.by x19 f19
    have E19 := E18.by x19 f19
    have F19 := F18.by x19 f19
    have G19 := G18.by x19 f19
    have H19 := H18.by x19 f19
    have Z19 := Z18.by x19 f19
    have U19 := U18.by x19 f19
    have V19 := V18.by x19 f19
    have I19 := I18.by x19 f19
    clear k18 P18 R19 f19 x19 A18 C18 D18 E18 F18 G18 H18 Z18 U18 V18 I18
    go_upto_region 14 with fail
    have x20 : Below w19.heap.size w19 (w19.alloc (.cells #[.int .u32 0, .int .u16 0] 34)) := (Below.refl _ _).alloc (Nat.le_refl _) _
    have A20 := A19.on x20
    have C20 := C19.on x20
    have D20 := D19.on x20
    have E20 := E19.on x20
    have F20 := F19.on x20
    have G20 := G19.on x20
    have H20 := H19.on x20
    have Z20 := Z19.on x20
    have U20 := U19.on x20
    have V20 := V19.on x20
    have I20 := I19.on x20
    have P20 := P19.on x20
    have J20 : EpS (w19.alloc (.cells #[.int .u32 0, .int .u16 0] 34)) S6 w19.heap.size 0 0 := EpS.made _ 0 0 34 (fun k hk => K.lt P19.rep k hk)
    obtain ⟨w20, hw20⟩ : ∃ x_ : World, x_ = w19.alloc (.cells #[.int .u32 0, .int .u16 0] 34) := ⟨_, rfl⟩
    rw [← hw20] at P20 A20 C20 D20 E20 F20 G20 H20 Z20 U20 V20 I20 J20 ⊢
    clear hw20 x20 P19 A19 C19 D19 E19 F19 G19 H19 Z19 U19 V19 I19
    obtain ⟨bJ, hbJ⟩ : ∃ b_, b_ = w19.heap.size := ⟨_, rfl⟩
    rw [← hbJ] at J20 ⊢
    clear hbJ
    obtain ⟨⟨_, c_0, c_1, _⟩, _⟩ := id C20
    obtain ⟨⟨_, f_0, f_1, _⟩, _⟩ := id F20
    obtain ⟨⟨_, g_0, g_1, _⟩, _⟩ := id G20
    obtain ⟨⟨_, h_0, h_1, _⟩, _⟩ := id H20
    obtain ⟨⟨_, z_0, z_1, z_2, z_3, z_4, z_5, z_6, _⟩, _⟩ := id Z20
    obtain ⟨⟨_, i_0, i_1, _⟩, _⟩ := id I20
    have kc : Says Try.prog 26 #[.pointer (some ⟨q, 0, none⟩)] w20 (.int .i64 4) := K.counts q S6 _ w20 P20.rep Let.fe
    go_wp2_with (go_at_call 26; refine kc.mono ?_; rintro e w9 ⟨rfl, x9⟩)
    go_ret
    exact ⟨rfl, P20.below.trans (x9.mono P20.below.size)⟩
end Go.Proofs.Ytbbadpidolfleaa

namespace Go.Proofs.Ytbbadpidolfleaa
set_option linter.unusedVariables false
set_option linter.unusedSimpArgs false
open Go.ChangeShapes Go.WideShapes Go.ChangeAt Go.RowKit Go.PlainAid
/-- An act. -/
structure Ac where
  kd : Int
  pr : Int
  inn : Int
  out : Int
  sp : Int
  w : Wi
  fi : Int
  fp : Int
structure AcB (w : World) (b : Nat) (x : Ac) : Prop where
  lt : b < w.heap.size
  c0 : w.cell? ⟨b, 0, none⟩ = some (.int .u8 x.kd)
  c1 : w.cell? ⟨b, 1, none⟩ = some (.int .u8 x.pr)
  c2 : w.cell? ⟨b, 2, none⟩ = some (.int .u8 x.inn)
  c3 : w.cell? ⟨b, 3, none⟩ = some (.int .u8 x.out)
  c4 : w.cell? ⟨b, 4, none⟩ = some (.int .u8 x.sp)
  c5 : w.cell? ⟨b, 5, none⟩ = some (.int .u8 x.w.pr)
  c6 : w.cell? ⟨b, 6, none⟩ = some (.int .u32 x.w.ii)
  c7 : w.cell? ⟨b, 7, none⟩ = some (.int .u16 x.w.ip)
  c8 : w.cell? ⟨b, 8, none⟩ = some (.int .u32 x.w.oi)
  c9 : w.cell? ⟨b, 9, none⟩ = some (.int .u16 x.w.fr)
  c10 : w.cell? ⟨b, 10, none⟩ = some (.int .u16 x.w.to)
  c11 : w.cell? ⟨b, 11, none⟩ = some (.int .u16 x.w.dr)
  c12 : w.cell? ⟨b, 12, none⟩ = some (.int .u32 x.fi)
  c13 : w.cell? ⟨b, 13, none⟩ = some (.int .u16 x.fp)
theorem AcB.keep {w w' : World} {b : Nat} {x : Ac} (h : AcB w b x) (hs : w.heap.size ≤ w'.heap.size) (hb : w'.heap[b]? = w.heap[b]?) : AcB w' b x :=
  ⟨Nat.lt_of_lt_of_le h.lt hs, (World.cell?_of_block (w := w) (a := ⟨b, 0, none⟩) hb).trans h.c0, (World.cell?_of_block (w := w) (a := ⟨b, 1, none⟩) hb).trans h.c1, (World.cell?_of_block (w := w) (a := ⟨b, 2, none⟩) hb).trans h.c2, (World.cell?_of_block (w := w) (a := ⟨b, 3, none⟩) hb).trans h.c3, (World.cell?_of_block (w := w) (a := ⟨b, 4, none⟩) hb).trans h.c4, (World.cell?_of_block (w := w) (a := ⟨b, 5, none⟩) hb).trans h.c5, (World.cell?_of_block (w := w) (a := ⟨b, 6, none⟩) hb).trans h.c6, (World.cell?_of_block (w := w) (a := ⟨b, 7, none⟩) hb).trans h.c7, (World.cell?_of_block (w := w) (a := ⟨b, 8, none⟩) hb).trans h.c8, (World.cell?_of_block (w := w) (a := ⟨b, 9, none⟩) hb).trans h.c9, (World.cell?_of_block (w := w) (a := ⟨b, 10, none⟩) hb).trans h.c10, (World.cell?_of_block (w := w) (a := ⟨b, 11, none⟩) hb).trans h.c11, (World.cell?_of_block (w := w) (a := ⟨b, 12, none⟩) hb).trans h.c12, (World.cell?_of_block (w := w) (a := ⟨b, 13, none⟩) hb).trans h.c13⟩
theorem AcB.on {w w' : World} {b : Nat} {x : Ac} (h : AcB w b x) (hb : Below w.heap.size w w') : AcB w' b x := h.keep hb.size (hb.block b h.lt)
theorem AcB.made (w : World) (x : Ac) (T : TypeId) : AcB (w.alloc (.cells #[.int .u8 x.kd, .int .u8 x.pr, .int .u8 x.inn, .int .u8 x.out, .int .u8 x.sp, .int .u8 x.w.pr, .int .u32 x.w.ii, .int .u16 x.w.ip, .int .u32 x.w.oi, .int .u16 x.w.fr, .int .u16 x.w.to, .int .u16 x.w.dr, .int .u32 x.fi, .int .u16 x.fp] T)) w.heap.size x :=
  have c := fun j => World.cell?_alloc_mark w #[.int .u8 x.kd, .int .u8 x.pr, .int .u8 x.inn, .int .u8 x.out, .int .u8 x.sp, .int .u8 x.w.pr, .int .u32 x.w.ii, .int .u16 x.w.ip, .int .u32 x.w.oi, .int .u16 x.w.fr, .int .u16 x.w.to, .int .u16 x.w.dr, .int .u32 x.fi, .int .u16 x.fp] T (0, 0) j
  ⟨by simp, c 0, c 1, c 2, c 3, c 4, c 5, c 6, c 7, c 8, c 9, c 10, c 11, c 12, c 13⟩
end Go.Proofs.Ytbbadpidolfleaa

namespace Go.Proofs.Ytbbadpidolfleaa
set_option linter.unusedVariables false
set_option maxRecDepth 100000
set_option linter.unusedSimpArgs false
open Go.ChangeShapes Go.WideShapes Go.ChangeAt Go.RowKit Go.PlainAid
attribute [local go_sem ↓] Go.wp_at_zero Go.wp_at_succ
/-- What an act's numbers may be. -/
structure AOk (x : Ac) : Prop where
  kd : 0 ≤ x.kd ∧ x.kd < 256
  pr : 0 ≤ x.pr ∧ x.pr < 256
  inn : 0 ≤ x.inn ∧ x.inn < 256
  out : 0 ≤ x.out ∧ x.out < 256
  sp : 0 ≤ x.sp ∧ x.sp < 256
  w : WOk x.w
  fi : 0 ≤ x.fi ∧ x.fi < 4294967296
  fp : 0 ≤ x.fp ∧ x.fp < 65536
def Ac.small (x : Ac) : Wi := ⟨x.pr % 3, x.inn % 3, 10 + x.inn / 3 % 8, 90 + x.out % 2, 10 + x.sp % 4, 10 + x.sp % 4 + x.sp / 4 % 6, x.w.dr⟩
def Ac.oi (x : Ac) : Int := 90 + x.out % 2
def Ac.op (x : Ac) : Int := 10 + x.out / 2 % 10
theorem AOk.small {x : Ac} (h : AOk x) : WOk x.small := by
  obtain ⟨_, h1, h2, h3, h4, h5, _, _⟩ := h
  have := h5.dr0
  have := h5.dr1
  constructor <;> simp only [Ac.small] <;> omega
theorem AOk.point {x : Ac} (h : AOk x) : EOk x.small.pr x.oi x.op := by
  obtain ⟨_, h1, h2, h3, h4, h5, _, _⟩ := h
  constructor <;> simp only [Ac.small, Ac.oi, Ac.op] <;> omega
theorem byte_mod {b m : Int} (h : 0 ≤ b ∧ b < 256) (hm : 0 < m) : b.tmod m = b % m ∧ IntKind.u8.wrap (b % m) = b % m ∧ IntKind.u16.wrap (b % m) = b % m ∧ IntKind.u32.wrap (b % m) = b % m ∧ 0 ≤ b % m ∧ b % m < 256 := by
  have h1 := Int.emod_nonneg b (b := m) (by omega)
  have h2 : b % m ≤ b := by
    rcases Int.lt_or_le b m with h3 | h3
    · rw [Int.emod_eq_of_lt h.1 h3]; exact Int.le_refl _
    · have := Int.emod_lt_of_pos b hm; omega
  refine ⟨Int.tmod_eq_emod_of_nonneg h.1, ?_, ?_, ?_, h1, by omega⟩
  · rw [IntKind.wrap_u8]; omega
  · rw [IntKind.wrap_u16]; omega
  · rw [IntKind.wrap_u32]; omega
theorem byte_div {b m : Int} (h : 0 ≤ b ∧ b < 256) (hm : 0 < m) : b.tdiv m = b / m ∧ IntKind.u8.wrap (b / m) = b / m ∧ 0 ≤ b / m ∧ b / m < 256 := by
  have h1 := Int.ediv_nonneg h.1 (Int.le_of_lt hm)
  have h2 := Int.ediv_le_self m h.1
  refine ⟨Int.tdiv_eq_ediv_of_nonneg h.1, ?_, h1, by omega⟩
  rw [IntKind.wrap_u8]; omega
section
variable {w w' : World} {b : Nat} {v v0 : Wi} {M : World → Prop}
theorem wi_all (h : WiB w b v0) (k : ∀ X : World, WiB X b v → Beside (fun k => k = b) w X → M X) : M (((((((w.setCell ⟨b, 0, none⟩ (.int .u8 v.pr)).setCell ⟨b, 1, none⟩ (.int .u32 v.ii)).setCell ⟨b, 2, none⟩ (.int .u16 v.ip)).setCell ⟨b, 3, none⟩ (.int .u32 v.oi)).setCell ⟨b, 4, none⟩ (.int .u16 v.fr)).setCell ⟨b, 5, none⟩ (.int .u16 v.to)).setCell ⟨b, 6, none⟩ (.int .u16 v.dr)) := by
  have c := World.cell?_setCells_in b [.int .u8 v.pr, .int .u32 v.ii, .int .u16 v.ip, .int .u32 v.oi, .int .u16 v.fr, .int .u16 v.to, .int .u16 v.dr] 0 w (by
    intro j hj
    rw [Nat.zero_add]
    match j, hj with
    | 0, _ => rw [h.c0]; rfl
    | 1, _ => rw [h.c1]; rfl
    | 2, _ => rw [h.c2]; rfl
    | 3, _ => rw [h.c3]; rfl
    | 4, _ => rw [h.c4]; rfl
    | 5, _ => rw [h.c5]; rfl
    | 6, _ => rw [h.c6]; rfl)
  exact k _ ⟨by simpa [World.setCell] using h.lt, c 0 (by simp), c 1 (by simp), c 2 (by simp), c 3 (by simp), c 4 (by simp), c 5 (by simp), c 6 (by simp)⟩ ((((((((Beside.refl (fun k => k = b) w).setCell (p := ⟨b, 0, none⟩) rfl _).setCell (p := ⟨b, 1, none⟩) rfl _).setCell (p := ⟨b, 2, none⟩) rfl _).setCell (p := ⟨b, 3, none⟩) rfl _).setCell (p := ⟨b, 4, none⟩) rfl _).setCell (p := ⟨b, 5, none⟩) rfl _).setCell (p := ⟨b, 6, none⟩) rfl _)
theorem wi_allF (h : WiB w b v0) (k : ∀ X : World, WiB X b v → Beside (fun k => k = b) w X → (∀ j, X.frozen? ⟨b, j, none⟩ = w.frozen? ⟨b, j, none⟩) → M X) : M (((((((w.setCell ⟨b, 0, none⟩ (.int .u8 v.pr)).setCell ⟨b, 1, none⟩ (.int .u32 v.ii)).setCell ⟨b, 2, none⟩ (.int .u16 v.ip)).setCell ⟨b, 3, none⟩ (.int .u32 v.oi)).setCell ⟨b, 4, none⟩ (.int .u16 v.fr)).setCell ⟨b, 5, none⟩ (.int .u16 v.to)).setCell ⟨b, 6, none⟩ (.int .u16 v.dr)) := by
  have c := World.cell?_setCells_in b [.int .u8 v.pr, .int .u32 v.ii, .int .u16 v.ip, .int .u32 v.oi, .int .u16 v.fr, .int .u16 v.to, .int .u16 v.dr] 0 w (by
    intro j hj
    rw [Nat.zero_add]
    match j, hj with
    | 0, _ => rw [h.c0]; rfl
    | 1, _ => rw [h.c1]; rfl
    | 2, _ => rw [h.c2]; rfl
    | 3, _ => rw [h.c3]; rfl
    | 4, _ => rw [h.c4]; rfl
    | 5, _ => rw [h.c5]; rfl
    | 6, _ => rw [h.c6]; rfl)
  exact k _ ⟨by simpa [World.setCell] using h.lt, c 0 (by simp), c 1 (by simp), c 2 (by simp), c 3 (by simp), c 4 (by simp), c 5 (by simp), c 6 (by simp)⟩ ((((((((Beside.refl (fun k => k = b) w).setCell (p := ⟨b, 0, none⟩) rfl _).setCell (p := ⟨b, 1, none⟩) rfl _).setCell (p := ⟨b, 2, none⟩) rfl _).setCell (p := ⟨b, 3, none⟩) rfl _).setCell (p := ⟨b, 4, none⟩) rfl _).setCell (p := ⟨b, 5, none⟩) rfl _).setCell (p := ⟨b, 6, none⟩) rfl _) (fun j => by simp only [World.frozen?_setCell])
theorem wi_to {t : Int} (h : WiB w b v) (k : ∀ X : World, WiB X b ⟨v.pr, v.ii, v.ip, v.oi, v.fr, t, v.dr⟩ → Beside (fun k => k = b) w X → M X) : M (w.setCell ⟨b, 5, none⟩ (.int .u16 t)) := by
  have c0 := h.c0
  have c1 := h.c1
  have c2 := h.c2
  have c3 := h.c3
  have c4 := h.c4
  have c5 := h.c5
  have c6 := h.c6
  exact k _ ⟨by simpa [World.setCell] using h.lt, by simp [go_sem, c0, c5], by simp [go_sem, c1, c5], by simp [go_sem, c2, c5], by simp [go_sem, c3, c5], by simp [go_sem, c4, c5], by simp [go_sem, c5], by simp [go_sem, c6, c5]⟩ ((Beside.refl (fun k => k = b) w).setCell (p := ⟨b, 5, none⟩) rfl _)
end
set_option maxHeartbeats 1000000 in
/-- Doc. -/
theorem doc_ (v : Wi) (w : World) : Says Try.prog 19 #[.agg #[.int .u8 v.pr, .int .u32 v.ii, .int .u16 v.ip, .int .u32 v.oi, .int .u16 v.fr, .int .u16 v.to, .int .u16 v.dr]] w (.agg #[.int .u8 v.pr, .int .u32 v.ii, .int .u16 v.ip, .int .u32 v.oi, .int .u16 v.fr, .int .u16 v.to, .int .u16 v.dr]) := by
  show Calls _ _ _ _ _
  have B1 : Below w.heap.size w ((w.alloc (.cells #[.int .u8 v.pr, .int .u32 v.ii, .int .u16 v.ip, .int .u32 v.oi, .int .u16 v.fr, .int .u16 v.to, .int .u16 v.dr] 36)).alloc (.cells #[.int .u8 0, .int .u32 0, .int .u16 0, .int .u32 0, .int .u16 0, .int .u16 0, .int .u16 0] 51)) := ((Below.refl _ _).alloc (Nat.le_refl _) _).alloc (by simp) _
  have hz : (w.alloc (.cells #[.int .u8 v.pr, .int .u32 v.ii, .int .u16 v.ip, .int .u32 v.oi, .int .u16 v.fr, .int .u16 v.to, .int .u16 v.dr] 36)).heap.size = w.heap.size + 1 := by simp
  have A1 := (WiB.made w v 36).on ((Below.refl _ _).alloc (Nat.le_refl _) (.cells #[.int .u8 0, .int .u32 0, .int .u16 0, .int .u32 0, .int .u16 0, .int .u16 0, .int .u16 0] 51))
  have E1 : WiB ((w.alloc (.cells #[.int .u8 v.pr, .int .u32 v.ii, .int .u16 v.ip, .int .u32 v.oi, .int .u16 v.fr, .int .u16 v.to, .int .u16 v.dr] 36)).alloc (.cells #[.int .u8 0, .int .u32 0, .int .u16 0, .int .u32 0, .int .u16 0, .int .u16 0, .int .u16 0] 51)) (w.alloc (.cells #[.int .u8 v.pr, .int .u32 v.ii, .int .u16 v.ip, .int .u32 v.oi, .int .u16 v.fr, .int .u16 v.to, .int .u16 v.dr] 36)).heap.size ⟨0, 0, 0, 0, 0, 0, 0⟩ := WiB.made _ ⟨0, 0, 0, 0, 0, 0, 0⟩ 51
  have ef : ∀ j, ((w.alloc (.cells #[.int .u8 v.pr, .int .u32 v.ii, .int .u16 v.ip, .int .u32 v.oi, .int .u16 v.fr, .int .u16 v.to, .int .u16 v.dr] 36)).alloc (.cells #[.int .u8 0, .int .u32 0, .int .u16 0, .int .u32 0, .int .u16 0, .int .u16 0, .int .u16 0] 51)).frozen? ⟨(w.alloc (.cells #[.int .u8 v.pr, .int .u32 v.ii, .int .u16 v.ip, .int .u32 v.oi, .int .u16 v.fr, .int .u16 v.to, .int .u16 v.dr] 36)).heap.size, j, none⟩ = false := fun j => by simp [go_sem]
  rw [hz] at E1 ef
  go_enter Try.func19, Try.ntmps19
  go_upto_region 1 with fail
  generalize (w.alloc (.cells #[.int .u8 v.pr, .int .u32 v.ii, .int .u16 v.ip, .int .u32 v.oi, .int .u16 v.fr, .int .u16 v.to, .int .u16 v.dr] 36)).alloc (.cells #[.int .u8 0, .int .u32 0, .int .u16 0, .int .u32 0, .int .u16 0, .int .u16 0, .int .u16 0] 51) = w1 at A1 E1 ef B1 ⊢
  obtain ⟨_, a0, a1, a2, a3, a4, a5, a6⟩ := id A1
  obtain ⟨_, z0, z1, z2, z3, z4, z5, z6⟩ := id E1
  have HB := Lib.hid B1
  have HE := Lib.hid E1
  clear A1 E1 B1 hz
  go_wp2_with fail
  refine wi_all HE.out fun X hX bX => ?_
  obtain ⟨_, x0, x1, x2, x3, x4, x5, x6⟩ := id hX
  have B2 := one_box HB.out bX (Nat.le_succ _) HB.out.size
  clear a0 a1 a2 a3 a4 a5 a6 z0 z1 z2 z3 z4 z5 z6 ef hX bX HB HE
  go_wp2
  refine bodyPost_ret (v := .agg #[.int .u8 v.pr, .int .u32 v.ii, .int .u16 v.ip, .int .u32 v.oi, .int .u16 v.fr, .int .u16 v.to, .int .u16 v.dr]) (by simp [results, Try.results19, go_sem, x0, x1, x2, x3, x4, x5, x6]) rfl ?_
  exact ⟨rfl, B2⟩
set_option maxHeartbeats 2000000 in
/-- (Act).Point. -/
theorem point_ (x : Ac) (hx : AOk x) (w : World) : Says Try.prog 28 #[.agg #[.int .u8 x.kd, .int .u8 x.pr, .int .u8 x.inn, .int .u8 x.out, .int .u8 x.sp, .int .u8 x.w.pr, .int .u32 x.w.ii, .int .u16 x.w.ip, .int .u32 x.w.oi, .int .u16 x.w.fr, .int .u16 x.w.to, .int .u16 x.w.dr, .int .u32 x.fi, .int .u16 x.fp]] w (.agg #[.int .u32 x.oi, .int .u16 x.op]) := by
  show Calls _ _ _ _ _
  have B1 : Below w.heap.size w ((w.alloc (.cells #[.int .u8 x.kd, .int .u8 x.pr, .int .u8 x.inn, .int .u8 x.out, .int .u8 x.sp, .int .u8 x.w.pr, .int .u32 x.w.ii, .int .u16 x.w.ip, .int .u32 x.w.oi, .int .u16 x.w.fr, .int .u16 x.w.to, .int .u16 x.w.dr, .int .u32 x.fi, .int .u16 x.fp] 38)).alloc (.cells #[.int .u32 0, .int .u16 0] 34)) := ((Below.refl _ _).alloc (Nat.le_refl _) _).alloc (by simp) _
  have hz : (w.alloc (.cells #[.int .u8 x.kd, .int .u8 x.pr, .int .u8 x.inn, .int .u8 x.out, .int .u8 x.sp, .int .u8 x.w.pr, .int .u32 x.w.ii, .int .u16 x.w.ip, .int .u32 x.w.oi, .int .u16 x.w.fr, .int .u16 x.w.to, .int .u16 x.w.dr, .int .u32 x.fi, .int .u16 x.fp] 38)).heap.size = w.heap.size + 1 := by simp
  have A1 := (AcB.made w x 38).on ((Below.refl _ _).alloc (Nat.le_refl _) (.cells #[.int .u32 0, .int .u16 0] 34))
  have E1 := EpB.made (w.alloc (.cells #[.int .u8 x.kd, .int .u8 x.pr, .int .u8 x.inn, .int .u8 x.out, .int .u8 x.sp, .int .u8 x.w.pr, .int .u32 x.w.ii, .int .u16 x.w.ip, .int .u32 x.w.oi, .int .u16 x.w.fr, .int .u16 x.w.to, .int .u16 x.w.dr, .int .u32 x.fi, .int .u16 x.fp] 38)) 0 0 34
  rw [hz] at E1
  obtain ⟨m1, m2, m3, m4, m5, m6⟩ := byte_mod hx.out (m := 2) (by decide)
  obtain ⟨d1, d2, d3, d4⟩ := byte_div hx.out (m := 2) (by decide)
  obtain ⟨n1, n2, n3, n4, n5, n6⟩ := byte_mod (b := x.out / 2) ⟨d3, d4⟩ (m := 10) (by decide)
  have o2 : x.out % 2 < 2 := Int.emod_lt_of_pos _ (by decide)
  have q2 : x.out / 2 % 10 < 10 := Int.emod_lt_of_pos _ (by decide)
  obtain ⟨o1, ho⟩ : ∃ o1, o1 = x.out % 2 := ⟨_, rfl⟩
  obtain ⟨q1, hq⟩ : ∃ q1, q1 = x.out / 2 % 10 := ⟨_, rfl⟩
  obtain ⟨r1, hr⟩ : ∃ r1, r1 = x.out / 2 := ⟨_, rfl⟩
  rw [← hr] at hq q2 n1 n2 n3 n4 n5 n6 d1 d2 d3 d4
  rw [← hq] at q2 n1 n2 n3 n4 n5 n6
  rw [← ho] at o2 m1 m2 m3 m4 m5 m6
  have w1_ : IntKind.u8.wrap (90 + o1) = 90 + o1 := by rw [IntKind.wrap_u8]; omega
  have w2_ : IntKind.u32.wrap (90 + o1) = 90 + o1 := by rw [IntKind.wrap_u32]; omega
  have w3_ : IntKind.u16.wrap (10 + q1) = 10 + q1 := by rw [IntKind.wrap_u16]; omega
  have e1 : x.oi = 90 + o1 := by rw [ho]; rfl
  have e2 : x.op = 10 + q1 := by rw [hq, hr]; rfl
  rw [e1, e2]
  clear hx m5 m6 d3 d4 n5 n6 o2 q2 ho hq hr e1 e2
  go_enter Try.func28, Try.ntmps28
  go_upto_region 1 with fail
  generalize (w.alloc (.cells #[.int .u8 x.kd, .int .u8 x.pr, .int .u8 x.inn, .int .u8 x.out, .int .u8 x.sp, .int .u8 x.w.pr, .int .u32 x.w.ii, .int .u16 x.w.ip, .int .u32 x.w.oi, .int .u16 x.w.fr, .int .u16 x.w.to, .int .u16 x.w.dr, .int .u32 x.fi, .int .u16 x.fp] 38)).alloc (.cells #[.int .u32 0, .int .u16 0] 34) = w1 at A1 E1 B1 ⊢
  obtain ⟨_, a0, a1, a2, a3, _⟩ := id A1
  obtain ⟨_, z0, z1, zf⟩ := id E1
  have HB := Lib.hid B1
  have HE := Lib.hid E1
  clear A1 E1 B1 hz
  go_wp2_with fail
  refine ep_ HE.out fun X hX bX => ?_
  obtain ⟨_, x0, x1, xf⟩ := id hX
  have B2 := one_box HB.out bX (Nat.le_succ _) HB.out.size
  clear a0 a1 a2 a3 z0 z1 zf hX bX HB HE
  go_wp2
  refine bodyPost_ret (v := .agg #[.int .u32 (90 + o1), .int .u16 (10 + q1)]) (by simp [results, Try.results28, go_sem, x0, x1]) rfl ?_
  exact ⟨rfl, B2⟩
set_option maxHeartbeats 4000000 in
/-- (Act).Small. -/
theorem small_ (x : Ac) (hx : AOk x) (w : World) : Says Try.prog 27 #[.agg #[.int .u8 x.kd, .int .u8 x.pr, .int .u8 x.inn, .int .u8 x.out, .int .u8 x.sp, .int .u8 x.w.pr, .int .u32 x.w.ii, .int .u16 x.w.ip, .int .u32 x.w.oi, .int .u16 x.w.fr, .int .u16 x.w.to, .int .u16 x.w.dr, .int .u32 x.fi, .int .u16 x.fp]] w (.agg #[.int .u8 x.small.pr, .int .u32 x.small.ii, .int .u16 x.small.ip, .int .u32 x.small.oi, .int .u16 x.small.fr, .int .u16 x.small.to, .int .u16 x.small.dr]) := by
  show Calls _ _ _ _ _
  have B1 : Below w.heap.size w ((w.alloc (.cells #[.int .u8 x.kd, .int .u8 x.pr, .int .u8 x.inn, .int .u8 x.out, .int .u8 x.sp, .int .u8 x.w.pr, .int .u32 x.w.ii, .int .u16 x.w.ip, .int .u32 x.w.oi, .int .u16 x.w.fr, .int .u16 x.w.to, .int .u16 x.w.dr, .int .u32 x.fi, .int .u16 x.fp] 38)).alloc (.cells #[.int .u8 0, .int .u32 0, .int .u16 0, .int .u32 0, .int .u16 0, .int .u16 0, .int .u16 0] 36)) := ((Below.refl _ _).alloc (Nat.le_refl _) _).alloc (by simp) _
  have hz : (w.alloc (.cells #[.int .u8 x.kd, .int .u8 x.pr, .int .u8 x.inn, .int .u8 x.out, .int .u8 x.sp, .int .u8 x.w.pr, .int .u32 x.w.ii, .int .u16 x.w.ip, .int .u32 x.w.oi, .int .u16 x.w.fr, .int .u16 x.w.to, .int .u16 x.w.dr, .int .u32 x.fi, .int .u16 x.fp] 38)).heap.size = w.heap.size + 1 := by simp
  have A1 := (AcB.made w x 38).on ((Below.refl _ _).alloc (Nat.le_refl _) (.cells #[.int .u8 0, .int .u32 0, .int .u16 0, .int .u32 0, .int .u16 0, .int .u16 0, .int .u16 0] 36))
  have E1 : WiB ((w.alloc (.cells #[.int .u8 x.kd, .int .u8 x.pr, .int .u8 x.inn, .int .u8 x.out, .int .u8 x.sp, .int .u8 x.w.pr, .int .u32 x.w.ii, .int .u16 x.w.ip, .int .u32 x.w.oi, .int .u16 x.w.fr, .int .u16 x.w.to, .int .u16 x.w.dr, .int .u32 x.fi, .int .u16 x.fp] 38)).alloc (.cells #[.int .u8 0, .int .u32 0, .int .u16 0, .int .u32 0, .int .u16 0, .int .u16 0, .int .u16 0] 36)) (w.alloc (.cells #[.int .u8 x.kd, .int .u8 x.pr, .int .u8 x.inn, .int .u8 x.out, .int .u8 x.sp, .int .u8 x.w.pr, .int .u32 x.w.ii, .int .u16 x.w.ip, .int .u32 x.w.oi, .int .u16 x.w.fr, .int .u16 x.w.to, .int .u16 x.w.dr, .int .u32 x.fi, .int .u16 x.fp] 38)).heap.size ⟨0, 0, 0, 0, 0, 0, 0⟩ := WiB.made _ ⟨0, 0, 0, 0, 0, 0, 0⟩ 36
  have ef : ∀ j, ((w.alloc (.cells #[.int .u8 x.kd, .int .u8 x.pr, .int .u8 x.inn, .int .u8 x.out, .int .u8 x.sp, .int .u8 x.w.pr, .int .u32 x.w.ii, .int .u16 x.w.ip, .int .u32 x.w.oi, .int .u16 x.w.fr, .int .u16 x.w.to, .int .u16 x.w.dr, .int .u32 x.fi, .int .u16 x.fp] 38)).alloc (.cells #[.int .u8 0, .int .u32 0, .int .u16 0, .int .u32 0, .int .u16 0, .int .u16 0, .int .u16 0] 36)).frozen? ⟨(w.alloc (.cells #[.int .u8 x.kd, .int .u8 x.pr, .int .u8 x.inn, .int .u8 x.out, .int .u8 x.sp, .int .u8 x.w.pr, .int .u32 x.w.ii, .int .u16 x.w.ip, .int .u32 x.w.oi, .int .u16 x.w.fr, .int .u16 x.w.to, .int .u16 x.w.dr, .int .u32 x.fi, .int .u16 x.fp] 38)).heap.size, j, none⟩ = false := fun j => by simp [go_sem]
  rw [hz] at E1 ef
  obtain ⟨p1, p2, p3, p4, _, _⟩ := byte_mod hx.pr (m := 3) (by decide)
  obtain ⟨i1, i2, i3, i4, _, _⟩ := byte_mod hx.inn (m := 3) (by decide)
  obtain ⟨j1, j2, j3, j4⟩ := byte_div hx.inn (m := 3) (by decide)
  obtain ⟨k1, k2, k3, k4, k5, _⟩ := byte_mod (b := x.inn / 3) ⟨j3, j4⟩ (m := 8) (by decide)
  have kb : x.inn / 3 % 8 < 8 := Int.emod_lt_of_pos _ (by decide)
  obtain ⟨m1, m2, m3, m4, m5, m6⟩ := byte_mod hx.out (m := 2) (by decide)
  have mb : x.out % 2 < 2 := Int.emod_lt_of_pos _ (by decide)
  obtain ⟨s1, s2, s3, s4, s5, _⟩ := byte_mod hx.sp (m := 4) (by decide)
  have sb : x.sp % 4 < 4 := Int.emod_lt_of_pos _ (by decide)
  obtain ⟨t1, t2, t3, t4⟩ := byte_div hx.sp (m := 4) (by decide)
  obtain ⟨u1, u2, u3, u4, u5, _⟩ := byte_mod (b := x.sp / 4) ⟨t3, t4⟩ (m := 6) (by decide)
  have ub : x.sp / 4 % 6 < 6 := Int.emod_lt_of_pos _ (by decide)
  obtain ⟨P1, hP⟩ : ∃ y, y = x.pr % 3 := ⟨_, rfl⟩
  obtain ⟨I1, hI⟩ : ∃ y, y = x.inn % 3 := ⟨_, rfl⟩
  obtain ⟨K1, hK⟩ : ∃ y, y = x.inn / 3 % 8 := ⟨_, rfl⟩
  obtain ⟨J1, hJ⟩ : ∃ y, y = x.inn / 3 := ⟨_, rfl⟩
  obtain ⟨M1, hM⟩ : ∃ y, y = x.out % 2 := ⟨_, rfl⟩
  obtain ⟨S1, hS⟩ : ∃ y, y = x.sp % 4 := ⟨_, rfl⟩
  obtain ⟨U1, hU⟩ : ∃ y, y = x.sp / 4 % 6 := ⟨_, rfl⟩
  obtain ⟨T1, hT⟩ : ∃ y, y = x.sp / 4 := ⟨_, rfl⟩
  have e : x.small = ⟨P1, I1, 10 + K1, 90 + M1, 10 + S1, 10 + S1 + U1, x.w.dr⟩ := by rw [hP, hI, hK, hM, hS, hU]; rfl
  rw [e]
  simp only []
  rw [← hP] at p1 p2 p3 p4
  rw [← hI] at i1 i2 i3 i4
  rw [← hK] at k1 k2 k3 k4 k5 kb
  rw [← hJ] at j1 j2 k1
  rw [← hM] at m1 m2 m3 m4 m5 mb
  rw [← hS] at s1 s2 s3 s4 s5 sb
  rw [← hU] at u1 u2 u3 u4 u5 ub
  rw [← hT] at t1 t2 u1
  have w1_ : IntKind.u16.wrap (10 + K1) = 10 + K1 := by rw [IntKind.wrap_u16]; omega
  have w2_ : IntKind.u8.wrap (90 + M1) = 90 + M1 := by rw [IntKind.wrap_u8]; omega
  have w3_ : IntKind.u32.wrap (90 + M1) = 90 + M1 := by rw [IntKind.wrap_u32]; omega
  have w4_ : IntKind.u16.wrap (10 + S1) = 10 + S1 := by rw [IntKind.wrap_u16]; omega
  have w5_ : IntKind.u16.wrap (10 + S1 + U1) = 10 + S1 + U1 := by rw [IntKind.wrap_u16]; omega
  clear e hP hI hK hJ hM hS hU hT k5 kb m5 mb s5 sb u5 ub j3 j4 t3 t4 hx m6
  go_enter Try.func27, Try.ntmps27
  go_upto_region 1 with fail
  generalize (w.alloc (.cells #[.int .u8 x.kd, .int .u8 x.pr, .int .u8 x.inn, .int .u8 x.out, .int .u8 x.sp, .int .u8 x.w.pr, .int .u32 x.w.ii, .int .u16 x.w.ip, .int .u32 x.w.oi, .int .u16 x.w.fr, .int .u16 x.w.to, .int .u16 x.w.dr, .int .u32 x.fi, .int .u16 x.fp] 38)).alloc (.cells #[.int .u8 0, .int .u32 0, .int .u16 0, .int .u32 0, .int .u16 0, .int .u16 0, .int .u16 0] 36) = v1 at A1 E1 ef B1 ⊢
  have b3 : Below v1.heap.size v1 (v1.alloc (.cells #[.int .u8 P1, .int .u32 I1, .int .u16 (10 + K1), .int .u32 (90 + M1), .int .u16 (10 + S1), .int .u16 0, .int .u16 x.w.dr] 36)) := (Below.refl _ _).alloc (Nat.le_refl _) _
  have D3 := WiB.made v1 ⟨P1, I1, 10 + K1, 90 + M1, 10 + S1, 0, x.w.dr⟩ 36
  have df : ∀ j, (v1.alloc (.cells #[.int .u8 P1, .int .u32 I1, .int .u16 (10 + K1), .int .u32 (90 + M1), .int .u16 (10 + S1), .int .u16 0, .int .u16 x.w.dr] 36)).frozen? ⟨v1.heap.size, j, none⟩ = false := fun j => by simp [go_sem]
  have A3 := A1.on b3
  have E3 := E1.on b3
  have ef3 : ∀ j, (v1.alloc (.cells #[.int .u8 P1, .int .u32 I1, .int .u16 (10 + K1), .int .u32 (90 + M1), .int .u16 (10 + S1), .int .u16 0, .int .u16 x.w.dr] 36)).frozen? ⟨w.heap.size + 1, j, none⟩ = false := fun j => (World.frozen?_of_block (w := v1) (a := ⟨w.heap.size + 1, j, none⟩) (b3.block _ E1.lt)).trans (ef j)
  have HB := Lib.hid (B1.trans (b3.mono B1.size))
  have HK := Lib.hid (And.intro A3 (And.intro E3 (And.intro D3 (And.intro df (And.intro ef3 E1.lt)))))
  obtain ⟨_, a0, a1, a2, a3, a4, a5, a6, a7, a8, a9, a10, a11, _⟩ := id A1
  clear A1 E1 ef B1 b3 D3 df A3 E3 ef3
  go_upto_region 2 with fail
  generalize v1.alloc (.cells #[.int .u8 P1, .int .u32 I1, .int .u16 (10 + K1), .int .u32 (90 + M1), .int .u16 (10 + S1), .int .u16 0, .int .u16 x.w.dr] 36) = v2 at HB HK ⊢
  clear a0 a1 a2 a3 a4 a5 a6 a7 a8 a9 a10 a11 p1 p2 p3 p4 i1 i2 i3 i4 j1 j2 k1 k2 k3 k4 m1 m2 m3 m4 s1 s2 s3 s4 w1_ w2_ w3_ w4_
  obtain ⟨A3, E3, D3, df, ef3, lE⟩ := HK.out
  clear HK
  generalize v1.heap.size = c at D3 df lE ⊢
  obtain ⟨_, a0, a1, a2, a3, a4, a5, a6, a7, a8, a9, a10, a11, _⟩ := id A3
  obtain ⟨_, d0, d1, d2, d3, d4, d5, d6⟩ := id D3
  have HD := Lib.hid (And.intro D3 (And.intro E3 (And.intro ef3 lE)))
  clear A3 E3 D3 ef3 lE
  go_upto_region 3 with fail
  refine wi_to HD.out.1 fun X hX bX => ?_
  have ne : w.heap.size + 1 ≠ c := by have := HD.out.2.2.2; omega
  have E4 := HD.out.2.1.keep bX.size (bX.block _ HD.out.2.1.lt ne)
  have ef4 : ∀ j, X.frozen? ⟨w.heap.size + 1, j, none⟩ = false := fun j => (World.frozen?_of_block (w := v2) (a := ⟨w.heap.size + 1, j, none⟩) (bX.block _ HD.out.2.1.lt ne)).trans (HD.out.2.2.1 j)
  have HB4 := Lib.hid (one_box HB.out bX (by have := HD.out.2.2.2; omega) HB.out.size)
  have HE4 := Lib.hid E4
  clear a0 a1 a2 a3 a4 a5 a6 a7 a8 a9 a10 a11 d0 d1 d2 d3 d4 d5 d6 df HB HD bX ne
  obtain ⟨_, d0, d1, d2, d3, d4, d5, d6⟩ := id hX
  obtain ⟨_, z0, z1, z2, z3, z4, z5, z6⟩ := id E4
  clear hX E4
  go_wp2_with fail
  refine wi_all (v := ⟨P1, I1, 10 + K1, 90 + M1, 10 + S1, 10 + S1 + U1, x.w.dr⟩) HE4.out fun Y hY bY => ?_
  obtain ⟨_, x0, x1, x2, x3, x4, x5, x6⟩ := id hY
  have B2 := one_box HB4.out bY (Nat.le_succ _) HB4.out.size
  clear z0 z1 z2 z3 z4 z5 z6 d0 d1 d2 d3 d4 d5 d6 ef4 hY bY HB4 HE4
  go_wp2
  refine bodyPost_ret (v := .agg #[.int .u8 P1, .int .u32 I1, .int .u16 (10 + K1), .int .u32 (90 + M1), .int .u16 (10 + S1), .int .u16 (10 + S1 + U1), .int .u16 x.w.dr]) (by simp [results, Try.results27, go_sem, x0, x1, x2, x3, x4, x5, x6]) rfl ?_
  exact ⟨rfl, B2⟩
end Go.Proofs.Ytbbadpidolfleaa
