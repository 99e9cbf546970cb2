/- slices.order2CmpFunc, medianCmpFunc, medianAdjacentCmpFunc, choosePivotCmpFunc, their order a method value. Written by gen_sortm.py. -/
import Derived.Test.YtmephmjlajaopaaSortA
import Derived.Sort.LotD1
import Derived.Sort.LotD4
import Derived.Deep.DeepCutAuto
namespace Go.Proofs.Ytmephmjlajaopaa
set_option linter.unusedVariables false
set_option linter.unusedSimpArgs false
open Go.Shelf Go.RowKit Go.Lib Go.Sort
section
variable {P : Program} {ρ : Ren} {α : Type} [Inhabited α] {g : Nat} {v : Value} {enc : α → List Value} {k : Nat} {cf : α → α → Int} {blk off N : Nat} {d0 : Array α} {w0 : World}
theorem lt_of3 {a b c N x : Nat} (h : x = a ∨ x = b ∨ x = c) (ha : a < N) (hb : b < N) (hc : c < N) : x < N := by omega
set_option maxHeartbeats 4000000 in
set_option maxRecDepth 1000000 in
theorem sOrder2_ (L : SlLaysF0.n57 P ρ) (aE : ∀ w, (isAgg (ρ.t 24)).run P w = .ok true w) (zE : ∀ w, (Go.sizeOf (ρ.t 24)).run P w = .ok k w) (K : Srt P g v enc k cf blk off N d0 w0) (cap a b : Nat) (c s : Nat) (d : Array α) (w : World) (hd : d.size = N) (C : Aside (CntK enc k w0 blk off d c s w)) (hs : s ≤ 1000) (ha : a < N) (hb : b < N) :
    Calls P (ρ.f 57) #[.slice (some ⟨blk, off, none⟩) N cap, .int .i64 a, .int .i64 b, .pointer (some ⟨c, 0, none⟩), .func (.func g) #[v] #[]] w fun e w' => e = .returned (.tuple #[.int .i64 ((order2 (ltOf cf) d a b s).1 : Nat), .int .i64 ((order2 (ltOf cf) d a b s).2.1 : Nat)]) ∧ Aside (CntK enc k w0 blk off d c (order2 (ltOf cf) d a b s).2.2 w') := by
  obtain ⟨mixed, _, t0, a0, z0, v0, t3, a3, z3, v3, t4, a4, z4, v4, t22, a22, z22, v22, t25, a25, z25, v25, t70, a70, z70, v70⟩ := id L
  obtain ⟨_, _, FG⟩ := L.f57
  have few := K.few
  have eg := K.eg
  have KK : Aside _ := K
  clear K
  go_enter FG, SlBodyF.n57_ntmps ρ
  have SS : Aside (SWK enc k w0 blk off d w) := C.out.1
  cases hl : ltOf cf d[b]! d[a]! with
  | true =>
    have HV : Hid (order2 (ltOf cf) d a b s = (b, a, s + 1)) := by show _ = _; unfold order2; rw [hl]; rfl
    obtain ⟨ea1, eb1, ec1, ed1⟩ := KK.out.at ((b : Int)) (b) (by omega) (by omega)
    obtain ⟨ea2, eb2, ec2, ed2⟩ := KK.out.at ((a : Int)) (a) (by omega) (by omega)
    obtain ⟨x1, y1, c1, hv1, la1, lb1, hc1, SG1⟩ := KK.out.test SS hd (b) (a) (by omega) (by omega) true hl
    clear SG1 SS hl
    go_wp2_with fail
    go_quiet_grown (first | (go_at_fn g; refine hc1 _ _))
    have C2 : Aside (CntK enc k w0 blk off d c s (grow (w.drewN nq) osq)) := C.out.grown nq osq
    clear la1 lb1 hc1 C
    generalize grow (w.drewN nq) osq = w2 at C2 ⊢
    clear nq osq
    have k1 : w2.cell? ⟨c, 0, none⟩ = some (.int .i64 (s : Int)) := C2.out.2.1
    have k2 : w2.frozen? ⟨c, 0, none⟩ = false := C2.out.2.2.1
    have k3 : IntKind.i64.wrap ((s : Int) + 1) = (s : Int) + 1 := KK.out.wr _ (by omega) (by omega)
    have C3 : Aside (CntK enc k w0 blk off d c (s + 1) (w2.setCell ⟨c, 0, none⟩ (.int .i64 ((s + 1 : Nat) : Int)))) := C2.out.bump (s + 1)
    clear C2
    go_wp2
    go_ret2
    rw [HV.out]
    exact ⟨rfl, C3⟩
  | false =>
    have HV : Hid (order2 (ltOf cf) d a b s = (a, b, s)) := by show _ = _; unfold order2; rw [hl]; rfl
    obtain ⟨ea3, eb3, ec3, ed3⟩ := KK.out.at ((b : Int)) (b) (by omega) (by omega)
    obtain ⟨ea4, eb4, ec4, ed4⟩ := KK.out.at ((a : Int)) (a) (by omega) (by omega)
    obtain ⟨x1, y1, c1, hv1, la1, lb1, hc1, SG1⟩ := KK.out.test SS hd (b) (a) (by omega) (by omega) false hl
    clear SG1 SS hl
    go_wp2_with fail
    go_quiet_grown (first | (go_at_fn g; refine hc1 _ _))
    have C2 : Aside (CntK enc k w0 blk off d c s (grow (w.drewN nq) osq)) := C.out.grown nq osq
    clear la1 lb1 hc1 C
    generalize grow (w.drewN nq) osq = w2 at C2 ⊢
    clear nq osq
    go_wp2
    go_ret2
    rw [HV.out]
    exact ⟨rfl, C2⟩
set_option maxHeartbeats 4000000 in
set_option maxRecDepth 1000000 in
theorem sMedian_ (L : SlLaysF0.n50 P ρ) (aE : ∀ w, (isAgg (ρ.t 24)).run P w = .ok true w) (zE : ∀ w, (Go.sizeOf (ρ.t 24)).run P w = .ok k w) (K : Srt P g v enc k cf blk off N d0 w0) (cap a b m : Nat) (c s : Nat) (d : Array α) (w : World) (hd : d.size = N) (C : Aside (CntK enc k w0 blk off d c s w)) (hs : s ≤ 900) (ha : a < N) (hb : b < N) (hm : m < N) :
    Calls P (ρ.f 50) #[.slice (some ⟨blk, off, none⟩) N cap, .int .i64 a, .int .i64 b, .int .i64 m, .pointer (some ⟨c, 0, none⟩), .func (.func g) #[v] #[]] w fun e w' => e = .returned (.int .i64 ((median (ltOf cf) d a b m s).1 : Nat)) ∧ Aside (CntK enc k w0 blk off d c (median (ltOf cf) d a b m s).2 w') := by
  have KM : Aside _ := K
  obtain ⟨mixed, _, _, t0, a0, z0, v0, t3, a3, z3, v3, t4, a4, z4, v4, t22, a22, z22, v22, t25, a25, z25, v25, t70, a70, z70, v70, t77, a77, z77, v77⟩ := id L
  obtain ⟨_, _, FG⟩ := L.f50
  have few := K.few
  have e57 : ∀ args w, (callFunc (ρ.f 57) args).run P w = .ok (.enter (ρ.f 57) args) w := L.f57.enters rfl
  have eg := K.eg
  have KK : Aside _ := K
  clear K
  go_enter FG, SlBodyF.n50_ntmps ρ
  obtain ⟨a1, b1, s1, h1⟩ : ∃ x y z, order2 (ltOf cf) d a b s = (x, y, z) := ⟨_, _, _, rfl⟩
  obtain ⟨a2, b2, s2, h2⟩ : ∃ x y z, order2 (ltOf cf) d b1 m s1 = (x, y, z) := ⟨_, _, _, rfl⟩
  obtain ⟨a3, b3, s3, h3⟩ : ∃ x y z, order2 (ltOf cf) d a1 a2 s2 = (x, y, z) := ⟨_, _, _, rfl⟩
  have HV : Hid (median (ltOf cf) d a b m s = (b3, s3)) := by show _ = _; unfold median; simp only [h1, h2, h3]
  have m1 := order2_mem (ltOf cf) d a b s
  have m2 := order2_mem (ltOf cf) d b1 m s1
  have n1 := order2_count (ltOf cf) d a b s
  have n2 := order2_count (ltOf cf) d b1 m s1
  simp only [h1] at m1 n1
  simp only [h2] at m2 n2
  have c1 := fun W (Q : Aside (CntK enc k w0 blk off d c s W)) => sOrder2_ (P := P) (ρ := ρ) { L with } aE zE KM.out cap a b c s d W hd Q (by omega) ha hb
  have c2 := fun W (Q : Aside (CntK enc k w0 blk off d c s1 W)) => sOrder2_ (P := P) (ρ := ρ) { L with } aE zE KM.out cap b1 m c s1 d W hd Q (by omega) (by omega) hm
  have c3 := fun W (Q : Aside (CntK enc k w0 blk off d c s2 W)) => sOrder2_ (P := P) (ρ := ρ) { L with } aE zE KM.out cap a1 a2 c s2 d W hd Q (by omega) (by omega) (by omega)
  simp only [h1] at c1
  simp only [h2] at c2
  simp only [h3] at c3
  have k1 := c1 _ C
  have C1h := Lib.hid c2
  have C2h := Lib.hid c3
  clear h1 h2 h3 m1 m2 n1 n2 c1 c2 c3 C
  go_upto_region 2 with (go_at_fn (ρ.f 57); refine k1.mono ?_; rintro e w1 ⟨rfl, Q1⟩)
  have k2 := C1h.out _ Q1
  clear k1 Q1 C1h
  go_upto_region 3 with (go_at_fn (ρ.f 57); refine k2.mono ?_; rintro e w2 ⟨rfl, Q2⟩)
  have k3 := C2h.out _ Q2
  clear k2 Q2 C2h
  go_wp2_with (go_at_fn (ρ.f 57); refine k3.mono ?_; rintro e w3 ⟨rfl, Q3⟩)
  go_ret
  rw [HV.out]
  exact ⟨rfl, Q3⟩
set_option maxHeartbeats 4000000 in
set_option maxRecDepth 1000000 in
theorem sAdjacent_ (L : SlLaysF0.n49 P ρ) (aE : ∀ w, (isAgg (ρ.t 24)).run P w = .ok true w) (zE : ∀ w, (Go.sizeOf (ρ.t 24)).run P w = .ok k w) (K : Srt P g v enc k cf blk off N d0 w0) (cap a : Nat) (c s : Nat) (d : Array α) (w : World) (hd : d.size = N) (C : Aside (CntK enc k w0 blk off d c s w)) (hs : s ≤ 900) (ha : 0 < a) (hb : a + 1 < N) :
    Calls P (ρ.f 49) #[.slice (some ⟨blk, off, none⟩) N cap, .int .i64 a, .pointer (some ⟨c, 0, none⟩), .func (.func g) #[v] #[]] w fun e w' => e = .returned (.int .i64 ((medianAdjacent (ltOf cf) d a s).1 : Nat)) ∧ Aside (CntK enc k w0 blk off d c (medianAdjacent (ltOf cf) d a s).2 w') := by
  have KM : Aside _ := K
  obtain ⟨mixed, _, _, _, t0, a0, z0, v0, t3, a3, z3, v3, t4, a4, z4, v4, t22, a22, z22, v22, t25, a25, z25, v25, t70, a70, z70, v70, t77, a77, z77, v77⟩ := id L
  obtain ⟨_, _, FG⟩ := L.f49
  have few := K.few
  have e50 : ∀ args w, (callFunc (ρ.f 50) args).run P w = .ok (.enter (ρ.f 50) args) w := L.f50.enters rfl
  have eg := K.eg
  have KK : Aside _ := K
  clear K
  go_enter FG, SlBodyF.n49_ntmps ρ
  obtain ⟨j, rfl⟩ : ∃ j, a = j + 1 := ⟨a - 1, by omega⟩
  have k1 := sMedian_ (P := P) (ρ := ρ) { L with } aE zE KM.out cap j (j + 1) (j + 2) c s d w hd C hs (by omega) (by omega) (by omega)
  have ej : ((j + 2 : Nat) : Int) = (j : Int) + 1 + 1 := by omega
  rw [ej] at k1
  have r1 : IntKind.i64.wrap ((j : Int) + 1 + 1) = (j : Int) + 1 + 1 := KK.out.wr _ (by omega) (by omega)
  have HV : Hid (medianAdjacent (ltOf cf) d (j + 1) s = median (ltOf cf) d j (j + 1) (j + 2) s) := rfl
  clear C
  generalize median (ltOf cf) d j (j + 1) (j + 2) s = mm at k1 HV
  go_wp2_with (go_at_fn (ρ.f 50); refine k1.mono ?_; rintro e w1 ⟨rfl, Q1⟩)
  go_ret
  rw [HV.out]
  exact ⟨rfl, Q1⟩
set_option maxHeartbeats 8000000 in
set_option maxRecDepth 1000000 in
theorem sPivot_ (L : SlLaysF0.n23 P ρ) (aE : ∀ w, (isAgg (ρ.t 24)).run P w = .ok true w) (zE : ∀ w, (Go.sizeOf (ρ.t 24)).run P w = .ok k w) (K : Srt P g v enc k cf blk off N d0 w0) (cap a b : Nat) (d : Array α) (w : World) (hd : d.size = N) (S : Aside (SWK enc k w0 blk off d w)) (hab : 12 < b - a) (hb : b ≤ N) :
    Calls P (ρ.f 23) #[.slice (some ⟨blk, off, none⟩) N cap, .int .i64 a, .int .i64 b, .func (.func g) #[v] #[]] w fun e w' => e = .returned (.tuple #[.int .i64 ((choosePivot (ltOf cf) d a b).1 : Nat), .int .i64 (hintCode (choosePivot (ltOf cf) d a b).2)]) ∧ Aside (SWK enc k w0 blk off d w') := by
  have KM : Aside _ := K
  obtain ⟨mixed, _, _, _, _, t0, a0, z0, v0, t3, a3, z3, v3, t4, a4, z4, v4, t22, a22, z22, v22, t25, a25, z25, v25, t45, a45, z45, v45, t70, a70, z70, v70, t77, a77, z77, v77⟩ := id L
  obtain ⟨_, _, FG⟩ := L.f23
  have few := K.few
  have e49 : ∀ args w, (callFunc (ρ.f 49) args).run P w = .ok (.enter (ρ.f 49) args) w := L.f49.enters rfl
  have e50 : ∀ args w, (callFunc (ρ.f 50) args).run P w = .ok (.enter (ρ.f 50) args) w := L.f50.enters rfl
  have eg := K.eg
  have KK : Aside _ := K
  clear K
  go_enter FG, SlBodyF.n23_ntmps ρ
  obtain ⟨l4, hl4⟩ : ∃ x, x = (b - a) / 4 := ⟨_, rfl⟩
  obtain ⟨i, hi⟩ : ∃ x, x = a + l4 := ⟨_, rfl⟩
  obtain ⟨j, hj⟩ : ∃ x, x = a + l4 * 2 := ⟨_, rfl⟩
  obtain ⟨m, hm⟩ : ∃ x, x = a + l4 * 3 := ⟨_, rfl⟩
  have q1 : ((b : Int) - (a : Int)).tdiv 4 = (l4 : Int) := by rw [show (b : Int) - (a : Int) = ((b - a : Nat) : Int) by omega, hl4]; rfl
  have q2 : (a : Int) + (l4 : Int) = (i : Int) := by omega
  have q3 : (a : Int) + (l4 : Int) * 2 = (j : Int) := by omega
  have q4 : (a : Int) + (l4 : Int) * 3 = (m : Int) := by omega
  have hl3 : 3 ≤ l4 := by omega
  have i0 : 0 < i := by omega
  have i1 : m + 1 < N := by omega
  have i2 : i < j := by omega
  have i3 : j < m := by omega
  have j0 : 0 < j := by omega
  have m0 : 0 < m := by omega
  have w1 : IntKind.i64.wrap ((b : Int) - (a : Int)) = (b : Int) - (a : Int) := KK.out.wr _ (by omega) (by omega)
  have w2 : IntKind.i64.wrap ((l4 : Int)) = (l4 : Int) := KK.out.wr _ (by omega) (by omega)
  have w3 : IntKind.i64.wrap ((l4 : Int) * 2) = (l4 : Int) * 2 := KK.out.wr _ (by omega) (by omega)
  have w4 : IntKind.i64.wrap ((l4 : Int) * 3) = (l4 : Int) * 3 := KK.out.wr _ (by omega) (by omega)
  have w5 : IntKind.i64.wrap (i : Int) = (i : Int) := KK.out.wr _ (by omega) (by omega)
  have w6 : IntKind.i64.wrap (j : Int) = (j : Int) := KK.out.wr _ (by omega) (by omega)
  have w7 : IntKind.i64.wrap (m : Int) = (m : Int) := KK.out.wr _ (by omega) (by omega)
  have z8 : decide ((8 : Int) ≤ (b : Int) - (a : Int)) = true := decide_eq_true (by omega)
  have z8' : (8 : Int) ≤ (b : Int) - (a : Int) := by omega
  have HR : Hid (rawPivot (ltOf cf) d a b = if b - a ≥ 50 then median (ltOf cf) d (medianAdjacent (ltOf cf) d i 0).1 (medianAdjacent (ltOf cf) d j (medianAdjacent (ltOf cf) d i 0).2).1 (medianAdjacent (ltOf cf) d m (medianAdjacent (ltOf cf) d j (medianAdjacent (ltOf cf) d i 0).2).2).1 (medianAdjacent (ltOf cf) d m (medianAdjacent (ltOf cf) d j (medianAdjacent (ltOf cf) d i 0).2).2).2 else median (ltOf cf) d i j m 0) := by
    show _ = _
    unfold rawPivot
    rw [if_pos (by omega), ← hl4, Nat.mul_one, ← hi, ← hj, ← hm]
  clear hl4 hi hj hm
  have C0 : Aside (CntK enc k w0 blk off d w.heap.size 0 (w.alloc (.cells #[.int .i64 0] (ρ.t 3)))) := CntK.start S.out (ρ.t 3)
  go_upto_if 34 with fail
  generalize w.alloc (.cells #[.int .i64 0] (ρ.t 3)) = wa at C0 ⊢
  generalize w.heap.size = c at C0 ⊢
  clear S q1 q2 q3 q4 w1 w2 w3 w4
  by_cases h50 : 50 ≤ b - a
  · have z5 : decide ((50 : Int) ≤ (b : Int) - (a : Int)) = true := decide_eq_true (by omega)
    have z5' : (50 : Int) ≤ (b : Int) - (a : Int) := by omega
    obtain ⟨pi, si, h1⟩ : ∃ x y, medianAdjacent (ltOf cf) d i 0 = (x, y) := ⟨_, _, rfl⟩
    obtain ⟨pj, sj, h2⟩ : ∃ x y, medianAdjacent (ltOf cf) d j si = (x, y) := ⟨_, _, rfl⟩
    obtain ⟨pm, sm, h3⟩ : ∃ x y, medianAdjacent (ltOf cf) d m sj = (x, y) := ⟨_, _, rfl⟩
    obtain ⟨q, t, h4⟩ : ∃ x y, median (ltOf cf) d pi pj pm sm = (x, y) := ⟨_, _, rfl⟩
    have HR := Lib.hid (HR.out.trans (if_pos h50))
    have HR : Hid (rawPivot (ltOf cf) d a b = (q, t)) := by have h := HR.out; simp only [h1, h2, h3, h4] at h; exact h
    have m1 := medianAdjacent_mem (ltOf cf) d i 0
    have m2 := medianAdjacent_mem (ltOf cf) d j si
    have m3 := medianAdjacent_mem (ltOf cf) d m sj
    have n1 := medianAdjacent_count (ltOf cf) d i 0
    have n2 := medianAdjacent_count (ltOf cf) d j si
    have n3 := medianAdjacent_count (ltOf cf) d m sj
    simp only [h1] at m1 n1
    simp only [h2] at m2 n2
    simp only [h3] at m3 n3
    have c1 := fun W (Q : Aside (CntK enc k w0 blk off d c 0 W)) => sAdjacent_ (P := P) (ρ := ρ) { L with } aE zE KM.out cap i c 0 d W hd Q (by omega) i0 (by omega)
    have c2 := fun W (Q : Aside (CntK enc k w0 blk off d c si W)) => sAdjacent_ (P := P) (ρ := ρ) { L with } aE zE KM.out cap j c si d W hd Q (by omega) j0 (by omega)
    have c3 := fun W (Q : Aside (CntK enc k w0 blk off d c sj W)) => sAdjacent_ (P := P) (ρ := ρ) { L with } aE zE KM.out cap m c sj d W hd Q (by omega) m0 (by omega)
    have c4 := fun W (Q : Aside (CntK enc k w0 blk off d c sm W)) => sMedian_ (P := P) (ρ := ρ) { L with } aE zE KM.out cap pi pj pm c sm d W hd Q (by omega) (by omega) (by omega) (by omega)
    simp only [h1] at c1
    simp only [h2] at c2
    simp only [h3] at c3
    simp only [h4] at c4
    have k1 := c1 _ C0
    have H2 := Lib.hid c2
    have H3 := Lib.hid c3
    have H4 := Lib.hid c4
    clear h1 h2 h3 h4 m1 m2 m3 n1 n2 n3 c1 c2 c3 c4 C0 h50
    go_upto_region 9 with (go_at_fn (ρ.f 49); refine k1.mono ?_; rintro e w1 ⟨rfl, Q1⟩)
    have k2 := H2.out _ Q1
    clear k1 Q1 H2
    go_upto_region 10 with (go_at_fn (ρ.f 49); refine k2.mono ?_; rintro e w2 ⟨rfl, Q2⟩)
    have k3 := H3.out _ Q2
    clear k2 Q2 H3
    go_upto_region 11 with (go_at_fn (ρ.f 49); refine k3.mono ?_; rintro e w3 ⟨rfl, Q3⟩)
    have k4 := H4.out _ Q3
    clear k3 Q3 H4
    go_upto_region 12 with (go_at_fn (ρ.f 50); refine k4.mono ?_; rintro e w4 ⟨rfl, Q4⟩)
    clear k4
    have k1 : w4.cell? ⟨c, 0, none⟩ = some (.int .i64 (t : Int)) := Q4.out.2.1
    have SS : Aside (SWK enc k w0 blk off d w4) := Q4.out.1
    have HV : Hid (choosePivot (ltOf cf) d a b = (q, hintOf t)) := by show _ = _; rw [choosePivot_eq, HR.out]
    clear Q4 HR
    by_cases t0 : t = 0
    · subst t0
      go_wp2
      go_ret2
      rw [HV.out]
      exact ⟨rfl, SS⟩
    · have tz : ¬ (t : Int) = 0 := by omega
      have tz2 : ((t : Int) == 0) = false := by simpa using t0
      by_cases t12 : t = 12
      · subst t12
        go_wp2
        go_ret2
        rw [HV.out]
        exact ⟨rfl, SS⟩
      · have ty : ¬ (t : Int) = 12 := by omega
        have ty2 : ((t : Int) == 12) = false := by rw [beq_eq_false_iff_ne]; omega
        go_wp2
        go_ret2
        rw [HV.out]
        unfold hintOf
        rw [if_neg t0, if_neg t12]
        exact ⟨rfl, SS⟩
  · have z5 : decide ((50 : Int) ≤ (b : Int) - (a : Int)) = false := decide_eq_false (by omega)
    have z5' : ¬ (50 : Int) ≤ (b : Int) - (a : Int) := by omega
    obtain ⟨q, t, h4⟩ : ∃ x y, median (ltOf cf) d i j m 0 = (x, y) := ⟨_, _, rfl⟩
    have HR := Lib.hid (HR.out.trans (if_neg h50))
    have HR : Hid (rawPivot (ltOf cf) d a b = (q, t)) := HR.out.trans h4
    have k4 := sMedian_ (P := P) (ρ := ρ) { L with } aE zE KM.out cap i j m c 0 d wa hd C0 (by omega) (by omega) (by omega) (by omega)
    rw [h4] at k4
    clear h4 C0 h50
    go_upto_region 12 with (go_at_fn (ρ.f 50); refine k4.mono ?_; rintro e w4 ⟨rfl, Q4⟩)
    clear k4
    have k1 : w4.cell? ⟨c, 0, none⟩ = some (.int .i64 (t : Int)) := Q4.out.2.1
    have SS : Aside (SWK enc k w0 blk off d w4) := Q4.out.1
    have HV : Hid (choosePivot (ltOf cf) d a b = (q, hintOf t)) := by show _ = _; rw [choosePivot_eq, HR.out]
    clear Q4 HR
    by_cases t0 : t = 0
    · subst t0
      go_wp2
      go_ret2
      rw [HV.out]
      exact ⟨rfl, SS⟩
    · have tz : ¬ (t : Int) = 0 := by omega
      have tz2 : ((t : Int) == 0) = false := by simpa using t0
      by_cases t12 : t = 12
      · subst t12
        go_wp2
        go_ret2
        rw [HV.out]
        exact ⟨rfl, SS⟩
      · have ty : ¬ (t : Int) = 12 := by omega
        have ty2 : ((t : Int) == 12) = false := by rw [beq_eq_false_iff_ne]; omega
        go_wp2
        go_ret2
        rw [HV.out]
        unfold hintOf
        rw [if_neg t0, if_neg t12]
        exact ⟨rfl, SS⟩
end
end Go.Proofs.Ytmephmjlajaopaa
