/- Texts of this proof, together: PoVt, PoVb, PoVx. -/
import Derived.Test.YtbbadpidolfleaaPoU
import Derived.Test.YtbbadpidolfleaaVi
namespace Go.Proofs.Ytbbadpidolfleaa
set_option linter.unusedVariables false
set_option maxRecDepth 100000
set_option linter.unusedSimpArgs false
open Go.ChangeShapes Go.WideShapes Go.ChangeAt Go.RowKit Go.PlainAid
attribute [local go_sem ↓] Go.wp_at_zero Go.wp_at_succ
set_option maxHeartbeats 8000000 in
theorem do0_ (K : PortsOk) {w0 w : World} {S T : Nat → Prop} {p q : Nat} {X : Po} {n : Nat} (x : Ac) (hx : AOk x) (hk : x.kd % 9 < 2 ∨ x.kd % 9 = 8) (h : Pair K.toObjP poR w0 w S T p q X X) (few : X.Few n) (hn : n + 2 ≤ 1000) :
    Calls Try.prog 12 #[.agg #[.int .u8 x.kd, .int .u8 x.pr, .int .u8 x.inn, .int .u8 x.out, .int .u8 x.sp, .int .u8 x.w.pr, .int .u32 x.w.ii, .int .u16 x.w.ip, .int .u32 x.w.oi, .int .u16 x.w.fr, .int .u16 x.w.to, .int .u16 x.w.dr, .int .u32 x.fi, .int .u16 x.fp], .pointer (some ⟨p, 0, none⟩), .pointer (some ⟨q, 0, none⟩)] w fun e w' => e = .returned (.bool true) ∧ ∃ S' T' X', Pair K.toObjP poR w0 w' S' T' p q X' X' ∧ X'.Few (n + 2) := by
  have HX := Lib.hid hx
  have HF := Lib.hid few
  have HN := Lib.hid hn
  obtain ⟨m1, m2, _, _, m5, m6⟩ := byte_mod hx.kd (m := 9) (by decide)
  have BA : Below w.heap.size w (w.alloc (.cells #[.int .u8 x.kd, .int .u8 x.pr, .int .u8 x.inn, .int .u8 x.out, .int .u8 x.sp, .int .u8 x.w.pr, .int .u32 x.w.ii, .int .u16 x.w.ip, .int .u32 x.w.oi, .int .u16 x.w.fr, .int .u16 x.w.to, .int .u16 x.w.dr, .int .u32 x.fi, .int .u16 x.fp] 38)) := (Below.refl _ _).alloc (Nat.le_refl _) _
  have P1 := h.on BA
  have A1 := AcB.made w x 38
  have sa : ¬ S w.heap.size := fun e => Nat.lt_irrefl _ (K.lt h.fst _ e)
  have ta : ¬ T w.heap.size := fun e => Nat.lt_irrefl _ (poR.lt h.snd _ e)
  have ks := fun X => small_ x hx X
  generalize hkk : x.kd % 9 = kk at hk m1 m2 m5 m6
  have t2 : (kk == 2) = false := by rw [beq_eq_false_iff_ne]; omega
  have t3 : (kk == 3) = false := by rw [beq_eq_false_iff_ne]; omega
  have t4 : (kk == 4) = false := by rw [beq_eq_false_iff_ne]; omega
  have t5 : (kk == 5) = false := by rw [beq_eq_false_iff_ne]; omega
  have t6 : (kk == 6) = false := by rw [beq_eq_false_iff_ne]; omega
  have t7 : (kk == 7) = false := by rw [beq_eq_false_iff_ne]; omega
  clear hk m6
  clear h few hn hx BA hkk
  go_enter Try.func12, Try.ntmps12
  go_upto_region 1 with fail
  generalize w.alloc (.cells #[.int .u8 x.kd, .int .u8 x.pr, .int .u8 x.inn, .int .u8 x.out, .int .u8 x.sp, .int .u8 x.w.pr, .int .u32 x.w.ii, .int .u16 x.w.ip, .int .u32 x.w.oi, .int .u16 x.w.fr, .int .u16 x.w.to, .int .u16 x.w.dr, .int .u32 x.fi, .int .u16 x.fp] 38) = u at P1 A1 ⊢
  generalize w.heap.size = a at A1 sa ta ⊢
  have H1 := Lib.hid (And.intro P1 (And.intro A1 (And.intro sa ta)))
  obtain ⟨_, c0, c1, c2, c3, c4, c5, c6, c7, c8, c9, c10, c11, c12, c13⟩ := id A1
  clear P1 A1 sa ta
  go_upto_region 2 with (go_at_call 27; refine (ks _).mono ?_; rintro e w2 ⟨rfl, b2⟩)
  have P2 := H1.out.1.on b2
  have b3 : Below w2.heap.size w2 (w2.alloc (.cells #[.int .u8 x.small.pr, .int .u32 x.small.ii, .int .u16 x.small.ip, .int .u32 x.small.oi, .int .u16 x.small.fr, .int .u16 x.small.to, .int .u16 x.small.dr] 36)) := (Below.refl _ _).alloc (Nat.le_refl _) _
  have PH0 : DoS K w0 (w2.alloc (.cells #[.int .u8 x.small.pr, .int .u32 x.small.ii, .int .u16 x.small.ip, .int .u32 x.small.oi, .int .u16 x.small.fr, .int .u16 x.small.to, .int .u16 x.small.dr] 36)) S T p q X X a w2.heap.size x x.small := ⟨P2.on b3, (H1.out.2.1.on b2).on b3, WiB.made w2 x.small 36, H1.out.2.2.1, H1.out.2.2.2, fun e => Nat.lt_irrefl _ (K.lt P2.fst _ e), fun e => Nat.lt_irrefl _ (poR.lt P2.snd _ e)⟩
  have bf : (∀ j, (w2.alloc (.cells #[.int .u8 x.small.pr, .int .u32 x.small.ii, .int .u16 x.small.ip, .int .u32 x.small.oi, .int .u16 x.small.fr, .int .u16 x.small.to, .int .u16 x.small.dr] 36)).frozen? ⟨w2.heap.size, j, none⟩ = false) ∧ a ≠ w2.heap.size ∧ w0.heap.size ≤ w2.heap.size := ⟨fun j => by simp [go_sem], fun e => Nat.lt_irrefl _ (e ▸ (H1.out.2.1.on b2).lt), P2.below.size⟩
  generalize w2.alloc (.cells #[.int .u8 x.small.pr, .int .u32 x.small.ii, .int .u16 x.small.ip, .int .u32 x.small.oi, .int .u16 x.small.fr, .int .u16 x.small.to, .int .u16 x.small.dr] 36) = w3 at PH0 bf ⊢
  generalize w2.heap.size = b at PH0 bf ⊢
  have HBF := Lib.hid bf
  clear bf b2 b3 P2 H1 ks c0 c1 c2 c3 c4 c5 c6 c7 c8 c9 c10 c11 c12 c13
  obtain ⟨_, c0, c1, c2, c3, c4, c5, c6, c7, c8, c9, c10, c11, c12, c13⟩ := id PH0.ac
  obtain ⟨_, d0, d1, d2, d3, d4, d5, d6⟩ := id PH0.wi
  have PH := Lib.hid PH0
  clear PH0
  go_upto_region 17 with fail
  clear t2 t3 t4 t5 t6 t7 m1 m2 c0 c1 c2 c3 c4 c5 c6 c7 c8 c9 c10 c11 c12 c13 d0 d1 d2 d3 d4 d5 d6
  obtain ⟨_, d0, d1, d2, d3, d4, d5, d6⟩ := id PH.out.wi
  have k1 := K.takes p S X (x.small) w3 PH.out.pr.fst (HF.out.mono (by have := HN.out; omega)) (HX.out.small)
  have F2 := HF.out.take (x.small)
  generalize hY : X.take (x.small) = Y at k1 F2
  obtain ⟨⟨⟨r1, r2⟩, r3⟩, X2⟩ := Y
  simp only [] at k1 F2
  have HY := Lib.hid hY
  have HF2 := Lib.hid F2
  clear hY F2
  go_upto_region 18 with (go_at_call 11; refine k1.mono ?_; rintro e w6 ⟨rfl, S6, R6, f6, x6⟩)
  have P6 := PH.out.one R6 f6 x6
  have b7 : Below w6.heap.size w6 (w6.alloc (.cells #[.int .u32 r1, .int .u16 r2] 34)) := (Below.refl _ _).alloc (Nat.le_refl _) _
  have P7 := P6.on b7
  have E7 := EpB.made w6 r1 r2 34
  have n7 : ¬ S6 w6.heap.size ∧ ¬ T w6.heap.size := ⟨fun e => Nat.lt_irrefl _ (K.lt P6.pr.fst _ e), fun e => Nat.lt_irrefl _ (poR.lt P6.pr.snd _ e)⟩
  generalize w6.alloc (.cells #[.int .u32 r1, .int .u16 r2] 34) = w7 at P7 E7 ⊢
  generalize w6.heap.size = be at E7 n7 ⊢
  have H7 := Lib.hid (And.intro P7 (And.intro E7 n7))
  clear k1 R6 f6 x6 P6 b7 PH d0 d1 d2 d3 d4 d5 d6 E7 n7
  obtain ⟨_, d0, d1, d2, d3, d4, d5, d6⟩ := id P7.wi
  clear P7
  go_wp2_with fail
  clear d0 d1 d2 d3 d4 d5 d6
  refine (doc_ (x.small) _).mono ?_; rintro e w8 ⟨rfl, b8⟩
  have P8 := H7.out.1.on b8
  have E8 := H7.out.2.1.on b8
  have k2 := rtake16_ T q X (x.small) w8 P8.pr.snd (HF.out.mono (by have := HN.out; omega)) (HX.out.small)
  rw [HY.out] at k2
  simp only [] at k2
  have H8 := Lib.hid (And.intro P8 (And.intro E8 H7.out.2.2))
  clear P8 E8 b8 H7
  go_upto_region 19 with (go_at_call 40; refine k2.mono ?_; rintro e w9 ⟨rfl, T9, R9, f9, x9⟩)
  have P9 := H8.out.1.two R9 f9 x9
  have E9 := H8.out.2.1.by x9 H8.out.2.2.2
  have bA : Below w9.heap.size w9 (w9.alloc (.cells #[.int .u32 r1, .int .u16 r2] 34)) := (Below.refl _ _).alloc (Nat.le_refl _) _
  have PA := Lib.hid (P9.on bA)
  have EA := E9.on bA
  have GA := EpB.made w9 r1 r2 34
  generalize w9.alloc (.cells #[.int .u32 r1, .int .u16 r2] 34) = wA at PA EA GA ⊢
  generalize w9.heap.size = bg at GA ⊢
  obtain ⟨_, e0, e1, _⟩ := id EA
  obtain ⟨_, g0, g1, _⟩ := id GA
  clear k2 R9 f9 x9 P9 E9 bA H8 EA GA
  go_wp2
  go_ret
  exact ⟨by simp, _, _, _, PA.out.pr, HF2.out.mono (by omega)⟩
end Go.Proofs.Ytbbadpidolfleaa

namespace Go.Proofs.Ytbbadpidolfleaa
set_option linter.unusedVariables false
set_option maxRecDepth 100000
set_option linter.unusedSimpArgs false
open Go.ChangeShapes Go.WideShapes Go.ChangeAt Go.RowKit Go.PlainAid
attribute [local go_sem ↓] Go.wp_at_zero Go.wp_at_succ
set_option maxHeartbeats 8000000 in
theorem do6_ (K : PortsOk) {w0 w : World} {S T : Nat → Prop} {p q : Nat} {X : Po} {n : Nat} (x : Ac) (hx : AOk x) (hk : x.kd % 9 = 6) (h : Pair K.toObjP poR w0 w S T p q X X) (few : X.Few n) (hn : n + 2 ≤ 1000) :
    Calls Try.prog 12 #[.agg #[.int .u8 x.kd, .int .u8 x.pr, .int .u8 x.inn, .int .u8 x.out, .int .u8 x.sp, .int .u8 x.w.pr, .int .u32 x.w.ii, .int .u16 x.w.ip, .int .u32 x.w.oi, .int .u16 x.w.fr, .int .u16 x.w.to, .int .u16 x.w.dr, .int .u32 x.fi, .int .u16 x.fp], .pointer (some ⟨p, 0, none⟩), .pointer (some ⟨q, 0, none⟩)] w fun e w' => e = .returned (.bool true) ∧ ∃ S' T' X', Pair K.toObjP poR w0 w' S' T' p q X' X' ∧ X'.Few (n + 2) := by
  have HX := Lib.hid hx
  have HF := Lib.hid few
  have HN := Lib.hid hn
  obtain ⟨m1, m2, _, _, m5, m6⟩ := byte_mod hx.kd (m := 9) (by decide)
  have BA : Below w.heap.size w (w.alloc (.cells #[.int .u8 x.kd, .int .u8 x.pr, .int .u8 x.inn, .int .u8 x.out, .int .u8 x.sp, .int .u8 x.w.pr, .int .u32 x.w.ii, .int .u16 x.w.ip, .int .u32 x.w.oi, .int .u16 x.w.fr, .int .u16 x.w.to, .int .u16 x.w.dr, .int .u32 x.fi, .int .u16 x.fp] 38)) := (Below.refl _ _).alloc (Nat.le_refl _) _
  have P1 := h.on BA
  have A1 := AcB.made w x 38
  have sa : ¬ S w.heap.size := fun e => Nat.lt_irrefl _ (K.lt h.fst _ e)
  have ta : ¬ T w.heap.size := fun e => Nat.lt_irrefl _ (poR.lt h.snd _ e)
  have ks := fun X => small_ x hx X
  generalize hkk : x.kd % 9 = kk at hk m1 m2 m5 m6
  subst hk
  clear h few hn hx BA hkk
  go_enter Try.func12, Try.ntmps12
  go_upto_region 1 with fail
  generalize w.alloc (.cells #[.int .u8 x.kd, .int .u8 x.pr, .int .u8 x.inn, .int .u8 x.out, .int .u8 x.sp, .int .u8 x.w.pr, .int .u32 x.w.ii, .int .u16 x.w.ip, .int .u32 x.w.oi, .int .u16 x.w.fr, .int .u16 x.w.to, .int .u16 x.w.dr, .int .u32 x.fi, .int .u16 x.fp] 38) = u at P1 A1 ⊢
  generalize w.heap.size = a at A1 sa ta ⊢
  have H1 := Lib.hid (And.intro P1 (And.intro A1 (And.intro sa ta)))
  obtain ⟨_, c0, c1, c2, c3, c4, c5, c6, c7, c8, c9, c10, c11, c12, c13⟩ := id A1
  clear P1 A1 sa ta
  go_upto_region 2 with (go_at_call 27; refine (ks _).mono ?_; rintro e w2 ⟨rfl, b2⟩)
  have P2 := H1.out.1.on b2
  have b3 : Below w2.heap.size w2 (w2.alloc (.cells #[.int .u8 x.small.pr, .int .u32 x.small.ii, .int .u16 x.small.ip, .int .u32 x.small.oi, .int .u16 x.small.fr, .int .u16 x.small.to, .int .u16 x.small.dr] 36)) := (Below.refl _ _).alloc (Nat.le_refl _) _
  have PH0 : DoS K w0 (w2.alloc (.cells #[.int .u8 x.small.pr, .int .u32 x.small.ii, .int .u16 x.small.ip, .int .u32 x.small.oi, .int .u16 x.small.fr, .int .u16 x.small.to, .int .u16 x.small.dr] 36)) S T p q X X a w2.heap.size x x.small := ⟨P2.on b3, (H1.out.2.1.on b2).on b3, WiB.made w2 x.small 36, H1.out.2.2.1, H1.out.2.2.2, fun e => Nat.lt_irrefl _ (K.lt P2.fst _ e), fun e => Nat.lt_irrefl _ (poR.lt P2.snd _ e)⟩
  have bf : (∀ j, (w2.alloc (.cells #[.int .u8 x.small.pr, .int .u32 x.small.ii, .int .u16 x.small.ip, .int .u32 x.small.oi, .int .u16 x.small.fr, .int .u16 x.small.to, .int .u16 x.small.dr] 36)).frozen? ⟨w2.heap.size, j, none⟩ = false) ∧ a ≠ w2.heap.size ∧ w0.heap.size ≤ w2.heap.size := ⟨fun j => by simp [go_sem], fun e => Nat.lt_irrefl _ (e ▸ (H1.out.2.1.on b2).lt), P2.below.size⟩
  generalize w2.alloc (.cells #[.int .u8 x.small.pr, .int .u32 x.small.ii, .int .u16 x.small.ip, .int .u32 x.small.oi, .int .u16 x.small.fr, .int .u16 x.small.to, .int .u16 x.small.dr] 36) = w3 at PH0 bf ⊢
  generalize w2.heap.size = b at PH0 bf ⊢
  have HBF := Lib.hid bf
  clear bf b2 b3 P2 H1 ks c0 c1 c2 c3 c4 c5 c6 c7 c8 c9 c10 c11 c12 c13
  obtain ⟨_, c0, c1, c2, c3, c4, c5, c6, c7, c8, c9, c10, c11, c12, c13⟩ := id PH0.ac
  obtain ⟨_, d0, d1, d2, d3, d4, d5, d6⟩ := id PH0.wi
  have PH := Lib.hid PH0
  clear PH0
  have bf := HBF.out.1
  go_upto_region 13 with fail
  refine wi_allF (v := x.w) PH.out.wi fun w4 hX bX fX => ?_
  have PH4 := PH.out.put hX bX HBF.out.2.1 HBF.out.2.2
  have bf4 : ∀ j, w4.frozen? ⟨b, j, none⟩ = false := fun j => (fX j).trans (HBF.out.1 j)
  clear PH c0 c1 c2 c3 c4 c5 c6 c7 c8 c9 c10 c11 c12 c13 d0 d1 d2 d3 d4 d5 d6 hX bX fX bf
  obtain ⟨_, d0, d1, d2, d3, d4, d5, d6⟩ := id PH4.wi
  obtain ⟨g1, g2, g3⟩ := big_wraps HX.out
  by_cases hc : 3000 < x.w.to - x.w.fr
  · obtain ⟨hv, g4⟩ := big_yes HX.out hc
    have g5 : decide (3000 < x.w.to - x.w.fr) = true := decide_eq_true hc
    have HV := Lib.hid hv
    have H4 := Lib.hid PH4
    clear hc hv PH4
    go_upto_region 17 with fail
    refine wi_to H4.out.wi fun w3 hX bX => ?_
    have P5 := H4.out.put hX bX HBF.out.2.1 HBF.out.2.2
    rw [← HV.out] at P5
    have PH := Lib.hid P5
    clear P5 hX bX H4 d0 d1 d2 d3 d4 d5 d6 g1 g2 g3 g4 g5 bf4
    obtain ⟨_, d0, d1, d2, d3, d4, d5, d6⟩ := id PH.out.wi
    have k1 := K.takes p S X (x.big) w3 PH.out.pr.fst (HF.out.mono (by have := HN.out; omega)) (HX.out.big)
    have F2 := HF.out.take (x.big)
    generalize hY : X.take (x.big) = Y at k1 F2
    obtain ⟨⟨⟨r1, r2⟩, r3⟩, X2⟩ := Y
    simp only [] at k1 F2
    have HY := Lib.hid hY
    have HF2 := Lib.hid F2
    clear hY F2
    go_upto_region 18 with (go_at_call 11; refine k1.mono ?_; rintro e w6 ⟨rfl, S6, R6, f6, x6⟩)
    have P6 := PH.out.one R6 f6 x6
    have b7 : Below w6.heap.size w6 (w6.alloc (.cells #[.int .u32 r1, .int .u16 r2] 34)) := (Below.refl _ _).alloc (Nat.le_refl _) _
    have P7 := P6.on b7
    have E7 := EpB.made w6 r1 r2 34
    have n7 : ¬ S6 w6.heap.size ∧ ¬ T w6.heap.size := ⟨fun e => Nat.lt_irrefl _ (K.lt P6.pr.fst _ e), fun e => Nat.lt_irrefl _ (poR.lt P6.pr.snd _ e)⟩
    generalize w6.alloc (.cells #[.int .u32 r1, .int .u16 r2] 34) = w7 at P7 E7 ⊢
    generalize w6.heap.size = be at E7 n7 ⊢
    have H7 := Lib.hid (And.intro P7 (And.intro E7 n7))
    clear k1 R6 f6 x6 P6 b7 PH d0 d1 d2 d3 d4 d5 d6 E7 n7
    obtain ⟨_, d0, d1, d2, d3, d4, d5, d6⟩ := id P7.wi
    clear P7
    go_wp2_with fail
    clear d0 d1 d2 d3 d4 d5 d6
    refine (doc_ (x.big) _).mono ?_; rintro e w8 ⟨rfl, b8⟩
    have P8 := H7.out.1.on b8
    have E8 := H7.out.2.1.on b8
    have k2 := rtake16_ T q X (x.big) w8 P8.pr.snd (HF.out.mono (by have := HN.out; omega)) (HX.out.big)
    rw [HY.out] at k2
    simp only [] at k2
    have H8 := Lib.hid (And.intro P8 (And.intro E8 H7.out.2.2))
    clear P8 E8 b8 H7
    go_upto_region 19 with (go_at_call 40; refine k2.mono ?_; rintro e w9 ⟨rfl, T9, R9, f9, x9⟩)
    have P9 := H8.out.1.two R9 f9 x9
    have E9 := H8.out.2.1.by x9 H8.out.2.2.2
    have bA : Below w9.heap.size w9 (w9.alloc (.cells #[.int .u32 r1, .int .u16 r2] 34)) := (Below.refl _ _).alloc (Nat.le_refl _) _
    have PA := Lib.hid (P9.on bA)
    have EA := E9.on bA
    have GA := EpB.made w9 r1 r2 34
    generalize w9.alloc (.cells #[.int .u32 r1, .int .u16 r2] 34) = wA at PA EA GA ⊢
    generalize w9.heap.size = bg at GA ⊢
    obtain ⟨_, e0, e1, _⟩ := id EA
    obtain ⟨_, g0, g1, _⟩ := id GA
    clear k2 R9 f9 x9 P9 E9 bA H8 EA GA
    go_wp2
    go_ret
    exact ⟨by simp, _, _, _, PA.out.pr, HF2.out.mono (by omega)⟩
  · have g5 : decide (3000 < x.w.to - x.w.fr) = false := decide_eq_false hc
    have hv : x.w = x.big := by unfold Ac.big; rw [if_neg hc]
    have H4 := Lib.hid PH4
    have HV := Lib.hid hv
    clear PH4 hc hv
    go_upto_region 17 with fail
    have P5 := H4.out
    rw [HV.out] at P5
    generalize w4 = w3 at P5 ⊢
    have PH := Lib.hid P5
    clear P5 H4 d0 d1 d2 d3 d4 d5 d6 g1 g2 g3 g5 bf4
    obtain ⟨_, d0, d1, d2, d3, d4, d5, d6⟩ := id PH.out.wi
    have k1 := K.takes p S X (x.big) w3 PH.out.pr.fst (HF.out.mono (by have := HN.out; omega)) (HX.out.big)
    have F2 := HF.out.take (x.big)
    generalize hY : X.take (x.big) = Y at k1 F2
    obtain ⟨⟨⟨r1, r2⟩, r3⟩, X2⟩ := Y
    simp only [] at k1 F2
    have HY := Lib.hid hY
    have HF2 := Lib.hid F2
    clear hY F2
    go_upto_region 18 with (go_at_call 11; refine k1.mono ?_; rintro e w6 ⟨rfl, S6, R6, f6, x6⟩)
    have P6 := PH.out.one R6 f6 x6
    have b7 : Below w6.heap.size w6 (w6.alloc (.cells #[.int .u32 r1, .int .u16 r2] 34)) := (Below.refl _ _).alloc (Nat.le_refl _) _
    have P7 := P6.on b7
    have E7 := EpB.made w6 r1 r2 34
    have n7 : ¬ S6 w6.heap.size ∧ ¬ T w6.heap.size := ⟨fun e => Nat.lt_irrefl _ (K.lt P6.pr.fst _ e), fun e => Nat.lt_irrefl _ (poR.lt P6.pr.snd _ e)⟩
    generalize w6.alloc (.cells #[.int .u32 r1, .int .u16 r2] 34) = w7 at P7 E7 ⊢
    generalize w6.heap.size = be at E7 n7 ⊢
    have H7 := Lib.hid (And.intro P7 (And.intro E7 n7))
    clear k1 R6 f6 x6 P6 b7 PH d0 d1 d2 d3 d4 d5 d6 E7 n7
    obtain ⟨_, d0, d1, d2, d3, d4, d5, d6⟩ := id P7.wi
    clear P7
    go_wp2_with fail
    clear d0 d1 d2 d3 d4 d5 d6
    refine (doc_ (x.big) _).mono ?_; rintro e w8 ⟨rfl, b8⟩
    have P8 := H7.out.1.on b8
    have E8 := H7.out.2.1.on b8
    have k2 := rtake16_ T q X (x.big) w8 P8.pr.snd (HF.out.mono (by have := HN.out; omega)) (HX.out.big)
    rw [HY.out] at k2
    simp only [] at k2
    have H8 := Lib.hid (And.intro P8 (And.intro E8 H7.out.2.2))
    clear P8 E8 b8 H7
    go_upto_region 19 with (go_at_call 40; refine k2.mono ?_; rintro e w9 ⟨rfl, T9, R9, f9, x9⟩)
    have P9 := H8.out.1.two R9 f9 x9
    have E9 := H8.out.2.1.by x9 H8.out.2.2.2
    have bA : Below w9.heap.size w9 (w9.alloc (.cells #[.int .u32 r1, .int .u16 r2] 34)) := (Below.refl _ _).alloc (Nat.le_refl _) _
    have PA := Lib.hid (P9.on bA)
    have EA := E9.on bA
    have GA := EpB.made w9 r1 r2 34
    generalize w9.alloc (.cells #[.int .u32 r1, .int .u16 r2] 34) = wA at PA EA GA ⊢
    generalize w9.heap.size = bg at GA ⊢
    obtain ⟨_, e0, e1, _⟩ := id EA
    obtain ⟨_, g0, g1, _⟩ := id GA
    clear k2 R9 f9 x9 P9 E9 bA H8 EA GA
    go_wp2
    go_ret
    exact ⟨by simp, _, _, _, PA.out.pr, HF2.out.mono (by omega)⟩
end Go.Proofs.Ytbbadpidolfleaa

namespace Go.Proofs.Ytbbadpidolfleaa
set_option linter.unusedVariables false
set_option maxRecDepth 100000
set_option linter.unusedSimpArgs false
open Go.ChangeShapes Go.WideShapes Go.ChangeAt Go.RowKit Go.PlainAid
attribute [local go_sem ↓] Go.wp_at_zero Go.wp_at_succ
set_option maxHeartbeats 8000000 in
theorem do7_ (K : PortsOk) {w0 w : World} {S T : Nat → Prop} {p q : Nat} {X : Po} {n : Nat} (x : Ac) (hx : AOk x) (hk : x.kd % 9 = 7) (h : Pair K.toObjP poR w0 w S T p q X X) (few : X.Few n) (hn : n + 2 ≤ 1000) :
    Calls Try.prog 12 #[.agg #[.int .u8 x.kd, .int .u8 x.pr, .int .u8 x.inn, .int .u8 x.out, .int .u8 x.sp, .int .u8 x.w.pr, .int .u32 x.w.ii, .int .u16 x.w.ip, .int .u32 x.w.oi, .int .u16 x.w.fr, .int .u16 x.w.to, .int .u16 x.w.dr, .int .u32 x.fi, .int .u16 x.fp], .pointer (some ⟨p, 0, none⟩), .pointer (some ⟨q, 0, none⟩)] w fun e w' => e = .returned (.bool true) ∧ ∃ S' T' X', Pair K.toObjP poR w0 w' S' T' p q X' X' ∧ X'.Few (n + 2) := by
  have HX := Lib.hid hx
  have HF := Lib.hid few
  have HN := Lib.hid hn
  obtain ⟨m1, m2, _, _, m5, m6⟩ := byte_mod hx.kd (m := 9) (by decide)
  have BA : Below w.heap.size w (w.alloc (.cells #[.int .u8 x.kd, .int .u8 x.pr, .int .u8 x.inn, .int .u8 x.out, .int .u8 x.sp, .int .u8 x.w.pr, .int .u32 x.w.ii, .int .u16 x.w.ip, .int .u32 x.w.oi, .int .u16 x.w.fr, .int .u16 x.w.to, .int .u16 x.w.dr, .int .u32 x.fi, .int .u16 x.fp] 38)) := (Below.refl _ _).alloc (Nat.le_refl _) _
  have P1 := h.on BA
  have A1 := AcB.made w x 38
  have sa : ¬ S w.heap.size := fun e => Nat.lt_irrefl _ (K.lt h.fst _ e)
  have ta : ¬ T w.heap.size := fun e => Nat.lt_irrefl _ (poR.lt h.snd _ e)
  have ks := fun X => small_ x hx X
  generalize hkk : x.kd % 9 = kk at hk m1 m2 m5 m6
  subst hk
  clear h few hn hx BA hkk
  go_enter Try.func12, Try.ntmps12
  go_upto_region 1 with fail
  generalize w.alloc (.cells #[.int .u8 x.kd, .int .u8 x.pr, .int .u8 x.inn, .int .u8 x.out, .int .u8 x.sp, .int .u8 x.w.pr, .int .u32 x.w.ii, .int .u16 x.w.ip, .int .u32 x.w.oi, .int .u16 x.w.fr, .int .u16 x.w.to, .int .u16 x.w.dr, .int .u32 x.fi, .int .u16 x.fp] 38) = u at P1 A1 ⊢
  generalize w.heap.size = a at A1 sa ta ⊢
  have H1 := Lib.hid (And.intro P1 (And.intro A1 (And.intro sa ta)))
  obtain ⟨_, c0, c1, c2, c3, c4, c5, c6, c7, c8, c9, c10, c11, c12, c13⟩ := id A1
  clear P1 A1 sa ta
  go_upto_region 2 with (go_at_call 27; refine (ks _).mono ?_; rintro e w2 ⟨rfl, b2⟩)
  have P2 := H1.out.1.on b2
  have b3 : Below w2.heap.size w2 (w2.alloc (.cells #[.int .u8 x.small.pr, .int .u32 x.small.ii, .int .u16 x.small.ip, .int .u32 x.small.oi, .int .u16 x.small.fr, .int .u16 x.small.to, .int .u16 x.small.dr] 36)) := (Below.refl _ _).alloc (Nat.le_refl _) _
  have PH0 : DoS K w0 (w2.alloc (.cells #[.int .u8 x.small.pr, .int .u32 x.small.ii, .int .u16 x.small.ip, .int .u32 x.small.oi, .int .u16 x.small.fr, .int .u16 x.small.to, .int .u16 x.small.dr] 36)) S T p q X X a w2.heap.size x x.small := ⟨P2.on b3, (H1.out.2.1.on b2).on b3, WiB.made w2 x.small 36, H1.out.2.2.1, H1.out.2.2.2, fun e => Nat.lt_irrefl _ (K.lt P2.fst _ e), fun e => Nat.lt_irrefl _ (poR.lt P2.snd _ e)⟩
  have bf : (∀ j, (w2.alloc (.cells #[.int .u8 x.small.pr, .int .u32 x.small.ii, .int .u16 x.small.ip, .int .u32 x.small.oi, .int .u16 x.small.fr, .int .u16 x.small.to, .int .u16 x.small.dr] 36)).frozen? ⟨w2.heap.size, j, none⟩ = false) ∧ a ≠ w2.heap.size ∧ w0.heap.size ≤ w2.heap.size := ⟨fun j => by simp [go_sem], fun e => Nat.lt_irrefl _ (e ▸ (H1.out.2.1.on b2).lt), P2.below.size⟩
  generalize w2.alloc (.cells #[.int .u8 x.small.pr, .int .u32 x.small.ii, .int .u16 x.small.ip, .int .u32 x.small.oi, .int .u16 x.small.fr, .int .u16 x.small.to, .int .u16 x.small.dr] 36) = w3 at PH0 bf ⊢
  generalize w2.heap.size = b at PH0 bf ⊢
  have HBF := Lib.hid bf
  clear bf b2 b3 P2 H1 ks c0 c1 c2 c3 c4 c5 c6 c7 c8 c9 c10 c11 c12 c13
  obtain ⟨_, c0, c1, c2, c3, c4, c5, c6, c7, c8, c9, c10, c11, c12, c13⟩ := id PH0.ac
  obtain ⟨_, d0, d1, d2, d3, d4, d5, d6⟩ := id PH0.wi
  have PH := Lib.hid PH0
  clear PH0
  go_upto_region 16 with fail
  clear c0 c1 c2 c3 c4 c5 c6 c7 c8 c9 c10 c11 c12 c13 d0 d1 d2 d3 d4 d5 d6 m1 m2
  refine wp_region_noPanic ?_
  refine wp_region_held_drew (S := (fun w' => AcB w' a x ∧ WiB w' b x.small)) (by kernel_rfl) ?_ (fun hHeld => ?_)
  · exact ⟨PH.out.ac.on (Below.refl _ _).drew, PH.out.wi.on (Below.refl _ _).drew⟩
  have P5 := PH.out.on (Below.refl w3.heap.size w3).drew
  generalize w3.drew = w5 at P5 hHeld ⊢
  clear PH
  refine wpAnyH_take (i := 0) (oi := _) (v := ?_) rfl (by kernel_rfl) (by kernel_rfl) (by kernel_rfl) (fun _ _ _ h => h) (Or.inl ⟨by kernel_rfl, ?_⟩) (by assumption) ?_
  rotate_left
  · intro w hSw
    clear hSw
    go_simp
    with_reducible rfl
  try simp only [List.getElem_toArray, List.getElem_cons_succ, List.getElem_cons_zero, Act.put, List.setIfInBounds_toArray, List.set_cons_zero, List.set_cons_succ]
  refine wpAnyH_take (i := 1) (oi := _) (v := ?_) rfl (by kernel_rfl) (by kernel_rfl) (by kernel_rfl) (fun _ _ _ h => h) (Or.inl ⟨by kernel_rfl, ?_⟩) (by assumption) ?_
  rotate_left
  · intro w hSw
    clear hSw
    go_simp
    with_reducible rfl
  try simp only [List.getElem_toArray, List.getElem_cons_succ, List.getElem_cons_zero, Act.put, List.setIfInBounds_toArray, List.set_cons_zero, List.set_cons_succ]
  refine wpAnyH_take (i := 2) (oi := _) (v := ?_) rfl (by kernel_rfl) (by kernel_rfl) (by kernel_rfl) (fun _ _ _ h => h) (Or.inl ⟨by kernel_rfl, ?_⟩) (by assumption) ?_
  rotate_left
  · intro w hSw
    clear hSw
    go_simp
    with_reducible rfl
  try simp only [List.getElem_toArray, List.getElem_cons_succ, List.getElem_cons_zero, Act.put, List.setIfInBounds_toArray, List.set_cons_zero, List.set_cons_succ]
  refine wpAnyH_take (i := 3) (oi := _) (v := ?_) rfl (by kernel_rfl) (by kernel_rfl) (by kernel_rfl) (fun _ _ _ h => h) (Or.inl ⟨by kernel_rfl, ?_⟩) (by assumption) ?_
  rotate_left
  · intro w hSw
    obtain ⟨⟨_, c0, c1, c2, c3, c4, c5, c6, c7, c8, c9, c10, c11, c12, c13⟩, _⟩ := hSw
    go_simp
    with_reducible rfl
  try simp only [List.getElem_toArray, List.getElem_cons_succ, List.getElem_cons_zero, Act.put, List.setIfInBounds_toArray, List.set_cons_zero, List.set_cons_succ]
  refine wpAnyH_take (i := 4) (oi := _) (v := ?_) rfl (by kernel_rfl) (by kernel_rfl) (by kernel_rfl) (fun _ _ _ h => h) (Or.inl ⟨by kernel_rfl, ?_⟩) (by assumption) ?_
  rotate_left
  · intro w hSw
    clear hSw
    go_simp
    with_reducible rfl
  try simp only [List.getElem_toArray, List.getElem_cons_succ, List.getElem_cons_zero, Act.put, List.setIfInBounds_toArray, List.set_cons_zero, List.set_cons_succ]
  refine wpAnyH_take (i := 5) (oi := _) (v := ?_) rfl (by kernel_rfl) (by kernel_rfl) (by kernel_rfl) (fun _ _ _ h => h) (Or.inl ⟨by kernel_rfl, ?_⟩) (by assumption) ?_
  rotate_left
  · intro w hSw
    clear hSw
    go_simp
    with_reducible rfl
  try simp only [List.getElem_toArray, List.getElem_cons_succ, List.getElem_cons_zero, Act.put, List.setIfInBounds_toArray, List.set_cons_zero, List.set_cons_succ]
  refine wpAnyH_take (i := 6) (oi := _) (v := ?_) rfl (by kernel_rfl) (by kernel_rfl) (by kernel_rfl) (fun _ _ _ h => h) (Or.inl ⟨by kernel_rfl, ?_⟩) (by assumption) ?_
  rotate_left
  · intro w hSw
    obtain ⟨⟨_, c0, c1, c2, c3, c4, c5, c6, c7, c8, c9, c10, c11, c12, c13⟩, _⟩ := hSw
    go_simp
    with_reducible rfl
  try simp only [List.getElem_toArray, List.getElem_cons_succ, List.getElem_cons_zero, Act.put, List.setIfInBounds_toArray, List.set_cons_zero, List.set_cons_succ]
  refine wpAnyH_take (i := 7) (oi := _) (v := ?_) rfl (by kernel_rfl) (by kernel_rfl) (by kernel_rfl) (fun _ _ _ h => h) (Or.inl ⟨by kernel_rfl, ?_⟩) (by assumption) ?_
  rotate_left
  · intro w hSw
    clear hSw
    go_simp
    with_reducible rfl
  try simp only [List.getElem_toArray, List.getElem_cons_succ, List.getElem_cons_zero, Act.put, List.setIfInBounds_toArray, List.set_cons_zero, List.set_cons_succ]
  refine wpAnyH_take (i := 8) (oi := _) (v := ?_) rfl (by kernel_rfl) (by kernel_rfl) (by kernel_rfl) (fun _ _ _ h => h) (Or.inl ⟨by kernel_rfl, ?_⟩) (by assumption) ?_
  rotate_left
  · intro w hSw
    obtain ⟨⟨_, c0, c1, c2, c3, c4, c5, c6, c7, c8, c9, c10, c11, c12, c13⟩, _⟩ := hSw
    go_simp
    with_reducible rfl
  try simp only [List.getElem_toArray, List.getElem_cons_succ, List.getElem_cons_zero, Act.put, List.setIfInBounds_toArray, List.set_cons_zero, List.set_cons_succ]
  refine wpAnyH_take (i := 10) (oi := _) (v := ?_) rfl (by kernel_rfl) (by kernel_rfl) (by kernel_rfl) (fun _ _ _ h => h) (Or.inl ⟨by kernel_rfl, ?_⟩) (by assumption) ?_
  rotate_left
  · intro w hSw
    clear hSw
    go_simp
    with_reducible rfl
  try simp only [List.getElem_toArray, List.getElem_cons_succ, List.getElem_cons_zero, Act.put, List.setIfInBounds_toArray, List.set_cons_zero, List.set_cons_succ]
  refine wpAnyH_take (i := 11) (oi := _) (v := ?_) rfl (by kernel_rfl) (by kernel_rfl) (by kernel_rfl) (fun _ _ _ h => h) (Or.inl ⟨by kernel_rfl, ?_⟩) (by assumption) ?_
  rotate_left
  · intro w hSw
    clear hSw
    go_simp
    with_reducible rfl
  try simp only [List.getElem_toArray, List.getElem_cons_succ, List.getElem_cons_zero, Act.put, List.setIfInBounds_toArray, List.set_cons_zero, List.set_cons_succ]
  refine wpAnyH_take (i := 12) (oi := _) (v := ?_) rfl (by kernel_rfl) (by kernel_rfl) (by kernel_rfl) (fun _ _ _ h => h) (Or.inl ⟨by kernel_rfl, ?_⟩) (by assumption) ?_
  rotate_left
  · intro w hSw
    clear hSw
    go_simp
    with_reducible rfl
  try simp only [List.getElem_toArray, List.getElem_cons_succ, List.getElem_cons_zero, Act.put, List.setIfInBounds_toArray, List.set_cons_zero, List.set_cons_succ]
  refine wpAnyH_take (i := 13) (oi := _) (v := ?_) rfl (by kernel_rfl) (by kernel_rfl) (by kernel_rfl) (fun _ _ _ h => h) (Or.inl ⟨by kernel_rfl, ?_⟩) (by assumption) ?_
  rotate_left
  · intro w hSw
    obtain ⟨⟨_, c0, c1, c2, c3, c4, c5, c6, c7, c8, c9, c10, c11, c12, c13⟩, _⟩ := hSw
    go_simp
    with_reducible rfl
  try simp only [List.getElem_toArray, List.getElem_cons_succ, List.getElem_cons_zero, Act.put, List.setIfInBounds_toArray, List.set_cons_zero, List.set_cons_succ]
  refine wpAnyH_take (i := 14) (oi := _) (v := ?_) rfl (by kernel_rfl) (by kernel_rfl) (by kernel_rfl) (fun _ _ _ h => h) (Or.inl ⟨by kernel_rfl, ?_⟩) (by assumption) ?_
  rotate_left
  · intro w hSw
    clear hSw
    go_simp
    with_reducible rfl
  try simp only [List.getElem_toArray, List.getElem_cons_succ, List.getElem_cons_zero, Act.put, List.setIfInBounds_toArray, List.set_cons_zero, List.set_cons_succ]
  refine wpAnyH_take (i := 15) (oi := _) (v := ?_) rfl (by kernel_rfl) (by kernel_rfl) (by kernel_rfl) (fun _ _ _ h => h) (Or.inl ⟨by kernel_rfl, ?_⟩) (by assumption) ?_
  rotate_left
  · intro w hSw
    clear hSw
    go_simp
    with_reducible rfl
  try simp only [List.getElem_toArray, List.getElem_cons_succ, List.getElem_cons_zero, Act.put, List.setIfInBounds_toArray, List.set_cons_zero, List.set_cons_succ]
  refine wpAnyH_take (i := 16) (oi := _) (v := ?_) rfl (by kernel_rfl) (by kernel_rfl) (by kernel_rfl) (fun _ _ _ h => h) (Or.inl ⟨by kernel_rfl, ?_⟩) (by assumption) ?_
  rotate_left
  · intro w hSw
    obtain ⟨⟨_, c0, c1, c2, c3, c4, c5, c6, c7, c8, c9, c10, c11, c12, c13⟩, _⟩ := hSw
    go_simp
    with_reducible rfl
  try simp only [List.getElem_toArray, List.getElem_cons_succ, List.getElem_cons_zero, Act.put, List.setIfInBounds_toArray, List.set_cons_zero, List.set_cons_succ]
  refine wpAnyH_take (i := 17) (oi := _) (v := ?_) rfl (by kernel_rfl) (by kernel_rfl) (by kernel_rfl) (fun _ _ _ h => h) (Or.inl ⟨by kernel_rfl, ?_⟩) (by assumption) ?_
  rotate_left
  · intro w hSw
    clear hSw
    go_simp
    with_reducible rfl
  try simp only [List.getElem_toArray, List.getElem_cons_succ, List.getElem_cons_zero, Act.put, List.setIfInBounds_toArray, List.set_cons_zero, List.set_cons_succ]
  refine wpAnyH_take (i := 18) (oi := _) (v := ?_) rfl (by kernel_rfl) (by kernel_rfl) (by kernel_rfl) (fun _ _ _ h => h) (Or.inl ⟨by kernel_rfl, ?_⟩) (by assumption) ?_
  rotate_left
  · intro w hSw
    obtain ⟨⟨_, c0, c1, c2, c3, c4, c5, c6, c7, c8, c9, c10, c11, c12, c13⟩, _⟩ := hSw
    go_simp
    with_reducible rfl
  try simp only [List.getElem_toArray, List.getElem_cons_succ, List.getElem_cons_zero, Act.put, List.setIfInBounds_toArray, List.set_cons_zero, List.set_cons_succ]
  refine wpAnyH_ready (rs := [9]) (by kernel_rfl) (by simp) ?_
  refine AllReadyH.cons (o := _) rfl (fun K_ hK => ?_) AllReadyH.nil
  go_simp
  refine (K.fixes _ _ _ x.w.pr x.w.ii x.w.ip x.fi x.fp _ P5.pr.fst (HF.out.mono (by have := HN.out; omega)) ⟨HX.out.w.pr0, HX.out.w.pr1, HX.out.w.ii0, HX.out.w.ii1, HX.out.w.ip0, HX.out.w.ip1⟩ ⟨HX.out.w.pr0, HX.out.w.pr1, HX.out.fi.1, HX.out.fi.2, HX.out.fp.1, HX.out.fp.2⟩).mono ?_; rintro e w6 ⟨rfl, S6_, R6, f6, x6⟩
  have P6 := P5.one R6 f6 x6
  clear P5 R6 f6 x6
  show K_ _ _
  refine hK.out _ _ ⟨P6.ac, P6.wi⟩ (fun hH1 => ?_)
  clear hK K_ hHeld
  have hHeld := hH1
  clear hH1
  try simp only [List.getElem_toArray, List.getElem_cons_succ, List.getElem_cons_zero, Act.put, List.setIfInBounds_toArray, List.set_cons_zero, List.set_cons_succ]
  refine wpAnyH_ready (rs := [19]) (by kernel_rfl) (by simp) ?_
  refine AllReadyH.cons (o := _) rfl (fun K_ hK => ?_) AllReadyH.nil
  go_simp
  refine (rfix16_ _ _ _ x.w.pr x.w.ii x.w.ip x.fi x.fp _ P6.pr.snd (HF.out.mono (by have := HN.out; omega)) ⟨HX.out.w.pr0, HX.out.w.pr1, HX.out.w.ii0, HX.out.w.ii1, HX.out.w.ip0, HX.out.w.ip1⟩ ⟨HX.out.w.pr0, HX.out.w.pr1, HX.out.fi.1, HX.out.fi.2, HX.out.fp.1, HX.out.fp.2⟩).mono ?_; rintro e w7 ⟨rfl, S6_, R6, f6, x6⟩
  have P7 := P6.two R6 f6 x6
  clear P6 R6 f6 x6
  show K_ _ _
  refine hK.out _ _ ⟨P7.ac, P7.wi⟩ (fun hH1 => ?_)
  clear hK K_ hHeld
  have hHeld := hH1
  clear hH1
  try simp only [List.getElem_toArray, List.getElem_cons_succ, List.getElem_cons_zero, Act.put, List.setIfInBounds_toArray, List.set_cons_zero, List.set_cons_succ]
  refine wpAnyH_take (i := 20) (oi := _) (v := ?_) rfl (by kernel_rfl) (by kernel_rfl) (by kernel_rfl) (fun _ _ _ h => h) (Or.inl ⟨by kernel_rfl, ?_⟩) (by assumption) ?_
  rotate_left
  · intro w hSw
    clear hSw
    go_simp
    with_reducible rfl
  try simp only [List.getElem_toArray, List.getElem_cons_succ, List.getElem_cons_zero, Act.put, List.setIfInBounds_toArray, List.set_cons_zero, List.set_cons_succ]
  refine wpAnyH_take (i := 21) (oi := _) (v := ?_) rfl (by kernel_rfl) (by kernel_rfl) (by kernel_rfl) (fun _ _ _ h => h) (Or.inl ⟨by kernel_rfl, ?_⟩) (by assumption) ?_
  rotate_left
  · intro w hSw
    clear hSw
    go_simp
    with_reducible rfl
  try simp only [List.getElem_toArray, List.getElem_cons_succ, List.getElem_cons_zero, Act.put, List.setIfInBounds_toArray, List.set_cons_zero, List.set_cons_succ]
  refine wpAnyH_take (i := 22) (oi := _) (v := ?_) rfl (by kernel_rfl) (by kernel_rfl) (by kernel_rfl) (fun _ _ _ h => h) (Or.inl ⟨by kernel_rfl, ?_⟩) (by assumption) ?_
  rotate_left
  · intro w hSw
    clear hSw
    go_simp
    with_reducible rfl
  try simp only [List.getElem_toArray, List.getElem_cons_succ, List.getElem_cons_zero, Act.put, List.setIfInBounds_toArray, List.set_cons_zero, List.set_cons_succ]
  refine wpAnyH_take (i := 23) (oi := _) (v := ?_) rfl (by kernel_rfl) (by kernel_rfl) (by kernel_rfl) (fun _ _ _ h => h) (Or.inl ⟨by kernel_rfl, ?_⟩) (by assumption) ?_
  rotate_left
  · intro w hSw
    clear hSw
    go_simp
    with_reducible rfl
  try simp only [List.getElem_toArray, List.getElem_cons_succ, List.getElem_cons_zero, Act.put, List.setIfInBounds_toArray, List.set_cons_zero, List.set_cons_succ]
  refine wpAnyH_take (i := 24) (oi := _) (v := ?_) rfl (by kernel_rfl) (by kernel_rfl) (by kernel_rfl) (fun _ _ _ h => h) (Or.inl ⟨by kernel_rfl, ?_⟩) (by assumption) ?_
  rotate_left
  · intro w hSw
    clear hSw
    go_simp
    with_reducible rfl
  try simp only [List.getElem_toArray, List.getElem_cons_succ, List.getElem_cons_zero, Act.put, List.setIfInBounds_toArray, List.set_cons_zero, List.set_cons_succ]
  refine wpAnyH_take (i := 25) (oi := _) (v := ?_) rfl (by kernel_rfl) (by kernel_rfl) (by kernel_rfl) (fun _ _ _ h => h) (Or.inl ⟨by kernel_rfl, ?_⟩) (by assumption) ?_
  rotate_left
  · intro w hSw
    obtain ⟨⟨_, c0, c1, c2, c3, c4, c5, c6, c7, c8, c9, c10, c11, c12, c13⟩, _⟩ := hSw
    go_simp
    with_reducible rfl
  try simp only [List.getElem_toArray, List.getElem_cons_succ, List.getElem_cons_zero, Act.put, List.setIfInBounds_toArray, List.set_cons_zero, List.set_cons_succ]
  refine wpAnyH_take (i := 26) (oi := _) (v := ?_) rfl (by kernel_rfl) (by kernel_rfl) (by kernel_rfl) (fun _ _ _ h => h) (Or.inl ⟨by kernel_rfl, ?_⟩) (by assumption) ?_
  rotate_left
  · intro w hSw
    clear hSw
    go_simp
    with_reducible rfl
  try simp only [List.getElem_toArray, List.getElem_cons_succ, List.getElem_cons_zero, Act.put, List.setIfInBounds_toArray, List.set_cons_zero, List.set_cons_succ]
  refine wpAnyH_take (i := 27) (oi := _) (v := ?_) rfl (by kernel_rfl) (by kernel_rfl) (by kernel_rfl) (fun _ _ _ h => h) (Or.inl ⟨by kernel_rfl, ?_⟩) (by assumption) ?_
  rotate_left
  · intro w hSw
    obtain ⟨⟨_, c0, c1, c2, c3, c4, c5, c6, c7, c8, c9, c10, c11, c12, c13⟩, _⟩ := hSw
    go_simp
    with_reducible rfl
  try simp only [List.getElem_toArray, List.getElem_cons_succ, List.getElem_cons_zero, Act.put, List.setIfInBounds_toArray, List.set_cons_zero, List.set_cons_succ]
  refine wpAnyH_take (i := 29) (oi := _) (v := ?_) rfl (by kernel_rfl) (by kernel_rfl) (by kernel_rfl) (fun _ _ _ h => h) (Or.inl ⟨by kernel_rfl, ?_⟩) (by assumption) ?_
  rotate_left
  · intro w hSw
    clear hSw
    go_simp
    with_reducible rfl
  try simp only [List.getElem_toArray, List.getElem_cons_succ, List.getElem_cons_zero, Act.put, List.setIfInBounds_toArray, List.set_cons_zero, List.set_cons_succ]
  refine wpAnyH_take (i := 30) (oi := _) (v := ?_) rfl (by kernel_rfl) (by kernel_rfl) (by kernel_rfl) (fun _ _ _ h => h) (Or.inl ⟨by kernel_rfl, ?_⟩) (by assumption) ?_
  rotate_left
  · intro w hSw
    clear hSw
    go_simp
    with_reducible rfl
  try simp only [List.getElem_toArray, List.getElem_cons_succ, List.getElem_cons_zero, Act.put, List.setIfInBounds_toArray, List.set_cons_zero, List.set_cons_succ]
  refine wpAnyH_take (i := 31) (oi := _) (v := ?_) rfl (by kernel_rfl) (by kernel_rfl) (by kernel_rfl) (fun _ _ _ h => h) (Or.inl ⟨by kernel_rfl, ?_⟩) (by assumption) ?_
  rotate_left
  · intro w hSw
    clear hSw
    go_simp
    with_reducible rfl
  try simp only [List.getElem_toArray, List.getElem_cons_succ, List.getElem_cons_zero, Act.put, List.setIfInBounds_toArray, List.set_cons_zero, List.set_cons_succ]
  refine wpAnyH_take (i := 32) (oi := _) (v := ?_) rfl (by kernel_rfl) (by kernel_rfl) (by kernel_rfl) (fun _ _ _ h => h) (Or.inl ⟨by kernel_rfl, ?_⟩) (by assumption) ?_
  rotate_left
  · intro w hSw
    obtain ⟨⟨_, c0, c1, c2, c3, c4, c5, c6, c7, c8, c9, c10, c11, c12, c13⟩, _⟩ := hSw
    go_simp
    with_reducible rfl
  try simp only [List.getElem_toArray, List.getElem_cons_succ, List.getElem_cons_zero, Act.put, List.setIfInBounds_toArray, List.set_cons_zero, List.set_cons_succ]
  refine wpAnyH_take (i := 33) (oi := _) (v := ?_) rfl (by kernel_rfl) (by kernel_rfl) (by kernel_rfl) (fun _ _ _ h => h) (Or.inl ⟨by kernel_rfl, ?_⟩) (by assumption) ?_
  rotate_left
  · intro w hSw
    clear hSw
    go_simp
    with_reducible rfl
  try simp only [List.getElem_toArray, List.getElem_cons_succ, List.getElem_cons_zero, Act.put, List.setIfInBounds_toArray, List.set_cons_zero, List.set_cons_succ]
  refine wpAnyH_take (i := 34) (oi := _) (v := ?_) rfl (by kernel_rfl) (by kernel_rfl) (by kernel_rfl) (fun _ _ _ h => h) (Or.inl ⟨by kernel_rfl, ?_⟩) (by assumption) ?_
  rotate_left
  · intro w hSw
    obtain ⟨⟨_, c0, c1, c2, c3, c4, c5, c6, c7, c8, c9, c10, c11, c12, c13⟩, _⟩ := hSw
    go_simp
    with_reducible rfl
  try simp only [List.getElem_toArray, List.getElem_cons_succ, List.getElem_cons_zero, Act.put, List.setIfInBounds_toArray, List.set_cons_zero, List.set_cons_succ]
  refine wpAnyH_ready (rs := [28]) (by kernel_rfl) (by simp) ?_
  refine AllReadyH.cons (o := _) rfl (fun K_ hK => ?_) AllReadyH.nil
  go_simp
  refine (K.cons _ _ _ x.w.pr x.fi x.fp _ P7.pr.fst ((HF.out.fix _ _ _ _ _).mono (by have := HN.out; omega)) ⟨HX.out.w.pr0, HX.out.w.pr1, HX.out.fi.1, HX.out.fi.2, HX.out.fp.1, HX.out.fp.2⟩).mono ?_; rintro e w8 ⟨rfl, S6_, R6, f6, x6⟩
  have P8 := P7.one R6 f6 x6
  clear P7 R6 f6 x6
  show K_ _ _
  refine hK.out _ _ ⟨P8.ac, P8.wi⟩ (fun hH1 => ?_)
  clear hK K_ hHeld
  have hHeld := hH1
  clear hH1
  try simp only [List.getElem_toArray, List.getElem_cons_succ, List.getElem_cons_zero, Act.put, List.setIfInBounds_toArray, List.set_cons_zero, List.set_cons_succ]
  refine wpAnyH_ready (rs := [35]) (by kernel_rfl) (by simp) ?_
  refine AllReadyH.cons (o := _) rfl (fun K_ hK => ?_) AllReadyH.nil
  go_simp
  refine (rcon16_ _ _ _ x.w.pr x.fi x.fp _ P8.pr.snd ((HF.out.fix _ _ _ _ _).mono (by have := HN.out; omega))).mono ?_; rintro e w9 ⟨rfl, S6_, R6, f6, x6⟩
  have P9 := P8.two R6 f6 x6
  clear P8 R6 f6 x6
  show K_ _ _
  refine hK.out _ _ ⟨P9.ac, P9.wi⟩ (fun hH1 => ?_)
  clear hK K_ hHeld
  have hHeld := hH1
  clear hH1
  try simp only [List.getElem_toArray, List.getElem_cons_succ, List.getElem_cons_zero, Act.put, List.setIfInBounds_toArray, List.set_cons_zero, List.set_cons_succ]
  have PE := Lib.hid P9
  clear P9
  refine wpAnyH_take (i := 36) (oi := _) (v := ?_) rfl (by kernel_rfl) (by kernel_rfl) (by kernel_rfl) (fun _ _ _ h => h) (Or.inl ⟨by kernel_rfl, ?_⟩) (by assumption) ?_
  rotate_left
  · intro w hSw
    clear hSw
    go_simp
    with_reducible rfl
  try simp only [List.getElem_toArray, List.getElem_cons_succ, List.getElem_cons_zero, Act.put, List.setIfInBounds_toArray, List.set_cons_zero, List.set_cons_succ]
  refine wpAnyH_take (i := 37) (oi := _) (v := ?_) rfl (by kernel_rfl) (by kernel_rfl) (by kernel_rfl) (fun _ _ _ h => h) (Or.inl ⟨by kernel_rfl, ?_⟩) (by assumption) ?_
  rotate_left
  · intro w hSw
    clear hSw
    go_simp
    with_reducible rfl
  try simp only [List.getElem_toArray, List.getElem_cons_succ, List.getElem_cons_zero, Act.put, List.setIfInBounds_toArray, List.set_cons_zero, List.set_cons_succ]
  refine wpAnyH_take (i := 38) (oi := _) (v := ?_) rfl (by kernel_rfl) (by kernel_rfl) (by kernel_rfl) (fun _ _ _ h => h) (Or.inl ⟨by kernel_rfl, ?_⟩) (by assumption) ?_
  rotate_left
  · intro w hSw
    clear hSw
    go_simp
    with_reducible rfl
  try simp only [List.getElem_toArray, List.getElem_cons_succ, List.getElem_cons_zero, Act.put, List.setIfInBounds_toArray, List.set_cons_zero, List.set_cons_succ]
  refine wpAnyH_done (by kernel_rfl) (NoPanic.normal ?_) _
  clear hHeld
  go_wp2
  go_ret
  exact ⟨by simp, _, _, _, PE.out.pr, (((HF.out.fix x.w.pr x.w.ii x.w.ip x.fi x.fp).chg .con x.w.pr x.fi x.fp)).mono (by omega)⟩
end Go.Proofs.Ytbbadpidolfleaa
