/- slices.siftDownCmpFunc, heapSortCmpFunc, reverseRangeCmpFunc, their order a method value. Written by gen_sorth.py. -/
import Derived.Test.YtmephmjlajaopaaSortA
import Derived.Sort.WalkB2
import Derived.Sort.WalkB3
import Derived.Sort.Walk13a
namespace Go.Proofs.Ytmephmjlajaopaa
set_option linter.unusedVariables false
set_option linter.unusedSimpArgs false
open Go.Shelf Go.RowKit Go.Lib Go.Sort
section
variable {P : Program} {ρ : Ren} {α : Type} [Inhabited α] {g : Nat} {v : Value} {enc : α → List Value} {k : Nat} {cf : α → α → Int} {blk off N : Nat} {d0 : Array α} {w0 : World}
set_option maxHeartbeats 8000000 in
set_option maxRecDepth 1000000 in
/-- slices.siftDownCmpFunc. -/
theorem sSift_ (L : SlLaysF0.n46 P ρ) (aE : ∀ w, (isAgg (ρ.t 24)).run P w = .ok true w) (zE : ∀ w, (Go.sizeOf (ρ.t 24)).run P w = .ok k w) (K : Srt P g v enc k cf blk off N d0 w0) (cap lo hi first : Nat) (d : Array α) (w : World) (hd : d.size = N) (S : Aside (SWK enc k w0 blk off d w)) (hlo : lo ≤ hi) (hb : first + hi ≤ N) :
    Calls P (ρ.f 46) #[.slice (some ⟨blk, off, none⟩) N cap, .int .i64 lo, .int .i64 hi, .int .i64 first, .func (.func g) #[v] #[]] w fun e w' => e = .returned (.tuple #[]) ∧ Aside (SWK enc k w0 blk off (siftDown (ltOf cf) hi first lo d) w') := by
  obtain ⟨mixed, _, t0, a0, z0, v0, t3, a3, z3, v3, t4, a4, z4, v4, t22, a22, z22, v22, t25, a25, z25, v25⟩ := id L
  obtain ⟨_, _, FG⟩ := L.f46
  have few := K.few
  have eg := K.eg
  have KK : Aside _ := K
  clear K
  go_enter FG, SlBodyF.n46_ntmps ρ
  go_wp2
  go_loopg [10] (hi - lo) (fun kx s10 wr => ∃ (root : Nat) (dk : Array α), s10 = .int .i64 root ∧ root ≤ hi ∧ hi - root ≤ kx ∧ dk.size = N ∧ Aside (SWK enc k w0 blk off dk wr) ∧ Hid (siftDown (ltOf cf) hi first root dk = siftDown (ltOf cf) hi first lo d))
  case atStart => exact ⟨lo, d, rfl, hlo, Nat.le_refl _, hd, S, rfl⟩
  case round =>
    clear S hd
    obtain ⟨root, dk, rfl, hr, hkx, hds, S1, HE⟩ := hrel
    by_cases h0 : hi ≤ 2 * root + 1
    · have h0z : (hi : Int) ≤ 2 * (root : Int) + 1 := by omega
      go_wp2
      go_end0
      refine ⟨rfl, ?_⟩
      rw [← HE.out, sd_end (ltOf cf) dk h0]
      exact S1
    · have h0z : ¬ ((hi : Int) ≤ 2 * (root : Int) + 1) := by omega
      have rch : IntKind.i64.wrap (2 * (root : Int) + 1 + 1) = 2 * (root : Int) + 1 + 1 := by rw [IntKind.wrap_i64]; omega
      by_cases h1 : 2 * root + 2 < hi
      · have h1z : 2 * (root : Int) + 1 + 1 < (hi : Int) := by omega
        cases hL : ltOf cf dk[first + (2 * root + 1)]! dk[first + (2 * root + 2)]! with
        | true =>
          have HL : Hid (ltOf cf dk[first + (2 * root + 1)]! dk[first + (2 * root + 2)]! = true) := hL
          obtain ⟨ea1, eb1, ec1, ed1⟩ := KK.out.at ((first : Int) + (2 * (root : Int) + 1)) (first + (2 * root + 1)) (by omega) (by omega)
          obtain ⟨ea2, eb2, ec2, ed2⟩ := KK.out.at ((first : Int) + (2 * (root : Int) + 1) + 1) (first + (2 * root + 2)) (by omega) (by omega)
          obtain ⟨x3, y3, c3, hv3, la3, lb3, hc3, SG3⟩ := KK.out.test S1 (by omega) (first + (2 * root + 1)) (first + (2 * root + 2)) (by omega) (by omega) true hL
          have HG3 := Lib.hid SG3
          clear SG3
          go_wp2_with fail
          go_quiet_grown (first | (go_at_fn g; refine hc3 _ _))
          have S2 := HG3.out nq osq
          clear la3 lb3 hc3 HG3 S1
          generalize grow (wr.drewN nq) osq = w2 at S2 ⊢
          clear nq osq
          clear hL
          go_wp2_with fail
          cases hG : ltOf cf dk[first + root]! dk[first + (2 * root + 2)]! with
          | true =>
            have HG1 : Hid (siftDown (ltOf cf) hi first (2 * root + 2) (swp dk (first + root) (first + (2 * root + 2))) = siftDown (ltOf cf) hi first lo d) := by show _ = _; rw [← HE.out, sd_right_go (ltOf cf) dk h1 HL.out hG]
            obtain ⟨ea4, eb4, ec4, ed4⟩ := KK.out.at ((first : Int) + (root : Int)) (first + root) (by omega) (by omega)
            obtain ⟨ea5, eb5, ec5, ed5⟩ := KK.out.at ((first : Int) + (2 * (root : Int) + 1 + 1)) (first + (2 * root + 2)) (by omega) (by omega)
            obtain ⟨x6, y6, c6, hv6, la6, lb6, hc6, SG6⟩ := KK.out.test S2 (by omega) (first + root) (first + (2 * root + 2)) (by omega) (by omega) true hG
            have HG6 := Lib.hid SG6
            clear SG6
            go_wp2_with fail
            go_quiet_grown (first | (go_at_fn g; refine hc6 _ _))
            have S5 := HG6.out nq osq
            clear la6 lb6 hc6 HG6 S2
            generalize grow (w2.drewN nq) osq = w5 at S5 ⊢
            clear nq osq
            clear hG
            obtain ⟨ci7, cj7, wa7, w6, na7, nb7, la7, lb7, sa7, sb7, S6⟩ := KK.out.swap S5 (by omega) (first + root) (first + (2 * root + 2)) (by omega) (by omega)
            go_wp2_with fail
            go_big_region_o
            clear la7 lb7 sa7 sb7 S5
            go_wp2
            go_roundg (hi - (2 * root + 2))
            case measure => omega
            case rel => exact ⟨2 * root + 2, swp dk (first + root) (first + (2 * root + 2)), by go_num, by omega, Nat.le_refl _, by rw [size_swp]; exact hds, S6, HG1⟩
          | false =>
            have HG1 : Hid (dk = siftDown (ltOf cf) hi first lo d) := by show _ = _; rw [← HE.out, sd_right_stop (ltOf cf) dk h1 HL.out hG]
            obtain ⟨ea8, eb8, ec8, ed8⟩ := KK.out.at ((first : Int) + (root : Int)) (first + root) (by omega) (by omega)
            obtain ⟨ea9, eb9, ec9, ed9⟩ := KK.out.at ((first : Int) + (2 * (root : Int) + 1 + 1)) (first + (2 * root + 2)) (by omega) (by omega)
            obtain ⟨x10, y10, c10, hv10, la10, lb10, hc10, SG10⟩ := KK.out.test S2 (by omega) (first + root) (first + (2 * root + 2)) (by omega) (by omega) false hG
            have HG10 := Lib.hid SG10
            clear SG10
            go_wp2_with fail
            go_quiet_grown (first | (go_at_fn g; refine hc10 _ _))
            have S5 := HG10.out nq osq
            clear la10 lb10 hc10 HG10 S2
            generalize grow (w2.drewN nq) osq = w5 at S5 ⊢
            clear nq osq
            clear hG
            go_wp2
            (try simp only [Exit.inBlock, Exit.then]); refine bodyPost_ret (results_none rfl _ _ _) rfl ?_
            refine ⟨rfl, ?_⟩
            rw [← HG1.out]
            exact S5
        | false =>
          have HL : Hid (ltOf cf dk[first + (2 * root + 1)]! dk[first + (2 * root + 2)]! = false) := hL
          obtain ⟨ea11, eb11, ec11, ed11⟩ := KK.out.at ((first : Int) + (2 * (root : Int) + 1)) (first + (2 * root + 1)) (by omega) (by omega)
          obtain ⟨ea12, eb12, ec12, ed12⟩ := KK.out.at ((first : Int) + (2 * (root : Int) + 1) + 1) (first + (2 * root + 2)) (by omega) (by omega)
          obtain ⟨x13, y13, c13, hv13, la13, lb13, hc13, SG13⟩ := KK.out.test S1 (by omega) (first + (2 * root + 1)) (first + (2 * root + 2)) (by omega) (by omega) false hL
          have HG13 := Lib.hid SG13
          clear SG13
          go_wp2_with fail
          go_quiet_grown (first | (go_at_fn g; refine hc13 _ _))
          have S2 := HG13.out nq osq
          clear la13 lb13 hc13 HG13 S1
          generalize grow (wr.drewN nq) osq = w2 at S2 ⊢
          clear nq osq
          clear hL
          go_wp2_with fail
          cases hG : ltOf cf dk[first + root]! dk[first + (2 * root + 1)]! with
          | true =>
            have HG1 : Hid (siftDown (ltOf cf) hi first (2 * root + 1) (swp dk (first + root) (first + (2 * root + 1))) = siftDown (ltOf cf) hi first lo d) := by show _ = _; rw [← HE.out, sd_left_go (ltOf cf) dk (by omega) (fun _ => HL.out) hG]
            obtain ⟨ea14, eb14, ec14, ed14⟩ := KK.out.at ((first : Int) + (root : Int)) (first + root) (by omega) (by omega)
            obtain ⟨ea15, eb15, ec15, ed15⟩ := KK.out.at ((first : Int) + (2 * (root : Int) + 1)) (first + (2 * root + 1)) (by omega) (by omega)
            obtain ⟨x16, y16, c16, hv16, la16, lb16, hc16, SG16⟩ := KK.out.test S2 (by omega) (first + root) (first + (2 * root + 1)) (by omega) (by omega) true hG
            have HG16 := Lib.hid SG16
            clear SG16
            go_wp2_with fail
            go_quiet_grown (first | (go_at_fn g; refine hc16 _ _))
            have S5 := HG16.out nq osq
            clear la16 lb16 hc16 HG16 S2
            generalize grow (w2.drewN nq) osq = w5 at S5 ⊢
            clear nq osq
            clear hG
            obtain ⟨ci17, cj17, wa17, w6, na17, nb17, la17, lb17, sa17, sb17, S6⟩ := KK.out.swap S5 (by omega) (first + root) (first + (2 * root + 1)) (by omega) (by omega)
            go_wp2_with fail
            go_big_region_o
            clear la17 lb17 sa17 sb17 S5
            go_wp2
            go_roundg (hi - (2 * root + 1))
            case measure => omega
            case rel => exact ⟨2 * root + 1, swp dk (first + root) (first + (2 * root + 1)), by go_num, by omega, Nat.le_refl _, by rw [size_swp]; exact hds, S6, HG1⟩
          | false =>
            have HG1 : Hid (dk = siftDown (ltOf cf) hi first lo d) := by show _ = _; rw [← HE.out, sd_left_stop (ltOf cf) dk (by omega) (fun _ => HL.out) hG]
            obtain ⟨ea18, eb18, ec18, ed18⟩ := KK.out.at ((first : Int) + (root : Int)) (first + root) (by omega) (by omega)
            obtain ⟨ea19, eb19, ec19, ed19⟩ := KK.out.at ((first : Int) + (2 * (root : Int) + 1)) (first + (2 * root + 1)) (by omega) (by omega)
            obtain ⟨x20, y20, c20, hv20, la20, lb20, hc20, SG20⟩ := KK.out.test S2 (by omega) (first + root) (first + (2 * root + 1)) (by omega) (by omega) false hG
            have HG20 := Lib.hid SG20
            clear SG20
            go_wp2_with fail
            go_quiet_grown (first | (go_at_fn g; refine hc20 _ _))
            have S5 := HG20.out nq osq
            clear la20 lb20 hc20 HG20 S2
            generalize grow (w2.drewN nq) osq = w5 at S5 ⊢
            clear nq osq
            clear hG
            go_wp2
            (try simp only [Exit.inBlock, Exit.then]); refine bodyPost_ret (results_none rfl _ _ _) rfl ?_
            refine ⟨rfl, ?_⟩
            rw [← HG1.out]
            exact S5
      · have h1z : decide (2 * (root : Int) + 1 + 1 < (hi : Int)) = false := decide_eq_false (by omega)
        have h1z' : ¬ 2 * (root : Int) + 1 + 1 < (hi : Int) := by omega
        have S2 : Aside (SWK enc k w0 blk off dk wr.drew) := S1.out.drew
        go_wp2_with fail
        go_big_region_o
        clear S1
        generalize wr.drew = w2 at S2 ⊢
        go_wp2_with fail
        cases hG : ltOf cf dk[first + root]! dk[first + (2 * root + 1)]! with
        | true =>
          have HG1 : Hid (siftDown (ltOf cf) hi first (2 * root + 1) (swp dk (first + root) (first + (2 * root + 1))) = siftDown (ltOf cf) hi first lo d) := by show _ = _; rw [← HE.out, sd_left_go (ltOf cf) dk (by omega) (fun h => absurd h h1) hG]
          obtain ⟨ea21, eb21, ec21, ed21⟩ := KK.out.at ((first : Int) + (root : Int)) (first + root) (by omega) (by omega)
          obtain ⟨ea22, eb22, ec22, ed22⟩ := KK.out.at ((first : Int) + (2 * (root : Int) + 1)) (first + (2 * root + 1)) (by omega) (by omega)
          obtain ⟨x23, y23, c23, hv23, la23, lb23, hc23, SG23⟩ := KK.out.test S2 (by omega) (first + root) (first + (2 * root + 1)) (by omega) (by omega) true hG
          have HG23 := Lib.hid SG23
          clear SG23
          go_wp2_with fail
          go_quiet_grown (first | (go_at_fn g; refine hc23 _ _))
          have S5 := HG23.out nq osq
          clear la23 lb23 hc23 HG23 S2
          generalize grow (w2.drewN nq) osq = w5 at S5 ⊢
          clear nq osq
          clear hG
          obtain ⟨ci24, cj24, wa24, w6, na24, nb24, la24, lb24, sa24, sb24, S6⟩ := KK.out.swap S5 (by omega) (first + root) (first + (2 * root + 1)) (by omega) (by omega)
          go_wp2_with fail
          go_big_region_o
          clear la24 lb24 sa24 sb24 S5
          go_wp2
          go_roundg (hi - (2 * root + 1))
          case measure => omega
          case rel => exact ⟨2 * root + 1, swp dk (first + root) (first + (2 * root + 1)), by go_num, by omega, Nat.le_refl _, by rw [size_swp]; exact hds, S6, HG1⟩
        | false =>
          have HG1 : Hid (dk = siftDown (ltOf cf) hi first lo d) := by show _ = _; rw [← HE.out, sd_left_stop (ltOf cf) dk (by omega) (fun h => absurd h h1) hG]
          obtain ⟨ea25, eb25, ec25, ed25⟩ := KK.out.at ((first : Int) + (root : Int)) (first + root) (by omega) (by omega)
          obtain ⟨ea26, eb26, ec26, ed26⟩ := KK.out.at ((first : Int) + (2 * (root : Int) + 1)) (first + (2 * root + 1)) (by omega) (by omega)
          obtain ⟨x27, y27, c27, hv27, la27, lb27, hc27, SG27⟩ := KK.out.test S2 (by omega) (first + root) (first + (2 * root + 1)) (by omega) (by omega) false hG
          have HG27 := Lib.hid SG27
          clear SG27
          go_wp2_with fail
          go_quiet_grown (first | (go_at_fn g; refine hc27 _ _))
          have S5 := HG27.out nq osq
          clear la27 lb27 hc27 HG27 S2
          generalize grow (w2.drewN nq) osq = w5 at S5 ⊢
          clear nq osq
          clear hG
          go_wp2
          (try simp only [Exit.inBlock, Exit.then]); refine bodyPost_ret (results_none rfl _ _ _) rfl ?_
          refine ⟨rfl, ?_⟩
          rw [← HG1.out]
          exact S5
set_option maxHeartbeats 8000000 in
set_option maxRecDepth 1000000 in
/-- slices.heapSortCmpFunc. -/
theorem sHeap_ (L : SlLaysF0.n21 P ρ) (aE : ∀ w, (isAgg (ρ.t 24)).run P w = .ok true w) (zE : ∀ w, (Go.sizeOf (ρ.t 24)).run P w = .ok k w) (K : Srt P g v enc k cf blk off N d0 w0) (cap a b : Nat) (d : Array α) (w : World) (hd : d.size = N) (S : Aside (SWK enc k w0 blk off d w)) (hab : a ≤ b) (hb : b ≤ N) :
    Calls P (ρ.f 21) #[.slice (some ⟨blk, off, none⟩) N cap, .int .i64 a, .int .i64 b, .func (.func g) #[v] #[]] w fun e w' => e = .returned (.tuple #[]) ∧ Aside (SWK enc k w0 blk off (heapSort (ltOf cf) d a b) w') := by
  have ecast : ((b - a : Nat) : Int) = (b : Int) - (a : Int) := by omega
  obtain ⟨mixed, _, _, t0, a0, z0, v0, t3, a3, z3, v3, t4, a4, z4, v4, t22, a22, z22, v22, t25, a25, z25, v25⟩ := id L
  obtain ⟨_, _, FG⟩ := L.f21
  have few := K.few
  have e46 : ∀ args w, (callFunc (ρ.f 46) args).run P w = .ok (.enter (ρ.f 46) args) w := L.f46.enters rfl
  have eg := K.eg
  have KK : Aside _ := K
  clear K
  go_enter FG, SlBodyF.n21_ntmps ρ
  go_wp2
  go_loopg [11] ((b - a - 1) / 2 + 1) (fun kx s11 wr => s11 = .int .i64 ((kx : Int) - 1) ∧ kx ≤ (b - a - 1) / 2 + 1 ∧ ∃ (dk : Array α), dk.size = N ∧ Aside (SWK enc k w0 blk off dk wr) ∧ Hid (heapBuild (ltOf cf) (b - a) a kx dk = heapBuild (ltOf cf) (b - a) a ((b - a - 1) / 2 + 1) d))
  case atStart => exact ⟨by rw [half_start hab], Nat.le_refl _, d, hd, S, rfl⟩
  case round =>
    clear S hd
    obtain ⟨rfl, hkk, dk, hds, S1, HE⟩ := hrel
    cases gk with
    | zero =>
      have HB : Hid (dk = heapBuild (ltOf cf) (b - a) a ((b - a - 1) / 2 + 1) d) := HE.out
      clear HE hkk
      go_wp2
      go_loopg [12] (b - a) (fun kx s12 wr2 => s12 = .int .i64 ((kx : Int) - 1) ∧ kx ≤ b - a ∧ ∃ (dj : Array α), dj.size = N ∧ Aside (SWK enc k w0 blk off dj wr2) ∧ Hid (heapPop (ltOf cf) a kx dj = heapPop (ltOf cf) a (b - a) dk))
      case atStart => exact ⟨by rw [ecast], Nat.le_refl _, dk, hds, S1, rfl⟩
      case round =>
        clear S1
        obtain ⟨rfl, hkk, dj, hdj, S1, HE2⟩ := hrel
        cases gk with
        | zero =>
          go_wp2
          go_end0
          have e : dj = heapSort (ltOf cf) d a b := by rw [heapSort, ← HB.out, ← HE2.out]; rfl
          rw [← e]
          exact ⟨rfl, S1⟩
        | succ kx =>
          have ekx : ((kx + 1 : Nat) : Int) - 1 = (kx : Int) := by omega
          go_wp2_with fail
          obtain ⟨ea28, eb28, ec28, ed28⟩ := KK.out.at ((a : Int)) (a) (by omega) (by omega)
          obtain ⟨ea29, eb29, ec29, ed29⟩ := KK.out.at ((a : Int) + (kx : Int)) (a + kx) (by omega) (by omega)
          obtain ⟨ci30, cj30, wa30, w2, na30, nb30, la30, lb30, sa30, sb30, S2⟩ := KK.out.swap S1 (by omega) (a) (a + kx) (by omega) (by omega)
          go_wp2_with fail
          go_big_region_o
          clear la30 lb30 sa30 sb30 S1
          have hd2 : (swp dj a (a + kx)).size = N := by rw [size_swp]; exact hdj
          have hcall := sSift_ (P := P) (ρ := ρ) { L with } aE zE KK.out cap 0 kx a (swp dj a (a + kx)) w2 hd2 S2 (Nat.zero_le _) (by omega)
          clear S2
          go_wp2_with (go_at_fn (ρ.f 46); refine hcall.mono ?_; rintro e w3 ⟨rfl, S3⟩)
          go_roundg kx
          case measure => omega
          case rel =>
            have hss : (siftDown (ltOf cf) kx a 0 (swp dj a (a + kx))).size = (swp dj a (a + kx)).size := size_siftDown (ltOf cf) _ _ _ _ _ (Nat.le_refl _)
            exact ⟨by simp, by omega, siftDown (ltOf cf) kx a 0 (swp dj a (a + kx)), by rw [hss, hd2], S3, HE2⟩
    | succ kx =>
      have hcall := sSift_ (P := P) (ρ := ρ) { L with } aE zE KK.out cap kx (b - a) a dk wr hds S1 (by omega) (by omega)
      rw [ecast] at hcall
      clear S1
      go_wp2_with (go_at_fn (ρ.f 46); refine hcall.mono ?_; rintro e w3 ⟨rfl, S3⟩)
      go_roundg kx
      case measure => omega
      case rel =>
        have hss : (siftDown (ltOf cf) (b - a) a kx dk).size = dk.size := size_siftDown (ltOf cf) _ _ _ _ _ (Nat.le_refl _)
        exact ⟨by simp, by omega, siftDown (ltOf cf) (b - a) a kx dk, by rw [hss, hds], S3, HE⟩
set_option maxHeartbeats 4000000 in
set_option maxRecDepth 1000000 in
/-- slices.reverseRangeCmpFunc. -/
theorem sReverse_ (L : SlLaysF0.n24 P ρ) (aE : ∀ w, (isAgg (ρ.t 24)).run P w = .ok true w) (zE : ∀ w, (Go.sizeOf (ρ.t 24)).run P w = .ok k w) (K : Srt P g v enc k cf blk off N d0 w0) (cap a b : Nat) (d : Array α) (w : World) (hd : d.size = N) (S : Aside (SWK enc k w0 blk off d w)) (hab : a < b) (hb : b ≤ N) :
    Calls P (ρ.f 24) #[.slice (some ⟨blk, off, none⟩) N cap, .int .i64 a, .int .i64 b, .func (.func g) #[v] #[]] w fun e w' => e = .returned (.tuple #[]) ∧ Aside (SWK enc k w0 blk off (reverseRange d a b) w') := by
  obtain ⟨mixed, _, t0, a0, z0, v0, t3, a3, z3, v3, t4, a4, z4, v4, t22, a22, z22, v22, t25, a25, z25, v25⟩ := id L
  obtain ⟨_, _, FG⟩ := L.f24
  have few := K.few
  have eg := K.eg
  have KK : Aside _ := K
  clear K
  go_enter FG, SlBodyF.n24_ntmps ρ
  go_wp2
  go_loopg [8, 9] (b - a) (fun kx s8 s9 wr => ∃ (i j : Nat) (dk : Array α), s8 = .int .i64 i ∧ s9 = .int .i64 ((j : Int) - 1) ∧ j ≤ N ∧ i ≤ N ∧ j - i ≤ kx ∧ dk.size = N ∧ Aside (SWK enc k w0 blk off dk wr) ∧ Hid (reverseLoop i (j - 1) dk = reverseLoop a (b - 1) d))
  case atStart => exact ⟨a, b, d, rfl, rfl, hb, by omega, Nat.le_refl _, hd, S, rfl⟩
  case round =>
    clear S hd
    obtain ⟨i, jp, dk, rfl, rfl, hjn, hin, hkx, hds, S1, HE⟩ := hrel
    by_cases hlt : i + 1 < jp
    · obtain ⟨j, rfl⟩ : ∃ j, jp = j + 1 := ⟨jp - 1, by omega⟩
      have hij : i < j := by omega
      have hz : (i : Int) < (j : Int) := by omega
      have ej : ((j + 1 : Nat) : Int) - 1 = (j : Int) := by omega
      have HE2 : Hid (reverseLoop (i + 1) (j - 1) (swp dk i j) = reverseLoop a (b - 1) d) := by
        show _ = _
        rw [← HE.out, Nat.add_sub_cancel]
        conv => rhs; rw [reverseLoop, if_pos hij]
      go_wp2_with fail
      obtain ⟨ea31, eb31, ec31, ed31⟩ := KK.out.at ((i : Int)) (i) (by omega) (by omega)
      obtain ⟨ea32, eb32, ec32, ed32⟩ := KK.out.at ((j : Int)) (j) (by omega) (by omega)
      obtain ⟨ci33, cj33, wa33, w2, na33, nb33, la33, lb33, sa33, sb33, S2⟩ := KK.out.swap S1 (by omega) (i) (j) (by omega) (by omega)
      go_wp2_with fail
      go_big_region_o
      clear la33 lb33 sa33 sb33 S1
      go_wp2
      go_roundg (j - (i + 1))
      case measure => omega
      case rel => exact ⟨i + 1, j, swp dk i j, by go_num, rfl, by omega, by omega, Nat.le_refl _, by rw [size_swp]; exact hds, S2, HE2⟩
    · have hz : ¬ (i : Int) < (jp : Int) - 1 := by omega
      go_wp2
      go_end0
      refine ⟨rfl, ?_⟩
      rw [reverseRange, ← HE.out, reverseLoop, if_neg (by omega)]
      exact S1
end
end Go.Proofs.Ytmephmjlajaopaa
