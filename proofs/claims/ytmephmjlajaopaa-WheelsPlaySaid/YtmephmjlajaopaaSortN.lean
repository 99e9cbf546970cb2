/- slices.partialInsertionSortCmpFunc, its order a method value. Written by gen_sortn.py. -/
import Derived.Test.YtmephmjlajaopaaSortA
import Derived.Sort.WalkA6
import Derived.Deep.CutBlock
import Derived.Deep.DeepCutAuto
namespace Go.Proofs.Ytmephmjlajaopaa
set_option linter.unusedVariables false
set_option linter.unusedSimpArgs false
open Go.Shelf Go.RowKit Go.Lib Go.Sort
section
variable {P : Program} {ρ : Ren} {α : Type} [Inhabited α] {g : Nat} {v : Value} {enc : α → List Value} {k : Nat} {cf : α → α → Int} {blk off N : Nat} {d0 : Array α} {w0 : World}
set_option maxHeartbeats 16000000 in
set_option maxRecDepth 1000000 in
theorem sPartial_ (L : SlLaysF0.n25 P ρ) (aE : ∀ w, (isAgg (ρ.t 24)).run P w = .ok true w) (zE : ∀ w, (Go.sizeOf (ρ.t 24)).run P w = .ok k w) (K : Srt P g v enc k cf blk off N d0 w0) (cap a b : Nat) (d : Array α) (w : World) (hd : d.size = N) (S : Aside (SWK enc k w0 blk off d w)) (hab : a < b) (hb : b ≤ N) :
    Calls P (ρ.f 25) #[.slice (some ⟨blk, off, none⟩) N cap, .int .i64 a, .int .i64 b, .func (.func g) #[v] #[]] w fun e w' => e = .returned (.bool (partialInsertionSort (ltOf cf) d a b).2) ∧ Aside (SWK enc k w0 blk off (partialInsertionSort (ltOf cf) d a b).1 w') := by
  obtain ⟨mixed, _, t0, a0, z0, v0, t3, a3, z3, v3, t4, a4, z4, v4, t22, a22, z22, v22, t25, a25, z25, v25⟩ := id L
  obtain ⟨_, _, FG⟩ := L.f25
  have few := K.few
  have eg := K.eg
  have KK : Aside _ := K
  clear K
  go_enter FG, SlBodyF.n25_ntmps ρ
  obtain ⟨R0, hR0⟩ : ∃ r, r = partialInsertionSort (ltOf cf) d a b := ⟨_, rfl⟩
  have HD := Lib.hid hR0
  have HR0 : Hid (R0 = partialIns (ltOf cf) a b (5 - 0) (a + 1) d) := hR0
  clear hR0
  go_wp2
  go_loopg [9, 10] 5 (fun g1 vi vs wr => ∃ (i s : Nat) (dk : Array α), vi = .int .i64 i ∧ vs = .int .i64 s ∧ s ≤ 5 ∧ 5 - s ≤ g1 ∧ a < i ∧ i ≤ b ∧ dk.size = N ∧ Aside (SWK enc k w0 blk off dk wr) ∧ Hid (R0 = partialIns (ltOf cf) a b (5 - s) i dk))
  case atStart => exact ⟨a + 1, 0, d, by go_num, rfl, by omega, by omega, by omega, by omega, hd, S, HR0.out⟩
  case round =>
    clear S HR0 hd
    obtain ⟨i, s, dk, rfl, rfl, hs5, hg, hai, hib, hds, S1, HR⟩ := hrel
    by_cases hs : s < 5
    · have hsz : (s : Int) < 5 := by omega
      have hsz2 : decide ((s : Int) < 5) = true := decide_eq_true hsz
      go_upto_block 2 with fail
      go_cut [9] from 15 to 140 (fun sx wx => ∃ (q : Nat), sx = .int .i64 q ∧ i ≤ q ∧ q ≤ b ∧ Aside (SWK enc k w0 blk off dk wx) ∧ Hid (scanSorted (ltOf cf) dk b i = q))
      case first =>
        go_wp2_with fail
        go_loopg [9] (b - i) (fun g2 vx wy => ∃ (q : Nat), vx = .int .i64 q ∧ i ≤ q ∧ q ≤ b ∧ b - q ≤ g2 ∧ Aside (SWK enc k w0 blk off dk wy) ∧ Hid (scanSorted (ltOf cf) dk b i = scanSorted (ltOf cf) dk b q))
        case atStart => exact ⟨i, rfl, Nat.le_refl _, hib, Nat.le_refl _, S1, rfl⟩
        case round =>
          clear S1
          obtain ⟨q, rfl, hq1, hq2, hg2, T1, HQ⟩ := hrel
          by_cases hle : q < b
          · obtain ⟨qp, rfl⟩ : ∃ qp, q = qp + 1 := ⟨q - 1, by omega⟩
            have hgz : (qp : Int) + 1 < (b : Int) := by omega
            cases hl : ltOf cf dk[qp + 1]! dk[qp]! with
            | false =>
              have HN : Hid (scanSorted (ltOf cf) dk b i = scanSorted (ltOf cf) dk b (qp + 2)) := HQ.out.trans (scanSorted_go (ltOf cf) dk b (qp + 1) hle hl)
              obtain ⟨ea1, eb1, ec1, ed1⟩ := KK.out.at ((qp : Int) + 1) (qp + 1) (by omega) (by omega)
              obtain ⟨ea2, eb2, ec2, ed2⟩ := KK.out.at ((qp : Int)) (qp) (by omega) (by omega)
              obtain ⟨x3, y3, c3, hv3, la3, lb3, hc3, SG3⟩ := KK.out.test T1 (by omega) (qp + 1) (qp) (by omega) (by omega) false hl
              have HG3 := Lib.hid SG3
              clear SG3
              go_wp2_with fail
              go_quiet_grown (first | (go_at_fn g; refine hc3 _ _))
              have T2 := HG3.out nq osq
              clear la3 lb3 hc3 HG3 T1
              generalize grow (wr.drewN nq) osq = w2 at T2 ⊢
              clear nq osq
              clear hl
              go_wp2
              go_roundg (b - (qp + 2))
              case measure => omega
              case rel => exact ⟨qp + 2, by first | rfl | go_num | (congr 1; omega), by omega, by omega, Nat.le_refl _, T2, HN⟩
            | true =>
              have HN : Hid (scanSorted (ltOf cf) dk b i = qp + 1) := HQ.out.trans (scanSorted_stop (ltOf cf) dk b (qp + 1) (.inr hl))
              obtain ⟨ea4, eb4, ec4, ed4⟩ := KK.out.at ((qp : Int) + 1) (qp + 1) (by omega) (by omega)
              obtain ⟨ea5, eb5, ec5, ed5⟩ := KK.out.at ((qp : Int)) (qp) (by omega) (by omega)
              obtain ⟨x6, y6, c6, hv6, la6, lb6, hc6, SG6⟩ := KK.out.test T1 (by omega) (qp + 1) (qp) (by omega) (by omega) true hl
              have HG6 := Lib.hid SG6
              clear SG6
              go_wp2_with fail
              go_quiet_grown (first | (go_at_fn g; refine hc6 _ _))
              have T2 := HG6.out nq osq
              clear la6 lb6 hc6 HG6 T1
              generalize grow (wr.drewN nq) osq = w2 at T2 ⊢
              clear nq osq
              clear hl
              go_wp2
              go_meet
              exact ⟨qp + 1, by first | rfl | go_num, hq1, hq2, T2, HN⟩
          · have hgu : decide ((q : Int) < (b : Int)) = false := decide_eq_false (by omega)
            have hgz : ¬ (q : Int) < (b : Int) := by omega
            have HN : Hid (scanSorted (ltOf cf) dk b i = q) := HQ.out.trans (scanSorted_stop (ltOf cf) dk b q (.inl hle))
            have T2 : Aside (SWK enc k w0 blk off dk wr.drew) := T1.out.drew
            go_wp2_with fail
            go_big_region_o
            all_goals go_wp2
            go_meet
            exact ⟨q, rfl, hq1, hq2, T2, HN⟩
      case rest =>
        clear S1
        obtain ⟨q, rfl, hq1, hq2, S2, HQ⟩ := hcut
        by_cases hqb : q = b
        · have HE : Hid (R0 = (dk, true)) := HR.out.trans (pi_true (ltOf cf) a b s i dk hs (HQ.out.trans hqb))
          have t1 : ((q : Int) == (b : Int)) = true := by rw [hqb]; exact beq_self_eq_true _
          have t2 : (q : Int) = (b : Int) := by rw [hqb]
          have t3 : (q == b) = true := by rw [hqb]; exact beq_self_eq_true _
          clear HQ HR
          go_wp2
          go_ret
          rw [← HD.out, HE.out]
          exact ⟨rfl, S2⟩
        · have t1 : ((q : Int) == (b : Int)) = false := by rw [beq_eq_false_iff_ne]; omega
          have t2 : ¬ (q : Int) = (b : Int) := by omega
          have t3 : (q == b) = false := by rw [beq_eq_false_iff_ne]; exact hqb
          have r1 : IntKind.i64.wrap ((b : Int) - (a : Int)) = (b : Int) - (a : Int) := KK.out.wr _ (by omega) (by omega)
          by_cases h50 : b - a < 50
          · have u1 : decide ((b : Int) - (a : Int) < 50) = true := decide_eq_true (by omega)
            have u2 : (b : Int) - (a : Int) < 50 := by omega
            have HE : Hid (R0 = (dk, false)) := HR.out.trans (pi_short (ltOf cf) a b s i dk hs (by rw [HQ.out]; exact hqb) h50)
            clear HQ HR
            go_wp2
            go_ret
            rw [← HD.out, HE.out]
            exact ⟨rfl, S2⟩
          · have u1 : decide ((b : Int) - (a : Int) < 50) = false := decide_eq_false (by omega)
            have u2 : ¬ (b : Int) - (a : Int) < 50 := by omega
            have HE : Hid (R0 = partialIns (ltOf cf) a b (5 - (s + 1)) q (fixUp (ltOf cf) b q (fixDown (ltOf cf) a q (swp dk q (q - 1))))) := HR.out.trans (pi_go (ltOf cf) a b s i q dk hs HQ.out hqb h50)
            clear HQ HR
            obtain ⟨qp, rfl⟩ : ∃ qp, q = qp + 1 := ⟨q - 1, by omega⟩
            rw [Nat.add_sub_cancel] at HE
            go_wp2_with fail
            obtain ⟨ea7, eb7, ec7, ed7⟩ := KK.out.at ((qp : Int) + 1) (qp + 1) (by omega) (by omega)
            obtain ⟨ea8, eb8, ec8, ed8⟩ := KK.out.at ((qp : Int)) (qp) (by omega) (by omega)
            obtain ⟨ci9, cj9, wa9, w3, na9, nb9, la9, lb9, sa9, sb9, S3⟩ := KK.out.swap S2 (by omega) (qp + 1) (qp) (by omega) (by omega)
            go_wp2_with fail
            go_big_region_o
            clear la9 lb9 sa9 sb9 S2
            have hs3 : (swp dk (qp + 1) qp).size = N := by rw [size_swp]; exact hds
            generalize swp dk (qp + 1) qp = d3 at HE S3 hs3
            clear u1 u2 t1 t2 t3 r1
            have r2 : IntKind.i64.wrap ((qp : Int) + 1 - (a : Int)) = (qp : Int) + 1 - (a : Int) := KK.out.wr _ (by omega) (by omega)
            have r3 : IntKind.i64.wrap ((b : Int) - ((qp : Int) + 1)) = (b : Int) - ((qp : Int) + 1) := KK.out.wr _ (by omega) (by omega)
            go_upto_if 65 with fail
            go_cut [11] from 15 to 140 (fun sx wx => ∃ d4 : Array α, d4.size = N ∧ Aside (SWK enc k w0 blk off d4 wx) ∧ Hid (d4 = fixDown (ltOf cf) a (qp + 1) d3))
            case first =>
              by_cases h2 : 2 ≤ qp + 1 - a
              · have z1 : decide ((2 : Int) ≤ (qp : Int) + 1 - (a : Int)) = true := decide_eq_true (by omega)
                have z2 : (2 : Int) ≤ (qp : Int) + 1 - (a : Int) := by omega
                have HF : Hid (shiftDown (ltOf cf) qp d3 = fixDown (ltOf cf) a (qp + 1) d3) := by
                  show _ = _
                  unfold fixDown
                  rw [if_pos h2]
                  rfl
                simp only [z1]
                go_wp2_with fail
                go_loopg [11] qp (fun g3 vx wy => ∃ (j : Nat) (dj : Array α), vx = .int .i64 j ∧ j ≤ qp ∧ j ≤ g3 ∧ dj.size = N ∧ Aside (SWK enc k w0 blk off dj wy) ∧ Hid (shiftDown (ltOf cf) j dj = fixDown (ltOf cf) a (qp + 1) d3))
                case atStart => exact ⟨qp, d3, by first | rfl | go_num, Nat.le_refl _, Nat.le_refl _, hs3, S3, HF.out⟩
                case round =>
                  clear S3 HF
                  obtain ⟨j, dj, rfl, hj1, hg3, hsj, T1, HQ⟩ := hrel
                  by_cases h1 : 1 ≤ j
                  · obtain ⟨jp, rfl⟩ : ∃ jp, j = jp + 1 := ⟨j - 1, by omega⟩
                    have z3 : (1 : Int) ≤ (jp : Int) + 1 := by omega
                    have z4 : (0 : Int) ≤ (jp : Int) := by omega
                    cases hl : ltOf cf dj[jp + 1]! dj[jp]! with
                    | true =>
                      have HN : Hid (shiftDown (ltOf cf) jp (swp dj (jp + 1) jp) = fixDown (ltOf cf) a (qp + 1) d3) := by show _ = _; rw [← HQ.out, shiftDown_go (ltOf cf) (jp + 1) dj h1 hl]; rfl
                      obtain ⟨ea10, eb10, ec10, ed10⟩ := KK.out.at ((jp : Int) + 1) (jp + 1) (by omega) (by omega)
                      obtain ⟨ea11, eb11, ec11, ed11⟩ := KK.out.at ((jp : Int)) (jp) (by omega) (by omega)
                      obtain ⟨x12, y12, c12, hv12, la12, lb12, hc12, SG12⟩ := KK.out.test T1 (by omega) (jp + 1) (jp) (by omega) (by omega) true hl
                      have HG12 := Lib.hid SG12
                      clear SG12
                      go_wp2_with fail
                      go_quiet_grown (first | (go_at_fn g; refine hc12 _ _))
                      have T2 := HG12.out nq osq
                      clear la12 lb12 hc12 HG12 T1
                      generalize grow (wr.drewN nq) osq = w5 at T2 ⊢
                      clear nq osq
                      clear hl
                      obtain ⟨ci13, cj13, wa13, w6, na13, nb13, la13, lb13, sa13, sb13, T3⟩ := KK.out.swap T2 (by omega) (jp + 1) (jp) (by omega) (by omega)
                      go_wp2_with fail
                      go_big_region_o
                      clear la13 lb13 sa13 sb13 T2
                      go_wp2
                      go_roundg jp
                      case measure => omega
                      case rel => exact ⟨jp, swp dj (jp + 1) jp, by first | rfl | go_num | (congr 1; omega), by omega, Nat.le_refl _, by rw [size_swp]; exact hsj, T3, HN⟩
                    | false =>
                      have HN : Hid (dj = fixDown (ltOf cf) a (qp + 1) d3) := by show _ = _; rw [← HQ.out, shiftDown_stop (ltOf cf) (jp + 1) dj (.inr hl)]
                      obtain ⟨ea14, eb14, ec14, ed14⟩ := KK.out.at ((jp : Int) + 1) (jp + 1) (by omega) (by omega)
                      obtain ⟨ea15, eb15, ec15, ed15⟩ := KK.out.at ((jp : Int)) (jp) (by omega) (by omega)
                      obtain ⟨x16, y16, c16, hv16, la16, lb16, hc16, SG16⟩ := KK.out.test T1 (by omega) (jp + 1) (jp) (by omega) (by omega) false hl
                      have HG16 := Lib.hid SG16
                      clear SG16
                      go_wp2_with fail
                      go_quiet_grown (first | (go_at_fn g; refine hc16 _ _))
                      have T2 := HG16.out nq osq
                      clear la16 lb16 hc16 HG16 T1
                      generalize grow (wr.drewN nq) osq = w5 at T2 ⊢
                      clear nq osq
                      clear hl
                      go_wp2
                      go_meet
                      exact ⟨dj, hsj, T2, HN⟩
                  · obtain rfl : j = 0 := by omega
                    have HN : Hid (dj = fixDown (ltOf cf) a (qp + 1) d3) := by show _ = _; rw [← HQ.out, shiftDown_stop (ltOf cf) 0 dj (.inl rfl)]
                    go_wp2
                    go_meet
                    exact ⟨dj, hsj, T1, HN⟩
              · have z1 : decide ((2 : Int) ≤ (qp : Int) + 1 - (a : Int)) = false := decide_eq_false (by omega)
                have z2 : ¬ (2 : Int) ≤ (qp : Int) + 1 - (a : Int) := by omega
                have HF : Hid (d3 = fixDown (ltOf cf) a (qp + 1) d3) := by
                  show _ = _
                  unfold fixDown
                  rw [if_neg h2]
                go_wp2
                go_meet
                exact ⟨d3, hs3, S3, HF⟩
            case rest =>
              clear S3
              obtain ⟨d4, hs4, S4, HD4⟩ := hcut
              rw [← HD4.out] at HE
              clear HD4 hs3
              generalize wc = w7 at S4 ⊢
              by_cases h2 : 2 ≤ b - (qp + 1)
              · have z1 : decide ((2 : Int) ≤ (b : Int) - ((qp : Int) + 1)) = true := decide_eq_true (by omega)
                have z2 : (2 : Int) ≤ (b : Int) - ((qp : Int) + 1) := by omega
                have HF : Hid (shiftUp (ltOf cf) b (qp + 2) d4 = fixUp (ltOf cf) b (qp + 1) d4) := by
                  show _ = _
                  unfold fixUp
                  rw [if_pos h2]
                go_wp2_with fail
                go_loopg [12] (b - (qp + 2)) (fun g3 vx wy => ∃ (j : Nat) (dj : Array α), vx = .int .i64 ((j : Int) + 1) ∧ qp + 1 ≤ j ∧ j + 1 ≤ b ∧ b - (j + 1) ≤ g3 ∧ dj.size = N ∧ Aside (SWK enc k w0 blk off dj wy) ∧ Hid (shiftUp (ltOf cf) b (j + 1) dj = fixUp (ltOf cf) b (qp + 1) d4))
                case atStart => exact ⟨qp + 1, d4, by first | rfl | go_num | (congr 1; omega), Nat.le_refl _, by omega, Nat.le_refl _, hs4, S4, HF.out⟩
                case round =>
                  clear S4 HF
                  obtain ⟨j, dj, rfl, hj1, hj2, hg3, hsj, T1, HQ⟩ := hrel
                  by_cases h1 : j + 1 < b
                  · have z3 : (j : Int) + 1 < (b : Int) := by omega
                    cases hl : ltOf cf dj[j + 1]! dj[j]! with
                    | true =>
                      have HN : Hid (shiftUp (ltOf cf) b (j + 2) (swp dj (j + 1) j) = fixUp (ltOf cf) b (qp + 1) d4) := by show _ = _; rw [← HQ.out, shiftUp_go (ltOf cf) b (j + 1) dj h1 hl]; rfl
                      obtain ⟨ea17, eb17, ec17, ed17⟩ := KK.out.at ((j : Int) + 1) (j + 1) (by omega) (by omega)
                      obtain ⟨ea18, eb18, ec18, ed18⟩ := KK.out.at ((j : Int)) (j) (by omega) (by omega)
                      obtain ⟨x19, y19, c19, hv19, la19, lb19, hc19, SG19⟩ := KK.out.test T1 (by omega) (j + 1) (j) (by omega) (by omega) true hl
                      have HG19 := Lib.hid SG19
                      clear SG19
                      go_wp2_with fail
                      go_quiet_grown (first | (go_at_fn g; refine hc19 _ _))
                      have T2 := HG19.out nq osq
                      clear la19 lb19 hc19 HG19 T1
                      generalize grow (wr.drewN nq) osq = w5 at T2 ⊢
                      clear nq osq
                      clear hl
                      obtain ⟨ci20, cj20, wa20, w6, na20, nb20, la20, lb20, sa20, sb20, T3⟩ := KK.out.swap T2 (by omega) (j + 1) (j) (by omega) (by omega)
                      go_wp2_with fail
                      go_big_region_o
                      clear la20 lb20 sa20 sb20 T2
                      go_wp2
                      go_roundg (b - (j + 2))
                      case measure => omega
                      case rel => exact ⟨j + 1, swp dj (j + 1) j, by first | rfl | go_num | (congr 1; omega), by omega, by omega, Nat.le_refl _, by rw [size_swp]; exact hsj, T3, HN⟩
                    | false =>
                      have HN : Hid (dj = fixUp (ltOf cf) b (qp + 1) d4) := by show _ = _; rw [← HQ.out, shiftUp_stop (ltOf cf) b (j + 1) dj (.inr hl)]
                      have HX : Hid (R0 = partialIns (ltOf cf) a b (5 - (s + 1)) (qp + 1) dj) := by show _ = _; rw [HN.out]; exact HE.out
                      clear HN HE HQ
                      obtain ⟨ea21, eb21, ec21, ed21⟩ := KK.out.at ((j : Int) + 1) (j + 1) (by omega) (by omega)
                      obtain ⟨ea22, eb22, ec22, ed22⟩ := KK.out.at ((j : Int)) (j) (by omega) (by omega)
                      obtain ⟨x23, y23, c23, hv23, la23, lb23, hc23, SG23⟩ := KK.out.test T1 (by omega) (j + 1) (j) (by omega) (by omega) false hl
                      have HG23 := Lib.hid SG23
                      clear SG23
                      go_wp2_with fail
                      go_quiet_grown (first | (go_at_fn g; refine hc23 _ _))
                      have T2 := HG23.out nq osq
                      clear la23 lb23 hc23 HG23 T1
                      generalize grow (wr.drewN nq) osq = w5 at T2 ⊢
                      clear nq osq
                      clear hl
                      go_wp2
                      go_roundg (5 - (s + 1))
                      case measure => omega
                      case rel => exact ⟨qp + 1, s + 1, dj, by first | rfl | go_num, by first | rfl | go_num, by omega, Nat.le_refl _, by omega, by omega, hsj, T2, HX⟩
                  · have z3 : ¬ (j : Int) + 1 < (b : Int) := by omega
                    have HN : Hid (dj = fixUp (ltOf cf) b (qp + 1) d4) := by show _ = _; rw [← HQ.out, shiftUp_stop (ltOf cf) b (j + 1) dj (.inl h1)]
                    have HX : Hid (R0 = partialIns (ltOf cf) a b (5 - (s + 1)) (qp + 1) dj) := by show _ = _; rw [HN.out]; exact HE.out
                    clear HN HE HQ
                    go_wp2
                    go_roundg (5 - (s + 1))
                    case measure => omega
                    case rel => exact ⟨qp + 1, s + 1, dj, by first | rfl | go_num, by first | rfl | go_num, by omega, Nat.le_refl _, by omega, by omega, hsj, T1, HX⟩
              · have z1 : decide ((2 : Int) ≤ (b : Int) - ((qp : Int) + 1)) = false := decide_eq_false (by omega)
                have z2 : ¬ (2 : Int) ≤ (b : Int) - ((qp : Int) + 1) := by omega
                have HX : Hid (R0 = partialIns (ltOf cf) a b (5 - (s + 1)) (qp + 1) d4) := by
                  show _ = _
                  rw [HE.out]
                  unfold fixUp
                  rw [if_neg h2]
                clear HE
                go_wp2
                go_roundg (5 - (s + 1))
                case measure => omega
                case rel => exact ⟨qp + 1, s + 1, d4, by first | rfl | go_num, by first | rfl | go_num, by omega, Nat.le_refl _, by omega, by omega, hs4, S4, HX⟩
    · obtain rfl : s = 5 := by omega
      have HE : Hid (R0 = (dk, false)) := HR.out.trans (pi_end (ltOf cf) a b i dk)
      clear HR
      go_wp2
      go_ret
      rw [← HD.out, HE.out]
      exact ⟨rfl, S1⟩
end
end Go.Proofs.Ytmephmjlajaopaa
