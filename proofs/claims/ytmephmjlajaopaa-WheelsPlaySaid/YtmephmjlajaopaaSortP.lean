/- slices.partitionCmpFunc, its order a method value. Written by gen_sortp.py. -/
import Derived.Test.YtmephmjlajaopaaSortA
import Derived.Sort.WalkC4
import Derived.Deep.CutBlock
import Derived.Deep.DeepCutAuto
namespace Go.Proofs.Ytmephmjlajaopaa
set_option linter.unusedVariables false
set_option linter.unusedSimpArgs false
open Go.Shelf Go.RowKit Go.Lib Go.Sort
section
variable {P : Program} {ρ : Ren} {α : Type} [Inhabited α] {g : Nat} {v : Value} {enc : α → List Value} {k : Nat} {cf : α → α → Int} {blk off N : Nat} {d0 : Array α} {w0 : World}
set_option maxHeartbeats 16000000 in
set_option maxRecDepth 1000000 in
theorem sPartition_ (L : SlLaysF0.n27 P ρ) (aE : ∀ w, (isAgg (ρ.t 24)).run P w = .ok true w) (zE : ∀ w, (Go.sizeOf (ρ.t 24)).run P w = .ok k w) (K : Srt P g v enc k cf blk off N d0 w0) (cap a b pivot : Nat) (d : Array α) (w : World) (hd : d.size = N) (S : Aside (SWK enc k w0 blk off d w)) (hap : a ≤ pivot) (hpb : pivot < b) (hb : b ≤ N) :
    Calls P (ρ.f 27) #[.slice (some ⟨blk, off, none⟩) N cap, .int .i64 a, .int .i64 b, .int .i64 pivot, .func (.func g) #[v] #[]] w fun e w' => e = .returned (.tuple #[.int .i64 (partition (ltOf cf) d a b pivot).1, .bool (partition (ltOf cf) d a b pivot).2.1]) ∧ Aside (SWK enc k w0 blk off (partition (ltOf cf) d a b pivot).2.2 w') := by
  obtain ⟨mixed, _, t0, a0, z0, v0, t3, a3, z3, v3, t4, a4, z4, v4, t22, a22, z22, v22, t25, a25, z25, v25⟩ := id L
  obtain ⟨_, _, FG⟩ := L.f27
  have few := K.few
  have eg := K.eg
  have KK : Aside _ := K
  clear K
  go_enter FG, SlBodyF.n27_ntmps ρ
  go_wp2_with fail
  obtain ⟨ea1, eb1, ec1, ed1⟩ := KK.out.at ((a : Int)) (a) (by omega) (by omega)
  obtain ⟨ea2, eb2, ec2, ed2⟩ := KK.out.at ((pivot : Int)) (pivot) (by omega) (by omega)
  obtain ⟨ci3, cj3, wa3, w1, na3, nb3, la3, lb3, sa3, sb3, S1⟩ := KK.out.swap S (by omega) (a) (pivot) (by omega) (by omega)
  go_wp2_with fail
  go_big_region_o
  clear la3 lb3 sa3 sb3 S
  obtain ⟨i1, hi⟩ : ∃ i : Nat, i = a + 1 := ⟨_, rfl⟩
  obtain ⟨j1, hj⟩ : ∃ j : Nat, j = b - 1 := ⟨_, rfl⟩
  obtain ⟨dk1, hdk⟩ : ∃ dk : Array α, dk = swp d a pivot := ⟨_, rfl⟩
  rw [← hdk] at S1
  have hs1 : dk1.size = N := by rw [hdk, size_swp]; exact hd
  have ha1 : a < i1 := by omega
  have hij : i1 ≤ j1 + 1 := by omega
  have hjb : j1 < b := by omega
  have Hi := Lib.hid hi
  have Hj := Lib.hid hj
  have Hdk := Lib.hid hdk
  have ezi : ((a : Int) + 1) = (i1 : Int) := by omega
  have ezj : ((b : Int) - 1) = (j1 : Int) := by omega
  clear hi hj hdk hd
  go_upto_block 0 with fail
  go_cut [12] from 32 (fun sx wx => ∃ (q : Nat), sx = .int .i64 q ∧ i1 ≤ q ∧ q ≤ j1 + 1 ∧ Aside (SWK enc k w0 blk off dk1 wx) ∧ Hid (q = scanUp (fun x => ltOf cf x dk1[a]!) dk1 j1 i1))
  case first =>
    go_wp2_with fail
    go_loopw [12] (fun vx wy => ∃ (q : Nat), vx = .int .i64 q ∧ i1 ≤ q ∧ q ≤ j1 + 1 ∧ Aside (SWK enc k w0 blk off dk1 wy) ∧ Hid (scanUp (fun x => ltOf cf x dk1[a]!) dk1 j1 q = scanUp (fun x => ltOf cf x dk1[a]!) dk1 j1 i1)) (fun vx _ => j1 + 1 - (intOf vx).toNat)
    case atStart => exact ⟨i1, rfl, by omega, by omega, S1, rfl⟩
    case round =>
      clear S1
      obtain ⟨q, rfl, hq1, hq2, T1, HQ⟩ := hrel
      by_cases hle : q ≤ j1
      · have hgu : decide ((q : Int) ≤ (j1 : Int)) = true := decide_eq_true (by omega)
        have hgz : (q : Int) ≤ (j1 : Int) := by omega
        cases hl : ltOf cf dk1[q]! dk1[a]! with
        | true =>
          have HN : Hid (scanUp (fun x => ltOf cf x dk1[a]!) dk1 j1 (q + 1) = scanUp (fun x => ltOf cf x dk1[a]!) dk1 j1 i1) := (scanUp_go (fun x => ltOf cf x dk1[a]!) dk1 j1 q hle (by simp [hl])).symm.trans HQ.out
          obtain ⟨ea4, eb4, ec4, ed4⟩ := KK.out.at ((q : Int)) (q) (by omega) (by omega)
          obtain ⟨ea5, eb5, ec5, ed5⟩ := KK.out.at ((a : Int)) (a) (by omega) (by omega)
          obtain ⟨x6, y6, c6, hv6, la6, lb6, hc6, SG6⟩ := KK.out.test T1 (by omega) (q) (a) (by omega) (by omega) true hl
          have HG6 := Lib.hid SG6
          clear SG6
          go_wp2_with fail
          go_quiet_grown (first | (go_at_fn g; refine hc6 _ _))
          have T2 := HG6.out nq osq
          clear la6 lb6 hc6 HG6 T1
          generalize grow (wr.drewN nq) osq = w2 at T2 ⊢
          clear nq osq
          clear hl
          go_wp2
          go_roundw
          case rel => exact ⟨q + 1, by first | rfl | go_num | (congr 1; omega), by omega, by omega, T2, HN⟩
          case measure => simp [intOf]; omega
        | false =>
          have HN : Hid (q = scanUp (fun x => ltOf cf x dk1[a]!) dk1 j1 i1) := (scanUp_end (fun x => ltOf cf x dk1[a]!) dk1 j1 q (.inr (by simp [hl]))).symm.trans HQ.out
          obtain ⟨ea7, eb7, ec7, ed7⟩ := KK.out.at ((q : Int)) (q) (by omega) (by omega)
          obtain ⟨ea8, eb8, ec8, ed8⟩ := KK.out.at ((a : Int)) (a) (by omega) (by omega)
          obtain ⟨x9, y9, c9, hv9, la9, lb9, hc9, SG9⟩ := KK.out.test T1 (by omega) (q) (a) (by omega) (by omega) false hl
          have HG9 := Lib.hid SG9
          clear SG9
          go_wp2_with fail
          go_quiet_grown (first | (go_at_fn g; refine hc9 _ _))
          have T2 := HG9.out nq osq
          clear la9 lb9 hc9 HG9 T1
          generalize grow (wr.drewN nq) osq = w2 at T2 ⊢
          clear nq osq
          clear hl
          go_wp2
          go_meet
          exact ⟨q, rfl, hq1, hq2, T2, HN⟩
      · have hgu : decide ((q : Int) ≤ (j1 : Int)) = false := decide_eq_false (by omega)
        have hgz : ¬ (q : Int) ≤ (j1 : Int) := by omega
        have HN : Hid (q = scanUp (fun x => ltOf cf x dk1[a]!) dk1 j1 i1) := (scanUp_end (fun x => ltOf cf x dk1[a]!) dk1 j1 q (.inl hle)).symm.trans HQ.out
        have T2 : Aside (SWK enc k w0 blk off dk1 wr.drew) := T1.out.drew
        go_wp2_with fail
        go_big_region_o
        all_goals go_wp2
        go_meet
        exact ⟨q, rfl, hq1, hq2, T2, HN⟩
  case rest =>
    clear S1
    obtain ⟨p1, rfl, p1a, p1b, S2, HP⟩ := hcut
    generalize wc = w2 at S2 ⊢
    go_upto_block 2 with fail
    go_cut [13] from 50 (fun sx wx => ∃ (q : Nat), sx = .int .i64 q ∧ q ≤ j1 ∧ p1 ≤ q + 1 ∧ Aside (SWK enc k w0 blk off dk1 wx) ∧ Hid (q = scanDown (fun x => !ltOf cf x dk1[a]!) dk1 p1 j1))
    case first =>
      go_wp2_with fail
      go_loopw [13] (fun vx wy => ∃ (q : Nat), vx = .int .i64 q ∧ q ≤ j1 ∧ p1 ≤ q + 1 ∧ Aside (SWK enc k w0 blk off dk1 wy) ∧ Hid (scanDown (fun x => !ltOf cf x dk1[a]!) dk1 p1 q = scanDown (fun x => !ltOf cf x dk1[a]!) dk1 p1 j1)) (fun vx _ => (intOf vx).toNat)
      case atStart => exact ⟨j1, rfl, by omega, by omega, S2, rfl⟩
      case round =>
        clear S2
        obtain ⟨q, rfl, hq1, hq2, T1, HQ⟩ := hrel
        by_cases hle : p1 ≤ q
        · have hgu : decide ((p1 : Int) ≤ (q : Int)) = true := decide_eq_true (by omega)
          have hgz : (p1 : Int) ≤ (q : Int) := by omega
          cases hl : ltOf cf dk1[q]! dk1[a]! with
          | false =>
            have HN : Hid (scanDown (fun x => !ltOf cf x dk1[a]!) dk1 p1 (q - 1) = scanDown (fun x => !ltOf cf x dk1[a]!) dk1 p1 j1) := (scanDown_go (fun x => !ltOf cf x dk1[a]!) dk1 p1 q hle (by omega) (by simp [hl])).symm.trans HQ.out
            obtain ⟨ea10, eb10, ec10, ed10⟩ := KK.out.at ((q : Int)) (q) (by omega) (by omega)
            obtain ⟨ea11, eb11, ec11, ed11⟩ := KK.out.at ((a : Int)) (a) (by omega) (by omega)
            obtain ⟨x12, y12, c12, hv12, la12, lb12, hc12, SG12⟩ := KK.out.test T1 (by omega) (q) (a) (by omega) (by omega) false hl
            have HG12 := Lib.hid SG12
            clear SG12
            go_wp2_with fail
            go_quiet_grown (first | (go_at_fn g; refine hc12 _ _))
            have T2 := HG12.out nq osq
            clear la12 lb12 hc12 HG12 T1
            generalize grow (wr.drewN nq) osq = w2 at T2 ⊢
            clear nq osq
            clear hl
            go_wp2
            go_roundw
            case rel => exact ⟨q - 1, by first | rfl | go_num | (congr 1; omega), by omega, by omega, T2, HN⟩
            case measure => simp [intOf]; omega
          | true =>
            have HN : Hid (q = scanDown (fun x => !ltOf cf x dk1[a]!) dk1 p1 j1) := (scanDown_end (fun x => !ltOf cf x dk1[a]!) dk1 p1 q (.inr (by simp [hl]))).symm.trans HQ.out
            obtain ⟨ea13, eb13, ec13, ed13⟩ := KK.out.at ((q : Int)) (q) (by omega) (by omega)
            obtain ⟨ea14, eb14, ec14, ed14⟩ := KK.out.at ((a : Int)) (a) (by omega) (by omega)
            obtain ⟨x15, y15, c15, hv15, la15, lb15, hc15, SG15⟩ := KK.out.test T1 (by omega) (q) (a) (by omega) (by omega) true hl
            have HG15 := Lib.hid SG15
            clear SG15
            go_wp2_with fail
            go_quiet_grown (first | (go_at_fn g; refine hc15 _ _))
            have T2 := HG15.out nq osq
            clear la15 lb15 hc15 HG15 T1
            generalize grow (wr.drewN nq) osq = w2 at T2 ⊢
            clear nq osq
            clear hl
            go_wp2
            go_meet
            exact ⟨q, rfl, hq1, hq2, T2, HN⟩
        · have hgu : decide ((p1 : Int) ≤ (q : Int)) = false := decide_eq_false (by omega)
          have hgz : ¬ (p1 : Int) ≤ (q : Int) := by omega
          have HN : Hid (q = scanDown (fun x => !ltOf cf x dk1[a]!) dk1 p1 j1) := (scanDown_end (fun x => !ltOf cf x dk1[a]!) dk1 p1 q (.inl hle)).symm.trans HQ.out
          have T2 : Aside (SWK enc k w0 blk off dk1 wr.drew) := T1.out.drew
          go_wp2_with fail
          go_big_region_o
          all_goals go_wp2
          go_meet
          exact ⟨q, rfl, hq1, hq2, T2, HN⟩
    case rest =>
      clear S2
      obtain ⟨q1, rfl, q1a, q1b, S3, HQ1⟩ := hcut
      generalize wc = w3 at S3 ⊢
      by_cases hgt : q1 < p1
      · have hz : (q1 : Int) < (p1 : Int) := by omega
        have hz2 : decide ((q1 : Int) < (p1 : Int)) = true := decide_eq_true hz
        go_wp2_with fail
        obtain ⟨ea16, eb16, ec16, ed16⟩ := KK.out.at ((q1 : Int)) (q1) (by omega) (by omega)
        obtain ⟨ea17, eb17, ec17, ed17⟩ := KK.out.at ((a : Int)) (a) (by omega) (by omega)
        obtain ⟨ci18, cj18, wa18, w4, na18, nb18, la18, lb18, sa18, sb18, S4⟩ := KK.out.swap S3 (by omega) (q1) (a) (by omega) (by omega)
        go_wp2_with fail
        go_big_region_o
        clear la18 lb18 sa18 sb18 S3
        have HF : Hid (partition (ltOf cf) d a b pivot = (q1, true, swp dk1 q1 a)) := part_first_break (ltOf cf) d a b pivot Hi.out Hj.out Hdk.out HP.out HQ1.out hgt
        go_wp2
        go_ret2
        rw [HF.out]
        exact ⟨rfl, S4⟩
      · have hz : ¬ (q1 : Int) < (p1 : Int) := by omega
        have hz2 : decide ((q1 : Int) < (p1 : Int)) = false := decide_eq_false hz
        have hlt := part_scans_lt (ltOf cf) a i1 j1 dk1 (by omega) HP.out HQ1.out (by omega)
        have HF : Hid (partition (ltOf cf) d a b pivot = ((partLoop (ltOf cf) a (p1 + 1) (q1 - 1) (swp dk1 p1 q1)).1, false, swp (partLoop (ltOf cf) a (p1 + 1) (q1 - 1) (swp dk1 p1 q1)).2 (partLoop (ltOf cf) a (p1 + 1) (q1 - 1) (swp dk1 p1 q1)).1 a)) := part_first_go (ltOf cf) d a b pivot Hi.out Hj.out Hdk.out HP.out HQ1.out (by omega)
        clear HP HQ1 Hi Hj Hdk ezi ezj
        go_wp2_with fail
        obtain ⟨ea19, eb19, ec19, ed19⟩ := KK.out.at ((p1 : Int)) (p1) (by omega) (by omega)
        obtain ⟨ea20, eb20, ec20, ed20⟩ := KK.out.at ((q1 : Int)) (q1) (by omega) (by omega)
        obtain ⟨ci21, cj21, wa21, w4, na21, nb21, la21, lb21, sa21, sb21, S4⟩ := KK.out.swap S3 (by omega) (p1) (q1) (by omega) (by omega)
        go_wp2_with fail
        go_big_region_o
        clear la21 lb21 sa21 sb21 S3
        obtain ⟨R0, hR0⟩ : ∃ r, r = partLoop (ltOf cf) a (p1 + 1) (q1 - 1) (swp dk1 p1 q1) := ⟨_, rfl⟩
        rw [← hR0] at HF
        have hs4 : (swp dk1 p1 q1).size = N := by rw [size_swp]; exact hs1
        have HR0 := Lib.hid hR0
        clear hR0
        go_wp2
        go_loopw [12, 13] (fun vi vj wr => ∃ (i2 j2 : Nat) (dk2 : Array α), vi = .int .i64 i2 ∧ vj = .int .i64 j2 ∧ a < i2 ∧ i2 ≤ j2 + 1 ∧ j2 < b ∧ dk2.size = N ∧ Aside (SWK enc k w0 blk off dk2 wr) ∧ Hid (R0 = partLoop (ltOf cf) a i2 j2 dk2)) (fun vi vj _ => (intOf vj).toNat + 1 - (intOf vi).toNat)
        case atStart => exact ⟨p1 + 1, q1 - 1, swp dk1 p1 q1, by go_num, by go_num, by omega, by omega, by omega, hs4, S4, HR0.out⟩
        case round =>
          clear S4 HR0 hs4
          obtain ⟨i2, j2, dk2, rfl, rfl, hi2, hij2, hj2, hs2, T0, HR⟩ := hrel
          go_upto_block 6 with fail
          go_cut [12] from 105 to 162 (fun sx wx => ∃ (q : Nat), sx = .int .i64 q ∧ i2 ≤ q ∧ q ≤ j2 + 1 ∧ Aside (SWK enc k w0 blk off dk2 wx) ∧ Hid (q = scanUp (fun x => ltOf cf x dk2[a]!) dk2 j2 i2))
          case first =>
            go_wp2_with fail
            go_loopw [12] (fun vx wy => ∃ (q : Nat), vx = .int .i64 q ∧ i2 ≤ q ∧ q ≤ j2 + 1 ∧ Aside (SWK enc k w0 blk off dk2 wy) ∧ Hid (scanUp (fun x => ltOf cf x dk2[a]!) dk2 j2 q = scanUp (fun x => ltOf cf x dk2[a]!) dk2 j2 i2)) (fun vx _ => j2 + 1 - (intOf vx).toNat)
            case atStart => exact ⟨i2, rfl, by omega, by omega, T0, rfl⟩
            case round =>
              clear T0
              obtain ⟨q, rfl, hq1, hq2, T1, HQ⟩ := hrel
              by_cases hle : q ≤ j2
              · have hgu : decide ((q : Int) ≤ (j2 : Int)) = true := decide_eq_true (by omega)
                have hgz : (q : Int) ≤ (j2 : Int) := by omega
                cases hl : ltOf cf dk2[q]! dk2[a]! with
                | true =>
                  have HN : Hid (scanUp (fun x => ltOf cf x dk2[a]!) dk2 j2 (q + 1) = scanUp (fun x => ltOf cf x dk2[a]!) dk2 j2 i2) := (scanUp_go (fun x => ltOf cf x dk2[a]!) dk2 j2 q hle (by simp [hl])).symm.trans HQ.out
                  obtain ⟨ea22, eb22, ec22, ed22⟩ := KK.out.at ((q : Int)) (q) (by omega) (by omega)
                  obtain ⟨ea23, eb23, ec23, ed23⟩ := KK.out.at ((a : Int)) (a) (by omega) (by omega)
                  obtain ⟨x24, y24, c24, hv24, la24, lb24, hc24, SG24⟩ := KK.out.test T1 (by omega) (q) (a) (by omega) (by omega) true hl
                  have HG24 := Lib.hid SG24
                  clear SG24
                  go_wp2_with fail
                  go_quiet_grown (first | (go_at_fn g; refine hc24 _ _))
                  have T2 := HG24.out nq osq
                  clear la24 lb24 hc24 HG24 T1
                  generalize grow (wr.drewN nq) osq = w2 at T2 ⊢
                  clear nq osq
                  clear hl
                  go_wp2
                  go_roundw
                  case rel => exact ⟨q + 1, by first | rfl | go_num | (congr 1; omega), by omega, by omega, T2, HN⟩
                  case measure => simp [intOf]; omega
                | false =>
                  have HN : Hid (q = scanUp (fun x => ltOf cf x dk2[a]!) dk2 j2 i2) := (scanUp_end (fun x => ltOf cf x dk2[a]!) dk2 j2 q (.inr (by simp [hl]))).symm.trans HQ.out
                  obtain ⟨ea25, eb25, ec25, ed25⟩ := KK.out.at ((q : Int)) (q) (by omega) (by omega)
                  obtain ⟨ea26, eb26, ec26, ed26⟩ := KK.out.at ((a : Int)) (a) (by omega) (by omega)
                  obtain ⟨x27, y27, c27, hv27, la27, lb27, hc27, SG27⟩ := KK.out.test T1 (by omega) (q) (a) (by omega) (by omega) false hl
                  have HG27 := Lib.hid SG27
                  clear SG27
                  go_wp2_with fail
                  go_quiet_grown (first | (go_at_fn g; refine hc27 _ _))
                  have T2 := HG27.out nq osq
                  clear la27 lb27 hc27 HG27 T1
                  generalize grow (wr.drewN nq) osq = w2 at T2 ⊢
                  clear nq osq
                  clear hl
                  go_wp2
                  go_meet
                  exact ⟨q, rfl, hq1, hq2, T2, HN⟩
              · have hgu : decide ((q : Int) ≤ (j2 : Int)) = false := decide_eq_false (by omega)
                have hgz : ¬ (q : Int) ≤ (j2 : Int) := by omega
                have HN : Hid (q = scanUp (fun x => ltOf cf x dk2[a]!) dk2 j2 i2) := (scanUp_end (fun x => ltOf cf x dk2[a]!) dk2 j2 q (.inl hle)).symm.trans HQ.out
                have T2 : Aside (SWK enc k w0 blk off dk2 wr.drew) := T1.out.drew
                go_wp2_with fail
                go_big_region_o
                all_goals go_wp2
                go_meet
                exact ⟨q, rfl, hq1, hq2, T2, HN⟩
          case rest =>
            clear T0
            obtain ⟨p2, rfl, p2a, p2b, T3, HP⟩ := hcut
            generalize wc = w6 at T3 ⊢
            go_upto_block 8 with fail
            go_cut [13] from 105 to 162 (fun sx wx => ∃ (q : Nat), sx = .int .i64 q ∧ q ≤ j2 ∧ p2 ≤ q + 1 ∧ Aside (SWK enc k w0 blk off dk2 wx) ∧ Hid (q = scanDown (fun x => !ltOf cf x dk2[a]!) dk2 p2 j2))
            case first =>
              go_wp2_with fail
              go_loopw [13] (fun vx wy => ∃ (q : Nat), vx = .int .i64 q ∧ q ≤ j2 ∧ p2 ≤ q + 1 ∧ Aside (SWK enc k w0 blk off dk2 wy) ∧ Hid (scanDown (fun x => !ltOf cf x dk2[a]!) dk2 p2 q = scanDown (fun x => !ltOf cf x dk2[a]!) dk2 p2 j2)) (fun vx _ => (intOf vx).toNat)
              case atStart => exact ⟨j2, rfl, by omega, by omega, T3, rfl⟩
              case round =>
                clear T3
                obtain ⟨q, rfl, hq1, hq2, T1, HQ⟩ := hrel
                by_cases hle : p2 ≤ q
                · have hgu : decide ((p2 : Int) ≤ (q : Int)) = true := decide_eq_true (by omega)
                  have hgz : (p2 : Int) ≤ (q : Int) := by omega
                  cases hl : ltOf cf dk2[q]! dk2[a]! with
                  | false =>
                    have HN : Hid (scanDown (fun x => !ltOf cf x dk2[a]!) dk2 p2 (q - 1) = scanDown (fun x => !ltOf cf x dk2[a]!) dk2 p2 j2) := (scanDown_go (fun x => !ltOf cf x dk2[a]!) dk2 p2 q hle (by omega) (by simp [hl])).symm.trans HQ.out
                    obtain ⟨ea28, eb28, ec28, ed28⟩ := KK.out.at ((q : Int)) (q) (by omega) (by omega)
                    obtain ⟨ea29, eb29, ec29, ed29⟩ := KK.out.at ((a : Int)) (a) (by omega) (by omega)
                    obtain ⟨x30, y30, c30, hv30, la30, lb30, hc30, SG30⟩ := KK.out.test T1 (by omega) (q) (a) (by omega) (by omega) false hl
                    have HG30 := Lib.hid SG30
                    clear SG30
                    go_wp2_with fail
                    go_quiet_grown (first | (go_at_fn g; refine hc30 _ _))
                    have T2 := HG30.out nq osq
                    clear la30 lb30 hc30 HG30 T1
                    generalize grow (wr.drewN nq) osq = w2 at T2 ⊢
                    clear nq osq
                    clear hl
                    go_wp2
                    go_roundw
                    case rel => exact ⟨q - 1, by first | rfl | go_num | (congr 1; omega), by omega, by omega, T2, HN⟩
                    case measure => simp [intOf]; omega
                  | true =>
                    have HN : Hid (q = scanDown (fun x => !ltOf cf x dk2[a]!) dk2 p2 j2) := (scanDown_end (fun x => !ltOf cf x dk2[a]!) dk2 p2 q (.inr (by simp [hl]))).symm.trans HQ.out
                    obtain ⟨ea31, eb31, ec31, ed31⟩ := KK.out.at ((q : Int)) (q) (by omega) (by omega)
                    obtain ⟨ea32, eb32, ec32, ed32⟩ := KK.out.at ((a : Int)) (a) (by omega) (by omega)
                    obtain ⟨x33, y33, c33, hv33, la33, lb33, hc33, SG33⟩ := KK.out.test T1 (by omega) (q) (a) (by omega) (by omega) true hl
                    have HG33 := Lib.hid SG33
                    clear SG33
                    go_wp2_with fail
                    go_quiet_grown (first | (go_at_fn g; refine hc33 _ _))
                    have T2 := HG33.out nq osq
                    clear la33 lb33 hc33 HG33 T1
                    generalize grow (wr.drewN nq) osq = w2 at T2 ⊢
                    clear nq osq
                    clear hl
                    go_wp2
                    go_meet
                    exact ⟨q, rfl, hq1, hq2, T2, HN⟩
                · have hgu : decide ((p2 : Int) ≤ (q : Int)) = false := decide_eq_false (by omega)
                  have hgz : ¬ (p2 : Int) ≤ (q : Int) := by omega
                  have HN : Hid (q = scanDown (fun x => !ltOf cf x dk2[a]!) dk2 p2 j2) := (scanDown_end (fun x => !ltOf cf x dk2[a]!) dk2 p2 q (.inl hle)).symm.trans HQ.out
                  have T2 : Aside (SWK enc k w0 blk off dk2 wr.drew) := T1.out.drew
                  go_wp2_with fail
                  go_big_region_o
                  all_goals go_wp2
                  go_meet
                  exact ⟨q, rfl, hq1, hq2, T2, HN⟩
            case rest =>
              clear T3
              obtain ⟨q2, rfl, q2a, q2b, T4, HQ1⟩ := hcut
              generalize wc = w7 at T4 ⊢
              by_cases hgt : q2 < p2
              · have hz : (q2 : Int) < (p2 : Int) := by omega
                have hz2 : decide ((q2 : Int) < (p2 : Int)) = true := decide_eq_true hz
                have HE : Hid (R0 = (q2, dk2)) := HR.out.trans (part_break (ltOf cf) a i2 j2 dk2 HP.out HQ1.out hgt)
                clear HP HQ1 HR
                go_wp2_with fail
                obtain ⟨ea34, eb34, ec34, ed34⟩ := KK.out.at ((q2 : Int)) (q2) (by omega) (by omega)
                obtain ⟨ea35, eb35, ec35, ed35⟩ := KK.out.at ((a : Int)) (a) (by omega) (by omega)
                obtain ⟨ci36, cj36, wa36, w8, na36, nb36, la36, lb36, sa36, sb36, T5⟩ := KK.out.swap T4 (by omega) (q2) (a) (by omega) (by omega)
                go_wp2_with fail
                go_big_region_o
                clear la36 lb36 sa36 sb36 T4
                go_wp2
                go_ret2
                rw [HF.out, HE.out]
                exact ⟨rfl, T5⟩
              · have hz : ¬ (q2 : Int) < (p2 : Int) := by omega
                have hz2 : decide ((q2 : Int) < (p2 : Int)) = false := decide_eq_false hz
                have hlt2 := part_scans_lt (ltOf cf) a i2 j2 dk2 (by omega) HP.out HQ1.out (by omega)
                have HE : Hid (R0 = partLoop (ltOf cf) a (p2 + 1) (q2 - 1) (swp dk2 p2 q2)) := HR.out.trans (part_go (ltOf cf) a i2 j2 dk2 HP.out HQ1.out (by omega))
                clear HP HQ1 HR
                go_wp2_with fail
                obtain ⟨ea37, eb37, ec37, ed37⟩ := KK.out.at ((p2 : Int)) (p2) (by omega) (by omega)
                obtain ⟨ea38, eb38, ec38, ed38⟩ := KK.out.at ((q2 : Int)) (q2) (by omega) (by omega)
                obtain ⟨ci39, cj39, wa39, w8, na39, nb39, la39, lb39, sa39, sb39, T5⟩ := KK.out.swap T4 (by omega) (p2) (q2) (by omega) (by omega)
                go_wp2_with fail
                go_big_region_o
                clear la39 lb39 sa39 sb39 T4
                go_wp2
                go_roundw
                case rel => exact ⟨p2 + 1, q2 - 1, swp dk2 p2 q2, by go_num, by go_num, by omega, by omega, by omega, by rw [size_swp]; exact hs2, T5, HE⟩
                case measure => simp [intOf]; omega
end
end Go.Proofs.Ytmephmjlajaopaa
