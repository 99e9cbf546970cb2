/- slices.partitionEqualCmpFunc, its order a method value. Written by gen_sortp.py. -/
import Derived.Test.YtmephmjlajaopaaSortA
import Derived.Sort.WalkC
import Derived.Deep.CutBlock
import Derived.Deep.DeepCutAuto
namespace Go.Proofs.Ytmephmjlajaopaa
set_option linter.unusedVariables false
set_option linter.unusedSimpArgs false
open Go.Shelf Go.RowKit Go.Lib Go.Sort
section
variable {P : Program} {ρ : Ren} {α : Type} [Inhabited α] {g : Nat} {v : Value} {enc : α → List Value} {k : Nat} {cf : α → α → Int} {blk off N : Nat} {d0 : Array α} {w0 : World}
set_option maxHeartbeats 16000000 in
set_option maxRecDepth 1000000 in
theorem sEqual_ (L : SlLaysF0.n26 P ρ) (aE : ∀ w, (isAgg (ρ.t 24)).run P w = .ok true w) (zE : ∀ w, (Go.sizeOf (ρ.t 24)).run P w = .ok k w) (K : Srt P g v enc k cf blk off N d0 w0) (cap a b pivot : Nat) (d : Array α) (w : World) (hd : d.size = N) (S : Aside (SWK enc k w0 blk off d w)) (hap : a ≤ pivot) (hpb : pivot < b) (hb : b ≤ N) :
    Calls P (ρ.f 26) #[.slice (some ⟨blk, off, none⟩) N cap, .int .i64 a, .int .i64 b, .int .i64 pivot, .func (.func g) #[v] #[]] w fun e w' => e = .returned (.int .i64 (partitionEqual (ltOf cf) d a b pivot).1) ∧ Aside (SWK enc k w0 blk off (partitionEqual (ltOf cf) d a b pivot).2 w') := by
  obtain ⟨mixed, _, t0, a0, z0, v0, t3, a3, z3, v3, t4, a4, z4, v4, t22, a22, z22, v22, t25, a25, z25, v25⟩ := id L
  obtain ⟨_, _, FG⟩ := L.f26
  have few := K.few
  have eg := K.eg
  have KK : Aside _ := K
  clear K
  go_enter FG, SlBodyF.n26_ntmps ρ
  go_wp2_with fail
  obtain ⟨ea40, eb40, ec40, ed40⟩ := KK.out.at ((a : Int)) (a) (by omega) (by omega)
  obtain ⟨ea41, eb41, ec41, ed41⟩ := KK.out.at ((pivot : Int)) (pivot) (by omega) (by omega)
  obtain ⟨ci42, cj42, wa42, w1, na42, nb42, la42, lb42, sa42, sb42, S1⟩ := KK.out.swap S (by omega) (a) (pivot) (by omega) (by omega)
  go_wp2_with fail
  go_big_region_o
  clear la42 lb42 sa42 sb42 S
  obtain ⟨i1, hi⟩ : ∃ i : Nat, i = a + 1 := ⟨_, rfl⟩
  obtain ⟨j1, hj⟩ : ∃ j : Nat, j = b - 1 := ⟨_, rfl⟩
  obtain ⟨dk1, hdk⟩ : ∃ dk : Array α, dk = swp d a pivot := ⟨_, rfl⟩
  rw [← hdk] at S1
  have hs1 : dk1.size = N := by rw [hdk, size_swp]; exact hd
  have ha1 : a < i1 := by omega
  have hij : i1 ≤ j1 + 1 := by omega
  have hjb : j1 < b := by omega
  have Hi := Lib.hid hi
  have Hj := Lib.hid hj
  have Hdk := Lib.hid hdk
  have ezi : ((a : Int) + 1) = (i1 : Int) := by omega
  have ezj : ((b : Int) - 1) = (j1 : Int) := by omega
  clear hi hj hdk hd
  obtain ⟨R0, hR0⟩ : ∃ r, r = partitionEqual (ltOf cf) d a b pivot := ⟨_, rfl⟩
  have HD := Lib.hid hR0
  have HR0 : Hid (R0 = partEqLoop (ltOf cf) a i1 j1 dk1) := by show _ = _; rw [hR0, partitionEqual, Hi.out, Hj.out, Hdk.out]
  clear hR0 Hi Hj Hdk
  go_wp2
  go_loopw [11, 12] (fun vi vj wr => ∃ (i2 j2 : Nat) (dk2 : Array α), vi = .int .i64 i2 ∧ vj = .int .i64 j2 ∧ a < i2 ∧ i2 ≤ j2 + 1 ∧ j2 < b ∧ dk2.size = N ∧ Aside (SWK enc k w0 blk off dk2 wr) ∧ Hid (R0 = partEqLoop (ltOf cf) a i2 j2 dk2)) (fun vi vj _ => (intOf vj).toNat + 1 - (intOf vi).toNat)
  case atStart => exact ⟨i1, j1, dk1, by first | rfl | go_num, by first | rfl | go_num, by omega, by omega, by omega, hs1, S1, HR0.out⟩
  case round =>
    clear S1 HR0 hs1 ezi ezj hij hjb ha1
    obtain ⟨i2, j2, dk2, rfl, rfl, hi2, hij2, hj2, hs2, T0, HR⟩ := hrel
    go_upto_block 2 with fail
    go_cut [11] from 31 to 88 (fun sx wx => ∃ (q : Nat), sx = .int .i64 q ∧ i2 ≤ q ∧ q ≤ j2 + 1 ∧ Aside (SWK enc k w0 blk off dk2 wx) ∧ Hid (q = scanUp (fun x => !ltOf cf dk2[a]! x) dk2 j2 i2))
    case first =>
      go_wp2_with fail
      go_loopw [11] (fun vx wy => ∃ (q : Nat), vx = .int .i64 q ∧ i2 ≤ q ∧ q ≤ j2 + 1 ∧ Aside (SWK enc k w0 blk off dk2 wy) ∧ Hid (scanUp (fun x => !ltOf cf dk2[a]! x) dk2 j2 q = scanUp (fun x => !ltOf cf dk2[a]! x) dk2 j2 i2)) (fun vx _ => j2 + 1 - (intOf vx).toNat)
      case atStart => exact ⟨i2, rfl, by omega, by omega, T0, rfl⟩
      case round =>
        clear T0
        obtain ⟨q, rfl, hq1, hq2, T1, HQ⟩ := hrel
        by_cases hle : q ≤ j2
        · have hgu : decide ((q : Int) ≤ (j2 : Int)) = true := decide_eq_true (by omega)
          have hgz : (q : Int) ≤ (j2 : Int) := by omega
          cases hl : ltOf cf dk2[a]! dk2[q]! with
          | false =>
            have HN : Hid (scanUp (fun x => !ltOf cf dk2[a]! x) dk2 j2 (q + 1) = scanUp (fun x => !ltOf cf dk2[a]! x) dk2 j2 i2) := (scanUp_go (fun x => !ltOf cf dk2[a]! x) dk2 j2 q hle (by simp [hl])).symm.trans HQ.out
            obtain ⟨ea43, eb43, ec43, ed43⟩ := KK.out.at ((a : Int)) (a) (by omega) (by omega)
            obtain ⟨ea44, eb44, ec44, ed44⟩ := KK.out.at ((q : Int)) (q) (by omega) (by omega)
            obtain ⟨x45, y45, c45, hv45, la45, lb45, hc45, SG45⟩ := KK.out.test T1 (by omega) (a) (q) (by omega) (by omega) false hl
            have HG45 := Lib.hid SG45
            clear SG45
            go_wp2_with fail
            go_quiet_grown (first | (go_at_fn g; refine hc45 _ _))
            have T2 := HG45.out nq osq
            clear la45 lb45 hc45 HG45 T1
            generalize grow (wr.drewN nq) osq = w2 at T2 ⊢
            clear nq osq
            clear hl
            go_wp2
            go_roundw
            case rel => exact ⟨q + 1, by first | rfl | go_num | (congr 1; omega), by omega, by omega, T2, HN⟩
            case measure => simp [intOf]; omega
          | true =>
            have HN : Hid (q = scanUp (fun x => !ltOf cf dk2[a]! x) dk2 j2 i2) := (scanUp_end (fun x => !ltOf cf dk2[a]! x) dk2 j2 q (.inr (by simp [hl]))).symm.trans HQ.out
            obtain ⟨ea46, eb46, ec46, ed46⟩ := KK.out.at ((a : Int)) (a) (by omega) (by omega)
            obtain ⟨ea47, eb47, ec47, ed47⟩ := KK.out.at ((q : Int)) (q) (by omega) (by omega)
            obtain ⟨x48, y48, c48, hv48, la48, lb48, hc48, SG48⟩ := KK.out.test T1 (by omega) (a) (q) (by omega) (by omega) true hl
            have HG48 := Lib.hid SG48
            clear SG48
            go_wp2_with fail
            go_quiet_grown (first | (go_at_fn g; refine hc48 _ _))
            have T2 := HG48.out nq osq
            clear la48 lb48 hc48 HG48 T1
            generalize grow (wr.drewN nq) osq = w2 at T2 ⊢
            clear nq osq
            clear hl
            go_wp2
            go_meet
            exact ⟨q, rfl, hq1, hq2, T2, HN⟩
        · have hgu : decide ((q : Int) ≤ (j2 : Int)) = false := decide_eq_false (by omega)
          have hgz : ¬ (q : Int) ≤ (j2 : Int) := by omega
          have HN : Hid (q = scanUp (fun x => !ltOf cf dk2[a]! x) dk2 j2 i2) := (scanUp_end (fun x => !ltOf cf dk2[a]! x) dk2 j2 q (.inl hle)).symm.trans HQ.out
          have T2 : Aside (SWK enc k w0 blk off dk2 wr.drew) := T1.out.drew
          go_wp2_with fail
          go_big_region_o
          all_goals go_wp2
          go_meet
          exact ⟨q, rfl, hq1, hq2, T2, HN⟩
    case rest =>
      clear T0
      obtain ⟨p2, rfl, p2a, p2b, T3, HP⟩ := hcut
      generalize wc = w6 at T3 ⊢
      go_upto_block 4 with fail
      go_cut [12] from 31 to 88 (fun sx wx => ∃ (q : Nat), sx = .int .i64 q ∧ q ≤ j2 ∧ p2 ≤ q + 1 ∧ Aside (SWK enc k w0 blk off dk2 wx) ∧ Hid (q = scanDown (fun x => ltOf cf dk2[a]! x) dk2 p2 j2))
      case first =>
        go_wp2_with fail
        go_loopw [12] (fun vx wy => ∃ (q : Nat), vx = .int .i64 q ∧ q ≤ j2 ∧ p2 ≤ q + 1 ∧ Aside (SWK enc k w0 blk off dk2 wy) ∧ Hid (scanDown (fun x => ltOf cf dk2[a]! x) dk2 p2 q = scanDown (fun x => ltOf cf dk2[a]! x) dk2 p2 j2)) (fun vx _ => (intOf vx).toNat)
        case atStart => exact ⟨j2, rfl, by omega, by omega, T3, rfl⟩
        case round =>
          clear T3
          obtain ⟨q, rfl, hq1, hq2, T1, HQ⟩ := hrel
          by_cases hle : p2 ≤ q
          · have hgu : decide ((p2 : Int) ≤ (q : Int)) = true := decide_eq_true (by omega)
            have hgz : (p2 : Int) ≤ (q : Int) := by omega
            cases hl : ltOf cf dk2[a]! dk2[q]! with
            | true =>
              have HN : Hid (scanDown (fun x => ltOf cf dk2[a]! x) dk2 p2 (q - 1) = scanDown (fun x => ltOf cf dk2[a]! x) dk2 p2 j2) := (scanDown_go (fun x => ltOf cf dk2[a]! x) dk2 p2 q hle (by omega) (by simp [hl])).symm.trans HQ.out
              obtain ⟨ea49, eb49, ec49, ed49⟩ := KK.out.at ((a : Int)) (a) (by omega) (by omega)
              obtain ⟨ea50, eb50, ec50, ed50⟩ := KK.out.at ((q : Int)) (q) (by omega) (by omega)
              obtain ⟨x51, y51, c51, hv51, la51, lb51, hc51, SG51⟩ := KK.out.test T1 (by omega) (a) (q) (by omega) (by omega) true hl
              have HG51 := Lib.hid SG51
              clear SG51
              go_wp2_with fail
              go_quiet_grown (first | (go_at_fn g; refine hc51 _ _))
              have T2 := HG51.out nq osq
              clear la51 lb51 hc51 HG51 T1
              generalize grow (wr.drewN nq) osq = w2 at T2 ⊢
              clear nq osq
              clear hl
              go_wp2
              go_roundw
              case rel => exact ⟨q - 1, by first | rfl | go_num | (congr 1; omega), by omega, by omega, T2, HN⟩
              case measure => simp [intOf]; omega
            | false =>
              have HN : Hid (q = scanDown (fun x => ltOf cf dk2[a]! x) dk2 p2 j2) := (scanDown_end (fun x => ltOf cf dk2[a]! x) dk2 p2 q (.inr (by simp [hl]))).symm.trans HQ.out
              obtain ⟨ea52, eb52, ec52, ed52⟩ := KK.out.at ((a : Int)) (a) (by omega) (by omega)
              obtain ⟨ea53, eb53, ec53, ed53⟩ := KK.out.at ((q : Int)) (q) (by omega) (by omega)
              obtain ⟨x54, y54, c54, hv54, la54, lb54, hc54, SG54⟩ := KK.out.test T1 (by omega) (a) (q) (by omega) (by omega) false hl
              have HG54 := Lib.hid SG54
              clear SG54
              go_wp2_with fail
              go_quiet_grown (first | (go_at_fn g; refine hc54 _ _))
              have T2 := HG54.out nq osq
              clear la54 lb54 hc54 HG54 T1
              generalize grow (wr.drewN nq) osq = w2 at T2 ⊢
              clear nq osq
              clear hl
              go_wp2
              go_meet
              exact ⟨q, rfl, hq1, hq2, T2, HN⟩
          · have hgu : decide ((p2 : Int) ≤ (q : Int)) = false := decide_eq_false (by omega)
            have hgz : ¬ (p2 : Int) ≤ (q : Int) := by omega
            have HN : Hid (q = scanDown (fun x => ltOf cf dk2[a]! x) dk2 p2 j2) := (scanDown_end (fun x => ltOf cf dk2[a]! x) dk2 p2 q (.inl hle)).symm.trans HQ.out
            have T2 : Aside (SWK enc k w0 blk off dk2 wr.drew) := T1.out.drew
            go_wp2_with fail
            go_big_region_o
            all_goals go_wp2
            go_meet
            exact ⟨q, rfl, hq1, hq2, T2, HN⟩
      case rest =>
        clear T3
        obtain ⟨q2, rfl, q2a, q2b, T4, HQ1⟩ := hcut
        generalize wc = w7 at T4 ⊢
        by_cases hgt : q2 < p2
        · have hz : (q2 : Int) < (p2 : Int) := by omega
          have hz2 : decide ((q2 : Int) < (p2 : Int)) = true := decide_eq_true hz
          have HE : Hid (R0 = (p2, dk2)) := HR.out.trans (partEq_break (ltOf cf) a i2 j2 dk2 HP.out HQ1.out hgt)
          clear HP HQ1 HR
          go_wp2
          go_ret
          rw [← HD.out, HE.out]
          exact ⟨rfl, T4⟩
        · have hz : ¬ (q2 : Int) < (p2 : Int) := by omega
          have hz2 : decide ((q2 : Int) < (p2 : Int)) = false := decide_eq_false hz
          have hlt2 := scans_lt (ltOf cf) a i2 j2 dk2 (by omega) HP.out HQ1.out (by omega)
          have HE : Hid (R0 = partEqLoop (ltOf cf) a (p2 + 1) (q2 - 1) (swp dk2 p2 q2)) := HR.out.trans (partEq_go (ltOf cf) a i2 j2 dk2 HP.out HQ1.out (by omega))
          clear HP HQ1 HR
          go_wp2_with fail
          obtain ⟨ea55, eb55, ec55, ed55⟩ := KK.out.at ((p2 : Int)) (p2) (by omega) (by omega)
          obtain ⟨ea56, eb56, ec56, ed56⟩ := KK.out.at ((q2 : Int)) (q2) (by omega) (by omega)
          obtain ⟨ci57, cj57, wa57, w8, na57, nb57, la57, lb57, sa57, sb57, T5⟩ := KK.out.swap T4 (by omega) (p2) (q2) (by omega) (by omega)
          go_wp2_with fail
          go_big_region_o
          clear la57 lb57 sa57 sb57 T4
          go_wp2
          go_roundw
          case rel => exact ⟨p2 + 1, q2 - 1, swp dk2 p2 q2, by go_num, by go_num, by omega, by omega, by omega, by rw [size_swp]; exact hs2, T5, HE⟩
          case measure => simp [intOf]; omega
end
end Go.Proofs.Ytmephmjlajaopaa
