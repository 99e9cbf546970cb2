/- slices.insertionSortCmpFunc, its order a method value. Written by gen_sorti.py. -/
import Derived.Test.YtmephmjlajaopaaSortA
import Derived.Sort.WalkA
namespace Go.Proofs.Ytmephmjlajaopaa
set_option linter.unusedVariables false
set_option linter.unusedSimpArgs false
open Go.Shelf Go.RowKit Go.Lib Go.Sort
section
variable {P : Program} {ρ : Ren} {α : Type} [Inhabited α] {g : Nat} {v : Value} {enc : α → List Value} {k : Nat} {cf : α → α → Int} {blk off N : Nat} {d0 : Array α} {w0 : World}
set_option maxHeartbeats 4000000 in
set_option maxRecDepth 1000000 in
/-- slices.insertionSortCmpFunc. -/
theorem sInsertion_ (L : SlLaysF0.n20 P ρ) (aE : ∀ w, (isAgg (ρ.t 24)).run P w = .ok true w) (zE : ∀ w, (Go.sizeOf (ρ.t 24)).run P w = .ok k w) (K : Srt P g v enc k cf blk off N d0 w0) (cap a b : Nat) (d : Array α) (w : World) (hd : d.size = N) (S : Aside (SWK enc k w0 blk off d w)) (hab : a ≤ b) (hb : b ≤ N) :
    Calls P (ρ.f 20) #[.slice (some ⟨blk, off, none⟩) N cap, .int .i64 a, .int .i64 b, .func (.func g) #[v] #[]] w fun e w' => e = .returned (.tuple #[]) ∧ Aside (SWK enc k w0 blk off (insertionSort (ltOf cf) d a b) w') := by
  obtain ⟨mixed, _, t0, a0, z0, v0, t3, a3, z3, v3, t4, a4, z4, v4, t22, a22, z22, v22, t25, a25, z25, v25⟩ := id L
  obtain ⟨_, _, FG⟩ := L.f20
  have few := K.few
  have eg := K.eg
  have KK : Aside _ := K
  clear K
  go_enter FG, SlBodyF.n20_ntmps ρ
  go_wp2
  go_loopg [8] (b - a) (fun g1 vi wr => ∃ (i : Nat) (dk : Array α), vi = .int .i64 i ∧ a < i ∧ i ≤ b + 1 ∧ b + 1 - i ≤ g1 + 1 ∧ dk.size = N ∧ Aside (SWK enc k w0 blk off dk wr) ∧ Hid (insOuter (ltOf cf) a b i dk = insOuter (ltOf cf) a b (a + 1) d))
  case atStart => exact ⟨a + 1, d, by go_num, by omega, by omega, by omega, hd, S, rfl⟩
  case round =>
    clear S hd
    obtain ⟨i, dk, rfl, hai, hib, hg1, hsk, S1, HO⟩ := hrel
    by_cases hlt : i < b
    · have hltz : (i : Int) < (b : Int) := by omega
      go_wp2
      go_loopg [9] i (fun g2 vj wr2 => ∃ (j : Nat) (dj : Array α), vj = .int .i64 j ∧ a ≤ j ∧ j ≤ i ∧ j ≤ g2 ∧ dj.size = N ∧ Aside (SWK enc k w0 blk off dj wr2) ∧ Hid (insInner (ltOf cf) a j dj = insInner (ltOf cf) a i dk))
      case atStart => exact ⟨i, dk, rfl, by omega, Nat.le_refl _, Nat.le_refl _, hsk, S1, rfl⟩
      case round =>
        clear S1 hsk
        obtain ⟨j, dj, rfl, haj, hji, hg2, hsj, S2, HI⟩ := hrel
        have OUT : (j ≤ a ∨ ltOf cf dj[j]! dj[j - 1]! = false) → Hid (insOuter (ltOf cf) a b (i + 1) dj = insOuter (ltOf cf) a b (a + 1) d) := fun hs => by
          show _ = _
          rw [← HO.out, insOuter_go _ _ _ _ _ hlt, ← HI.out, insInner_stop _ _ _ _ hs]
        have HOUT := Lib.hid OUT
        clear OUT
        by_cases hja : a < j
        · obtain ⟨jp, rfl⟩ : ∃ jp, j = jp + 1 := ⟨j - 1, by omega⟩
          rw [Nat.add_sub_cancel] at HOUT
          have hjaz : (a : Int) < (jp : Int) + 1 := by omega
          cases hl : ltOf cf dj[jp + 1]! dj[jp]! with
          | true =>
            have HGO : Hid (insInner (ltOf cf) a jp (swp dj (jp + 1) jp) = insInner (ltOf cf) a i dk) := by show _ = _; rw [← HI.out, insInner_go _ _ _ _ hja hl]; rfl
            clear HOUT
            obtain ⟨ea1, eb1, ec1, ed1⟩ := KK.out.at ((jp : Int) + 1) (jp + 1) (by omega) (by omega)
            obtain ⟨ea2, eb2, ec2, ed2⟩ := KK.out.at ((jp : Int)) (jp) (by omega) (by omega)
            obtain ⟨x3, y3, c3, hv3, la3, lb3, hc3, SG3⟩ := KK.out.test S2 (by omega) (jp + 1) (jp) (by omega) (by omega) true hl
            have HG3 := Lib.hid SG3
            clear SG3
            go_wp2_with fail
            go_quiet_grown (first | (go_at_fn g; refine hc3 _ _))
            have S3 := HG3.out nq osq
            clear la3 lb3 hc3 HG3 S2
            generalize grow (wr.drewN nq) osq = w3 at S3 ⊢
            clear nq osq
            clear hl
            obtain ⟨ci4, cj4, wa4, w4, na4, nb4, la4, lb4, sa4, sb4, S4⟩ := KK.out.swap S3 (by omega) (jp + 1) (jp) (by omega) (by omega)
            go_wp2_with fail
            go_big_region_o
            clear la4 lb4 sa4 sb4 S3
            go_wp2
            go_roundg jp
            case measure => omega
            case rel => exact ⟨jp, swp dj (jp + 1) jp, by first | rfl | go_num | (congr 1; omega), by omega, by omega, Nat.le_refl _, by rw [size_swp]; exact hsj, S4, HGO⟩
          | false =>
            have HN := HOUT.out (.inr hl)
            clear HOUT
            obtain ⟨ea5, eb5, ec5, ed5⟩ := KK.out.at ((jp : Int) + 1) (jp + 1) (by omega) (by omega)
            obtain ⟨ea6, eb6, ec6, ed6⟩ := KK.out.at ((jp : Int)) (jp) (by omega) (by omega)
            obtain ⟨x7, y7, c7, hv7, la7, lb7, hc7, SG7⟩ := KK.out.test S2 (by omega) (jp + 1) (jp) (by omega) (by omega) false hl
            have HG7 := Lib.hid SG7
            clear SG7
            go_wp2_with fail
            go_quiet_grown (first | (go_at_fn g; refine hc7 _ _))
            have S3 := HG7.out nq osq
            clear la7 lb7 hc7 HG7 S2
            generalize grow (wr.drewN nq) osq = w3 at S3 ⊢
            clear nq osq
            clear hl
            go_wp2
            go_roundg (b - (i + 1))
            case measure => omega
            case rel => exact ⟨i + 1, dj, by go_num, by omega, by omega, by omega, hsj, S3, HN⟩
        · have hjaz : decide ((j : Int) > (a : Int)) = false := decide_eq_false (by omega)
          have hjaz' : ¬ (a : Int) < (j : Int) := by omega
          have HN := HOUT.out (.inl (by omega))
          clear HOUT
          have S3 : Aside (SWK enc k w0 blk off dj wr.drew) := S2.out.drew
          go_wp2_with fail
          go_big_region_o
          all_goals go_wp2
          go_roundg (b - (i + 1))
          case measure => omega
          case rel => exact ⟨i + 1, dj, by go_num, by omega, by omega, by omega, hsj, S3, HN⟩
    · have hltz : ¬ (i : Int) < (b : Int) := by omega
      go_wp2
      go_end0
      refine ⟨rfl, ?_⟩
      unfold Sort.insertionSort
      rw [← HO.out, insOuter_stop _ _ _ _ _ hlt]
      exact S1
end
end Go.Proofs.Ytmephmjlajaopaa
