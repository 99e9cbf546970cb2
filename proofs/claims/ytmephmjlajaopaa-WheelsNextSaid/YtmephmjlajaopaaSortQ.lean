/- slices.pdqsortCmpFunc, its order a method value. Written by gen_sortq.py. -/
import Derived.Test.YtmephmjlajaopaaSortI
import Derived.Test.YtmephmjlajaopaaSortH
import Derived.Test.YtmephmjlajaopaaSortP
import Derived.Test.YtmephmjlajaopaaSortE
import Derived.Test.YtmephmjlajaopaaSortN
import Derived.Test.YtmephmjlajaopaaSortM
import Derived.Test.YtmephmjlajaopaaSortB
import Derived.Sort.LotD3
import Derived.Sort.LotA
import Derived.Sort.LotB
import Derived.Sort.LotC
namespace Go.Proofs.Ytmephmjlajaopaa
set_option linter.unusedVariables false
set_option linter.unusedSimpArgs false
open Go.Shelf Go.RowKit Go.Lib Go.Sort
section
variable {P : Program} {ρ : Ren} {α : Type} [Inhabited α] {g : Nat} {v : Value} {enc : α → List Value} {k : Nat} {cf : α → α → Int} {blk off N : Nat} {d0 : Array α} {w0 : World}
/-- A part of a row is left to be sorted: x to y; whatever sorted permutation of it comes, the whole from a to b is one. -/
structure PQ (lt : α → α → Bool) (N a b : Nat) (d : Array α) (x y : Nat) (dk : Array α) : Prop where
  le : x ≤ y
  hi : y ≤ N
  sz : dk.size = N
  bel : Go.Sort.Below lt x y dk
  glue : ∀ R, PermIn x y dk R → SortedIn lt x y R → PermIn a b d R ∧ SortedIn lt a b R
theorem PQ.perm {lt : α → α → Bool} {N a b x y : Nat} {d dk d1 : Array α} (h : PQ lt N a b d x y dk) (p : PermIn x y dk d1) : PQ lt N a b d x y d1 :=
  ⟨h.le, h.hi, p.1.trans h.sz, h.bel.perm (by rw [h.sz]; exact h.hi) p, fun R q s => h.glue R (permIn_trans _ _ _ _ _ p q) s⟩
theorem PQ.done {lt : α → α → Bool} {N a b x y : Nat} {d dk R : Array α} (h : PQ lt N a b d x y dk) (p : PermIn x y dk R) (s : SortedIn lt x y R) : PermIn a b d R ∧ SortedIn lt a b R := h.glue R p s
theorem PQ.eq {lt : α → α → Bool} {N a b x y p mid : Nat} {d dk d4 : Array α} (h : PQ lt N a b d x y dk) (hO : SWO lt) (h0 : 0 < x) (h1 : x ≤ p) (h2 : p < y) (hn : lt dk[x - 1]! dk[p]! = false) (hx : partitionEqual lt dk x y p = (mid, d4)) : x < mid ∧ mid ≤ y ∧ PQ lt N a b d mid y d4 := by
  obtain ⟨r1, r2, r3, r4, r5⟩ := round_eq hO (partitionEqual_holds lt) h0 h1 h2 (by rw [h.sz]; exact h.hi) h.bel hn hx
  exact ⟨r1, r2, r2, h.hi, r3.trans h.sz, r4, fun R q s => h.glue R (r5 R q s).1 (r5 R q s).2⟩
theorem PQ.part {lt : α → α → Bool} {N a b x y p mid : Nat} {ap : Bool} {d dk d4 : Array α} (h : PQ lt N a b d x y dk) (hO : SWO lt) (h1 : x ≤ p) (h2 : p < y) (hx : partition lt dk x y p = (mid, ap, d4)) :
    x ≤ mid ∧ mid < y ∧ d4.size = N ∧ Go.Sort.Below lt x mid d4 ∧ Go.Sort.Below lt (mid + 1) y d4 ∧ (∀ L, PermIn x mid d4 L → SortedIn lt x mid L → PQ lt N a b d (mid + 1) y L) ∧ (∀ L, PermIn (mid + 1) y d4 L → SortedIn lt (mid + 1) y L → PQ lt N a b d x mid L) := by
  obtain ⟨r1, r2, r3, r4, r5, r6, r7⟩ := round_part hO (partition_holds lt) h1 h2 (by rw [h.sz]; exact h.hi) h.bel hx
  have hs := r3.trans h.sz
  have hh := h.hi
  exact ⟨r1, r2, hs, r4, r5, fun L q s => ⟨by omega, h.hi, q.1.trans hs, (r6 L q s).1, fun R q2 s2 => h.glue R ((r6 L q s).2 R q2 s2).1 ((r6 L q s).2 R q2 s2).2⟩, fun L q s => ⟨r1, by omega, q.1.trans hs, (r7 L q s).1, fun R q2 s2 => h.glue R ((r7 L q s).2 R q2 s2).1 ((r7 L q s).2 R q2 s2).2⟩⟩
theorem PQ.whole {lt : α → α → Bool} {N a b : Nat} {d : Array α} (h1 : a ≤ b) (h2 : b ≤ N) (h3 : d.size = N) (h4 : Go.Sort.Below lt a b d) : PQ lt N a b d a b d := ⟨h1, h2, h3, h4, fun _ p s => ⟨p, s⟩⟩
theorem pivot_back {x y p : Nat} (h1 : x ≤ p) (h2 : p < y) : ∃ q : Nat, ((y : Int) - 1 - ((p : Int) - (x : Int)) = (q : Int)) ∧ x ≤ q ∧ q < y := ⟨y - 1 - (p - x), by omega, by omega, by omega⟩
set_option maxHeartbeats 16000000 in
set_option maxRecDepth 1000000 in
theorem sPdq_ (L : SlLaysF0.n14 P ρ) (aE : ∀ w, (isAgg (ρ.t 24)).run P w = .ok true w) (zE : ∀ w, (Go.sizeOf (ρ.t 24)).run P w = .ok k w) (K : Srt P g v enc k cf blk off N d0 w0) (cap : Nat) : ∀ (n a b limit : Nat) (d : Array α) (w : World), b - a < n → d.size = N → Aside (SWK enc k w0 blk off d w) → a ≤ b → b ≤ N → limit ≤ 1000 → Go.Sort.Below (ltOf cf) a b d →
    Calls P (ρ.f 14) #[.slice (some ⟨blk, off, none⟩) N cap, .int .i64 a, .int .i64 b, .int .i64 limit, .func (.func g) #[v] #[]] w fun e w' => e = .returned (.tuple #[]) ∧ ∃ R, PermIn a b d R ∧ SortedIn (ltOf cf) a b R ∧ Aside (SWK enc k w0 blk off R w') := by
  intro n
  induction n with
  | zero => intro _ _ _ _ _ h; exact absurd h (Nat.not_lt_zero _)
  | succ n ih =>
    intro a b limit d w hn hd S hab hb hlim hB
    have PQ0 := PQ.whole hab hb hd hB
    have hO := K.swo
    have IH := Lib.hid ih
    have LL : Aside _ := L
    clear ih
    obtain ⟨mixed, _, _, _, _, _, _, _, _, _, _, _, _, _, _, _, _, _, _, t0, a0, z0, v0, t3, a3, z3, v3, t4, a4, z4, v4, t5, a5, z5, v5, t9, a9, z9, v9, t22, a22, z22, v22, t25, a25, z25, v25, t39, a39, z39, v39, t45, a45, z45, v45, t46, a46, z46, v46, t50, a50, z50, v50, t53, a53, z53, v53, t55, a55, z55, v55, t66, a66, z66, v66, t70, a70, z70, v70, t76, a76, z76, v76, t77, a77, z77, v77⟩ := id L
    obtain ⟨_, _, FG⟩ := L.f14
    have few := K.few
    have e20 : ∀ args w, (callFunc (ρ.f 20) args).run P w = .ok (.enter (ρ.f 20) args) w := L.f20.enters rfl
    have e21 : ∀ args w, (callFunc (ρ.f 21) args).run P w = .ok (.enter (ρ.f 21) args) w := L.f21.enters rfl
    have e22 : ∀ args w, (callFunc (ρ.f 22) args).run P w = .ok (.enter (ρ.f 22) args) w := L.f22.enters rfl
    have e23 : ∀ args w, (callFunc (ρ.f 23) args).run P w = .ok (.enter (ρ.f 23) args) w := L.f23.enters rfl
    have e24 : ∀ args w, (callFunc (ρ.f 24) args).run P w = .ok (.enter (ρ.f 24) args) w := L.f24.enters rfl
    have e25 : ∀ args w, (callFunc (ρ.f 25) args).run P w = .ok (.enter (ρ.f 25) args) w := L.f25.enters rfl
    have e26 : ∀ args w, (callFunc (ρ.f 26) args).run P w = .ok (.enter (ρ.f 26) args) w := L.f26.enters rfl
    have e27 : ∀ args w, (callFunc (ρ.f 27) args).run P w = .ok (.enter (ρ.f 27) args) w := L.f27.enters rfl
    have e14 : ∀ args w, (callFunc (ρ.f 14) args).run P w = .ok (.enter (ρ.f 14) args) w := L.f14.enters rfl
    have eg := K.eg
    have KK : Aside _ := K
    clear K
    go_enter FG, SlBodyF.n14_ntmps ρ
    go_wp2
    go_loopg [1, 2, 3, 10, 11] (b - a) (fun kx s1 s2 s3 s8 s9 wr => ∃ (x y lim : Nat) (wb wp : Bool) (dk : Array α), s1 = .int .i64 x ∧ s2 = .int .i64 y ∧ s3 = .int .i64 lim ∧ s8 = .bool wb ∧ s9 = .bool wp ∧ y - x ≤ kx ∧ kx ≤ b - a ∧ lim ≤ limit ∧ PQ (ltOf cf) N a b d x y dk ∧ Aside (SWK enc k w0 blk off dk wr))
    case atStart => exact ⟨a, b, limit, true, true, d, rfl, rfl, rfl, rfl, rfl, Nat.le_refl _, Nat.le_refl _, Nat.le_refl _, PQ0, S⟩
    case round =>
      clear S hd PQ0 hB
      obtain ⟨x, y, lim, wb, wp, dk, rfl, rfl, rfl, rfl, rfl, hkx, hkn, hll, Q, S1⟩ := hrel
      have hxy := Q.le
      have hyN := Q.hi
      have hds := Q.sz
      have HQ := Lib.hid Q
      clear Q
      have r0 : IntKind.i64.wrap ((y : Int) - (x : Int)) = (y : Int) - (x : Int) := KK.out.wr _ (by omega) (by omega)
      by_cases h12 : y - x ≤ 12
      · have t1 : decide ((y : Int) - (x : Int) ≤ 12) = true := decide_eq_true (by omega)
        have t2 : (y : Int) - (x : Int) ≤ 12 := by omega
        have kc := sInsertion_ (P := P) (ρ := ρ) { LL.out with } aE zE KK.out cap x y dk wr hds S1 hxy hyN
        clear S1
        go_wp2_with (go_at_fn (ρ.f 20); refine kc.mono ?_; rintro e w1 ⟨rfl, S2⟩)
        (try simp only [Exit.inBlock, Exit.then]); refine bodyPost_ret (results_none rfl _ _ _) rfl ?_
        obtain ⟨p, s⟩ := insertionSort_holds hO dk x y hxy (by omega)
        exact ⟨rfl, _, (HQ.out.done p s).1, (HQ.out.done p s).2, S2⟩
      · have t1 : decide ((y : Int) - (x : Int) ≤ 12) = false := decide_eq_false (by omega)
        have t2 : ¬ (y : Int) - (x : Int) ≤ 12 := by omega
        have h12b : 12 < y - x := by omega
        by_cases hl0 : lim = 0
        · subst hl0
          have kc := sHeap_ (P := P) (ρ := ρ) { LL.out with } aE zE KK.out cap x y dk wr hds S1 hxy hyN
          clear S1
          go_wp2_with (go_at_fn (ρ.f 21); refine kc.mono ?_; rintro e w1 ⟨rfl, S2⟩)
          (try simp only [Exit.inBlock, Exit.then]); refine bodyPost_ret (results_none rfl _ _ _) rfl ?_
          obtain ⟨p, s⟩ := heapSort_holds hO dk x y hxy (by omega)
          exact ⟨rfl, _, (HQ.out.done p s).1, (HQ.out.done p s).2, S2⟩
        · have u1 : ((lim : Int) == 0) = false := by rw [beq_eq_false_iff_ne]; omega
          have u2 : ¬ (lim : Int) = 0 := by omega
          have u3 : (lim == 0) = false := by rw [beq_eq_false_iff_ne]; exact hl0
          go_upto_if 39 with fail
          go_cut [3] from 21 to 147 (fun sx wx => ∃ (l2 : Nat) (d1 : Array α), sx = .int .i64 l2 ∧ l2 ≤ lim ∧ PermIn x y dk d1 ∧ d1.size = N ∧ Aside (SWK enc k w0 blk off d1 wx))
          case first =>
            cases wb with
            | false =>
              have kc := sBreak_ (P := P) (ρ := ρ) { LL.out with } aE zE KK.out cap x y dk wr hds S1 h12b hyN
              have r1 : IntKind.i64.wrap ((lim : Int) - 1) = (lim : Int) - 1 := KK.out.wr _ (by omega) (by omega)
              clear S1
              go_wp2_with (go_at_fn (ρ.f 22); refine kc.mono ?_; rintro e w1 ⟨rfl, S2⟩)
              go_meet
              have p := breakPatterns_holds dk x y hxy (by omega)
              exact ⟨lim - 1, _, by congr 1; omega, by omega, p, p.1.trans hds, S2⟩
            | true =>
              go_wp2_with fail
              go_meet
              exact ⟨lim, dk, rfl, Nat.le_refl _, permIn_refl _ _ _, hds, S1⟩
          case rest =>
            obtain ⟨l2, d1, rfl, hl2, p1, hs1, S2⟩ := hcut
            clear S1 u1 u2 u3
            have HQ1 : Hid (PQ (ltOf cf) N a b d x y d1) := HQ.out.perm p1
            clear p1 HQ
            generalize wc = w2 at S2 ⊢
            obtain ⟨pv, hint, hpv⟩ : ∃ p h, choosePivot (ltOf cf) d1 x y = (p, h) := ⟨_, _, rfl⟩
            have kc := sPivot_ (P := P) (ρ := ρ) { LL.out with } aE zE KK.out cap x y d1 w2 hs1 S2 h12b hyN
            have hr := choosePivot_holds (ltOf cf) d1 x y (by omega)
            rw [hpv] at kc hr
            obtain ⟨hp1, hp2⟩ := hr
            clear hpv S2
            simp only [] at hp1 hp2
            obtain ⟨hc, hhc⟩ : ∃ z : Int, z = hintCode hint := ⟨_, rfl⟩
            simp only [← hhc] at kc
            clear hhc
            go_upto_if 56 with (go_at_fn (ρ.f 23); refine kc.mono ?_; rintro e w3 ⟨rfl, S3⟩)
            clear kc
            go_cut [13, 14] from 21 to 147 (fun sx sy wx => ∃ (q : Nat) (h2 : Int) (d2 : Array α), sx = .int .i64 q ∧ sy = .int .i64 h2 ∧ x ≤ q ∧ q < y ∧ PermIn x y d1 d2 ∧ d2.size = N ∧ Aside (SWK enc k w0 blk off d2 wx))
            case first =>
              by_cases h2 : hc = 2
              · subst h2
                have kc := sReverse_ (P := P) (ρ := ρ) { LL.out with } aE zE KK.out cap x y d1 w3 hs1 S3 (by omega) hyN
                obtain ⟨q, hq, hq1, hq2⟩ := pivot_back hp1 hp2
                have r1 : IntKind.i64.wrap ((pv : Int) - (x : Int)) = (pv : Int) - (x : Int) := KK.out.wr _ (by omega) (by omega)
                have r2 : IntKind.i64.wrap ((y : Int) - 1) = (y : Int) - 1 := KK.out.wr _ (by omega) (by omega)
                have r3 : IntKind.i64.wrap (q : Int) = (q : Int) := KK.out.wr _ (by omega) (by omega)
                clear S3
                go_wp2_with (go_at_fn (ρ.f 24); refine kc.mono ?_; rintro e w4 ⟨rfl, S4⟩)
                go_meet
                have p := reverseRange_holds d1 x y hxy (by omega)
                exact ⟨q, _, _, by first | rfl | (congr 1; omega), rfl, hq1, hq2, p, p.1.trans hs1, S4⟩
              · have v1 : (hc == 2) = false := by rw [beq_eq_false_iff_ne]; exact h2
                go_wp2_with fail
                go_meet
                exact ⟨pv, _, d1, rfl, rfl, hp1, hp2, permIn_refl _ _ _, hs1, S3⟩
            case rest =>
              obtain ⟨q, h2, d2, rfl, rfl, hq1, hq2, p2, hs2, S4⟩ := hcut
              clear S3 hp1 hp2
              have HQ2 : Hid (PQ (ltOf cf) N a b d x y d2) := HQ1.out.perm p2
              clear p2 HQ1
              generalize wc = w4 at S4 ⊢
              go_upto_region 15 with fail
              go_cut [75] from 21 to 147 (fun sx wx => ∃ c : Bool, sx = .bool c ∧ w4 = wx)
              case first =>
                by_cases h1 : h2 = 1
                · subst h1
                  cases wb <;> cases wp <;> (go_wp2_with fail; go_meet; exact ⟨_, rfl, rfl⟩)
                · have v1 : (h2 == 1) = false := by rw [beq_eq_false_iff_ne]; exact h1
                  cases wb <;> cases wp <;> (go_wp2_with fail; go_meet; exact ⟨_, rfl, rfl⟩)
              case rest =>
                obtain ⟨c, rfl, rfl⟩ := hcut
                go_upto_if 75 with fail
                go_cut [] from 21 to 147 (fun wx => ∃ d3 : Array α, PermIn x y d2 d3 ∧ d3.size = N ∧ Aside (SWK enc k w0 blk off d3 wx))
                case first =>
                  cases c with
                  | false =>
                    go_wp2_with fail
                    go_meet
                    exact ⟨d2, permIn_refl _ _ _, hs2, S4⟩
                  | true =>
                    have kc := sPartial_ (P := P) (ρ := ρ) { LL.out with } aE zE KK.out cap x y d2 w4 hs2 S4 (by omega) hyN
                    obtain ⟨p, s⟩ := partialInsertionSort_holds hO d2 x y (by omega) (by omega) HQ2.out.bel
                    obtain ⟨d3, r, hr⟩ : ∃ u v, partialInsertionSort (ltOf cf) d2 x y = (u, v) := ⟨_, _, rfl⟩
                    simp only [hr] at kc p s
                    have HP := Lib.hid p
                    have HS := Lib.hid s
                    clear hr p s S4
                    cases r with
                    | true =>
                      go_wp2_with (go_at_fn (ρ.f 25); refine kc.mono ?_; rintro e w5 ⟨rfl, S5⟩)
                      (try simp only [Exit.inBlock, Exit.then]); refine bodyPost_ret (results_none rfl _ _ _) rfl ?_
                      exact ⟨rfl, d3, (HQ2.out.done HP.out (HS.out (by first | rfl | trivial))).1, (HQ2.out.done HP.out (HS.out (by first | rfl | trivial))).2, S5⟩
                    | false =>
                      go_wp2_with (go_at_fn (ρ.f 25); refine kc.mono ?_; rintro e w5 ⟨rfl, S5⟩)
                      go_meet
                      exact ⟨d3, HP.out, HP.out.1.trans hs2, S5⟩
                case rest =>
                  obtain ⟨d3, p3, hs3, S5⟩ := hcut
                  clear S4
                  have HQ3 : Hid (PQ (ltOf cf) N a b d x y d3) := HQ2.out.perm p3
                  clear p3 HQ2 hs2
                  generalize wc = w5 at S5 ⊢
                  go_upto_region 17 with fail
                  go_cut [97] from 21 to 147 (fun sx wx => ∃ c : Bool, sx = .bool c ∧ (c = true → 0 < x ∧ ltOf cf d3[x - 1]! d3[q]! = false) ∧ Aside (SWK enc k w0 blk off d3 wx))
                  case first =>
                    by_cases hx0 : 0 < x
                    · obtain ⟨xp, rfl⟩ : ∃ z, x = z + 1 := ⟨x - 1, by omega⟩
                      have v1 : decide ((0 : Int) < (xp : Int) + 1) = true := decide_eq_true (by omega)
                      have v2 : (0 : Int) < (xp : Int) + 1 := by omega
                      cases hl : ltOf cf d3[xp]! d3[q]! with
                      | true =>
                        have HL : Hid (ltOf cf d3[xp]! d3[q]! = true) := hl
                        obtain ⟨ea1, eb1, ec1, ed1⟩ := KK.out.at ((xp : Int)) (xp) (by omega) (by omega)
                        obtain ⟨ea2, eb2, ec2, ed2⟩ := KK.out.at ((q : Int)) (q) (by omega) (by omega)
                        obtain ⟨x3, y3, c3, hv3, la3, lb3, hc3, SG3⟩ := KK.out.test S5 (by omega) (xp) (q) (by omega) (by omega) true hl
                        have HG3 := Lib.hid SG3
                        clear SG3
                        go_wp2_with fail
                        go_quiet_grown (first | (go_at_fn g; refine hc3 _ _))
                        have S6 := HG3.out nq osq
                        clear la3 lb3 hc3 HG3 S5
                        generalize grow (w5.drewN nq) osq = w6 at S6 ⊢
                        clear nq osq
                        clear hl
                        go_wp2
                        go_meet
                        exact ⟨_, rfl, (fun h => by cases h), S6⟩
                      | false =>
                        have HL : Hid (ltOf cf d3[xp]! d3[q]! = false) := hl
                        obtain ⟨ea4, eb4, ec4, ed4⟩ := KK.out.at ((xp : Int)) (xp) (by omega) (by omega)
                        obtain ⟨ea5, eb5, ec5, ed5⟩ := KK.out.at ((q : Int)) (q) (by omega) (by omega)
                        obtain ⟨x6, y6, c6, hv6, la6, lb6, hc6, SG6⟩ := KK.out.test S5 (by omega) (xp) (q) (by omega) (by omega) false hl
                        have HG6 := Lib.hid SG6
                        clear SG6
                        go_wp2_with fail
                        go_quiet_grown (first | (go_at_fn g; refine hc6 _ _))
                        have S6 := HG6.out nq osq
                        clear la6 lb6 hc6 HG6 S5
                        generalize grow (w5.drewN nq) osq = w6 at S6 ⊢
                        clear nq osq
                        clear hl
                        go_wp2
                        go_meet
                        exact ⟨_, rfl, fun _ => ⟨Nat.succ_pos _, HL.out⟩, S6⟩
                    · obtain rfl : x = 0 := by omega
                      have v1 : decide ((((0 : Nat) : Int)) > 0) = false := by decide
                      have S6 : Aside (SWK enc k w0 blk off d3 w5.drew) := S5.out.drew
                      go_wp2_with fail
                      go_big_region_o
                      all_goals go_wp2
                      go_meet
                      exact ⟨_, rfl, (fun h => by cases h), S6⟩
                  case rest =>
                    obtain ⟨c, rfl, hc3, S6⟩ := hcut
                    clear S5
                    generalize wc = w6 at S6 ⊢
                    have HC3 := Lib.hid hc3
                    clear hc3
                    cases c with
                    | true =>
                      obtain ⟨hx0, hl⟩ := HC3.out rfl
                      obtain ⟨mid, d4, hx⟩ : ∃ u v, partitionEqual (ltOf cf) d3 x y q = (u, v) := ⟨_, _, rfl⟩
                      obtain ⟨m1, m2, Q4⟩ := HQ3.out.eq hO hx0 hq1 hq2 hl hx
                      have kc := sEqual_ (P := P) (ρ := ρ) { LL.out with } aE zE KK.out cap x y q d3 w6 hs3 S6 hq1 hq2 hyN
                      rw [hx] at kc
                      have HQ4 := Lib.hid Q4
                      clear hx hl S6 Q4 HC3 HQ3
                      go_wp2_with (go_at_fn (ρ.f 26); refine kc.mono ?_; rintro e w7 ⟨rfl, S7⟩)
                      go_roundg (y - mid)
                      case measure => omega
                      case rel => exact ⟨mid, y, l2, wb, wp, d4, rfl, rfl, rfl, rfl, rfl, Nat.le_refl _, by omega, by omega, HQ4.out, S7⟩
                    | false =>
                      obtain ⟨mid, ap, d4, hx⟩ : ∃ u v z, partition (ltOf cf) d3 x y q = (u, v, z) := ⟨_, _, _, rfl⟩
                      obtain ⟨m1, m2, hs4, B1, B2, G1, G2⟩ := HQ3.out.part hO hq1 hq2 hx
                      have kc := sPartition_ (P := P) (ρ := ρ) { LL.out with } aE zE KK.out cap x y q d3 w6 hs3 S6 hq1 hq2 hyN
                      rw [hx] at kc
                      have HG := Lib.hid (And.intro B1 (And.intro B2 (And.intro G1 G2)))
                      clear hx S6 HC3 HQ3 B1 B2 G1 G2
                      obtain ⟨q8, hq8⟩ : ∃ z : Nat, z = (y - x) / 8 := ⟨_, rfl⟩
                      have e8 : ((y : Int) - (x : Int)).tdiv 8 = (q8 : Int) := by rw [show (y : Int) - (x : Int) = ((y - x : Nat) : Int) by omega, hq8]; rfl
                      have r8 : IntKind.i64.wrap (q8 : Int) = (q8 : Int) := KK.out.wr _ (by omega) (by omega)
                      have r9 : IntKind.i64.wrap ((mid : Int) - (x : Int)) = (mid : Int) - (x : Int) := KK.out.wr _ (by omega) (by omega)
                      have r10 : IntKind.i64.wrap ((y : Int) - (mid : Int)) = (y : Int) - (mid : Int) := KK.out.wr _ (by omega) (by omega)
                      have r11 : IntKind.i64.wrap ((mid : Int) + 1) = (mid : Int) + 1 := KK.out.wr _ (by omega) (by omega)
                      clear hq8
                      go_upto_if 125 with (go_at_fn (ρ.f 27); refine kc.mono ?_; rintro e w7 ⟨rfl, S7⟩)
                      clear kc
                      by_cases h4 : mid - x < y - mid
                      · have z1 : decide ((mid : Int) - (x : Int) < (y : Int) - (mid : Int)) = true := decide_eq_true (by omega)
                        have z2 : (mid : Int) - (x : Int) < (y : Int) - (mid : Int) := by omega
                        have kr := IH.out x mid l2 d4 w7 (by omega) hs4 S7 m1 (by omega) (by omega) HG.out.1
                        clear S7
                        go_wp2_with (go_at_fn (ρ.f 14); refine kr.mono ?_; rintro e w8 ⟨rfl, R, pR, sR, S8⟩)
                        go_roundg (y - (mid + 1))
                        case measure => omega
                        case rel => exact ⟨mid + 1, y, l2, _, _, R, by first | rfl | go_num, rfl, rfl, rfl, rfl, Nat.le_refl _, by omega, by omega, HG.out.2.2.1 R pR sR, S8⟩
                      · have z1 : decide ((mid : Int) - (x : Int) < (y : Int) - (mid : Int)) = false := decide_eq_false (by omega)
                        have z2 : ¬ (mid : Int) - (x : Int) < (y : Int) - (mid : Int) := by omega
                        have kr := IH.out (mid + 1) y l2 d4 w7 (by omega) hs4 S7 (by omega) hyN (by omega) HG.out.2.1
                        rw [show ((mid + 1 : Nat) : Int) = (mid : Int) + 1 by omega] at kr
                        clear S7
                        go_wp2_with (go_at_fn (ρ.f 14); refine kr.mono ?_; rintro e w8 ⟨rfl, R, pR, sR, S8⟩)
                        go_roundg (mid - x)
                        case measure => omega
                        case rel => exact ⟨x, mid, l2, _, _, R, rfl, rfl, rfl, rfl, rfl, Nat.le_refl _, by omega, by omega, HG.out.2.2.2 R pR sR, S8⟩
end
end Go.Proofs.Ytmephmjlajaopaa
