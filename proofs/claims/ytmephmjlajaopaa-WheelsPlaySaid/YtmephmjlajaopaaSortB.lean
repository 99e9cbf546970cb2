/- slices.breakPatternsCmpFunc, its order a method value. Written by gen_sortb.py. -/
import Derived.Test.YtmephmjlajaopaaSortA
import Derived.Shelf.SlSortCmp.Xorshift
import Derived.Sort.Walk7
import Derived.Sort.LotD1
import Derived.Sort.LotD5
namespace Go.Proofs.Ytmephmjlajaopaa
set_option linter.unusedVariables false
set_option linter.unusedSimpArgs false
open Go.Shelf Go.RowKit Go.Lib Go.Sort
section
variable {P : Program} {ρ : Ren} {α : Type} [Inhabited α] {g : Nat} {v : Value} {enc : α → List Value} {k : Nat} {cf : α → α → Int} {blk off N : Nat} {d0 : Array α} {w0 : World}
omit [Inhabited α] in
theorem mask_lt {R M O : Nat} (h : O = R &&& (M - 1)) : O ≤ M - 1 := by rw [h]; exact Nat.and_le_right
theorem Srt.swapB {P : Program} {g : Nat} {dk : Array α} {W : World} (K : Srt P g v enc k cf blk off N d0 w0) (S : Aside (SWK enc k w0 blk off dk W)) (hs : dk.size = N) (i j : Nat) (hi : i < N) (hj : j < N) (c : Nat) (x : Value) (hne : c ≠ blk) (hc : W.cell? ⟨c, 0, none⟩ = some x) (hf : W.frozen? ⟨c, 0, none⟩ = false) :
    ∃ (ci cj : List Value) (W1 W2 : World), ci.length = k ∧ cj.length = k ∧ Sem.run P (loadCellsFrom ⟨blk, off + i * k, none⟩ 0 k #[]) W.drew = .ok ci.toArray W.drew ∧ Sem.run P (loadCellsFrom ⟨blk, off + j * k, none⟩ 0 k #[]) W.drew = .ok cj.toArray W.drew ∧
      Sem.run P (storeCells ⟨blk, off + i * k, none⟩ cj 0) W.drew = .ok () W1 ∧ Sem.run P (storeCells ⟨blk, off + j * k, none⟩ ci 0) W1 = .ok () W2 ∧ Aside (SWK enc k w0 blk off (swp dk i j) W2) ∧ W2.cell? ⟨c, 0, none⟩ = some x ∧ W2.frozen? ⟨c, 0, none⟩ = false := by
  have hd : dk.size = d0.size := hs.trans K.sz.symm
  have k1 := box_kept_swap (W := W) (blk := blk) hne hc hf (off + i * k) (off + j * k) (enc dk[j]!) (enc dk[i]!)
  exact ⟨enc dk[i]!, enc dk[j]!, _, _, K.row.hk _, K.row.hk _, S.out.ld1 K.row hd P i (by omega), S.out.ld1 K.row hd P j (by omega), S.out.st1 K.row hd P i (by omega) _, S.out.st2 K.row hd P i j (by omega) (by omega) _ _, S.out.swapped K.row i j (by omega) (by omega), k1.1, k1.2⟩
set_option maxHeartbeats 8000000 in
set_option maxRecDepth 1000000 in
theorem sBreakL_ (L : SlLaysF0.n22 P ρ) (aE : ∀ w, (isAgg (ρ.t 24)).run P w = .ok true w) (zE : ∀ w, (Go.sizeOf (ρ.t 24)).run P w = .ok k w) (K : Srt P g v enc k cf blk off N d0 w0) (cap a len : Nat) (d : Array α) (w : World) (hd : d.size = N) (S : Aside (SWK enc k w0 blk off d w)) (h8 : 12 < len) (hb : a + len ≤ N) :
    Calls P (ρ.f 22) #[.slice (some ⟨blk, off, none⟩) N cap, .int .i64 a, .int .i64 ((a : Int) + (len : Int)), .func (.func g) #[v] #[]] w fun e w' => e = .returned (.tuple #[]) ∧ Aside (SWK enc k w0 blk off (breakPatterns d a (a + len)) w') := by
  have LL : Aside _ := L
  obtain ⟨R0, hR0⟩ : ∃ r, r = breakPatterns d a (a + len) := ⟨_, rfl⟩
  rw [← hR0]
  obtain ⟨M, hM⟩ : ∃ M : Nat, M = 1 <<< bitsLen len := ⟨_, rfl⟩
  rw [breakPatterns_eq d a len (by omega), ← hM] at hR0
  obtain ⟨I0, hI0⟩ : ∃ I : Nat, I = a + len / 4 * 2 - 1 := ⟨_, rfl⟩
  rw [← hI0] at hR0
  have hM1 : 1 ≤ M := by rw [hM, Nat.one_shiftLeft]; exact Nat.two_pow_pos _
  have hM2 : M ≤ 2 * len := by rw [hM, Nat.one_shiftLeft]; exact two_pow_bitsLen_le (by omega)
  have hne : w.heap.size ≠ blk := by have := S.out.lt K.row.hblk; omega
  have hle0 : w0.heap.size ≤ w.heap.size := S.out.le
  have kNP : ∀ w, Calls P (ρ.f 47) #[.int .i64 (len : Int)] w fun e w' => e = .returned (.int .u64 (M : Int)) ∧ w' = w := by rw [hM]; have := K.few; exact fun w => AnyF.nextPowerOfTwo { L with } len (by omega) w
  clear hM
  have HR0 := Lib.hid hR0
  clear hR0
  have hlz : (a : Int) + (len : Int) - (a : Int) = (len : Int) := by omega
  have h8z : (8 : Int) ≤ (len : Int) := by omega
  obtain ⟨q4, hq4⟩ : ∃ x : Nat, x = len / 4 := ⟨_, rfl⟩
  have eq4' : (len : Int).tdiv 4 = (q4 : Int) := by rw [hq4]; rfl
  have hq5 : q4 ≤ len := by omega
  have hI1 : I0 + 1 = a + q4 * 2 := by omega
  have hI2 : I0 + 2 < a + len := by omega
  have ei2 : (a : Int) + (q4 : Int) * 2 = (I0 : Int) + 1 := by omega
  clear hI0
  obtain ⟨mixed, _, _, _, _, _, _, t0, a0, z0, v0, t3, a3, z3, v3, t4, a4, z4, v4, t5, a5, z5, v5, t9, a9, z9, v9, t22, a22, z22, v22, t25, a25, z25, v25, t39, a39, z39, v39, t53, a53, z53, v53, t55, a55, z55, v55, t66, a66, z66, v66, t76, a76, z76, v76⟩ := id L
  obtain ⟨_, _, FG⟩ := L.f22
  have few := K.few
  have eg := K.eg
  have KK : Aside _ := K
  clear K
  go_enter FG, SlBodyF.n22_ntmps ρ
  have e47 : ∀ args w, (callFunc (ρ.f 47) args).run P w = .ok (.enter (ρ.f 47) args) w := enters_of L.f47 (by kernel_rfl) rfl
  have e48 : ∀ args w, (callFunc (ρ.f 48) args).run P w = .ok (.enter (ρ.f 48) args) w := enters_of L.f48 (by kernel_rfl) rfl
  have u1 : IntKind.i64.wrap (q4 : Int) = (q4 : Int) := KK.out.wr _ (by omega) (by omega)
  have u2 : IntKind.i64.wrap ((q4 : Int) * 2) = (q4 : Int) * 2 := KK.out.wr _ (by omega) (by omega)
  have u3 : IntKind.i64.wrap ((I0 : Int) + 1) = (I0 : Int) + 1 := KK.out.wr _ (by omega) (by omega)
  have u4 : IntKind.i64.wrap (I0 : Int) = (I0 : Int) := KK.out.wr _ (by omega) (by omega)
  go_wp2_with (first | (go_at_fn (ρ.f 47); refine (kNP _).mono ?_; rintro e w' ⟨rfl, rfl⟩))
  go_loopg [11] 3 (fun g1 vi wr => ∃ (t : Nat) (r : UInt64) (dk : Array α), vi = .int .i64 ((I0 : Int) + (t : Int)) ∧ t ≤ 3 ∧ 3 - t ≤ g1 ∧ dk.size = N ∧ Aside (SWK enc k w0 blk off dk wr) ∧ wr.cell? ⟨w.heap.size, 0, none⟩ = some (.int .u64 (r.toNat : Int)) ∧ wr.frozen? ⟨w.heap.size, 0, none⟩ = false ∧ Hid (R0 = bpRest a len M I0 (3 - t) t (r, dk)))
  case atStart =>
    refine ⟨0, UInt64.ofNat len, d, by first | rfl | (congr 1; omega) | simp, by omega, by omega, hd, S.out.alloc _, ?_, by simp, HR0.out⟩
    rw [show (UInt64.ofNat len).toNat = len from by simp; omega]
    simp
  case round =>
    clear S HR0 hd
    obtain ⟨t, r, dk, rfl, ht, hg1, hds, S1, cR, fR, HR⟩ := hrel
    by_cases ht3 : t < 3
    · have hle : (I0 : Int) + (t : Int) ≤ (I0 : Int) + 2 := by omega
      have hle2 : decide ((I0 : Int) + (t : Int) ≤ (I0 : Int) + 2) = true := decide_eq_true hle
      obtain ⟨X, hX⟩ : ∃ X : Nat, X = r.toNat := ⟨_, rfl⟩
      have lX : X < 18446744073709551616 := by rw [hX]; exact r.toNat_lt
      obtain ⟨Y, hY⟩ : ∃ Y : Nat, Y = xorNextN X := ⟨_, rfl⟩
      have lY : Y < 18446744073709551616 := by rw [hY]; exact xorNextN_lt X lX
      obtain ⟨O, hO⟩ : ∃ O : Nat, O = Y &&& (M - 1) := ⟨_, rfl⟩
      have lO : O ≤ M - 1 := mask_lt hO
      have eAnd : bits .and .u64 (Y : Int) ((M : Int) - 1) = (O : Int) := by
        rw [show ((M : Int) - 1) = ((M - 1 : Nat) : Int) by omega, bits_and_u64_nat _ _ lY (by omega), hO]
      rw [← hX] at cR
      have kNext : Calls P (ρ.f 48) #[.pointer (some ⟨w.heap.size, 0, none⟩)] wr fun e w' => e = .returned (.int .u64 (Y : Int)) ∧ w' = (wr.setCell ⟨w.heap.size, 0, none⟩ (.int .u64 (Y : Int))).drewN 3 := by
        rw [hY]; exact AnyF.xorshift_Next { LL.out with } _ _ X lX wr cR fR
      have HN : Hid (Y = (xorNext r).toNat ∧ O = (xorNext r).toNat &&& (M - 1)) := by
        have e : Y = (xorNext r).toNat := by rw [hY, hX, xorNext_toNat]
        exact ⟨e, by rw [hO, e]⟩
      clear hX hY hO
      have S2 : Aside (SWK enc k w0 blk off dk ((wr.setCell ⟨w.heap.size, 0, none⟩ (.int .u64 (Y : Int))).drewN 3)) := (S1.out.setCell_new w.heap.size 0 (.int .u64 (Y : Int)) hle0).drewN 3
      have c2 : ((wr.setCell ⟨w.heap.size, 0, none⟩ (.int .u64 (Y : Int))).drewN 3).cell? ⟨w.heap.size, 0, none⟩ = some (.int .u64 (Y : Int)) := by
        rw [World.cell?_drewN]; exact World.cell?_setCell_same _ _ _ cR
      have f2 : ((wr.setCell ⟨w.heap.size, 0, none⟩ (.int .u64 (Y : Int))).drewN 3).frozen? ⟨w.heap.size, 0, none⟩ = false := by
        rw [World.frozen?_drewN]; simpa using fR
      generalize (wr.setCell ⟨w.heap.size, 0, none⟩ (.int .u64 (Y : Int))).drewN 3 = w2 at kNext S2 c2 f2
      clear cR fR S1
      obtain ⟨ia1, ib1, ic1, id1⟩ := KK.out.at ((I0 : Int) + (t : Int)) (I0 + t) (by omega) (by omega)
      by_cases hLO : len ≤ O
      · have hz : (len : Int) ≤ (O : Int) := by omega
        have hz2 : decide ((len : Int) ≤ (O : Int)) = true := decide_eq_true hz
        have r1 : IntKind.i64.wrap ((O : Int) - (len : Int)) = (O : Int) - (len : Int) := KK.out.wr _ (by omega) (by omega)
        go_wp2_with (go_at_fn (ρ.f 48); refine kNext.mono ?_; rintro e w' ⟨rfl, hw'⟩; obtain rfl : w2 = w' := hw'.symm)
        obtain ⟨ja1, jb1, jc1, jd1⟩ := KK.out.at ((a : Int) + ((O : Int) - (len : Int))) (a + (O - len)) (by omega) (by omega)
        obtain ⟨ci, cj, wa, w3, na, nb, la, lb, sa, sb, S3, c3, f3⟩ := KK.out.swapB S2 (by omega) (I0 + t) (a + (O - len)) (by omega) (by omega) w.heap.size _ hne c2 f2
        clear c2 f2
        go_wp2_with fail
        go_big_region_o
        clear la lb sa sb S2
        go_wp2
        go_roundg (3 - (t + 1))
        case measure => omega
        case rel => exact ⟨t + 1, xorNext r, swp dk (I0 + t) (a + (O - len)), by first | rfl | (congr 1; push_cast; omega) | (simp; omega), by omega, Nat.le_refl _, by rw [size_swp]; exact hds, S3, by rw [← HN.out.1]; exact c3, f3, (show Hid _ from by rw [HR.out]; exact bp_step a len M _ t r dk ((O - len)) ht3 (by rw [← HN.out.2, if_pos (by omega)]))⟩
      · have hz : ¬ (len : Int) ≤ (O : Int) := by omega
        have hz2 : decide ((len : Int) ≤ (O : Int)) = false := decide_eq_false hz
        go_wp2_with (go_at_fn (ρ.f 48); refine kNext.mono ?_; rintro e w' ⟨rfl, hw'⟩; obtain rfl : w2 = w' := hw'.symm)
        obtain ⟨ja1, jb1, jc1, jd1⟩ := KK.out.at ((a : Int) + (O : Int)) (a + O) (by omega) (by omega)
        obtain ⟨ci, cj, wa, w3, na, nb, la, lb, sa, sb, S3, c3, f3⟩ := KK.out.swapB S2 (by omega) (I0 + t) (a + O) (by omega) (by omega) w.heap.size _ hne c2 f2
        clear c2 f2
        go_wp2_with fail
        go_big_region_o
        clear la lb sa sb S2
        go_wp2
        go_roundg (3 - (t + 1))
        case measure => omega
        case rel => exact ⟨t + 1, xorNext r, swp dk (I0 + t) (a + O), by first | rfl | (congr 1; push_cast; omega) | (simp; omega), by omega, Nat.le_refl _, by rw [size_swp]; exact hds, S3, by rw [← HN.out.1]; exact c3, f3, (show Hid _ from by rw [HR.out]; exact bp_step a len M _ t r dk (O) ht3 (by rw [← HN.out.2, if_neg (by omega)]))⟩
    · obtain rfl : t = 3 := by omega
      have hle : ¬ (I0 : Int) + ((3 : Nat) : Int) ≤ (I0 : Int) + 2 := by omega
      have hle2 : decide ((I0 : Int) + ((3 : Nat) : Int) ≤ (I0 : Int) + 2) = false := decide_eq_false hle
      go_wp2
      go_end0
      refine ⟨rfl, ?_⟩
      rw [HR.out]
      exact S1
theorem sBreak_ (L : SlLaysF0.n22 P ρ) (aE : ∀ w, (isAgg (ρ.t 24)).run P w = .ok true w) (zE : ∀ w, (Go.sizeOf (ρ.t 24)).run P w = .ok k w) (K : Srt P g v enc k cf blk off N d0 w0) (cap a b : Nat) (d : Array α) (w : World) (hd : d.size = N) (S : Aside (SWK enc k w0 blk off d w)) (hab : 12 < b - a) (hb : b ≤ N) :
    Calls P (ρ.f 22) #[.slice (some ⟨blk, off, none⟩) N cap, .int .i64 a, .int .i64 b, .func (.func g) #[v] #[]] w fun e w' => e = .returned (.tuple #[]) ∧ Aside (SWK enc k w0 blk off (breakPatterns d a b) w') := by
  obtain ⟨len, rfl⟩ : ∃ len, b = a + len := ⟨b - a, by omega⟩
  have h := sBreakL_ L aE zE K cap a len d w hd S (by omega) hb
  rwa [show ((a + len : Nat) : Int) = (a : Int) + (len : Int) by omega]
end
end Go.Proofs.Ytmephmjlajaopaa
