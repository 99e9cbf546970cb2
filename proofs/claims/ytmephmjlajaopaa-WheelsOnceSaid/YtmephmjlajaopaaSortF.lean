/- slices.SortFunc, its order a method value. Written by gen_sortf.py. -/
import Derived.Test.YtmephmjlajaopaaSortQ
import Derived.Shelf.SlSortCmp.Xorshift
namespace Go.Proofs.Ytmephmjlajaopaa
set_option linter.unusedVariables false
set_option linter.unusedSimpArgs false
open Go.Shelf Go.RowKit Go.Lib Go.Sort
section
variable {P : Program} {ρ : Ren} {α : Type} [Inhabited α] {g : Nat} {v : Value} {enc : α → List Value} {k : Nat} {cf : α → α → Int} {blk off N : Nat} {d0 : Array α} {w0 : World}
set_option maxHeartbeats 4000000 in
set_option maxRecDepth 1000000 in
/-- slices.SortFunc of a row. -/
theorem sSort_ (L : SlLaysF0.n6 P ρ) (aE : ∀ w, (isAgg (ρ.t 24)).run P w = .ok true w) (zE : ∀ w, (Go.sizeOf (ρ.t 24)).run P w = .ok k w) (K : Srt P g v enc k cf blk off N d0 w0) (cap : Nat) (d : Array α) (w : World) (hd : d.size = N) (S : Aside (SWK enc k w0 blk off d w)) :
    Calls P (ρ.f 6) #[.slice (some ⟨blk, off, none⟩) N cap, .func (.func g) #[v] #[]] w fun e w' => e = .returned (.tuple #[]) ∧ ∃ R, PermIn 0 N d R ∧ SortedIn (ltOf cf) 0 N R ∧ Aside (SWK enc k w0 blk off R w') := by
  have few0 := K.few
  obtain ⟨lm, hlm⟩ : ∃ n, n = Lib.bitLen N := ⟨_, rfl⟩
  have hl62 : lm ≤ 62 := by rw [hlm]; exact Lib.bitLen_le N 62 (by omega) (by omega)
  have kl : ∀ w, Calls P (ρ.f 15) #[.int .u64 (N : Int)] w fun e w' => e = .returned (.int .i64 (lm : Int)) ∧ w' = w := fun w => by
    have h := Any.bits_Len (SlLaysF0.n15.bits (P := P) (ρ := ρ) { L with }) (N : Int) w (by omega) (by omega)
    rwa [Int.toNat_natCast, ← hlm] at h
  clear hlm
  have kp := sPdq_ (P := P) (ρ := ρ) { L with } aE zE K cap (N + 1) 0 N lm d w (by omega) hd S (Nat.zero_le _) (Nat.le_refl _) (by omega) (.inl rfl)
  clear S
  have e15 : ∀ args w, (callFunc (ρ.f 15) args).run P w = .ok (.enter (ρ.f 15) args) w := enters_of L.f15 (by kernel_rfl) rfl
  have wr : IntKind.u64.wrap (N : Int) = N := by simp [IntKind.wrap, IntKind.bits, IntKind.signed]; omega
  obtain ⟨mixed, _, _, _, _, _, _, _, _, _, _, _, _, _, _, _, _, _, _, _, t0, a0, z0, v0, t3, a3, z3, v3, t4, a4, z4, v4, t5, a5, z5, v5, t9, a9, z9, v9, t22, a22, z22, v22, t25, a25, z25, v25, t39, a39, z39, v39, t45, a45, z45, v45, t46, a46, z46, v46, t50, a50, z50, v50, t53, a53, z53, v53, t55, a55, z55, v55, t66, a66, z66, v66, t70, a70, z70, v70, t76, a76, z76, v76, t77, a77, z77, v77⟩ := id L
  obtain ⟨_, _, FG⟩ := L.f6
  have few := K.few
  have e14 : ∀ args w, (callFunc (ρ.f 14) args).run P w = .ok (.enter (ρ.f 14) args) w := L.f14.enters rfl
  have eg := K.eg
  have KK : Aside _ := K
  clear K
  go_enter FG, SlBodyF.n6_ntmps ρ
  go_wp2_with (first | (go_at_fn (ρ.f 15); refine (kl _).mono ?_; rintro e w1 ⟨rfl, rfl⟩) | (go_at_fn (ρ.f 14); refine kp.mono ?_; rintro e w1 ⟨rfl, R, pR, sR, S1⟩))
  go_end0
  exact ⟨rfl, R, pR, sR, S1⟩
set_option maxHeartbeats 4000000 in
set_option maxRecDepth 1000000 in
omit [Inhabited α] in
theorem sInsNil_ (L : SlLaysF0.n20 P ρ) (eg : ∀ args w, (callFunc g args).run P w = .ok (.enter g args) w) (w : World) :
    Calls P (ρ.f 20) #[.slice none 0 0, .int .i64 0, .int .i64 0, .func (.func g) #[v] #[]] w fun e w' => e = .returned (.tuple #[]) ∧ w' = w := by
  obtain ⟨mixed, _, t0, a0, z0, v0, t3, a3, z3, v3, t4, a4, z4, v4, t22, a22, z22, v22, t25, a25, z25, v25⟩ := id L
  obtain ⟨_, _, FG⟩ := L.f20
  go_enter FG, SlBodyF.n20_ntmps ρ
  go_wp2
  refine wp_loop_rounds 1 ?_
  rw [rounds_succ]
  go_wp2
  go_end0
  exact ⟨rfl, rfl⟩
set_option maxHeartbeats 4000000 in
set_option maxRecDepth 1000000 in
omit [Inhabited α] in
theorem sPdqNil_ (L : SlLaysF0.n14 P ρ) (eg : ∀ args w, (callFunc g args).run P w = .ok (.enter g args) w) (w : World) :
    Calls P (ρ.f 14) #[.slice none 0 0, .int .i64 0, .int .i64 0, .int .i64 0, .func (.func g) #[v] #[]] w fun e w' => e = .returned (.tuple #[]) ∧ w' = w := by
  have kp := sInsNil_ (P := P) (ρ := ρ) (v := v) { L with } eg w
  obtain ⟨mixed, _, _, _, _, _, _, _, _, _, _, _, _, _, _, _, _, _, _, t0, a0, z0, v0, t3, a3, z3, v3, t4, a4, z4, v4, t5, a5, z5, v5, t9, a9, z9, v9, t22, a22, z22, v22, t25, a25, z25, v25, t39, a39, z39, v39, t45, a45, z45, v45, t46, a46, z46, v46, t50, a50, z50, v50, t53, a53, z53, v53, t55, a55, z55, v55, t66, a66, z66, v66, t70, a70, z70, v70, t76, a76, z76, v76, t77, a77, z77, v77⟩ := id L
  obtain ⟨_, _, FG⟩ := L.f14
  have e20 : ∀ args w, (callFunc (ρ.f 20) args).run P w = .ok (.enter (ρ.f 20) args) w := L.f20.enters rfl
  go_enter FG, SlBodyF.n14_ntmps ρ
  go_wp2
  refine wp_loop_rounds 1 ?_
  rw [rounds_succ]
  go_wp2_with (go_at_fn (ρ.f 20); refine kp.mono ?_; rintro e w1 ⟨rfl, rfl⟩)
  (try simp only [Exit.inBlock, Exit.then]); refine bodyPost_ret (results_none rfl _ _ _) rfl ?_
  exact ⟨rfl, rfl⟩
set_option maxHeartbeats 4000000 in
set_option maxRecDepth 1000000 in
omit [Inhabited α] in
theorem sSortNil_ (L : SlLaysF0.n6 P ρ) (eg : ∀ args w, (callFunc g args).run P w = .ok (.enter g args) w) (w : World) :
    Calls P (ρ.f 6) #[.slice none 0 0, .func (.func g) #[v] #[]] w fun e w' => e = .returned (.tuple #[]) ∧ w' = w := by
  have kp := sPdqNil_ (P := P) (ρ := ρ) (v := v) { L with } eg w
  have kl : ∀ w, Calls P (ρ.f 15) #[.int .u64 0] w fun e w' => e = .returned (.int .i64 0) ∧ w' = w := fun w => by
    have h := Any.bits_Len (SlLaysF0.n15.bits (P := P) (ρ := ρ) { L with }) 0 w (by omega) (by omega)
    exact h
  have e15 : ∀ args w, (callFunc (ρ.f 15) args).run P w = .ok (.enter (ρ.f 15) args) w := enters_of L.f15 (by kernel_rfl) rfl
  have wr : IntKind.u64.wrap 0 = 0 := by decide
  obtain ⟨mixed, _, _, _, _, _, _, _, _, _, _, _, _, _, _, _, _, _, _, _, t0, a0, z0, v0, t3, a3, z3, v3, t4, a4, z4, v4, t5, a5, z5, v5, t9, a9, z9, v9, t22, a22, z22, v22, t25, a25, z25, v25, t39, a39, z39, v39, t45, a45, z45, v45, t46, a46, z46, v46, t50, a50, z50, v50, t53, a53, z53, v53, t55, a55, z55, v55, t66, a66, z66, v66, t70, a70, z70, v70, t76, a76, z76, v76, t77, a77, z77, v77⟩ := id L
  obtain ⟨_, _, FG⟩ := L.f6
  have e14 : ∀ args w, (callFunc (ρ.f 14) args).run P w = .ok (.enter (ρ.f 14) args) w := L.f14.enters rfl
  go_enter FG, SlBodyF.n6_ntmps ρ
  go_wp2_with (first | (go_at_fn (ρ.f 15); refine (kl _).mono ?_; rintro e w1 ⟨rfl, rfl⟩) | (go_at_fn (ρ.f 14); refine kp.mono ?_; rintro e w1 ⟨rfl, rfl⟩))
  go_end0
  exact ⟨rfl, rfl⟩
end
end Go.Proofs.Ytmephmjlajaopaa
