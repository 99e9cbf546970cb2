/- Layer 16: Do, kind 2. Written by gen_pdo.py. -/
import Derived.Test.YtbbadpidolfleaaPoU
namespace Go.Proofs.Ytbbadpidolfleaa
set_option linter.unusedVariables false
set_option maxRecDepth 100000
set_option linter.unusedSimpArgs false
open Go.ChangeShapes Go.WideShapes Go.ChangeAt Go.RowKit Go.PlainAid
attribute [local go_sem ↓] Go.wp_at_zero Go.wp_at_succ
set_option maxHeartbeats 8000000 in
theorem do2_ (K : PortsOk) {w0 w : World} {S T : Nat → Prop} {p q : Nat} {X : Po} {n : Nat} (x : Ac) (hx : AOk x) (hk : x.kd % 9 = 2) (h : Pair K.toObjP poR w0 w S T p q X X) (few : X.Few n) (hn : n + 2 ≤ 1000) :
    Calls Try.prog 12 #[.agg #[.int .u8 x.kd, .int .u8 x.pr, .int .u8 x.inn, .int .u8 x.out, .int .u8 x.sp, .int .u8 x.w.pr, .int .u32 x.w.ii, .int .u16 x.w.ip, .int .u32 x.w.oi, .int .u16 x.w.fr, .int .u16 x.w.to, .int .u16 x.w.dr, .int .u32 x.fi, .int .u16 x.fp], .pointer (some ⟨p, 0, none⟩), .pointer (some ⟨q, 0, none⟩)] w fun e w' => e = .returned (.bool true) ∧ ∃ S' T' X', Pair K.toObjP poR w0 w' S' T' p q X' X' ∧ X'.Few (n + 2) := by
  have HX := Lib.hid hx
  have HF := Lib.hid few
  have HN := Lib.hid hn
  obtain ⟨m1, m2, _, _, m5, m6⟩ := byte_mod hx.kd (m := 9) (by decide)
  have BA : Below w.heap.size w (w.alloc (.cells #[.int .u8 x.kd, .int .u8 x.pr, .int .u8 x.inn, .int .u8 x.out, .int .u8 x.sp, .int .u8 x.w.pr, .int .u32 x.w.ii, .int .u16 x.w.ip, .int .u32 x.w.oi, .int .u16 x.w.fr, .int .u16 x.w.to, .int .u16 x.w.dr, .int .u32 x.fi, .int .u16 x.fp] 38)) := (Below.refl _ _).alloc (Nat.le_refl _) _
  have P1 := h.on BA
  have A1 := AcB.made w x 38
  have sa : ¬ S w.heap.size := fun e => Nat.lt_irrefl _ (K.lt h.fst _ e)
  have ta : ¬ T w.heap.size := fun e => Nat.lt_irrefl _ (poR.lt h.snd _ e)
  have ks := fun X => small_ x hx X
  generalize hkk : x.kd % 9 = kk at hk m1 m2 m5 m6
  subst hk
  clear h few hn hx BA hkk
  go_enter Try.func12, Try.ntmps12
  go_upto_region 1 with fail
  generalize w.alloc (.cells #[.int .u8 x.kd, .int .u8 x.pr, .int .u8 x.inn, .int .u8 x.out, .int .u8 x.sp, .int .u8 x.w.pr, .int .u32 x.w.ii, .int .u16 x.w.ip, .int .u32 x.w.oi, .int .u16 x.w.fr, .int .u16 x.w.to, .int .u16 x.w.dr, .int .u32 x.fi, .int .u16 x.fp] 38) = u at P1 A1 ⊢
  generalize w.heap.size = a at A1 sa ta ⊢
  have H1 := Lib.hid (And.intro P1 (And.intro A1 (And.intro sa ta)))
  obtain ⟨_, c0, c1, c2, c3, c4, c5, c6, c7, c8, c9, c10, c11, c12, c13⟩ := id A1
  clear P1 A1 sa ta
  go_upto_region 2 with (go_at_call 27; refine (ks _).mono ?_; rintro e w2 ⟨rfl, b2⟩)
  have P2 := H1.out.1.on b2
  have b3 : Below w2.heap.size w2 (w2.alloc (.cells #[.int .u8 x.small.pr, .int .u32 x.small.ii, .int .u16 x.small.ip, .int .u32 x.small.oi, .int .u16 x.small.fr, .int .u16 x.small.to, .int .u16 x.small.dr] 36)) := (Below.refl _ _).alloc (Nat.le_refl _) _
  have PH0 : DoS K w0 (w2.alloc (.cells #[.int .u8 x.small.pr, .int .u32 x.small.ii, .int .u16 x.small.ip, .int .u32 x.small.oi, .int .u16 x.small.fr, .int .u16 x.small.to, .int .u16 x.small.dr] 36)) S T p q X X a w2.heap.size x x.small := ⟨P2.on b3, (H1.out.2.1.on b2).on b3, WiB.made w2 x.small 36, H1.out.2.2.1, H1.out.2.2.2, fun e => Nat.lt_irrefl _ (K.lt P2.fst _ e), fun e => Nat.lt_irrefl _ (poR.lt P2.snd _ e)⟩
  have bf : (∀ j, (w2.alloc (.cells #[.int .u8 x.small.pr, .int .u32 x.small.ii, .int .u16 x.small.ip, .int .u32 x.small.oi, .int .u16 x.small.fr, .int .u16 x.small.to, .int .u16 x.small.dr] 36)).frozen? ⟨w2.heap.size, j, none⟩ = false) ∧ a ≠ w2.heap.size ∧ w0.heap.size ≤ w2.heap.size := ⟨fun j => by simp [go_sem], fun e => Nat.lt_irrefl _ (e ▸ (H1.out.2.1.on b2).lt), P2.below.size⟩
  generalize w2.alloc (.cells #[.int .u8 x.small.pr, .int .u32 x.small.ii, .int .u16 x.small.ip, .int .u32 x.small.oi, .int .u16 x.small.fr, .int .u16 x.small.to, .int .u16 x.small.dr] 36) = w3 at PH0 bf ⊢
  generalize w2.heap.size = b at PH0 bf ⊢
  have HBF := Lib.hid bf
  clear bf b2 b3 P2 H1 ks c0 c1 c2 c3 c4 c5 c6 c7 c8 c9 c10 c11 c12 c13
  obtain ⟨_, c0, c1, c2, c3, c4, c5, c6, c7, c8, c9, c10, c11, c12, c13⟩ := id PH0.ac
  obtain ⟨_, d0, d1, d2, d3, d4, d5, d6⟩ := id PH0.wi
  have PH := Lib.hid PH0
  clear PH0
  go_upto_region 4 with fail
  clear c0 c1 c2 c3 c4 c5 c6 c7 c8 c9 c10 c11 c12 c13 d0 d1 d2 d3 d4 d5 d6 m1 m2
  refine wp_region_noPanic ?_
  refine wp_region_held_drew (S := (fun w' => AcB w' a x ∧ WiB w' b x.small)) (by kernel_rfl) ?_ (fun hHeld => ?_)
  · exact ⟨PH.out.ac.on (Below.refl _ _).drew, PH.out.wi.on (Below.refl _ _).drew⟩
  have P5 := PH.out.on (Below.refl w3.heap.size w3).drew
  generalize w3.drew = w5 at P5 hHeld ⊢
  clear PH
  refine wpAnyH_take (i := 0) (oi := _) (v := ?_) rfl (by kernel_rfl) (by kernel_rfl) (by kernel_rfl) (fun _ _ _ h => h) (Or.inl ⟨by kernel_rfl, ?_⟩) (by assumption) ?_
  rotate_left
  · intro w hSw
    clear hSw
    go_simp
    with_reducible rfl
  try simp only [List.getElem_toArray, List.getElem_cons_succ, List.getElem_cons_zero, Act.put, List.setIfInBounds_toArray, List.set_cons_zero, List.set_cons_succ]
  refine wpAnyH_take (i := 1) (oi := _) (v := ?_) rfl (by kernel_rfl) (by kernel_rfl) (by kernel_rfl) (fun _ _ _ h => h) (Or.inl ⟨by kernel_rfl, ?_⟩) (by assumption) ?_
  rotate_left
  · intro w hSw
    clear hSw
    go_simp
    with_reducible rfl
  try simp only [List.getElem_toArray, List.getElem_cons_succ, List.getElem_cons_zero, Act.put, List.setIfInBounds_toArray, List.set_cons_zero, List.set_cons_succ]
  refine wpAnyH_take (i := 2) (oi := _) (v := ?_) rfl (by kernel_rfl) (by kernel_rfl) (by kernel_rfl) (fun _ _ _ h => h) (Or.inl ⟨by kernel_rfl, ?_⟩) (by assumption) ?_
  rotate_left
  · intro w hSw
    obtain ⟨_, ⟨_, d0, d1, d2, d3, d4, d5, d6⟩⟩ := hSw
    go_simp
    with_reducible rfl
  try simp only [List.getElem_toArray, List.getElem_cons_succ, List.getElem_cons_zero, Act.put, List.setIfInBounds_toArray, List.set_cons_zero, List.set_cons_succ]
  refine wpAnyH_take (i := 3) (oi := _) (v := ?_) rfl (by kernel_rfl) (by kernel_rfl) (by kernel_rfl) (fun _ _ _ h => h) (Or.inl ⟨by kernel_rfl, ?_⟩) (by assumption) ?_
  rotate_left
  · intro w hSw
    clear hSw
    go_simp
    with_reducible rfl
  try simp only [List.getElem_toArray, List.getElem_cons_succ, List.getElem_cons_zero, Act.put, List.setIfInBounds_toArray, List.set_cons_zero, List.set_cons_succ]
  refine wpAnyH_take (i := 4) (oi := _) (v := ?_) rfl (by kernel_rfl) (by kernel_rfl) (by kernel_rfl) (fun _ _ _ h => h) (Or.inl ⟨by kernel_rfl, ?_⟩) (by assumption) ?_
  rotate_left
  · intro w hSw
    obtain ⟨_, ⟨_, d0, d1, d2, d3, d4, d5, d6⟩⟩ := hSw
    go_simp
    with_reducible rfl
  try simp only [List.getElem_toArray, List.getElem_cons_succ, List.getElem_cons_zero, Act.put, List.setIfInBounds_toArray, List.set_cons_zero, List.set_cons_succ]
  refine wpAnyH_take (i := 5) (oi := _) (v := ?_) rfl (by kernel_rfl) (by kernel_rfl) (by kernel_rfl) (fun _ _ _ h => h) (Or.inl ⟨by kernel_rfl, ?_⟩) (by assumption) ?_
  rotate_left
  · intro w hSw
    obtain ⟨⟨_, c0, c1, c2, c3, c4, c5, c6, c7, c8, c9, c10, c11, c12, c13⟩, _⟩ := hSw
    go_simp
    with_reducible rfl
  try simp only [List.getElem_toArray, List.getElem_cons_succ, List.getElem_cons_zero, Act.put, List.setIfInBounds_toArray, List.set_cons_zero, List.set_cons_succ]
  refine wpAnyH_take (i := 8) (oi := _) (v := ?_) rfl (by kernel_rfl) (by kernel_rfl) (by kernel_rfl) (fun _ _ _ h => h) (Or.inl ⟨by kernel_rfl, ?_⟩) (by assumption) ?_
  rotate_left
  · intro w hSw
    clear hSw
    go_simp
    with_reducible rfl
  try simp only [List.getElem_toArray, List.getElem_cons_succ, List.getElem_cons_zero, Act.put, List.setIfInBounds_toArray, List.set_cons_zero, List.set_cons_succ]
  refine wpAnyH_take (i := 9) (oi := _) (v := ?_) rfl (by kernel_rfl) (by kernel_rfl) (by kernel_rfl) (fun _ _ _ h => h) (Or.inl ⟨by kernel_rfl, ?_⟩) (by assumption) ?_
  rotate_left
  · intro w hSw
    clear hSw
    go_simp
    with_reducible rfl
  try simp only [List.getElem_toArray, List.getElem_cons_succ, List.getElem_cons_zero, Act.put, List.setIfInBounds_toArray, List.set_cons_zero, List.set_cons_succ]
  refine wpAnyH_take (i := 10) (oi := _) (v := ?_) rfl (by kernel_rfl) (by kernel_rfl) (by kernel_rfl) (fun _ _ _ h => h) (Or.inl ⟨by kernel_rfl, ?_⟩) (by assumption) ?_
  rotate_left
  · intro w hSw
    obtain ⟨_, ⟨_, d0, d1, d2, d3, d4, d5, d6⟩⟩ := hSw
    go_simp
    with_reducible rfl
  try simp only [List.getElem_toArray, List.getElem_cons_succ, List.getElem_cons_zero, Act.put, List.setIfInBounds_toArray, List.set_cons_zero, List.set_cons_succ]
  refine wpAnyH_take (i := 11) (oi := _) (v := ?_) rfl (by kernel_rfl) (by kernel_rfl) (by kernel_rfl) (fun _ _ _ h => h) (Or.inl ⟨by kernel_rfl, ?_⟩) (by assumption) ?_
  rotate_left
  · intro w hSw
    clear hSw
    go_simp
    with_reducible rfl
  try simp only [List.getElem_toArray, List.getElem_cons_succ, List.getElem_cons_zero, Act.put, List.setIfInBounds_toArray, List.set_cons_zero, List.set_cons_succ]
  refine wpAnyH_take (i := 12) (oi := _) (v := ?_) rfl (by kernel_rfl) (by kernel_rfl) (by kernel_rfl) (fun _ _ _ h => h) (Or.inl ⟨by kernel_rfl, ?_⟩) (by assumption) ?_
  rotate_left
  · intro w hSw
    obtain ⟨_, ⟨_, d0, d1, d2, d3, d4, d5, d6⟩⟩ := hSw
    go_simp
    with_reducible rfl
  try simp only [List.getElem_toArray, List.getElem_cons_succ, List.getElem_cons_zero, Act.put, List.setIfInBounds_toArray, List.set_cons_zero, List.set_cons_succ]
  refine wpAnyH_take (i := 13) (oi := _) (v := ?_) rfl (by kernel_rfl) (by kernel_rfl) (by kernel_rfl) (fun _ _ _ h => h) (Or.inl ⟨by kernel_rfl, ?_⟩) (by assumption) ?_
  rotate_left
  · intro w hSw
    obtain ⟨⟨_, c0, c1, c2, c3, c4, c5, c6, c7, c8, c9, c10, c11, c12, c13⟩, _⟩ := hSw
    go_simp
    with_reducible rfl
  try simp only [List.getElem_toArray, List.getElem_cons_succ, List.getElem_cons_zero, Act.put, List.setIfInBounds_toArray, List.set_cons_zero, List.set_cons_succ]
  refine wpAnyH_ready (rs := [6]) (by kernel_rfl) (by simp) ?_
  refine AllReadyH.cons (o := _) rfl (fun K_ hK => ?_) AllReadyH.nil
  go_simp
  refine (point_ x HX.out _).mono ?_; rintro e w6 ⟨rfl, x6⟩
  have P6 := P5.on x6
  clear P5 x6
  show K_ _ _
  refine hK.out _ _ ⟨P6.ac, P6.wi⟩ (fun hH1 => ?_)
  clear hK K_ hHeld
  have hHeld := hH1
  clear hH1
  try simp only [List.getElem_toArray, List.getElem_cons_succ, List.getElem_cons_zero, Act.put, List.setIfInBounds_toArray, List.set_cons_zero, List.set_cons_succ]
  refine wpAnyH_ready (rs := [7]) (by kernel_rfl) (by simp) ?_
  refine AllReadyH.cons (o := _) rfl (fun K_ hK => ?_) AllReadyH.nil
  go_simp
  refine (K.fixes _ _ _ x.small.pr x.small.ii x.small.ip x.oi x.op _ P6.pr.fst (HF.out.mono (by have := HN.out; omega)) ⟨HX.out.small.pr0, HX.out.small.pr1, HX.out.small.ii0, HX.out.small.ii1, HX.out.small.ip0, HX.out.small.ip1⟩ HX.out.point).mono ?_; rintro e w7 ⟨rfl, S6_, R6, f6, x6⟩
  have P7 := P6.one R6 f6 x6
  clear P6 R6 f6 x6
  show K_ _ _
  refine hK.out _ _ ⟨P7.ac, P7.wi⟩ (fun hH1 => ?_)
  clear hK K_ hHeld
  have hHeld := hH1
  clear hH1
  try simp only [List.getElem_toArray, List.getElem_cons_succ, List.getElem_cons_zero, Act.put, List.setIfInBounds_toArray, List.set_cons_zero, List.set_cons_succ]
  refine wpAnyH_ready (rs := [14]) (by kernel_rfl) (by simp) ?_
  refine AllReadyH.cons (o := _) rfl (fun K_ hK => ?_) AllReadyH.nil
  go_simp
  refine (point_ x HX.out _).mono ?_; rintro e w8 ⟨rfl, x6⟩
  have P8 := P7.on x6
  clear P7 x6
  show K_ _ _
  refine hK.out _ _ ⟨P8.ac, P8.wi⟩ (fun hH1 => ?_)
  clear hK K_ hHeld
  have hHeld := hH1
  clear hH1
  try simp only [List.getElem_toArray, List.getElem_cons_succ, List.getElem_cons_zero, Act.put, List.setIfInBounds_toArray, List.set_cons_zero, List.set_cons_succ]
  refine wpAnyH_ready (rs := [15]) (by kernel_rfl) (by simp) ?_
  refine AllReadyH.cons (o := _) rfl (fun K_ hK => ?_) AllReadyH.nil
  go_simp
  refine (rfix16_ _ _ _ x.small.pr x.small.ii x.small.ip x.oi x.op _ P8.pr.snd (HF.out.mono (by have := HN.out; omega)) ⟨HX.out.small.pr0, HX.out.small.pr1, HX.out.small.ii0, HX.out.small.ii1, HX.out.small.ip0, HX.out.small.ip1⟩ HX.out.point).mono ?_; rintro e w9 ⟨rfl, S6_, R6, f6, x6⟩
  have P9 := P8.two R6 f6 x6
  clear P8 R6 f6 x6
  show K_ _ _
  refine hK.out _ _ ⟨P9.ac, P9.wi⟩ (fun hH1 => ?_)
  clear hK K_ hHeld
  have hHeld := hH1
  clear hH1
  try simp only [List.getElem_toArray, List.getElem_cons_succ, List.getElem_cons_zero, Act.put, List.setIfInBounds_toArray, List.set_cons_zero, List.set_cons_succ]
  have PE := Lib.hid P9
  clear P9
  refine wpAnyH_take (i := 16) (oi := _) (v := ?_) rfl (by kernel_rfl) (by kernel_rfl) (by kernel_rfl) (fun _ _ _ h => h) (Or.inl ⟨by kernel_rfl, ?_⟩) (by assumption) ?_
  rotate_left
  · intro w hSw
    clear hSw
    go_simp
    with_reducible rfl
  try simp only [List.getElem_toArray, List.getElem_cons_succ, List.getElem_cons_zero, Act.put, List.setIfInBounds_toArray, List.set_cons_zero, List.set_cons_succ]
  refine wpAnyH_take (i := 17) (oi := _) (v := ?_) rfl (by kernel_rfl) (by kernel_rfl) (by kernel_rfl) (fun _ _ _ h => h) (Or.inl ⟨by kernel_rfl, ?_⟩) (by assumption) ?_
  rotate_left
  · intro w hSw
    clear hSw
    go_simp
    with_reducible rfl
  try simp only [List.getElem_toArray, List.getElem_cons_succ, List.getElem_cons_zero, Act.put, List.setIfInBounds_toArray, List.set_cons_zero, List.set_cons_succ]
  refine wpAnyH_done (by kernel_rfl) (NoPanic.normal ?_) _
  clear hHeld
  go_wp2
  go_ret
  exact ⟨by simp, _, _, _, PE.out.pr, (HF.out.fix _ _ _ _ _).mono (by omega)⟩
end Go.Proofs.Ytbbadpidolfleaa
