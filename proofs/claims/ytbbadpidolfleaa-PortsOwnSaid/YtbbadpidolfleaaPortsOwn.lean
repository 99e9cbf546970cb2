/- PortsOwn (layer 16): its walk. Written by gen_portsown.py. -/
import Derived.Test.YtbbadpidolfleaaPortsEven
import Derived.Test.YtbbadpidolfleaaPortsPlay
import Derived.BigQuiet
import Derived.Deep.CutBlock
namespace Go.Proofs.Ytbbadpidolfleaa
set_option linter.unusedVariables false
set_option maxRecDepth 100000
set_option linter.unusedSimpArgs false
open Go.ChangeShapes Go.WideShapes Go.ChangeAt Go.RowKit Go.PlainAid
attribute [local go_sem ↓] Go.wp_at_zero Go.wp_at_succ
theorem take_err {x : Po} {v : Wi} (h : (x.take v).1.2 ≠ 0) : (x.take v).2 = x := by
  unfold Po.take at h ⊢
  by_cases hm : v.may
  · rw [if_pos hm] at h ⊢
    cases hI : x.ofI v.pr v.ii v.ip with
    | some r =>
      rw [hI] at h
      simp only [] at h ⊢
      by_cases hc : r.oi = v.oi ∧ v.fr ≤ r.op ∧ r.op ≤ v.to
      · rw [if_pos hc] at h; exact absurd rfl h
      · rw [if_neg hc]
    | none =>
      rw [hI] at h
      simp only [] at h ⊢
      cases hf : x.free v with
      | some k => rw [hf] at h; exact absurd rfl h
      | none => simp only []
  · rw [if_neg hm]
theorem Po.Ok.row {x : Po} {n : Nat} (h : x.Ok) (f : x.Few n) (hn : n ≤ 1000) {k : Nat} (hk : k < x.l.length) : decide (((x.l.getD k Ro.zero).lv : Int) < 0) = false ∧ decide (((x.l.getD k Ro.zero).hd : Int) < 0) = false ∧ IntKind.i64.wrap (((x.l.getD k Ro.zero).lv : Int) + ((x.l.getD k Ro.zero).hd : Int)) = ((x.l.getD k Ro.zero).lv : Int) + ((x.l.getD k Ro.zero).hd : Int) ∧ (((x.l.getD k Ro.zero).lv : Int) + ((x.l.getD k Ro.zero).hd : Int) == 0) = false := by
  have hm := getD_mem Ro.zero hk
  have h1 := h.som _ hm
  have h2 := f.by_ _ hm
  refine ⟨decide_eq_false (by omega), decide_eq_false (by omega), ?_, beq_eq_false_iff_ne.2 (by omega)⟩
  have : IntKind.i64.wrap (((x.l.getD k Ro.zero).lv : Int) + ((x.l.getD k Ro.zero).hd : Int)) = wrap64 (((x.l.getD k Ro.zero).lv : Int) + ((x.l.getD k Ro.zero).hd : Int)) := IntWalk.i64_left _
  rw [this, IntWalk.wrap64_in _ (by omega)]
theorem pw_at {α : Type} {R : α → α → Prop} {l : List α} (d : α) (h : l.Pairwise R) {j k : Nat} (hj : j < k) (hk : k < l.length) : R (l.getD j d) (l.getD k d) := by
  rw [List.getD_eq_getElem?_getD, List.getD_eq_getElem?_getD, List.getElem?_eq_getElem hk, List.getElem?_eq_getElem (Nat.lt_trans hj hk)]
  exact (List.pairwise_iff_getElem.1 h) j k (Nat.lt_trans hj hk) hk hj
theorem Po.Ok.two {x : Po} (h : x.Ok) {j k : Nat} (hj : j < k) (hk : k < x.l.length) : ¬ ((x.l.getD j Ro.zero).pr = (x.l.getD k Ro.zero).pr ∧ (x.l.getD j Ro.zero).ii = (x.l.getD k Ro.zero).ii ∧ (x.l.getD j Ro.zero).ip = (x.l.getD k Ro.zero).ip) ∧ ¬ ((x.l.getD j Ro.zero).pr = (x.l.getD k Ro.zero).pr ∧ (x.l.getD j Ro.zero).oi = (x.l.getD k Ro.zero).oi ∧ (x.l.getD j Ro.zero).op = (x.l.getD k Ro.zero).op) :=
  ⟨pw_at Ro.zero h.nd hj hk, Ro.ahead_ne (pw_at Ro.zero h.st hj hk)⟩
/-- What PortsOwn has in memory. -/
structure OwS (K : PortsOk) (w0 w : World) (S : Nat → Prop) (p : Nat) (X : Po) (b : Nat) (v : Wi) : Prop where
  al : Alone K.toObjP w0 w S p X
  wi : WiB w b v
  sb : ¬ S b
/-- With an act, and what it says. -/
structure OwA (K : PortsOk) (w0 w : World) (S : Nat → Prop) (p : Nat) (X : Po) (b : Nat) (v : Wi) (a c : Nat) (x : Ac) : Prop where
  ow : OwS K w0 w S p X b v
  ac : AcB w a x
  sm : WiB w c x.small
  sa : ¬ S a
  sc : ¬ S c
/-- With a list. -/
structure OwL (K : PortsOk) (w0 w : World) (S : Nat → Prop) (p : Nat) (X : Po) (b : Nat) (v : Wi) (a : Option Addr) (c : Nat) (l : List Ro) : Prop where
  ow : OwS K w0 w S p X b v
  sl : eltR.Sl w a c l
  nb : ∀ g off, a = some ⟨g, off, none⟩ → ¬ S g ∧ g < w.heap.size
section
variable {K : PortsOk} {w0 w w' : World} {S S' : Nat → Prop} {p a b c : Nat} {X X' : Po} {v : Wi} {x : Ac} {ad : Option Addr} {l : List Ro}
theorem OwS.on (q : OwS K w0 w S p X b v) (y : Below w.heap.size w w') : OwS K w0 w' S p X b v := ⟨q.al.on y, q.wi.on y, q.sb⟩
theorem OwS.one (q : OwS K w0 w S p X b v) (hr : K.toObjP.Rep w' S' p X') (hf : Fresh w S S') (y : Beside S w w') : OwS K w0 w' S' p X' b v :=
  ⟨q.al.one hr hf y, q.wi.keep y.size (y.block b q.wi.lt q.sb), hf.not q.wi.lt q.sb⟩
theorem OwA.on (q : OwA K w0 w S p X b v a c x) (y : Below w.heap.size w w') : OwA K w0 w' S p X b v a c x := ⟨q.ow.on y, q.ac.on y, q.sm.on y, q.sa, q.sc⟩
theorem OwA.one (q : OwA K w0 w S p X b v a c x) (hr : K.toObjP.Rep w' S' p X') (hf : Fresh w S S') (y : Beside S w w') : OwA K w0 w' S' p X' b v a c x :=
  ⟨q.ow.one hr hf y, q.ac.keep y.size (y.block a q.ac.lt q.sa), q.sm.keep y.size (y.block c q.sm.lt q.sc), hf.not q.ac.lt q.sa, hf.not q.sm.lt q.sc⟩
theorem OwL.on (q : OwL K w0 w S p X b v ad c l) (y : Below w.heap.size w w') : OwL K w0 w' S p X b v ad c l := ⟨q.ow.on y, q.sl.on y, fun g off e => ⟨(q.nb g off e).1, Nat.lt_of_lt_of_le (q.nb g off e).2 y.size⟩⟩
theorem OwL.one (q : OwL K w0 w S p X b v ad c l) (hr : K.toObjP.Rep w' S' p X') (hf : Fresh w S S') (y : Beside S w w') : OwL K w0 w' S' p X' b v ad c l :=
  ⟨q.ow.one hr hf y, q.sl.by y (fun g off e => (q.nb g off e).1), fun g off e => ⟨hf.not (q.nb g off e).2 (q.nb g off e).1, Nat.lt_of_lt_of_le (q.nb g off e).2 y.size⟩⟩
theorem OwS.list (q : OwS K w0 w S p X b v) (y : Below w.heap.size w w') (sl : eltR.Sl w' ad c l) (nb : ∀ g off, ad = some ⟨g, off, none⟩ → w.heap.size ≤ g ∧ g < w'.heap.size) : OwL K w0 w' S p X b v ad c l :=
  ⟨q.on y, sl, fun g off e => ⟨fun h => absurd (K.lt q.al.rep g h) (Nat.not_lt_of_le (nb g off e).1), (nb g off e).2⟩⟩
end
namespace PortsOwn
set_option maxHeartbeats 16000000 in
theorem run_ (K : PortsOk) (v : Wi) (hv : WOk v) (a : Option Addr) (len cap : Nat) (l : List Ac) (w : World) (hr : AcsAt w a len l) :
    Calls Try.prog 6 #[.slice a len cap, .agg #[.int .u8 v.pr, .int .u32 v.ii, .int .u16 v.ip, .int .u32 v.oi, .int .u16 v.fr, .int .u16 v.to, .int .u16 v.dr]] w fun e w' => e = .returned (.bool true) ∧ Below w.heap.size w w' := by
  have B1 : Below w.heap.size w (w.alloc (.cells #[.int .u8 v.pr, .int .u32 v.ii, .int .u16 v.ip, .int .u32 v.oi, .int .u16 v.fr, .int .u16 v.to, .int .u16 v.dr] 36)) := (Below.refl _ _).alloc (Nat.le_refl _) _
  have A1 := WiB.made w v 36
  by_cases h1 : 60 < len
  · have e1 : decide ((60 : Int) < len) = true := by simp; omega
    have e2 : decide (60 < len) = true := by simpa using h1
    clear h1
    go_enter Try.func6, Try.ntmps6
    go_upto_region 1 with fail
    generalize w.alloc (.cells #[.int .u8 v.pr, .int .u32 v.ii, .int .u16 v.ip, .int .u32 v.oi, .int .u16 v.fr, .int .u16 v.to, .int .u16 v.dr] 36) = u at A1 B1 ⊢
    obtain ⟨_, a0, a1, a2, a3, a4, a5, a6⟩ := id A1
    have HB := Lib.hid B1
    clear A1 B1
    go_wp2_with fail
    refine (let_ K _).mono ?_; rintro e w1 ⟨rfl, b1⟩
    go_wp2
    go_ret
    exact ⟨rfl, HB.out.trans (b1.mono HB.out.size)⟩
  have e1 : decide ((60 : Int) < len) = false := by simp; omega
  have e2 : decide (60 < len) = false := by simpa using h1
  have H60 := Lib.hid (Nat.le_of_not_lt h1)
  clear h1
  have HV := Lib.hid hv
  have HR := Lib.hid hr
  clear hr hv
  obtain ⟨g1, g2, g3⟩ := wish_wraps HV.out
  have bf : ∀ j, (w.alloc (.cells #[.int .u8 v.pr, .int .u32 v.ii, .int .u16 v.ip, .int .u32 v.oi, .int .u16 v.fr, .int .u16 v.to, .int .u16 v.dr] 36)).frozen? ⟨w.heap.size, j, none⟩ = false := fun j => by simp [go_sem]
  go_enter Try.func6, Try.ntmps6
  go_upto_region 1 with fail
  generalize w.alloc (.cells #[.int .u8 v.pr, .int .u32 v.ii, .int .u16 v.ip, .int .u32 v.oi, .int .u16 v.fr, .int .u16 v.to, .int .u16 v.dr] 36) = u at A1 B1 bf ⊢
  obtain ⟨b, hb⟩ : ∃ b, b = w.heap.size := ⟨_, rfl⟩
  rw [← hb] at A1 bf ⊢
  have WB : w.heap.size ≤ b := hb ▸ Nat.le_refl _
  obtain ⟨_, a0, a1, a2, a3, a4, a5, a6⟩ := id A1
  have HA := Lib.hid (And.intro A1 (And.intro B1 WB))
  clear A1 B1 hb WB
  go_upto_if 28 with fail
  go_cut [] (fun wx => ∃ w2 : World, w2 = wx ∧ Hid (WiB w2 b (v.clip 3000) ∧ Below w.heap.size w w2))
  case first =>
    by_cases hc : 3000 < v.to - v.fr
    · obtain ⟨hcl, g4⟩ := clip_yes HV.out (n := 3000) (by decide) hc
      have g5 : decide (3000 < v.to - v.fr) = true := decide_eq_true hc
      have HC := Lib.hid hcl
      clear hc hcl
      try rw [g5]
      go_wp2_with fail
      refine wi_to HA.out.1 fun w2 hX bX => ?_
      rw [← HC.out] at hX
      have QX : Hid (WiB w2 b (v.clip 3000) ∧ Below w.heap.size w w2) := ⟨hX, one_box HA.out.2.1 bX HA.out.2.2 HA.out.2.1.size⟩
      clear hX bX HA a0 a1 a2 a3 a4 a5 a6 bf g1 g2 g3 g4 g5 e1 e2 HC
      go_meet
      exact ⟨_, rfl, QX⟩
    · have g5 : decide (3000 < v.to - v.fr) = false := decide_eq_false hc
      have hcl : v.clip 3000 = v := by unfold Wi.clip; rw [if_neg hc]
      have QX : Hid (WiB u b (v.clip 3000) ∧ Below w.heap.size w u) := by rw [hcl]; exact ⟨HA.out.1, HA.out.2.1⟩
      clear hc hcl
      try rw [g5]
      go_wp2_with fail
      go_meet
      exact ⟨_, rfl, QX⟩
  case rest => as_aux_lemma =>
    obtain ⟨w2, rfl, QX⟩ := hcut
    clear HA a0 a1 a2 a3 a4 a5 a6 bf g1 g2 g3 e1 e2
    have HV2 := Lib.hid (clip_ok HV.out (n := 3000) (by decide))
    generalize v.clip 3000 = y at QX HV2
    go_wp2_with fail
    refine (K.news w2).mono ?_; rintro e w3 ⟨p, S, rfl, b3, hS, R3⟩
    have L0 : Hid (OwS K w w3 S p Po.new b y) := ⟨⟨R3, fun k hk => Nat.le_trans QX.out.2.size (hS k hk), QX.out.2.trans (b3.mono QX.out.2.size)⟩, QX.out.1.on b3, fun h => absurd QX.out.1.lt (Nat.not_lt_of_le (hS b h))⟩
    clear b3 hS R3 QX
    go_upto_region 7 with fail
    go_loopw [6, 7, 8, 9, 10, 11] (fun si _ _ _ _ _ wr => ∃ (i : Nat) (S : Nat → Prop) (X : Po), i ≤ len ∧ si = .int .i64 (i : Int) ∧ Hid (OwS K w wr S p X b y) ∧ Hid (X.Few i)) (fun si _ _ _ _ _ _ => len - (intOf si).toNat)
    case atStart => exact ⟨0, S, _, Nat.zero_le _, rfl, L0, Po.Few.new⟩
    case round =>
      clear L0
      obtain ⟨i, S, X, hi, rfl, HQ, HF⟩ := hrel
      by_cases hlt : i < len
      · have EW := Lib.hid (step_16 (j := i) (Nat.lt_of_le_of_lt (Nat.le_trans hi H60.out) (by decide)))
        have HI := Lib.hid hlt
        obtain ⟨e10, e12, e13⟩ := ix16 hlt
        have HX := Lib.hid (HR.out.okAt hlt)
        obtain ⟨ab, off, ha, hb, hc⟩ := HR.out.cells.resolve_left (Nat.ne_of_gt (Nat.lt_of_le_of_lt (Nat.zero_le i) hlt))
        have hx := hc i hlt
        obtain ⟨x, hxe⟩ : ∃ x, x = l.getD i Ac.zero := ⟨_, rfl⟩
        rw [← hxe] at hx HX
        have I60 : Hid (i < 60) := Nat.lt_of_lt_of_le hlt H60.out
        subst ha
        obtain ⟨_, c0, c1, c2, c3, c4, c5, c6, c7, c8, c9, c10, c11, c12, c13⟩ := hx.on HQ.out.al.below
        clear hi hlt hc hxe hb hx
        go_upto_region 10 with fail
        have b_ : Below wr.heap.size wr (wr.alloc (.cells #[.int .u8 x.kd, .int .u8 x.pr, .int .u8 x.inn, .int .u8 x.out, .int .u8 x.sp, .int .u8 x.w.pr, .int .u32 x.w.ii, .int .u16 x.w.ip, .int .u32 x.w.oi, .int .u16 x.w.fr, .int .u16 x.w.to, .int .u16 x.w.dr, .int .u32 x.fi, .int .u16 x.fp] 38)) := (Below.refl _ _).alloc (Nat.le_refl _) _
        have A2 := AcB.made wr x 38
        have na : ¬ S wr.heap.size := fun h => Nat.lt_irrefl _ (K.lt HQ.out.al.rep _ h)
        have Q2 := HQ.out.on b_
        generalize wr.alloc (.cells #[.int .u8 x.kd, .int .u8 x.pr, .int .u8 x.inn, .int .u8 x.out, .int .u8 x.sp, .int .u8 x.w.pr, .int .u32 x.w.ii, .int .u16 x.w.ip, .int .u32 x.w.oi, .int .u16 x.w.fr, .int .u16 x.w.to, .int .u16 x.w.dr, .int .u32 x.fi, .int .u16 x.fp] 38) = w4 at A2 Q2 ⊢
        generalize wr.heap.size = ax at A2 na ⊢
        have HA2 := Lib.hid (And.intro A2 (And.intro na Q2))
        clear c0 c1 c2 c3 c4 c5 c6 c7 c8 c9 c10 c11 c12 c13 e10 e12 e13 b_ na Q2 HQ
        obtain ⟨_, c0, c1, c2, c3, c4, c5, c6, c7, c8, c9, c10, c11, c12, c13⟩ := id A2
        clear A2
        go_upto_region 11 with (go_at_call 27; refine (small_ x HX.out _).mono ?_; rintro e w5 ⟨rfl, b5⟩)
        have b_ : Below w5.heap.size w5 (w5.alloc (.cells #[.int .u8 x.small.pr, .int .u32 x.small.ii, .int .u16 x.small.ip, .int .u32 x.small.oi, .int .u16 x.small.fr, .int .u16 x.small.to, .int .u16 x.small.dr] 36)) := (Below.refl _ _).alloc (Nat.le_refl _) _
        have Q5 := HA2.out.2.2.on b5
        have HQ : Hid (OwA K w (w5.alloc (.cells #[.int .u8 x.small.pr, .int .u32 x.small.ii, .int .u16 x.small.ip, .int .u32 x.small.oi, .int .u16 x.small.fr, .int .u16 x.small.to, .int .u16 x.small.dr] 36)) S p X b y ax w5.heap.size x) := ⟨Q5.on b_, (HA2.out.1.on b5).on b_, WiB.made w5 x.small 36, HA2.out.2.1, fun h => Nat.lt_irrefl _ (K.lt Q5.al.rep _ h)⟩
        generalize w5.alloc (.cells #[.int .u8 x.small.pr, .int .u32 x.small.ii, .int .u16 x.small.ip, .int .u32 x.small.oi, .int .u16 x.small.fr, .int .u16 x.small.to, .int .u16 x.small.dr] 36) = w6 at HQ ⊢
        generalize w5.heap.size = cx at HQ ⊢
        clear c0 c1 c2 c3 c4 c5 c6 c7 c8 c9 c10 c11 c12 c13 b5 b_ Q5 HA2
        obtain ⟨_, c0, c1, c2, c3, c4, c5, c6, c7, c8, c9, c10, c11, c12, c13⟩ := id HQ.out.ac
        obtain ⟨m1, m2, _, _, m5, m6⟩ := byte_mod HX.out.kd (m := 6) (by decide)
        have m7 := Int.emod_lt_of_pos x.kd (b := 6) (by decide)
        generalize x.kd % 6 = kk at m1 m2 m5 m6 m7
        have HK := Lib.hid (And.intro m5 m7)
        clear m5 m6 m7
        go_upto_block 2 with fail
        clear c0 c1 c2 c3 c4 c5 c6 c7 c8 c9 c10 c11 c12 c13 m1 m2
        go_cut [] (fun wx => ∃ (S2 : Nat → Prop) (X2 : Po), Hid (OwS K w wx S2 p X2 b y) ∧ Hid (X2.Few (i + 1)))
        case first =>
          rcases (by have := HK.out; omega : kk = 2 ∨ kk = 3 ∨ kk = 4 ∨ kk = 5 ∨ (kk = 0 ∨ kk = 1)) with h | h | h | h | h
          · subst h
            go_upto_region 14 with fail
            refine wp_region_noPanic ?_
            refine wp_region_held_drew (S := (fun w' => AcB w' ax x ∧ WiB w' cx x.small)) (by kernel_rfl) ?_ (fun hHeld => ?_)
            · exact ⟨HQ.out.ac.on (Below.refl _ _).drew, HQ.out.sm.on (Below.refl _ _).drew⟩
            have P5 := HQ.out.on (Below.refl w6.heap.size w6).drew
            generalize w6.drew = w7 at P5 hHeld ⊢
            clear HQ
            refine wpAnyH_take (i := 0) (oi := _) (v := ?_) rfl (by kernel_rfl) (by kernel_rfl) (by kernel_rfl) (fun _ _ _ h => h) (Or.inl ⟨by kernel_rfl, ?_⟩) (by assumption) ?_
            rotate_left
            · intro w hSw
              clear hSw
              go_simp
              with_reducible rfl
            try simp only [List.getElem_toArray, List.getElem_cons_succ, List.getElem_cons_zero, Act.put, List.setIfInBounds_toArray, List.set_cons_zero, List.set_cons_succ]
            refine wpAnyH_take (i := 1) (oi := _) (v := ?_) rfl (by kernel_rfl) (by kernel_rfl) (by kernel_rfl) (fun _ _ _ h => h) (Or.inl ⟨by kernel_rfl, ?_⟩) (by assumption) ?_
            rotate_left
            · intro w hSw
              clear hSw
              go_simp
              with_reducible rfl
            try simp only [List.getElem_toArray, List.getElem_cons_succ, List.getElem_cons_zero, Act.put, List.setIfInBounds_toArray, List.set_cons_zero, List.set_cons_succ]
            refine wpAnyH_take (i := 2) (oi := _) (v := ?_) rfl (by kernel_rfl) (by kernel_rfl) (by kernel_rfl) (fun _ _ _ h => h) (Or.inl ⟨by kernel_rfl, ?_⟩) (by assumption) ?_
            rotate_left
            · intro w hSw
              obtain ⟨⟨_, c0, c1, c2, c3, c4, c5, c6, c7, c8, c9, c10, c11, c12, c13⟩, ⟨_, d0, d1, d2, d3, d4, d5, d6⟩⟩ := hSw
              go_simp
              with_reducible rfl
            try simp only [List.getElem_toArray, List.getElem_cons_succ, List.getElem_cons_zero, Act.put, List.setIfInBounds_toArray, List.set_cons_zero, List.set_cons_succ]
            refine wpAnyH_take (i := 3) (oi := _) (v := ?_) rfl (by kernel_rfl) (by kernel_rfl) (by kernel_rfl) (fun _ _ _ h => h) (Or.inl ⟨by kernel_rfl, ?_⟩) (by assumption) ?_
            rotate_left
            · intro w hSw
              clear hSw
              go_simp
              with_reducible rfl
            try simp only [List.getElem_toArray, List.getElem_cons_succ, List.getElem_cons_zero, Act.put, List.setIfInBounds_toArray, List.set_cons_zero, List.set_cons_succ]
            refine wpAnyH_take (i := 4) (oi := _) (v := ?_) rfl (by kernel_rfl) (by kernel_rfl) (by kernel_rfl) (fun _ _ _ h => h) (Or.inl ⟨by kernel_rfl, ?_⟩) (by assumption) ?_
            rotate_left
            · intro w hSw
              obtain ⟨⟨_, c0, c1, c2, c3, c4, c5, c6, c7, c8, c9, c10, c11, c12, c13⟩, ⟨_, d0, d1, d2, d3, d4, d5, d6⟩⟩ := hSw
              go_simp
              with_reducible rfl
            try simp only [List.getElem_toArray, List.getElem_cons_succ, List.getElem_cons_zero, Act.put, List.setIfInBounds_toArray, List.set_cons_zero, List.set_cons_succ]
            refine wpAnyH_take (i := 5) (oi := _) (v := ?_) rfl (by kernel_rfl) (by kernel_rfl) (by kernel_rfl) (fun _ _ _ h => h) (Or.inl ⟨by kernel_rfl, ?_⟩) (by assumption) ?_
            rotate_left
            · intro w hSw
              obtain ⟨⟨_, c0, c1, c2, c3, c4, c5, c6, c7, c8, c9, c10, c11, c12, c13⟩, ⟨_, d0, d1, d2, d3, d4, d5, d6⟩⟩ := hSw
              go_simp
              with_reducible rfl
            try simp only [List.getElem_toArray, List.getElem_cons_succ, List.getElem_cons_zero, Act.put, List.setIfInBounds_toArray, List.set_cons_zero, List.set_cons_succ]
            refine wpAnyH_ready (rs := [6]) (by kernel_rfl) (by simp) ?_
            refine AllReadyH.cons (o := _) rfl (fun K_ hK => ?_) AllReadyH.nil
            go_simp
            refine (point_ x HX.out _).mono ?_; rintro e w8 ⟨rfl, x8⟩
            have P6 := P5.on x8
            clear P5 x8
            show K_ _ _
            refine hK.out _ _ ⟨P6.ac, P6.sm⟩ (fun hH1 => ?_)
            clear hK K_ hHeld
            have hHeld := hH1
            clear hH1
            try simp only [List.getElem_toArray, List.getElem_cons_succ, List.getElem_cons_zero, Act.put, List.setIfInBounds_toArray, List.set_cons_zero, List.set_cons_succ]
            refine wpAnyH_ready (rs := [7]) (by kernel_rfl) (by simp) ?_
            refine AllReadyH.cons (o := _) rfl (fun K_ hK => ?_) AllReadyH.nil
            go_simp
            refine (K.fixes _ _ _ x.small.pr x.small.ii x.small.ip x.oi x.op _ P6.ow.al.rep (HF.out.mono (by have := I60.out; omega)) ⟨HX.out.small.pr0, HX.out.small.pr1, HX.out.small.ii0, HX.out.small.ii1, HX.out.small.ip0, HX.out.small.ip1⟩ HX.out.point).mono ?_; rintro e w9 ⟨rfl, S6_, R6, f6, x6⟩
            have P7 := P6.one R6 f6 x6
            clear P6 R6 f6 x6
            show K_ _ _
            refine hK.out _ _ ⟨P7.ac, P7.sm⟩ (fun hH1 => ?_)
            clear hK K_ hHeld
            have hHeld := hH1
            clear hH1
            try simp only [List.getElem_toArray, List.getElem_cons_succ, List.getElem_cons_zero, Act.put, List.setIfInBounds_toArray, List.set_cons_zero, List.set_cons_succ]
            refine wpAnyH_done (by kernel_rfl) (NoPanic.normal ?_) _
            have PE := Lib.hid P7.ow
            clear hHeld P7
            go_wp2
            go_meet
            exact ⟨_, _, PE, HF.out.fix _ _ _ _ _⟩
          · subst h
            go_upto_region 16 with fail
            refine wp_region_noPanic ?_
            refine wp_region_held_drew (S := (fun w' => AcB w' ax x ∧ WiB w' cx x.small)) (by kernel_rfl) ?_ (fun hHeld => ?_)
            · exact ⟨HQ.out.ac.on (Below.refl _ _).drew, HQ.out.sm.on (Below.refl _ _).drew⟩
            have P5 := HQ.out.on (Below.refl w6.heap.size w6).drew
            generalize w6.drew = w7 at P5 hHeld ⊢
            clear HQ
            refine wpAnyH_take (i := 0) (oi := _) (v := ?_) rfl (by kernel_rfl) (by kernel_rfl) (by kernel_rfl) (fun _ _ _ h => h) (Or.inl ⟨by kernel_rfl, ?_⟩) (by assumption) ?_
            rotate_left
            · intro w hSw
              clear hSw
              go_simp
              with_reducible rfl
            try simp only [List.getElem_toArray, List.getElem_cons_succ, List.getElem_cons_zero, Act.put, List.setIfInBounds_toArray, List.set_cons_zero, List.set_cons_succ]
            refine wpAnyH_take (i := 1) (oi := _) (v := ?_) rfl (by kernel_rfl) (by kernel_rfl) (by kernel_rfl) (fun _ _ _ h => h) (Or.inl ⟨by kernel_rfl, ?_⟩) (by assumption) ?_
            rotate_left
            · intro w hSw
              clear hSw
              go_simp
              with_reducible rfl
            try simp only [List.getElem_toArray, List.getElem_cons_succ, List.getElem_cons_zero, Act.put, List.setIfInBounds_toArray, List.set_cons_zero, List.set_cons_succ]
            refine wpAnyH_take (i := 2) (oi := _) (v := ?_) rfl (by kernel_rfl) (by kernel_rfl) (by kernel_rfl) (fun _ _ _ h => h) (Or.inl ⟨by kernel_rfl, ?_⟩) (by assumption) ?_
            rotate_left
            · intro w hSw
              obtain ⟨⟨_, c0, c1, c2, c3, c4, c5, c6, c7, c8, c9, c10, c11, c12, c13⟩, ⟨_, d0, d1, d2, d3, d4, d5, d6⟩⟩ := hSw
              go_simp
              with_reducible rfl
            try simp only [List.getElem_toArray, List.getElem_cons_succ, List.getElem_cons_zero, Act.put, List.setIfInBounds_toArray, List.set_cons_zero, List.set_cons_succ]
            refine wpAnyH_take (i := 3) (oi := _) (v := ?_) rfl (by kernel_rfl) (by kernel_rfl) (by kernel_rfl) (fun _ _ _ h => h) (Or.inl ⟨by kernel_rfl, ?_⟩) (by assumption) ?_
            rotate_left
            · intro w hSw
              obtain ⟨⟨_, c0, c1, c2, c3, c4, c5, c6, c7, c8, c9, c10, c11, c12, c13⟩, ⟨_, d0, d1, d2, d3, d4, d5, d6⟩⟩ := hSw
              go_simp
              with_reducible rfl
            try simp only [List.getElem_toArray, List.getElem_cons_succ, List.getElem_cons_zero, Act.put, List.setIfInBounds_toArray, List.set_cons_zero, List.set_cons_succ]
            refine wpAnyH_ready (rs := [4]) (by kernel_rfl) (by simp) ?_
            refine AllReadyH.cons (o := _) rfl (fun K_ hK => ?_) AllReadyH.nil
            go_simp
            refine (point_ x HX.out _).mono ?_; rintro e w8 ⟨rfl, x8⟩
            have P6 := P5.on x8
            clear P5 x8
            show K_ _ _
            refine hK.out _ _ ⟨P6.ac, P6.sm⟩ (fun hH1 => ?_)
            clear hK K_ hHeld
            have hHeld := hH1
            clear hH1
            try simp only [List.getElem_toArray, List.getElem_cons_succ, List.getElem_cons_zero, Act.put, List.setIfInBounds_toArray, List.set_cons_zero, List.set_cons_succ]
            refine wpAnyH_ready (rs := [5]) (by kernel_rfl) (by simp) ?_
            refine AllReadyH.cons (o := _) rfl (fun K_ hK => ?_) AllReadyH.nil
            go_simp
            refine (K.cons _ _ _ x.small.pr x.oi x.op _ P6.ow.al.rep (HF.out.mono (by have := I60.out; omega)) HX.out.point).mono ?_; rintro e w9 ⟨rfl, S6_, R6, f6, x6⟩
            have P7 := P6.one R6 f6 x6
            clear P6 R6 f6 x6
            show K_ _ _
            refine hK.out _ _ ⟨P7.ac, P7.sm⟩ (fun hH1 => ?_)
            clear hK K_ hHeld
            have hHeld := hH1
            clear hH1
            try simp only [List.getElem_toArray, List.getElem_cons_succ, List.getElem_cons_zero, Act.put, List.setIfInBounds_toArray, List.set_cons_zero, List.set_cons_succ]
            refine wpAnyH_done (by kernel_rfl) (NoPanic.normal ?_) _
            have PE := Lib.hid P7.ow
            clear hHeld P7
            go_wp2
            go_meet
            exact ⟨_, _, PE, HF.out.chg _ _ _ _⟩
          · subst h
            go_upto_region 18 with fail
            refine wp_region_noPanic ?_
            refine wp_region_held_drew (S := (fun w' => AcB w' ax x ∧ WiB w' cx x.small)) (by kernel_rfl) ?_ (fun hHeld => ?_)
            · exact ⟨HQ.out.ac.on (Below.refl _ _).drew, HQ.out.sm.on (Below.refl _ _).drew⟩
            have P5 := HQ.out.on (Below.refl w6.heap.size w6).drew
            generalize w6.drew = w7 at P5 hHeld ⊢
            clear HQ
            refine wpAnyH_take (i := 0) (oi := _) (v := ?_) rfl (by kernel_rfl) (by kernel_rfl) (by kernel_rfl) (fun _ _ _ h => h) (Or.inl ⟨by kernel_rfl, ?_⟩) (by assumption) ?_
            rotate_left
            · intro w hSw
              clear hSw
              go_simp
              with_reducible rfl
            try simp only [List.getElem_toArray, List.getElem_cons_succ, List.getElem_cons_zero, Act.put, List.setIfInBounds_toArray, List.set_cons_zero, List.set_cons_succ]
            refine wpAnyH_take (i := 1) (oi := _) (v := ?_) rfl (by kernel_rfl) (by kernel_rfl) (by kernel_rfl) (fun _ _ _ h => h) (Or.inl ⟨by kernel_rfl, ?_⟩) (by assumption) ?_
            rotate_left
            · intro w hSw
              clear hSw
              go_simp
              with_reducible rfl
            try simp only [List.getElem_toArray, List.getElem_cons_succ, List.getElem_cons_zero, Act.put, List.setIfInBounds_toArray, List.set_cons_zero, List.set_cons_succ]
            refine wpAnyH_take (i := 2) (oi := _) (v := ?_) rfl (by kernel_rfl) (by kernel_rfl) (by kernel_rfl) (fun _ _ _ h => h) (Or.inl ⟨by kernel_rfl, ?_⟩) (by assumption) ?_
            rotate_left
            · intro w hSw
              obtain ⟨⟨_, c0, c1, c2, c3, c4, c5, c6, c7, c8, c9, c10, c11, c12, c13⟩, ⟨_, d0, d1, d2, d3, d4, d5, d6⟩⟩ := hSw
              go_simp
              with_reducible rfl
            try simp only [List.getElem_toArray, List.getElem_cons_succ, List.getElem_cons_zero, Act.put, List.setIfInBounds_toArray, List.set_cons_zero, List.set_cons_succ]
            refine wpAnyH_take (i := 3) (oi := _) (v := ?_) rfl (by kernel_rfl) (by kernel_rfl) (by kernel_rfl) (fun _ _ _ h => h) (Or.inl ⟨by kernel_rfl, ?_⟩) (by assumption) ?_
            rotate_left
            · intro w hSw
              obtain ⟨⟨_, c0, c1, c2, c3, c4, c5, c6, c7, c8, c9, c10, c11, c12, c13⟩, ⟨_, d0, d1, d2, d3, d4, d5, d6⟩⟩ := hSw
              go_simp
              with_reducible rfl
            try simp only [List.getElem_toArray, List.getElem_cons_succ, List.getElem_cons_zero, Act.put, List.setIfInBounds_toArray, List.set_cons_zero, List.set_cons_succ]
            refine wpAnyH_ready (rs := [4]) (by kernel_rfl) (by simp) ?_
            refine AllReadyH.cons (o := _) rfl (fun K_ hK => ?_) AllReadyH.nil
            go_simp
            refine (point_ x HX.out _).mono ?_; rintro e w8 ⟨rfl, x8⟩
            have P6 := P5.on x8
            clear P5 x8
            show K_ _ _
            refine hK.out _ _ ⟨P6.ac, P6.sm⟩ (fun hH1 => ?_)
            clear hK K_ hHeld
            have hHeld := hH1
            clear hH1
            try simp only [List.getElem_toArray, List.getElem_cons_succ, List.getElem_cons_zero, Act.put, List.setIfInBounds_toArray, List.set_cons_zero, List.set_cons_succ]
            refine wpAnyH_ready (rs := [5]) (by kernel_rfl) (by simp) ?_
            refine AllReadyH.cons (o := _) rfl (fun K_ hK => ?_) AllReadyH.nil
            go_simp
            refine (K.drps _ _ _ x.small.pr x.oi x.op _ P6.ow.al.rep (HF.out.mono (by have := I60.out; omega)) HX.out.point).mono ?_; rintro e w9 ⟨rfl, S6_, R6, f6, x6⟩
            have P7 := P6.one R6 f6 x6
            clear P6 R6 f6 x6
            show K_ _ _
            refine hK.out _ _ ⟨P7.ac, P7.sm⟩ (fun hH1 => ?_)
            clear hK K_ hHeld
            have hHeld := hH1
            clear hH1
            try simp only [List.getElem_toArray, List.getElem_cons_succ, List.getElem_cons_zero, Act.put, List.setIfInBounds_toArray, List.set_cons_zero, List.set_cons_succ]
            refine wpAnyH_done (by kernel_rfl) (NoPanic.normal ?_) _
            have PE := Lib.hid P7.ow
            clear hHeld P7
            go_wp2
            go_meet
            exact ⟨_, _, PE, HF.out.chg _ _ _ _⟩
          · subst h
            go_upto_region 20 with fail
            refine wp_region_noPanic ?_
            refine wp_region_held_drew (S := (fun w' => AcB w' ax x ∧ WiB w' cx x.small)) (by kernel_rfl) ?_ (fun hHeld => ?_)
            · exact ⟨HQ.out.ac.on (Below.refl _ _).drew, HQ.out.sm.on (Below.refl _ _).drew⟩
            have P5 := HQ.out.on (Below.refl w6.heap.size w6).drew
            generalize w6.drew = w7 at P5 hHeld ⊢
            clear HQ
            refine wpAnyH_take (i := 0) (oi := _) (v := ?_) rfl (by kernel_rfl) (by kernel_rfl) (by kernel_rfl) (fun _ _ _ h => h) (Or.inl ⟨by kernel_rfl, ?_⟩) (by assumption) ?_
            rotate_left
            · intro w hSw
              clear hSw
              go_simp
              with_reducible rfl
            try simp only [List.getElem_toArray, List.getElem_cons_succ, List.getElem_cons_zero, Act.put, List.setIfInBounds_toArray, List.set_cons_zero, List.set_cons_succ]
            refine wpAnyH_take (i := 1) (oi := _) (v := ?_) rfl (by kernel_rfl) (by kernel_rfl) (by kernel_rfl) (fun _ _ _ h => h) (Or.inl ⟨by kernel_rfl, ?_⟩) (by assumption) ?_
            rotate_left
            · intro w hSw
              clear hSw
              go_simp
              with_reducible rfl
            try simp only [List.getElem_toArray, List.getElem_cons_succ, List.getElem_cons_zero, Act.put, List.setIfInBounds_toArray, List.set_cons_zero, List.set_cons_succ]
            refine wpAnyH_take (i := 2) (oi := _) (v := ?_) rfl (by kernel_rfl) (by kernel_rfl) (by kernel_rfl) (fun _ _ _ h => h) (Or.inl ⟨by kernel_rfl, ?_⟩) (by assumption) ?_
            rotate_left
            · intro w hSw
              obtain ⟨⟨_, c0, c1, c2, c3, c4, c5, c6, c7, c8, c9, c10, c11, c12, c13⟩, ⟨_, d0, d1, d2, d3, d4, d5, d6⟩⟩ := hSw
              go_simp
              with_reducible rfl
            try simp only [List.getElem_toArray, List.getElem_cons_succ, List.getElem_cons_zero, Act.put, List.setIfInBounds_toArray, List.set_cons_zero, List.set_cons_succ]
            refine wpAnyH_take (i := 3) (oi := _) (v := ?_) rfl (by kernel_rfl) (by kernel_rfl) (by kernel_rfl) (fun _ _ _ h => h) (Or.inl ⟨by kernel_rfl, ?_⟩) (by assumption) ?_
            rotate_left
            · intro w hSw
              obtain ⟨⟨_, c0, c1, c2, c3, c4, c5, c6, c7, c8, c9, c10, c11, c12, c13⟩, ⟨_, d0, d1, d2, d3, d4, d5, d6⟩⟩ := hSw
              go_simp
              with_reducible rfl
            try simp only [List.getElem_toArray, List.getElem_cons_succ, List.getElem_cons_zero, Act.put, List.setIfInBounds_toArray, List.set_cons_zero, List.set_cons_succ]
            refine wpAnyH_ready (rs := [4]) (by kernel_rfl) (by simp) ?_
            refine AllReadyH.cons (o := _) rfl (fun K_ hK => ?_) AllReadyH.nil
            go_simp
            refine (point_ x HX.out _).mono ?_; rintro e w8 ⟨rfl, x8⟩
            have P6 := P5.on x8
            clear P5 x8
            show K_ _ _
            refine hK.out _ _ ⟨P6.ac, P6.sm⟩ (fun hH1 => ?_)
            clear hK K_ hHeld
            have hHeld := hH1
            clear hH1
            try simp only [List.getElem_toArray, List.getElem_cons_succ, List.getElem_cons_zero, Act.put, List.setIfInBounds_toArray, List.set_cons_zero, List.set_cons_succ]
            refine wpAnyH_ready (rs := [5]) (by kernel_rfl) (by simp) ?_
            refine AllReadyH.cons (o := _) rfl (fun K_ hK => ?_) AllReadyH.nil
            go_simp
            refine (K.rels _ _ _ x.small.pr x.oi x.op _ P6.ow.al.rep (HF.out.mono (by have := I60.out; omega)) HX.out.point).mono ?_; rintro e w9 ⟨rfl, S6_, R6, f6, x6⟩
            have P7 := P6.one R6 f6 x6
            clear P6 R6 f6 x6
            show K_ _ _
            refine hK.out _ _ ⟨P7.ac, P7.sm⟩ (fun hH1 => ?_)
            clear hK K_ hHeld
            have hHeld := hH1
            clear hH1
            try simp only [List.getElem_toArray, List.getElem_cons_succ, List.getElem_cons_zero, Act.put, List.setIfInBounds_toArray, List.set_cons_zero, List.set_cons_succ]
            refine wpAnyH_done (by kernel_rfl) (NoPanic.normal ?_) _
            have PE := Lib.hid P7.ow
            clear hHeld P7
            go_wp2
            go_meet
            exact ⟨_, _, PE, HF.out.chg _ _ _ _⟩
          · have t2 : (kk == 2) = false := by rw [beq_eq_false_iff_ne]; omega
            have t3 : (kk == 3) = false := by rw [beq_eq_false_iff_ne]; omega
            have t4 : (kk == 4) = false := by rw [beq_eq_false_iff_ne]; omega
            have t5 : (kk == 5) = false := by rw [beq_eq_false_iff_ne]; omega
            clear h
            obtain ⟨_, d0, d1, d2, d3, d4, d5, d6⟩ := id HQ.out.sm
            go_wp2_with fail
            refine (K.takes p S X x.small _ HQ.out.ow.al.rep (HF.out.mono (by have := I60.out; omega)) HX.out.small).mono ?_; rintro e w9 ⟨rfl, S6_, R6, f6, x6⟩
            have PE := Lib.hid (HQ.out.one R6 f6 x6).ow
            clear HQ R6 f6 x6 d0 d1 d2 d3 d4 d5 d6 t2 t3 t4 t5
            go_wp2
            go_meet
            exact ⟨_, _, PE, HF.out.take _⟩
        case rest => as_aux_lemma =>
          obtain ⟨S2, X2, HQ2, HF2⟩ := hcut
          go_wp2_with fail
          refine (K.lists p S2 X2 _ HQ2.out.al.rep (HF2.out.mono (by have := I60.out; omega))).mono ?_; rintro e w7 ⟨a1, c1, rfl, b7, sl, nb⟩
          have HL := Lib.hid (HQ2.out.list b7 sl nb)
          have HO := Lib.hid (K.ok HQ2.out.al.rep)
          clear HQ2 b7 sl nb
          obtain ⟨N, hN⟩ : ∃ N, N = X2.l.length := ⟨_, rfl⟩
          have HN : Hid (X2.l.length = N) := hN.symm
          have NB : Hid (N ≤ 1000) := by show _ ≤ _; rw [hN]; exact (HF2.out.mono (by have := I60.out; omega) : X2.Few 1000).len
          rw [← hN]
          clear hN
          go_upto_region 23 with fail
          go_loopw [10, 11] (fun sk _ wk => ∃ k : Nat, k ≤ N ∧ sk = .int .i64 (k : Int) ∧ Hid (Below w7.heap.size w7 wk)) (fun sk _ _ => N - (intOf sk).toNat)
          case atStart => exact ⟨0, Nat.zero_le _, rfl, Below.refl _ _⟩
          case round =>
            obtain ⟨k, hk, rfl, HB⟩ := hrel
            by_cases hlt : k < N
            · have EK := Lib.hid (step_16 (j := k) (Nat.lt_of_le_of_lt (Nat.le_trans hk NB.out) (by decide)))
              have HKI := Lib.hid hlt
              obtain ⟨e10, e12, e13⟩ := ix16 hlt
              have hl2 : k < X2.l.length := by rw [HN.out]; exact hlt
              obtain ⟨bb, off2, ha, RA⟩ := row_at16 (HL.out.sl.on HB.out) hl2
              obtain ⟨r1, r2, r3, r4⟩ := HO.out.row (HF2.out.mono (by have := I60.out; omega) : X2.Few 1000) (Nat.le_refl _) hl2
              have HRK : Hid (∃ r, r = X2.l.getD k Ro.zero ∧ RoAt wr bb (off2 + k * 7) r) := ⟨_, rfl, RA⟩
              obtain ⟨r, hr⟩ : ∃ r, r = X2.l.getD k Ro.zero := ⟨_, rfl⟩
              rw [← hr] at RA r1 r2 r3 r4
              have HRR := Lib.hid hr
              have HRA := Lib.hid RA
              obtain ⟨_, l0, l1, l2, l3, l4, l5, l6⟩ := RA
              clear hr hl2 hk hlt HRK
              subst ha
              go_upto_region 25 with fail
              go_quiet (fail)
              have B8 := Lib.hid (below_drewN HB.out nq)
              have R8 := Lib.hid (HRA.out.on (w' := wr.drewN nq) (below_drewN (Below.refl _ _) nq))
              generalize wr.drewN nq = w8 at B8 R8 ⊢
              clear l0 l1 l2 l3 l4 l5 l6 r1 r2 r3 r4 HB HRA
              go_upto_region 28 with fail
              go_loopw [11] (fun sj wj => ∃ j : Nat, j ≤ k ∧ sj = .int .i64 (j : Int) ∧ Hid (Below w8.heap.size w8 wj)) (fun sj _ => k - (intOf sj).toNat)
              case atStart => exact ⟨0, Nat.zero_le _, rfl, Below.refl _ _⟩
              case round =>
                obtain ⟨j, hj, rfl, HJB⟩ := hrel
                by_cases hlt : j < k
                · have EJ := Lib.hid (step_16 (j := j) (Nat.lt_of_le_of_lt (Nat.le_trans hj (Nat.le_trans (Nat.le_of_lt HKI.out) NB.out)) (by decide)))
                  have HJI := Lib.hid hlt
                  have hjN : j < N := Nat.lt_trans hlt HKI.out
                  have f0 : decide ((j : Int) < (k : Int)) = true := decide_eq_true (Int.ofNat_lt.2 hlt)
                  obtain ⟨f10, f12, f13⟩ := ix16 hjN
                  have hl2 : j < X2.l.length := by rw [HN.out]; exact hjN
                  obtain ⟨b2, o2, ha2, RJ⟩ := row_at16 ((HL.out.sl.on B8.out).on HJB.out) hl2
                  injection ha2 with ha2
                  injection ha2 with ha3 ha4 ha5
                  subst ha3 ha4
                  have RK := R8.out.on HJB.out
                  have TW_ := HO.out.two hlt (by rw [HN.out]; exact HKI.out)
                  rw [← HRR.out] at TW_
                  obtain ⟨q, hq⟩ : ∃ q, q = X2.l.getD j Ro.zero := ⟨_, rfl⟩
                  rw [← hq] at RJ TW_
                  have HTW := Lib.hid TW_
                  have HRKJ := Lib.hid (And.intro RJ RK)
                  clear hq TW_ RJ RK ha5 hl2 hjN hj hlt
                  obtain ⟨q0, q1, q2, q3, q4, q5, q6⟩ := q
                  obtain ⟨s0, s1, s2, s3, s4, s5, s6⟩ := r
                  obtain ⟨⟨_, l0, l1, l2, l3, l4, l5, l6⟩, ⟨_, k0, k1, k2, k3, k4, k5, k6⟩⟩ := id HRKJ.out
                  dsimp only at l0 l1 l2 l3 l4 l5 l6 k0 k1 k2 k3 k4 k5 k6
                  have HT2 := HTW.out
                  dsimp only at HT2
                  clear HTW HRKJ
                  by_cases n0 : q0 = s0
                  · subst n0
                    have n1 : ¬ (q3 = s3 ∧ q4 = s4) := fun h => HT2.1 ⟨rfl, h⟩
                    have n2 : ¬ (q1 = s1 ∧ q2 = s2) := fun h => HT2.2 ⟨rfl, h⟩
                    clear HT2
                    by_cases n3 : q3 = s3
                    · subst n3
                      have n4 : (q4 == s4) = false := beq_eq_false_iff_ne.2 (fun h => n1 ⟨rfl, h⟩)
                      clear n1
                      by_cases n5 : q1 = s1
                      · subst n5
                        have n6 : (q2 == s2) = false := beq_eq_false_iff_ne.2 (fun h => n2 ⟨rfl, h⟩)
                        clear n2
                        go_upto_region 30 with fail
                        go_quiet (fail)
                        have B9 := Lib.hid (below_drewN HJB.out nq)
                        generalize wr.drewN nq = w9 at B9 ⊢
                        clear l0 l1 l2 l3 l4 l5 l6 k0 k1 k2 k3 k4 k5 k6
                        go_wp2
                        go_roundw
                        case rel => exact ⟨j + 1, HJI.out, by simp [EJ.out], B9⟩
                        case measure => first | exact step_meas16 EJ.out (step_less16 HJI.out) | (simp [EJ.out]; exact step_less16 HJI.out) | exact step_less16 HJI.out
                      · have n6 : (q1 == s1) = false := beq_eq_false_iff_ne.2 n5
                        clear n2 n5
                        go_upto_region 30 with fail
                        go_quiet (fail)
                        have B9 := Lib.hid (below_drewN HJB.out nq)
                        generalize wr.drewN nq = w9 at B9 ⊢
                        clear l0 l1 l2 l3 l4 l5 l6 k0 k1 k2 k3 k4 k5 k6
                        go_wp2
                        go_roundw
                        case rel => exact ⟨j + 1, HJI.out, by simp [EJ.out], B9⟩
                        case measure => first | exact step_meas16 EJ.out (step_less16 HJI.out) | (simp [EJ.out]; exact step_less16 HJI.out) | exact step_less16 HJI.out
                    · have n4 : (q3 == s3) = false := beq_eq_false_iff_ne.2 n3
                      clear n1 n3
                      by_cases n5 : q1 = s1
                      · subst n5
                        have n6 : (q2 == s2) = false := beq_eq_false_iff_ne.2 (fun h => n2 ⟨rfl, h⟩)
                        clear n2
                        go_upto_region 30 with fail
                        go_quiet (fail)
                        have B9 := Lib.hid (below_drewN HJB.out nq)
                        generalize wr.drewN nq = w9 at B9 ⊢
                        clear l0 l1 l2 l3 l4 l5 l6 k0 k1 k2 k3 k4 k5 k6
                        go_wp2
                        go_roundw
                        case rel => exact ⟨j + 1, HJI.out, by simp [EJ.out], B9⟩
                        case measure => first | exact step_meas16 EJ.out (step_less16 HJI.out) | (simp [EJ.out]; exact step_less16 HJI.out) | exact step_less16 HJI.out
                      · have n6 : (q1 == s1) = false := beq_eq_false_iff_ne.2 n5
                        clear n2 n5
                        go_upto_region 30 with fail
                        go_quiet (fail)
                        have B9 := Lib.hid (below_drewN HJB.out nq)
                        generalize wr.drewN nq = w9 at B9 ⊢
                        clear l0 l1 l2 l3 l4 l5 l6 k0 k1 k2 k3 k4 k5 k6
                        go_wp2
                        go_roundw
                        case rel => exact ⟨j + 1, HJI.out, by simp [EJ.out], B9⟩
                        case measure => first | exact step_meas16 EJ.out (step_less16 HJI.out) | (simp [EJ.out]; exact step_less16 HJI.out) | exact step_less16 HJI.out
                  · have n4 : (q0 == s0) = false := beq_eq_false_iff_ne.2 n0
                    clear n0 HT2
                    go_upto_region 30 with fail
                    go_quiet (fail)
                    have B9 := Lib.hid (below_drewN HJB.out nq)
                    generalize wr.drewN nq = w9 at B9 ⊢
                    clear l0 l1 l2 l3 l4 l5 l6 k0 k1 k2 k3 k4 k5 k6
                    go_wp2
                    go_roundw
                    case rel => exact ⟨j + 1, HJI.out, by simp [EJ.out], B9⟩
                    case measure => first | exact step_meas16 EJ.out (step_less16 HJI.out) | (simp [EJ.out]; exact step_less16 HJI.out) | exact step_less16 HJI.out
                · obtain rfl : j = k := Nat.le_antisymm hj (Nat.le_of_not_lt hlt)
                  have t1 : decide ((j : Int) < (j : Int)) = false := by simp
                  clear hj hlt
                  have B9 := Lib.hid (B8.out.trans (HJB.out.mono B8.out.size))
                  go_wp2
                  go_roundw
                  case rel => exact ⟨j + 1, HKI.out, by simp [EK.out], B9⟩
                  case measure => first | exact step_meas16 EK.out (step_less16 HKI.out) | (simp [EK.out]; exact step_less16 HKI.out) | exact step_less16 HKI.out
            · obtain rfl : k = N := Nat.le_antisymm hk (Nat.le_of_not_lt hlt)
              have t1 : decide ((k : Int) < (k : Int)) = false := by simp
              have L9 := Lib.hid (HL.out.ow.on HB.out)
              clear hk hlt HB HL
              go_wp2
              go_roundw
              case rel => exact ⟨i + 1, S2, X2, HI.out, by simp [EW.out], L9, HF2⟩
              case measure => first | exact step_meas16 EW.out (step_less16 HI.out) | (simp [EW.out]; exact step_less16 HI.out) | exact step_less16 HI.out
      · obtain rfl : i = len := Nat.le_antisymm hi (Nat.le_of_not_lt hlt)
        have t1 : decide ((i : Int) < (i : Int)) = false := by simp
        clear hlt hi
        have HO := Lib.hid (K.ok HQ.out.al.rep)
        have FW := Lib.hid (HF.out.mono (Nat.le_trans H60.out (by decide)) : X.Few 900)
        clear HF
        go_wp2_with fail
        refine (K.lists p S X _ HQ.out.al.rep (FW.out.mono (by decide))).mono ?_; rintro e w7 ⟨a1, c1, rfl, b7, sl, nb⟩
        have HL := Lib.hid (HQ.out.list b7 sl nb)
        clear HQ b7 sl nb
        obtain ⟨N, hN⟩ : ∃ N, N = X.l.length := ⟨_, rfl⟩
        have HN : Hid (X.l.length = N) := hN.symm
        rw [← hN]
        clear hN
        have kt := K.takes p S X y _ HL.out.ow.al.rep (FW.out.mono (by decide)) HV2.out
        have F2 := FW.out.take y
        have KD := fun h => Po.drop_take HO.out HV2.out h
        have KE := fun h => take_err (x := X) (v := y) h
        generalize hri : (X.take y).1.1.1 = ri at kt KD
        generalize hrp : (X.take y).1.1.2 = rp at kt KD
        generalize hn : (X.take y).1.2 = n at kt KD KE
        generalize (X.take y).2 = Y at kt F2 KD KE
        have HKE := Lib.hid (And.intro KD (And.intro KE F2))
        clear KD KE F2 hri hrp hn
        obtain ⟨_, d0, d1, d2, d3, d4, d5, d6⟩ := id HL.out.ow.wi
        go_upto_region 34 with (go_at_call 11; refine kt.mono ?_; rintro e w8 ⟨rfl, S8, R8, f8, x8⟩)
        have b_ : Below w8.heap.size w8 (w8.alloc (.cells #[.int .u32 ri, .int .u16 rp] 34)) := (Below.refl _ _).alloc (Nat.le_refl _) _
        have HG := Lib.hid ((HL.out.one R8 f8 x8).on b_)
        have E8 := EpB.made w8 ri rp 34
        have hd : Hid (w8.heap.size ≤ w8.heap.size) := Nat.le_refl _
        generalize w8.alloc (.cells #[.int .u32 ri, .int .u16 rp] 34) = w9 at HG E8 ⊢
        generalize w8.heap.size = d at E8 ⊢
        clear kt R8 f8 x8 b_ HL d0 d1 d2 d3 d4 d5 d6 hd
        obtain ⟨_, d0, d1, d2, d3, d4, d5, d6⟩ := id HG.out.ow.wi
        obtain ⟨_, f0, f1, _⟩ := id E8
        clear E8
        by_cases h0 : n = 0
        · obtain ⟨h1, h2, h3, h4⟩ := HKE.out.1 h0
          subst h0 h1
          have t2 : decide (rp < y.fr) = false := decide_eq_false (by omega)
          have t3 : decide (y.to < rp) = false := decide_eq_false (by omega)
          have kd := K.drps p S8 Y y.pr y.oi rp w9 HG.out.ow.al.rep (HKE.out.2.2.mono (by decide)) ⟨HV2.out.pr0, HV2.out.pr1, HV2.out.oi0, HV2.out.oi1, by have := HV2.out.fr0; omega, by have := HV2.out.to1; omega⟩
          rw [h4] at kd
          simp only [] at kd
          clear h2 h3 h4 HKE
          go_upto_region 36 with (go_at_call 23; refine kd.mono ?_; rintro e w10 ⟨rfl, S9, R9, f9, x9⟩)
          have H9 := Lib.hid (HG.out.one R9 f9 x9)
          clear kd R9 f9 x9 HG t2 t3 d0 d1 d2 d3 d4 d5 d6 f0 f1
          go_wp2_with fail
          refine (K.lists p S9 _ _ H9.out.ow.al.rep (FW.out.mono (by decide))).mono ?_; rintro e w11 ⟨a2, c2, rfl, b11, sl2, nb2⟩
          have HM := Lib.hid (And.intro (H9.out.on b11) sl2)
          clear H9 b11 sl2 nb2
          rw [HN.out]
          have NB : Hid (N ≤ 1000) := by show _ ≤ _; rw [← HN.out]; exact Nat.le_trans FW.out.len (by decide)
          go_upto_region 40 with fail
          go_loopw [16] (fun sk wk => ∃ k : Nat, k ≤ N ∧ sk = .int .i64 (k : Int) ∧ Hid (Below w11.heap.size w11 wk)) (fun sk _ => N - (intOf sk).toNat)
          case atStart => exact ⟨0, Nat.zero_le _, rfl, Below.refl _ _⟩
          case round =>
            obtain ⟨k, hk, rfl, HB⟩ := hrel
            by_cases hlt : k < N
            · have EK := Lib.hid (step_16 (j := k) (Nat.lt_of_le_of_lt (Nat.le_trans hk NB.out) (by decide)))
              have HKI := Lib.hid hlt
              obtain ⟨e10, e12, e13⟩ := ix16 hlt
              have hl2 : k < _ := Nat.lt_of_lt_of_eq hlt HN.out.symm
              obtain ⟨b1, o1, ha1, R1⟩ := row_at16 (HM.out.1.sl.on HB.out) hl2
              obtain ⟨b2, o2, ha2, R2⟩ := row_at16 (HM.out.2.on HB.out) hl2
              generalize List.getD _ k Ro.zero = r at R1 R2
              obtain ⟨_, l0, l1, l2, l3, l4, l5, l6⟩ := id R1
              obtain ⟨_, k0, k1, k2, k3, k4, k5, k6⟩ := id R2
              clear hl2 hk hlt R1 R2
              subst ha1 ha2
              go_upto_region 42 with fail
              go_quiet (fail)
              have B9 := Lib.hid (below_drewN HB.out nq)
              generalize wr.drewN nq = w12 at B9 ⊢
              clear l0 l1 l2 l3 l4 l5 l6 k0 k1 k2 k3 k4 k5 k6
              go_wp2
              go_roundw
              case rel => exact ⟨k + 1, HKI.out, by simp [EK.out], B9⟩
              case measure => first | exact step_meas16 EK.out (step_less16 HKI.out) | (simp [EK.out]; exact step_less16 HKI.out) | exact step_less16 HKI.out
            · obtain rfl : k = N := Nat.le_antisymm hk (Nat.le_of_not_lt hlt)
              have t1 : decide ((k : Int) < (k : Int)) = false := by simp
              have L9 := Lib.hid (HM.out.1.ow.al.below.trans (HB.out.mono HM.out.1.ow.al.below.size))
              clear hk hlt HB HM
              go_wp2_with fail
              refine (let_ K _).mono ?_; rintro e w13 ⟨rfl, b13⟩
              go_wp2
              go_ret
              exact ⟨rfl, L9.out.trans (b13.mono L9.out.size)⟩
        · have t1_ : ((n : Int) == 0) = false := beq_eq_false_iff_ne.2 (by omega)
          obtain rfl := HKE.out.2.1 h0
          go_upto_region 36 with fail
          have H9 := HG
          generalize S8 = S9 at H9
          clear HG t1_ d0 d1 d2 d3 d4 d5 d6 f0 f1 h0 HKE
          generalize w9 = w10 at H9 ⊢
          go_wp2_with fail
          refine (K.lists p S9 _ _ H9.out.ow.al.rep (FW.out.mono (by decide))).mono ?_; rintro e w11 ⟨a2, c2, rfl, b11, sl2, nb2⟩
          have HM := Lib.hid (And.intro (H9.out.on b11) sl2)
          clear H9 b11 sl2 nb2
          rw [HN.out]
          have NB : Hid (N ≤ 1000) := by show _ ≤ _; rw [← HN.out]; exact Nat.le_trans FW.out.len (by decide)
          go_upto_region 40 with fail
          go_loopw [16] (fun sk wk => ∃ k : Nat, k ≤ N ∧ sk = .int .i64 (k : Int) ∧ Hid (Below w11.heap.size w11 wk)) (fun sk _ => N - (intOf sk).toNat)
          case atStart => exact ⟨0, Nat.zero_le _, rfl, Below.refl _ _⟩
          case round =>
            obtain ⟨k, hk, rfl, HB⟩ := hrel
            by_cases hlt : k < N
            · have EK := Lib.hid (step_16 (j := k) (Nat.lt_of_le_of_lt (Nat.le_trans hk NB.out) (by decide)))
              have HKI := Lib.hid hlt
              obtain ⟨e10, e12, e13⟩ := ix16 hlt
              have hl2 : k < _ := Nat.lt_of_lt_of_eq hlt HN.out.symm
              obtain ⟨b1, o1, ha1, R1⟩ := row_at16 (HM.out.1.sl.on HB.out) hl2
              obtain ⟨b2, o2, ha2, R2⟩ := row_at16 (HM.out.2.on HB.out) hl2
              generalize List.getD _ k Ro.zero = r at R1 R2
              obtain ⟨_, l0, l1, l2, l3, l4, l5, l6⟩ := id R1
              obtain ⟨_, k0, k1, k2, k3, k4, k5, k6⟩ := id R2
              clear hl2 hk hlt R1 R2
              subst ha1 ha2
              go_upto_region 42 with fail
              go_quiet (fail)
              have B9 := Lib.hid (below_drewN HB.out nq)
              generalize wr.drewN nq = w12 at B9 ⊢
              clear l0 l1 l2 l3 l4 l5 l6 k0 k1 k2 k3 k4 k5 k6
              go_wp2
              go_roundw
              case rel => exact ⟨k + 1, HKI.out, by simp [EK.out], B9⟩
              case measure => first | exact step_meas16 EK.out (step_less16 HKI.out) | (simp [EK.out]; exact step_less16 HKI.out) | exact step_less16 HKI.out
            · obtain rfl : k = N := Nat.le_antisymm hk (Nat.le_of_not_lt hlt)
              have t1 : decide ((k : Int) < (k : Int)) = false := by simp
              have L9 := Lib.hid (HM.out.1.ow.al.below.trans (HB.out.mono HM.out.1.ow.al.below.size))
              clear hk hlt HB HM
              go_wp2_with fail
              refine (let_ K _).mono ?_; rintro e w13 ⟨rfl, b13⟩
              go_wp2
              go_ret
              exact ⟨rfl, L9.out.trans (b13.mono L9.out.size)⟩
end PortsOwn
end Go.Proofs.Ytbbadpidolfleaa
