/- PortsEven (layer 16): its walk. Written by gen_portseven.py. -/
import Derived.Test.YtbbadpidolfleaaPoEv
import Derived.Test.YtbbadpidolfleaaPzR
import Derived.Test.YtbbadpidolfleaaVg
import Derived.Test.YtbbadpidolfleaaVh
import Derived.Test.YtbbadpidolfleaaVe
namespace Go.Proofs.Ytbbadpidolfleaa
set_option linter.unusedVariables false
set_option maxRecDepth 100000
set_option linter.unusedSimpArgs false
open Go.ChangeShapes Go.WideShapes Go.ChangeAt Go.RowKit Go.PlainAid
attribute [local go_sem ↓] Go.wp_at_zero Go.wp_at_succ
/-- The second number of an endpoint is another one. -/
theorem ep_port {W : World} {b : Nat} {i p0 p : Int} {M : World → Prop} (h : EpB W b i p0) (k : ∀ X : World, EpB X b i p → Beside (fun k => k = b) W X → M X) : M (W.setCell ⟨b, 1, none⟩ (.int .u16 p)) := by
  have c0 := h.c0
  have c1 := h.c1
  exact k _ ⟨by simpa [World.setCell] using h.lt, by simp [go_sem, c0, c1], by simp [go_sem, c1], fun j => by rw [World.frozen?_setCell]; exact h.fr j⟩ ((Beside.refl (fun k => k = b) W).setCell (p := ⟨b, 1, none⟩) rfl _)
/-- A wish of at most so many ports. -/
def Wi.clip (v : Wi) (n : Int) : Wi := if n < v.to - v.fr then ⟨v.pr, v.ii, v.ip, v.oi, v.fr, v.fr + n, v.dr⟩ else v
theorem clip_ok {v : Wi} (h : WOk v) {n : Int} (hn : 0 ≤ n) : WOk (v.clip n) := by
  have hv := h
  unfold Wi.clip
  split
  · obtain ⟨a1, a2, a3, a4, a5, a6, a7, a8, a9, a10, a11, a12, a13, a14⟩ := hv
    constructor <;> simp only [] <;> omega
  · exact h
theorem clip_may {v : Wi} {n : Int} (hn : 0 ≤ n) (h : v.may) : (v.clip n).may := by
  obtain ⟨h1, h2⟩ := h
  unfold Wi.clip
  split
  · exact ⟨h1, by show v.fr ≤ v.fr + n; omega⟩
  · exact ⟨h1, h2⟩
theorem clip_same (v : Wi) (n : Int) : (v.clip n).pr = v.pr ∧ (v.clip n).ii = v.ii ∧ (v.clip n).ip = v.ip ∧ (v.clip n).oi = v.oi ∧ (v.clip n).fr = v.fr ∧ (v.clip n).dr = v.dr := by
  unfold Wi.clip
  split <;> exact ⟨rfl, rfl, rfl, rfl, rfl, rfl⟩
theorem clip_yes {v : Wi} (h : WOk v) {n : Int} (h0 : 0 ≤ n) (hc : n < v.to - v.fr) : v.clip n = ⟨v.pr, v.ii, v.ip, v.oi, v.fr, v.fr + n, v.dr⟩ ∧ IntKind.u16.wrap (v.fr + n) = v.fr + n := by
  have h1 := h.fr0
  have h2 := h.to1
  refine ⟨by unfold Wi.clip; rw [if_pos hc], by rw [IntKind.wrap_u16]; omega⟩
theorem wish_wraps {v : Wi} (h : WOk v) : wrap64 v.to = v.to ∧ wrap64 v.fr = v.fr ∧ wrap64 (v.to - v.fr) = v.to - v.fr := by
  have h1 := h.fr0
  have h2 := h.to1
  have h3 := h.fr1
  have h4 := h.to0
  exact ⟨by rw [IntWalk.wrap64_in _ (by omega)], by rw [IntWalk.wrap64_in _ (by omega)], by rw [IntWalk.wrap64_in _ (by omega)]⟩
/-- The inner IP of the others. -/
def oth (v : Wi) : Int := IntKind.u32.wrap (v.ii + 1)
theorem oth_ok {v : Wi} (h : WOk v) : 0 ≤ oth v ∧ oth v < 4294967296 ∧ oth v ≠ v.ii := by
  have h1 := h.ii0
  have h2 := h.ii1
  unfold oth
  rw [IntKind.wrap_u32]
  omega
def Po.only (x : Po) (i : Int) : Prop := ∀ r ∈ x.l, r.ii = i
theorem Po.only.fix {x : Po} {i : Int} (h : x.only i) (pr ip oi op : Int) : (x.fix pr i ip oi op).2.only i := by
  unfold Po.fix
  split
  · split
    · intro r hr
      obtain ⟨r0, h0, e⟩ := List.mem_map.1 hr
      rw [← e]
      split
      · exact h r0 h0
      · exact h r0 h0
    · exact h
  · split
    · exact h
    · intro r hr
      rcases Po.ins_mem.1 hr with e | hr
      · rw [e]
      · exact h r hr
theorem Po.only.none {x : Po} {i : Int} (h : x.only i) {pr ii ip : Int} (hn : i ≠ ii) : x.ofI pr ii ip = none := by
  unfold Po.ofI
  rw [List.find?_eq_none]
  intro r hr hq
  exact hn ((h r hr).symm.trans ((r.isI_iff _ _ _).1 hq).2.1)
/-- What PortsEven has in memory. -/
structure EvS (K : PortsOk) (w0 w : World) (S : Nat → Prop) (p : Nat) (X : Po) (b c : Nat) (v : Wi) (j : Int) : Prop where
  al : Alone K.toObjP w0 w S p X
  wi : WiB w b v
  ep : EpB w c (oth v) j
  sb : ¬ S b
  sc : ¬ S c
  wb : w0.heap.size ≤ b
  wc : w0.heap.size ≤ c
  bc : b ≠ c
section
variable {K : PortsOk} {w0 w w' : World} {S S' : Nat → Prop} {p b c : Nat} {X X' : Po} {v : Wi} {j j' : Int}
theorem EvS.on (h : EvS K w0 w S p X b c v j) (x : Below w.heap.size w w') : EvS K w0 w' S p X b c v j := ⟨h.al.on x, h.wi.on x, h.ep.on x, h.sb, h.sc, h.wb, h.wc, h.bc⟩
theorem EvS.one (h : EvS K w0 w S p X b c v j) (hr : K.toObjP.Rep w' S' p X') (hf : Fresh w S S') (x : Beside S w w') : EvS K w0 w' S' p X' b c v j :=
  ⟨h.al.one hr hf x, h.wi.keep x.size (x.block b h.wi.lt h.sb), h.ep.by x h.sc, hf.not h.wi.lt h.sb, hf.not h.ep.lt h.sc, h.wb, h.wc, h.bc⟩
theorem EvS.port (h : EvS K w0 w S p X b c v j) (he : EpB w' c (oth v) j') (x : Beside (fun k => k = c) w w') : EvS K w0 w' S p X b c v j' :=
  ⟨h.al.by x (fun k hk e => h.sc (e ▸ hk)) (fun k e => e ▸ h.wc), h.wi.keep x.size (x.block b h.wi.lt h.bc), he, h.sb, h.sc, h.wb, h.wc, h.bc⟩
end
namespace PortsEven
set_option maxHeartbeats 8000000 in
theorem run_ (K : PortsOk) (v : Wi) (hv : WOk v) (a : Option Addr) (len cap : Nat) (l : List Int) (w : World) (hr : Row .u8 w a len l) (hz : ∀ i, i < len → 0 ≤ l.getD i 0 ∧ l.getD i 0 < 256) :
    Calls Try.prog 7 #[.agg #[.int .u8 v.pr, .int .u32 v.ii, .int .u16 v.ip, .int .u32 v.oi, .int .u16 v.fr, .int .u16 v.to, .int .u16 v.dr], .slice a len cap] w fun e w' => e = .returned (.bool true) ∧ Below w.heap.size w w' := by
  have B1 : Below w.heap.size w (w.alloc (.cells #[.int .u8 v.pr, .int .u32 v.ii, .int .u16 v.ip, .int .u32 v.oi, .int .u16 v.fr, .int .u16 v.to, .int .u16 v.dr] 36)) := (Below.refl _ _).alloc (Nat.le_refl _) _
  have A1 := WiB.made w v 36
  by_cases h1 : 30 < len
  · have e1 : decide ((30 : Int) < len) = true := by simp; omega
    have e2 : decide (30 < len) = true := by simpa using h1
    clear h1
    go_enter Try.func7, Try.ntmps7
    go_upto_region 1 with fail
    generalize w.alloc (.cells #[.int .u8 v.pr, .int .u32 v.ii, .int .u16 v.ip, .int .u32 v.oi, .int .u16 v.fr, .int .u16 v.to, .int .u16 v.dr] 36) = u at A1 B1 ⊢
    obtain ⟨_, a0, a1, a2, a3, a4, a5, a6⟩ := id A1
    have HB := Lib.hid B1
    clear A1 B1
    go_wp2_with fail
    refine (let_ K _).mono ?_; rintro e w1 ⟨rfl, b1⟩
    go_wp2
    go_ret
    exact ⟨rfl, HB.out.trans (b1.mono HB.out.size)⟩
  have e1 : decide ((30 : Int) < len) = false := by simp; omega
  have e2 : decide (30 < len) = false := by simpa using h1
  have H30 := Lib.hid (Nat.le_of_not_lt h1)
  clear h1
  by_cases h2 : v.fr = 0
  · have e3 : (v.fr == 0) = true := beq_iff_eq.2 h2
    clear h2
    go_enter Try.func7, Try.ntmps7
    go_upto_region 1 with fail
    generalize w.alloc (.cells #[.int .u8 v.pr, .int .u32 v.ii, .int .u16 v.ip, .int .u32 v.oi, .int .u16 v.fr, .int .u16 v.to, .int .u16 v.dr] 36) = u at A1 B1 ⊢
    obtain ⟨_, a0, a1, a2, a3, a4, a5, a6⟩ := id A1
    have HB := Lib.hid B1
    clear A1 B1
    go_wp2_with fail
    refine (let_ K _).mono ?_; rintro e w1 ⟨rfl, b1⟩
    go_wp2
    go_ret
    exact ⟨rfl, HB.out.trans (b1.mono HB.out.size)⟩
  have e3 : (v.fr == 0) = false := beq_eq_false_iff_ne.2 h2
  by_cases h3 : v.to < v.fr
  · have e4 : decide (v.to < v.fr) = true := decide_eq_true h3
    clear h3 h2
    go_enter Try.func7, Try.ntmps7
    go_upto_region 1 with fail
    generalize w.alloc (.cells #[.int .u8 v.pr, .int .u32 v.ii, .int .u16 v.ip, .int .u32 v.oi, .int .u16 v.fr, .int .u16 v.to, .int .u16 v.dr] 36) = u at A1 B1 ⊢
    obtain ⟨_, a0, a1, a2, a3, a4, a5, a6⟩ := id A1
    have HB := Lib.hid B1
    clear A1 B1
    go_wp2_with fail
    refine (let_ K _).mono ?_; rintro e w1 ⟨rfl, b1⟩
    go_wp2
    go_ret
    exact ⟨rfl, HB.out.trans (b1.mono HB.out.size)⟩
  have e4 : decide (v.to < v.fr) = false := decide_eq_false h3
  have HM : Hid v.may := ⟨by have := hv.fr0; omega, by omega⟩
  have HV := Lib.hid hv
  have HR := Lib.hid (And.intro hr hz)
  clear h2 h3 hr hz hv
  obtain ⟨g1, g2, g3⟩ := wish_wraps HV.out
  have bf : ∀ j, (w.alloc (.cells #[.int .u8 v.pr, .int .u32 v.ii, .int .u16 v.ip, .int .u32 v.oi, .int .u16 v.fr, .int .u16 v.to, .int .u16 v.dr] 36)).frozen? ⟨w.heap.size, j, none⟩ = false := fun j => by simp [go_sem]
  go_enter Try.func7, Try.ntmps7
  go_upto_region 1 with fail
  generalize w.alloc (.cells #[.int .u8 v.pr, .int .u32 v.ii, .int .u16 v.ip, .int .u32 v.oi, .int .u16 v.fr, .int .u16 v.to, .int .u16 v.dr] 36) = u at A1 B1 bf ⊢
  obtain ⟨b, hb⟩ : ∃ b, b = w.heap.size := ⟨_, rfl⟩
  rw [← hb] at A1 bf ⊢
  have WB : w.heap.size ≤ b := hb ▸ Nat.le_refl _
  obtain ⟨_, a0, a1, a2, a3, a4, a5, a6⟩ := id A1
  have HA := Lib.hid (And.intro A1 (And.intro B1 WB))
  clear A1 B1 hb WB
  by_cases hc : 11 < v.to - v.fr
  · obtain ⟨hcl, g4⟩ := clip_yes HV.out (n := 11) (by decide) hc
    have g5 : decide (11 < v.to - v.fr) = true := decide_eq_true hc
    have HC := Lib.hid hcl
    clear hc hcl
    go_upto_region 5 with fail
    refine wi_to HA.out.1 fun w2 hX bX => ?_
    rw [← HC.out] at hX
    have QX : Hid (WiB w2 b (v.clip 11) ∧ Below w.heap.size w w2 ∧ w.heap.size ≤ b) := ⟨hX, one_box HA.out.2.1 bX HA.out.2.2 HA.out.2.1.size, HA.out.2.2⟩
    clear hX bX HA a0 a1 a2 a3 a4 a5 a6 bf g1 g2 g3 g4 g5 e1 e2 e3 e4 HC
    have HM2 := Lib.hid (clip_may (n := 11) (by decide) HM.out)
    have HV2 := Lib.hid (clip_ok HV.out (n := 11) (by decide))
    generalize v.clip 11 = y at QX HM2 HV2
    go_wp2_with fail
    refine (K.news w2).mono ?_; rintro e w3 ⟨p, S, rfl, b3, hS, R3⟩
    have W3 := QX.out.1.on b3
    have B3 := QX.out.2.1.trans (b3.mono QX.out.2.1.size)
    have P3 : Alone K.toObjP w w3 S p Po.new := ⟨R3, fun k hk => Nat.le_trans QX.out.2.1.size (hS k hk), B3⟩
    have sb : ¬ S b := fun h => absurd QX.out.1.lt (Nat.not_lt_of_le (hS b h))
    have b4 : Below w3.heap.size w3 (w3.alloc (.cells #[.int .u32 (oth y), .int .u16 0] 34)) := (Below.refl _ _).alloc (Nat.le_refl _) _
    have E0 : EvS K w (w3.alloc (.cells #[.int .u32 (oth y), .int .u16 0] 34)) S p Po.new b w3.heap.size y 0 := ⟨P3.on b4, W3.on b4, EpB.made w3 (oth y) 0 _, sb, fun h => Nat.lt_irrefl _ (K.lt R3 _ h), QX.out.2.2, B3.size, Nat.ne_of_lt W3.lt⟩
    obtain ⟨_, a0, a1, a2, a3, a4, a5, a6⟩ := id W3
    have ho : IntKind.u32.wrap (y.ii + 1) = oth y := rfl
    clear b3 hS R3 W3 B3 P3 sb b4
    go_upto_region 8 with fail
    generalize w3.alloc (.cells #[.int .u32 (oth y), .int .u16 0] 34) = w4 at E0 ⊢
    generalize w3.heap.size = c at E0 ⊢
    clear a0 a1 a2 a3 a4 a5 a6 ho
    have L0 : Hid (EvS K w w4 S p Po.new b c y 0 ∧ Po.new.Few 0 ∧ Po.new.only (oth y)) := ⟨E0, Po.Few.new, fun r h => absurd h List.not_mem_nil⟩
    clear E0
    go_loopw [7] (fun si wr => ∃ (i : Nat) (S : Nat → Prop) (X : Po) (j : Int), i ≤ len ∧ si = .int .i64 (i : Int) ∧ Hid (EvS K w wr S p X b c y j ∧ X.Few i ∧ X.only (oth y))) (fun si _ => len - (intOf si).toNat)
    case atStart => exact ⟨0, S, _, 0, Nat.zero_le _, rfl, L0⟩
    case round =>
      clear L0
      obtain ⟨i, S, X, j, hi, rfl, HQ⟩ := hrel
      have EW := Lib.hid (step_16 (j := i) (Nat.lt_of_le_of_lt (Nat.le_trans hi H30.out) (by decide)))
      by_cases hlt : i < len
      · have HI := Lib.hid hlt
        obtain ⟨e10, e12, e13⟩ := ix16 hlt
        obtain ⟨bb, off, ha, hbb, hcl⟩ := HR.out.1.2.resolve_left (Nat.ne_of_gt (Nat.lt_of_le_of_lt (Nat.zero_le i) hlt))
        have hzb := HR.out.2 i hlt
        have hx := hcl i hlt
        obtain ⟨z, hze⟩ : ∃ z, z = l.getD i 0 := ⟨_, rfl⟩
        rw [← hze] at hx hzb
        have HZ : Hid (bb < w.heap.size ∧ w.cell? ⟨bb, off + i, none⟩ = some (.int .u8 z)) := ⟨hbb, hx⟩
        have i30 : i < 30 := Nat.lt_of_lt_of_le hlt H30.out
        have q0 : IntKind.u16.wrap (i : Int) = (i : Int) := by rw [IntKind.wrap_u16]; omega
        obtain ⟨mm, hmm⟩ : ∃ mm, mm = y.to - y.fr + 1 := ⟨_, rfl⟩
        have m1 := HM2.out.1
        have m2 := HM2.out.2
        have m3 := HV2.out.to1
        have t0 := Int.emod_nonneg z (b := mm) (by omega)
        have t1 := Int.emod_lt_of_pos z (b := mm) (by omega)
        have t2 : z % mm ≤ z := by
          rcases Int.lt_or_le z mm with h | h
          · rw [Int.emod_eq_of_lt hzb.1 h]; exact Int.le_refl _
          · omega
        have q1 : IntKind.u16.wrap (y.to - y.fr) = y.to - y.fr := by rw [IntKind.wrap_u16]; omega
        have q2 : IntKind.u16.wrap (y.to - y.fr + 1) = mm := by rw [IntKind.wrap_u16]; omega
        have q3 : ¬ mm = 0 := by omega
        have q4 : IntKind.u16.wrap z = z := by rw [IntKind.wrap_u16]; omega
        obtain ⟨t, ht⟩ : ∃ t, t = z % mm := ⟨_, rfl⟩
        rw [← ht] at t0 t1 t2
        have q5 : z.tmod mm = t := by rw [ht]; exact Int.tmod_eq_emod_of_nonneg hzb.1
        have q6 : IntKind.u16.wrap t = t := by rw [IntKind.wrap_u16]; omega
        obtain ⟨k1, hk1⟩ : ∃ k1, k1 = y.fr + t := ⟨_, rfl⟩
        have q7 : IntKind.u16.wrap (y.fr + t) = k1 := by rw [IntKind.wrap_u16]; omega
        have KB : Hid (0 ≤ k1 ∧ k1 < 65536 ∧ i < 30) := ⟨by omega, by omega, i30⟩
        obtain ⟨_, e0, e1, fr⟩ := id HQ.out.1.ep
        clear hze hx hbb hcl hzb i30 m1 m2 m3 t0 t1 t2 hmm ht hk1 hi hlt
        subst ha
        go_upto_region 11 with fail
        refine ep_port HQ.out.1.ep fun w5 hX bX => ?_
        have Q5 := HQ.out.1.port hX bX
        have z5 := (Q5.al.below.cell (p := ⟨bb, off + i, none⟩) HZ.out.1).trans HZ.out.2
        have F5 := Lib.hid HQ.out.2
        clear e0 e1 fr hX bX HQ
        refine wp_region_noPanic ?_
        refine wp_region_held_drew (S := (fun w' => WiB w' b y ∧ EpB w' c (oth y) (i : Int) ∧ w'.cell? ⟨bb, off + i, none⟩ = some (.int .u8 z))) (by kernel_rfl) ?_ (fun hHeld => ?_)
        · exact ⟨Q5.wi.on (Below.refl _ _).drew, Q5.ep.on (Below.refl _ _).drew, z5⟩
        have Q6 := Q5.on (Below.refl w5.heap.size w5).drew
        generalize w5.drew = w6 at Q6 hHeld ⊢
        clear Q5 z5
        refine wpAnyH_take (i := 0) (oi := _) (v := ?_) rfl (by kernel_rfl) (by kernel_rfl) (by kernel_rfl) (fun _ _ _ h => h) (Or.inl ⟨by kernel_rfl, ?_⟩) (by assumption) ?_
        rotate_left
        · intro w hSw
          clear hSw
          go_simp
          with_reducible rfl
        try simp only [List.getElem_toArray, List.getElem_cons_succ, List.getElem_cons_zero, Act.put, List.setIfInBounds_toArray, List.set_cons_zero, List.set_cons_succ]
        refine wpAnyH_take (i := 1) (oi := _) (v := ?_) rfl (by kernel_rfl) (by kernel_rfl) (by kernel_rfl) (fun _ _ _ h => h) (Or.inl ⟨by kernel_rfl, ?_⟩) (by assumption) ?_
        rotate_left
        · intro w hSw
          clear hSw
          go_simp
          with_reducible rfl
        try simp only [List.getElem_toArray, List.getElem_cons_succ, List.getElem_cons_zero, Act.put, List.setIfInBounds_toArray, List.set_cons_zero, List.set_cons_succ]
        refine wpAnyH_take (i := 2) (oi := _) (v := ?_) rfl (by kernel_rfl) (by kernel_rfl) (by kernel_rfl) (fun _ _ _ h => h) (Or.inl ⟨by kernel_rfl, ?_⟩) (by assumption) ?_
        rotate_left
        · intro w hSw
          obtain ⟨⟨_, d0, d1, d2, d3, d4, d5, d6⟩, ⟨_, e0, e1, _⟩, z0⟩ := hSw
          go_simp
          with_reducible rfl
        try simp only [List.getElem_toArray, List.getElem_cons_succ, List.getElem_cons_zero, Act.put, List.setIfInBounds_toArray, List.set_cons_zero, List.set_cons_succ]
        refine wpAnyH_take (i := 3) (oi := _) (v := ?_) rfl (by kernel_rfl) (by kernel_rfl) (by kernel_rfl) (fun _ _ _ h => h) (Or.inl ⟨by kernel_rfl, ?_⟩) (by assumption) ?_
        rotate_left
        · intro w hSw
          obtain ⟨⟨_, d0, d1, d2, d3, d4, d5, d6⟩, ⟨_, e0, e1, _⟩, z0⟩ := hSw
          go_simp
          with_reducible rfl
        try simp only [List.getElem_toArray, List.getElem_cons_succ, List.getElem_cons_zero, Act.put, List.setIfInBounds_toArray, List.set_cons_zero, List.set_cons_succ]
        refine wpAnyH_take (i := 4) (oi := _) (v := ?_) rfl (by kernel_rfl) (by kernel_rfl) (by kernel_rfl) (fun _ _ _ h => h) (Or.inl ⟨by kernel_rfl, ?_⟩) (by assumption) ?_
        rotate_left
        · intro w hSw
          clear hSw
          go_simp
          with_reducible rfl
        try simp only [List.getElem_toArray, List.getElem_cons_succ, List.getElem_cons_zero, Act.put, List.setIfInBounds_toArray, List.set_cons_zero, List.set_cons_succ]
        refine wpAnyH_take (i := 5) (oi := _) (v := ?_) rfl (by kernel_rfl) (by kernel_rfl) (by kernel_rfl) (fun _ _ _ h => h) (Or.inl ⟨by kernel_rfl, ?_⟩) (by assumption) ?_
        rotate_left
        · intro w hSw
          obtain ⟨⟨_, d0, d1, d2, d3, d4, d5, d6⟩, ⟨_, e0, e1, _⟩, z0⟩ := hSw
          go_simp
          with_reducible rfl
        try simp only [List.getElem_toArray, List.getElem_cons_succ, List.getElem_cons_zero, Act.put, List.setIfInBounds_toArray, List.set_cons_zero, List.set_cons_succ]
        refine wpAnyH_take (i := 6) (oi := _) (v := ?_) rfl (by kernel_rfl) (by kernel_rfl) (by kernel_rfl) (fun _ _ _ h => h) (Or.inl ⟨by kernel_rfl, ?_⟩) (by assumption) ?_
        rotate_left
        · intro w hSw
          clear hSw
          go_simp
          with_reducible rfl
        try simp only [List.getElem_toArray, List.getElem_cons_succ, List.getElem_cons_zero, Act.put, List.setIfInBounds_toArray, List.set_cons_zero, List.set_cons_succ]
        refine wpAnyH_take (i := 7) (oi := _) (v := ?_) rfl (by kernel_rfl) (by kernel_rfl) (by kernel_rfl) (fun _ _ _ h => h) (Or.inl ⟨by kernel_rfl, ?_⟩) (by assumption) ?_
        rotate_left
        · intro w hSw
          obtain ⟨⟨_, d0, d1, d2, d3, d4, d5, d6⟩, ⟨_, e0, e1, _⟩, z0⟩ := hSw
          go_simp
          with_reducible rfl
        try simp only [List.getElem_toArray, List.getElem_cons_succ, List.getElem_cons_zero, Act.put, List.setIfInBounds_toArray, List.set_cons_zero, List.set_cons_succ]
        refine wpAnyH_take (i := 8) (oi := _) (v := ?_) rfl (by kernel_rfl) (by kernel_rfl) (by kernel_rfl) (fun _ _ _ h => h) (Or.inl ⟨by kernel_rfl, ?_⟩) (by assumption) ?_
        rotate_left
        · intro w hSw
          clear hSw
          go_simp
          with_reducible rfl
        try simp only [List.getElem_toArray, List.getElem_cons_succ, List.getElem_cons_zero, Act.put, List.setIfInBounds_toArray, List.set_cons_zero, List.set_cons_succ]
        refine wpAnyH_take (i := 9) (oi := _) (v := ?_) rfl (by kernel_rfl) (by kernel_rfl) (by kernel_rfl) (fun _ _ _ h => h) (Or.inl ⟨by kernel_rfl, ?_⟩) (by assumption) ?_
        rotate_left
        · intro w hSw
          clear hSw
          go_simp
          with_reducible rfl
        try simp only [List.getElem_toArray, List.getElem_cons_succ, List.getElem_cons_zero, Act.put, List.setIfInBounds_toArray, List.set_cons_zero, List.set_cons_succ]
        refine wpAnyH_take (i := 10) (oi := _) (v := ?_) rfl (by kernel_rfl) (by kernel_rfl) (by kernel_rfl) (fun _ _ _ h => h) (Or.inl ⟨by kernel_rfl, ?_⟩) (by assumption) ?_
        rotate_left
        · intro w hSw
          clear hSw
          go_simp
          with_reducible rfl
        try simp only [List.getElem_toArray, List.getElem_cons_succ, List.getElem_cons_zero, Act.put, List.setIfInBounds_toArray, List.set_cons_zero, List.set_cons_succ]
        refine wpAnyH_take (i := 11) (oi := _) (v := ?_) rfl (by kernel_rfl) (by kernel_rfl) (by kernel_rfl) (fun _ _ _ h => h) (Or.inl ⟨by kernel_rfl, ?_⟩) (by assumption) ?_
        rotate_left
        · intro w hSw
          obtain ⟨⟨_, d0, d1, d2, d3, d4, d5, d6⟩, ⟨_, e0, e1, _⟩, z0⟩ := hSw
          go_simp
          with_reducible rfl
        try simp only [List.getElem_toArray, List.getElem_cons_succ, List.getElem_cons_zero, Act.put, List.setIfInBounds_toArray, List.set_cons_zero, List.set_cons_succ]
        refine wpAnyH_take (i := 12) (oi := _) (v := ?_) rfl (by kernel_rfl) (by kernel_rfl) (by kernel_rfl) (fun _ _ _ h => h) (Or.inl ⟨by kernel_rfl, ?_⟩) (by assumption) ?_
        rotate_left
        · intro w hSw
          clear hSw
          go_simp
          with_reducible rfl
        try simp only [List.getElem_toArray, List.getElem_cons_succ, List.getElem_cons_zero, Act.put, List.setIfInBounds_toArray, List.set_cons_zero, List.set_cons_succ]
        refine wpAnyH_take (i := 13) (oi := _) (v := ?_) rfl (by kernel_rfl) (by kernel_rfl) (by kernel_rfl) (fun _ _ _ h => h) (Or.inl ⟨by kernel_rfl, ?_⟩) (by assumption) ?_
        rotate_left
        · intro w hSw
          clear hSw
          go_simp
          with_reducible rfl
        try simp only [List.getElem_toArray, List.getElem_cons_succ, List.getElem_cons_zero, Act.put, List.setIfInBounds_toArray, List.set_cons_zero, List.set_cons_succ]
        refine wpAnyH_take (i := 14) (oi := _) (v := ?_) rfl (by kernel_rfl) (by kernel_rfl) (by kernel_rfl) (fun _ _ _ h => h) (Or.inl ⟨by kernel_rfl, ?_⟩) (by assumption) ?_
        rotate_left
        · intro w hSw
          obtain ⟨⟨_, d0, d1, d2, d3, d4, d5, d6⟩, ⟨_, e0, e1, _⟩, z0⟩ := hSw
          go_simp
          with_reducible rfl
        try simp only [List.getElem_toArray, List.getElem_cons_succ, List.getElem_cons_zero, Act.put, List.setIfInBounds_toArray, List.set_cons_zero, List.set_cons_succ]
        refine wpAnyH_take (i := 15) (oi := _) (v := ?_) rfl (by kernel_rfl) (by kernel_rfl) (by kernel_rfl) (fun _ _ _ h => h) (Or.inl ⟨by kernel_rfl, ?_⟩) (by assumption) ?_
        rotate_left
        · intro w hSw
          clear hSw
          go_simp
          with_reducible rfl
        try simp only [List.getElem_toArray, List.getElem_cons_succ, List.getElem_cons_zero, Act.put, List.setIfInBounds_toArray, List.set_cons_zero, List.set_cons_succ]
        refine wpAnyH_take (i := 16) (oi := _) (v := ?_) rfl (by kernel_rfl) (by kernel_rfl) (by kernel_rfl) (fun _ _ _ h => h) (Or.inl ⟨by kernel_rfl, ?_⟩) (by assumption) ?_
        rotate_left
        · intro w hSw
          obtain ⟨⟨_, d0, d1, d2, d3, d4, d5, d6⟩, ⟨_, e0, e1, _⟩, z0⟩ := hSw
          go_simp
          with_reducible rfl
        try simp only [List.getElem_toArray, List.getElem_cons_succ, List.getElem_cons_zero, Act.put, List.setIfInBounds_toArray, List.set_cons_zero, List.set_cons_succ]
        refine wpAnyH_take (i := 17) (oi := _) (v := ?_) rfl (by kernel_rfl) (by kernel_rfl) (by kernel_rfl) (fun _ _ _ h => h) (Or.inl ⟨by kernel_rfl, ?_⟩) (by assumption) ?_
        rotate_left
        · intro w hSw
          clear hSw
          go_simp
          with_reducible rfl
        try simp only [List.getElem_toArray, List.getElem_cons_succ, List.getElem_cons_zero, Act.put, List.setIfInBounds_toArray, List.set_cons_zero, List.set_cons_succ]
        refine wpAnyH_take (i := 18) (oi := _) (v := ?_) rfl (by kernel_rfl) (by kernel_rfl) (by kernel_rfl) (fun _ _ _ h => h) (Or.inl ⟨by kernel_rfl, ?_⟩) (by assumption) ?_
        rotate_left
        · intro w hSw
          clear hSw
          go_simp
          with_reducible rfl
        try simp only [List.getElem_toArray, List.getElem_cons_succ, List.getElem_cons_zero, Act.put, List.setIfInBounds_toArray, List.set_cons_zero, List.set_cons_succ]
        refine wpAnyH_take (i := 19) (oi := _) (v := ?_) rfl (by kernel_rfl) (by kernel_rfl) (by kernel_rfl) (fun _ _ _ h => h) (Or.inl ⟨by kernel_rfl, ?_⟩) (by assumption) ?_
        rotate_left
        · intro w hSw
          clear hSw
          go_simp
          with_reducible rfl
        try simp only [List.getElem_toArray, List.getElem_cons_succ, List.getElem_cons_zero, Act.put, List.setIfInBounds_toArray, List.set_cons_zero, List.set_cons_succ]
        refine wpAnyH_take (i := 20) (oi := _) (v := ?_) rfl (by kernel_rfl) (by kernel_rfl) (by kernel_rfl) (fun _ _ _ h => h) (Or.inl ⟨by kernel_rfl, ?_⟩) (by assumption) ?_
        rotate_left
        · intro w hSw
          clear hSw
          go_simp
          with_reducible rfl
        try simp only [List.getElem_toArray, List.getElem_cons_succ, List.getElem_cons_zero, Act.put, List.setIfInBounds_toArray, List.set_cons_zero, List.set_cons_succ]
        refine wpAnyH_take (i := 21) (oi := _) (v := ?_) rfl (by kernel_rfl) (by kernel_rfl) (by kernel_rfl) (fun _ _ _ h => h) (Or.inl ⟨by kernel_rfl, ?_⟩) (by assumption) ?_
        rotate_left
        · intro w hSw
          clear hSw
          go_simp
          with_reducible rfl
        try simp only [List.getElem_toArray, List.getElem_cons_succ, List.getElem_cons_zero, Act.put, List.setIfInBounds_toArray, List.set_cons_zero, List.set_cons_succ]
        refine wpAnyH_ready (rs := [22]) (by kernel_rfl) (by simp) ?_
        refine AllReadyH.cons (o := _) rfl (fun K_ hK => ?_) AllReadyH.nil
        go_simp
        refine (K.fixes p S X y.pr (oth y) (i : Int) y.oi k1 w6 Q6.al.rep (F5.out.1.mono (by have := KB.out.2.2; omega)) ⟨HV2.out.pr0, HV2.out.pr1, (oth_ok HV2.out).1, (oth_ok HV2.out).2.1, by omega, by have := KB.out.2.2; omega⟩ ⟨HV2.out.pr0, HV2.out.pr1, HV2.out.oi0, HV2.out.oi1, KB.out.1, KB.out.2.1⟩).mono ?_; rintro e w7 ⟨rfl, S7, R7, f7, x7⟩
        have Q7 := Q6.one R7 f7 x7
        have z7 := (Q7.al.below.cell (p := ⟨bb, off + i, none⟩) HZ.out.1).trans HZ.out.2
        have F7 : Hid (EvS K w w7 S7 p _ b c y (i : Int) ∧ _ ∧ _) := ⟨Q7, F5.out.1.fix y.pr (oth y) (i : Int) y.oi k1, F5.out.2.fix y.pr (i : Int) y.oi k1⟩
        show K_ _ _
        refine hK.out _ _ ⟨Q7.wi, Q7.ep, z7⟩ (fun hH1 => ?_)
        clear hK K_ hHeld
        have hHeld := hH1
        clear hH1
        try simp only [List.getElem_toArray, List.getElem_cons_succ, List.getElem_cons_zero, Act.put, List.setIfInBounds_toArray, List.set_cons_zero, List.set_cons_succ]
        clear Q6 R7 f7 x7 z7
        refine wpAnyH_done (by kernel_rfl) (NoPanic.normal ?_) _
        clear hHeld Q7 q0 q1 q2 q3 q4 q5 q6 q7
        go_wp2
        go_roundw
        case rel => exact ⟨i + 1, S7, _, (i : Int), HI.out, by simp [EW.out], F7⟩
        case measure => first | exact step_meas16 EW.out (step_less16 HI.out) | (simp [EW.out]; exact step_less16 HI.out) | exact step_less16 HI.out
      · obtain rfl : i = len := Nat.le_antisymm hi (Nat.le_of_not_lt hlt)
        have t1 : decide ((i : Int) < (i : Int)) = false := by simp
        have t2 : decide (i < i) = false := by simp
        clear hlt hi
        have HO := HQ.out.2.2.none (pr := y.pr) (ip := y.ip) (oth_ok HV2.out).2.2
        have HOF : Hid (X.ofI y.pr y.ii y.ip = none) := HO
        have FW : Hid (X.Few 1000) := HQ.out.2.1.mono (Nat.le_trans H30.out (by decide))
        have HE := Lib.hid HQ.out.1
        clear HQ HO
        obtain ⟨_, d0, d1, d2, d3, d4, d5, d6⟩ := id HE.out.wi
        obtain ⟨w1_, w2_, _⟩ := wish_wraps HV2.out
        go_upto_region 14 with fail
        clear d0 d1 d2 d3 d4 d5 d6 t1 t2
        simp only [w2_]
        go_loopw [8, 9, 10, 11, 12, 13] (fun s8 s9 s10 s11 _ _ wr => ∃ k : Nat, k ≤ y.many ∧ s11 = .int .i64 (y.fr + (k : Int)) ∧ s8 = .int .i64 (X.cntFree y k : Int) ∧ s9 = .int .i64 (X.cntEven y k : Int) ∧ s10 = .bool (X.anyOwn y k) ∧ Hid (EvS K w wr S p X b c y j)) (fun _ _ _ s11 _ _ _ => (y.to + 1 - intOf s11).toNat)
        case atStart => exact ⟨0, Nat.zero_le _, by simp, rfl, rfl, rfl, HE⟩
        case round =>
          clear HE
          obtain ⟨k, hk, rfl, rfl, rfl, rfl, HE⟩ := hrel
          obtain ⟨mb0, mb1⟩ := (Wi.wraps HV2.out HM2.out).2.2
          have cf : X.cntFree y k ≤ k := by unfold Po.cntFree; exact Nat.le_trans (List.length_filter_le _ _) (by simp)
          have ce : X.cntEven y k ≤ k := by unfold Po.cntEven; exact Nat.le_trans (List.length_filter_le _ _) (by simp)
          obtain ⟨_, d0, d1, d2, d3, d4, d5, d6⟩ := id HE.out.wi
          by_cases hlt : k < y.many
          · have hin := Po.of_range HM2.out hlt
            obtain ⟨nn, hn⟩ : ∃ nn, nn = y.fr + (k : Int) := ⟨_, rfl⟩
            have HN : Hid (nn = y.fr + (k : Int)) := hn
            rw [← hn] at hin ⊢
            have y1 := HV2.out.to1
            have y2 := HV2.out.fr0
            have y3 := HV2.out.ip0
            have y4 := HV2.out.ip1
            have t1 : decide (nn ≤ y.to) = true := decide_eq_true hin.2
            have t3 : IntKind.u16.wrap nn = nn := by rw [IntKind.wrap_u16]; omega
            have t4 : nn.tmod 2 = nn % 2 := Int.tmod_eq_emod_of_nonneg (by omega)
            have t5 : y.ip.tmod 2 = y.ip % 2 := Int.tmod_eq_emod_of_nonneg y3
            have t6 : wrap64 (nn % 2) = nn % 2 := by rw [IntWalk.wrap64_in _ (by omega)]
            have t7 : wrap64 (y.ip % 2) = y.ip % 2 := by rw [IntWalk.wrap64_in _ (by omega)]
            have t8 : wrap64 y.ip = y.ip := by rw [IntWalk.wrap64_in _ (by omega)]
            have t9 : wrap64 (nn + 1) = nn + 1 := by rw [IntWalk.wrap64_in _ (by omega)]
            have c1_ : wrap64 ((X.cntFree y k : Int) + 1) = (X.cntFree y k : Int) + 1 := by rw [IntWalk.wrap64_in _ (by omega)]
            have c2_ : wrap64 ((X.cntEven y k : Int) + 1) = (X.cntEven y k : Int) + 1 := by rw [IntWalk.wrap64_in _ (by omega)]
            have HI : Hid (k < y.many ∧ nn ≤ y.to) := ⟨hlt, hin.2⟩
            have ko : Hid (∀ u, Below wr.heap.size wr u → Says Try.prog 15 #[.pointer (some ⟨p, 0, none⟩), .int .u8 y.pr, .agg #[.int .u32 y.oi, .int .u16 nn]] u (rowV (X.ofO y.pr y.oi nn))) := fun u hu => K.owners p S X y.pr y.oi nn u (HE.out.on hu).al.rep FW.out ⟨HV2.out.pr0, HV2.out.pr1, HV2.out.oi0, HV2.out.oi1, by omega, by omega⟩
            have hop : X.openAt y k = !(X.ofO y.pr y.oi nn).isSome := by rw [hn]; rfl
            obtain ⟨r, hr⟩ : ∃ r, r = (X.ofO y.pr y.oi nn).getD Ro.zero := ⟨_, rfl⟩
            have kv := ko.out
            unfold rowV at kv
            rw [← hr] at kv
            have KV := Lib.hid kv
            clear y1 y2 y3 y4 hin hlt hk hn cf ce ko kv hr mb0 mb1
            generalize (X.ofO y.pr y.oi nn).isSome = so at KV hop
            go_wp2_with fail
            refine (KV.out _ (Below.refl _ _)).mono ?_; rintro e w5 ⟨rfl, b5⟩
            clear d0 d1 d2 d3 d4 d5 d6
            have E5 := HE.out.on b5
            go_upto_region 17 with fail
            have b6 : Below w5.heap.size w5 (w5.alloc (.cells #[.int .u8 r.pr, .int .u32 r.oi, .int .u16 r.op, .int .u32 r.ii, .int .u16 r.ip, .int .i64 (r.lv : Int), .int .i64 (r.hd : Int)] 44)) := (Below.refl _ _).alloc (Nat.le_refl _) _
            have E6 := Lib.hid (E5.on b6)
            generalize w5.alloc (.cells #[.int .u8 r.pr, .int .u32 r.oi, .int .u16 r.op, .int .u32 r.ii, .int .u16 r.ip, .int .i64 (r.lv : Int), .int .i64 (r.hd : Int)] 44) = w6 at E6 ⊢
            clear b5 b6 E5 HE KV
            obtain ⟨_, d0, d1, d2, d3, d4, d5, d6⟩ := id E6.out.wi
            cases so with
            | true =>
              have h1 := Po.cntFree_no (x := X) (v := y) (k := k) hop
              have h2 := Po.cntEven_no (x := X) (v := y) (k := k) (by rw [hop]; rfl)
              have h3 := Po.anyOwn_succ (x := X) (v := y) (k := k)
              rw [hop] at h3
              have H := Lib.hid (And.intro h1 (And.intro h2 h3))
              clear h1 h2 h3 hop
              go_wp2
              go_roundw
              case rel => exact ⟨k + 1, HI.out.1, by rw [HN.out] at t9 ⊢; simp [t9]; omega, by rw [H.out.1], by rw [H.out.2.1], by rw [H.out.2.2]; simp, E6⟩
              case measure => first | (simp [intOf, t9]; have := HI.out.2; omega) | (have := HI.out.2; simp [intOf]; omega)
            | false =>
              have hop2 : X.openAt y k = true := hop
              have h1 := Po.cntFree_yes (x := X) (v := y) (k := k) hop2
              have h3 := Po.anyOwn_succ (x := X) (v := y) (k := k)
              rw [hop2, Bool.true_and, ← HN.out] at h3
              have H1 := Lib.hid (And.intro h1 h3)
              clear h1 h3 hop
              cases he : (nn % 2 == y.ip % 2) with
              | true =>
                have h2 := Po.cntEven_yes (x := X) (v := y) (k := k) (by rw [hop2, ← HN.out]; exact he)
                have H := Lib.hid h2
                clear h2 hop2
                cases ho : X.anyOwn y k with
                | true =>
                  go_wp2
                  go_roundw
                  case rel => exact ⟨k + 1, HI.out.1, by rw [HN.out] at t9 ⊢; simp [t9]; omega, by rw [H1.out.1]; simp [c1_], by rw [H.out]; simp [c2_], by rw [H1.out.2, ho]; simp, E6⟩
                  case measure => first | (simp [intOf, t9]; have := HI.out.2; omega) | (have := HI.out.2; simp [intOf]; omega)
                | false =>
                  go_wp2
                  go_roundw
                  case rel => exact ⟨k + 1, HI.out.1, by rw [HN.out] at t9 ⊢; simp [t9]; omega, by rw [H1.out.1]; simp [c1_], by rw [H.out]; simp [c2_], by rw [H1.out.2, ho]; simp, E6⟩
                  case measure => first | (simp [intOf, t9]; have := HI.out.2; omega) | (have := HI.out.2; simp [intOf]; omega)
              | false =>
                have h2 := Po.cntEven_no (x := X) (v := y) (k := k) (by rw [hop2, ← HN.out]; exact he)
                have H := Lib.hid h2
                clear h2 hop2
                cases ho : X.anyOwn y k with
                | true =>
                  go_wp2
                  go_roundw
                  case rel => exact ⟨k + 1, HI.out.1, by rw [HN.out] at t9 ⊢; simp [t9]; omega, by rw [H1.out.1]; simp [c1_], by rw [H.out], by rw [H1.out.2, ho]; simp, E6⟩
                  case measure => first | (simp [intOf, t9]; have := HI.out.2; omega) | (have := HI.out.2; simp [intOf]; omega)
                | false =>
                  go_wp2
                  go_roundw
                  case rel => exact ⟨k + 1, HI.out.1, by rw [HN.out] at t9 ⊢; simp [t9]; omega, by rw [H1.out.1]; simp [c1_], by rw [H.out], by rw [H1.out.2, ho]; simp, E6⟩
                  case measure => first | (simp [intOf, t9]; have := HI.out.2; omega) | (have := HI.out.2; simp [intOf]; omega)
          · obtain rfl : k = y.many := Nat.le_antisymm hk (Nat.le_of_not_lt hlt)
            have t1 : decide (y.fr + (y.many : Int) ≤ y.to) = false := decide_eq_false (by unfold Wi.many; have := HM2.out.2; omega)
            clear hlt hk
            have kt := K.takes p S X y wr HE.out.al.rep FW.out HV2.out
            by_cases h0 : X.cntFree y y.many = 0
            · rw [take_full HM2.out HOF.out (Po.free_zero HM2.out HV2.out.dr0 h0)] at kt
              simp only [] at kt
              have hn0 : ((X.cntFree y y.many : Int) == 0) = true := by rw [h0]; rfl
              clear h0 cf ce mb0 mb1
              go_upto_region 23 with (go_at_call 11; refine kt.mono ?_; rintro e w5 ⟨rfl, S5, R5, f5, x5⟩)
              have b6 : Below w5.heap.size w5 (w5.alloc (.cells #[.int .u32 0, .int .u16 0] 34)) := (Below.refl _ _).alloc (Nat.le_refl _) _
              have E6 := Lib.hid ((HE.out.one R5 f5 x5).on b6)
              generalize w5.alloc (.cells #[.int .u32 0, .int .u16 0] 34) = w6 at E6 ⊢
              clear kt R5 f5 x5 b6 HE d0 d1 d2 d3 d4 d5 d6
              go_wp2_with (go_at_call 8; refine (let_ K _).mono ?_; rintro e w7 ⟨rfl, b7⟩)
              go_ret
              exact ⟨rfl, E6.out.al.below.trans (b7.mono E6.out.al.below.size)⟩
            · obtain ⟨kk, hf⟩ := Po.free_more HM2.out HV2.out.dr0 h0
              rw [take_new HM2.out HOF.out hf] at kt
              simp only [] at kt
              have hn0 : ((X.cntFree y y.many : Int) == 0) = false := by rw [beq_eq_false_iff_ne]; omega
              have hin := (Wi.tried_mem HM2.out HV2.out.dr0).1 (Po.free_some hf).1
              have y1 := HV2.out.to1
              have y2 := HV2.out.fr0
              have y3 := HV2.out.ip0
              have u1 : kk.tmod 2 = kk % 2 := Int.tmod_eq_emod_of_nonneg (by omega)
              have u2 : IntKind.u16.wrap (kk % 2) = kk % 2 := by rw [IntKind.wrap_u16]; omega
              have u3 : y.ip.tmod 2 = y.ip % 2 := Int.tmod_eq_emod_of_nonneg y3
              have u4 : IntKind.u16.wrap (y.ip % 2) = y.ip % 2 := by rw [IntKind.wrap_u16]; omega
              have HF := Lib.hid hf
              clear h0 cf ce mb0 mb1 hin y1 y2 y3 hf
              go_upto_region 23 with (go_at_call 11; refine kt.mono ?_; rintro e w5 ⟨rfl, S5, R5, f5, x5⟩)
              have b6 : Below w5.heap.size w5 (w5.alloc (.cells #[.int .u32 y.oi, .int .u16 kk] 34)) := (Below.refl _ _).alloc (Nat.le_refl _) _
              have E6 := Lib.hid ((HE.out.one R5 f5 x5).on b6)
              have G6 := EpB.made w5 y.oi kk 34
              generalize w5.alloc (.cells #[.int .u32 y.oi, .int .u16 kk] 34) = w6 at E6 G6 ⊢
              generalize w5.heap.size = be at G6 ⊢
              clear kt R5 f5 x5 b6 HE d0 d1 d2 d3 d4 d5 d6
              obtain ⟨_, d0, d1, d2, d3, d4, d5, d6⟩ := id E6.out.wi
              obtain ⟨_, g0, g1, _⟩ := id G6
              clear G6
              cases ho : X.anyOwn y y.many with
              | true =>
                have e1 := Po.free_own HM2.out ho
                rw [HF.out] at e1
                injection e1 with e1
                subst e1
                by_cases h2 : X.cntEven y y.many = 0
                · have h3 : ((X.cntEven y y.many : Int) == 0) = true := by rw [h2]; rfl
                  clear h2
                  go_wp2_with (go_at_call 8; refine (let_ K _).mono ?_; rintro e w7 ⟨rfl, b7⟩)
                  go_ret
                  exact ⟨rfl, E6.out.al.below.trans (b7.mono E6.out.al.below.size)⟩
                · have h3 : ((X.cntEven y y.many : Int) == 0) = false := by rw [beq_eq_false_iff_ne]; omega
                  clear h2
                  go_wp2_with (go_at_call 8; refine (let_ K _).mono ?_; rintro e w7 ⟨rfl, b7⟩)
                  go_ret
                  exact ⟨rfl, E6.out.al.below.trans (b7.mono E6.out.al.below.size)⟩
              | false =>
                by_cases h2 : X.cntEven y y.many = 0
                · have h3 : ((X.cntEven y y.many : Int) == 0) = true := by rw [h2]; rfl
                  clear h2
                  go_wp2_with (go_at_call 8; refine (let_ K _).mono ?_; rintro e w7 ⟨rfl, b7⟩)
                  go_ret
                  exact ⟨rfl, E6.out.al.below.trans (b7.mono E6.out.al.below.size)⟩
                · have h3 : ((X.cntEven y y.many : Int) == 0) = false := by rw [beq_eq_false_iff_ne]; omega
                  have h4 : (kk % 2 == y.ip % 2) = true := beq_iff_eq.2 (Po.free_even HM2.out HV2.out.dr0 h2 HF.out)
                  clear h2
                  go_wp2_with (go_at_call 8; refine (let_ K _).mono ?_; rintro e w7 ⟨rfl, b7⟩)
                  go_ret
                  exact ⟨rfl, E6.out.al.below.trans (b7.mono E6.out.al.below.size)⟩
  · have g5 : decide (11 < v.to - v.fr) = false := decide_eq_false hc
    have hcl : v.clip 11 = v := by unfold Wi.clip; rw [if_neg hc]
    go_upto_region 5 with fail
    have QX : Hid (WiB u b (v.clip 11) ∧ Below w.heap.size w u ∧ w.heap.size ≤ b) := by rw [hcl]; exact HA.out
    generalize u = w2 at QX ⊢
    clear HA a0 a1 a2 a3 a4 a5 a6 bf g1 g2 g3 g5 e1 e2 e3 e4 hc hcl
    have HM2 := Lib.hid (clip_may (n := 11) (by decide) HM.out)
    have HV2 := Lib.hid (clip_ok HV.out (n := 11) (by decide))
    generalize v.clip 11 = y at QX HM2 HV2
    go_wp2_with fail
    refine (K.news w2).mono ?_; rintro e w3 ⟨p, S, rfl, b3, hS, R3⟩
    have W3 := QX.out.1.on b3
    have B3 := QX.out.2.1.trans (b3.mono QX.out.2.1.size)
    have P3 : Alone K.toObjP w w3 S p Po.new := ⟨R3, fun k hk => Nat.le_trans QX.out.2.1.size (hS k hk), B3⟩
    have sb : ¬ S b := fun h => absurd QX.out.1.lt (Nat.not_lt_of_le (hS b h))
    have b4 : Below w3.heap.size w3 (w3.alloc (.cells #[.int .u32 (oth y), .int .u16 0] 34)) := (Below.refl _ _).alloc (Nat.le_refl _) _
    have E0 : EvS K w (w3.alloc (.cells #[.int .u32 (oth y), .int .u16 0] 34)) S p Po.new b w3.heap.size y 0 := ⟨P3.on b4, W3.on b4, EpB.made w3 (oth y) 0 _, sb, fun h => Nat.lt_irrefl _ (K.lt R3 _ h), QX.out.2.2, B3.size, Nat.ne_of_lt W3.lt⟩
    obtain ⟨_, a0, a1, a2, a3, a4, a5, a6⟩ := id W3
    have ho : IntKind.u32.wrap (y.ii + 1) = oth y := rfl
    clear b3 hS R3 W3 B3 P3 sb b4
    go_upto_region 8 with fail
    generalize w3.alloc (.cells #[.int .u32 (oth y), .int .u16 0] 34) = w4 at E0 ⊢
    generalize w3.heap.size = c at E0 ⊢
    clear a0 a1 a2 a3 a4 a5 a6 ho
    have L0 : Hid (EvS K w w4 S p Po.new b c y 0 ∧ Po.new.Few 0 ∧ Po.new.only (oth y)) := ⟨E0, Po.Few.new, fun r h => absurd h List.not_mem_nil⟩
    clear E0
    go_loopw [7] (fun si wr => ∃ (i : Nat) (S : Nat → Prop) (X : Po) (j : Int), i ≤ len ∧ si = .int .i64 (i : Int) ∧ Hid (EvS K w wr S p X b c y j ∧ X.Few i ∧ X.only (oth y))) (fun si _ => len - (intOf si).toNat)
    case atStart => exact ⟨0, S, _, 0, Nat.zero_le _, rfl, L0⟩
    case round =>
      clear L0
      obtain ⟨i, S, X, j, hi, rfl, HQ⟩ := hrel
      have EW := Lib.hid (step_16 (j := i) (Nat.lt_of_le_of_lt (Nat.le_trans hi H30.out) (by decide)))
      by_cases hlt : i < len
      · have HI := Lib.hid hlt
        obtain ⟨e10, e12, e13⟩ := ix16 hlt
        obtain ⟨bb, off, ha, hbb, hcl⟩ := HR.out.1.2.resolve_left (Nat.ne_of_gt (Nat.lt_of_le_of_lt (Nat.zero_le i) hlt))
        have hzb := HR.out.2 i hlt
        have hx := hcl i hlt
        obtain ⟨z, hze⟩ : ∃ z, z = l.getD i 0 := ⟨_, rfl⟩
        rw [← hze] at hx hzb
        have HZ : Hid (bb < w.heap.size ∧ w.cell? ⟨bb, off + i, none⟩ = some (.int .u8 z)) := ⟨hbb, hx⟩
        have i30 : i < 30 := Nat.lt_of_lt_of_le hlt H30.out
        have q0 : IntKind.u16.wrap (i : Int) = (i : Int) := by rw [IntKind.wrap_u16]; omega
        obtain ⟨mm, hmm⟩ : ∃ mm, mm = y.to - y.fr + 1 := ⟨_, rfl⟩
        have m1 := HM2.out.1
        have m2 := HM2.out.2
        have m3 := HV2.out.to1
        have t0 := Int.emod_nonneg z (b := mm) (by omega)
        have t1 := Int.emod_lt_of_pos z (b := mm) (by omega)
        have t2 : z % mm ≤ z := by
          rcases Int.lt_or_le z mm with h | h
          · rw [Int.emod_eq_of_lt hzb.1 h]; exact Int.le_refl _
          · omega
        have q1 : IntKind.u16.wrap (y.to - y.fr) = y.to - y.fr := by rw [IntKind.wrap_u16]; omega
        have q2 : IntKind.u16.wrap (y.to - y.fr + 1) = mm := by rw [IntKind.wrap_u16]; omega
        have q3 : ¬ mm = 0 := by omega
        have q4 : IntKind.u16.wrap z = z := by rw [IntKind.wrap_u16]; omega
        obtain ⟨t, ht⟩ : ∃ t, t = z % mm := ⟨_, rfl⟩
        rw [← ht] at t0 t1 t2
        have q5 : z.tmod mm = t := by rw [ht]; exact Int.tmod_eq_emod_of_nonneg hzb.1
        have q6 : IntKind.u16.wrap t = t := by rw [IntKind.wrap_u16]; omega
        obtain ⟨k1, hk1⟩ : ∃ k1, k1 = y.fr + t := ⟨_, rfl⟩
        have q7 : IntKind.u16.wrap (y.fr + t) = k1 := by rw [IntKind.wrap_u16]; omega
        have KB : Hid (0 ≤ k1 ∧ k1 < 65536 ∧ i < 30) := ⟨by omega, by omega, i30⟩
        obtain ⟨_, e0, e1, fr⟩ := id HQ.out.1.ep
        clear hze hx hbb hcl hzb i30 m1 m2 m3 t0 t1 t2 hmm ht hk1 hi hlt
        subst ha
        go_upto_region 11 with fail
        refine ep_port HQ.out.1.ep fun w5 hX bX => ?_
        have Q5 := HQ.out.1.port hX bX
        have z5 := (Q5.al.below.cell (p := ⟨bb, off + i, none⟩) HZ.out.1).trans HZ.out.2
        have F5 := Lib.hid HQ.out.2
        clear e0 e1 fr hX bX HQ
        refine wp_region_noPanic ?_
        refine wp_region_held_drew (S := (fun w' => WiB w' b y ∧ EpB w' c (oth y) (i : Int) ∧ w'.cell? ⟨bb, off + i, none⟩ = some (.int .u8 z))) (by kernel_rfl) ?_ (fun hHeld => ?_)
        · exact ⟨Q5.wi.on (Below.refl _ _).drew, Q5.ep.on (Below.refl _ _).drew, z5⟩
        have Q6 := Q5.on (Below.refl w5.heap.size w5).drew
        generalize w5.drew = w6 at Q6 hHeld ⊢
        clear Q5 z5
        refine wpAnyH_take (i := 0) (oi := _) (v := ?_) rfl (by kernel_rfl) (by kernel_rfl) (by kernel_rfl) (fun _ _ _ h => h) (Or.inl ⟨by kernel_rfl, ?_⟩) (by assumption) ?_
        rotate_left
        · intro w hSw
          clear hSw
          go_simp
          with_reducible rfl
        try simp only [List.getElem_toArray, List.getElem_cons_succ, List.getElem_cons_zero, Act.put, List.setIfInBounds_toArray, List.set_cons_zero, List.set_cons_succ]
        refine wpAnyH_take (i := 1) (oi := _) (v := ?_) rfl (by kernel_rfl) (by kernel_rfl) (by kernel_rfl) (fun _ _ _ h => h) (Or.inl ⟨by kernel_rfl, ?_⟩) (by assumption) ?_
        rotate_left
        · intro w hSw
          clear hSw
          go_simp
          with_reducible rfl
        try simp only [List.getElem_toArray, List.getElem_cons_succ, List.getElem_cons_zero, Act.put, List.setIfInBounds_toArray, List.set_cons_zero, List.set_cons_succ]
        refine wpAnyH_take (i := 2) (oi := _) (v := ?_) rfl (by kernel_rfl) (by kernel_rfl) (by kernel_rfl) (fun _ _ _ h => h) (Or.inl ⟨by kernel_rfl, ?_⟩) (by assumption) ?_
        rotate_left
        · intro w hSw
          obtain ⟨⟨_, d0, d1, d2, d3, d4, d5, d6⟩, ⟨_, e0, e1, _⟩, z0⟩ := hSw
          go_simp
          with_reducible rfl
        try simp only [List.getElem_toArray, List.getElem_cons_succ, List.getElem_cons_zero, Act.put, List.setIfInBounds_toArray, List.set_cons_zero, List.set_cons_succ]
        refine wpAnyH_take (i := 3) (oi := _) (v := ?_) rfl (by kernel_rfl) (by kernel_rfl) (by kernel_rfl) (fun _ _ _ h => h) (Or.inl ⟨by kernel_rfl, ?_⟩) (by assumption) ?_
        rotate_left
        · intro w hSw
          obtain ⟨⟨_, d0, d1, d2, d3, d4, d5, d6⟩, ⟨_, e0, e1, _⟩, z0⟩ := hSw
          go_simp
          with_reducible rfl
        try simp only [List.getElem_toArray, List.getElem_cons_succ, List.getElem_cons_zero, Act.put, List.setIfInBounds_toArray, List.set_cons_zero, List.set_cons_succ]
        refine wpAnyH_take (i := 4) (oi := _) (v := ?_) rfl (by kernel_rfl) (by kernel_rfl) (by kernel_rfl) (fun _ _ _ h => h) (Or.inl ⟨by kernel_rfl, ?_⟩) (by assumption) ?_
        rotate_left
        · intro w hSw
          clear hSw
          go_simp
          with_reducible rfl
        try simp only [List.getElem_toArray, List.getElem_cons_succ, List.getElem_cons_zero, Act.put, List.setIfInBounds_toArray, List.set_cons_zero, List.set_cons_succ]
        refine wpAnyH_take (i := 5) (oi := _) (v := ?_) rfl (by kernel_rfl) (by kernel_rfl) (by kernel_rfl) (fun _ _ _ h => h) (Or.inl ⟨by kernel_rfl, ?_⟩) (by assumption) ?_
        rotate_left
        · intro w hSw
          obtain ⟨⟨_, d0, d1, d2, d3, d4, d5, d6⟩, ⟨_, e0, e1, _⟩, z0⟩ := hSw
          go_simp
          with_reducible rfl
        try simp only [List.getElem_toArray, List.getElem_cons_succ, List.getElem_cons_zero, Act.put, List.setIfInBounds_toArray, List.set_cons_zero, List.set_cons_succ]
        refine wpAnyH_take (i := 6) (oi := _) (v := ?_) rfl (by kernel_rfl) (by kernel_rfl) (by kernel_rfl) (fun _ _ _ h => h) (Or.inl ⟨by kernel_rfl, ?_⟩) (by assumption) ?_
        rotate_left
        · intro w hSw
          clear hSw
          go_simp
          with_reducible rfl
        try simp only [List.getElem_toArray, List.getElem_cons_succ, List.getElem_cons_zero, Act.put, List.setIfInBounds_toArray, List.set_cons_zero, List.set_cons_succ]
        refine wpAnyH_take (i := 7) (oi := _) (v := ?_) rfl (by kernel_rfl) (by kernel_rfl) (by kernel_rfl) (fun _ _ _ h => h) (Or.inl ⟨by kernel_rfl, ?_⟩) (by assumption) ?_
        rotate_left
        · intro w hSw
          obtain ⟨⟨_, d0, d1, d2, d3, d4, d5, d6⟩, ⟨_, e0, e1, _⟩, z0⟩ := hSw
          go_simp
          with_reducible rfl
        try simp only [List.getElem_toArray, List.getElem_cons_succ, List.getElem_cons_zero, Act.put, List.setIfInBounds_toArray, List.set_cons_zero, List.set_cons_succ]
        refine wpAnyH_take (i := 8) (oi := _) (v := ?_) rfl (by kernel_rfl) (by kernel_rfl) (by kernel_rfl) (fun _ _ _ h => h) (Or.inl ⟨by kernel_rfl, ?_⟩) (by assumption) ?_
        rotate_left
        · intro w hSw
          clear hSw
          go_simp
          with_reducible rfl
        try simp only [List.getElem_toArray, List.getElem_cons_succ, List.getElem_cons_zero, Act.put, List.setIfInBounds_toArray, List.set_cons_zero, List.set_cons_succ]
        refine wpAnyH_take (i := 9) (oi := _) (v := ?_) rfl (by kernel_rfl) (by kernel_rfl) (by kernel_rfl) (fun _ _ _ h => h) (Or.inl ⟨by kernel_rfl, ?_⟩) (by assumption) ?_
        rotate_left
        · intro w hSw
          clear hSw
          go_simp
          with_reducible rfl
        try simp only [List.getElem_toArray, List.getElem_cons_succ, List.getElem_cons_zero, Act.put, List.setIfInBounds_toArray, List.set_cons_zero, List.set_cons_succ]
        refine wpAnyH_take (i := 10) (oi := _) (v := ?_) rfl (by kernel_rfl) (by kernel_rfl) (by kernel_rfl) (fun _ _ _ h => h) (Or.inl ⟨by kernel_rfl, ?_⟩) (by assumption) ?_
        rotate_left
        · intro w hSw
          clear hSw
          go_simp
          with_reducible rfl
        try simp only [List.getElem_toArray, List.getElem_cons_succ, List.getElem_cons_zero, Act.put, List.setIfInBounds_toArray, List.set_cons_zero, List.set_cons_succ]
        refine wpAnyH_take (i := 11) (oi := _) (v := ?_) rfl (by kernel_rfl) (by kernel_rfl) (by kernel_rfl) (fun _ _ _ h => h) (Or.inl ⟨by kernel_rfl, ?_⟩) (by assumption) ?_
        rotate_left
        · intro w hSw
          obtain ⟨⟨_, d0, d1, d2, d3, d4, d5, d6⟩, ⟨_, e0, e1, _⟩, z0⟩ := hSw
          go_simp
          with_reducible rfl
        try simp only [List.getElem_toArray, List.getElem_cons_succ, List.getElem_cons_zero, Act.put, List.setIfInBounds_toArray, List.set_cons_zero, List.set_cons_succ]
        refine wpAnyH_take (i := 12) (oi := _) (v := ?_) rfl (by kernel_rfl) (by kernel_rfl) (by kernel_rfl) (fun _ _ _ h => h) (Or.inl ⟨by kernel_rfl, ?_⟩) (by assumption) ?_
        rotate_left
        · intro w hSw
          clear hSw
          go_simp
          with_reducible rfl
        try simp only [List.getElem_toArray, List.getElem_cons_succ, List.getElem_cons_zero, Act.put, List.setIfInBounds_toArray, List.set_cons_zero, List.set_cons_succ]
        refine wpAnyH_take (i := 13) (oi := _) (v := ?_) rfl (by kernel_rfl) (by kernel_rfl) (by kernel_rfl) (fun _ _ _ h => h) (Or.inl ⟨by kernel_rfl, ?_⟩) (by assumption) ?_
        rotate_left
        · intro w hSw
          clear hSw
          go_simp
          with_reducible rfl
        try simp only [List.getElem_toArray, List.getElem_cons_succ, List.getElem_cons_zero, Act.put, List.setIfInBounds_toArray, List.set_cons_zero, List.set_cons_succ]
        refine wpAnyH_take (i := 14) (oi := _) (v := ?_) rfl (by kernel_rfl) (by kernel_rfl) (by kernel_rfl) (fun _ _ _ h => h) (Or.inl ⟨by kernel_rfl, ?_⟩) (by assumption) ?_
        rotate_left
        · intro w hSw
          obtain ⟨⟨_, d0, d1, d2, d3, d4, d5, d6⟩, ⟨_, e0, e1, _⟩, z0⟩ := hSw
          go_simp
          with_reducible rfl
        try simp only [List.getElem_toArray, List.getElem_cons_succ, List.getElem_cons_zero, Act.put, List.setIfInBounds_toArray, List.set_cons_zero, List.set_cons_succ]
        refine wpAnyH_take (i := 15) (oi := _) (v := ?_) rfl (by kernel_rfl) (by kernel_rfl) (by kernel_rfl) (fun _ _ _ h => h) (Or.inl ⟨by kernel_rfl, ?_⟩) (by assumption) ?_
        rotate_left
        · intro w hSw
          clear hSw
          go_simp
          with_reducible rfl
        try simp only [List.getElem_toArray, List.getElem_cons_succ, List.getElem_cons_zero, Act.put, List.setIfInBounds_toArray, List.set_cons_zero, List.set_cons_succ]
        refine wpAnyH_take (i := 16) (oi := _) (v := ?_) rfl (by kernel_rfl) (by kernel_rfl) (by kernel_rfl) (fun _ _ _ h => h) (Or.inl ⟨by kernel_rfl, ?_⟩) (by assumption) ?_
        rotate_left
        · intro w hSw
          obtain ⟨⟨_, d0, d1, d2, d3, d4, d5, d6⟩, ⟨_, e0, e1, _⟩, z0⟩ := hSw
          go_simp
          with_reducible rfl
        try simp only [List.getElem_toArray, List.getElem_cons_succ, List.getElem_cons_zero, Act.put, List.setIfInBounds_toArray, List.set_cons_zero, List.set_cons_succ]
        refine wpAnyH_take (i := 17) (oi := _) (v := ?_) rfl (by kernel_rfl) (by kernel_rfl) (by kernel_rfl) (fun _ _ _ h => h) (Or.inl ⟨by kernel_rfl, ?_⟩) (by assumption) ?_
        rotate_left
        · intro w hSw
          clear hSw
          go_simp
          with_reducible rfl
        try simp only [List.getElem_toArray, List.getElem_cons_succ, List.getElem_cons_zero, Act.put, List.setIfInBounds_toArray, List.set_cons_zero, List.set_cons_succ]
        refine wpAnyH_take (i := 18) (oi := _) (v := ?_) rfl (by kernel_rfl) (by kernel_rfl) (by kernel_rfl) (fun _ _ _ h => h) (Or.inl ⟨by kernel_rfl, ?_⟩) (by assumption) ?_
        rotate_left
        · intro w hSw
          clear hSw
          go_simp
          with_reducible rfl
        try simp only [List.getElem_toArray, List.getElem_cons_succ, List.getElem_cons_zero, Act.put, List.setIfInBounds_toArray, List.set_cons_zero, List.set_cons_succ]
        refine wpAnyH_take (i := 19) (oi := _) (v := ?_) rfl (by kernel_rfl) (by kernel_rfl) (by kernel_rfl) (fun _ _ _ h => h) (Or.inl ⟨by kernel_rfl, ?_⟩) (by assumption) ?_
        rotate_left
        · intro w hSw
          clear hSw
          go_simp
          with_reducible rfl
        try simp only [List.getElem_toArray, List.getElem_cons_succ, List.getElem_cons_zero, Act.put, List.setIfInBounds_toArray, List.set_cons_zero, List.set_cons_succ]
        refine wpAnyH_take (i := 20) (oi := _) (v := ?_) rfl (by kernel_rfl) (by kernel_rfl) (by kernel_rfl) (fun _ _ _ h => h) (Or.inl ⟨by kernel_rfl, ?_⟩) (by assumption) ?_
        rotate_left
        · intro w hSw
          clear hSw
          go_simp
          with_reducible rfl
        try simp only [List.getElem_toArray, List.getElem_cons_succ, List.getElem_cons_zero, Act.put, List.setIfInBounds_toArray, List.set_cons_zero, List.set_cons_succ]
        refine wpAnyH_take (i := 21) (oi := _) (v := ?_) rfl (by kernel_rfl) (by kernel_rfl) (by kernel_rfl) (fun _ _ _ h => h) (Or.inl ⟨by kernel_rfl, ?_⟩) (by assumption) ?_
        rotate_left
        · intro w hSw
          clear hSw
          go_simp
          with_reducible rfl
        try simp only [List.getElem_toArray, List.getElem_cons_succ, List.getElem_cons_zero, Act.put, List.setIfInBounds_toArray, List.set_cons_zero, List.set_cons_succ]
        refine wpAnyH_ready (rs := [22]) (by kernel_rfl) (by simp) ?_
        refine AllReadyH.cons (o := _) rfl (fun K_ hK => ?_) AllReadyH.nil
        go_simp
        refine (K.fixes p S X y.pr (oth y) (i : Int) y.oi k1 w6 Q6.al.rep (F5.out.1.mono (by have := KB.out.2.2; omega)) ⟨HV2.out.pr0, HV2.out.pr1, (oth_ok HV2.out).1, (oth_ok HV2.out).2.1, by omega, by have := KB.out.2.2; omega⟩ ⟨HV2.out.pr0, HV2.out.pr1, HV2.out.oi0, HV2.out.oi1, KB.out.1, KB.out.2.1⟩).mono ?_; rintro e w7 ⟨rfl, S7, R7, f7, x7⟩
        have Q7 := Q6.one R7 f7 x7
        have z7 := (Q7.al.below.cell (p := ⟨bb, off + i, none⟩) HZ.out.1).trans HZ.out.2
        have F7 : Hid (EvS K w w7 S7 p _ b c y (i : Int) ∧ _ ∧ _) := ⟨Q7, F5.out.1.fix y.pr (oth y) (i : Int) y.oi k1, F5.out.2.fix y.pr (i : Int) y.oi k1⟩
        show K_ _ _
        refine hK.out _ _ ⟨Q7.wi, Q7.ep, z7⟩ (fun hH1 => ?_)
        clear hK K_ hHeld
        have hHeld := hH1
        clear hH1
        try simp only [List.getElem_toArray, List.getElem_cons_succ, List.getElem_cons_zero, Act.put, List.setIfInBounds_toArray, List.set_cons_zero, List.set_cons_succ]
        clear Q6 R7 f7 x7 z7
        refine wpAnyH_done (by kernel_rfl) (NoPanic.normal ?_) _
        clear hHeld Q7 q0 q1 q2 q3 q4 q5 q6 q7
        go_wp2
        go_roundw
        case rel => exact ⟨i + 1, S7, _, (i : Int), HI.out, by simp [EW.out], F7⟩
        case measure => first | exact step_meas16 EW.out (step_less16 HI.out) | (simp [EW.out]; exact step_less16 HI.out) | exact step_less16 HI.out
      · obtain rfl : i = len := Nat.le_antisymm hi (Nat.le_of_not_lt hlt)
        have t1 : decide ((i : Int) < (i : Int)) = false := by simp
        have t2 : decide (i < i) = false := by simp
        clear hlt hi
        have HO := HQ.out.2.2.none (pr := y.pr) (ip := y.ip) (oth_ok HV2.out).2.2
        have HOF : Hid (X.ofI y.pr y.ii y.ip = none) := HO
        have FW : Hid (X.Few 1000) := HQ.out.2.1.mono (Nat.le_trans H30.out (by decide))
        have HE := Lib.hid HQ.out.1
        clear HQ HO
        obtain ⟨_, d0, d1, d2, d3, d4, d5, d6⟩ := id HE.out.wi
        obtain ⟨w1_, w2_, _⟩ := wish_wraps HV2.out
        go_upto_region 14 with fail
        clear d0 d1 d2 d3 d4 d5 d6 t1 t2
        simp only [w2_]
        go_loopw [8, 9, 10, 11, 12, 13] (fun s8 s9 s10 s11 _ _ wr => ∃ k : Nat, k ≤ y.many ∧ s11 = .int .i64 (y.fr + (k : Int)) ∧ s8 = .int .i64 (X.cntFree y k : Int) ∧ s9 = .int .i64 (X.cntEven y k : Int) ∧ s10 = .bool (X.anyOwn y k) ∧ Hid (EvS K w wr S p X b c y j)) (fun _ _ _ s11 _ _ _ => (y.to + 1 - intOf s11).toNat)
        case atStart => exact ⟨0, Nat.zero_le _, by simp, rfl, rfl, rfl, HE⟩
        case round =>
          clear HE
          obtain ⟨k, hk, rfl, rfl, rfl, rfl, HE⟩ := hrel
          obtain ⟨mb0, mb1⟩ := (Wi.wraps HV2.out HM2.out).2.2
          have cf : X.cntFree y k ≤ k := by unfold Po.cntFree; exact Nat.le_trans (List.length_filter_le _ _) (by simp)
          have ce : X.cntEven y k ≤ k := by unfold Po.cntEven; exact Nat.le_trans (List.length_filter_le _ _) (by simp)
          obtain ⟨_, d0, d1, d2, d3, d4, d5, d6⟩ := id HE.out.wi
          by_cases hlt : k < y.many
          · have hin := Po.of_range HM2.out hlt
            obtain ⟨nn, hn⟩ : ∃ nn, nn = y.fr + (k : Int) := ⟨_, rfl⟩
            have HN : Hid (nn = y.fr + (k : Int)) := hn
            rw [← hn] at hin ⊢
            have y1 := HV2.out.to1
            have y2 := HV2.out.fr0
            have y3 := HV2.out.ip0
            have y4 := HV2.out.ip1
            have t1 : decide (nn ≤ y.to) = true := decide_eq_true hin.2
            have t3 : IntKind.u16.wrap nn = nn := by rw [IntKind.wrap_u16]; omega
            have t4 : nn.tmod 2 = nn % 2 := Int.tmod_eq_emod_of_nonneg (by omega)
            have t5 : y.ip.tmod 2 = y.ip % 2 := Int.tmod_eq_emod_of_nonneg y3
            have t6 : wrap64 (nn % 2) = nn % 2 := by rw [IntWalk.wrap64_in _ (by omega)]
            have t7 : wrap64 (y.ip % 2) = y.ip % 2 := by rw [IntWalk.wrap64_in _ (by omega)]
            have t8 : wrap64 y.ip = y.ip := by rw [IntWalk.wrap64_in _ (by omega)]
            have t9 : wrap64 (nn + 1) = nn + 1 := by rw [IntWalk.wrap64_in _ (by omega)]
            have c1_ : wrap64 ((X.cntFree y k : Int) + 1) = (X.cntFree y k : Int) + 1 := by rw [IntWalk.wrap64_in _ (by omega)]
            have c2_ : wrap64 ((X.cntEven y k : Int) + 1) = (X.cntEven y k : Int) + 1 := by rw [IntWalk.wrap64_in _ (by omega)]
            have HI : Hid (k < y.many ∧ nn ≤ y.to) := ⟨hlt, hin.2⟩
            have ko : Hid (∀ u, Below wr.heap.size wr u → Says Try.prog 15 #[.pointer (some ⟨p, 0, none⟩), .int .u8 y.pr, .agg #[.int .u32 y.oi, .int .u16 nn]] u (rowV (X.ofO y.pr y.oi nn))) := fun u hu => K.owners p S X y.pr y.oi nn u (HE.out.on hu).al.rep FW.out ⟨HV2.out.pr0, HV2.out.pr1, HV2.out.oi0, HV2.out.oi1, by omega, by omega⟩
            have hop : X.openAt y k = !(X.ofO y.pr y.oi nn).isSome := by rw [hn]; rfl
            obtain ⟨r, hr⟩ : ∃ r, r = (X.ofO y.pr y.oi nn).getD Ro.zero := ⟨_, rfl⟩
            have kv := ko.out
            unfold rowV at kv
            rw [← hr] at kv
            have KV := Lib.hid kv
            clear y1 y2 y3 y4 hin hlt hk hn cf ce ko kv hr mb0 mb1
            generalize (X.ofO y.pr y.oi nn).isSome = so at KV hop
            go_wp2_with fail
            refine (KV.out _ (Below.refl _ _)).mono ?_; rintro e w5 ⟨rfl, b5⟩
            clear d0 d1 d2 d3 d4 d5 d6
            have E5 := HE.out.on b5
            go_upto_region 17 with fail
            have b6 : Below w5.heap.size w5 (w5.alloc (.cells #[.int .u8 r.pr, .int .u32 r.oi, .int .u16 r.op, .int .u32 r.ii, .int .u16 r.ip, .int .i64 (r.lv : Int), .int .i64 (r.hd : Int)] 44)) := (Below.refl _ _).alloc (Nat.le_refl _) _
            have E6 := Lib.hid (E5.on b6)
            generalize w5.alloc (.cells #[.int .u8 r.pr, .int .u32 r.oi, .int .u16 r.op, .int .u32 r.ii, .int .u16 r.ip, .int .i64 (r.lv : Int), .int .i64 (r.hd : Int)] 44) = w6 at E6 ⊢
            clear b5 b6 E5 HE KV
            obtain ⟨_, d0, d1, d2, d3, d4, d5, d6⟩ := id E6.out.wi
            cases so with
            | true =>
              have h1 := Po.cntFree_no (x := X) (v := y) (k := k) hop
              have h2 := Po.cntEven_no (x := X) (v := y) (k := k) (by rw [hop]; rfl)
              have h3 := Po.anyOwn_succ (x := X) (v := y) (k := k)
              rw [hop] at h3
              have H := Lib.hid (And.intro h1 (And.intro h2 h3))
              clear h1 h2 h3 hop
              go_wp2
              go_roundw
              case rel => exact ⟨k + 1, HI.out.1, by rw [HN.out] at t9 ⊢; simp [t9]; omega, by rw [H.out.1], by rw [H.out.2.1], by rw [H.out.2.2]; simp, E6⟩
              case measure => first | (simp [intOf, t9]; have := HI.out.2; omega) | (have := HI.out.2; simp [intOf]; omega)
            | false =>
              have hop2 : X.openAt y k = true := hop
              have h1 := Po.cntFree_yes (x := X) (v := y) (k := k) hop2
              have h3 := Po.anyOwn_succ (x := X) (v := y) (k := k)
              rw [hop2, Bool.true_and, ← HN.out] at h3
              have H1 := Lib.hid (And.intro h1 h3)
              clear h1 h3 hop
              cases he : (nn % 2 == y.ip % 2) with
              | true =>
                have h2 := Po.cntEven_yes (x := X) (v := y) (k := k) (by rw [hop2, ← HN.out]; exact he)
                have H := Lib.hid h2
                clear h2 hop2
                cases ho : X.anyOwn y k with
                | true =>
                  go_wp2
                  go_roundw
                  case rel => exact ⟨k + 1, HI.out.1, by rw [HN.out] at t9 ⊢; simp [t9]; omega, by rw [H1.out.1]; simp [c1_], by rw [H.out]; simp [c2_], by rw [H1.out.2, ho]; simp, E6⟩
                  case measure => first | (simp [intOf, t9]; have := HI.out.2; omega) | (have := HI.out.2; simp [intOf]; omega)
                | false =>
                  go_wp2
                  go_roundw
                  case rel => exact ⟨k + 1, HI.out.1, by rw [HN.out] at t9 ⊢; simp [t9]; omega, by rw [H1.out.1]; simp [c1_], by rw [H.out]; simp [c2_], by rw [H1.out.2, ho]; simp, E6⟩
                  case measure => first | (simp [intOf, t9]; have := HI.out.2; omega) | (have := HI.out.2; simp [intOf]; omega)
              | false =>
                have h2 := Po.cntEven_no (x := X) (v := y) (k := k) (by rw [hop2, ← HN.out]; exact he)
                have H := Lib.hid h2
                clear h2 hop2
                cases ho : X.anyOwn y k with
                | true =>
                  go_wp2
                  go_roundw
                  case rel => exact ⟨k + 1, HI.out.1, by rw [HN.out] at t9 ⊢; simp [t9]; omega, by rw [H1.out.1]; simp [c1_], by rw [H.out], by rw [H1.out.2, ho]; simp, E6⟩
                  case measure => first | (simp [intOf, t9]; have := HI.out.2; omega) | (have := HI.out.2; simp [intOf]; omega)
                | false =>
                  go_wp2
                  go_roundw
                  case rel => exact ⟨k + 1, HI.out.1, by rw [HN.out] at t9 ⊢; simp [t9]; omega, by rw [H1.out.1]; simp [c1_], by rw [H.out], by rw [H1.out.2, ho]; simp, E6⟩
                  case measure => first | (simp [intOf, t9]; have := HI.out.2; omega) | (have := HI.out.2; simp [intOf]; omega)
          · obtain rfl : k = y.many := Nat.le_antisymm hk (Nat.le_of_not_lt hlt)
            have t1 : decide (y.fr + (y.many : Int) ≤ y.to) = false := decide_eq_false (by unfold Wi.many; have := HM2.out.2; omega)
            clear hlt hk
            have kt := K.takes p S X y wr HE.out.al.rep FW.out HV2.out
            by_cases h0 : X.cntFree y y.many = 0
            · rw [take_full HM2.out HOF.out (Po.free_zero HM2.out HV2.out.dr0 h0)] at kt
              simp only [] at kt
              have hn0 : ((X.cntFree y y.many : Int) == 0) = true := by rw [h0]; rfl
              clear h0 cf ce mb0 mb1
              go_upto_region 23 with (go_at_call 11; refine kt.mono ?_; rintro e w5 ⟨rfl, S5, R5, f5, x5⟩)
              have b6 : Below w5.heap.size w5 (w5.alloc (.cells #[.int .u32 0, .int .u16 0] 34)) := (Below.refl _ _).alloc (Nat.le_refl _) _
              have E6 := Lib.hid ((HE.out.one R5 f5 x5).on b6)
              generalize w5.alloc (.cells #[.int .u32 0, .int .u16 0] 34) = w6 at E6 ⊢
              clear kt R5 f5 x5 b6 HE d0 d1 d2 d3 d4 d5 d6
              go_wp2_with (go_at_call 8; refine (let_ K _).mono ?_; rintro e w7 ⟨rfl, b7⟩)
              go_ret
              exact ⟨rfl, E6.out.al.below.trans (b7.mono E6.out.al.below.size)⟩
            · obtain ⟨kk, hf⟩ := Po.free_more HM2.out HV2.out.dr0 h0
              rw [take_new HM2.out HOF.out hf] at kt
              simp only [] at kt
              have hn0 : ((X.cntFree y y.many : Int) == 0) = false := by rw [beq_eq_false_iff_ne]; omega
              have hin := (Wi.tried_mem HM2.out HV2.out.dr0).1 (Po.free_some hf).1
              have y1 := HV2.out.to1
              have y2 := HV2.out.fr0
              have y3 := HV2.out.ip0
              have u1 : kk.tmod 2 = kk % 2 := Int.tmod_eq_emod_of_nonneg (by omega)
              have u2 : IntKind.u16.wrap (kk % 2) = kk % 2 := by rw [IntKind.wrap_u16]; omega
              have u3 : y.ip.tmod 2 = y.ip % 2 := Int.tmod_eq_emod_of_nonneg y3
              have u4 : IntKind.u16.wrap (y.ip % 2) = y.ip % 2 := by rw [IntKind.wrap_u16]; omega
              have HF := Lib.hid hf
              clear h0 cf ce mb0 mb1 hin y1 y2 y3 hf
              go_upto_region 23 with (go_at_call 11; refine kt.mono ?_; rintro e w5 ⟨rfl, S5, R5, f5, x5⟩)
              have b6 : Below w5.heap.size w5 (w5.alloc (.cells #[.int .u32 y.oi, .int .u16 kk] 34)) := (Below.refl _ _).alloc (Nat.le_refl _) _
              have E6 := Lib.hid ((HE.out.one R5 f5 x5).on b6)
              have G6 := EpB.made w5 y.oi kk 34
              generalize w5.alloc (.cells #[.int .u32 y.oi, .int .u16 kk] 34) = w6 at E6 G6 ⊢
              generalize w5.heap.size = be at G6 ⊢
              clear kt R5 f5 x5 b6 HE d0 d1 d2 d3 d4 d5 d6
              obtain ⟨_, d0, d1, d2, d3, d4, d5, d6⟩ := id E6.out.wi
              obtain ⟨_, g0, g1, _⟩ := id G6
              clear G6
              cases ho : X.anyOwn y y.many with
              | true =>
                have e1 := Po.free_own HM2.out ho
                rw [HF.out] at e1
                injection e1 with e1
                subst e1
                by_cases h2 : X.cntEven y y.many = 0
                · have h3 : ((X.cntEven y y.many : Int) == 0) = true := by rw [h2]; rfl
                  clear h2
                  go_wp2_with (go_at_call 8; refine (let_ K _).mono ?_; rintro e w7 ⟨rfl, b7⟩)
                  go_ret
                  exact ⟨rfl, E6.out.al.below.trans (b7.mono E6.out.al.below.size)⟩
                · have h3 : ((X.cntEven y y.many : Int) == 0) = false := by rw [beq_eq_false_iff_ne]; omega
                  clear h2
                  go_wp2_with (go_at_call 8; refine (let_ K _).mono ?_; rintro e w7 ⟨rfl, b7⟩)
                  go_ret
                  exact ⟨rfl, E6.out.al.below.trans (b7.mono E6.out.al.below.size)⟩
              | false =>
                by_cases h2 : X.cntEven y y.many = 0
                · have h3 : ((X.cntEven y y.many : Int) == 0) = true := by rw [h2]; rfl
                  clear h2
                  go_wp2_with (go_at_call 8; refine (let_ K _).mono ?_; rintro e w7 ⟨rfl, b7⟩)
                  go_ret
                  exact ⟨rfl, E6.out.al.below.trans (b7.mono E6.out.al.below.size)⟩
                · have h3 : ((X.cntEven y y.many : Int) == 0) = false := by rw [beq_eq_false_iff_ne]; omega
                  have h4 : (kk % 2 == y.ip % 2) = true := beq_iff_eq.2 (Po.free_even HM2.out HV2.out.dr0 h2 HF.out)
                  clear h2
                  go_wp2_with (go_at_call 8; refine (let_ K _).mono ?_; rintro e w7 ⟨rfl, b7⟩)
                  go_ret
                  exact ⟨rfl, E6.out.al.below.trans (b7.mono E6.out.al.below.size)⟩
theorem walk_ (K : PortsOk) (z0 z1 z2 z3 z4 z5 z6 : Int) (a : Option Addr) (len cap : Nat) (zs : List Int) (w : World) (w0 : (Lit.int .u8 z0).wf = true) (w1 : (Lit.int .u32 z1).wf = true) (w2 : (Lit.int .u16 z2).wf = true) (w3 : (Lit.int .u32 z3).wf = true) (w4 : (Lit.int .u16 z4).wf = true) (w5 : (Lit.int .u16 z5).wf = true) (w6 : (Lit.int .u16 z6).wf = true) (hr : IsRow .u8 w a len cap zs) :
    Calls Try.prog 7 #[.agg #[.int .u8 z0, .int .u32 z1, .int .u16 z2, .int .u32 z3, .int .u16 z4, .int .u16 z5, .int .u16 z6], .slice a len cap] w fun e w' => e = .returned (.bool true) ∧ Below w.heap.size w w' := by
  have k0 := bounds_u8 w0
  have k1 := bounds_u32 w1
  have k2 := bounds_u16 w2
  have k3 := bounds_u32 w3
  have k4 := bounds_u16 w4
  have k5 := bounds_u16 w5
  have k6 := bounds_u16 w6
  refine run_ K ⟨z0, z1, z2, z3, z4, z5, z6⟩ ⟨?_, ?_, ?_, ?_, ?_, ?_, ?_, ?_, ?_, ?_, ?_, ?_, ?_, ?_⟩ a len cap (zs.take len) w hr.row fun i hi => ?_
  all_goals first | (simp only []; omega) | skip
  have hl := hr.row.1
  have e : (zs.take len).getD i 0 = (zs.take len)[i]'(by rw [hl]; exact hi) := by rw [List.getD_eq_getElem?_getD, List.getElem?_eq_getElem (by rw [hl]; exact hi)]; rfl
  have h := bounds_u8 (hr.wf _ (List.getElem_mem (by rw [hl]; exact hi)))
  rw [e]
  omega
end PortsEven
end Go.Proofs.Ytbbadpidolfleaa
