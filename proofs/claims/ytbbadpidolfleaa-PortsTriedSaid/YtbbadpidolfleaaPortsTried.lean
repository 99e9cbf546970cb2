/- PortsTried (layer 16): its walk. Written by gen_portstried.py. -/
import Derived.Test.YtbbadpidolfleaaPoTr
import Derived.Test.YtbbadpidolfleaaPortsEven
import Derived.Test.YtbbadpidolfleaaPoS
import Derived.Deep.CutBlock
namespace Go.Proofs.Ytbbadpidolfleaa
set_option linter.unusedVariables false
set_option maxRecDepth 100000
set_option linter.unusedSimpArgs false
open Go.ChangeShapes Go.WideShapes Go.ChangeAt Go.RowKit Go.PlainAid
attribute [local go_sem ↓] Go.wp_at_zero Go.wp_at_succ
/-- The first number of an endpoint is another one. -/
theorem ep_ip {W : World} {b : Nat} {i j p : Int} {M : World → Prop} (h : EpB W b i p) (k : ∀ X : World, EpB X b j p → Beside (fun k => k = b) W X → M X) : M (W.setCell ⟨b, 0, none⟩ (.int .u32 j)) := by
  have c0 := h.c0
  have c1 := h.c1
  exact k _ ⟨by simpa [World.setCell] using h.lt, by simp [go_sem, c0], by simp [go_sem, c0, c1], fun j => by rw [World.frozen?_setCell]; exact h.fr j⟩ ((Beside.refl (fun k => k = b) W).setCell (p := ⟨b, 0, none⟩) rfl _)
/-- What PortsTried has in memory, while ports are taken. -/
structure TrdS (K : PortsOk) (w0 w : World) (S : Nat → Prop) (p : Nat) (X : Po) (b c : Nat) (v : Wi) (h : Int) : Prop where
  al : Alone K.toObjP w0 w S p X
  wi : WiB w b v
  ep : EpB w c h v.ip
  sb : ¬ S b
  sc : ¬ S c
  wb : w0.heap.size ≤ b
  wc : w0.heap.size ≤ c
  bc : b ≠ c
/-- And then. -/
structure TrdT (K : PortsOk) (w0 w : World) (S : Nat → Prop) (p : Nat) (X : Po) (b d : Nat) (v : Wi) (ri rp : Int) : Prop where
  al : Alone K.toObjP w0 w S p X
  wi : WiB w b v
  out : EpB w d ri rp
/-- With the ports. -/
structure TrdL (K : PortsOk) (w0 w : World) (S : Nat → Prop) (p : Nat) (X : Po) (b d : Nat) (v : Wi) (ri rp : Int) (B g c : Nat) : Prop where
  tt : TrdT K w0 w S p X b d v ri rp
  own : eltU.Own w B (.slice (some ⟨g, 0, none⟩) v.tried.length c) v.tried
section
variable {K : PortsOk} {w0 w w' : World} {S S' : Nat → Prop} {p b c d : Nat} {X X' : Po} {v : Wi} {h h' ri rp : Int}
theorem TrdS.on (q : TrdS K w0 w S p X b c v h) (x : Below w.heap.size w w') : TrdS K w0 w' S p X b c v h := ⟨q.al.on x, q.wi.on x, q.ep.on x, q.sb, q.sc, q.wb, q.wc, q.bc⟩
theorem TrdS.one (q : TrdS K w0 w S p X b c v h) (hr : K.toObjP.Rep w' S' p X') (hf : Fresh w S S') (x : Beside S w w') : TrdS K w0 w' S' p X' b c v h :=
  ⟨q.al.one hr hf x, q.wi.keep x.size (x.block b q.wi.lt q.sb), q.ep.by x q.sc, hf.not q.wi.lt q.sb, hf.not q.ep.lt q.sc, q.wb, q.wc, q.bc⟩
theorem TrdS.next (q : TrdS K w0 w S p X b c v h) (he : EpB w' c h' v.ip) (x : Beside (fun k => k = c) w w') : TrdS K w0 w' S p X b c v h' :=
  ⟨q.al.by x (fun k hk e => q.sc (e ▸ hk)) (fun k e => e ▸ q.wc), q.wi.keep x.size (x.block b q.wi.lt q.bc), he, q.sb, q.sc, q.wb, q.wc, q.bc⟩
theorem TrdT.on (q : TrdT K w0 w S p X b d v ri rp) (x : Below w.heap.size w w') : TrdT K w0 w' S p X b d v ri rp := ⟨q.al.on x, q.wi.on x, q.out.on x⟩
theorem TrdL.on {B g c : Nat} (q : TrdL K w0 w S p X b d v ri rp B g c) (x : Below w.heap.size w w') : TrdL K w0 w' S p X b d v ri rp B g c := ⟨q.tt.on x, q.own.on x⟩
end
/-- The ports that are tried, as a slice. -/
theorem tried_form {v : Wi} (hv : WOk v) (hm : v.may) {w : World} {B : Nat} {l : Value} (ho : eltU.Own w B l v.tried) : ∃ g cap, l = .slice (some ⟨g, 0, none⟩) v.tried.length cap ∧ B ≤ g ∧ g < w.heap.size ∧ 0 < v.tried.length := by
  have hpos : 0 < v.tried.length := by
    have h3 := (Wi.wraps hv hm).2.2.1
    have h5 : v.round.length = v.many := by unfold Wi.round; simp
    unfold Wi.tried
    rw [List.length_append, List.length_append]
    omega
  obtain ⟨hlen, ⟨_, h0⟩ | ⟨g, cap, cur, hl, hg, hb, hcap, hmax, hcur, htake⟩⟩ := id ho
  · omega
  · subst hl
    have := ho.lt g rfl
    exact ⟨g, cap, rfl, this.1, this.2, hpos⟩
theorem tried_many {v : Wi} (hv : WOk v) (hm : v.may) : v.tried.length ≤ 200000 := by
  have h2 : v.round.length = v.many := by unfold Wi.round; simp
  have h3 := (Wi.wraps hv hm).2.2.2
  have h4 := Wi.pre_len (w := v) h3 v.many v.many
  rw [Wi.take_all] at h4
  exact h4
theorem ix_mod {z : Int} {N : Nat} (hz : 0 ≤ z ∧ z < 65536) (hN : 0 < N) (hb : N ≤ 200000) : ∃ t : Nat, t < N ∧ wrap64 z = z ∧ IntKind.i64.wrap z = z ∧ ¬ N = 0 ∧ ¬ (N : Int) = 0 ∧ z.tmod (N : Int) = (t : Int) ∧ wrap64 (t : Int) = (t : Int) ∧ IntKind.i64.wrap (t : Int) = (t : Int) := by
  have h1 := Int.emod_nonneg z (b := (N : Int)) (by omega)
  have h2 := Int.emod_lt_of_pos z (b := (N : Int)) (by omega)
  have h3 := Int.tmod_eq_emod_of_nonneg hz.1 (b := (N : Int))
  refine ⟨(z % (N : Int)).toNat, by omega, IntWalk.wrap64_in _ (by omega), IntWalk.i64_in _ (by omega), by omega, by omega, by omega, IntWalk.wrap64_in _ (by omega), IntWalk.i64_in _ (by omega)⟩
theorem tried_port {v : Wi} (hv : WOk v) (hm : v.may) {i : Nat} (hi : i < v.tried.length) : 0 ≤ v.tried.getD i 0 ∧ v.tried.getD i 0 < 65536 := by
  have h := (Wi.tried_mem hm hv.dr0).1 (getD_mem 0 hi)
  have h1 := hv.to1
  have h2 := hv.fr0
  exact ⟨by omega, by omega⟩
namespace PortsTried
set_option maxHeartbeats 8000000 in
theorem run_ (K : PortsOk) (v : Wi) (hv : WOk v) (a : Option Addr) (len cap : Nat) (l : List Int) (w : World) (hr : Row .u16 w a len l) (hz : ∀ i, i < len → 0 ≤ l.getD i 0 ∧ l.getD i 0 < 65536) :
    Calls Try.prog 4 #[.agg #[.int .u8 v.pr, .int .u32 v.ii, .int .u16 v.ip, .int .u32 v.oi, .int .u16 v.fr, .int .u16 v.to, .int .u16 v.dr], .slice a len cap] w fun e w' => e = .returned (.bool true) ∧ Below w.heap.size w w' := by
  have B1 : Below w.heap.size w (w.alloc (.cells #[.int .u8 v.pr, .int .u32 v.ii, .int .u16 v.ip, .int .u32 v.oi, .int .u16 v.fr, .int .u16 v.to, .int .u16 v.dr] 36)) := (Below.refl _ _).alloc (Nat.le_refl _) _
  have A1 := WiB.made w v 36
  by_cases h1 : 40 < len
  · have e1 : decide ((40 : Int) < len) = true := by simp; omega
    have e2 : decide (40 < len) = true := by simpa using h1
    clear h1
    go_enter Try.func4, Try.ntmps4
    go_upto_region 1 with fail
    generalize w.alloc (.cells #[.int .u8 v.pr, .int .u32 v.ii, .int .u16 v.ip, .int .u32 v.oi, .int .u16 v.fr, .int .u16 v.to, .int .u16 v.dr] 36) = u at A1 B1 ⊢
    obtain ⟨_, a0, a1, a2, a3, a4, a5, a6⟩ := id A1
    have HB := Lib.hid B1
    clear A1 B1
    go_wp2_with fail
    refine (let_ K _).mono ?_; rintro e w1 ⟨rfl, b1⟩
    go_wp2
    go_ret
    exact ⟨rfl, HB.out.trans (b1.mono HB.out.size)⟩
  have e1 : decide ((40 : Int) < len) = false := by simp; omega
  have e2 : decide (40 < len) = false := by simpa using h1
  have H40 := Lib.hid (Nat.le_of_not_lt h1)
  clear h1
  have HV := Lib.hid hv
  have HR := Lib.hid (And.intro hr hz)
  clear hr hz hv
  obtain ⟨g1, g2, g3⟩ := wish_wraps HV.out
  have bf : ∀ j, (w.alloc (.cells #[.int .u8 v.pr, .int .u32 v.ii, .int .u16 v.ip, .int .u32 v.oi, .int .u16 v.fr, .int .u16 v.to, .int .u16 v.dr] 36)).frozen? ⟨w.heap.size, j, none⟩ = false := fun j => by simp [go_sem]
  go_enter Try.func4, Try.ntmps4
  go_upto_region 1 with fail
  generalize w.alloc (.cells #[.int .u8 v.pr, .int .u32 v.ii, .int .u16 v.ip, .int .u32 v.oi, .int .u16 v.fr, .int .u16 v.to, .int .u16 v.dr] 36) = u at A1 B1 bf ⊢
  obtain ⟨b, hb⟩ : ∃ b, b = w.heap.size := ⟨_, rfl⟩
  rw [← hb] at A1 bf ⊢
  have WB : w.heap.size ≤ b := hb ▸ Nat.le_refl _
  obtain ⟨_, a0, a1, a2, a3, a4, a5, a6⟩ := id A1
  have HA := Lib.hid (And.intro A1 (And.intro B1 WB))
  clear A1 B1 hb WB
  go_upto_if 26 with fail
  go_cut [] (fun wx => ∃ w2 : World, w2 = wx ∧ Hid (WiB w2 b (v.clip 3000) ∧ Below w.heap.size w w2 ∧ w.heap.size ≤ b))
  case first =>
    by_cases hc : 3000 < v.to - v.fr
    · obtain ⟨hcl, g4⟩ := clip_yes HV.out (n := 3000) (by decide) hc
      have g5 : decide (3000 < v.to - v.fr) = true := decide_eq_true hc
      have HC := Lib.hid hcl
      clear hc hcl
      try rw [g5]
      go_wp2_with fail
      refine wi_to HA.out.1 fun w2 hX bX => ?_
      rw [← HC.out] at hX
      have QX : Hid (WiB w2 b (v.clip 3000) ∧ Below w.heap.size w w2 ∧ w.heap.size ≤ b) := ⟨hX, one_box HA.out.2.1 bX HA.out.2.2 HA.out.2.1.size, HA.out.2.2⟩
      clear hX bX HA a0 a1 a2 a3 a4 a5 a6 bf g1 g2 g3 g4 g5 e1 e2 HC
      go_meet
      exact ⟨_, rfl, QX⟩
    · have g5 : decide (3000 < v.to - v.fr) = false := decide_eq_false hc
      have hcl : v.clip 3000 = v := by unfold Wi.clip; rw [if_neg hc]
      have QX : Hid (WiB u b (v.clip 3000) ∧ Below w.heap.size w u ∧ w.heap.size ≤ b) := by rw [hcl]; exact HA.out
      clear hc hcl
      try rw [g5]
      go_wp2_with fail
      go_meet
      exact ⟨_, rfl, QX⟩
  case rest =>
    obtain ⟨w2, rfl, QX⟩ := hcut
    clear HA a0 a1 a2 a3 a4 a5 a6 bf g1 g2 g3 e1 e2
    have HV2 := Lib.hid (clip_ok HV.out (n := 3000) (by decide))
    generalize v.clip 3000 = y at QX HV2
    go_wp2_with fail
    refine (K.news w2).mono ?_; rintro e w3 ⟨p, S, rfl, b3, hS, R3⟩
    have W3 := QX.out.1.on b3
    have B3 := QX.out.2.1.trans (b3.mono QX.out.2.1.size)
    have P3 : Alone K.toObjP w w3 S p Po.new := ⟨R3, fun k hk => Nat.le_trans QX.out.2.1.size (hS k hk), B3⟩
    have sb : ¬ S b := fun h => absurd QX.out.1.lt (Nat.not_lt_of_le (hS b h))
    have b4 : Below w3.heap.size w3 (w3.alloc (.cells #[.int .u32 y.ii, .int .u16 y.ip] 34)) := (Below.refl _ _).alloc (Nat.le_refl _) _
    have E0 : TrdS K w (w3.alloc (.cells #[.int .u32 y.ii, .int .u16 y.ip] 34)) S p Po.new b w3.heap.size y y.ii := ⟨P3.on b4, W3.on b4, EpB.made w3 y.ii y.ip _, sb, fun h => Nat.lt_irrefl _ (K.lt R3 _ h), QX.out.2.2, B3.size, Nat.ne_of_lt W3.lt⟩
    obtain ⟨_, a0, a1, a2, a3, a4, a5, a6⟩ := id W3
    clear b3 hS R3 W3 B3 P3 sb b4
    go_upto_region 8 with fail
    generalize w3.alloc (.cells #[.int .u32 y.ii, .int .u16 y.ip] 34) = w4 at E0 ⊢
    generalize w3.heap.size = c at E0 ⊢
    clear a0 a1 a2 a3 a4 a5 a6
    have L0 := Lib.hid E0
    clear E0 QX
    by_cases hm : y.may
    rotate_left
    · have hm0 : decide y.may = false := decide_eq_false hm
      have cm := fun X => rmay16_ y X
      simp only [hm0] at cm
      have HT : Hid (Po.new.take y = (((0, 0), 2), Po.new)) := by show _ = _; unfold Po.take; rw [if_neg hm]
      clear hm hm0
      go_loopw [7, 8] (fun si _ wr => si = .int .i64 0 ∧ Hid (TrdS K w wr S p Po.new b c y y.ii)) (fun si _ _ => 0)
      case atStart => exact ⟨rfl, L0⟩
      case round =>
        clear L0
        obtain ⟨rfl, HQ⟩ := hrel
        by_cases hlt : len = 0
        · have t1 : decide ((0 : Int) < (len : Int)) = false := by simp; omega
          have t2 : decide (0 < len) = false := decide_eq_false (by omega)
          clear hlt
          have kt := K.takes p S Po.new y _ HQ.out.al.rep (Po.Few.new.mono (Nat.zero_le _)) HV2.out
          rw [HT.out] at kt
          simp only [] at kt
          obtain ⟨_, d0, d1, d2, d3, d4, d5, d6⟩ := id HQ.out.wi
          go_upto_region 16 with (go_at_call 11; refine kt.mono ?_; rintro e w5 ⟨rfl, S5, R5, f5, x5⟩)
          have b6 : Below w5.heap.size w5 (w5.alloc (.cells #[.int .u32 0, .int .u16 0] 34)) := (Below.refl _ _).alloc (Nat.le_refl _) _
          have HG : Hid (TrdT K w (w5.alloc (.cells #[.int .u32 0, .int .u16 0] 34)) S5 p Po.new b w5.heap.size y 0 0) := ⟨(HQ.out.one R5 f5 x5).al.on b6, (HQ.out.one R5 f5 x5).wi.on b6, EpB.made w5 0 0 _⟩
          generalize w5.alloc (.cells #[.int .u32 0, .int .u16 0] 34) = w6 at HG ⊢
          generalize w5.heap.size = d at HG ⊢
          clear kt R5 f5 x5 b6 HQ d0 d1 d2 d3 d4 d5 d6
          obtain ⟨_, d0, d1, d2, d3, d4, d5, d6⟩ := id HG.out.wi
          go_wp2_with fail
          refine (doc_ y _).mono ?_; rintro e w7 ⟨rfl, b_⟩
          have Q_ := Lib.hid (HG.out.on b_)
          clear HG b_ d0 d1 d2 d3 d4 d5 d6
          have HG := Q_
          clear Q_
          go_wp2_with fail
          refine (cm _).mono ?_; rintro e w8 ⟨rfl, b_⟩
          have Q_ := Lib.hid (HG.out.on b_)
          clear HG b_
          have HG := Q_
          clear Q_
          obtain ⟨_, f0, f1, _⟩ := id HG.out.out
          go_wp2_with (go_at_call 8; refine (let_ K _).mono ?_; rintro e w90 ⟨rfl, b90⟩)
          go_ret
          exact ⟨rfl, HG.out.al.below.trans (b90.mono HG.out.al.below.size)⟩
        · have t1 : decide ((0 : Int) < (len : Int)) = true := by simp; omega
          have t2 : decide (0 < len) = true := decide_eq_true (by omega)
          clear hlt
          obtain ⟨_, d0, d1, d2, d3, d4, d5, d6⟩ := id HQ.out.wi
          go_wp2_with fail
          refine (doc_ y _).mono ?_; rintro e w71 ⟨rfl, b_⟩
          have Q_ := Lib.hid (HQ.out.on b_)
          clear HQ b_ d0 d1 d2 d3 d4 d5 d6
          have HQ := Q_
          clear Q_
          go_wp2_with fail
          refine (cm _).mono ?_; rintro e w72 ⟨rfl, b_⟩
          have Q_ := Lib.hid (HQ.out.on b_)
          clear HQ b_
          have HQ := Q_
          clear Q_
          have kt := K.takes p S Po.new y _ HQ.out.al.rep (Po.Few.new.mono (Nat.zero_le _)) HV2.out
          rw [HT.out] at kt
          simp only [] at kt
          obtain ⟨_, d0, d1, d2, d3, d4, d5, d6⟩ := id HQ.out.wi
          go_upto_region 16 with (go_at_call 11; refine kt.mono ?_; rintro e w5 ⟨rfl, S5, R5, f5, x5⟩)
          have b6 : Below w5.heap.size w5 (w5.alloc (.cells #[.int .u32 0, .int .u16 0] 34)) := (Below.refl _ _).alloc (Nat.le_refl _) _
          have HG : Hid (TrdT K w (w5.alloc (.cells #[.int .u32 0, .int .u16 0] 34)) S5 p Po.new b w5.heap.size y 0 0) := ⟨(HQ.out.one R5 f5 x5).al.on b6, (HQ.out.one R5 f5 x5).wi.on b6, EpB.made w5 0 0 _⟩
          generalize w5.alloc (.cells #[.int .u32 0, .int .u16 0] 34) = w6 at HG ⊢
          generalize w5.heap.size = d at HG ⊢
          clear kt R5 f5 x5 b6 HQ d0 d1 d2 d3 d4 d5 d6
          obtain ⟨_, d0, d1, d2, d3, d4, d5, d6⟩ := id HG.out.wi
          go_wp2_with fail
          refine (doc_ y _).mono ?_; rintro e w7 ⟨rfl, b_⟩
          have Q_ := Lib.hid (HG.out.on b_)
          clear HG b_ d0 d1 d2 d3 d4 d5 d6
          have HG := Q_
          clear Q_
          go_wp2_with fail
          refine (cm _).mono ?_; rintro e w8 ⟨rfl, b_⟩
          have Q_ := Lib.hid (HG.out.on b_)
          clear HG b_
          have HG := Q_
          clear Q_
          obtain ⟨_, f0, f1, _⟩ := id HG.out.out
          go_wp2_with (go_at_call 8; refine (let_ K _).mono ?_; rintro e w90 ⟨rfl, b90⟩)
          go_ret
          exact ⟨rfl, HG.out.al.below.trans (b90.mono HG.out.al.below.size)⟩
    · have hm0 : decide y.may = true := decide_eq_true hm
      have cm := fun X => rmay16_ y X
      simp only [hm0] at cm
      have HM := Lib.hid hm
      clear hm hm0
      have L1 : Hid (TrdS K w w4 S p Po.new b c y (had y 0) ∧ Po.new.Few 0 ∧ Po.new.notI y.ii) := ⟨by rw [had_zero HV2.out]; exact L0.out, Po.Few.new, Po.notI.new _⟩
      clear L0
      go_loopw [7, 8] (fun si _ wr => ∃ (i : Nat) (S : Nat → Prop) (X : Po), i ≤ len ∧ si = .int .i64 (i : Int) ∧ Hid (TrdS K w wr S p X b c y (had y i) ∧ X.Few i ∧ X.notI y.ii)) (fun si _ _ => len - (intOf si).toNat)
      case atStart => exact ⟨0, S, _, Nat.zero_le _, rfl, L1⟩
      case round =>
        clear L1
        obtain ⟨i, S, X, hi, rfl, HR2⟩ := hrel
        have HQ := Lib.hid HR2.out.1
        have HF := Lib.hid HR2.out.2
        clear HR2
        have EW := Lib.hid (step_16 (j := i) (Nat.lt_of_le_of_lt (Nat.le_trans hi H40.out) (by decide)))
        by_cases hlt : i < len
        · have HI := Lib.hid hlt
          obtain ⟨e10, e12, e13⟩ := ix16 hlt
          obtain ⟨bb, off, ha, hbb, hcl⟩ := HR.out.1.2.resolve_left (Nat.ne_of_gt (Nat.lt_of_le_of_lt (Nat.zero_le i) hlt))
          have hzb := HR.out.2 i hlt
          have hx := hcl i hlt
          obtain ⟨z, hze⟩ : ∃ z, z = l.getD i 0 := ⟨_, rfl⟩
          rw [← hze] at hx hzb
          have HZ : Hid (bb < w.heap.size ∧ w.cell? ⟨bb, off + i, none⟩ = some (.int .u16 z)) := ⟨hbb, hx⟩
          have HZB := Lib.hid hzb
          have I40 := Lib.hid (Nat.lt_of_lt_of_le hlt H40.out)
          subst ha
          clear hzb hx hcl hbb hze hi hlt
          obtain ⟨_, d0, d1, d2, d3, d4, d5, d6⟩ := id HQ.out.wi
          go_wp2_with fail
          refine (doc_ y _).mono ?_; rintro e w71 ⟨rfl, b_⟩
          have Q_ := Lib.hid (HQ.out.on b_)
          clear HQ b_ d0 d1 d2 d3 d4 d5 d6
          have HQ := Q_
          clear Q_
          go_wp2_with fail
          refine (cm _).mono ?_; rintro e w72 ⟨rfl, b_⟩
          have Q_ := Lib.hid (HQ.out.on b_)
          clear HQ b_
          have HQ := Q_
          clear Q_
          obtain ⟨_, d0, d1, d2, d3, d4, d5, d6⟩ := id HQ.out.wi
          go_wp2_with fail
          refine (doc_ y _).mono ?_; rintro e w73 ⟨rfl, b_⟩
          have Q_ := Lib.hid (HQ.out.on b_)
          clear HQ b_ d0 d1 d2 d3 d4 d5 d6
          have HQ := Q_
          clear Q_
          go_wp2_with fail
          refine (rtried16_ y HV2.out HM.out _).mono ?_; rintro e w8 ⟨lv, rfl, ho, b8⟩
          obtain ⟨g, cp, rfl, hg1, hg2, hpos⟩ := tried_form HV2.out HM.out ho
          have SG : Hid (¬ S g ∧ g ≠ c) := ⟨fun h => absurd (K.lt HQ.out.al.rep _ h) (Nat.not_lt_of_le hg1), fun h => absurd HQ.out.ep.lt (Nat.not_lt_of_le (h ▸ hg1))⟩
          have Q8 := Lib.hid (HQ.out.on b8)
          have O8 := Lib.hid (And.intro ho hg2)
          clear HQ ho hg1 hg2 b8
          obtain ⟨N, hN⟩ : ∃ N, N = y.tried.length := ⟨_, rfl⟩
          have HN : Hid (y.tried.length = N) := hN.symm
          have hbig := tried_many HV2.out HM.out
          rw [← hN] at hpos hbig ⊢
          obtain ⟨t, tlt, q1, q2, q3, q4, q5, q6, q7⟩ := ix_mod HZB.out hpos hbig
          obtain ⟨s10, s12, s13⟩ := ix16 tlt
          have TL : Hid (t < y.tried.length) := Nat.lt_of_lt_of_eq tlt HN.out.symm
          obtain ⟨kk, hkk⟩ : ∃ kk, kk = y.tried.getD t 0 := ⟨_, rfl⟩
          have KB : Hid (0 ≤ kk ∧ kk < 65536) := by have := tried_port HV2.out HM.out TL.out; rw [← hkk] at this; exact this
          have hc := Elt.Own.at (E := eltU) O8.out.1 TL.out (j := 0) (u := .int .u16 (y.tried.getD t 0)) (by decide) rfl
          rw [← hkk] at hc
          have hc0 : w8.cell? ⟨g, t, none⟩ = some (.int .u16 kk) := by simpa [eltU] using hc
          have hc1 := Lib.hid hc0
          clear hc hc0 hkk hbig hN hpos tlt
          obtain ⟨_, e0, e1, fr⟩ := id Q8.out.ep
          have hh := had_succ y i
          have HB2 := Lib.hid (had_in y i)
          have HB3 := Lib.hid (had_in y (i + 1))
          have HNE := had_ne HV2.out (i := i + 1) (Nat.succ_pos _) (Nat.lt_of_le_of_lt I40.out (by decide))
          have HNB : (had y (i + 1) == y.ii) = false := beq_eq_false_iff_ne.2 HNE
          generalize had y i = h0 at Q8 hh HB2 e0
          obtain ⟨h1, hh1⟩ : ∃ h1, h1 = had y (i + 1) := ⟨_, rfl⟩
          have HH1 : Hid (had y (i + 1) = h1) := hh1.symm
          rw [← hh1] at hh HB3 HNE HNB
          have HNI := Lib.hid HNE
          clear hh1 HNE
          go_upto_region 12 with fail
          refine ep_ip Q8.out.ep fun w9 hX bX => ?_
          have Q9 := Lib.hid (Q8.out.next hX bX)
          have G9 : Hid (w9.cell? ⟨g, t, none⟩ = some (.int .u16 kk) ∧ g < w9.heap.size) := ⟨(bX.cell (p := ⟨g, t, none⟩) O8.out.2 SG.out.2).trans hc1.out, Nat.lt_of_lt_of_le O8.out.2 bX.size⟩
          clear e0 e1 fr hX bX Q8 O8 hc1 hh HB2
          obtain ⟨_, e0, e1, fr⟩ := id Q9.out.ep
          obtain ⟨_, d0, d1, d2, d3, d4, d5, d6⟩ := id Q9.out.wi
          go_upto_region 14 with fail
          clear e0 e1 fr d0 d1 d2 d3 d4 d5 d6 HNB
          have z9 := (Q9.out.al.below.cell (p := ⟨bb, off + i, none⟩) HZ.out.1).trans HZ.out.2
          refine wp_region_noPanic ?_
          refine wp_region_held_drew (S := (fun w' => WiB w' b y ∧ EpB w' c h1 y.ip ∧ w'.cell? ⟨bb, off + i, none⟩ = some (.int .u16 z) ∧ w'.cell? ⟨g, t, none⟩ = some (.int .u16 kk))) (by kernel_rfl) ?_ (fun hHeld => ?_)
          · exact ⟨Q9.out.wi.on (Below.refl _ _).drew, Q9.out.ep.on (Below.refl _ _).drew, z9, G9.out.1⟩
          have Q6 := Q9.out.on (Below.refl w9.heap.size w9).drew
          have G6 : g < w9.drew.heap.size := G9.out.2
          generalize w9.drew = w6 at Q6 hHeld G6 ⊢
          clear Q9 G9 z9
          refine wpAnyH_take (i := 0) (oi := _) (v := ?_) rfl (by kernel_rfl) (by kernel_rfl) (by kernel_rfl) (fun _ _ _ h => h) (Or.inl ⟨by kernel_rfl, ?_⟩) (by assumption) ?_
          rotate_left
          · intro w hSw
            clear hSw
            go_simp
            with_reducible rfl
          try simp only [List.getElem_toArray, List.getElem_cons_succ, List.getElem_cons_zero, Act.put, List.setIfInBounds_toArray, List.set_cons_zero, List.set_cons_succ]
          refine wpAnyH_take (i := 1) (oi := _) (v := ?_) rfl (by kernel_rfl) (by kernel_rfl) (by kernel_rfl) (fun _ _ _ h => h) (Or.inl ⟨by kernel_rfl, ?_⟩) (by assumption) ?_
          rotate_left
          · intro w hSw
            clear hSw
            go_simp
            with_reducible rfl
          try simp only [List.getElem_toArray, List.getElem_cons_succ, List.getElem_cons_zero, Act.put, List.setIfInBounds_toArray, List.set_cons_zero, List.set_cons_succ]
          refine wpAnyH_take (i := 2) (oi := _) (v := ?_) rfl (by kernel_rfl) (by kernel_rfl) (by kernel_rfl) (fun _ _ _ h => h) (Or.inl ⟨by kernel_rfl, ?_⟩) (by assumption) ?_
          rotate_left
          · intro w hSw
            obtain ⟨⟨_, d0, d1, d2, d3, d4, d5, d6⟩, ⟨_, e0, e1, _⟩, z0, x0⟩ := hSw
            go_simp
            with_reducible rfl
          try simp only [List.getElem_toArray, List.getElem_cons_succ, List.getElem_cons_zero, Act.put, List.setIfInBounds_toArray, List.set_cons_zero, List.set_cons_succ]
          refine wpAnyH_take (i := 3) (oi := _) (v := ?_) rfl (by kernel_rfl) (by kernel_rfl) (by kernel_rfl) (fun _ _ _ h => h) (Or.inl ⟨by kernel_rfl, ?_⟩) (by assumption) ?_
          rotate_left
          · intro w hSw
            obtain ⟨⟨_, d0, d1, d2, d3, d4, d5, d6⟩, ⟨_, e0, e1, _⟩, z0, x0⟩ := hSw
            go_simp
            with_reducible rfl
          try simp only [List.getElem_toArray, List.getElem_cons_succ, List.getElem_cons_zero, Act.put, List.setIfInBounds_toArray, List.set_cons_zero, List.set_cons_succ]
          refine wpAnyH_take (i := 4) (oi := _) (v := ?_) rfl (by kernel_rfl) (by kernel_rfl) (by kernel_rfl) (fun _ _ _ h => h) (Or.inl ⟨by kernel_rfl, ?_⟩) (by assumption) ?_
          rotate_left
          · intro w hSw
            clear hSw
            go_simp
            with_reducible rfl
          try simp only [List.getElem_toArray, List.getElem_cons_succ, List.getElem_cons_zero, Act.put, List.setIfInBounds_toArray, List.set_cons_zero, List.set_cons_succ]
          refine wpAnyH_take (i := 5) (oi := _) (v := ?_) rfl (by kernel_rfl) (by kernel_rfl) (by kernel_rfl) (fun _ _ _ h => h) (Or.inl ⟨by kernel_rfl, ?_⟩) (by assumption) ?_
          rotate_left
          · intro w hSw
            obtain ⟨⟨_, d0, d1, d2, d3, d4, d5, d6⟩, ⟨_, e0, e1, _⟩, z0, x0⟩ := hSw
            go_simp
            with_reducible rfl
          try simp only [List.getElem_toArray, List.getElem_cons_succ, List.getElem_cons_zero, Act.put, List.setIfInBounds_toArray, List.set_cons_zero, List.set_cons_succ]
          refine wpAnyH_take (i := 6) (oi := _) (v := ?_) rfl (by kernel_rfl) (by kernel_rfl) (by kernel_rfl) (fun _ _ _ h => h) (Or.inl ⟨by kernel_rfl, ?_⟩) (by assumption) ?_
          rotate_left
          · intro w hSw
            clear hSw
            go_simp
            with_reducible rfl
          try simp only [List.getElem_toArray, List.getElem_cons_succ, List.getElem_cons_zero, Act.put, List.setIfInBounds_toArray, List.set_cons_zero, List.set_cons_succ]
          refine wpAnyH_take (i := 7) (oi := _) (v := ?_) rfl (by kernel_rfl) (by kernel_rfl) (by kernel_rfl) (fun _ _ _ h => h) (Or.inl ⟨by kernel_rfl, ?_⟩) (by assumption) ?_
          rotate_left
          · intro w hSw
            clear hSw
            go_simp
            with_reducible rfl
          try simp only [List.getElem_toArray, List.getElem_cons_succ, List.getElem_cons_zero, Act.put, List.setIfInBounds_toArray, List.set_cons_zero, List.set_cons_succ]
          refine wpAnyH_take (i := 8) (oi := _) (v := ?_) rfl (by kernel_rfl) (by kernel_rfl) (by kernel_rfl) (fun _ _ _ h => h) (Or.inl ⟨by kernel_rfl, ?_⟩) (by assumption) ?_
          rotate_left
          · intro w hSw
            clear hSw
            go_simp
            with_reducible rfl
          try simp only [List.getElem_toArray, List.getElem_cons_succ, List.getElem_cons_zero, Act.put, List.setIfInBounds_toArray, List.set_cons_zero, List.set_cons_succ]
          refine wpAnyH_take (i := 9) (oi := _) (v := ?_) rfl (by kernel_rfl) (by kernel_rfl) (by kernel_rfl) (fun _ _ _ h => h) (Or.inl ⟨by kernel_rfl, ?_⟩) (by assumption) ?_
          rotate_left
          · intro w hSw
            clear hSw
            go_simp
            with_reducible rfl
          try simp only [List.getElem_toArray, List.getElem_cons_succ, List.getElem_cons_zero, Act.put, List.setIfInBounds_toArray, List.set_cons_zero, List.set_cons_succ]
          refine wpAnyH_take (i := 10) (oi := _) (v := ?_) rfl (by kernel_rfl) (by kernel_rfl) (by kernel_rfl) (fun _ _ _ h => h) (Or.inl ⟨by kernel_rfl, ?_⟩) (by assumption) ?_
          rotate_left
          · intro w hSw
            obtain ⟨⟨_, d0, d1, d2, d3, d4, d5, d6⟩, ⟨_, e0, e1, _⟩, z0, x0⟩ := hSw
            go_simp
            with_reducible rfl
          try simp only [List.getElem_toArray, List.getElem_cons_succ, List.getElem_cons_zero, Act.put, List.setIfInBounds_toArray, List.set_cons_zero, List.set_cons_succ]
          refine wpAnyH_take (i := 11) (oi := _) (v := ?_) rfl (by kernel_rfl) (by kernel_rfl) (by kernel_rfl) (fun _ _ _ h => h) (Or.inl ⟨by kernel_rfl, ?_⟩) (by assumption) ?_
          rotate_left
          · intro w hSw
            clear hSw
            go_simp
            with_reducible rfl
          try simp only [List.getElem_toArray, List.getElem_cons_succ, List.getElem_cons_zero, Act.put, List.setIfInBounds_toArray, List.set_cons_zero, List.set_cons_succ]
          refine wpAnyH_take (i := 12) (oi := _) (v := ?_) rfl (by kernel_rfl) (by kernel_rfl) (by kernel_rfl) (fun _ _ _ h => h) (Or.inl ⟨by kernel_rfl, ?_⟩) (by assumption) ?_
          rotate_left
          · intro w hSw
            clear hSw
            go_simp
            with_reducible rfl
          try simp only [List.getElem_toArray, List.getElem_cons_succ, List.getElem_cons_zero, Act.put, List.setIfInBounds_toArray, List.set_cons_zero, List.set_cons_succ]
          refine wpAnyH_take (i := 13) (oi := _) (v := ?_) rfl (by kernel_rfl) (by kernel_rfl) (by kernel_rfl) (fun _ _ _ h => h) (Or.inl ⟨by kernel_rfl, ?_⟩) (by assumption) ?_
          rotate_left
          · intro w hSw
            clear hSw
            go_simp
            with_reducible rfl
          try simp only [List.getElem_toArray, List.getElem_cons_succ, List.getElem_cons_zero, Act.put, List.setIfInBounds_toArray, List.set_cons_zero, List.set_cons_succ]
          refine wpAnyH_take (i := 14) (oi := _) (v := ?_) rfl (by kernel_rfl) (by kernel_rfl) (by kernel_rfl) (fun _ _ _ h => h) (Or.inl ⟨by kernel_rfl, ?_⟩) (by assumption) ?_
          rotate_left
          · intro w hSw
            clear hSw
            go_simp
            with_reducible rfl
          try simp only [List.getElem_toArray, List.getElem_cons_succ, List.getElem_cons_zero, Act.put, List.setIfInBounds_toArray, List.set_cons_zero, List.set_cons_succ]
          refine wpAnyH_take (i := 15) (oi := _) (v := ?_) rfl (by kernel_rfl) (by kernel_rfl) (by kernel_rfl) (fun _ _ _ h => h) (Or.inl ⟨by kernel_rfl, ?_⟩) (by assumption) ?_
          rotate_left
          · intro w hSw
            clear hSw
            go_simp
            with_reducible rfl
          try simp only [List.getElem_toArray, List.getElem_cons_succ, List.getElem_cons_zero, Act.put, List.setIfInBounds_toArray, List.set_cons_zero, List.set_cons_succ]
          refine wpAnyH_take (i := 16) (oi := _) (v := ?_) rfl (by kernel_rfl) (by kernel_rfl) (by kernel_rfl) (fun _ _ _ h => h) (Or.inl ⟨by kernel_rfl, ?_⟩) (by assumption) ?_
          rotate_left
          · intro w hSw
            obtain ⟨⟨_, d0, d1, d2, d3, d4, d5, d6⟩, ⟨_, e0, e1, _⟩, z0, x0⟩ := hSw
            go_simp
            with_reducible rfl
          try simp only [List.getElem_toArray, List.getElem_cons_succ, List.getElem_cons_zero, Act.put, List.setIfInBounds_toArray, List.set_cons_zero, List.set_cons_succ]
          refine wpAnyH_take (i := 17) (oi := _) (v := ?_) rfl (by kernel_rfl) (by kernel_rfl) (by kernel_rfl) (fun _ _ _ h => h) (Or.inl ⟨by kernel_rfl, ?_⟩) (by assumption) ?_
          rotate_left
          · intro w hSw
            clear hSw
            go_simp
            with_reducible rfl
          try simp only [List.getElem_toArray, List.getElem_cons_succ, List.getElem_cons_zero, Act.put, List.setIfInBounds_toArray, List.set_cons_zero, List.set_cons_succ]
          refine wpAnyH_ready (rs := [18]) (by kernel_rfl) (by simp) ?_
          refine AllReadyH.cons (o := _) rfl (fun K_ hK => ?_) AllReadyH.nil
          go_simp
          refine (K.fixes p S X y.pr h1 y.ip y.oi kk w6 Q6.al.rep (HF.out.1.mono (by have := I40.out; omega)) ⟨HV2.out.pr0, HV2.out.pr1, HB3.out.1, HB3.out.2, HV2.out.ip0, HV2.out.ip1⟩ ⟨HV2.out.pr0, HV2.out.pr1, HV2.out.oi0, HV2.out.oi1, KB.out.1, KB.out.2⟩).mono ?_; rintro e w7 ⟨rfl, S7, R7, f7, x7⟩
          have Q7 := Q6.one R7 f7 x7
          have z7 := (Q7.al.below.cell (p := ⟨bb, off + i, none⟩) HZ.out.1).trans HZ.out.2
          have F7 : Hid (TrdS K w w7 S7 p _ b c y (had y (i + 1)) ∧ _ ∧ _) := ⟨by rw [HH1.out]; exact Q7, HF.out.1.fix y.pr h1 y.ip y.oi kk, HF.out.2.fix HNI.out y.pr y.ip y.oi kk⟩
          have g7 := (x7.cell (p := ⟨g, t, none⟩) G6 SG.out.1).trans hHeld.2.2.2
          show K_ _ _
          refine hK.out _ _ ⟨Q7.wi, Q7.ep, z7, g7⟩ (fun hH1 => ?_)
          clear hK K_ hHeld
          have hHeld := hH1
          clear hH1
          try simp only [List.getElem_toArray, List.getElem_cons_succ, List.getElem_cons_zero, Act.put, List.setIfInBounds_toArray, List.set_cons_zero, List.set_cons_succ]
          clear Q6 R7 f7 x7 z7 g7
          refine wpAnyH_done (by kernel_rfl) (NoPanic.normal ?_) _
          clear hHeld Q7 q1 q2 q3 q4 q5 q6 q7 s10 s12 s13
          go_wp2
          go_roundw
          case rel => exact ⟨i + 1, S7, _, HI.out, by simp [EW.out], F7⟩
          case measure => first | exact step_meas16 EW.out (step_less16 HI.out) | (simp [EW.out]; exact step_less16 HI.out) | exact step_less16 HI.out
        · obtain rfl : i = len := Nat.le_antisymm hi (Nat.le_of_not_lt hlt)
          have t1 : decide ((i : Int) < (i : Int)) = false := by simp
          clear hlt hi
          have kt := K.takes p S X y wr HQ.out.al.rep (HF.out.1.mono (Nat.le_trans H40.out (by decide))) HV2.out
          have TF := tried_fin (K.ok HQ.out.al.rep) HV2.out HM.out HF.out.2
          have FW : (X.take y).2.Few 1000 := (HF.out.1.take y).mono (Nat.le_trans (Nat.succ_le_succ H40.out) (by decide))
          generalize hri : (X.take y).1.1.1 = ri at kt TF
          generalize hrp : (X.take y).1.1.2 = rp at kt TF
          generalize hn : ((X.take y).1.2 : Int) = n at kt TF
          generalize (X.take y).2 = Y at kt TF FW
          have HTF := Lib.hid (And.intro TF FW)
          clear TF FW hri hrp hn HF
          obtain ⟨_, d0, d1, d2, d3, d4, d5, d6⟩ := id HQ.out.wi
          go_upto_region 16 with (go_at_call 11; refine kt.mono ?_; rintro e w5 ⟨rfl, S5, R5, f5, x5⟩)
          have b6 : Below w5.heap.size w5 (w5.alloc (.cells #[.int .u32 ri, .int .u16 rp] 34)) := (Below.refl _ _).alloc (Nat.le_refl _) _
          have HG : Hid (TrdT K w (w5.alloc (.cells #[.int .u32 ri, .int .u16 rp] 34)) S5 p Y b w5.heap.size y ri rp) := ⟨(HQ.out.one R5 f5 x5).al.on b6, (HQ.out.one R5 f5 x5).wi.on b6, EpB.made w5 ri rp _⟩
          generalize w5.alloc (.cells #[.int .u32 ri, .int .u16 rp] 34) = w6 at HG ⊢
          generalize w5.heap.size = d at HG ⊢
          clear kt R5 f5 x5 b6 HQ d0 d1 d2 d3 d4 d5 d6
          obtain ⟨_, d0, d1, d2, d3, d4, d5, d6⟩ := id HG.out.wi
          go_wp2_with fail
          refine (doc_ y _).mono ?_; rintro e w7 ⟨rfl, b_⟩
          have Q_ := Lib.hid (HG.out.on b_)
          clear HG b_ d0 d1 d2 d3 d4 d5 d6
          have HG := Q_
          clear Q_
          go_wp2_with fail
          refine (cm _).mono ?_; rintro e w8 ⟨rfl, b_⟩
          have Q_ := Lib.hid (HG.out.on b_)
          clear HG b_
          have HG := Q_
          clear Q_
          obtain ⟨_, d0, d1, d2, d3, d4, d5, d6⟩ := id HG.out.wi
          go_wp2_with fail
          refine (doc_ y _).mono ?_; rintro e w9 ⟨rfl, b_⟩
          have Q_ := Lib.hid (HG.out.on b_)
          clear HG b_ d0 d1 d2 d3 d4 d5 d6
          have HG := Q_
          clear Q_
          go_wp2_with fail
          refine (rtried16_ y HV2.out HM.out _).mono ?_; rintro e w10 ⟨lv, rfl, ho, b10⟩
          obtain ⟨g, cp, rfl, hg1, hg2, hpos⟩ := tried_form HV2.out HM.out ho
          have LEN := Lib.hid (tried_many HV2.out HM.out)
          obtain ⟨B0, hB0⟩ : ∃ B0, B0 = w9.heap.size := ⟨_, rfl⟩
          rw [← hB0] at ho
          have L2 : Hid (TrdL K w w10 S5 p Y b d y ri rp B0 g cp) := ⟨HG.out.on b10, ho⟩
          clear HG ho hg1 hg2 hpos b10 hB0
          obtain ⟨N, hN⟩ : ∃ N, N = y.tried.length := ⟨_, rfl⟩
          have HN : Hid (y.tried.length = N) := hN.symm
          rw [← hN] at LEN ⊢
          clear hN
          go_upto_region 20 with fail
          go_loopw [12, 13, 14] (fun si _ _ wr => ∃ i : Nat, i ≤ N ∧ si = .int .i64 (i : Int) ∧ Hid (TrdL K w wr S5 p Y b d y ri rp B0 g cp ∧ ∀ j, j < i → ∃ r, Y.ofO y.pr y.oi (y.tried.getD j 0) = some r ∧ r.ii ≠ y.ii)) (fun si _ _ _ => N - (intOf si).toNat)
          case atStart => exact ⟨0, Nat.zero_le _, rfl, L2.out, fun j hj => absurd hj (Nat.not_lt_zero _)⟩
          case round =>
            clear L2
            obtain ⟨i2, hi, rfl, HQ⟩ := hrel
            by_cases hlt : i2 < N
            · have EW2 := Lib.hid (step_16 (j := i2) (Nat.lt_of_le_of_lt (Nat.le_trans hi LEN.out) (by decide)))
              obtain ⟨e10, e12, e13⟩ := ix16 hlt
              have HI2 := Lib.hid hlt
              have hc := Elt.Own.at (E := eltU) HQ.out.1.own (by rw [HN.out]; exact hlt) (j := 0) (u := .int .u16 (y.tried.getD i2 0)) (by decide) rfl
              obtain ⟨r, hr1, hr2⟩ := HTF.out.1.all i2 (by rw [HN.out]; exact hlt) HQ.out.2
              have kb := tried_port HV2.out HM.out (i := i2) (by rw [HN.out]; exact hlt)
              obtain ⟨k, hk⟩ : ∃ k, k = y.tried.getD i2 0 := ⟨_, rfl⟩
              have HK : Hid (y.tried.getD i2 0 = k) := hk.symm
              rw [← hk] at hc hr1 hr2 kb
              have hc1 : wr.cell? ⟨g, i2, none⟩ = some (.int .u16 k) := by simpa [eltU] using hc
              have kow : Hid (∀ u, Below wr.heap.size wr u → Says Try.prog 15 #[.pointer (some ⟨p, 0, none⟩), .int .u8 y.pr, .agg #[.int .u32 y.oi, .int .u16 k]] u (.tuple #[.agg #[.int .u8 r.pr, .int .u32 r.oi, .int .u16 r.op, .int .u32 r.ii, .int .u16 r.ip, .int .i64 (r.lv : Int), .int .i64 (r.hd : Int)], .bool true])) := fun u hu => by
                have q := K.owners p S5 Y y.pr y.oi k u (HQ.out.1.tt.al.on hu).rep HTF.out.2 ⟨HV2.out.pr0, HV2.out.pr1, HV2.out.oi0, HV2.out.oi1, kb.1, kb.2⟩
                rw [hr1] at q
                exact q
              have HR1 := Lib.hid hr1
              have HR2 := Lib.hid hr2
              have HW := Lib.hid HQ.out.1.tt.wi
              clear hr1 hr2 kb hk hc hlt hi
              obtain ⟨_, d0, d1, d2, d3, d4, d5, d6⟩ := id HW.out
              go_upto_region 22 with fail
              clear d0 d1 d2 d3 d4 d5 d6 e10
              refine wp_region_noPanic ?_
              refine wp_region_held_drew (S := (fun w' => WiB w' b y ∧ w'.cell? ⟨g, i2, none⟩ = some (.int .u16 k))) (by kernel_rfl) ?_ (fun hHeld => ?_)
              · exact ⟨HW.out.on (Below.refl _ _).drew, hc1⟩
              have x0 : Below wr.heap.size wr wr.drew := (Below.refl _ _).drew
              have GBL : Hid (b < wr.heap.size ∧ g < wr.heap.size) := ⟨HW.out.lt, (HQ.out.1.own.lt g rfl).2⟩
              generalize wr.drew = u1 at hHeld x0 ⊢
              clear HW hc1
              refine wpAnyH_take (i := 0) (oi := _) (v := ?_) rfl (by kernel_rfl) (by kernel_rfl) (by kernel_rfl) (fun _ _ _ h => h) (Or.inl ⟨by kernel_rfl, ?_⟩) (by assumption) ?_
              rotate_left
              · intro w hSw
                clear hSw
                go_simp
                with_reducible rfl
              try simp only [List.getElem_toArray, List.getElem_cons_succ, List.getElem_cons_zero, Act.put, List.setIfInBounds_toArray, List.set_cons_zero, List.set_cons_succ]
              refine wpAnyH_take (i := 1) (oi := _) (v := ?_) rfl (by kernel_rfl) (by kernel_rfl) (by kernel_rfl) (fun _ _ _ h => h) (Or.inl ⟨by kernel_rfl, ?_⟩) (by assumption) ?_
              rotate_left
              · intro w hSw
                clear hSw
                go_simp
                with_reducible rfl
              try simp only [List.getElem_toArray, List.getElem_cons_succ, List.getElem_cons_zero, Act.put, List.setIfInBounds_toArray, List.set_cons_zero, List.set_cons_succ]
              refine wpAnyH_take (i := 2) (oi := _) (v := ?_) rfl (by kernel_rfl) (by kernel_rfl) (by kernel_rfl) (fun _ _ _ h => h) (Or.inl ⟨by kernel_rfl, ?_⟩) (by assumption) ?_
              rotate_left
              · intro w hSw
                obtain ⟨⟨_, d0, d1, d2, d3, d4, d5, d6⟩, x0⟩ := hSw
                go_simp
                with_reducible rfl
              try simp only [List.getElem_toArray, List.getElem_cons_succ, List.getElem_cons_zero, Act.put, List.setIfInBounds_toArray, List.set_cons_zero, List.set_cons_succ]
              refine wpAnyH_take (i := 3) (oi := _) (v := ?_) rfl (by kernel_rfl) (by kernel_rfl) (by kernel_rfl) (fun _ _ _ h => h) (Or.inl ⟨by kernel_rfl, ?_⟩) (by assumption) ?_
              rotate_left
              · intro w hSw
                clear hSw
                go_simp
                with_reducible rfl
              try simp only [List.getElem_toArray, List.getElem_cons_succ, List.getElem_cons_zero, Act.put, List.setIfInBounds_toArray, List.set_cons_zero, List.set_cons_succ]
              refine wpAnyH_take (i := 4) (oi := _) (v := ?_) rfl (by kernel_rfl) (by kernel_rfl) (by kernel_rfl) (fun _ _ _ h => h) (Or.inl ⟨by kernel_rfl, ?_⟩) (by assumption) ?_
              rotate_left
              · intro w hSw
                obtain ⟨⟨_, d0, d1, d2, d3, d4, d5, d6⟩, x0⟩ := hSw
                go_simp
                with_reducible rfl
              try simp only [List.getElem_toArray, List.getElem_cons_succ, List.getElem_cons_zero, Act.put, List.setIfInBounds_toArray, List.set_cons_zero, List.set_cons_succ]
              refine wpAnyH_take (i := 5) (oi := _) (v := ?_) rfl (by kernel_rfl) (by kernel_rfl) (by kernel_rfl) (fun _ _ _ h => h) (Or.inl ⟨by kernel_rfl, ?_⟩) (by assumption) ?_
              rotate_left
              · intro w hSw
                clear hSw
                go_simp
                with_reducible rfl
              try simp only [List.getElem_toArray, List.getElem_cons_succ, List.getElem_cons_zero, Act.put, List.setIfInBounds_toArray, List.set_cons_zero, List.set_cons_succ]
              refine wpAnyH_take (i := 6) (oi := _) (v := ?_) rfl (by kernel_rfl) (by kernel_rfl) (by kernel_rfl) (fun _ _ _ h => h) (Or.inl ⟨by kernel_rfl, ?_⟩) (by assumption) ?_
              rotate_left
              · intro w hSw
                clear hSw
                go_simp
                with_reducible rfl
              try simp only [List.getElem_toArray, List.getElem_cons_succ, List.getElem_cons_zero, Act.put, List.setIfInBounds_toArray, List.set_cons_zero, List.set_cons_succ]
              refine wpAnyH_take (i := 7) (oi := _) (v := ?_) rfl (by kernel_rfl) (by kernel_rfl) (by kernel_rfl) (fun _ _ _ h => h) (Or.inl ⟨by kernel_rfl, ?_⟩) (by assumption) ?_
              rotate_left
              · intro w hSw
                clear hSw
                go_simp
                with_reducible rfl
              try simp only [List.getElem_toArray, List.getElem_cons_succ, List.getElem_cons_zero, Act.put, List.setIfInBounds_toArray, List.set_cons_zero, List.set_cons_succ]
              refine wpAnyH_take (i := 8) (oi := _) (v := ?_) rfl (by kernel_rfl) (by kernel_rfl) (by kernel_rfl) (fun _ _ _ h => h) (Or.inl ⟨by kernel_rfl, ?_⟩) (by assumption) ?_
              rotate_left
              · intro w hSw
                obtain ⟨⟨_, d0, d1, d2, d3, d4, d5, d6⟩, x0⟩ := hSw
                go_simp
                with_reducible rfl
              try simp only [List.getElem_toArray, List.getElem_cons_succ, List.getElem_cons_zero, Act.put, List.setIfInBounds_toArray, List.set_cons_zero, List.set_cons_succ]
              refine wpAnyH_take (i := 9) (oi := _) (v := ?_) rfl (by kernel_rfl) (by kernel_rfl) (by kernel_rfl) (fun _ _ _ h => h) (Or.inl ⟨by kernel_rfl, ?_⟩) (by assumption) ?_
              rotate_left
              · intro w hSw
                clear hSw
                go_simp
                with_reducible rfl
              try simp only [List.getElem_toArray, List.getElem_cons_succ, List.getElem_cons_zero, Act.put, List.setIfInBounds_toArray, List.set_cons_zero, List.set_cons_succ]
              refine wpAnyH_ready (rs := [10, 14]) (by kernel_rfl) (by simp) ?_
              refine AllReadyH.cons (o := _) rfl (fun K_ hK => ?_) (AllReadyH.cons (o := _) rfl (fun K_ hK => ?_) AllReadyH.nil)
              · go_simp
                refine (kow.out _ x0).mono ?_; rintro e u1' ⟨rfl, bb⟩
                have x0' := x0.trans (bb.mono x0.size)
                show K_ _ _
                refine hK.out _ _ ⟨hHeld.1.on bb, (bb.cell (p := ⟨g, i2, none⟩) (Nat.lt_of_lt_of_le GBL.out.2 x0.size)).trans hHeld.2⟩ (fun hH1 => ?_)
                clear hK K_ hHeld
                have hHeld := hH1
                clear hH1
                try simp only [List.getElem_toArray, List.getElem_cons_succ, List.getElem_cons_zero, Act.put, List.setIfInBounds_toArray, List.set_cons_zero, List.set_cons_succ]
                clear bb
                refine wpAnyH_take (i := 11) (oi := _) (v := ?_) rfl (by kernel_rfl) (by kernel_rfl) (by kernel_rfl) (fun _ _ _ h => h) (Or.inl ⟨by kernel_rfl, ?_⟩) (by assumption) ?_
                rotate_left
                · intro w hSw
                  clear hSw
                  go_simp
                  with_reducible rfl
                try simp only [List.getElem_toArray, List.getElem_cons_succ, List.getElem_cons_zero, Act.put, List.setIfInBounds_toArray, List.set_cons_zero, List.set_cons_succ]
                refine wpAnyH_take (i := 12) (oi := _) (v := ?_) rfl (by kernel_rfl) (by kernel_rfl) (by kernel_rfl) (fun _ _ _ h => h) (Or.inl ⟨by kernel_rfl, ?_⟩) (by assumption) ?_
                rotate_left
                · intro w hSw
                  clear hSw
                  go_simp
                  with_reducible rfl
                try simp only [List.getElem_toArray, List.getElem_cons_succ, List.getElem_cons_zero, Act.put, List.setIfInBounds_toArray, List.set_cons_zero, List.set_cons_succ]
                refine wpAnyH_take (i := 13) (oi := _) (v := ?_) rfl (by kernel_rfl) (by kernel_rfl) (by kernel_rfl) (fun _ _ _ h => h) (Or.inl ⟨by kernel_rfl, ?_⟩) (by assumption) ?_
                rotate_left
                · intro w hSw
                  clear hSw
                  go_simp
                  with_reducible rfl
                try simp only [List.getElem_toArray, List.getElem_cons_succ, List.getElem_cons_zero, Act.put, List.setIfInBounds_toArray, List.set_cons_zero, List.set_cons_succ]
                refine wpAnyH_ready (rs := [14]) (by kernel_rfl) (by simp) ?_
                refine AllReadyH.cons (o := _) rfl (fun K_ hK => ?_) AllReadyH.nil
                go_simp
                have bb : Below u1'.heap.size u1' (u1'.alloc (.cells #[.int .u8 0, .int .u32 0, .int .u16 0, .int .u32 0, .int .u16 0, .int .i64 0, .int .i64 0] 44)) := (Below.refl _ _).alloc (Nat.le_refl _) _
                have x0'' := x0'.trans (bb.mono x0'.size)
                have zz := RowB.none u1' 44
                refine hK.out _ _ ⟨hHeld.1.on bb, (bb.cell (p := ⟨g, i2, none⟩) (Nat.lt_of_lt_of_le GBL.out.2 x0'.size)).trans hHeld.2⟩ (fun hH1 => ?_)
                clear hK K_ hHeld
                have hHeld := hH1
                clear hH1
                try simp only [List.getElem_toArray, List.getElem_cons_succ, List.getElem_cons_zero, Act.put, List.setIfInBounds_toArray, List.set_cons_zero, List.set_cons_succ]
                have gb : wr.heap.size ≤ u1'.heap.size := x0'.size
                generalize u1'.alloc (.cells #[.int .u8 0, .int .u32 0, .int .u16 0, .int .u32 0, .int .u16 0, .int .i64 0, .int .i64 0] 44) = u1'' at x0'' zz hHeld ⊢
                generalize u1'.heap.size = be at zz gb ⊢
                clear bb
                refine wpAnyH_ready (rs := [15]) (by kernel_rfl) (by simp) ?_
                refine AllReadyH.cons (o := _) rfl (fun K_ hK => ?_) AllReadyH.nil
                have HZ2 := Lib.hid zz
                obtain ⟨_, z0, z1, z2, z3, z4, z5, z6, zf⟩ := id zz
                simp only [Ro.zero] at z0 z1 z2 z3 z4 z5 z6
                clear zz
                go_simp
                refine row_ (r := r) HZ2.out fun Y9 hY bY => ?_
                have xY := one_box x0'' bY gb x0''.size
                have gB : b ≠ be ∧ g ≠ be := ⟨by have := GBL.out.1; omega, by have := GBL.out.2; omega⟩
                refine hK.out _ _ ⟨hHeld.1.keep bY.size (bY.block b hHeld.1.lt gB.1), (bY.cell (p := ⟨g, i2, none⟩) (Nat.lt_of_lt_of_le GBL.out.2 x0''.size) gB.2).trans hHeld.2⟩ (fun hH1 => ?_)
                clear hK K_ hHeld
                have hHeld := hH1
                clear hH1
                try simp only [List.getElem_toArray, List.getElem_cons_succ, List.getElem_cons_zero, Act.put, List.setIfInBounds_toArray, List.set_cons_zero, List.set_cons_succ]
                refine wpAnyH_take (i := 16) (oi := _) (v := ?_) rfl (by kernel_rfl) (by kernel_rfl) (by kernel_rfl) (fun _ _ _ h => h) (Or.inl ⟨by kernel_rfl, ?_⟩) (by assumption) ?_
                rotate_left
                · intro w hSw
                  clear hSw
                  go_simp
                  with_reducible rfl
                try simp only [List.getElem_toArray, List.getElem_cons_succ, List.getElem_cons_zero, Act.put, List.setIfInBounds_toArray, List.set_cons_zero, List.set_cons_succ]
                refine wpAnyH_done (by kernel_rfl) (NoPanic.normal ?_) _
                clear z0 z1 z2 z3 z4 z5 z6 zf HZ2 hHeld bY gb gB
                have Q9 := Lib.hid (HQ.out.1.on xY)
                have RR := Lib.hid hY
                have AL : Hid (∀ j, j < i2 → ∃ r, Y.ofO y.pr y.oi (y.tried.getD j 0) = some r ∧ r.ii ≠ y.ii) := HQ.out.2
                clear HQ hY kow GBL
                obtain ⟨_, d0, d1, d2, d3, d4, d5, d6⟩ := id Q9.out.tt.wi
                by_cases hne : r.ii = y.ii
                · obtain ⟨hr, h1, h2, h3⟩ := HR2.out.resolve_left (fun h => h hne)
                  clear HR2 HR1
                  subst hr h1 h2 h3
                  obtain ⟨_, e0, e1, e2, e3, e4, e5, e6, _⟩ := id RR.out
                  dsimp only at e0 e1 e2 e3 e4 e5 e6
                  obtain ⟨_, f0, f1, _⟩ := id Q9.out.tt.out
                  clear RR hne
                  go_wp2_with (go_at_call 8; refine (let_ K _).mono ?_; rintro e w90 ⟨rfl, b90⟩)
                  go_ret
                  exact ⟨rfl, Q9.out.tt.al.below.trans (b90.mono Q9.out.tt.al.below.size)⟩
                · have hb : (r.ii == y.ii) = false := beq_eq_false_iff_ne.2 hne
                  have N9 : Hid (∀ j, j < i2 + 1 → ∃ r, Y.ofO y.pr y.oi (y.tried.getD j 0) = some r ∧ r.ii ≠ y.ii) := fun j hj => by
                    by_cases e : j = i2
                    · rw [e, HK.out]; exact ⟨r, HR1.out, hne⟩
                    · exact AL.out j (by omega)
                  obtain ⟨_, e0, e1, e2, e3, e4, e5, e6, _⟩ := id RR.out
                  clear RR AL HR1 HR2 hne
                  go_wp2
                  go_roundw
                  case rel => exact ⟨i2 + 1, HI2.out, by simp [EW2.out], Q9.out, N9.out⟩
                  case measure => first | exact step_meas16 EW2.out (step_less16 HI2.out) | (simp [EW2.out]; exact step_less16 HI2.out) | exact step_less16 HI2.out
              · go_simp
                have bb : Below u1.heap.size u1 (u1.alloc (.cells #[.int .u8 0, .int .u32 0, .int .u16 0, .int .u32 0, .int .u16 0, .int .i64 0, .int .i64 0] 44)) := (Below.refl _ _).alloc (Nat.le_refl _) _
                have x0' := x0.trans (bb.mono x0.size)
                have zz := RowB.none u1 44
                refine hK.out _ _ ⟨hHeld.1.on bb, (bb.cell (p := ⟨g, i2, none⟩) (Nat.lt_of_lt_of_le GBL.out.2 x0.size)).trans hHeld.2⟩ (fun hH1 => ?_)
                clear hK K_ hHeld
                have hHeld := hH1
                clear hH1
                try simp only [List.getElem_toArray, List.getElem_cons_succ, List.getElem_cons_zero, Act.put, List.setIfInBounds_toArray, List.set_cons_zero, List.set_cons_succ]
                have gb : wr.heap.size ≤ u1.heap.size := x0.size
                generalize u1.alloc (.cells #[.int .u8 0, .int .u32 0, .int .u16 0, .int .u32 0, .int .u16 0, .int .i64 0, .int .i64 0] 44) = u1' at x0' zz hHeld ⊢
                generalize u1.heap.size = be at zz gb ⊢
                clear bb
                refine wpAnyH_ready (rs := [10]) (by kernel_rfl) (by simp) ?_
                refine AllReadyH.cons (o := _) rfl (fun K_ hK => ?_) AllReadyH.nil
                go_simp
                refine (kow.out _ x0').mono ?_; rintro e u1'' ⟨rfl, bb⟩
                have x0'' := x0'.trans (bb.mono x0'.size)
                have zz9 := zz.on bb
                clear zz
                have zz := zz9
                clear zz9
                show K_ _ _
                refine hK.out _ _ ⟨hHeld.1.on bb, (bb.cell (p := ⟨g, i2, none⟩) (Nat.lt_of_lt_of_le GBL.out.2 x0'.size)).trans hHeld.2⟩ (fun hH1 => ?_)
                clear hK K_ hHeld
                have hHeld := hH1
                clear hH1
                try simp only [List.getElem_toArray, List.getElem_cons_succ, List.getElem_cons_zero, Act.put, List.setIfInBounds_toArray, List.set_cons_zero, List.set_cons_succ]
                clear bb
                refine wpAnyH_take (i := 11) (oi := _) (v := ?_) rfl (by kernel_rfl) (by kernel_rfl) (by kernel_rfl) (fun _ _ _ h => h) (Or.inl ⟨by kernel_rfl, ?_⟩) (by assumption) ?_
                rotate_left
                · intro w hSw
                  clear hSw
                  go_simp
                  with_reducible rfl
                try simp only [List.getElem_toArray, List.getElem_cons_succ, List.getElem_cons_zero, Act.put, List.setIfInBounds_toArray, List.set_cons_zero, List.set_cons_succ]
                refine wpAnyH_take (i := 12) (oi := _) (v := ?_) rfl (by kernel_rfl) (by kernel_rfl) (by kernel_rfl) (fun _ _ _ h => h) (Or.inl ⟨by kernel_rfl, ?_⟩) (by assumption) ?_
                rotate_left
                · intro w hSw
                  clear hSw
                  go_simp
                  with_reducible rfl
                try simp only [List.getElem_toArray, List.getElem_cons_succ, List.getElem_cons_zero, Act.put, List.setIfInBounds_toArray, List.set_cons_zero, List.set_cons_succ]
                refine wpAnyH_take (i := 13) (oi := _) (v := ?_) rfl (by kernel_rfl) (by kernel_rfl) (by kernel_rfl) (fun _ _ _ h => h) (Or.inl ⟨by kernel_rfl, ?_⟩) (by assumption) ?_
                rotate_left
                · intro w hSw
                  clear hSw
                  go_simp
                  with_reducible rfl
                try simp only [List.getElem_toArray, List.getElem_cons_succ, List.getElem_cons_zero, Act.put, List.setIfInBounds_toArray, List.set_cons_zero, List.set_cons_succ]
                refine wpAnyH_ready (rs := [15]) (by kernel_rfl) (by simp) ?_
                refine AllReadyH.cons (o := _) rfl (fun K_ hK => ?_) AllReadyH.nil
                have HZ2 := Lib.hid zz
                obtain ⟨_, z0, z1, z2, z3, z4, z5, z6, zf⟩ := id zz
                simp only [Ro.zero] at z0 z1 z2 z3 z4 z5 z6
                clear zz
                go_simp
                refine row_ (r := r) HZ2.out fun Y9 hY bY => ?_
                have xY := one_box x0'' bY gb x0''.size
                have gB : b ≠ be ∧ g ≠ be := ⟨by have := GBL.out.1; omega, by have := GBL.out.2; omega⟩
                refine hK.out _ _ ⟨hHeld.1.keep bY.size (bY.block b hHeld.1.lt gB.1), (bY.cell (p := ⟨g, i2, none⟩) (Nat.lt_of_lt_of_le GBL.out.2 x0''.size) gB.2).trans hHeld.2⟩ (fun hH1 => ?_)
                clear hK K_ hHeld
                have hHeld := hH1
                clear hH1
                try simp only [List.getElem_toArray, List.getElem_cons_succ, List.getElem_cons_zero, Act.put, List.setIfInBounds_toArray, List.set_cons_zero, List.set_cons_succ]
                refine wpAnyH_take (i := 16) (oi := _) (v := ?_) rfl (by kernel_rfl) (by kernel_rfl) (by kernel_rfl) (fun _ _ _ h => h) (Or.inl ⟨by kernel_rfl, ?_⟩) (by assumption) ?_
                rotate_left
                · intro w hSw
                  clear hSw
                  go_simp
                  with_reducible rfl
                try simp only [List.getElem_toArray, List.getElem_cons_succ, List.getElem_cons_zero, Act.put, List.setIfInBounds_toArray, List.set_cons_zero, List.set_cons_succ]
                refine wpAnyH_done (by kernel_rfl) (NoPanic.normal ?_) _
                clear z0 z1 z2 z3 z4 z5 z6 zf HZ2 hHeld bY gb gB
                have Q9 := Lib.hid (HQ.out.1.on xY)
                have RR := Lib.hid hY
                have AL : Hid (∀ j, j < i2 → ∃ r, Y.ofO y.pr y.oi (y.tried.getD j 0) = some r ∧ r.ii ≠ y.ii) := HQ.out.2
                clear HQ hY kow GBL
                obtain ⟨_, d0, d1, d2, d3, d4, d5, d6⟩ := id Q9.out.tt.wi
                by_cases hne : r.ii = y.ii
                · obtain ⟨hr, h1, h2, h3⟩ := HR2.out.resolve_left (fun h => h hne)
                  clear HR2 HR1
                  subst hr h1 h2 h3
                  obtain ⟨_, e0, e1, e2, e3, e4, e5, e6, _⟩ := id RR.out
                  dsimp only at e0 e1 e2 e3 e4 e5 e6
                  obtain ⟨_, f0, f1, _⟩ := id Q9.out.tt.out
                  clear RR hne
                  go_wp2_with (go_at_call 8; refine (let_ K _).mono ?_; rintro e w90 ⟨rfl, b90⟩)
                  go_ret
                  exact ⟨rfl, Q9.out.tt.al.below.trans (b90.mono Q9.out.tt.al.below.size)⟩
                · have hb : (r.ii == y.ii) = false := beq_eq_false_iff_ne.2 hne
                  have N9 : Hid (∀ j, j < i2 + 1 → ∃ r, Y.ofO y.pr y.oi (y.tried.getD j 0) = some r ∧ r.ii ≠ y.ii) := fun j hj => by
                    by_cases e : j = i2
                    · rw [e, HK.out]; exact ⟨r, HR1.out, hne⟩
                    · exact AL.out j (by omega)
                  obtain ⟨_, e0, e1, e2, e3, e4, e5, e6, _⟩ := id RR.out
                  clear RR AL HR1 HR2 hne
                  go_wp2
                  go_roundw
                  case rel => exact ⟨i2 + 1, HI2.out, by simp [EW2.out], Q9.out, N9.out⟩
                  case measure => first | exact step_meas16 EW2.out (step_less16 HI2.out) | (simp [EW2.out]; exact step_less16 HI2.out) | exact step_less16 HI2.out
            · obtain rfl : i2 = N := Nat.le_antisymm hi (Nat.le_of_not_lt hlt)
              have t1 : decide ((i2 : Int) < (i2 : Int)) = false := by simp
              obtain ⟨rfl, rfl, rfl⟩ := HTF.out.1.none_ (fun j hj => HQ.out.2 j (by rw [HN.out] at hj; exact hj))
              clear hlt hi
              obtain ⟨_, f0, f1, _⟩ := id HQ.out.1.tt.out
              go_wp2_with (go_at_call 8; refine (let_ K _).mono ?_; rintro e w90 ⟨rfl, b90⟩)
              go_ret
              exact ⟨rfl, HQ.out.1.tt.al.below.trans (b90.mono HQ.out.1.tt.al.below.size)⟩
theorem walk_ (K : PortsOk) (z0 z1 z2 z3 z4 z5 z6 : Int) (a : Option Addr) (len cap : Nat) (zs : List Int) (w : World) (w0 : (Lit.int .u8 z0).wf = true) (w1 : (Lit.int .u32 z1).wf = true) (w2 : (Lit.int .u16 z2).wf = true) (w3 : (Lit.int .u32 z3).wf = true) (w4 : (Lit.int .u16 z4).wf = true) (w5 : (Lit.int .u16 z5).wf = true) (w6 : (Lit.int .u16 z6).wf = true) (hr : IsRow .u16 w a len cap zs) :
    Calls Try.prog 4 #[.agg #[.int .u8 z0, .int .u32 z1, .int .u16 z2, .int .u32 z3, .int .u16 z4, .int .u16 z5, .int .u16 z6], .slice a len cap] w fun e w' => e = .returned (.bool true) ∧ Below w.heap.size w w' := by
  have k0 := bounds_u8 w0
  have k1 := bounds_u32 w1
  have k2 := bounds_u16 w2
  have k3 := bounds_u32 w3
  have k4 := bounds_u16 w4
  have k5 := bounds_u16 w5
  have k6 := bounds_u16 w6
  refine run_ K ⟨z0, z1, z2, z3, z4, z5, z6⟩ ⟨?_, ?_, ?_, ?_, ?_, ?_, ?_, ?_, ?_, ?_, ?_, ?_, ?_, ?_⟩ a len cap (zs.take len) w hr.row fun i hi => ?_
  all_goals first | (simp only []; omega) | skip
  have hl := hr.row.1
  have e : (zs.take len).getD i 0 = (zs.take len)[i]'(by rw [hl]; exact hi) := by rw [List.getD_eq_getElem?_getD, List.getElem?_eq_getElem (by rw [hl]; exact hi)]; rfl
  have h := bounds_u16 (hr.wf _ (List.getElem_mem (by rw [hl]; exact hi)))
  rw [e]
  omega
end PortsTried
end Go.Proofs.Ytbbadpidolfleaa
