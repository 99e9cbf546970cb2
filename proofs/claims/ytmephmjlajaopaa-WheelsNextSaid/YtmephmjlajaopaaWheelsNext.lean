/- WheelsNext (layer 15), over what is asked of the wheels. Written by gen_wheelsnext.py. -/
import Derived.Test.YtmephmjlajaopaaWf
namespace Go.Proofs.Ytmephmjlajaopaa.WheelsNext
set_option linter.unusedVariables false
set_option linter.unusedSimpArgs false
open Go.ChangeShapes Go.WideShapes Go.ChangeAt Go.RowKit Go.PlainAid
attribute [local go_sem ↓] Go.wp_at_zero Go.wp_at_succ
/-- How many places. -/
theorem places_ {z : Int} (h0 : 0 ≤ z) (h1 : z ≤ 255) : ∃ N : Nat, 1 ≤ N ∧ N ≤ 64 ∧ IntKind.i64.wrap z = z ∧ wrap64 (1 + z.tmod 64) = (N : Int) ∧ IntKind.i64.wrap (1 + z.tmod 64) = (N : Int) ∧ wrap64 (1 + z % 64) = (N : Int) ∧ IntKind.i64.wrap (1 + z % 64) = (N : Int) := by
  obtain ⟨m, rfl⟩ := Int.eq_ofNat_of_zero_le h0
  have e : (m : Int).tmod 64 = (m : Int) % 64 := Int.tmod_eq_emod_of_nonneg h0
  refine ⟨1 + m % 64, by omega, by omega, IntWalk.i64_in _ (by omega), ?_, ?_, ?_, ?_⟩
  · rw [e, IntWalk.wrap64_in _ (by omega)]; omega
  · rw [e, IntWalk.i64_in _ (by omega)]; omega
  · rw [IntWalk.wrap64_in _ (by omega)]; omega
  · rw [IntWalk.i64_in _ (by omega)]; omega
theorem getD_mem15 {L : List (Int × Int)} {i : Nat} (h : i < L.length) : L.getD i (0, 0) ∈ L := by
  rw [List.getD_eq_getElem?_getD, List.getElem?_eq_getElem h]
  exact List.getElem_mem h
theorem st_at15 {L : List (Int × Int)} (h : L.Pairwise fun a b => a.1 < b.1) {j : Nat} (hj : j + 1 < L.length) : (L.getD j (0, 0)).1 < (L.getD (j + 1) (0, 0)).1 := by
  have := List.pairwise_iff_getElem.1 h j (j + 1) (by omega) hj (by omega)
  rw [List.getD_eq_getElem?_getD, List.getElem?_eq_getElem (by omega), List.getD_eq_getElem?_getD, List.getElem?_eq_getElem hj]
  exact this
theorem sub_15 {j : Nat} (h : j < 4611686018427387904) : wrap64 (((j + 1 : Nat) : Int) - 1) = (j : Int) ∧ IntKind.i64.wrap (((j + 1 : Nat) : Int) - 1) = (j : Int) :=
  ⟨(IntWalk.wrap64_in _ (by omega)).trans (by omega), (IntWalk.i64_in _ (by omega)).trans (by omega)⟩
theorem minus_15 {a b c : Nat} (h : b + c = a) (ha : a ≤ 1000) : wrap64 ((a : Int) - (b : Int)) = (c : Int) ∧ IntKind.i64.wrap ((a : Int) - (b : Int)) = (c : Int) :=
  ⟨(IntWalk.wrap64_in _ (by omega)).trans (by omega), (IntWalk.i64_in _ (by omega)).trans (by omega)⟩
theorem due_facts {z : Int} (h0 : 0 ≤ z) (h1 : z ≤ 4294967295) : IntKind.i64.wrap z = z := IntWalk.i64_in _ (by omega)
set_option maxHeartbeats 1500000 in
set_option maxRecDepth 100000 in
theorem walkN (K : WheelsOk) (f : Int) (a : Option Addr) (len cap : Nat) (zs : List Int) (w : World) (hf : (Lit.int .u8 f).wf = true) (ROW0 : Row .u32 w a len zs) (WF0 : ∀ z ∈ zs, 0 ≤ z ∧ z ≤ 4294967295) :
    Calls Try.prog 6 #[.int .u8 f, .slice a len cap] w fun e w' => e = .returned (.bool true) ∧ Below w.heap.size w w' := by
  obtain ⟨n0, n1⟩ := bounds_u8 hf
  obtain ⟨N, N1, N2, y1, y2, y3, y4, y5⟩ := places_ n0 n1
  have ROW := Lib.hid ROW0
  have WF := Lib.hid WF0
  have ZL : Hid (zs.length = len) := ROW0.1
  clear ROW0 WF0 hf
  by_cases h1 : 100 < len
  · have e1 : decide ((100 : Int) < len) = true := by simp; omega
    have e2 : decide (100 < len) = true := by simpa using h1
    go_enter Try.func6, Try.ntmps6
    go_wp2_with fail
    refine (K.news N w N1 N2).mono ?_; rintro e w1 ⟨q, S1, rfl, b1, hS, R1⟩
    go_wp2_with fail
    refine (timed_ K _).mono ?_; rintro e w2 ⟨rfl, b2⟩
    go_wp2
    go_ret
    exact ⟨rfl, b1.trans (b2.mono b1.size)⟩
  have e1 : decide ((100 : Int) < len) = false := by simp; omega
  have e2 : decide (100 < len) = false := by simpa using h1
  have H100 := Lib.hid (Nat.le_of_not_lt h1)
  go_enter Try.func6, Try.ntmps6
  go_wp2_with fail
  refine (K.news N w N1 N2).mono ?_; rintro e w1 ⟨q, S1, rfl, b1, hS, R1⟩
  have P0 : Alone K.toObjP w w1 S1 q Wh.new := ⟨R1, hS, b1⟩
  clear R1 b1 hS n0 n1 y1 y2 y3 y4 y5 h1
  go_upto_region 5 with fail
  clear e1 e2
  go_loopw [7] (fun si wr => ∃ (i : Nat) (x : Wh) (S : Nat → Prop), i ≤ len ∧ si = .int .i64 (i : Int) ∧ x.last = 0 ∧ x.l.length = i ∧ Hid (∀ t ∈ x.l, t.s < (i : Int)) ∧ Hid (Nx x zs) ∧ Alone K.toObjP w wr S q x) (fun si _ => len - (intOf si).toNat)
  case atStart => exact ⟨0, _, _, Nat.zero_le _, rfl, rfl, rfl, (fun t h => absurd h List.not_mem_nil), Nx.new zs, P0⟩
  case round =>
    obtain ⟨i, x, S, hi, rfl, hla, hxl, hsl, HN, P1⟩ := hrel
    clear P0
    have EW := Lib.hid (step_15 (j := i) (Nat.lt_of_le_of_lt (Nat.le_trans hi H100.out) (by decide)))
    by_cases hlt : i < len
    · have HL := Lib.hid hlt
      obtain ⟨t1, k1, k0⟩ := ix15 hlt
      have hiz : i < zs.length := by rw [ZL.out]; exact hlt
      obtain ⟨w0, w1_⟩ := WF.out (zs.getD i 0) (by rw [List.getD_eq_getElem?_getD, List.getElem?_eq_getElem hiz]; exact List.getElem_mem hiz)
      obtain ⟨p1, p2, p3, p4, p5⟩ := HN.out.put hla hsl.out hiz w0 w1_
      have c1 := due_facts w0 w1_
      obtain ⟨db, dof, rfl, hdb, hdc⟩ := ROW.out.2.resolve_left (fun e => by omega)
      have y0 := (P1.below.cell (p := ⟨db, dof + i, none⟩) hdb).trans (hdc i hlt)
      have kp := K.puts q S x (i : Int) 0 (zs.getD i 0) wr P1.rep (by rw [hxl]; exact Nat.le_trans hi (Nat.le_trans H100.out (by decide))) ⟨by have := H100.out; omega, by have := H100.out; omega, by decide, by decide⟩
      rw [p1] at kp
      have HP := Lib.hid (And.intro p2 (And.intro p3 (And.intro (p4.trans (by rw [hxl])) p5)))
      generalize zs.getD i 0 = z at y0 kp HP c1 w0 w1_
      clear p1 p2 p3 p4 p5 hdc hdb hlt hi hla hxl hiz
      generalize x.putT (i : Int) 0 z = x2 at kp HP
      go_wp2_with fail
      refine Calls.mono (R := fun e w' => e = .returned (.int .i64 0) ∧ ∃ S', K.Rep w' S' q x2 ∧ Fresh wr S S' ∧ Beside S wr w') kp ?_; rintro e w6 ⟨rfl, S6, R6, f6, x6⟩
      have PE := Lib.hid (P1.one R6 f6 x6)
      clear P1 R6 f6 x6 kp y0
      go_wp2
      go_roundw
      case rel => exact ⟨i + 1, x2, S6, HL.out, by simp [EW.out], HP.out.2.1, HP.out.2.2.1, HP.out.2.2.2, HP.out.1, PE.out⟩
      case measure => first | exact step_meas15 EW.out (step_less15 HL.out) | (simp [EW.out]; exact step_less15 HL.out) | exact step_less15 HL.out
    · obtain rfl : len = i := Nat.le_antisymm (Nat.le_of_not_lt hlt) hi
      have t1 : decide ((len : Int) < (len : Int)) = false := by simp
      clear hlt hi hsl hla
      go_upto_region 10 with fail
      have LX : Hid (x.l.length ≤ len) := Nat.le_of_eq hxl
      have HXL := Lib.hid hxl
      clear hxl
      go_loopw [8] (fun sl wr => ∃ (x : Wh) (S : Nat → Prop), sl = .int .i64 (x.l.length : Int) ∧ Hid (x.l.length ≤ len) ∧ Hid (Nx x zs) ∧ Alone K.toObjP w wr S q x) (fun sl _ => (intOf sl).toNat)
      case atStart => exact ⟨x, S, by rw [HXL.out], LX, HN, P1⟩
      case round =>
        clear P1 HN LX t1 EW HXL
        obtain ⟨x, S, rfl, LX, HN, P1⟩ := hrel
        have sm : Hid (x.l.length ≤ 1000) := Nat.le_trans LX.out (Nat.le_trans H100.out (by decide))
        by_cases hp : 0 < x.l.length
        · have t1 : decide ((0 : Int) < (x.l.length : Int)) = true := by simpa using hp
          have t2 : decide (0 < x.l.length) = true := by simpa using hp
          obtain ⟨f1, f2, f3⟩ := HN.out.first hp
          have f4 := HN.out.next_le hp WF.out
          obtain ⟨n, hn⟩ : ∃ n_, n_ = x.nextN := ⟨_, rfl⟩
          have kn := K.nexts q S x wr P1.rep sm.out
          rw [f1, ← hn] at kn
          rw [← hn] at f4
          have e1 : decide ((n : Int) < 0) = false := by simp
          have e2 : decide ((4294967296 : Int) < (n : Int)) = false := decide_eq_false (by omega)
          have e3 : decide (4294967296 < n) = false := decide_eq_false (by omega)
          have WN : Hid (IntKind.i64.wrap (n : Int) = (n : Int)) := due_facts (by omega) (by omega)
          have HNE := Lib.hid hn
          have HP := Lib.hid hp
          have F4 := Lib.hid f4
          clear f1 f2 f3 f4 hp hn
          go_wp2_with fail
          refine kn.mono ?_; rintro e w6 ⟨rfl, x6⟩
          have P6 := P1.on x6
          clear P1 x6 kn t1 t2
          go_upto_if 82 with fail
          go_cut [9] (fun s9 wx => ∃ (w8 : World) (x1 : Wh) (S1 : Nat → Prop), w8 = wx ∧ s9 = .int .i64 (n : Int) ∧ x1.l = x.l ∧ Hid (Nx x1 zs) ∧ x1.nextN = n ∧ Alone K.toObjP w wx S1 q x1)
          case first =>
            by_cases h0 : 0 < n
            · have t1 : decide ((0 : Int) < (n : Int)) = true := by simpa using h0
              have t2 : decide (0 < n) = true := by simpa using h0
              obtain ⟨a1, a2, a3, a4, a5⟩ := HN.out.ahead HP.out (by rw [← HNE.out]; exact h0)
              rw [← HNE.out] at a1 a2 a3 a4 a5
              have s1 : wrap64 ((n : Int) - 1) = (n : Int) - 1 := IntWalk.wrap64_in _ (by have := F4.out; omega)
              have s2 : IntKind.i64.wrap ((n : Int) - 1) = (n : Int) - 1 := IntWalk.i64_in _ (by have := F4.out; omega)
              obtain ⟨m, hm⟩ : ∃ m_, m_ = (n : Int) - 1 := ⟨_, rfl⟩
              have s3 : wrap64 ((n : Int) - 1) = m := s1.trans hm.symm
              have s4 : IntKind.i64.wrap ((n : Int) - 1) = m := s2.trans hm.symm
              rw [← hm] at a1 a2 a3 a4 a5
              clear s1 s2 hm
              have kt := K.turns q S x m w6 P6.rep sm.out
              rw [a1, a2] at kt
              have HA := Lib.hid (And.intro a3 (And.intro a4 a5))
              clear a1 a2 a3 a4 a5
              generalize x.turnT m = x1 at kt HA
              go_wp2_with fail
              refine kt.mono ?_; rintro e w7 ⟨a7, c7, S7, rfl, R7, f7, x7, _, _⟩
              have PE := Lib.hid (P6.one R7 f7 x7)
              clear P6 R7 f7 x7 kt s3 s4 t1 t2 e1 e2 e3
              go_wp2
              go_meet
              exact ⟨_, x1, S7, rfl, rfl, HA.out.1, HA.out.2.1, HA.out.2.2, PE.out⟩
            · have t1 : decide ((0 : Int) < (n : Int)) = false := by simp; omega
              have t2 : decide (0 < n) = false := by simp; omega
              go_wp2
              go_meet
              exact ⟨_, x, S, rfl, rfl, rfl, HN, HNE.out.symm, P6⟩
          case rest =>
            clear P6 e1 e2 e3
            obtain ⟨w8, x1, S1, rfl, rfl, hx1, HN1, hn1, P8⟩ := hcut
            have hp1 : 0 < x1.l.length := by rw [hx1]; exact HP.out
            obtain ⟨b1, b2, b3, b4, b5⟩ := HN1.out.turn hp1
            rw [hn1] at b1 b2 b3 b4 b5
            rw [hx1] at b3
            have kt := K.turns q S1 x1 (n : Int) w8 P8.rep (by rw [hx1]; exact sm.out)
            rw [b1] at kt
            obtain ⟨L, hL⟩ : ∃ L_, L_ = (x1.turnL (n : Int)).map fun t => (t.s, t.g) := ⟨_, rfl⟩
            obtain ⟨nL, hnL⟩ : ∃ n_, n_ = (x1.turnL (n : Int)).length := ⟨_, rfl⟩
            have HLEN : Hid (L.length = nL) := by show _ = _; rw [hL, hnL, List.length_map]
            have hL2 : (x1.turnL (n : Int)).map Ti.h = L := by rw [hL]; rfl
            rw [hL2, ← hnL] at kt
            rw [← hL] at b5
            rw [← hnL] at b2 b3
            have TT := Lib.hid b5
            have N9 := Lib.hid b4
            generalize hx9 : x1.turnT (n : Int) = x9 at kt b3 b4 N9
            have NL : Hid (nL ≤ 1000) := by show nL ≤ 1000; have := sm.out; omega
            have L9 : Hid (x9.l.length ≤ len) := by show _ ≤ _; have := LX.out; omega
            have SUB := Lib.hid (minus_15 b3 sm.out).1
            have LT : Hid (x9.l.length < x.l.length) := by show _ < _; omega
            have t1 : ((nL : Int) == 0) = false := beq_false_of_ne (by omega)
            have t2 : (nL == 0) = false := beq_false_of_ne (by omega)
            have t3 : decide ((x.l.length : Int) < (nL : Int)) = false := decide_eq_false (by omega)
            have t4 : decide (x.l.length < nL) = false := decide_eq_false (by omega)
            clear b1 b2 b3 b4 b5 hL hnL hL2 hx9 hx1 hn1 hp1
            go_wp2_with fail
            refine kt.mono ?_; rintro e w9 ⟨a9, c9, S9, rfl, R9, f9, x9_, sl9, _⟩
            have P9 := P8.one R9 f9 x9_
            have SL := Lib.hid sl9
            have B9 := Lib.hid P9.below
            clear P8 R9 f9 x9_ kt sl9
            go_upto_region 22 with fail
            go_loopw [15] (fun si wr => ∃ i : Nat, i ≤ nL ∧ si = .int .i64 (i : Int) ∧ Below w9.heap.size w9 wr) (fun si _ => nL - (intOf si).toNat)
            case atStart => exact ⟨0, Nat.zero_le _, rfl, Below.refl _ _⟩
            case round =>
              obtain ⟨i, hi, rfl, bb⟩ := hrel
              have EI := Lib.hid (step_15 (j := i) (Nat.lt_of_le_of_lt (Nat.le_trans hi NL.out) (by decide)))
              by_cases hlt : i < nL
              · have HI := Lib.hid hlt
                obtain ⟨t1, k1, k0⟩ := ix15 hlt
                have hlt2 : i < L.length := by rw [HLEN.out]; exact hlt
                obtain ⟨rb, ro, rfl, hrb, x0, _⟩ := handle_at (SL.out.on bb).row hlt2
                obtain ⟨f1, f2, f3⟩ := TT.out.at_ _ (getD_mem15 hlt2)
                obtain ⟨k, hk⟩ := Int.eq_ofNat_of_zero_le f1
                rw [hk] at x0 f2 f3
                have hkl : k < len := by have := ZL.out; omega
                obtain ⟨db, dof, rfl, hdb, hdc⟩ := ROW.out.2.resolve_left (fun e => by omega)
                have y0 := ((B9.out.trans (bb.mono B9.out.size)).cell (p := ⟨db, dof + k, none⟩) hdb).trans (hdc k hkl)
                rw [Int.toNat_natCast] at f3
                rw [f3] at y0
                have hdb2 := Nat.lt_of_lt_of_le hdb (B9.out.trans (bb.mono B9.out.size)).size
                have X0 : ∀ u : Later wr.heap.size wr, u.u.cell? ⟨rb, ro + i * 2, none⟩ = some (.int .i64 (k : Int)) := fun u => u.block hrb x0
                have Y0 : ∀ u : Later wr.heap.size wr, u.u.cell? ⟨db, dof + k, none⟩ = some (.int .u32 (n : Int)) := fun u => u.block hdb2 y0
                obtain ⟨m1, m2, m3⟩ := ix15 hkl
                have m4 : decide ((k : Int) < 0) = false := by simp
                have m5 : decide ((len : Int) ≤ (k : Int)) = false := by simp; omega
                have m6 : decide (len ≤ k) = false := by simp; omega
                have m7 := WN.out
                have HK := Lib.hid hk
                go_upto_region 24 with fail
                by_cases h0 : i = 0
                · subst h0
                  have X0' : ∀ u : Later wr.heap.size wr, u.u.cell? ⟨rb, ro, none⟩ = some (.int .i64 (k : Int)) := fun u => by have h := X0 u; rw [Nat.zero_mul, Nat.add_zero] at h; exact h
                  clear X0
                  have X0 := X0'
                  clear X0'
                  clear hlt hi x0 y0 f1 f2 f3 hk hkl hdc hrb hdb hdb2 hlt2
                  refine region_later (B := wr.heap.size) (by kernel_rfl) (by kernel_rfl) ?_
                  repeat (go_big_quiet_step (fail))
                  refine later_end fun w11 x11 => ?_
                  have BN := bb.trans (x11.mono bb.size)
                  clear X0 Y0 bb x11
                  go_wp2
                  go_roundw
                  case rel => exact ⟨0 + 1, HI.out, by simp [EI.out], BN⟩
                  case measure => first | exact step_meas15 EI.out (step_less15 HI.out) | (simp [EI.out]; exact step_less15 HI.out) | exact step_less15 HI.out
                · obtain ⟨j, hij⟩ : ∃ j, i = j + 1 := ⟨i - 1, by omega⟩
                  have hj : j < L.length := by omega
                  obtain ⟨rb', ro', er, _, z0, _⟩ := handle_at (SL.out.on bb).row hj
                  injection er with er; injection er with er1 er2 er3
                  subst er1 er2
                  obtain ⟨g1, _, _⟩ := TT.out.at_ _ (getD_mem15 hj)
                  obtain ⟨kj, hkj⟩ := Int.eq_ofNat_of_zero_le g1
                  have hlt3 := st_at15 TT.out.st (j := j) (by omega)
                  rw [← hij, hkj, hk] at hlt3
                  rw [hkj] at z0
                  have Z0 : ∀ u : Later wr.heap.size wr, u.u.cell? ⟨rb, ro + j * 2, none⟩ = some (.int .i64 (kj : Int)) := fun u => u.block hrb z0
                  have e1 : decide ((0 : Int) < (i : Int)) = true := decide_eq_true (by omega)
                  have e2 : decide (0 < i) = true := decide_eq_true (by omega)
                  obtain ⟨e3, e4⟩ := sub_15 (j := j) (Nat.lt_of_lt_of_le (by omega) (Nat.le_trans NL.out (by decide)))
                  rw [← hij] at e3 e4
                  have e5 : decide ((k : Int) ≤ (kj : Int)) = false := decide_eq_false (by omega)
                  have e6 : decide (k ≤ kj) = false := decide_eq_false (by omega)
                  obtain ⟨e7, e8, e9⟩ := ix15 (show j < nL by omega)
                  clear hlt hi x0 y0 z0 f1 f2 f3 g1 hk hkj hkl hdc hrb hdb hdb2 hlt2 hlt3 hj h0 hij
                  refine region_later (B := wr.heap.size) (by kernel_rfl) (by kernel_rfl) ?_
                  repeat (go_big_quiet_step (fail))
                  refine later_end fun w11 x11 => ?_
                  have BN := bb.trans (x11.mono bb.size)
                  clear X0 Y0 Z0 bb x11 e3 e4
                  go_wp2
                  go_roundw
                  case rel => exact ⟨i + 1, HI.out, by simp [EI.out], BN⟩
                  case measure => first | exact step_meas15 EI.out (step_less15 HI.out) | (simp [EI.out]; exact step_less15 HI.out) | exact step_less15 HI.out
              · obtain rfl : i = nL := Nat.le_antisymm hi (Nat.le_of_not_lt hlt)
                have t1 : decide ((i : Int) < (i : Int)) = false := by simp
                have PE := Lib.hid (P9.on bb)
                have s1 := SUB.out
                clear hlt hi bb P9
                go_wp2
                go_roundw
                case rel => exact ⟨_, S9, by simp [s1], L9.out, N9.out, PE.out⟩
                case measure => first | (simp [s1]; exact LT.out) | exact LT.out | (show (intOf (.int .i64 (wrap64 _))).toNat < _; rw [s1]; exact LT.out)
        · have e0 : x.l.length = 0 := by omega
          have t1 : decide ((0 : Int) < (x.l.length : Int)) = false := decide_eq_false (by omega)
          have t2 : decide (0 < x.l.length) = false := decide_eq_false (by omega)
          obtain ⟨f1, f2⟩ := Nx.none_ x e0
          have kn := fun u (R : K.Rep u S q x) => K.nexts q S x u R sm.out
          simp only [f1, f2] at kn
          have kc := fun u (R : K.Rep u S q x) => K.counts q S x u R sm.out
          simp only [e0] at kc
          clear hp f1 f2
          go_wp2_with fail
          refine (kn _ P1.rep).mono ?_; rintro e w6 ⟨rfl, x6⟩
          have P6 := P1.on x6
          clear P1 x6 kn
          go_wp2_with fail
          refine (kc _ P6.rep).mono ?_; rintro e w7 ⟨rfl, x7⟩
          have B7 := (P6.on x7).below
          clear P6 x7 kc
          go_wp2_with fail
          refine (timed_ K _).mono ?_; rintro e w8 ⟨rfl, x8⟩
          have B8 := B7.trans (x8.mono B7.size)
          clear B7 x8
          go_wp2
          go_ret
          exact ⟨rfl, B8⟩
theorem walk_ (K : WheelsOk) (f : Int) (a : Option Addr) (len cap : Nat) (zs : List Int) (w : World) (hf : (Lit.int .u8 f).wf = true) (hr : IsRow .u32 w a len cap zs) :
    Calls Try.prog 6 #[.int .u8 f, .slice a len cap] w fun e w' => e = .returned (.bool true) ∧ Below w.heap.size w w' :=
  walkN K f a len cap (zs.take len) w hf hr.row (fun x hx => bounds_u32 (hr.wf x hx))
end Go.Proofs.Ytmephmjlajaopaa.WheelsNext
